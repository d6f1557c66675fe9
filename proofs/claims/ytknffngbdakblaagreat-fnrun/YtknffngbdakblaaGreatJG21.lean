/- The frame of a law over drawn bytes: they are a slice of bytes in memory; laws.big counts them. No condition. A source that goes on from step to step: what stays between two steps. No condition. Fair of the specification. Conditions: program and source fit. -/
import Derived.Test.YtknffngbdakblaaGreatJG00
import Derived.Test.YtknffngbdakblaaGreatRows
import Derived.Test.YtknffngbdakblaaGreatJG01
import Derived.ProofKit
import Derived.OpenShut
import Derived.ShutString
import Derived.ChangeOld
import Derived.ChangeSlices
import Derived.Test.YtknffngbdakblaaGreatJG11
import Derived.Test.YtknffngbdakblaaGreatJG15
import Derived.Test.YtknffngbdakblaaGreatJG08
import Derived.Test.YtknffngbdakblaaGreatJG12
import Derived.Test.YtknffngbdakblaaGreatJG16
import Derived.Test.YtknffngbdakblaaGreatJG07
import Derived.Test.YtknffngbdakblaaGreatJG06
import Derived.Test.YtknffngbdakblaaGreatJSrcDup
namespace Go.Proofs.YtknffngbdakblaaGreat
section
set_option linter.unusedSimpArgs false
set_option linter.unusedVariables false
set_option maxRecDepth 100000
open Go.ChangeShapes Go.WideShapes Go.ChangeAt Go.RowKit
theorem retB {x y:Bool} (h:x=y):Ending.returned (.bool x)=Ending.returned (.bool y):=by rw [h]
theorem big_any (s:Option Addr) (n c:Nat) (w:World):Calls Tryz.prog 5 #[.slice s n c] w fun e w'=>e=.returned (.bool (decide (1048576 < n)))∧w'=w:=by
 go_enter Tryz.func5,Tryz.ntmps5
 go_wp2
 go_ret
 refine ⟨retB ?_,rfl⟩
 rw [Bool.eq_iff_iff]
 simp
 omega
theorem ownS:ownKnob Tryz.prog.godebug=none:=by kernel_rfl
theorem laidOutS:laidOutB Tryz.prog=true:=by kernel_rfl
theorem bytes_read {H : Type} {enc : TypeId × Value → H} {w : World} {base b0 : Nat} {held : Bool} {k : Reach} {v : Value} {d : DataW H} {p : List MemPlace}
  (hv:Value.okWide Tryz.prog w k b0 22 v) (h:DataW.Trod enc Tryz.prog w base (fun _=>true) held 22 v d p):
  ∃ (s:Option Addr) (n c:Nat),v=.slice s n c∧n≤maxLen∧Bytes w w.heap.size s n:=by
 obtain ⟨s,len,cap,rfl⟩:=okWide_slice Tryz.underlying22 hv
 obtain ⟨fuel,hf⟩:=h
 rcases open_ints Tryz.underlying22 Tryz.underlying5 (by kernel_rfl) hf with ⟨hcs,_⟩ | ⟨a,l,c,zs,hcs,_,hl,hm,hz,_,hcell,hwz⟩
 ·simp [Value.cells] at hcs
  obtain ⟨rfl,rfl,rfl⟩:=hcs
  exact ⟨none,0,0,rfl,Nat.zero_le _,.inl rfl⟩
 ·simp [Value.cells] at hcs
  obtain ⟨rfl,rfl,rfl⟩:=hcs
  simp at hz
  refine ⟨some a,len,cap,rfl,by omega,?_⟩
  by_cases h0:len=0
  ·exact .inl h0
  ·have c0:=hcell 0 (by omega)
   have c0':w.cell? a=some (.int .u8 (zs.getD 0 0)):=by simpa [Addr.add] using c0
   have hs:=World.cell?_spot c0'
   have hg:a.block < w.heap.size:=by
    apply Classical.byContradiction
    intro hn
    have:w.heap[a.block]? =none:=by simp;omega
    simp [World.cell?,this] at c0'
   obtain ⟨g,off,spot⟩:=a
   simp at hs
   subst hs
   refine .inr ⟨g,off,rfl,hg,fun i hi=>?_⟩
   have ci:=hcell i (by omega)
   have e:(Addr.add ⟨g,off,none⟩ i)=⟨g,off+i,none⟩:=by
    by_cases h:i=0
    ·subst h;rfl
    ·simp [Addr.add,h]
   rw [e] at ci
   have hmem:zs.getD i 0∈zs:=by
    rw [List.getD_eq_getElem?_getD,List.getElem?_eq_getElem (by omega)]
    exact List.getElem_mem (by omega)
   have hw:=bounds_u8 (hwz _ hmem)
   exact ⟨_,ci,by omega,by omega⟩
theorem Bytes.up {w w':World} {s:Option Addr} {n:Nat} (h:Bytes w w.heap.size s n) (hb:Below w.heap.size w w'):Bytes w' w'.heap.size s n:=by
 have hz:=hb.size
 rcases h with h | ⟨g,o,hs,hg,hc⟩
 ·exact .inl h
 ·refine .inr ⟨g,o,hs,by omega,fun k hk=>?_⟩
  obtain ⟨b,h1,h2⟩:=hc k hk
  exact ⟨b,(hb.cell (p:=⟨g,o+k,none⟩) hg).trans h1,h2⟩
end
section
set_option linter.unusedSimpArgs false
set_option linter.unusedVariables false
set_option maxRecDepth 100000
open Go.RowKit
structure RunI (w V:World) (base S:Nat) (p0 p1 q1 q2 q3:Value) (D:SD):Prop where
 b:Br V w.heap.size p0 p1 q1 q2 q3
 k:Below w.heap.size w V
 o:∃ v1 v2 v3 L1 L2,OwnS V base v1 v2 v3 L1 L2 D∧BoF S V v1 v2 v3∧BxS V S
 m:base≤V.heap.size
theorem RunI.turn {w V V':World} {base S:Nat} {p0 p1 q1 q2 q3 v1 v2 v3:Value} {L1 L2:List (Rec×Value)} {D D':SD} {s4:Option Addr} {n4 c4:Nat} {M1 M2:List (Rec×Value)} (h:RunI w V base S p0 p1 q1 q2 q3 D) (hz:w.heap.size+1+1 < base) (t:TurnQ V V' S base v1 v2 v3 L1 L2 D' s4 n4 c4 M1 M2):RunI w V' base S p0 p1 q1 q2 q3 D':=
 ⟨h.b.below t.b hz,h.k.trans (t.b.mono (by omega)),⟨_,_,_,M1,M2,t.o,t.s,t.bs⟩,Nat.le_trans h.m t.b.size⟩
/- a new world in which nothing has turned -/
theorem RunI.keep {w V V':World} {base S:Nat} {p0 p1 q1 q2 q3:Value} {D:SD} (h:RunI w V base S p0 p1 q1 q2 q3 D) (hb:Below V.heap.size V V'):RunI w V' base S p0 p1 q1 q2 q3 D:=by
 obtain ⟨v1,v2,v3,L1,L2,o,s,bs⟩:=h.o
 exact ⟨h.b.below hb h.b.zz,h.k.trans (hb.mono h.k.size),⟨v1,v2,v3,L1,L2,o.keep (fun q _ hq=>hb.block q hq),s.below hb s.z,bs.same (hb.block _ s.z)⟩,Nat.le_trans h.m hb.size⟩
/- another source put into the box -/
theorem RunI.put {w V:World} {base S:Nat} {p0 p1 q1 q2 q3 v1 v2 v3:Value} {L1 L2:List (Rec×Value)} {D D':SD} (h:RunI w V base S p0 p1 q1 q2 q3 D) (hz:w.heap.size+1+1 < base) (hS:base≤S) (o:OwnS V base v1 v2 v3 L1 L2 D'):RunI w (((V.setCell ⟨S,0,none⟩ v1).setCell ⟨S,1,none⟩ v2).setCell ⟨S,2,none⟩ v3) base S p0 p1 q1 q2 q3 D':=by
 obtain ⟨u1,u2,u3,M1,M2,-,s,bs⟩:=h.o
 have kk:Below base V (((V.setCell ⟨S,0,none⟩ v1).setCell ⟨S,1,none⟩ v2).setCell ⟨S,2,none⟩ v3):=by
  refine Below.setCell (Below.setCell (Below.setCell (Below.refl _ _) ?_ _) ?_ _) ?_ _<;>exact hS
 exact ⟨h.b.below kk hz,h.k.trans (kk.mono (by omega)),⟨v1,v2,v3,L1,L2,((o.offB bs).offB bs.set).offB bs.set.set,((s.set0 _).set1 _).set2 _,bs.set.set.set⟩,Nat.le_trans h.m kk.size⟩
theorem l1Min_is (a:Int) (w:World):Calls Tryz.prog 32 #[.int .i64 a,.int .i64 200] w fun e w'=>e=.returned (.int .i64 (min a 200))∧w'=w:=by
 by_cases h:a < 200
 ·have e:min a 200=a:=by omega
  rw [e]
  go_enter Tryz.func32,Tryz.ntmps32
  go_wp2
  go_ret
  exact ⟨rfl,rfl⟩
 ·have e:min a 200=200:=by omega
  rw [e]
  go_enter Tryz.func32,Tryz.ntmps32
  go_wp2
  go_ret
  exact ⟨rfl,rfl⟩
end
section
set_option linter.unusedSimpArgs false
set_option linter.unusedVariables false
set_option maxRecDepth 100000
open Go.RowKit
set_option maxHeartbeats 2000000 in
theorem specFair_bad (p1 p2 s1 s2 s3 : Option Addr) (a1 a2 c1 c2 c3 lo hi lo' hi' : Nat) (p : PD) (d : SD) (rr : Int) (w : World) (h : ProgR w lo hi p1 p2 p) (h' : SrcR w lo' hi' s1 s2 s3 d) (hB : hi ≤ w.heap.size) (hB' : hi' ≤ w.heap.size) (hf : Fits p) (hf' : SFits d) (hy : srcB p d = false) :
  Calls Tryz.prog 12 #[.agg #[.slice p1 p.caps.length a1,.slice p2 p.bods.length a2],.agg #[.slice s1 d.ths.length c1,.slice s2 d.chs.length c2,.slice s3 d.tr.length c3],.int .i64 rr] w (SStepQ w 0 ⟨[],[],[]⟩):=by
 have HY:=hidW hy
 clear hy
 obtain ⟨W,hW⟩:∃ W,((w.alloc (.cells #[.slice p1 p.caps.length a1,.slice p2 p.bods.length a2] 27)).alloc (.cells #[.slice s1 d.ths.length c1,.slice s2 d.chs.length c2,.slice s3 d.tr.length c3] 32)).alloc (.cells #[.slice none 0 0,.slice none 0 0,.slice none 0 0] 32)=W:=⟨_,rfl⟩
 obtain ⟨bc,kW⟩:=br_new hW
 have HW:=hidW hW
 have H:=hidW h
 have H':=hidW h'
 have HF:=hidW hf
 have HF':=hidW hf'
 have BC0:=hidW bc
 have KW:=hidW kW
 have zW:=kW.size
 obtain ⟨m0,m1,⟨v0,v1,v2,fs,zs⟩,⟨r0,r1,r2,fa,za⟩,ba,zz⟩:=bc
 clear hW kW h h' hf hf'
 go_enter Tryz.func12,Tryz.ntmps12
 go_wp2_with fail
 rw [HW.out]
 refine (specSource_any p1 p2 s1 s2 s3 a1 a2 c1 c2 c3 lo hi lo' hi' p d W (H.out.keep' (Keep.of_below KW.out hB)) (H'.out.keep (Keep.of_below KW.out hB')) (by omega) (by omega) HF.out HF'.out).mono ?_
 rintro e w1 ⟨rfl,hb1⟩
 rw [HY.out]
 have bc1:=BC0.out.below hb1 zz
 have BC:=hidW bc1
 have K1:=hidW (KW.out.trans (hb1.mono (by omega)))
 have z1:=hb1.size
 clear hb1 m0 m1 v0 v1 v2 fs zs r0 r1 r2 fa za ba zz
 obtain ⟨m0,m1,⟨v0,v1,v2,fs,zs⟩,⟨r0,r1,r2,fa,za⟩,ba,zz⟩:=bc1
 go_wp2
 obtain ⟨Z,hZ,bz,oz,kz⟩:=BC.out.put (.slice none 0 0) (.slice none 0 0) (.slice none 0 0)
 refine bodyPost_ret (v:=.tuple #[.agg #[.slice none 0 0,.slice none 0 0,.slice none 0 0],.int .i64 0]) ?_ rfl ?_
 ·rw [hZ]
  simp [results,Tryz.results12,go_sem,bz.c0,bz.c1,bz.c2]
 ·rw [hZ]
  exact ⟨none,0,none,0,none,0,[],[],rfl,oz _ _ _ _ _ _ _ (OwnS.nil _ _),kz _ _ K1.out (by omega)⟩
set_option maxHeartbeats 4000000 in
theorem specFair_go (p1 p2 s1 s2 s3 : Option Addr) (a1 a2 c1 c2 c3 lo hi lo' hi' : Nat) (p : PD) (d : SD) (rr : Int) (w : World) (h : ProgR w lo hi p1 p2 p) (h' : SrcR w lo' hi' s1 s2 s3 d) (hB : hi ≤ w.heap.size) (hB' : hi' ≤ w.heap.size) (hf : Fits p) (hf' : SFits d) (hy : srcB p d = true) :
  Calls Tryz.prog 12 #[.agg #[.slice p1 p.caps.length a1,.slice p2 p.bods.length a2],.agg #[.slice s1 d.ths.length c1,.slice s2 d.chs.length c2,.slice s3 d.tr.length c3],.int .i64 rr] w (SStepQ w ((fairX p d rr).2:Int) (fairX p d rr).1):=by
 have HX:=hidW (show fairX p d rr=rdN p p.bods.length (d,0) (rounds rr) from rfl)
 obtain ⟨FX,hFX⟩:∃ K,fairX p d rr=K:=⟨_,rfl⟩
 rw [hFX] at HX ⊢
 clear hFX
 have HY:=hidW hy
 have HR:=hidW (right_of hy)
 obtain ⟨n,hn⟩:∃ n,p.bods.length=n:=⟨_,rfl⟩
 rw [hn] at HX
 have hn4:n≤4:=by have:=(right_of hy).pb;omega
 have HN:=hidW hn
 have HRD:=hidW (fun r=>rdN_ok (p:=p) (n:=n) (x:=(d,0)) hy r)
 have HLE:=hidW (fun r=>rdN_le p n (d,0) r)
 have HFR:=hidW (fun r=>rdN_fits (p:=p) (n:=n) (x:=(d,0)) hy hf' r)
 clear hy hn
 obtain ⟨W,hW⟩:∃ W,((w.alloc (.cells #[.slice p1 p.caps.length a1,.slice p2 p.bods.length a2] 27)).alloc (.cells #[.slice s1 d.ths.length c1,.slice s2 d.chs.length c2,.slice s3 d.tr.length c3] 32)).alloc (.cells #[.slice none 0 0,.slice none 0 0,.slice none 0 0] 32)=W:=⟨_,rfl⟩
 obtain ⟨bc,kW⟩:=br_new hW
 have HW:=hidW hW
 have H:=hidW h
 have H':=hidW h'
 have HF:=hidW hf
 have HF':=hidW hf'
 have BC0:=hidW bc
 have KW:=hidW kW
 have zW:=kW.size
 obtain ⟨m0,m1,⟨v0,v1,v2,fs,zs⟩,⟨r0,r1,r2,fa,za⟩,ba,zz⟩:=bc
 clear hW kW h h' hf hf'
 go_enter Tryz.func12,Tryz.ntmps12
 go_wp2_with fail
 rw [HW.out]
 refine (specSource_any p1 p2 s1 s2 s3 a1 a2 c1 c2 c3 lo hi lo' hi' p d W (H.out.keep' (Keep.of_below KW.out hB)) (H'.out.keep (Keep.of_below KW.out hB')) (by omega) (by omega) HF.out HF'.out).mono ?_
 rintro e w1 ⟨rfl,hb1⟩
 rw [HY.out]
 have bc1:=BC0.out.below hb1 zz
 have BC:=hidW bc1
 have K1:=hidW (KW.out.trans (hb1.mono (by omega)))
 have z1:=hb1.size
 clear hb1 m0 m1 v0 v1 v2 fs zs r0 r1 r2 fa za ba zz
 obtain ⟨m0,m1,⟨v0,v1,v2,fs,zs⟩,⟨r0,r1,r2,fa,za⟩,ba,zz⟩:=bc1
 go_wp2_with fail
 refine (specDup_any s1 s2 s3 c1 c2 c3 lo' hi' d w1 (H'.out.keep (Keep.of_below K1.out hB')) (by omega) HF'.out).mono ?_
 rintro e w5 ⟨u1,u2,u3,L1,L2,rfl,ho5,hb5⟩
 obtain ⟨t1,e1,t2,e2,t3,e3,rfl,rfl,rfl,-⟩:=ho5.src
 obtain ⟨W6,hW6,b6,k6,z6⟩:=BoF.new w5 (.slice t1 d.ths.length e1) (.slice t2 d.chs.length e2) (.slice t3 d.tr.length e3) 32
 have z5:=hb5.size
 obtain ⟨S,hS,hSb,zS⟩:∃ S,w5.heap.size=S∧w1.heap.size≤S∧S < W6.heap.size:=⟨_,rfl,z5,by omega⟩
 have RI:=hidW (show RunI w W6 w1.heap.size S (.slice p1 p.caps.length a1) (.slice p2 p.bods.length a2) (.slice s1 d.ths.length c1) (.slice s2 d.chs.length c2) (.slice s3 d.tr.length c3) d from
  ⟨(BC.out.below hb5 zz).below k6 (by omega),(K1.out.trans (hb5.mono (by omega))).trans (k6.mono (by omega)),⟨_,_,_,L1,L2,ho5.keep (fun q _ hq=>k6.block q hq),hS▸b6,⟨_,_,by rw [← hW6,← hS];exact heap_alloc_new _ _⟩⟩,by omega⟩)
 have HW6:=hidW hW6
 have HS6:=hidW hS
 have zz1:=zz
 have hlen:=(HR.out.tl).trans HN.out
 have HLN:=hidW hlen
 clear ho5 hb5 hW6 b6 k6 z6 z5 hS m0 m1 v0 v1 v2 fs zs r0 r1 r2 fa za ba zz hlen
 obtain ⟨M,hM,hM2⟩:∃ M:Int,min rr 200=M∧M.toNat=rounds rr:=⟨_,rfl,rfl⟩
 have hR2:M.toNat≤200:=by rw [hM2];exact rounds_le rr
 rw [← hM2] at HX
 have HM:=hidW hM
 clear hM2 hM
 have HSD:=hidW (BC.out)
 go_wp2_with fail
 rw [HW6.out,HS6.out]
 go_loopw [9,10] (fun c i wr=>∃ r:Nat,r≤M.toNat∧i=.int .i64 r∧c=.int .i64 ((rdN p n (d,0) r).2:Int)∧RunI w wr w1.heap.size S (.slice p1 p.caps.length a1) (.slice p2 p.bods.length a2) (.slice s1 d.ths.length c1) (.slice s2 d.chs.length c2) (.slice s3 d.tr.length c3) (rdN p n (d,0) r).1) (fun _ i _=>M.toNat - (intOf i).toNat)
 case atStart=>exact ⟨0,Nat.zero_le _,rfl,rfl,RI.out⟩
 case round=>
  obtain ⟨wo,hwo⟩:∃ wo:World,wo=wr:=⟨_,rfl⟩
  subst hwo
  obtain ⟨r,hr,rfl,rfl,ri⟩:=hrel
  have hok:=HRD.out r
  have hle:=HLE.out r
  have hfx:=HFR.out r
  have EX:=hidW (show goN p (rdN p n (d,0) r) n=rdN p n (d,0) (r+1) from rfl)
  have EE:=hidW (fun (e:r=M.toNat)=>(show rdN p n (d,0) r=FX from by rw [HX.out,e]))
  generalize rdN p n (d,0) r=X at ri hok hle hfx EX EE ⊢
  have hx2:X.2≤800:=by
   have h1:r * n≤200 * 4:=Nat.mul_le_mul (by omega) hn4
   have h2:X.2≤0+r * n:=hle
   omega
  have HOK:=hidW hok
  have HFX:=hidW hfx
  clear hfx
  have eN:=(srcB_ths hok).1.trans HN.out
  have RI2:=hidW ri
  obtain ⟨b1,b2,⟨v1,v2,v3,L1,L2,o1,o2,o3⟩,b4⟩:=ri
  obtain ⟨x1,y1,x2,y2,x3,y3,rfl,rfl,rfl,-⟩:=o1.src
  have O1:=hidW o1
  have BB:=hidW b1
  have o2':=o2
  rw [eN] at o2'
  obtain ⟨o20,o21,o22,o23,o24⟩:=o2'
  clear hok hle b1 b2 o1 b4 eN
  by_cases hlt:r < M.toNat
  ·have hrM:(r:Int) < M:=by omega
   clear o2 o20 o21 o22 o23 o24
   go_wp2_with fail
   refine (l1Min_is _ _).mono ?_
   rintro e w9 ⟨rfl,hw9⟩
   rw [hw9,HM.out]
   clear hw9 w9
   go_wp2
   go_loopw [9,11] (fun c i wz=>∃ k:Nat,k≤n∧i=.int .i64 k∧c=.int .i64 ((goN p X k).2:Int)∧RunI w wz w1.heap.size S (.slice p1 p.caps.length a1) (.slice p2 p.bods.length a2) (.slice s1 d.ths.length c1) (.slice s2 d.chs.length c2) (.slice s3 d.tr.length c3) (goN p X k).1) (fun _ i _=>n - (intOf i).toNat)
   case atStart=>exact ⟨0,Nat.zero_le _,rfl,rfl,RI2.out⟩
   case round=>
    obtain ⟨wq,hwq⟩:∃ wq:World,wq=wr:=⟨_,rfl⟩
    subst hwq
    obtain ⟨k,hk,rfl,rfl,rj⟩:=hrel
    have hoj:=goN_ok HOK.out k
    have hlj:=goN_le p X k
    have hfj:=goN_fits HOK.out HFX.out k
    have EG:=hidW (show goN p X (k+1)=go1 p (goN p X k) k from rfl)
    have EL:=hidW (fun (e:k=n)=>(show goN p X k=goN p X n from by rw [e]))
    generalize goN p X k=Y at rj hoj hlj hfj EG EL ⊢
    have eD:d.ths.length=n:=HLN.out
    by_cases hkn:k < n
    ·have hki:(k:Int) < (n:Int):=by omega
     have RJ:=hidW rj
     obtain ⟨b1,b2,⟨v1',v2',v3',L1',L2',o1,o2,o3⟩,b4⟩:=rj
     obtain ⟨x1,y1,x2,y2,x3,y3,rfl,rfl,rfl,hsr⟩:=o1.src
     have m0:=b1.p0
     have m1:=b1.p1
     have d0:=b1.s.c0
     rw [eD] at d0
     clear eD
     have hzq:wo.heap.size≤wo.heap.size:=Nat.le_refl _
     have T:=hidW (specStep_any p1 p2 x1 x2 x3 a1 a2 y1 y2 y3 lo hi w1.heap.size wq.heap.size p Y.1 k wq (H.out.keep' (Keep.of_below b2 hB)) hsr (by have:=b2.size;omega) (Nat.le_refl _) HF.out hfj)
     obtain ⟨q0,q1,q2,q3,q4⟩:=o2
     clear b1 b2 o1 o3 hsr
     go_wp2_with fail
     refine Calls.mono T.out ?_
     rintro e w7 ⟨s4,n4,s5,n5,s6,n6,M1,M2,rfl,ho7,hb7⟩
     rw [stepKb_of hoj,stepSb_of hoj] at *
     have RT:=hidW (RJ.out.keep hb7)
     have EG2:=EG.out
     unfold go1 at EG2
     have EG:=hidW EG2
     have O7:=hidW (ho7.low b4)
     have NO:=hidW (fun (e:¬ stepK p Y.1 k=0)=>stepS_no e)
     have z7:=hb7.size
     have zS7:S < w7.heap.size:=by omega
     clear T RJ EG2 ho7 hb7 q0 q1 q2 q3 q4
     obtain ⟨KK,hKK⟩:∃ K,stepK p Y.1 k=K:=⟨_,rfl⟩
     rw [hKK] at EG NO ⊢
     clear hKK
     obtain ⟨DD,hDD⟩:∃ K,stepS p Y.1 k=K:=⟨_,rfl⟩
     rw [hDD] at EG NO O7 ⊢
     clear hDD
     obtain ⟨W8,hW8,b8,k8,z8⟩:=BoF.new w7 (.slice s4 DD.ths.length n4) (.slice s5 DD.chs.length n5) (.slice s6 DD.tr.length n6) 32
     have RT8:=hidW (RT.out.keep k8)
     have O8:=hidW (O7.out.keep (fun q _ hq=>k8.block q hq))
     have HW8:=hidW hW8
     obtain ⟨_,_,⟨g1,g2,g3,_,_,_,o2,_⟩,_⟩:=RT8.out
     obtain ⟨q0,q1,q2,q3,q4⟩:=o2
     obtain ⟨f0,f1,f2,f3,f4⟩:=b8
     have zS8:S < W8.heap.size:=by omega
     clear hW8 k8 RT O7
     by_cases hK:KK=0
     ·subst hK
      have EG:=hidW (show goN p X (k+1)=(DD,Y.2+1) from EG.out)
      go_upto_region 12 with fail
      rw [HW8.out]
      go_wp2
      go_roundw
      case rel=>exact ⟨k+1,by omega,by go_num,by rw [EG.out];go_num,by rw [EG.out];exact RT8.out.put (by omega) hSb O8.out⟩
      case measure=>simp [intOf];omega
     ·have EG:=hidW (show goN p X (k+1)=(Y.1,Y.2) from by rw [EG.out,if_neg hK,NO.out hK])
      have hK0:(KK==0)=false:=by simp [hK]
      go_upto_region 12 with fail
      rw [HW8.out]
      go_wp2
      go_roundw
      case rel=>exact ⟨k+1,by omega,by go_num,by rw [EG.out],by rw [EG.out];exact RT8.out⟩
      case measure=>simp [intOf];omega
    ·have ek:k=n:=by omega
     have RJ:=hidW rj
     have EY:=hidW ((EL.out ek).trans EX.out)
     have d0:=rj.b.s.c0
     rw [eD] at d0
     clear eD rj
     go_wp2
     go_roundw
     case rel=>exact ⟨r+1,by omega,by go_num,by rw [← EY.out],by rw [← EY.out];exact RJ.out⟩
     case measure=>simp [intOf];omega
  ·have er:r=M.toNat:=by omega
   have hrM:¬ (r:Int) < M:=by omega
   have E9:=hidW (EE.out er)
   clear er
   obtain ⟨r0,r1,r2,fa,za⟩:=BB.out.a
   obtain ⟨o20',o21',o22',-,-⟩:=o2
   clear o20 o21 o22 o23 o24
   go_wp2_with fail
   refine (l1Min_is _ _).mono ?_
   rintro e w9 ⟨rfl,hw9⟩
   rw [hw9,HM.out]
   clear hw9 w9
   go_wp2
   obtain ⟨Z,hZ,bz,oz,kz⟩:=BB.out.put (.slice x1 X.1.ths.length y1) (.slice x2 X.1.chs.length y2) (.slice x3 X.1.tr.length y3)
   refine bodyPost_ret (v:=.tuple #[.agg #[.slice x1 X.1.ths.length y1,.slice x2 X.1.chs.length y2,.slice x3 X.1.tr.length y3],.int .i64 (X.2:Int)]) ?_ rfl ?_
   ·rw [hZ]
    simp [results,Tryz.results12,go_sem,bz.c0,bz.c1,bz.c2]
   ·rw [hZ,← E9.out]
    exact ⟨_,_,_,_,_,_,L1,L2,rfl,oz _ _ _ _ _ _ _ (O1.out.low (by omega)),kz _ _ RI2.out.k (by omega)⟩
theorem specFair_any (p1 p2 s1 s2 s3 : Option Addr) (a1 a2 c1 c2 c3 lo hi lo' hi' : Nat) (p : PD) (d : SD) (rr : Int) (w : World) (h : ProgR w lo hi p1 p2 p) (h' : SrcR w lo' hi' s1 s2 s3 d) (hB : hi ≤ w.heap.size) (hB' : hi' ≤ w.heap.size) (hf : Fits p) (hf' : SFits d) :
  Calls Tryz.prog 12 #[.agg #[.slice p1 p.caps.length a1,.slice p2 p.bods.length a2],.agg #[.slice s1 d.ths.length c1,.slice s2 d.chs.length c2,.slice s3 d.tr.length c3],.int .i64 rr] w (SStepQ w (fairKb p d rr) (fairSb p d rr)):=by
 unfold fairKb fairSb
 by_cases hy:srcB p d=true
 ·rw [if_pos hy,if_pos hy]
  exact specFair_go p1 p2 s1 s2 s3 a1 a2 c1 c2 c3 lo hi lo' hi' p d rr w h h' hB hB' hf hf' hy
 ·rw [if_neg hy,if_neg hy]
  exact specFair_bad p1 p2 s1 s2 s3 a1 a2 c1 c2 c3 lo hi lo' hi' p d rr w h h' hB hB' hf hf' (by simpa using hy)
end
end Go.Proofs.YtknffngbdakblaaGreat
