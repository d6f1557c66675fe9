/- SourceRun of the program. Conditions: program, source and picks fit. SourceRun of the specification. Conditions: program, source and picks fit. -/
import Derived.Test.YtknffngbdakblaaGreatJG00
import Derived.Test.YtknffngbdakblaaGreatJG11
import Derived.Test.YtknffngbdakblaaGreatJG07
import Derived.Test.YtknffngbdakblaaGreatJG16
import Derived.Test.YtknffngbdakblaaGreatJG06
import Derived.Test.YtknffngbdakblaaGreatJG08
import Derived.Test.YtknffngbdakblaaGreatJG12
import Derived.Test.YtknffngbdakblaaGreatJG21
import Derived.Test.YtknffngbdakblaaGreatJG01
import Derived.Test.YtknffngbdakblaaGreatJG03
import Derived.Test.YtknffngbdakblaaGreatJG22
import Derived.Test.YtknffngbdakblaaGreatJG09
import Derived.Test.YtknffngbdakblaaGreatJSrcDup
import Derived.Deep.RegionHeld3
import Derived.Deep.DeepCutAuto
namespace Go.Proofs.YtknffngbdakblaaGreat
section
set_option linter.unusedSimpArgs false
set_option linter.unusedVariables false
set_option maxRecDepth 100000
open Go.RowKit
set_option maxHeartbeats 4000000 in
theorem implRun_any (p1 p2 s1 s2 s3 s4 : Option Addr) (a1 a2 c1 c2 c3 c4 lo hi lo' hi' lo2 hi2 : Nat) (p : PD) (d : SD) (ks : List Int) (w : World) (h : ProgR w lo hi p1 p2 p) (h' : SrcR w lo' hi' s1 s2 s3 d) (h2 : IntsR w lo2 hi2 s4 ks) (hB : hi ≤ w.heap.size) (hB' : hi' ≤ w.heap.size) (hB2 : hi2 ≤ w.heap.size) (hf : Fits p) (hf' : SFits d) (hks : ks.length ≤ 1048576) :
  Calls Tryz.prog 7 #[.agg #[.slice p1 p.caps.length a1,.slice p2 p.bods.length a2],.agg #[.slice s1 d.ths.length c1,.slice s2 d.chs.length c2,.slice s3 d.tr.length c3],.slice s4 ks.length c4] w (SRunQ w (runSb p d ks) (runCb p d ks)):=by
 obtain ⟨W,hW⟩:∃ W,((w.alloc (.cells #[.slice p1 p.caps.length a1,.slice p2 p.bods.length a2] 27)).alloc (.cells #[.slice s1 d.ths.length c1,.slice s2 d.chs.length c2,.slice s3 d.tr.length c3] 32)).alloc (.cells #[.slice none 0 0,.slice none 0 0,.slice none 0 0] 32)=W:=⟨_,rfl⟩
 obtain ⟨bc,kW⟩:=br_new hW
 have HW:=hidW hW
 have H:=hidW h
 have H':=hidW h'
 have H2:=hidW h2
 have HF:=hidW hf
 have HF':=hidW hf'
 have BC0:=hidW bc
 have KW:=hidW kW
 have zW:=kW.size
 obtain ⟨RS,hRS⟩:∃ R,runSb p d ks=R:=⟨_,rfl⟩
 obtain ⟨RC,hRC⟩:∃ R,runCb p d ks=R:=⟨_,rfl⟩
 have ES:=hidW hRS
 have EC:=hidW hRC
 rw [hRS,hRC]
 clear hRS hRC
 obtain ⟨m0,m1,⟨v0,v1,v2,fs,zs⟩,⟨r0,r1,r2,fa,za⟩,ba,zz⟩:=bc
 clear hW kW h h' h2 hf hf'
 go_enter Tryz.func7,Tryz.ntmps7
 go_wp2_with fail
 rw [HW.out]
 refine (implDup_any s1 s2 s3 c1 c2 c3 lo' hi' d W (H'.out.keep (Keep.of_below KW.out hB')) (by omega) HF'.out).mono ?_
 rintro e w5 ⟨u1,u2,u3,L1,L2,rfl,ho5,hb5⟩
 obtain ⟨t1,e1,t2,e2,t3,e3,rfl,rfl,rfl,-⟩:=ho5.src
 obtain ⟨W6,hW6,b6,k6,z6⟩:=BoF.new w5 (.slice t1 d.ths.length e1) (.slice t2 d.chs.length e2) (.slice t3 d.tr.length e3) 32
 have z5:=hb5.size
 obtain ⟨S,hS,hSb,zS⟩:∃ S,w5.heap.size=S∧W.heap.size≤S∧S < W6.heap.size:=⟨_,rfl,z5,by omega⟩
 have RI:=hidW (show RunI w W6 W.heap.size S (.slice p1 p.caps.length a1) (.slice p2 p.bods.length a2) (.slice s1 d.ths.length c1) (.slice s2 d.chs.length c2) (.slice s3 d.tr.length c3) d from
  ⟨(BC0.out.below hb5 zz).below k6 (by omega),(KW.out.trans (hb5.mono (by omega))).trans (k6.mono (by omega)),⟨_,_,_,L1,L2,ho5.keep (fun q _ hq=>k6.block q hq),hS▸b6,⟨_,_,by rw [← hW6,← hS];exact heap_alloc_new _ _⟩⟩,by omega⟩)
 have HW6:=hidW hW6
 have HS6:=hidW hS
 have zz1:=zz
 clear ho5 hb5 hW6 b6 k6 z6 z5 hS m0 m1 v0 v1 v2 fs zs r0 r1 r2 fa za ba zz
 go_upto_region 2 with fail
 rw [HW6.out,HS6.out]
 by_cases hl:4000 < ks.length
 ·have hli:(4000:Int) < (ks.length:Int):=by omega
  have E1:=hidW (show RS=d from by rw [← ES.out];unfold runSb;rw [if_neg (by omega)])
  have E2:=hidW (show RC=[] from by rw [← EC.out];unfold runCb;rw [if_neg (by omega)])
  obtain ⟨b1,b2,⟨v1,v2,v3,M1,M2,o1,o2,o3⟩,b4⟩:=RI.out
  obtain ⟨x1,y1,x2,y2,x3,y3,rfl,rfl,rfl,-⟩:=o1.src
  have BB:=hidW b1
  have O1:=hidW o1
  have z6':=b2.size
  obtain ⟨m0,m1,⟨v0,v1,v2,fs,zs⟩,⟨r0,r1,r2,fa,za⟩,ba,zz⟩:=b1
  obtain ⟨o20,o21,o22,o23,o24⟩:=o2
  clear b2 o1 o3 b4
  go_wp2
  obtain ⟨Z,hZ,bz,oz,kz⟩:=BB.out.put (.slice x1 d.ths.length y1) (.slice x2 d.chs.length y2) (.slice x3 d.tr.length y3)
  refine bodyPost_ret (v:=.tuple #[.agg #[.slice x1 d.ths.length y1,.slice x2 d.chs.length y2,.slice x3 d.tr.length y3],.slice none 0 0]) ?_ rfl ?_
  ·rw [hZ]
   simp [results,Tryz.results7,go_sem,bz.c0,bz.c1,bz.c2]
  ·rw [hZ,E1.out,E2.out]
   exact ⟨_,_,_,_,_,_,none,0,M1,M2,rfl,oz _ _ _ _ _ _ _ (O1.out.low (by omega)),World.ownsRow_nil _ _ _ _,fun q e=>(by cases e),kz _ _ RI.out.k (by omega)⟩
 ·have hli:¬ (4000:Int) < (ks.length:Int):=by omega
  have m0:=RI.out.b.p0
  have m1:=RI.out.b.p1
  obtain ⟨v0,v1,v2,fs,zs⟩:=RI.out.b.s
  have zp:w.heap.size < W6.heap.size:=by omega
  go_wp2_with fail
  refine (implSource_any p1 p2 s1 s2 s3 a1 a2 c1 c2 c3 lo hi lo' hi' p d W6 (H.out.keep' (Keep.of_below RI.out.k hB)) (H'.out.keep (Keep.of_below RI.out.k hB')) (by omega) (by omega) HF.out HF'.out).mono ?_
  rintro e w7 ⟨rfl,hb7⟩
  have R7:=hidW (RI.out.keep hb7)
  have z7:=hb7.size
  have zS7:S < w7.heap.size:=by omega
  clear m0 m1 v0 v1 v2 fs zs zp hb7
  cases hy:srcB p d with
  | false=>
   have E1:=hidW (show RS=d from by rw [← ES.out];unfold runSb;rw [if_neg (by rw [hy];simp)])
   have E2:=hidW (show RC=[] from by rw [← EC.out];unfold runCb;rw [if_neg (by rw [hy];simp)])
   clear hy
   obtain ⟨b1,b2,⟨v1,v2,v3,M1,M2,o1,o2,o3⟩,b4⟩:=R7.out
   obtain ⟨x1,y1,x2,y2,x3,y3,rfl,rfl,rfl,-⟩:=o1.src
   have BB:=hidW b1
   have O1:=hidW o1
   have z6':=b2.size
   obtain ⟨m0,m1,⟨v0,v1,v2,fs,zs⟩,⟨r0,r1,r2,fa,za⟩,ba,zz⟩:=b1
   obtain ⟨o20,o21,o22,o23,o24⟩:=o2
   clear b2 o1 o3 b4
   go_wp2
   obtain ⟨Z,hZ,bz,oz,kz⟩:=BB.out.put (.slice x1 d.ths.length y1) (.slice x2 d.chs.length y2) (.slice x3 d.tr.length y3)
   refine bodyPost_ret (v:=.tuple #[.agg #[.slice x1 d.ths.length y1,.slice x2 d.chs.length y2,.slice x3 d.tr.length y3],.slice none 0 0]) ?_ rfl ?_
   ·rw [hZ]
    simp [results,Tryz.results7,go_sem,bz.c0,bz.c1,bz.c2]
   ·rw [hZ,E1.out,E2.out]
    exact ⟨_,_,_,_,_,_,none,0,M1,M2,rfl,oz _ _ _ _ _ _ _ (O1.out.low (by omega)),World.ownsRow_nil _ _ _ _,fun q e=>(by cases e),kz _ _ R7.out.k (by omega)⟩
  | true=>
   have E1:=hidW (show RS=pkD p d ks from by rw [← ES.out];unfold runSb;rw [if_pos ⟨by omega,hy⟩])
   have E2:=hidW (show RC=pkC p d ks from by rw [← EC.out];unfold runCb;rw [if_pos ⟨by omega,hy⟩])
   have HY:=hidW hy
   have RC0:=hidW (R7.out.cod (u:=.slice none 0 0) (World.ownsRow_nil _ _ _ _) (fun q e=>(by cases e)))
   clear hy
   go_wp2_with fail
   go_loopw [9,26] (fun u i wr=>∃ k:Nat,k≤ks.length∧i=.int .i64 k∧RunC w wr W.heap.size S (.slice p1 p.caps.length a1) (.slice p2 p.bods.length a2) (.slice s1 d.ths.length c1) (.slice s2 d.chs.length c2) (.slice s3 d.tr.length c3) (pkD p d (ks.take k)) u (pkC p d (ks.take k))) (fun _ i _=>ks.length - (intOf i).toNat)
   case atStart=>exact ⟨0,Nat.zero_le _,rfl,RC0.out⟩
   case round=>
    obtain ⟨k,hk,rfl,rj⟩:=hrel
    have hoj:=pkD_ok (ks.take k) HY.out
    have hcl:(pkC p d (ks.take k)).length=k:=by rw [pkC_len,List.length_take];omega
    have EA:=hidW (fun (e:k=ks.length)=>(show pkD p d (ks.take k)=RS∧pkC p d (ks.take k)=RC from by rw [E1.out,E2.out,e,List.take_length];exact ⟨rfl,rfl⟩))
    by_cases hlt:k < ks.length
    ·have ek:ks[k]? =some (ks.getD k 0):=by rw [List.getD_eq_getElem?_getD,List.getElem?_eq_getElem hlt];rfl
     have ED:=hidW (show pkD p d (ks.take (k+1))=stepS p (pkD p d (ks.take k)) (ks.getD k 0)∧pkC p d (ks.take (k+1))=pkC p d (ks.take k)++[stepK p (pkD p d (ks.take k)) (ks.getD k 0)] from by rw [take_one ek];exact ⟨pkD_snoc p _ _ _,pkC_snoc p _ _ _⟩)
     clear ek
     generalize pkD p d (ks.take k)=Y at rj hoj EA ED
     generalize pkC p d (ks.take k)=C at rj hcl EA ED
     obtain ⟨gk,ok,es4,hgk,hck⟩:=H2.out.get hB2 rj.k hlt
     subst es4
     generalize ks.getD k 0=kk at hck ED
     have zr:=rj.k.size
     have hgk2:gk < wr.heap.size:=by omega
     have b0:(0:Int)≤(k:Int):=by omega
     have b1':(k:Int) < (ks.length:Int):=by omega
     have RJ:=hidW rj
     obtain ⟨b1,b2,⟨v1',v2',v3',L1',L2',o1,o2,o3,sep⟩,on,b4⟩:=rj
     have m0:=b1.p0
     have m1:=b1.p1
     have zp:w.heap.size < wr.heap.size:=by have:=b1.zz;omega
     have T:=hidW (turnIn_any p1 p2 a1 a2 lo hi W.heap.size S p v1' v2' v3' L1' L2' Y kk wr (H.out.keep' (Keep.of_below b2 hB)) (by omega) o1 o2 o3 b4 (right_of hoj) hSb)
     have O3:=hidW o3
     have SEP:=hidW sep
     have HCL:=hidW hcl
     obtain ⟨su,cu,eu⟩:=on.sl
     subst eu
     clear b1 b2 o1 o2 o3 b4 sep on hcl EA
     go_wp2_with fail
     refine Calls.mono T.out ?_
     rintro e w9 ⟨rfl,s4',n4',c4',M1',M2',tq⟩
     have RT:=hidW (RJ.out.turn (by omega) SEP.out O3.out tq)
     clear tq T RJ SEP O3
     obtain ⟨KK,hKK⟩:∃ K,stepK p Y kk=K:=⟨_,rfl⟩
     rw [hKK] at ED ⊢
     clear hKK m0 m1 hck
     go_wp2_with (at_builtin;refine app_one rfl _ _ rfl w9 KK W.heap.size (.slice su C.length cu) C rfl RT.out.n rfl (by have:=HCL.out;omega) RT.out.m ?_;intro g5 cap5 w5' ho5 hb5 hf5;have RA:=hidW (RT.out.app (by omega) ho5 hb5 hf5);clear ho5 hb5 hf5)
     go_roundw
     case rel=>exact ⟨k+1,by omega,by go_num,by rw [ED.out.1,ED.out.2];exact RA.out⟩
     case measure=>simp [intOf];omega
    ·have ek:k=ks.length:=by omega
     obtain ⟨e1',e2'⟩:=EA.out ek
     rw [e1',e2'] at rj
     have E3:=hidW e1'
     clear e1' e2' hoj hcl EA ek
     have RJ:=hidW rj
     obtain ⟨b1,b2,⟨v1,v2,v3,M1,M2,o1,o2,o3,sep⟩,on,b4⟩:=rj
     obtain ⟨x1,y1,x2,y2,x3,y3,rfl,rfl,rfl,-⟩:=o1.src
     obtain ⟨su,cu,eu⟩:=on.sl
     subst eu
     have BB:=hidW b1
     have O1:=hidW o1
     have ON:=hidW on
     have SEP:=hidW sep
     have z6':=b2.size
     obtain ⟨m0,m1,⟨v0,v1,v2,fs,zs⟩,⟨r0,r1,r2,fa,za⟩,ba,zz⟩:=b1
     have BA:=hidW ba
     obtain ⟨o20,o21,o22,o23,o24⟩:=o2
     clear b2 o1 o3 b4 on sep
     go_wp2
     obtain ⟨Z,hZ,bz,oz,kz⟩:=BB.out.put (.slice x1 RS.ths.length y1) (.slice x2 RS.chs.length y2) (.slice x3 RS.tr.length y3)
     refine bodyPost_ret (v:=.tuple #[.agg #[.slice x1 RS.ths.length y1,.slice x2 RS.chs.length y2,.slice x3 RS.tr.length y3],.slice su RC.length cu]) ?_ rfl ?_
     ·rw [hZ]
      simp [results,Tryz.results7,go_sem,bz.c0,bz.c1,bz.c2]
     ·have on:OwnN Z W.heap.size (.slice su RC.length cu) RC:=by
       rw [← hZ]
       have nS:=own_bxS ON.out intNe BA.out
       have st:∀ (X:World) (j:Nat) (v:Value),OwnN X W.heap.size (.slice su RC.length cu) RC→OwnN (X.setCell ⟨w.heap.size+1+1,j,none⟩ v) W.heap.size (.slice su RC.length cu) RC:=fun X j v q=>ownKeep' q (fun k e=>Below.heap_setCell _ _ _ _ (fun e2=>nS (by rw [e,e2])))
       exact st _ _ _ (st _ _ _ (st _ _ _ ON.out))
      rw [hZ]
      exact ⟨_,_,_,_,_,_,su,cu,M1,M2,rfl,oz _ _ _ _ _ _ _ (O1.out.low (by omega)),ownLow' on (by omega),SEP.out,kz _ _ RJ.out.k (by omega)⟩
end
section
set_option linter.unusedSimpArgs false
set_option linter.unusedVariables false
set_option maxRecDepth 100000
open Go.RowKit
def CutF (W:World) (D:SD) (K:Int) (s8 s9:Value) (wc:World):Prop:=∃ (bo:Nat) (x1:Option Addr) (y1:Nat) (x2:Option Addr) (y2:Nat) (x3:Option Addr) (y3:Nat),s8=.pointer (some ⟨bo,0,none⟩)∧s9=.int .i64 K∧W.heap.size≤bo∧BoF bo wc (.slice x1 D.ths.length y1) (.slice x2 D.chs.length y2) (.slice x3 D.tr.length y3)∧(∃ L1 L2,OwnS wc W.heap.size (.slice x1 D.ths.length y1) (.slice x2 D.chs.length y2) (.slice x3 D.tr.length y3) L1 L2 D)∧Below W.heap.size W wc
theorem cutF_new {W wM:World} {D:SD} {K:Int} {x1 x2 x3:Option Addr} {y1 y2 y3:Nat} (q:∃ L1 L2,OwnS wM W.heap.size (.slice x1 D.ths.length y1) (.slice x2 D.chs.length y2) (.slice x3 D.tr.length y3) L1 L2 D) (kk:Below W.heap.size W wM):CutF W D K (.pointer (some ⟨wM.heap.size,0,none⟩)) (.int .i64 K) (wM.alloc (.cells #[.slice x1 D.ths.length y1,.slice x2 D.chs.length y2,.slice x3 D.tr.length y3] 32)):=by
 obtain ⟨Y,hY,x,kY,zY⟩:=BoF.new wM (.slice x1 D.ths.length y1) (.slice x2 D.chs.length y2) (.slice x3 D.tr.length y3) 32
 rw [hY]
 obtain ⟨L1,L2,o1⟩:=q
 exact ⟨wM.heap.size,x1,y1,x2,y2,x3,y3,rfl,rfl,kk.size,x,⟨L1,L2,o1.keep (fun b _ h1=>kY.block b h1)⟩,kk.trans (kY.mono kk.size)⟩
theorem cutF_set {W wM:World} {D:SD} {K:Int} {bo:Nat} {x1 x2 x3:Option Addr} {y1 y2 y3:Nat} (b:BoF bo wM (.slice none 0 0) (.slice none 0 0) (.slice none 0 0)∧BxS wM bo) (hbo:W.heap.size≤bo) (q:∃ L1 L2,OwnS wM W.heap.size (.slice x1 D.ths.length y1) (.slice x2 D.chs.length y2) (.slice x3 D.tr.length y3) L1 L2 D) (kk:Below W.heap.size W wM):CutF W D K (.pointer (some ⟨bo,0,none⟩)) (.int .i64 K) (((wM.setCell ⟨bo,0,none⟩ (.slice x1 D.ths.length y1)).setCell ⟨bo,1,none⟩ (.slice x2 D.chs.length y2)).setCell ⟨bo,2,none⟩ (.slice x3 D.tr.length y3)):=by
 have B:=b.2
 obtain ⟨L1,L2,o1⟩:=q
 exact ⟨bo,x1,y1,x2,y2,x3,y3,rfl,rfl,hbo,((b.1.set0 _).set1 _).set2 _,⟨L1,L2,((o1.offB B).offB B.set).offB B.set.set⟩,((kk.setCell (p:=⟨bo,_,none⟩) hbo _).setCell (p:=⟨bo,_,none⟩) hbo _).setCell (p:=⟨bo,_,none⟩) hbo _⟩
set_option maxHeartbeats 8000000 in
theorem specRun_any (p1 p2 s1 s2 s3 s4 : Option Addr) (a1 a2 c1 c2 c3 c4 lo hi lo' hi' lo2 hi2 : Nat) (p : PD) (d : SD) (ks : List Int) (w : World) (h : ProgR w lo hi p1 p2 p) (h' : SrcR w lo' hi' s1 s2 s3 d) (h2 : IntsR w lo2 hi2 s4 ks) (hB : hi ≤ w.heap.size) (hB' : hi' ≤ w.heap.size) (hB2 : hi2 ≤ w.heap.size) (hf : Fits p) (hf' : SFits d) (hks : ks.length ≤ 1048576) :
  Calls Tryz.prog 8 #[.agg #[.slice p1 p.caps.length a1,.slice p2 p.bods.length a2],.agg #[.slice s1 d.ths.length c1,.slice s2 d.chs.length c2,.slice s3 d.tr.length c3],.slice s4 ks.length c4] w (SRunQ w (runSb p d ks) (runCb p d ks)):=by
 obtain ⟨W,hW⟩:∃ W,((w.alloc (.cells #[.slice p1 p.caps.length a1,.slice p2 p.bods.length a2] 27)).alloc (.cells #[.slice s1 d.ths.length c1,.slice s2 d.chs.length c2,.slice s3 d.tr.length c3] 32)).alloc (.cells #[.slice none 0 0,.slice none 0 0,.slice none 0 0] 32)=W:=⟨_,rfl⟩
 obtain ⟨bc,kW⟩:=br_new hW
 have HW:=hidW hW
 have H:=hidW h
 have H':=hidW h'
 have H2:=hidW h2
 have HF:=hidW hf
 have HF':=hidW hf'
 have BC0:=hidW bc
 have KW:=hidW kW
 have zW:=kW.size
 have zz:=bc.zz
 obtain ⟨RS,hRS⟩:∃ R,runSb p d ks=R:=⟨_,rfl⟩
 obtain ⟨RC,hRC⟩:∃ R,runCb p d ks=R:=⟨_,rfl⟩
 have ES:=hidW hRS
 have EC:=hidW hRC
 rw [hRS,hRC]
 clear hRS hRC
 obtain ⟨V,hV⟩:∃ V,W.alloc (.cells #[] 3)=V:=⟨_,rfl⟩
 have HV:=hidW hV
 have zV:V.heap.size=W.heap.size+1:=by rw [← hV];simp
 have kV:Below W.heap.size W V:=by rw [← hV];exact (Below.refl _ _).alloc (Nat.le_refl _) _
 have eW:W.heap.size=w.heap.size+1+1+1:=by rw [← hW];simp
 have ON0:=hidW (show OwnN V W.heap.size (.slice (some ⟨w.heap.size+1+1+1,0,none⟩) 0 0) [] from by rw [← hV,← eW];exact ownN_empty (Nat.le_refl _))
 have EW:=hidW eW
 have BC1:=hidW (bc.below kV zz)
 have KV:=hidW (kW.trans (kV.mono (by omega)))
 have zV2:W.heap.size < V.heap.size:=by omega
 clear zV kV hV eW
 clear hW kW h h' h2 hf hf'
 obtain ⟨m0,m1,⟨v0,v1,v2,fs,zs⟩,⟨r0,r1,r2,fa,za⟩,ba,-⟩:=BC1.out
 go_enter Tryz.func8,Tryz.ntmps8
 go_wp2_with fail
 rw [HW.out,HV.out]
 refine (specDup_any s1 s2 s3 c1 c2 c3 lo' hi' d V (H'.out.keep (Keep.of_below KV.out hB')) (by omega) HF'.out).mono ?_
 rintro e w5 ⟨u1,u2,u3,L1,L2,rfl,ho5,hb5⟩
 obtain ⟨t1,e1,t2,e2,t3,e3,rfl,rfl,rfl,-⟩:=ho5.src
 obtain ⟨W6,hW6,b6,k6,z6⟩:=BoF.new w5 (.slice t1 d.ths.length e1) (.slice t2 d.chs.length e2) (.slice t3 d.tr.length e3) 32
 have z5:=hb5.size
 obtain ⟨S,hS,hSb,zS⟩:∃ S,w5.heap.size=S∧V.heap.size≤S∧S < W6.heap.size:=⟨_,rfl,z5,by omega⟩
 have hSb2:W.heap.size≤S:=by omega
 have RI:=hidW (show RunC w W6 W.heap.size S (.slice p1 p.caps.length a1) (.slice p2 p.bods.length a2) (.slice s1 d.ths.length c1) (.slice s2 d.chs.length c2) (.slice s3 d.tr.length c3) d (.slice (some ⟨w.heap.size+1+1+1,0,none⟩) 0 0) [] from
  ⟨(BC1.out.below hb5 (by omega)).below k6 (by omega),(KV.out.trans (hb5.mono (by omega))).trans (k6.mono (by omega)),⟨_,_,_,L1,L2,(ho5.keep (fun q _ hq=>k6.block q hq)).low (by omega),hS▸b6,⟨_,_,by rw [← hW6,← hS];exact heap_alloc_new _ _⟩,fun q e hh=>by
   simp only [Value.ownBlock,Option.some.injEq] at e
   have:=(ho5.hit hh).1
   have:=EW.out
   omega⟩,(ON0.out.keep (fun q _ hq=>hb5.block q hq)).keep (fun q _ hq=>k6.block q hq),by omega⟩)
 have HW6:=hidW hW6
 have HS6:=hidW hS
 clear ho5 hb5 hW6 b6 k6 z6 z5 hS m0 m1 v0 v1 v2 fs zs r0 r1 r2 fa za ba
 go_upto_region 3 with fail
 rw [HW6.out,HS6.out]
 have m0:=RI.out.b.p0
 have m1:=RI.out.b.p1
 obtain ⟨v0,v1,v2,fs,zs⟩:=RI.out.b.s
 have zp:w.heap.size < W6.heap.size:=by omega
 go_wp2_with fail
 refine (specSource_any p1 p2 s1 s2 s3 a1 a2 c1 c2 c3 lo hi lo' hi' p d W6 (H.out.keep' (Keep.of_below RI.out.k hB)) (H'.out.keep (Keep.of_below RI.out.k hB')) (by omega) (by omega) HF.out HF'.out).mono ?_
 rintro e w7 ⟨rfl,hb7⟩
 have R7:=hidW (RI.out.keep hb7)
 have z7:=hb7.size
 have zS7:S < w7.heap.size:=by omega
 clear m0 m1 v0 v1 v2 fs zs zp hb7
 cases hy:srcB p d with
 | false=>
  have E1:=hidW (show RS=d from by rw [← ES.out];unfold runSb;rw [if_neg (by rw [hy];simp)])
  have E2:=hidW (show RC=[] from by rw [← EC.out];unfold runCb;rw [if_neg (by rw [hy];simp)])
  clear hy
  obtain ⟨b1,b2,⟨v1,v2,v3,M1,M2,o1,o2,o3,sep⟩,on,b4⟩:=R7.out
  obtain ⟨x1,y1,x2,y2,x3,y3,rfl,rfl,rfl,-⟩:=o1.src
  have BB:=hidW b1
  have O1:=hidW o1
  have ON:=hidW on
  have SEP:=hidW sep
  have z6':=b2.size
  have K6:=hidW b2
  obtain ⟨m0,m1,⟨v0,v1,v2,fs,zs⟩,⟨r0,r1,r2,fa,za⟩,ba,zz⟩:=b1
  have BA:=hidW ba
  obtain ⟨o20,o21,o22,o23,o24⟩:=o2
  clear b2 o1 o3 b4 on sep
  go_wp2
  obtain ⟨Z,hZ,bz,oz,kz⟩:=BB.out.put (.slice x1 d.ths.length y1) (.slice x2 d.chs.length y2) (.slice x3 d.tr.length y3)
  refine bodyPost_ret (v:=.tuple #[.agg #[.slice x1 d.ths.length y1,.slice x2 d.chs.length y2,.slice x3 d.tr.length y3],.slice (some ⟨w.heap.size+1+1+1,0,none⟩) 0 0]) ?_ rfl ?_
  ·rw [hZ]
   simp [results,Tryz.results8,go_sem,bz.c0,bz.c1,bz.c2]
  ·have on:OwnN Z W.heap.size (.slice (some ⟨w.heap.size+1+1+1,0,none⟩) 0 0) []:=by
    rw [← hZ]
    have nS:=own_bxS ON.out intNe BA.out
    have st:∀ (X:World) (j:Nat) (v:Value),OwnN X W.heap.size (.slice (some ⟨w.heap.size+1+1+1,0,none⟩) 0 0) []→OwnN (X.setCell ⟨w.heap.size+1+1,j,none⟩ v) W.heap.size (.slice (some ⟨w.heap.size+1+1+1,0,none⟩) 0 0) []:=fun X j v q=>ownKeep' q (fun k e=>Below.heap_setCell _ _ _ _ (fun e2=>nS (by rw [e,e2])))
    exact st _ _ _ (st _ _ _ (st _ _ _ ON.out))
   rw [hZ,E1.out,E2.out]
   exact ⟨_,_,_,_,_,_,some ⟨w.heap.size+1+1+1,0,none⟩,0,M1,M2,rfl,oz _ _ _ _ _ _ _ (O1.out.low (by omega)),ownLow' on (by omega),SEP.out,kz _ _ K6.out (by omega)⟩
 | true=>
  have HY:=hidW hy
  clear hy
  by_cases hl:4000 < ks.length
  ·have hli:(4000:Int) < (ks.length:Int):=by omega
   have E1:=hidW (show RS=d from by rw [← ES.out];unfold runSb;rw [if_neg (by omega)])
   have E2:=hidW (show RC=[] from by rw [← EC.out];unfold runCb;rw [if_neg (by omega)])
   obtain ⟨b1,b2,⟨v1,v2,v3,M1,M2,o1,o2,o3,sep⟩,on,b4⟩:=R7.out
   obtain ⟨x1,y1,x2,y2,x3,y3,rfl,rfl,rfl,-⟩:=o1.src
   have BB:=hidW b1
   have O1:=hidW o1
   have ON:=hidW on
   have SEP:=hidW sep
   have z6':=b2.size
   have K6:=hidW b2
   obtain ⟨m0,m1,⟨v0,v1,v2,fs,zs⟩,⟨r0,r1,r2,fa,za⟩,ba,zz⟩:=b1
   have BA:=hidW ba
   obtain ⟨o20,o21,o22,o23,o24⟩:=o2
   clear b2 o1 o3 b4 on sep
   go_wp2
   obtain ⟨Z,hZ,bz,oz,kz⟩:=BB.out.put (.slice x1 d.ths.length y1) (.slice x2 d.chs.length y2) (.slice x3 d.tr.length y3)
   refine bodyPost_ret (v:=.tuple #[.agg #[.slice x1 d.ths.length y1,.slice x2 d.chs.length y2,.slice x3 d.tr.length y3],.slice (some ⟨w.heap.size+1+1+1,0,none⟩) 0 0]) ?_ rfl ?_
   ·rw [hZ]
    simp [results,Tryz.results8,go_sem,bz.c0,bz.c1,bz.c2]
   ·have on:OwnN Z W.heap.size (.slice (some ⟨w.heap.size+1+1+1,0,none⟩) 0 0) []:=by
     rw [← hZ]
     have nS:=own_bxS ON.out intNe BA.out
     have st:∀ (X:World) (j:Nat) (v:Value),OwnN X W.heap.size (.slice (some ⟨w.heap.size+1+1+1,0,none⟩) 0 0) []→OwnN (X.setCell ⟨w.heap.size+1+1,j,none⟩ v) W.heap.size (.slice (some ⟨w.heap.size+1+1+1,0,none⟩) 0 0) []:=fun X j v q=>ownKeep' q (fun k e=>Below.heap_setCell _ _ _ _ (fun e2=>nS (by rw [e,e2])))
     exact st _ _ _ (st _ _ _ (st _ _ _ ON.out))
    rw [hZ,E1.out,E2.out]
    exact ⟨_,_,_,_,_,_,some ⟨w.heap.size+1+1+1,0,none⟩,0,M1,M2,rfl,oz _ _ _ _ _ _ _ (O1.out.low (by omega)),ownLow' on (by omega),SEP.out,kz _ _ K6.out (by omega)⟩
  ·have hli:¬ (4000:Int) < (ks.length:Int):=by omega
   have E1:=hidW (show RS=pkD p d ks from by rw [← ES.out];unfold runSb;rw [if_pos ⟨by omega,HY.out⟩])
   have E2:=hidW (show RC=pkC p d ks from by rw [← EC.out];unfold runCb;rw [if_pos ⟨by omega,HY.out⟩])
   go_wp2_with fail
   go_loopw [8,10] (fun u i wr=>∃ k:Nat,k≤ks.length∧i=.int .i64 k∧RunC w wr W.heap.size S (.slice p1 p.caps.length a1) (.slice p2 p.bods.length a2) (.slice s1 d.ths.length c1) (.slice s2 d.chs.length c2) (.slice s3 d.tr.length c3) (pkD p d (ks.take k)) u (pkC p d (ks.take k))) (fun _ i _=>ks.length - (intOf i).toNat)
   case atStart=>exact ⟨0,Nat.zero_le _,rfl,R7.out⟩
   case round=>
    obtain ⟨k,hk,rfl,rj⟩:=hrel
    have hoj:=pkD_ok (ks.take k) HY.out
    have hfj:=pkD_fits (ks.take k) HY.out HF'.out
    have hcl:(pkC p d (ks.take k)).length=k:=by rw [pkC_len,List.length_take];omega
    have EA:=hidW (fun (e:k=ks.length)=>(show pkD p d (ks.take k)=RS∧pkC p d (ks.take k)=RC from by rw [E1.out,E2.out,e,List.take_length];exact ⟨rfl,rfl⟩))
    by_cases hlt:k < ks.length
    ·have ek:ks[k]? =some (ks.getD k 0):=by rw [List.getD_eq_getElem?_getD,List.getElem?_eq_getElem hlt];rfl
     have ED:=hidW (show pkD p d (ks.take (k+1))=stepS p (pkD p d (ks.take k)) (ks.getD k 0)∧pkC p d (ks.take (k+1))=pkC p d (ks.take k)++[stepK p (pkD p d (ks.take k)) (ks.getD k 0)] from by rw [take_one ek];exact ⟨pkD_snoc p _ _ _,pkC_snoc p _ _ _⟩)
     clear ek
     generalize pkD p d (ks.take k)=Y at rj hoj hfj EA ED
     generalize pkC p d (ks.take k)=C at rj hcl EA ED
     obtain ⟨gk,ok,es4,hgk,hck⟩:=H2.out.get hB2 rj.k hlt
     subst es4
     generalize ks.getD k 0=kk at hck ED
     have zr:=rj.k.size
     have hgk2:gk < wr.heap.size:=by omega
     have b0:(0:Int)≤(k:Int):=by omega
     have b1':(k:Int) < (ks.length:Int):=by omega
     have RJ:=hidW rj
     obtain ⟨b1,b2,⟨v1',v2',v3',L1',L2',o1,o2,o3,sep⟩,on,b4⟩:=rj
     obtain ⟨x1,y1,x2,y2,x3,y3,rfl,rfl,rfl,hsr⟩:=o1.src
     have m0:=b1.p0
     have m1:=b1.p1
     have zp:w.heap.size < wr.heap.size:=by have:=b1.zz;omega
     have HSR:=hidW hsr
     have HFJ:=hidW hfj
     have K2:=hidW b2
     have HCL:=hidW hcl
     have NO:=hidW (fun (e:¬ stepK p Y kk=0)=>stepS_no e)
     obtain ⟨KK,hKK⟩:∃ K,stepKb p Y kk=K:=⟨_,rfl⟩
     obtain ⟨DD,hDD⟩:∃ K,stepSb p Y kk=K:=⟨_,rfl⟩
     have HKK:=hidW hKK
     have HDD:=hidW hDD
     rw [← stepKb_of hoj,← stepSb_of hoj,hKK,hDD] at ED
     rw [← stepKb_of hoj,← stepSb_of hoj,hKK,hDD] at NO
     obtain ⟨q0,q1,q2,q3,q4⟩:=o2
     have qs:=hidW (on.sl)
     have ULT:=hidW (fun q e=>(World.ownsRow.lt on q e).2)
     obtain ⟨su,cu,eu⟩:=on.sl
     subst eu
     clear b1 b2 o1 o3 sep on hcl hsr hfj EA hKK hDD qs
     have RB:Hid (∀ X,Below wr.heap.size wr X→X.cell? ⟨w.heap.size,0,none⟩=some (.slice p1 p.caps.length a1)∧X.cell? ⟨w.heap.size,1,none⟩=some (.slice p2 p.bods.length a2)∧X.cell? ⟨S,0,none⟩=some (.slice x1 Y.ths.length y1)∧X.cell? ⟨S,1,none⟩=some (.slice x2 Y.chs.length y2)∧X.cell? ⟨S,2,none⟩=some (.slice x3 Y.tr.length y3)∧X.cell? ⟨gk,ok+k,none⟩=some (.int .i64 kk)):=fun X hX=>⟨(hX.cell (p:=⟨w.heap.size,0,none⟩) zp).trans m0,(hX.cell (p:=⟨w.heap.size,1,none⟩) zp).trans m1,(hX.cell (p:=⟨S,0,none⟩) q4).trans q0,(hX.cell (p:=⟨S,1,none⟩) q4).trans q1,(hX.cell (p:=⟨S,2,none⟩) q4).trans q2,(hX.cell (p:=⟨gk,ok+k,none⟩) hgk2).trans hck⟩
     have CT:Hid (∀ (X0:World) (pB:Option Nat),Below wr.heap.size wr X0→BoxA X0 pB→Calls Tryz.prog 31 #[.agg #[.slice p1 p.caps.length a1,.slice p2 p.bods.length a2],.agg #[.slice x1 Y.ths.length y1,.slice x2 Y.chs.length y2,.slice x3 Y.tr.length y3],.int .i64 kk] X0 fun e w'=>∃ (f1:Option Addr) (h1:Nat) (f2:Option Addr) (h2:Nat) (f3:Option Addr) (h3:Nat),e=.returned (.tuple #[.agg #[.slice f1 DD.ths.length h1,.slice f2 DD.chs.length h2,.slice f3 DD.tr.length h3],.int .i64 KK])∧Below wr.heap.size wr w'∧Hid (∃ L1 L2,OwnS w' wr.heap.size (.slice f1 DD.ths.length h1) (.slice f2 DD.chs.length h2) (.slice f3 DD.tr.length h3) L1 L2 DD)∧Hid (BoxA w' pB)∧w'.cell? ⟨w.heap.size,0,none⟩=some (.slice p1 p.caps.length a1)∧w'.cell? ⟨w.heap.size,1,none⟩=some (.slice p2 p.bods.length a2)∧w'.cell? ⟨S,0,none⟩=some (.slice x1 Y.ths.length y1)∧w'.cell? ⟨S,1,none⟩=some (.slice x2 Y.chs.length y2)∧w'.cell? ⟨S,2,none⟩=some (.slice x3 Y.tr.length y3)∧w'.cell? ⟨gk,ok+k,none⟩=some (.int .i64 kk)):=fun X0 pB hX hb=>(specStep_any p1 p2 x1 x2 x3 a1 a2 y1 y2 y3 lo hi W.heap.size wr.heap.size p Y kk X0 ((H.out.keep' (Keep.of_below K2.out hB)).keep' (Keep.of_below hX (by omega))) (HSR.out.keep (Keep.of_below hX (Nat.le_refl _))) (by have:=hX.size;omega) (by have:=hX.size;omega) HF.out HFJ.out).mono fun e w' hq=>by
      rw [HKK.out,HDD.out] at hq
      obtain ⟨f1,h1,f2,h2,f3,h3,L1,L2,he,ho,hb2⟩:=hq
      have kk:Below wr.heap.size wr w':=hX.trans (hb2.mono hX.size)
      exact ⟨f1,h1,f2,h2,f3,h3,he,kk,⟨L1,L2,ho.low hX.size⟩,hb.keep hb2,RB.out _ kk⟩
     have kD:Below wr.heap.size wr wr.drew:=Below.drew (Below.refl _ _)
     have hdr:∀ X:World,X.drew.heap.size=X.heap.size:=fun _=>rfl
     go_upto_region 8 with fail
     go_cut [11,12] (fun s8 s9 wx=>CutF wr DD KK s8 s9 wx)
     case first=>
      go_region_held3 (fun w'=>w'.cell? ⟨w.heap.size,0,none⟩=some (.slice p1 p.caps.length a1)∧w'.cell? ⟨w.heap.size,1,none⟩=some (.slice p2 p.bods.length a2)∧w'.cell? ⟨S,0,none⟩=some (.slice x1 Y.ths.length y1)∧w'.cell? ⟨S,1,none⟩=some (.slice x2 Y.chs.length y2)∧w'.cell? ⟨S,2,none⟩=some (.slice x3 Y.tr.length y3)∧w'.cell? ⟨gk,ok+k,none⟩=some (.int .i64 kk)) (first | exact RB.out _ (by repeat' (first | with_reducible exact kC | with_reducible exact kD | with_reducible exact Below.refl _ _ | with_reducible refine Below.drew ?_ | with_reducible refine Below.alloc ?_ (by first | omega | exact Nat.le_refl _ | (simp [hdr];done) | (simp [hdr];omega)) _ | with_reducible refine Below.setCell ?_ (by first | omega | exact Nat.le_refl _ | (simp [hdr];done) | (simp [hdr];omega)) _)) | go_keep) (first | (go_at_call 31;with_reducible refine (CT.out _ _ (by repeat' (first | with_reducible exact kC | with_reducible exact kD | with_reducible exact Below.refl _ _ | with_reducible refine Below.drew ?_ | with_reducible refine Below.alloc ?_ (by first | omega | exact Nat.le_refl _ | (simp [hdr];done) | (simp [hdr];omega)) _ | with_reducible refine Below.setCell ?_ (by first | omega | exact Nat.le_refl _ | (simp [hdr];done) | (simp [hdr];omega)) _)) (by first | with_reducible exact boxAD (boxA0 _) | with_reducible exact boxA0 _ | with_reducible exact boxAN _)).mono ?_;rintro e wC ⟨f1,h1,f2,h2,f3,h3,rfl,kC,OC,HBC,yC0,yC1,yC2,yC3,yC4,yC5⟩;have zC:=kC.size;(try obtain ⟨⟨b0',b1',b2',bf',b9⟩,-⟩:=boxAS HBC.out)) | fail)
      all_goals
       go_wp2_with fail
       go_meet
       first
        | with_reducible exact cutF_new OC.out kC
        | with_reducible exact cutF_set (boxAS HBC.out) (by omega) OC.out kC
     case rest=>
      obtain ⟨bo,f1,h1,f2,h2,f3,h3,rfl,rfl,hbo,hbx,⟨N1,N2,hon⟩,hk8⟩:=hcut
      obtain ⟨w8,hw8⟩:∃ z,z=wc:=⟨_,rfl⟩
      subst hw8
      have RT:=hidW (RJ.out.keep hk8)
      have ON8:=hidW hon
      have BX8:=hidW hbx
      have z8:=hk8.size
      have hbz:=hbx.z
      clear RB CT kD hdr hk8 hon hbx m0 m1 q0 q1 q2 hck RJ
      by_cases hK:KK=0
      ·subst hK
       go_wp2_with (at_builtin;refine app_one rfl _ _ rfl w8 0 W.heap.size (.slice su C.length cu) C rfl RT.out.n rfl (by have:=HCL.out;omega) RT.out.m ?_;intro g5 cap5 w9 ho5 hb5 hf5;have RA:=hidW (RT.out.app (by omega) ho5 hb5 hf5);have F5:=hidW hf5;have z9:=hb5.size;have bo9:w9.heap[bo]? =w8.heap[bo]? :=(hf5 bo hbz (fun e=>by have:=ULT.out _ e;omega)).1;have B9:=hidW (BX8.out.keep bo9 z9);have y0:=B9.out.c0;have y1':=B9.out.c1;have y2':=B9.out.c2;have hbz9:=B9.out.z;obtain ⟨-,-,⟨g1,g2,g3,_,_,_,oS,_,_⟩,_,_⟩:=RA.out;have q0:=oS.c0;have q1:=oS.c1;have q2:=oS.c2;have qf:=oS.f;have qz:=oS.z;clear ho5 hb5 hf5 bo9 oS)
       go_roundw
       case rel=>exact ⟨k+1,by omega,by go_num,by
        rw [ED.out.1,ED.out.2]
        have no:∀ q,HitS (.slice f1 DD.ths.length h1) (.slice f2 DD.chs.length h2) (.slice f3 DD.tr.length h3) N1 N2 q→w9.heap[q]? =w8.heap[q]? ∧q≠g5:=fun q hh=>F5.out q (ON8.out.hit hh).2 (fun e=>by have:=ULT.out _ e;have:=(ON8.out.hit hh).1;omega)
        exact RA.out.put (by omega) hSb2 ((ON8.out.keepB (fun q hh=>(no q hh).1)).low b4) (fun q e hh=>by
         simp only [Value.ownBlock,Option.some.injEq] at e
         exact (no q hh).2 e.symm)⟩
       case measure=>simp [intOf];omega
      ·have hK0:(KK==0)=false:=by simp [hK]
       have ED2:=hidW (show pkD p d (ks.take (k+1))=Y from ED.out.1.trans (NO.out hK))
       go_wp2_with (at_builtin;refine app_one rfl _ _ rfl w8 KK W.heap.size (.slice su C.length cu) C rfl RT.out.n rfl (by have:=HCL.out;omega) RT.out.m ?_;intro g5 cap5 w9 ho5 hb5 hf5;have RA:=hidW (RT.out.app (by omega) ho5 hb5 hf5);have F5:=hidW hf5;have z9:=hb5.size;have bo9:w9.heap[bo]? =w8.heap[bo]? :=(hf5 bo hbz (fun e=>by have:=ULT.out _ e;omega)).1;have B9:=hidW (BX8.out.keep bo9 z9);have y0:=B9.out.c0;have y1':=B9.out.c1;have y2':=B9.out.c2;have hbz9:=B9.out.z;obtain ⟨-,-,⟨g1,g2,g3,_,_,_,oS,_,_⟩,_,_⟩:=RA.out;have q0:=oS.c0;have q1:=oS.c1;have q2:=oS.c2;have qf:=oS.f;have qz:=oS.z;clear ho5 hb5 hf5 bo9 oS)
       go_roundw
       case rel=>exact ⟨k+1,by omega,by go_num,by rw [ED2.out,ED.out.2];exact RA.out⟩
       case measure=>simp [intOf];omega
    ·have ek:k=ks.length:=by omega
     obtain ⟨e1',e2'⟩:=EA.out ek
     rw [e1',e2'] at rj
     clear e1' e2' hoj hcl hfj EA ek
     obtain ⟨b1,b2,⟨v1,v2,v3,M1,M2,o1,o2,o3,sep⟩,on,b4⟩:=rj
     obtain ⟨x1,y1,x2,y2,x3,y3,rfl,rfl,rfl,-⟩:=o1.src
     obtain ⟨su,cu,eu⟩:=on.sl
     subst eu
     have BB:=hidW b1
     have O1:=hidW o1
     have ON:=hidW on
     have SEP:=hidW sep
     have z6':=b2.size
     have K6:=hidW b2
     obtain ⟨m0,m1,⟨v0,v1,v2,fs,zs⟩,⟨r0,r1,r2,fa,za⟩,ba,zz⟩:=b1
     have BA:=hidW ba
     obtain ⟨o20,o21,o22,o23,o24⟩:=o2
     clear b2 o1 o3 b4 on sep
     go_wp2
     obtain ⟨Z,hZ,bz,oz,kz⟩:=BB.out.put (.slice x1 RS.ths.length y1) (.slice x2 RS.chs.length y2) (.slice x3 RS.tr.length y3)
     refine bodyPost_ret (v:=.tuple #[.agg #[.slice x1 RS.ths.length y1,.slice x2 RS.chs.length y2,.slice x3 RS.tr.length y3],.slice su RC.length cu]) ?_ rfl ?_
     ·rw [hZ]
      simp [results,Tryz.results8,go_sem,bz.c0,bz.c1,bz.c2]
     ·have on:OwnN Z W.heap.size (.slice su RC.length cu) RC:=by
       rw [← hZ]
       have nS:=own_bxS ON.out intNe BA.out
       have st:∀ (X:World) (j:Nat) (v:Value),OwnN X W.heap.size (.slice su RC.length cu) RC→OwnN (X.setCell ⟨w.heap.size+1+1,j,none⟩ v) W.heap.size (.slice su RC.length cu) RC:=fun X j v q=>ownKeep' q (fun k e=>Below.heap_setCell _ _ _ _ (fun e2=>nS (by rw [e,e2])))
       exact st _ _ _ (st _ _ _ (st _ _ _ ON.out))
      rw [hZ]
      exact ⟨_,_,_,_,_,_,su,cu,M1,M2,rfl,oz _ _ _ _ _ _ _ (O1.out.low (by omega)),ownLow' on (by omega),SEP.out,kz _ _ K6.out (by omega)⟩
end
end Go.Proofs.YtknffngbdakblaaGreat
