/- Fair of the program. Conditions: program and source fit. -/
import Derived.Test.YtknffngbdakblaaGreatJG00
import Derived.Test.YtknffngbdakblaaGreatJG11
import Derived.Test.YtknffngbdakblaaGreatJG07
import Derived.Test.YtknffngbdakblaaGreatJG16
import Derived.Test.YtknffngbdakblaaGreatJG06
import Derived.Test.YtknffngbdakblaaGreatJG08
import Derived.Test.YtknffngbdakblaaGreatJG12
import Derived.Test.YtknffngbdakblaaGreatJG01
import Derived.Test.YtknffngbdakblaaGreatJG21
import Derived.Test.YtknffngbdakblaaGreatJG09
import Derived.Test.YtknffngbdakblaaGreatJSrcDup
namespace Go.Proofs.YtknffngbdakblaaGreat
set_option linter.unusedSimpArgs false
set_option linter.unusedVariables false
set_option maxRecDepth 100000
open Go.RowKit
set_option maxHeartbeats 2000000 in
theorem implFair_bad (p1 p2 s1 s2 s3 : Option Addr) (a1 a2 c1 c2 c3 lo hi lo' hi' : Nat) (p : PD) (d : SD) (rr : Int) (w : World) (h : ProgR w lo hi p1 p2 p) (h' : SrcR w lo' hi' s1 s2 s3 d) (hB : hi ≤ w.heap.size) (hB' : hi' ≤ w.heap.size) (hf : Fits p) (hf' : SFits d) (hy : srcB p d = false) :
  Calls Tryz.prog 11 #[.agg #[.slice p1 p.caps.length a1,.slice p2 p.bods.length a2],.agg #[.slice s1 d.ths.length c1,.slice s2 d.chs.length c2,.slice s3 d.tr.length c3],.int .i64 rr] w (SStepQ w 0 ⟨[],[],[]⟩):=by
 have HY:=hidW hy
 clear hy
 obtain ⟨W,hW⟩:∃ W,((w.alloc (.cells #[.slice p1 p.caps.length a1,.slice p2 p.bods.length a2] 27)).alloc (.cells #[.slice s1 d.ths.length c1,.slice s2 d.chs.length c2,.slice s3 d.tr.length c3] 32)).alloc (.cells #[.slice none 0 0,.slice none 0 0,.slice none 0 0] 32)=W:=⟨_,rfl⟩
 obtain ⟨bc,kW⟩:=br_new hW
 have HW:=hidW hW
 have H:=hidW h
 have H':=hidW h'
 have HF:=hidW hf
 have HF':=hidW hf'
 have BC0:=hidW bc
 have KW:=hidW kW
 have zW:=kW.size
 obtain ⟨m0,m1,⟨v0,v1,v2,fs,zs⟩,⟨r0,r1,r2,fa,za⟩,ba,zz⟩:=bc
 clear hW kW h h' hf hf'
 go_enter Tryz.func11,Tryz.ntmps11
 go_wp2_with fail
 rw [HW.out]
 refine (implSource_any p1 p2 s1 s2 s3 a1 a2 c1 c2 c3 lo hi lo' hi' p d W (H.out.keep' (Keep.of_below KW.out hB)) (H'.out.keep (Keep.of_below KW.out hB')) (by omega) (by omega) HF.out HF'.out).mono ?_
 rintro e w1 ⟨rfl,hb1⟩
 rw [HY.out]
 have bc1:=BC0.out.below hb1 zz
 have BC:=hidW bc1
 have K1:=hidW (KW.out.trans (hb1.mono (by omega)))
 have z1:=hb1.size
 clear hb1 m0 m1 v0 v1 v2 fs zs r0 r1 r2 fa za ba zz
 obtain ⟨m0,m1,⟨v0,v1,v2,fs,zs⟩,⟨r0,r1,r2,fa,za⟩,ba,zz⟩:=bc1
 go_wp2
 obtain ⟨Z,hZ,bz,oz,kz⟩:=BC.out.put (.slice none 0 0) (.slice none 0 0) (.slice none 0 0)
 refine bodyPost_ret (v:=.tuple #[.agg #[.slice none 0 0,.slice none 0 0,.slice none 0 0],.int .i64 0]) ?_ rfl ?_
 ·rw [hZ]
  simp [results,Tryz.results11,go_sem,bz.c0,bz.c1,bz.c2]
 ·rw [hZ]
  exact ⟨none,0,none,0,none,0,[],[],rfl,oz _ _ _ _ _ _ _ (OwnS.nil _ _),kz _ _ K1.out (by omega)⟩
set_option maxHeartbeats 4000000 in
theorem implFair_go (p1 p2 s1 s2 s3 : Option Addr) (a1 a2 c1 c2 c3 lo hi lo' hi' : Nat) (p : PD) (d : SD) (rr : Int) (w : World) (h : ProgR w lo hi p1 p2 p) (h' : SrcR w lo' hi' s1 s2 s3 d) (hB : hi ≤ w.heap.size) (hB' : hi' ≤ w.heap.size) (hf : Fits p) (hf' : SFits d) (hy : srcB p d = true) :
  Calls Tryz.prog 11 #[.agg #[.slice p1 p.caps.length a1,.slice p2 p.bods.length a2],.agg #[.slice s1 d.ths.length c1,.slice s2 d.chs.length c2,.slice s3 d.tr.length c3],.int .i64 rr] w (SStepQ w ((fairX p d rr).2:Int) (fairX p d rr).1):=by
 have HX:=hidW (show fairX p d rr=rdN p p.bods.length (d,0) (rounds rr) from rfl)
 obtain ⟨FX,hFX⟩:∃ K,fairX p d rr=K:=⟨_,rfl⟩
 rw [hFX] at HX ⊢
 clear hFX
 have HY:=hidW hy
 have HR:=hidW (right_of hy)
 obtain ⟨n,hn⟩:∃ n,p.bods.length=n:=⟨_,rfl⟩
 rw [hn] at HX
 have hn4:n≤4:=by have:=(right_of hy).pb;omega
 have HN:=hidW hn
 have HRD:=hidW (fun r=>rdN_ok (p:=p) (n:=n) (x:=(d,0)) hy r)
 have HLE:=hidW (fun r=>rdN_le p n (d,0) r)
 clear hy hn
 obtain ⟨W,hW⟩:∃ W,((w.alloc (.cells #[.slice p1 p.caps.length a1,.slice p2 p.bods.length a2] 27)).alloc (.cells #[.slice s1 d.ths.length c1,.slice s2 d.chs.length c2,.slice s3 d.tr.length c3] 32)).alloc (.cells #[.slice none 0 0,.slice none 0 0,.slice none 0 0] 32)=W:=⟨_,rfl⟩
 obtain ⟨bc,kW⟩:=br_new hW
 have HW:=hidW hW
 have H:=hidW h
 have H':=hidW h'
 have HF:=hidW hf
 have HF':=hidW hf'
 have BC0:=hidW bc
 have KW:=hidW kW
 have zW:=kW.size
 obtain ⟨m0,m1,⟨v0,v1,v2,fs,zs⟩,⟨r0,r1,r2,fa,za⟩,ba,zz⟩:=bc
 clear hW kW h h' hf hf'
 go_enter Tryz.func11,Tryz.ntmps11
 go_wp2_with fail
 rw [HW.out]
 refine (implSource_any p1 p2 s1 s2 s3 a1 a2 c1 c2 c3 lo hi lo' hi' p d W (H.out.keep' (Keep.of_below KW.out hB)) (H'.out.keep (Keep.of_below KW.out hB')) (by omega) (by omega) HF.out HF'.out).mono ?_
 rintro e w1 ⟨rfl,hb1⟩
 rw [HY.out]
 have bc1:=BC0.out.below hb1 zz
 have BC:=hidW bc1
 have K1:=hidW (KW.out.trans (hb1.mono (by omega)))
 have z1:=hb1.size
 clear hb1 m0 m1 v0 v1 v2 fs zs r0 r1 r2 fa za ba zz
 obtain ⟨m0,m1,⟨v0,v1,v2,fs,zs⟩,⟨r0,r1,r2,fa,za⟩,ba,zz⟩:=bc1
 go_wp2_with fail
 refine (implDup_any s1 s2 s3 c1 c2 c3 lo' hi' d w1 (H'.out.keep (Keep.of_below K1.out hB')) (by omega) HF'.out).mono ?_
 rintro e w5 ⟨u1,u2,u3,L1,L2,rfl,ho5,hb5⟩
 obtain ⟨t1,e1,t2,e2,t3,e3,rfl,rfl,rfl,-⟩:=ho5.src
 obtain ⟨W6,hW6,b6,k6,z6⟩:=BoF.new w5 (.slice t1 d.ths.length e1) (.slice t2 d.chs.length e2) (.slice t3 d.tr.length e3) 32
 have z5:=hb5.size
 obtain ⟨S,hS,hSb,zS⟩:∃ S,w5.heap.size=S∧w1.heap.size≤S∧S < W6.heap.size:=⟨_,rfl,z5,by omega⟩
 have RI:=hidW (show RunI w W6 w1.heap.size S (.slice p1 p.caps.length a1) (.slice p2 p.bods.length a2) (.slice s1 d.ths.length c1) (.slice s2 d.chs.length c2) (.slice s3 d.tr.length c3) d from
  ⟨(BC.out.below hb5 zz).below k6 (by omega),(K1.out.trans (hb5.mono (by omega))).trans (k6.mono (by omega)),⟨_,_,_,L1,L2,ho5.keep (fun q _ hq=>k6.block q hq),hS▸b6,⟨_,_,by rw [← hW6,← hS];exact heap_alloc_new _ _⟩⟩,by omega⟩)
 have HW6:=hidW hW6
 have HS6:=hidW hS
 have zz1:=zz
 have hlen:=(HR.out.tl).trans HN.out
 have HLN:=hidW hlen
 clear ho5 hb5 hW6 b6 k6 z6 z5 hS m0 m1 v0 v1 v2 fs zs r0 r1 r2 fa za ba zz hlen
 obtain ⟨M,hM,hM2⟩:∃ M:Int,(if 200 < rr then (200:Int) else rr)=M∧M.toNat=rounds rr:=⟨_,rfl,by unfold rounds;split<;>omega⟩
 have hR2:M.toNat≤200:=by rw [hM2];exact rounds_le rr
 rw [← hM2] at HX
 clear hM2
 go_wp2_with fail
 rw [HW6.out,HS6.out]
 clear hM
 go_loopw [9,20] (fun c i wr=>∃ r:Nat,r≤M.toNat∧i=.int .i64 r∧c=.int .i64 ((rdN p n (d,0) r).2:Int)∧RunI w wr w1.heap.size S (.slice p1 p.caps.length a1) (.slice p2 p.bods.length a2) (.slice s1 d.ths.length c1) (.slice s2 d.chs.length c2) (.slice s3 d.tr.length c3) (rdN p n (d,0) r).1) (fun _ i _=>M.toNat - (intOf i).toNat)
 case atStart=>exact ⟨0,Nat.zero_le _,rfl,rfl,RI.out⟩
 case round=>
  obtain ⟨wo,hwo⟩:∃ wo:World,wo=wr:=⟨_,rfl⟩
  subst hwo
  obtain ⟨r,hr,rfl,rfl,ri⟩:=hrel
  have hok:=HRD.out r
  have hle:=HLE.out r
  have EX:=hidW (show goN p (rdN p n (d,0) r) n=rdN p n (d,0) (r+1) from rfl)
  have EE:=hidW (fun (e:r=M.toNat)=>(show rdN p n (d,0) r=FX from by rw [HX.out,e]))
  generalize rdN p n (d,0) r=X at ri hok hle EX EE ⊢
  have hx2:X.2≤800:=by
   have h1:r * n≤200 * 4:=Nat.mul_le_mul (by omega) hn4
   have h2:X.2≤0+r * n:=hle
   omega
  have HOK:=hidW hok
  have eN:=(srcB_ths hok).1.trans HN.out
  have RI2:=hidW ri
  obtain ⟨b1,b2,⟨v1,v2,v3,L1,L2,o1,o2,o3⟩,b4⟩:=ri
  obtain ⟨x1,y1,x2,y2,x3,y3,rfl,rfl,rfl,-⟩:=o1.src
  have O1:=hidW o1
  have BB:=hidW b1
  have o2':=o2
  rw [eN] at o2'
  obtain ⟨o20,o21,o22,o23,o24⟩:=o2'
  clear hok hle b1 b2 o1 b4 eN
  by_cases hlt:r < M.toNat
  ·have hrM:(r:Int) < M:=by omega
   clear o2
   go_wp2
   go_loopw [9,25] (fun c i wz=>∃ k:Nat,k≤n∧i=.int .i64 k∧c=.int .i64 ((goN p X k).2:Int)∧RunI w wz w1.heap.size S (.slice p1 p.caps.length a1) (.slice p2 p.bods.length a2) (.slice s1 d.ths.length c1) (.slice s2 d.chs.length c2) (.slice s3 d.tr.length c3) (goN p X k).1) (fun _ i _=>n - (intOf i).toNat)
   case atStart=>exact ⟨0,Nat.zero_le _,rfl,rfl,RI2.out⟩
   case round=>
    obtain ⟨wq,hwq⟩:∃ wq:World,wq=wr:=⟨_,rfl⟩
    subst hwq
    obtain ⟨k,hk,rfl,rfl,rj⟩:=hrel
    have hoj:=goN_ok HOK.out k
    have hlj:=goN_le p X k
    have EG:=hidW (show goN p X (k+1)=go1 p (goN p X k) k from rfl)
    have EL:=hidW (fun (e:k=n)=>(show goN p X k=goN p X n from by rw [e]))
    clear o20 o21 o22 o23 o24
    generalize goN p X k=Y at rj hoj hlj EG EL ⊢
    by_cases hkn:k < n
    ·have hki:(k:Int) < (n:Int):=by omega
     have RJ:=hidW rj
     obtain ⟨b1,b2,⟨v1',v2',v3',L1',L2',o1,o2,o3⟩,b4⟩:=rj
     have m0:=b1.p0
     have m1:=b1.p1
     have T:=hidW (turnIn_any p1 p2 a1 a2 lo hi w1.heap.size S p v1' v2' v3' L1' L2' Y.1 k wq (H.out.keep' (Keep.of_below b2 hB)) (by omega) o1 o2 o3 b4 (right_of hoj) hSb)
     clear b1 b2 o1 o2 o3 b4
     go_wp2_with fail
     refine Calls.mono T.out ?_
     rintro e w7 ⟨rfl,s4,n4,c4,M1,M2,tq⟩
     have RT:=hidW (RJ.out.turn (by omega) tq)
     have EG2:=EG.out
     unfold go1 at EG2
     have EG:=hidW EG2
     clear tq T RJ EG2
     obtain ⟨KK,hKK⟩:∃ K,stepK p Y.1 k=K:=⟨_,rfl⟩
     rw [hKK] at EG ⊢
     clear hKK
     by_cases hK:KK=0
     ·subst hK
      have EG:=hidW (show goN p X (k+1)=(stepS p Y.1 k,Y.2+1) from EG.out)
      go_wp2
      go_roundw
      case rel=>exact ⟨k+1,by omega,by go_num,by rw [EG.out];go_num,by rw [EG.out];exact RT.out⟩
      case measure=>simp [intOf];omega
     ·have EG:=hidW (show goN p X (k+1)=(stepS p Y.1 k,Y.2) from by rw [EG.out,if_neg hK])
      have hK0:(KK==0)=false:=by simp [hK]
      go_wp2
      go_roundw
      case rel=>exact ⟨k+1,by omega,by go_num,by rw [EG.out],by rw [EG.out];exact RT.out⟩
      case measure=>simp [intOf];omega
    ·have ek:k=n:=by omega
     have RJ:=hidW rj
     have EY:=hidW ((EL.out ek).trans EX.out)
     clear rj
     go_wp2
     go_roundw
     case rel=>exact ⟨r+1,by omega,by go_num,by rw [← EY.out],by rw [← EY.out];exact RJ.out⟩
     case measure=>simp [intOf];omega
  ·have er:r=M.toNat:=by omega
   have hrM:¬ (r:Int) < M:=by omega
   have E9:=hidW (EE.out er)
   clear er
   obtain ⟨r0,r1,r2,fa,za⟩:=BB.out.a
   obtain ⟨o20',o21',o22',-,-⟩:=o2
   clear o20 o21 o22 o23 o24
   go_wp2
   obtain ⟨Z,hZ,bz,oz,kz⟩:=BB.out.put (.slice x1 X.1.ths.length y1) (.slice x2 X.1.chs.length y2) (.slice x3 X.1.tr.length y3)
   refine bodyPost_ret (v:=.tuple #[.agg #[.slice x1 X.1.ths.length y1,.slice x2 X.1.chs.length y2,.slice x3 X.1.tr.length y3],.int .i64 (X.2:Int)]) ?_ rfl ?_
   ·rw [hZ]
    simp [results,Tryz.results11,go_sem,bz.c0,bz.c1,bz.c2]
   ·rw [hZ,← E9.out]
    exact ⟨_,_,_,_,_,_,L1,L2,rfl,oz _ _ _ _ _ _ _ (O1.out.low (by omega)),kz _ _ RI2.out.k (by omega)⟩
theorem implFair_any (p1 p2 s1 s2 s3 : Option Addr) (a1 a2 c1 c2 c3 lo hi lo' hi' : Nat) (p : PD) (d : SD) (rr : Int) (w : World) (h : ProgR w lo hi p1 p2 p) (h' : SrcR w lo' hi' s1 s2 s3 d) (hB : hi ≤ w.heap.size) (hB' : hi' ≤ w.heap.size) (hf : Fits p) (hf' : SFits d) :
  Calls Tryz.prog 11 #[.agg #[.slice p1 p.caps.length a1,.slice p2 p.bods.length a2],.agg #[.slice s1 d.ths.length c1,.slice s2 d.chs.length c2,.slice s3 d.tr.length c3],.int .i64 rr] w (SStepQ w (fairKb p d rr) (fairSb p d rr)):=by
 unfold fairKb fairSb
 by_cases hy:srcB p d=true
 ·rw [if_pos hy,if_pos hy]
  exact implFair_go p1 p2 s1 s2 s3 a1 a2 c1 c2 c3 lo hi lo' hi' p d rr w h h' hB hB' hf hf' hy
 ·rw [if_neg hy,if_neg hy]
  exact implFair_bad p1 p2 s1 s2 s3 a1 a2 c1 c2 c3 lo hi lo' hi' p d rr w h h' hB hB' hf hf' (by simpa using hy)
end Go.Proofs.YtknffngbdakblaaGreat
