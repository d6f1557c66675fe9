/- The law FnRun of the given statements: a run of drawn steps is a part of them, and then the rest; fair rounds are, too. No condition. -/
import Derived.Test.YtknffngbdakblaaGreatRows
import Derived.Test.YtknffngbdakblaaGreatJRunDraw
import Derived.Test.YtknffngbdakblaaGreatJG22
import Derived.Test.YtknffngbdakblaaGreatJSameSrc
import Derived.Test.YtknffngbdakblaaGreatJG07
import Derived.Test.YtknffngbdakblaaGreatJG23
import Derived.Test.YtknffngbdakblaaGreatJFairIm
import Derived.Test.YtknffngbdakblaaGreatJG21
import Derived.Deep.RegionHeld3
import Derived.Deep.DeepCutAuto
import Derived.ProofKit
import Derived.OpenShut
import Derived.ShutString
import Derived.ChangeOld
import Derived.ChangeSlices
namespace Go.Proofs.YtknffngbdakblaaGreat
set_option linter.unusedSimpArgs false
set_option linter.unusedVariables false
set_option maxRecDepth 100000
open Go.ChangeShapes Go.WideShapes Go.ChangeAt Go.RowKit Go.Deep
structure Fp (bP lo hi:Nat) (p1 p2:Option Addr) (a1 a2:Nat) (p:PD) (X:World):Prop where
 b:BoP bP X (.slice p1 p.caps.length a1) (.slice p2 p.bods.length a2)
 r:ProgR X lo hi p1 p2 p
 h:hi≤X.heap.size
structure Fz (bS lo hi:Nat) (s1 s2 s3:Option Addr) (c1 c2 c3:Nat) (D:SD) (X:World):Prop where
 b:BoF bS X (.slice s1 D.ths.length c1) (.slice s2 D.chs.length c2) (.slice s3 D.tr.length c3)
 r:SrcR X lo hi s1 s2 s3 D
 h:hi≤X.heap.size
structure Fi (lo hi:Nat) (s:Option Addr) (l:List Int) (X:World):Prop where
 r:IntsR X lo hi s l
 h:hi≤X.heap.size
theorem Fp.keep {bP lo hi:Nat} {p1 p2:Option Addr} {a1 a2:Nat} {p:PD} {X Y:World} (h:Fp bP lo hi p1 p2 a1 a2 p X) (k:Below X.heap.size X Y):Fp bP lo hi p1 p2 a1 a2 p Y:=
 ⟨h.b.keep (k.block _ h.b.z) k.size,ProgR.keep' h.r (Keep.of_below k h.h),Nat.le_trans h.h k.size⟩
theorem Fz.keep {bS lo hi:Nat} {s1 s2 s3:Option Addr} {c1 c2 c3:Nat} {D:SD} {X Y:World} (h:Fz bS lo hi s1 s2 s3 c1 c2 c3 D X) (k:Below X.heap.size X Y):Fz bS lo hi s1 s2 s3 c1 c2 c3 D Y:=
 ⟨h.b.below k h.b.z,h.r.keep (Keep.of_below k h.h),Nat.le_trans h.h k.size⟩
theorem Fi.keep {lo hi:Nat} {s:Option Addr} {l:List Int} {X Y:World} (h:Fi lo hi s l X) (k:Below X.heap.size X Y):Fi lo hi s l Y:=
 ⟨h.r.keep (Keep.of_below k h.h),Nat.le_trans h.h k.size⟩
theorem Fi.ints {lo hi:Nat} {s:Option Addr} {l:List Int} {X:World} (h:Fi lo hi s l X):Ints X s l:=by
 rcases h.r with e | ⟨g,o,e,-,h2,hc⟩
 ·exact .inl e
 ·exact .inr ⟨g,o,e,Nat.lt_of_lt_of_le h2 h.h,hc⟩
theorem OwnS.srcR {w:World} {base:Nat} {x1 x2 x3:Option Addr} {y1 y2 y3:Nat} {L1 L2:List (Rec×Value)} {D:SD} (h:OwnS w base (.slice x1 D.ths.length y1) (.slice x2 D.chs.length y2) (.slice x3 D.tr.length y3) L1 L2 D):SrcR w base w.heap.size x1 x2 x3 D:=by
 obtain ⟨a1,b1,a2,b2,a3,b3,e1,e2,e3,r⟩:=h.src
 injection e1 with e1 _ _
 injection e2 with e2 _ _
 injection e3 with e3 _ _
 rw [e1,e2,e3]
 exact r
theorem own_cap {w:World} {b cu:Nat} {su:Option Addr} {l:List Int} (h:OwnN w b (.slice su l.length cu) l):l.length≤cu:=by
 rcases h.2 with ⟨e,hl⟩ | ⟨g,cap,cur,e,_,_,hnc,_⟩
 ·injection e with _ e2 e3
  omega
 ·injection e with _ e2 e3
  subst e3
  exact hnc
theorem OwnN.intsS {w:World} {base c:Nat} {s:Option Addr} {l:List Int} (h:OwnN w base (.slice s l.length c) l):IntsR w base w.heap.size s l:=by
 rcases Nat.eq_zero_or_pos l.length with h0 | hp
 ·exact .inl (List.length_eq_zero_iff.1 h0)
 ·obtain ⟨g,cap,e,-⟩:=World.ownsRow.form h hp
  injection e with e1 _ _
  subst e1
  have hlt:=World.ownsRow.lt h g rfl
  exact .inr ⟨g,0,rfl,hlt.1,hlt.2,fun i hi=>by rw [Nat.zero_add];exact OwnN.cell h hi⟩
theorem Fi.takeR {lo hi:Nat} {s:Option Addr} {l:List Int} {X:World} (k:Nat) (h:Fi lo hi s l X):Fi lo hi s (l.take k) X:=by
 refine ⟨?_,h.h⟩
 rcases h.r with e | ⟨g,o,e,h1,h2,hc⟩
 ·exact .inl (by rw [e];simp)
 ·refine .inr ⟨g,o,e,h1,h2,fun i hi=>?_⟩
  rw [List.length_take] at hi
  rw [hc i (by omega),List.getD_eq_getElem?_getD,List.getD_eq_getElem?_getD,List.getElem?_take_of_lt (by omega)]
theorem Fi.dropR {lo hi:Nat} {s:Option Addr} {l:List Int} {X:World} {k cu:Nat} (hk:k≤l.length) (hu:l.length≤cu) (h:Fi lo hi s l X):Fi lo hi (if cu=k then s else s.map (·.add k)) (l.drop k) X:=by
 refine ⟨?_,h.h⟩
 by_cases hc:cu=k
 ·exact .inl (List.drop_eq_nil_of_le (by omega))
 ·rw [if_neg hc]
  rcases h.r with e | ⟨g,o,e,h1,h2,hc⟩
  ·exact .inl (by rw [e];simp)
  ·refine .inr ⟨g,o+k,?_,h1,h2,fun i hi=>?_⟩
   ·rw [e]
    by_cases h0:k=0
    ·subst h0;rfl
    ·simp [Addr.add,h0]
   ·rw [List.length_drop] at hi
    rw [Nat.add_assoc,hc (k+i) (by omega),List.getD_eq_getElem?_getD,List.getD_eq_getElem?_getD,List.getElem?_drop]
def CutR (W:World) (D:SD) (C:List Int) (s8 s9:Value) (wc:World):Prop:=∃ (bo lo hi lo' hi':Nat) (x1:Option Addr) (y1:Nat) (x2:Option Addr) (y2:Nat) (x3:Option Addr) (y3:Nat) (x4:Option Addr) (y4:Nat),s8=.pointer (some ⟨bo,0,none⟩)∧s9=.slice x4 C.length y4∧Fz bo lo hi x1 x2 x3 y1 y2 y3 D wc∧Fi lo' hi' x4 C wc∧Below W.heap.size W wc
theorem cutR_new {W wM:World} {D:SD} {C:List Int} {x1 x2 x3 x4:Option Addr} {y1 y2 y3 y4:Nat} (q:∃ L1 L2,OwnS wM W.heap.size (.slice x1 D.ths.length y1) (.slice x2 D.chs.length y2) (.slice x3 D.tr.length y3) L1 L2 D) (n:OwnN wM W.heap.size (.slice x4 C.length y4) C) (kk:Below W.heap.size W wM):CutR W D C (.pointer (some ⟨wM.heap.size,0,none⟩)) (.slice x4 C.length y4) (wM.alloc (.cells #[.slice x1 D.ths.length y1,.slice x2 D.chs.length y2,.slice x3 D.tr.length y3] 32)):=by
 obtain ⟨Y,hY,x,kY,zY⟩:=BoF.new wM (.slice x1 D.ths.length y1) (.slice x2 D.chs.length y2) (.slice x3 D.tr.length y3) 32
 rw [hY]
 obtain ⟨L1,L2,o1⟩:=q
 exact ⟨wM.heap.size,_,_,_,_,x1,y1,x2,y2,x3,y3,x4,y4,rfl,rfl,⟨x,(o1.keep (fun b _ h1=>kY.block b h1)).srcR,Nat.le_refl _⟩,⟨OwnN.intsS (n.keep (fun b _ h1=>kY.block b h1)),Nat.le_refl _⟩,kk.trans (kY.mono kk.size)⟩
theorem cutR_set {W wM:World} {D:SD} {C:List Int} {bo:Nat} {x1 x2 x3 x4:Option Addr} {y1 y2 y3 y4:Nat} (b:BoF bo wM (.slice none 0 0) (.slice none 0 0) (.slice none 0 0)∧BxS wM bo) (hbo:W.heap.size≤bo) (q:∃ L1 L2,OwnS wM W.heap.size (.slice x1 D.ths.length y1) (.slice x2 D.chs.length y2) (.slice x3 D.tr.length y3) L1 L2 D) (n:OwnN wM W.heap.size (.slice x4 C.length y4) C) (kk:Below W.heap.size W wM):CutR W D C (.pointer (some ⟨bo,0,none⟩)) (.slice x4 C.length y4) (((wM.setCell ⟨bo,0,none⟩ (.slice x1 D.ths.length y1)).setCell ⟨bo,1,none⟩ (.slice x2 D.chs.length y2)).setCell ⟨bo,2,none⟩ (.slice x3 D.tr.length y3)):=by
 have B:=b.2
 obtain ⟨L1,L2,o1⟩:=q
 have bb:=((b.1.set0 (.slice x1 D.ths.length y1)).set1 (.slice x2 D.chs.length y2)).set2 (.slice x3 D.tr.length y3)
 have nS:=own_bxS n intNe B
 have st:∀ (X:World) (j:Nat) (v:Value),OwnN X W.heap.size (.slice x4 C.length y4) C→OwnN (X.setCell ⟨bo,j,none⟩ v) W.heap.size (.slice x4 C.length y4) C:=fun X j v q=>ownKeep' q (fun k e=>Below.heap_setCell _ _ _ _ (fun e2=>nS (by rw [e,e2])))
 exact ⟨bo,_,_,_,_,x1,y1,x2,y2,x3,y3,x4,y4,rfl,rfl,⟨bb,(((o1.offB B).offB B.set).offB B.set.set).srcR,Nat.le_refl _⟩,⟨OwnN.intsS (st _ _ _ (st _ _ _ (st _ _ _ n))),Nat.le_refl _⟩,((kk.setCell (p:=⟨bo,_,none⟩) hbo _).setCell (p:=⟨bo,_,none⟩) hbo _).setCell (p:=⟨bo,_,none⟩) hbo _⟩
theorem at_one (s:Option Addr) (n c:Nat) (w:World) (h:Bytes w w.heap.size s n) (hn:n≤1048576):Calls Tryz.prog 15 #[.slice s n c,.int .i64 1] w fun e w'=>∃ x:Int,e=.returned (.int .i64 x)∧0≤x∧x≤255∧w'=w:=by
 by_cases hlt:(1:Int) < (n:Int)
 ·rcases h with rfl | ⟨g,o,rfl,hg,hc⟩
  ·omega
  obtain ⟨b,h1,h2,h3⟩:=hc 1 (by omega)
  have b0:(0:Int)≤((1:Nat):Int):=by omega
  go_enter Tryz.func15,Tryz.ntmps15
  go_wp2
  go_ret
  exact ⟨b,rfl,h2,h3,rfl⟩
 ·clear h
  go_enter Tryz.func15,Tryz.ntmps15
  go_wp2
  go_ret
  exact ⟨_,rfl,by omega,by omega,rfl⟩
theorem fairKb_b {p:PD} {d:SD} {r:Int} (hp:Fits p) (hr:r≤10):0≤fairKb p d r∧fairKb p d r≤1000000000000:=by
 unfold fairKb
 split
 ·have h:=rdN_le p p.bods.length (d,0) (rounds r)
  have hb:p.bods.length≤1048576:=hp.2.1
  have h2:rounds r≤10:=by unfold rounds;omega
  have h3:rounds r * p.bods.length≤10 * 1048576:=Nat.mul_le_mul h2 hb
  unfold fairX
  dsimp only at h
  omega
 ·omega
set_option maxRecDepth 100000 in
set_option maxHeartbeats 16000000 in
theorem walkFnRun (s : Option Addr) (n c : Nat) (w : World) (hb : Bytes w w.heap.size s n) (hn : n ≤ maxLen) :
  Calls Tryz.prog 3 #[.slice s n c] w fun e w'=>e=.returned (.bool true)∧Below w.heap.size w w':=by
 by_cases hbig:1048576 < n
 ·clear hb
  go_enter Tryz.func3,Tryz.ntmps3
  go_wp2_with fail
  refine (big_any s n c w).mono ?_
  rintro e w1 ⟨rfl,hw⟩
  have hw':=hw.symm
  clear hw
  subst hw'
  rw [decide_eq_true hbig]
  go_wp2
  go_ret
  exact ⟨rfl,Below.refl _ _⟩
 have HB:=hidR hb
 have HN:=hidR hn
 have BG:=hidR hbig
 clear hb hn hbig
 go_enter Tryz.func3,Tryz.ntmps3
 go_wp2_with fail
 refine (big_any s n c w).mono ?_
 rintro e w1 ⟨rfl,hw⟩
 have hw':=hw.symm
 clear hw
 subst hw'
 rw [decide_eq_false BG.out]
 go_wp2_with fail
 refine (drawRun_any4 s n c w HB.out HN.out).mono ?_
 rintro e w1 ⟨v0,v1,x1,x2,x3,su,cu,l,rfl,hp,hs,hl,hll,hb1⟩
 obtain ⟨hi,p1,p2,a1,a2,pp,rfl,rfl,hp,hfp,hB⟩:=hp
 obtain ⟨hj,s1,s2,s3,c1,c2,c3,DD,rfl,rfl,rfl,hr,hf,hB'⟩:=hs
 obtain ⟨A,hA⟩:∃ A,(w1.alloc (.cells #[.slice p1 pp.caps.length a1,.slice p2 pp.bods.length a2] 27)).alloc (.cells #[.slice s1 DD.ths.length c1,.slice s2 DD.chs.length c2,.slice s3 DD.tr.length c3] 32)=A:=⟨_,rfl⟩
 have kA:Below w1.heap.size w1 A:=by subst hA;exact ((Below.refl _ _).alloc (Nat.le_refl _) _).alloc (by simp) _
 have rA:BoF (w1.heap.size+1) A (.slice s1 DD.ths.length c1) (.slice s2 DD.chs.length c2) (.slice s3 DD.tr.length c3):=by
  subst hA
  exact ⟨by simp [go_sem],by simp [go_sem],by simp [go_sem],fun j=>by simp [go_sem],by simp⟩
 have qA:BoP w1.heap.size A (.slice p1 pp.caps.length a1) (.slice p2 pp.bods.length a2):=by
  subst hA
  exact ⟨by simp [go_sem],by simp [go_sem],fun j=>by simp [go_sem],by simp;omega⟩
 have HA:=hidR hA
 have zA:=kA.size
 have P:Hid (Fp w1.heap.size w.heap.size hi p1 p2 a1 a2 pp A):=⟨qA,ProgR.keep' hp (Keep.of_below kA hB),Nat.le_trans hB zA⟩
 have S:Hid (Fz (w1.heap.size+1) w.heap.size hj s1 s2 s3 c1 c2 c3 DD A):=⟨rA,hr.keep (Keep.of_below kA hB'),Nat.le_trans hB' zA⟩
 have L:Hid (Fi w.heap.size w1.heap.size su l A):=⟨(OwnN.intsS hl).keep (Keep.of_below kA (Nat.le_refl _)),zA⟩
 have K:=hidR (hb1.trans (kA.mono hb1.size))
 have CU:Hid (l.length≤cu):=own_cap hl
 have FP:=hidR hfp
 have FS:=hidR hf
 have LL:=hidR hll
 clear hb1 hr hf hfp hp hA kA hB hB' hl hll
 go_upto_region 4 with fail
 rw [HA.out]
 clear HA qA rA zA
 generalize w1.heap.size+1=bS at S ⊢
 obtain ⟨bP,hbP⟩:∃ z,w1.heap.size=z:=⟨_,rfl⟩
 rw [hbP] at P L ⊢
 clear hbP
 obtain ⟨X0,hXX⟩:∃ z,z=A:=⟨_,rfl⟩
 subst hXX
 obtain ⟨RD,hRD⟩:∃ x,runSb pp DD l=x:=⟨_,rfl⟩
 have HRD:=hidR hRD
 clear hRD
 obtain ⟨RC,hRC⟩:∃ x,runCb pp DD l=x:=⟨_,rfl⟩
 have HRC:=hidR hRC
 clear hRC
 have FR:Hid (SFits RD):=by rw [← HRD.out];exact runSb_fits FS.out l
 have CALL0:=implRun_any p1 p2 s1 s2 s3 su a1 a2 c1 c2 c3 cu _ _ _ _ _ _ pp DD l X0 P.out.r S.out.r L.out.r P.out.h S.out.h L.out.h FP.out FS.out (by have:=LL.out;omega)
 rw [HRD.out,HRC.out] at CALL0
 have CALL:=hidR CALL0
 clear CALL0
 obtain ⟨Pc0,Pc1,-,Pz⟩:=P.out.b
 obtain ⟨Sc0,Sc1,Sc2,-,Sz⟩:=S.out.b
 go_wp2_with fail
 refine CALL.out.mono ?_
 rintro e w1 ⟨tt1,dt1,tt2,dt2,tt3,dt3,tt4,dt4,L1,L2,rfl,ho,hn,-,hb⟩
 obtain ⟨Y,hY,hx,kY,-⟩:=BoF.new w1 (.slice tt1 RD.ths.length dt1) (.slice tt2 RD.chs.length dt2) (.slice tt3 RD.tr.length dt3) 32
 have kk:=hb.trans (kY.mono hb.size)
 have Gt:Hid (Fz w1.heap.size X0.heap.size w1.heap.size tt1 tt2 tt3 dt1 dt2 dt3 RD Y):=⟨hx,ho.srcR.keep (Keep.of_below kY (Nat.le_refl _)),kY.size⟩
 have Nt:Hid (Fi X0.heap.size w1.heap.size tt4 RC Y):=⟨(OwnN.intsS hn).keep (Keep.of_below kY (Nat.le_refl _)),kY.size⟩
 clear Pc0 Pc1 Pz Sc0 Sc1 Sc2 Sz
 have JP:=hidR (P.out.keep kk)
 have JS:=hidR (S.out.keep kk)
 have JL:=hidR (L.out.keep kk)
 have JK:=hidR (K.out.trans (kk.mono K.out.size))
 clear P S L K
 have P:=JP
 have S:=JS
 have L:=JL
 have K:=JK
 clear JP JS JL JK
 have HY:=hidR hY
 clear hY hx kY hb kk ho CALL hn
 go_upto_region 5 with fail
 rw [HY.out]
 clear HY
 obtain ⟨bt,hbt⟩:∃ z,w1.heap.size=z:=⟨_,rfl⟩
 rw [hbt] at Gt ⊢ Nt
 clear hbt
 obtain ⟨X1,hXX⟩:∃ z,z=Y:=⟨_,rfl⟩
 subst hXX
 have CALL0:=specRun_any p1 p2 s1 s2 s3 su a1 a2 c1 c2 c3 cu _ _ _ _ _ _ pp DD l X1 P.out.r S.out.r L.out.r P.out.h S.out.h L.out.h FP.out FS.out (by have:=LL.out;omega)
 rw [HRD.out,HRC.out] at CALL0
 have CALL:=hidR CALL0
 clear CALL0
 obtain ⟨Pc0,Pc1,-,Pz⟩:=P.out.b
 obtain ⟨Sc0,Sc1,Sc2,-,Sz⟩:=S.out.b
 go_wp2_with fail
 refine CALL.out.mono ?_
 rintro e w2 ⟨tu1,du1,tu2,du2,tu3,du3,tu4,du4,L1,L2,rfl,ho,hn,-,hb⟩
 obtain ⟨Y,hY,hx,kY,-⟩:=BoF.new w2 (.slice tu1 RD.ths.length du1) (.slice tu2 RD.chs.length du2) (.slice tu3 RD.tr.length du3) 32
 have kk:=hb.trans (kY.mono hb.size)
 have Gu:Hid (Fz w2.heap.size X1.heap.size w2.heap.size tu1 tu2 tu3 du1 du2 du3 RD Y):=⟨hx,ho.srcR.keep (Keep.of_below kY (Nat.le_refl _)),kY.size⟩
 have Nu:Hid (Fi X1.heap.size w2.heap.size tu4 RC Y):=⟨(OwnN.intsS hn).keep (Keep.of_below kY (Nat.le_refl _)),kY.size⟩
 clear Pc0 Pc1 Pz Sc0 Sc1 Sc2 Sz
 have JP:=hidR (P.out.keep kk)
 have JS:=hidR (S.out.keep kk)
 have JL:=hidR (L.out.keep kk)
 have JK:=hidR (K.out.trans (kk.mono K.out.size))
 have JGt:=hidR (Gt.out.keep kk)
 have JNt:=hidR (Nt.out.keep kk)
 clear P S L K Gt Nt
 have P:=JP
 have S:=JS
 have L:=JL
 have K:=JK
 have Gt:=JGt
 have Nt:=JNt
 clear JP JS JL JK JGt JNt
 have HY:=hidR hY
 clear hY hx kY hb kk ho CALL hn
 go_upto_region 6 with fail
 rw [HY.out]
 clear HY
 obtain ⟨bu,hbu⟩:∃ z,w2.heap.size=z:=⟨_,rfl⟩
 rw [hbu] at Gu ⊢ Nu
 clear hbu
 obtain ⟨X2,hXX⟩:∃ z,z=Y:=⟨_,rfl⟩
 subst hXX
 go_wp2_with fail
 have LRC:Hid (RC.length≤4000):=by
  show _≤_
  rw [← HRC.out]
  exact runCb_len pp DD l
 refine (sameInts_any tt4 tu4 RC RC dt4 du4 X2 Nt.out.ints Nu.out.ints (by have:=LRC.out;omega)).mono ?_
 rintro e w3 ⟨rfl,m,rfl⟩
 rw [decide_eq_true (rfl:RC=RC)]
 have kk:Below X2.heap.size X2 (X2.drewN m):=⟨rfl,rfl,rfl,Nat.le_refl _,fun _ _=>rfl⟩
 obtain ⟨W,hW⟩:∃ W,X2.drewN m=W:=⟨_,rfl⟩
 rw [hW] at kk ⊢
 clear hW
 clear Gu Nu
 have JP:=hidR (P.out.keep kk)
 have JS:=hidR (S.out.keep kk)
 have JL:=hidR (L.out.keep kk)
 have JK:=hidR (K.out.trans (kk.mono K.out.size))
 have JGt:=hidR (Gt.out.keep kk)
 have JNt:=hidR (Nt.out.keep kk)
 clear P S L K Gt Nt
 have P:=JP
 have S:=JS
 have L:=JL
 have K:=JK
 have Gt:=JGt
 have Nt:=JNt
 clear JP JS JL JK JGt JNt
 clear kk
 go_wp2_with fail
 refine (drawFair_any s n c W (HB.out.up K.out) HN.out).mono ?_
 rintro e w7 ⟨v0,v1,x1,x2,x3,r,rfl,hr0,hp,hs,hb7⟩
 have JP:=hidR (P.out.keep hb7)
 have JS:=hidR (S.out.keep hb7)
 have JL:=hidR (L.out.keep hb7)
 have JK:=hidR (K.out.trans (hb7.mono K.out.size))
 have JGt:=hidR (Gt.out.keep hb7)
 have JNt:=hidR (Nt.out.keep hb7)
 clear P S L K Gt Nt
 have P:=JP
 have S:=JS
 have L:=JL
 have K:=JK
 have Gt:=JGt
 have Nt:=JNt
 clear JP JS JL JK JGt JNt
 obtain ⟨hiv,pv1,pv2,av1,av2,ppv,rfl,rfl,hp,hfp,hB⟩:=hp
 obtain ⟨hjv,sv1,sv2,sv3,cv1,cv2,cv3,DDv,rfl,rfl,rfl,hr,hf,hB'⟩:=hs
 obtain ⟨A,hA⟩:∃ A,(w7.alloc (.cells #[.slice pv1 ppv.caps.length av1,.slice pv2 ppv.bods.length av2] 27)).alloc (.cells #[.slice sv1 DDv.ths.length cv1,.slice sv2 DDv.chs.length cv2,.slice sv3 DDv.tr.length cv3] 32)=A:=⟨_,rfl⟩
 have kA:Below w7.heap.size w7 A:=by subst hA;exact ((Below.refl _ _).alloc (Nat.le_refl _) _).alloc (by simp) _
 have rA:BoF (w7.heap.size+1) A (.slice sv1 DDv.ths.length cv1) (.slice sv2 DDv.chs.length cv2) (.slice sv3 DDv.tr.length cv3):=by
  subst hA
  exact ⟨by simp [go_sem],by simp [go_sem],by simp [go_sem],fun j=>by simp [go_sem],by simp⟩
 have qA:BoP w7.heap.size A (.slice pv1 ppv.caps.length av1) (.slice pv2 ppv.bods.length av2):=by
  subst hA
  exact ⟨by simp [go_sem],by simp [go_sem],fun j=>by simp [go_sem],by simp;omega⟩
 have HA:=hidR hA
 have zA:=kA.size
 have Q:Hid (Fp w7.heap.size W.heap.size hiv pv1 pv2 av1 av2 ppv A):=⟨qA,ProgR.keep' hp (Keep.of_below kA hB),Nat.le_trans hB zA⟩
 have V:Hid (Fz (w7.heap.size+1) W.heap.size hjv sv1 sv2 sv3 cv1 cv2 cv3 DDv A):=⟨rA,hr.keep (Keep.of_below kA hB'),Nat.le_trans hB' zA⟩
 have JP:=hidR (P.out.keep kA)
 have JS:=hidR (S.out.keep kA)
 have JL:=hidR (L.out.keep kA)
 have JK:=hidR (K.out.trans (kA.mono K.out.size))
 have JGt:=hidR (Gt.out.keep kA)
 have JNt:=hidR (Nt.out.keep kA)
 clear P S L K Gt Nt
 have P:=JP
 have S:=JS
 have L:=JL
 have K:=JK
 have Gt:=JGt
 have Nt:=JNt
 clear JP JS JL JK JGt JNt
 have FPv:=hidR hfp
 have FSv:=hidR hf
 have R0:=hidR hr0
 clear hb7 hr hf hfp hp hA kA hB hB' hr0
 go_upto_region 9 with fail
 rw [HA.out]
 clear HA qA rA zA
 generalize w7.heap.size+1=bV at V ⊢
 obtain ⟨bQ,hbQ⟩:∃ z,w7.heap.size=z:=⟨_,rfl⟩
 rw [hbQ] at Q ⊢
 clear hbQ
 obtain ⟨X9,hXX⟩:∃ z,z=A:=⟨_,rfl⟩
 subst hXX
 obtain ⟨FD,hFD⟩:∃ x,fairSb ppv DDv r=x:=⟨_,rfl⟩
 have HFD:=hidR hFD
 clear hFD
 obtain ⟨FK,hFK⟩:∃ x,fairKb ppv DDv r=x:=⟨_,rfl⟩
 have HFK:=hidR hFK
 clear hFK
 have FF:Hid (SFits FD):=by rw [← HFD.out];exact fairSb_fits FSv.out r
 have CALL0:=implFair_any pv1 pv2 sv1 sv2 sv3 av1 av2 cv1 cv2 cv3 _ _ _ _ ppv DDv r X9 Q.out.r V.out.r Q.out.h V.out.h FPv.out FSv.out
 rw [HFD.out,HFK.out] at CALL0
 have CALL:=hidR CALL0
 clear CALL0
 obtain ⟨Qc0,Qc1,-,Qz⟩:=Q.out.b
 obtain ⟨Vc0,Vc1,Vc2,-,Vz⟩:=V.out.b
 go_wp2_with fail
 refine CALL.out.mono ?_
 rintro e w4 ⟨tf1,df1,tf2,df2,tf3,df3,L1,L2,rfl,ho,hb⟩
 obtain ⟨Y,hY,hx,kY,-⟩:=BoF.new w4 (.slice tf1 FD.ths.length df1) (.slice tf2 FD.chs.length df2) (.slice tf3 FD.tr.length df3) 32
 have kk:=hb.trans (kY.mono hb.size)
 have Gf:Hid (Fz w4.heap.size X9.heap.size w4.heap.size tf1 tf2 tf3 df1 df2 df3 FD Y):=⟨hx,ho.srcR.keep (Keep.of_below kY (Nat.le_refl _)),kY.size⟩
 clear Qc0 Qc1 Qz Vc0 Vc1 Vc2 Vz
 have JP:=hidR (P.out.keep kk)
 have JS:=hidR (S.out.keep kk)
 have JL:=hidR (L.out.keep kk)
 have JK:=hidR (K.out.trans (kk.mono K.out.size))
 have JGt:=hidR (Gt.out.keep kk)
 have JNt:=hidR (Nt.out.keep kk)
 have JQ:=hidR (Q.out.keep kk)
 have JV:=hidR (V.out.keep kk)
 clear P S L K Gt Nt Q V
 have P:=JP
 have S:=JS
 have L:=JL
 have K:=JK
 have Gt:=JGt
 have Nt:=JNt
 have Q:=JQ
 have V:=JV
 clear JP JS JL JK JGt JNt JQ JV
 have HY:=hidR hY
 clear hY hx kY hb kk ho CALL
 go_upto_region 10 with fail
 rw [HY.out]
 clear HY
 obtain ⟨bf,hbf⟩:∃ z,w4.heap.size=z:=⟨_,rfl⟩
 rw [hbf] at Gf ⊢
 clear hbf
 obtain ⟨X4,hXX⟩:∃ z,z=Y:=⟨_,rfl⟩
 subst hXX
 have CALL0:=specFair_any pv1 pv2 sv1 sv2 sv3 av1 av2 cv1 cv2 cv3 _ _ _ _ ppv DDv r X4 Q.out.r V.out.r Q.out.h V.out.h FPv.out FSv.out
 rw [HFD.out,HFK.out] at CALL0
 have CALL:=hidR CALL0
 clear CALL0
 obtain ⟨Qc0,Qc1,-,Qz⟩:=Q.out.b
 obtain ⟨Vc0,Vc1,Vc2,-,Vz⟩:=V.out.b
 go_wp2_with fail
 refine CALL.out.mono ?_
 rintro e w5 ⟨tg1,dg1,tg2,dg2,tg3,dg3,L1,L2,rfl,ho,hb⟩
 obtain ⟨Y,hY,hx,kY,-⟩:=BoF.new w5 (.slice tg1 FD.ths.length dg1) (.slice tg2 FD.chs.length dg2) (.slice tg3 FD.tr.length dg3) 32
 have kk:=hb.trans (kY.mono hb.size)
 have Gg:Hid (Fz w5.heap.size X4.heap.size w5.heap.size tg1 tg2 tg3 dg1 dg2 dg3 FD Y):=⟨hx,ho.srcR.keep (Keep.of_below kY (Nat.le_refl _)),kY.size⟩
 clear Qc0 Qc1 Qz Vc0 Vc1 Vc2 Vz
 have JP:=hidR (P.out.keep kk)
 have JS:=hidR (S.out.keep kk)
 have JL:=hidR (L.out.keep kk)
 have JK:=hidR (K.out.trans (kk.mono K.out.size))
 have JGt:=hidR (Gt.out.keep kk)
 have JNt:=hidR (Nt.out.keep kk)
 have JQ:=hidR (Q.out.keep kk)
 have JV:=hidR (V.out.keep kk)
 have JGf:=hidR (Gf.out.keep kk)
 clear P S L K Gt Nt Q V Gf
 have P:=JP
 have S:=JS
 have L:=JL
 have K:=JK
 have Gt:=JGt
 have Nt:=JNt
 have Q:=JQ
 have V:=JV
 have Gf:=JGf
 clear JP JS JL JK JGt JNt JQ JV JGf
 have HY:=hidR hY
 clear hY hx kY hb kk ho CALL
 go_upto_region 11 with fail
 rw [HY.out]
 clear HY
 obtain ⟨bg,hbg⟩:∃ z,w5.heap.size=z:=⟨_,rfl⟩
 rw [hbg] at Gg ⊢
 clear hbg
 obtain ⟨X5,hXX⟩:∃ z,z=Y:=⟨_,rfl⟩
 subst hXX
 have hkk:(FK !=FK)=false:=by simp
 go_upto_region 13 with fail
 clear Gg
 clear hkk
 have FB:Hid (0≤FK∧FK≤1000000000000):=by rw [← HFK.out];exact fairKb_b FPv.out R0.out.2
 obtain ⟨Y0,hY0⟩:∃ z,z=X5:=⟨_,rfl⟩
 subst hY0
 refine (show ¬ 1 < r∨(1 < r∧srcB ppv DDv=false)∨(1 < r∧srcB ppv DDv=true) from by cases srcB ppv DDv<;>simp<;>omega).elim (fun hr=>?way1) (fun h=>h.elim (fun hq=>?way2) (fun hq=>?way3))
 case' way1=>
  go_upto_region 18 with fail
  obtain ⟨Z,hZ⟩:∃ z,z=Y0:=⟨_,rfl⟩
  subst hZ
  clear hr
  clear Gf Q V
  clear FPv FSv R0 HFD HFK FF FB
 case' way2=>
  obtain ⟨hr,hq⟩:=hq
  obtain ⟨Qc0,Qc1,-,Qz⟩:=Q.out.b
  obtain ⟨Vc0,Vc1,Vc2,-,Vz⟩:=V.out.b
  go_wp2_with fail
  refine (specSource_any pv1 pv2 sv1 sv2 sv3 av1 av2 cv1 cv2 cv3 _ _ _ _ ppv DDv Y0 Q.out.r V.out.r Q.out.h V.out.h FPv.out FSv.out).mono ?_
  rintro e Z1 ⟨rfl,kk⟩
  clear Qc0 Qc1 Qz Vc0 Vc1 Vc2 Vz
  have JP:=hidR (P.out.keep kk)
  have JS:=hidR (S.out.keep kk)
  have JL:=hidR (L.out.keep kk)
  have JK:=hidR (K.out.trans (kk.mono K.out.size))
  have JGt:=hidR (Gt.out.keep kk)
  have JNt:=hidR (Nt.out.keep kk)
  have JQ:=hidR (Q.out.keep kk)
  have JV:=hidR (V.out.keep kk)
  have JGf:=hidR (Gf.out.keep kk)
  clear P S L K Gt Nt Q V Gf
  have P:=JP
  have S:=JS
  have L:=JL
  have K:=JK
  have Gt:=JGt
  have Nt:=JNt
  have Q:=JQ
  have V:=JV
  have Gf:=JGf
  clear JP JS JL JK JGt JNt JQ JV JGf
  rw [hq]
  clear kk
  go_upto_region 18 with fail
  obtain ⟨Z,hZ⟩:∃ z,z=Z1:=⟨_,rfl⟩
  subst hZ
  clear hr hq
  clear Gf Q V
  clear FPv FSv R0 HFD HFK FF FB
 case' way3=>
  obtain ⟨hr,hq⟩:=hq
  obtain ⟨Qc0,Qc1,-,Qz⟩:=Q.out.b
  obtain ⟨Vc0,Vc1,Vc2,-,Vz⟩:=V.out.b
  go_wp2_with fail
  refine (specSource_any pv1 pv2 sv1 sv2 sv3 av1 av2 cv1 cv2 cv3 _ _ _ _ ppv DDv Y0 Q.out.r V.out.r Q.out.h V.out.h FPv.out FSv.out).mono ?_
  rintro e Z1 ⟨rfl,kk⟩
  clear Qc0 Qc1 Qz Vc0 Vc1 Vc2 Vz
  have JP:=hidR (P.out.keep kk)
  have JS:=hidR (S.out.keep kk)
  have JL:=hidR (L.out.keep kk)
  have JK:=hidR (K.out.trans (kk.mono K.out.size))
  have JGt:=hidR (Gt.out.keep kk)
  have JNt:=hidR (Nt.out.keep kk)
  have JQ:=hidR (Q.out.keep kk)
  have JV:=hidR (V.out.keep kk)
  have JGf:=hidR (Gf.out.keep kk)
  clear P S L K Gt Nt Q V Gf
  have P:=JP
  have S:=JS
  have L:=JL
  have K:=JK
  have Gt:=JGt
  have Nt:=JNt
  have Q:=JQ
  have V:=JV
  have Gf:=JGf
  clear JP JS JL JK JGt JNt JQ JV JGf
  rw [hq]
  clear kk
  obtain ⟨HD,hHD⟩:∃ x,fairSb ppv DDv 1=x:=⟨_,rfl⟩
  have HHD:=hidR hHD
  obtain ⟨HK1,hHK⟩:∃ x,fairKb ppv DDv 1=x:=⟨_,rfl⟩
  have HHK:=hidR hHK
  have FH:Hid (SFits HD):=by rw [← HHD.out];exact fairSb_fits FSv.out 1
  obtain ⟨K2,hK2⟩:∃ x,fairKb ppv HD (r - 1)=x:=⟨_,rfl⟩
  have HK2:=hidR hK2
  have PT:Hid (fairSb ppv HD (r - 1)=FD∧HK1+K2=FK):=by
   have h:=fair_parts (p:=ppv) (d:=DDv) (r:=r) hq hr R0.out.2
   rw [hHD,hHK,hK2,HFD.out,HFK.out] at h
   exact h
  have RW:=hidR hr
  clear hHD hHK hK2 hq hr
  have CALL0:=implFair_any pv1 pv2 sv1 sv2 sv3 av1 av2 cv1 cv2 cv3 _ _ _ _ ppv DDv 1 Z1 Q.out.r V.out.r Q.out.h V.out.h FPv.out FSv.out
  rw [HHD.out,HHK.out] at CALL0
  have CALL:=hidR CALL0
  clear CALL0
  obtain ⟨Qc0,Qc1,-,Qz⟩:=Q.out.b
  obtain ⟨Vc0,Vc1,Vc2,-,Vz⟩:=V.out.b
  go_wp2_with fail
  refine CALL.out.mono ?_
  rintro e w6 ⟨th1,dh1,th2,dh2,th3,dh3,L1,L2,rfl,ho,hb⟩
  obtain ⟨Y,hY,hx,kY,-⟩:=BoF.new w6 (.slice th1 HD.ths.length dh1) (.slice th2 HD.chs.length dh2) (.slice th3 HD.tr.length dh3) 32
  have kk:=hb.trans (kY.mono hb.size)
  have Gh:Hid (Fz w6.heap.size Z1.heap.size w6.heap.size th1 th2 th3 dh1 dh2 dh3 HD Y):=⟨hx,ho.srcR.keep (Keep.of_below kY (Nat.le_refl _)),kY.size⟩
  clear Qc0 Qc1 Qz Vc0 Vc1 Vc2 Vz
  have JP:=hidR (P.out.keep kk)
  have JS:=hidR (S.out.keep kk)
  have JL:=hidR (L.out.keep kk)
  have JK:=hidR (K.out.trans (kk.mono K.out.size))
  have JGt:=hidR (Gt.out.keep kk)
  have JNt:=hidR (Nt.out.keep kk)
  have JQ:=hidR (Q.out.keep kk)
  have JV:=hidR (V.out.keep kk)
  have JGf:=hidR (Gf.out.keep kk)
  clear P S L K Gt Nt Q V Gf
  have P:=JP
  have S:=JS
  have L:=JL
  have K:=JK
  have Gt:=JGt
  have Nt:=JNt
  have Q:=JQ
  have V:=JV
  have Gf:=JGf
  clear JP JS JL JK JGt JNt JQ JV JGf
  have HY:=hidR hY
  clear hY hx kY hb kk ho CALL
  go_upto_region 15 with fail
  rw [HY.out]
  clear HY
  obtain ⟨bh,hbh⟩:∃ z,w6.heap.size=z:=⟨_,rfl⟩
  rw [hbh] at Gh ⊢
  clear hbh
  obtain ⟨X6,hXX⟩:∃ z,z=Y:=⟨_,rfl⟩
  subst hXX
  have hw1:IntKind.i64.wrap (r - 1)=r - 1:=Go.IntWalk.i64_in _ ⟨by have:=R0.out;omega,by have:=R0.out;omega⟩
  have CALL0:=implFair_any pv1 pv2 th1 th2 th3 av1 av2 dh1 dh2 dh3 _ _ _ _ ppv HD (r - 1) X6 Q.out.r Gh.out.r Q.out.h Gh.out.h FPv.out FH.out
  rw [PT.out.1,HK2.out] at CALL0
  have CALL:=hidR CALL0
  clear CALL0
  obtain ⟨Qc0,Qc1,-,Qz⟩:=Q.out.b
  obtain ⟨Ghc0,Ghc1,Ghc2,-,Ghz⟩:=Gh.out.b
  go_wp2_with fail
  refine CALL.out.mono ?_
  rintro e w7 ⟨tj1,dj1,tj2,dj2,tj3,dj3,L1,L2,rfl,ho,hb⟩
  obtain ⟨Y,hY,hx,kY,-⟩:=BoF.new w7 (.slice tj1 FD.ths.length dj1) (.slice tj2 FD.chs.length dj2) (.slice tj3 FD.tr.length dj3) 32
  have kk:=hb.trans (kY.mono hb.size)
  have Gj:Hid (Fz w7.heap.size X6.heap.size w7.heap.size tj1 tj2 tj3 dj1 dj2 dj3 FD Y):=⟨hx,ho.srcR.keep (Keep.of_below kY (Nat.le_refl _)),kY.size⟩
  clear Qc0 Qc1 Qz Ghc0 Ghc1 Ghc2 Ghz
  have JP:=hidR (P.out.keep kk)
  have JS:=hidR (S.out.keep kk)
  have JL:=hidR (L.out.keep kk)
  have JK:=hidR (K.out.trans (kk.mono K.out.size))
  have JGt:=hidR (Gt.out.keep kk)
  have JNt:=hidR (Nt.out.keep kk)
  have JQ:=hidR (Q.out.keep kk)
  have JV:=hidR (V.out.keep kk)
  have JGf:=hidR (Gf.out.keep kk)
  have JGh:=hidR (Gh.out.keep kk)
  clear P S L K Gt Nt Q V Gf Gh
  have P:=JP
  have S:=JS
  have L:=JL
  have K:=JK
  have Gt:=JGt
  have Nt:=JNt
  have Q:=JQ
  have V:=JV
  have Gf:=JGf
  have Gh:=JGh
  clear JP JS JL JK JGt JNt JQ JV JGf JGh
  have HY:=hidR hY
  clear hY hx kY hb kk ho CALL
  go_upto_region 16 with fail
  rw [HY.out]
  clear HY
  obtain ⟨bj,hbj⟩:∃ z,w7.heap.size=z:=⟨_,rfl⟩
  rw [hbj] at Gj ⊢
  clear hbj
  obtain ⟨X7,hXX⟩:∃ z,z=Y:=⟨_,rfl⟩
  subst hXX
  clear hw1
  have hw2:IntKind.i64.wrap (HK1+K2)=FK:=by rw [PT.out.2];exact Go.IntWalk.i64_in _ ⟨by have:=FB.out;omega,by have:=FB.out;omega⟩
  have hkk:(FK !=FK)=false:=by simp
  obtain ⟨Gjc0,Gjc1,Gjc2,-,Gjz⟩:=Gj.out.b
  obtain ⟨Gfc0,Gfc1,Gfc2,-,Gfz⟩:=Gf.out.b
  go_wp2_with fail
  refine (sameSource_eq tj1 tj2 tj3 tf1 tf2 tf3 dj1 dj2 dj3 df1 df2 df3 _ _ _ _ FD X7 Gj.out.r Gf.out.r Gj.out.h Gf.out.h FF.out).mono ?_
  rintro e Z2 ⟨rfl,kk⟩
  clear Gjc0 Gjc1 Gjc2 Gjz Gfc0 Gfc1 Gfc2 Gfz
  have JP:=hidR (P.out.keep kk)
  have JS:=hidR (S.out.keep kk)
  have JL:=hidR (L.out.keep kk)
  have JK:=hidR (K.out.trans (kk.mono K.out.size))
  have JGt:=hidR (Gt.out.keep kk)
  have JNt:=hidR (Nt.out.keep kk)
  have JQ:=hidR (Q.out.keep kk)
  have JV:=hidR (V.out.keep kk)
  have JGf:=hidR (Gf.out.keep kk)
  have JGh:=hidR (Gh.out.keep kk)
  have JGj:=hidR (Gj.out.keep kk)
  clear P S L K Gt Nt Q V Gf Gh Gj
  have P:=JP
  have S:=JS
  have L:=JL
  have K:=JK
  have Gt:=JGt
  have Nt:=JNt
  have Q:=JQ
  have V:=JV
  have Gf:=JGf
  have Gh:=JGh
  have Gj:=JGj
  clear JP JS JL JK JGt JNt JQ JV JGf JGh JGj
  clear kk hw2 hkk
  go_upto_region 18 with fail
  obtain ⟨Z,hZ⟩:∃ z,z=Z2:=⟨_,rfl⟩
  subst hZ
  clear Gf Q V Gh Gj
  clear FPv FSv R0 HFD HFK FF FB HHD HHK FH HK2 PT RW
 all_goals
  by_cases hrc:RC.length=0
  ·have hrz:((RC.length:Nat):Int)=0:=by omega
   have ERD:RD=DD:=by rw [← HRD.out];exact run_none (by rw [HRC.out];exact hrc)
   subst ERD
   obtain ⟨Sc0,Sc1,Sc2,-,Sz⟩:=S.out.b
   obtain ⟨Gtc0,Gtc1,Gtc2,-,Gtz⟩:=Gt.out.b
   go_wp2_with fail
   refine (sameSource_eq s1 s2 s3 tt1 tt2 tt3 c1 c2 c3 dt1 dt2 dt3 _ _ _ _ RD Z S.out.r Gt.out.r S.out.h Gt.out.h FS.out).mono ?_
   rintro e Z3 ⟨rfl,kk⟩
   clear Sc0 Sc1 Sc2 Sz Gtc0 Gtc1 Gtc2 Gtz
   go_wp2
   go_ret
   exact ⟨rfl,K.out.trans (kk.mono K.out.size)⟩
  ·have hrz:¬ ((RC.length:Nat):Int)=0:=by omega
   go_wp2_with fail
   refine (at_one s n c Z (HB.out.up K.out) (by have:=BG.out;omega)).mono ?_
   rintro e Z4 ⟨x,rfl,x0,x1,hZ4⟩
   have hZ4':=hZ4.symm
   clear hZ4
   subst hZ4'
   have LB:=LL.out
   have hw1:IntKind.i64.wrap ((l.length:Int)+1)=(l.length:Int)+1:=Go.IntWalk.i64_in _ ⟨by omega,by omega⟩
   have hne:¬ ((l.length:Int)+1)=0:=by omega
   obtain ⟨k,hk⟩:∃ k:Nat,x.tmod ((l.length:Int)+1)=(k:Int):=⟨(x.tmod ((l.length:Int)+1)).toNat,by have:=Int.tmod_nonneg ((l.length:Int)+1) x0;omega⟩
   have hkl:k≤l.length:=by have:=Int.tmod_lt_of_pos x (show (0:Int) < (l.length:Int)+1 by omega);omega
   have KL:=hidR hkl
   clear hkl x0 x1 LB hrz
   go_wp2_with fail
   clear hw1 hne hk
   have hk0:(0:Int)≤(k:Int):=by omega
   have hk1:(k:Int)≤(cu:Int):=by have:=KL.out;have:=CU.out;omega
   obtain ⟨DA,hDA⟩:∃ x,runSb pp DD (l.take k)=x:=⟨_,rfl⟩
   have HDA:=hidR hDA
   obtain ⟨CA,hCA⟩:∃ x,runCb pp DD (l.take k)=x:=⟨_,rfl⟩
   have HCA:=hidR hCA
   obtain ⟨CB,hCB⟩:∃ x,runCb pp DA (l.drop k)=x:=⟨_,rfl⟩
   have HCB:=hidR hCB
   have FA:Hid (SFits DA):=by rw [← hDA];exact runSb_fits FS.out _
   have PT:Hid (runSb pp DA (l.drop k)=RD∧CA.length+CB.length=RC.length):=by
    have q:=run_some (p:=pp) (d:=DD) (ks:=l) (by rw [HRC.out];exact hrc)
    have h:=run_parts q.1 q.2 k
    rw [hDA,hCA,hCB,HRD.out,HRC.out] at h
    exact h
   clear hDA hCA hCB hrc
   have LT:Hid ((l.take k).length=k):=by show _=_;rw [List.length_take];have:=KL.out;omega
   have LD:Hid ((l.drop k).length=l.length - k):=by show _=_;rw [List.length_drop]
   have RB:Hid (∀ Y,Below Z.heap.size Z Y→Y.cell? ⟨bP,0,none⟩=some (.slice p1 pp.caps.length a1)∧Y.cell? ⟨bP,1,none⟩=some (.slice p2 pp.bods.length a2)∧Y.cell? ⟨bS,0,none⟩=some (.slice s1 DD.ths.length c1)∧Y.cell? ⟨bS,1,none⟩=some (.slice s2 DD.chs.length c2)∧Y.cell? ⟨bS,2,none⟩=some (.slice s3 DD.tr.length c3)):=fun Y hY=>by
    obtain ⟨q0,q1,-,-⟩:=(P.out.keep hY).b
    obtain ⟨q2,q3,q4,-,-⟩:=(S.out.keep hY).b
    exact ⟨q0,q1,q2,q3,q4⟩
   have CT:Hid (∀ (X0:World) (pB:Option Nat),Below Z.heap.size Z X0→BoxA X0 pB→Calls Tryz.prog 7 #[.agg #[.slice p1 pp.caps.length a1,.slice p2 pp.bods.length a2],.agg #[.slice s1 DD.ths.length c1,.slice s2 DD.chs.length c2,.slice s3 DD.tr.length c3],.slice su k cu] X0 fun e w'=>∃ (x1:Option Addr) (y1:Nat) (x2:Option Addr) (y2:Nat) (x3:Option Addr) (y3:Nat) (x4:Option Addr) (y4:Nat),e=.returned (.tuple #[.agg #[.slice x1 DA.ths.length y1,.slice x2 DA.chs.length y2,.slice x3 DA.tr.length y3],.slice x4 CA.length y4])∧Below Z.heap.size Z w'∧Hid (∃ L1 L2,OwnS w' Z.heap.size (.slice x1 DA.ths.length y1) (.slice x2 DA.chs.length y2) (.slice x3 DA.tr.length y3) L1 L2 DA)∧Hid (OwnN w' Z.heap.size (.slice x4 CA.length y4) CA)∧Hid (BoxA w' pB)∧w'.cell? ⟨bP,0,none⟩=some (.slice p1 pp.caps.length a1)∧w'.cell? ⟨bP,1,none⟩=some (.slice p2 pp.bods.length a2)∧w'.cell? ⟨bS,0,none⟩=some (.slice s1 DD.ths.length c1)∧w'.cell? ⟨bS,1,none⟩=some (.slice s2 DD.chs.length c2)∧w'.cell? ⟨bS,2,none⟩=some (.slice s3 DD.tr.length c3)):=fun X0 pB hX hb=>by
    have q:=implRun_any p1 p2 s1 s2 s3 su a1 a2 c1 c2 c3 cu _ _ _ _ _ _ pp DD (l.take k) X0 (P.out.keep hX).r (S.out.keep hX).r ((Fi.takeR k L.out).keep hX).r (P.out.keep hX).h (S.out.keep hX).h ((Fi.takeR k L.out).keep hX).h FP.out FS.out (by have:=LL.out;have:=KL.out;have:=LT.out;omega)
    rw [LT.out,HDA.out,HCA.out] at q
    refine q.mono fun e w' hq=>?_
    obtain ⟨x1,y1,x2,y2,x3,y3,x4,y4,L1,L2,he,ho,hn,-,hb2⟩:=hq
    have kk:Below Z.heap.size Z w':=hX.trans (hb2.mono hX.size)
    exact ⟨x1,y1,x2,y2,x3,y3,x4,y4,he,kk,⟨L1,L2,ho.low hX.size⟩,ownLow' hn hX.size,hb.keep hb2,RB.out _ kk⟩
   obtain ⟨Pc0,Pc1,-,Pz⟩:=P.out.b
   obtain ⟨Sc0,Sc1,Sc2,-,Sz⟩:=S.out.b
   have kD:Below Z.heap.size Z Z.drew:=Below.drew (Below.refl _ _)
   have hdr:∀ X:World,X.drew.heap.size=X.heap.size:=fun _=>rfl
   go_cut [22,23] (fun s8 s9 wx=>CutR Z DA CA s8 s9 wx)
   case first=>
    go_region_held3 (fun w'=>w'.cell? ⟨bP,0,none⟩=some (.slice p1 pp.caps.length a1)∧w'.cell? ⟨bP,1,none⟩=some (.slice p2 pp.bods.length a2)∧w'.cell? ⟨bS,0,none⟩=some (.slice s1 DD.ths.length c1)∧w'.cell? ⟨bS,1,none⟩=some (.slice s2 DD.chs.length c2)∧w'.cell? ⟨bS,2,none⟩=some (.slice s3 DD.tr.length c3)) (first | exact RB.out _ (by repeat' (first | with_reducible exact kC | with_reducible exact kD | with_reducible exact Below.refl _ _ | with_reducible refine Below.drew ?_ | with_reducible refine Below.alloc ?_ (by first | omega | exact Nat.le_refl _ | (simp [hdr];done) | (simp [hdr];omega)) _ | with_reducible refine Below.setCell ?_ (by first | omega | exact Nat.le_refl _ | (simp [hdr];done) | (simp [hdr];omega)) _)) | go_keep) (first | (go_at_call 7;with_reducible refine (CT.out _ _ (by repeat' (first | with_reducible exact kC | with_reducible exact kD | with_reducible exact Below.refl _ _ | with_reducible refine Below.drew ?_ | with_reducible refine Below.alloc ?_ (by first | omega | exact Nat.le_refl _ | (simp [hdr];done) | (simp [hdr];omega)) _ | with_reducible refine Below.setCell ?_ (by first | omega | exact Nat.le_refl _ | (simp [hdr];done) | (simp [hdr];omega)) _)) (by first | with_reducible exact boxAD (boxA0 _) | with_reducible exact boxA0 _ | with_reducible exact boxAN _)).mono ?_;rintro e wC ⟨x1,y1,x2,y2,x3,y3,x4,y4,rfl,kC,OC,NC,HBC,yC0,yC1,yC2,yC3,yC4⟩;have zC:=kC.size;(try obtain ⟨⟨b0',b1',b2',bf',b9⟩,-⟩:=boxAS HBC.out)) | fail)
    all_goals
     go_wp2_with fail
     go_meet
     first
      | with_reducible exact cutR_new OC.out NC.out kC
      | with_reducible exact cutR_set (boxAS HBC.out) (by omega) OC.out NC.out kC
   case rest=>
    obtain ⟨ba,loa,hia,lpa,hpa,ta1,da1,ta2,da2,ta3,da3,ta4,da4,rfl,rfl,hz,hi,kk⟩:=hcut
    clear Pc0 Pc1 Pz Sc0 Sc1 Sc2 Sz
    clear RB CT kD hdr
    have JP:=hidR (P.out.keep kk)
    have JS:=hidR (S.out.keep kk)
    have JL:=hidR (L.out.keep kk)
    have JK:=hidR (K.out.trans (kk.mono K.out.size))
    have JGt:=hidR (Gt.out.keep kk)
    have JNt:=hidR (Nt.out.keep kk)
    clear P S L K Gt Nt
    have P:=JP
    have S:=JS
    have L:=JL
    have K:=JK
    have Gt:=JGt
    have Nt:=JNt
    clear JP JS JL JK JGt JNt
    have Ga:=hidR hz
    have Na:=hidR hi
    clear hz hi kk
    obtain ⟨X8,hXX⟩:∃ z,z=wc:=⟨_,rfl⟩
    subst hXX
    have hk2:(k:Int)≤(l.length:Int):=by have:=KL.out;omega
    have hk3:(l.length:Int)≤(cu:Int):=by have:=CU.out;omega
    go_wp2_with fail
    obtain ⟨sx,hsx⟩:∃ x,(if cu=k then su else su.map (·.add k))=x:=⟨_,rfl⟩
    have HSX:Hid (Fi w.heap.size bP sx (l.drop k) X8):=by rw [← hsx];exact Fi.dropR KL.out CU.out L.out
    have RB:Hid (∀ Y,Below X8.heap.size X8 Y→Y.cell? ⟨bP,0,none⟩=some (.slice p1 pp.caps.length a1)∧Y.cell? ⟨bP,1,none⟩=some (.slice p2 pp.bods.length a2)∧Y.cell? ⟨ba,0,none⟩=some (.slice ta1 DA.ths.length da1)∧Y.cell? ⟨ba,1,none⟩=some (.slice ta2 DA.chs.length da2)∧Y.cell? ⟨ba,2,none⟩=some (.slice ta3 DA.tr.length da3)):=fun Y hY=>by
     obtain ⟨q0,q1,-,-⟩:=(P.out.keep hY).b
     obtain ⟨q2,q3,q4,-,-⟩:=(Ga.out.keep hY).b
     exact ⟨q0,q1,q2,q3,q4⟩
    have CT:Hid (∀ (X0:World) (pB:Option Nat),Below X8.heap.size X8 X0→BoxA X0 pB→Calls Tryz.prog 7 #[.agg #[.slice p1 pp.caps.length a1,.slice p2 pp.bods.length a2],.agg #[.slice ta1 DA.ths.length da1,.slice ta2 DA.chs.length da2,.slice ta3 DA.tr.length da3],.slice sx (l.length - k) (cu - k)] X0 fun e w'=>∃ (x1:Option Addr) (y1:Nat) (x2:Option Addr) (y2:Nat) (x3:Option Addr) (y3:Nat) (x4:Option Addr) (y4:Nat),e=.returned (.tuple #[.agg #[.slice x1 RD.ths.length y1,.slice x2 RD.chs.length y2,.slice x3 RD.tr.length y3],.slice x4 CB.length y4])∧Below X8.heap.size X8 w'∧Hid (∃ L1 L2,OwnS w' X8.heap.size (.slice x1 RD.ths.length y1) (.slice x2 RD.chs.length y2) (.slice x3 RD.tr.length y3) L1 L2 RD)∧Hid (OwnN w' X8.heap.size (.slice x4 CB.length y4) CB)∧Hid (BoxA w' pB)∧w'.cell? ⟨bP,0,none⟩=some (.slice p1 pp.caps.length a1)∧w'.cell? ⟨bP,1,none⟩=some (.slice p2 pp.bods.length a2)∧w'.cell? ⟨ba,0,none⟩=some (.slice ta1 DA.ths.length da1)∧w'.cell? ⟨ba,1,none⟩=some (.slice ta2 DA.chs.length da2)∧w'.cell? ⟨ba,2,none⟩=some (.slice ta3 DA.tr.length da3)):=fun X0 pB hX hb=>by
     have q:=implRun_any p1 p2 ta1 ta2 ta3 sx a1 a2 da1 da2 da3 (cu - k) _ _ _ _ _ _ pp DA (l.drop k) X0 (P.out.keep hX).r (Ga.out.keep hX).r (HSX.out.keep hX).r (P.out.keep hX).h (Ga.out.keep hX).h (HSX.out.keep hX).h FP.out FA.out (by have:=LL.out;have:=KL.out;have:=LD.out;omega)
     rw [LD.out,PT.out.1,HCB.out] at q
     refine q.mono fun e w' hq=>?_
     obtain ⟨x1,y1,x2,y2,x3,y3,x4,y4,L1,L2,he,ho,hn,-,hb2⟩:=hq
     have kk:Below X8.heap.size X8 w':=hX.trans (hb2.mono hX.size)
     exact ⟨x1,y1,x2,y2,x3,y3,x4,y4,he,kk,⟨L1,L2,ho.low hX.size⟩,ownLow' hn hX.size,hb.keep hb2,RB.out _ kk⟩
    obtain ⟨Pc0,Pc1,-,Pz⟩:=P.out.b
    obtain ⟨Gac0,Gac1,Gac2,-,Gaz⟩:=Ga.out.b
    have kD:Below X8.heap.size X8 X8.drew:=Below.drew (Below.refl _ _)
    have hdr:∀ X:World,X.drew.heap.size=X.heap.size:=fun _=>rfl
    go_cut [24,25] (fun s8 s9 wx=>CutR X8 RD CB s8 s9 wx)
    case first=>
     go_region_held3 (fun w'=>w'.cell? ⟨bP,0,none⟩=some (.slice p1 pp.caps.length a1)∧w'.cell? ⟨bP,1,none⟩=some (.slice p2 pp.bods.length a2)∧w'.cell? ⟨ba,0,none⟩=some (.slice ta1 DA.ths.length da1)∧w'.cell? ⟨ba,1,none⟩=some (.slice ta2 DA.chs.length da2)∧w'.cell? ⟨ba,2,none⟩=some (.slice ta3 DA.tr.length da3)) (first | exact RB.out _ (by repeat' (first | with_reducible exact kC | with_reducible exact kD | with_reducible exact Below.refl _ _ | with_reducible refine Below.drew ?_ | with_reducible refine Below.alloc ?_ (by first | omega | exact Nat.le_refl _ | (simp [hdr];done) | (simp [hdr];omega)) _ | with_reducible refine Below.setCell ?_ (by first | omega | exact Nat.le_refl _ | (simp [hdr];done) | (simp [hdr];omega)) _)) | go_keep) (first | (go_at_call 7;with_reducible refine (CT.out _ _ (by repeat' (first | with_reducible exact kC | with_reducible exact kD | with_reducible exact Below.refl _ _ | with_reducible refine Below.drew ?_ | with_reducible refine Below.alloc ?_ (by first | omega | exact Nat.le_refl _ | (simp [hdr];done) | (simp [hdr];omega)) _ | with_reducible refine Below.setCell ?_ (by first | omega | exact Nat.le_refl _ | (simp [hdr];done) | (simp [hdr];omega)) _)) (by first | with_reducible exact boxAD (boxA0 _) | with_reducible exact boxA0 _ | with_reducible exact boxAN _)).mono ?_;rintro e wC ⟨x1,y1,x2,y2,x3,y3,x4,y4,rfl,kC,OC,NC,HBC,yC0,yC1,yC2,yC3,yC4⟩;have zC:=kC.size;(try obtain ⟨⟨b0',b1',b2',bf',b9⟩,-⟩:=boxAS HBC.out)) | fail)
     all_goals
      go_wp2_with fail
      go_meet
      first
       | with_reducible exact cutR_new OC.out NC.out kC
       | with_reducible exact cutR_set (boxAS HBC.out) (by omega) OC.out NC.out kC
    case rest=>
     obtain ⟨bb,lob,hib,lpb,hpb,tb1,db1,tb2,db2,tb3,db3,tb4,db4,rfl,rfl,hz,hi,kk⟩:=hcut
     clear Pc0 Pc1 Pz Gac0 Gac1 Gac2 Gaz
     clear RB CT kD hdr
     have JP:=hidR (P.out.keep kk)
     have JS:=hidR (S.out.keep kk)
     have JL:=hidR (L.out.keep kk)
     have JK:=hidR (K.out.trans (kk.mono K.out.size))
     have JGt:=hidR (Gt.out.keep kk)
     have JNt:=hidR (Nt.out.keep kk)
     have JGa:=hidR (Ga.out.keep kk)
     have JNa:=hidR (Na.out.keep kk)
     clear P S L K Gt Nt Ga Na
     have P:=JP
     have S:=JS
     have L:=JL
     have K:=JK
     have Gt:=JGt
     have Nt:=JNt
     have Ga:=JGa
     have Na:=JNa
     clear JP JS JL JK JGt JNt JGa JNa
     have Gb:=hidR hz
     have Nb:=hidR hi
     clear hz hi kk
     obtain ⟨X9,hXX⟩:∃ z,z=wc:=⟨_,rfl⟩
     subst hXX
     have hws:IntKind.i64.wrap ((CA.length:Int)+(CB.length:Int))=(RC.length:Int):=by
      have h:=PT.out.2
      have h2:=LRC.out
      rw [Go.IntWalk.i64_in _ ⟨by omega,by omega⟩]
      omega
     have hee:(((RC.length:Int))==((RC.length:Int)))=true:=by simp
     obtain ⟨Gbc0,Gbc1,Gbc2,-,Gbz⟩:=Gb.out.b
     obtain ⟨Gtc0,Gtc1,Gtc2,-,Gtz⟩:=Gt.out.b
     go_wp2_with fail
     refine (sameSource_eq tb1 tb2 tb3 tt1 tt2 tt3 db1 db2 db3 dt1 dt2 dt3 _ _ _ _ RD X9 Gb.out.r Gt.out.r Gb.out.h Gt.out.h FR.out).mono ?_
     rintro e Z9 ⟨rfl,kk⟩
     go_wp2
     go_ret
     exact ⟨rfl,K.out.trans (kk.mono K.out.size)⟩
set_option maxRecDepth 100000 in
theorem liftedFnRun (os : Os) (started : os.Started) (H : Type) (enc : TypeId × Value → H) :
  ReturnsInHanded {} Tryz.checked os 3 .any (Rows.fnRunSpec.pre6 enc Tryz.prog Tryz.f3 Rows.fnRunRow.domain false) (Rows.fnRunSpec.post enc Tryz.prog Tryz.f3 false true false false):=by
 refine returnsInHanded_of_change (C:=Tryz.checked) ownS started (by kernel_rfl) Tryz.func3
  (ChangeSpec.witness6 (enc:=enc) (C:=Tryz.checked) false ⟨#[],#[.slice none 0 0],[]⟩ 8 (by kernel_rfl) (by kernel_rfl) (by kernel_rfl) (by kernel_rfl)) ?_
 intro W base args ds gs before hval0 hW hcnd _
 have hval:∀ (j:Nat) t v,Tryz.f3.params[j]? =some t→args[j]? =some v→Value.okWide Tryz.prog W .any base t v:=hval0
 have hW':=hW
 obtain ⟨p,q,hA0,hV,rfl,hfz,hnd⟩:=hW
 have hA:DataW.TrodAll enc Tryz.prog W 0 (fun _=>true) true Tryz.f3.params.toList args.toList ds p:=hA0
 rw [Tryz.params3] at hA hval
 obtain ⟨v0,d0,hargs,rfl,h0⟩:=trodAll_one hA
 obtain rfl:args=#[v0]:=by cases args;simp_all
 obtain ⟨rfl,rfl⟩:=trodVars_none hV
 have k0:=h0
 have lt0:∀ x∈p,x.block < W.heap.size:=by obtain ⟨m,hm⟩:=k0;exact DataW.trod_lt m _ _ _ hm
 obtain ⟨s,n,c,rfl,hn,hB⟩:=bytes_read (hval 0 22 v0 rfl rfl) h0
 clear hA0 hval0
 refine (walkFnRun s n c W hB hn).mono fun e W' ⟨he,bel⟩=>?_
 subst he
 exact ⟨_,rfl,_,_,_,[],_,[],hW',trodAll_mk1 (shut_bool Tryz.underlying4 _),trodAll_mk1 (Below.trod laidOutS (by kernel_rfl) (of_decide_eq_true (by kernel_rfl)) k0 bel lt0),rfl,bel.frame _,fun h=>by cases h⟩
theorem fnRun_holds:Rows.FnRunSaid:=
 OpenClaim.holds_of_wide 3 Tryz.f3 rfl rfl rfl rfl rfl rfl rfl ⟨rfl,rfl,rfl,rfl,rfl⟩ rfl rfl rfl rfl rfl (by kernel_rfl) Tryz.func3 (by kernel_rfl)
  (of_decide_eq_true (by kernel_rfl)) (by unfold Func.isWrapper;first | (rw [if_pos (by decide+kernel)];kernel_rfl) | (rw [if_neg (by decide+kernel)];exact ⟨rfl,rfl⟩))
  (fun os started H enc _=>liftedFnRun os started H enc)
#print axioms fnRun_holds
end Go.Proofs.YtknffngbdakblaaGreat
