/- Chapter 3: ChanTake of the program and of the specification. Conditions: lists of at most 2^30 numbers. -/
import Derived.Test.YtknffngbdakblaaGreatJG00
import Derived.Test.YtknffngbdakblaaGreatJChRing
import Derived.Test.YtknffngbdakblaaGreatJG03
import Derived.Test.YtknffngbdakblaaGreatJG04
namespace Go.Proofs.YtknffngbdakblaaGreat
set_option linter.unusedSimpArgs false
set_option linter.unusedVariables false
set_option maxRecDepth 100000
open Go.RowKit
def takeL (cap:Int) (l:List Int):List Int:=if okC cap l.length=true then l.tail else l
def takeV (cap:Int) (l:List Int):Int:=if okC cap l.length=true then l.headD 0 else 0
def takeK (cap:Int) (l:List Int) (cl:Bool):Int:=if okC cap l.length=true then (if l=[] then (if cl=true then 3 else 1) else 0) else 2
def TakePost (cap:Int) (l:List Int) (cl:Bool) (w:World) (e:Ending) (w':World):Prop:=
 ∃ u,e=.returned (.tuple #[.agg #[.int .i64 cap,u,.bool cl],.int .i64 (takeV cap l),.int .i64 (takeK cap l cl)])∧OwnN w' w.heap.size u (takeL cap l)∧Below w.heap.size w w'∧w.heap.size < w'.heap.size
theorem take_bad {cap:Int} {l:List Int} {cl:Bool} (h:okC cap l.length=false):takeL cap l=l∧takeV cap l=0∧takeK cap l cl=2:=by
 have h':¬ okC cap l.length=true:=by rw [h];simp
 exact ⟨if_neg h',if_neg h',if_neg h'⟩
theorem take_empty {cap:Int} {cl:Bool} (h:okC cap 0=true):takeL cap []=[]∧takeV cap []=0∧takeK cap [] cl=if cl=true then 3 else 1:=by
 refine ⟨if_pos h,if_pos h,?_⟩
 unfold takeK
 rw [if_pos (by simpa using h),if_pos rfl]
theorem take_cons {cap x:Int} {t:List Int} {cl:Bool} (h:okC cap (x::t).length=true):takeL cap (x::t)=t∧takeV cap (x::t)=x∧takeK cap (x::t) cl=0:=by
 refine ⟨if_pos h,if_pos h,?_⟩
 unfold takeK
 rw [if_pos h,if_neg (by simp)]
theorem take_same {cap : Int} {l l' : List Int} {cl : Bool} {k y : Int} {w : World} {e : Ending} {w' : World} (h : takeL cap l = l' ∧ takeV cap l = y ∧ takeK cap l cl = k) (u : Value)
  (h1:e=.returned (.tuple #[.agg #[.int .i64 cap,u,.bool cl],.int .i64 y,.int .i64 k])) (h2:OwnN w' w.heap.size u l') (h3:Below w.heap.size w w') (h4:w.heap.size < w'.heap.size):TakePost cap l cl w e w':=
 ⟨u,by rw [h.2.2,h.2.1];exact h1,by rw [h.1];exact h2,h3,h4⟩
set_option maxHeartbeats 2000000 in
theorem implTake_any (cap:Int) (s:Option Addr) (l:List Int) (c:Nat) (cl:Bool) (w:World) (hr:RowI w w.heap.size s l) (hn:l.length≤1073741824):Calls Tryz.prog 102 #[.agg #[.int .i64 cap,.slice s l.length c,.bool cl]] w fun e w'=>TakePost cap l cl w e w':=by
 cases hok:okC cap l.length with
 | false=>
  go_enter Tryz.func102,Tryz.ntmps102
  go_wp2_with fail
  obtain ⟨W,hW,hX,K0⟩:=boxW w (.int .i64 cap) (.slice s l.length c) (.bool cl) (.int .i64 0) (.slice none 0 0) (.bool false) 65 65
  rw [hW]
  clear hW
  refine (implOk_any cap s l.length c cl W hn).mono ?_
  rintro e w1 ⟨rfl,hb1⟩
  rw [hok]
  have X1:=hX.keep (hb1.mono hX.z)
  have K1:=K0.trans (hb1.mono (by have:=hX.z;omega))
  have R1:=(hr.below K1).mono (B':=w1.heap.size) (by have:=X1.z;omega)
  clear hX hb1 K0
  have HX:=(show Hid _ from X1)
  obtain ⟨c0,c1,c2,d0,d1,d2,f0,f1,z,z0,z1⟩:=X1
  go_wp2_with fail
  refine (sameChan_any cap s l c cl _ R1 hn).mono ?_
  rintro e w4 ⟨u4,rfl,ho4,hb4,hs4⟩
  obtain ⟨s4,k4,rfl⟩:=ho4.sl
  have X4:=HX.out.keep (hb4.mono z)
  have K4:=K1.trans (hb4.mono (by omega))
  have HO4:=(show Hid _ from ho4)
  clear ho4 hb4 c0 c1 c2 d0 d1 d2 f0 f1 z0 z1 HX
  obtain ⟨c0,c1,c2,d0,d1,d2,f0,f1,z4,z0,z1⟩:=X4
  go_wp2
  refine bodyPost_ret (v:=.tuple #[.agg #[.int .i64 cap,.slice s4 l.length k4,.bool cl],.int .i64 0,.int .i64 2]) (by simp [results,Tryz.results102,go_sem,d0,d1,d2]) rfl ?_
  exact take_same (take_bad hok) _ rfl (res_own HO4.out z _ _ _) (res_below K4 _ _ _) (by simp;omega)
 | true=>
  obtain ⟨q1,q4,qn⟩:=okC_range hok
  go_enter Tryz.func102,Tryz.ntmps102
  go_wp2_with fail
  obtain ⟨W,hW,hX,K0⟩:=boxW w (.int .i64 cap) (.slice s l.length c) (.bool cl) (.int .i64 0) (.slice none 0 0) (.bool false) 65 65
  rw [hW]
  clear hW
  refine (implOk_any cap s l.length c cl W hn).mono ?_
  rintro e w1 ⟨rfl,hb1⟩
  rw [hok]
  have X1:=hX.keep (hb1.mono hX.z)
  have K1:=K0.trans (hb1.mono (by have:=hX.z;omega))
  have R1:=(hr.below K1).mono (B':=w1.heap.size) (by have:=X1.z;omega)
  clear hX hb1 K0
  have HX:=(show Hid _ from X1)
  obtain ⟨c0,c1,c2,d0,d1,d2,f0,f1,z,z0,z1⟩:=X1
  go_wp2_with fail
  refine (ringOf_any cap s l c cl w1 R1 q1 q4 qn).mono ?_
  rintro e w2 ⟨rv,rfl,⟨x0,x1,x2,x3,rfl,hx⟩,hb2,hs2⟩
  have X2:=HX.out.keep (hb2.mono z)
  have K2:=K1.trans (hb2.mono (by omega))
  clear c0 c1 c2 d0 d1 d2 f0 f1 z z0 z1 HX hb2 K1 R1
  have RG:=(show Hid _ from ring_back (X:=w2) (T:=128) q1 q4 qn hx)
  clear hx
  have HX:=(show Hid _ from X2)
  obtain ⟨c0,c1,c2,d0,d1,d2,f0,f1,z,z0,z1⟩:=X2
  go_wp2_with fail
  cases l with
  | cons x t=>
   refine (take_some _ cap 0 x t _ RG.out).mono ?_
   rintro e w3 ⟨rfl,hr3,hs3,hb3⟩
   have B3:Below w2.heap.size w2 w3:=((Below.refl _ _).alloc (Nat.le_refl _) _).trans (hb3 _ (Nat.le_refl _))
   have X3:=HX.out.keep (B3.mono z)
   have K3:=K2.trans (B3.mono (by omega))
   have R3:=(show Hid _ from hr3)
   clear c0 c1 c2 d0 d1 d2 f0 f1 z z0 z1 HX hb3 hr3 RG K2 B3 hs3
   have HX:=(show Hid _ from X3)
   obtain ⟨c0,c1,c2,d0,d1,d2,f0,f1,z,z0,z1⟩:=X3
   go_wp2_with fail
   go_region_held3 (fun w'=>w'.cell? ⟨w.heap.size,0,none⟩=some (.int .i64 cap)∧w'.cell? ⟨w.heap.size,2,none⟩=some (.bool cl)) (go_keep) (first | (go_at_call 101;refine (row_any _ cap ((0+1) % cap) t w3.drew (R3.out.keep (w':=w3.drew) rfl (Nat.le_refl _))).mono ?_;rintro e w4 ⟨v4,rfl,ho4,hb4⟩;obtain ⟨s4,k4,rfl⟩:=ho4.sl;have HX4:=HX.out.keep (w1:=w4) (Below.trans (Below.drew (Below.refl _ _)) (hb4.mono z));have g0:=HX4.c0;have g2:=HX4.c2;have e0:=HX4.d0;have e1:=HX4.d1;have e2:=HX4.d2;have e3:=HX4.f1;have e4:=HX4.z1))
   have K4:=K3.trans (Below.trans (Below.drew (Below.refl _ _)) (hb4.mono (by have:=z;show _≤w3.heap.size;omega)))
   have HO4:Hid (OwnN w4 w3.heap.size (.slice s4 t.length k4) t):=ho4
   clear ho4 hb4
   go_wp2
   refine bodyPost_ret (v:=.tuple #[.agg #[.int .i64 cap,.slice s4 t.length k4,.bool cl],.int .i64 x,.int .i64 0]) (by simp [results,Tryz.results102,go_sem,e0,e1,e2]) rfl ?_
   exact take_same (take_cons hok) _ rfl (res_own HO4.out z _ _ _) (res_below K4 _ _ _) (by simp;omega)
  | nil=>
   refine (take_none _ cap 0 _ RG.out).mono ?_
   rintro e w3 ⟨rfl,rfl⟩
   have B3:Below w2.heap.size w2 (w2.alloc (.cells #[.int .i64 x0,.int .i64 x1,.int .i64 x2,.int .i64 x3,.int .i64 cap,.int .i64 0,.int .i64 (List.length (α:=Int) [])] 128)):=(Below.refl _ _).alloc (Nat.le_refl _) _
   have X3:=HX.out.keep (B3.mono z)
   have K3:=K2.trans (B3.mono (by omega))
   clear c0 c1 c2 d0 d1 d2 f0 f1 z z0 z1 HX RG K2 B3
   generalize (w2.alloc (.cells #[.int .i64 x0,.int .i64 x1,.int .i64 x2,.int .i64 x3,.int .i64 cap,.int .i64 0,.int .i64 (List.length (α:=Int) [])] 128))=w3 at X3 K3
   have HX:=(show Hid _ from X3)
   obtain ⟨c0,c1,c2,d0,d1,d2,f0,f1,z,z0,z1⟩:=X3
   cases cl with
   | true=>
    go_wp2_with fail
    refine (sameChan_any cap s [] c true _ ((hr.below K3).mono (by omega)) hn).mono ?_
    rintro e w4 ⟨u4,rfl,ho4,hb4,hs4⟩
    obtain ⟨s4,k4,rfl⟩:=ho4.sl
    have X4:=HX.out.keep (hb4.mono z)
    have K4:=K3.trans (hb4.mono (by omega))
    have HO4:=(show Hid _ from ho4)
    clear ho4 hb4 c0 c1 c2 d0 d1 d2 f0 f1 z0 z1 HX
    obtain ⟨c0,c1,c2,d0,d1,d2,f0,f1,z4,z0,z1⟩:=X4
    go_wp2
    refine bodyPost_ret (v:=.tuple #[.agg #[.int .i64 cap,.slice s4 0 k4,.bool true],.int .i64 0,.int .i64 3]) (by simp [results,Tryz.results102,go_sem,d0,d1,d2]) rfl ?_
    exact take_same (take_empty (by simpa using hok)) _ rfl (res_own HO4.out z _ _ _) (res_below K4 _ _ _) (by simp;omega)
   | false=>
    go_wp2_with fail
    refine (sameChan_any cap s [] c false _ ((hr.below K3).mono (by omega)) hn).mono ?_
    rintro e w4 ⟨u4,rfl,ho4,hb4,hs4⟩
    obtain ⟨s4,k4,rfl⟩:=ho4.sl
    have X4:=HX.out.keep (hb4.mono z)
    have K4:=K3.trans (hb4.mono (by omega))
    have HO4:=(show Hid _ from ho4)
    clear ho4 hb4 c0 c1 c2 d0 d1 d2 f0 f1 z0 z1 HX
    obtain ⟨c0,c1,c2,d0,d1,d2,f0,f1,z4,z0,z1⟩:=X4
    go_wp2
    refine bodyPost_ret (v:=.tuple #[.agg #[.int .i64 cap,.slice s4 0 k4,.bool false],.int .i64 0,.int .i64 1]) (by simp [results,Tryz.results102,go_sem,d0,d1,d2]) rfl ?_
    exact take_same (take_empty (by simpa using hok)) _ rfl (res_own HO4.out z _ _ _) (res_below K4 _ _ _) (by simp;omega)
/- the blocks behind the first append of the specification's ChanTake -/
theorem take_end {w w1 w5 : World} {cap : Int} {cl : Bool} {s0 : Value} {g o : Nat} {x : Int} {v1 v5 : Value} (hz : w.heap.size + 2 ≤ w1.heap.size) (hg : g < w.heap.size) (Y5 : Box1 w1.heap.size w5 (.int .i64 cap) v1 (.bool cl)) (X5 : Box w.heap.size w5 (.int .i64 cap) s0 (.bool cl) (.int .i64 0) (.slice none 0 0) (.bool false)) (hx : w5.cell? ⟨g, o, none⟩ = some (.int .i64 x)) :
  ∃ W6,w5.setCell ⟨w1.heap.size,1,none⟩ v5=W6∧Box1 w1.heap.size W6 (.int .i64 cap) v5 (.bool cl)∧Box w.heap.size W6 (.int .i64 cap) s0 (.bool cl) (.int .i64 0) (.slice none 0 0) (.bool false)∧W6.cell? ⟨g,o,none⟩=some (.int .i64 x):=by
 refine ⟨_,rfl,?_,X5.keep ((Below.refl _ _).setCell (p:=⟨w1.heap.size,1,none⟩) (by simpa using hz) _),?_⟩
 ·exact ⟨(cellOff (by omega)).trans Y5.c0,cellAt Y5.c1,(cellOff (by omega)).trans Y5.c2,fun j=>by rw [World.frozen?_setCell];exact Y5.f j,by simpa using Y5.z⟩
 ·exact (((Below.refl w1.heap.size w5).setCell (p:=⟨w1.heap.size,1,none⟩) (Nat.le_refl _) v5).cell (p:=⟨g,o,none⟩) (by simp;omega)).trans hx
set_option maxHeartbeats 2000000 in
theorem specTake_any (cap:Int) (s:Option Addr) (l:List Int) (c:Nat) (cl:Bool) (w:World) (hr:RowI w w.heap.size s l) (hn:l.length≤1073741824) (hcap:l.length≤c):Calls Tryz.prog 95 #[.agg #[.int .i64 cap,.slice s l.length c,.bool cl]] w fun e w'=>TakePost cap l cl w e w':=by
 go_enter Tryz.func95,Tryz.ntmps95
 go_wp2_with fail
 obtain ⟨W,hW,hX,K0⟩:=boxW w (.int .i64 cap) (.slice s l.length c) (.bool cl) (.int .i64 0) (.slice none 0 0) (.bool false) 65 65
 rw [hW]
 clear hW
 refine (l3Copy_any cap s l c cl W ((hr.below K0).mono (by have:=hX.z;omega)) hn).mono ?_
 rintro e w1 ⟨u1,rfl,ho1,hb1,hs1⟩
 obtain ⟨s1,k1,rfl⟩:=ho1.sl
 obtain ⟨Y,hY,b1,KY,sY⟩:=box1 w1 (.int .i64 cap) (.slice s1 l.length k1) (.bool cl) 65
 have BY:=(hb1.trans (KY.mono (by omega)))
 have XY:=hX.keep (BY.mono hX.z)
 obtain ⟨c0,c1,c2,d0,d1,d2,f0,f1,z,z0,z1⟩:=hX.keep (hb1.mono hX.z)
 have HYe:=(show Hid _ from hY)
 clear hY
 have KK:=K0.trans (BY.mono (by have:=hX.z;omega))
 have HO:Hid (OwnN Y W.heap.size (.slice s1 l.length k1) l):=ho1.below KY
 have HO1:Hid (OwnN w1 W.heap.size (.slice s1 l.length k1) l):=ho1
 have hz:=hX.z
 clear hX hb1 K0 KY BY ho1
 have HY:=(show Hid _ from b1)
 have HXY:=(show Hid _ from XY)
 clear b1 XY
 go_wp2_with fail
 rw [HYe.out]
 refine (specOk_any cap s l.length c cl Y hn).mono ?_
 rintro e w2 ⟨rfl,hb2⟩
 have X2:=HXY.out.keep (hb2.mono HXY.out.z)
 have Y2:=HY.out.keep (hb2.block _ HY.out.z) hb2.size
 have K2:=KK.trans (hb2.mono (by omega))
 have O2:Hid (OwnN w2 W.heap.size (.slice s1 l.length k1) l):=HO.out.below hb2
 have hz2:=hb2.size
 clear c0 c1 c2 d0 d1 d2 f0 f1 z0 z1 HY HYe HXY HO KK hb2
 have HY:=(show Hid _ from Y2)
 have HXY:=(show Hid _ from X2)
 obtain ⟨a0,a1,a2,af,az2⟩:=Y2
 obtain ⟨c0,c1,c2,d0,d1,d2,f0,f1,z2,z0,z1⟩:=X2
 cases hok:okC cap l.length with
 | false=>
  go_wp2_with fail
  refine bodyPost_ret (v:=.tuple #[.agg #[.int .i64 cap,.slice s1 l.length k1,.bool cl],.int .i64 0,.int .i64 2]) (by simp [results,Tryz.results95,go_sem,d0,d1,d2]) rfl ?_
  exact take_same (take_bad hok) _ rfl (res_own O2.out hz _ _ _) (res_below K2 _ _ _) (by simp;omega)
 | true=>
  cases l with
  | nil=>
   cases cl with
   | true=>
    go_wp2_with fail
    refine bodyPost_ret (v:=.tuple #[.agg #[.int .i64 cap,.slice s1 0 k1,.bool true],.int .i64 0,.int .i64 3]) (by simp [results,Tryz.results95,go_sem,d0,d1,d2]) rfl ?_
    exact take_same (take_empty (by simpa using hok)) _ rfl (res_own O2.out hz _ _ _) (res_below K2 _ _ _) (by simp;omega)
   | false=>
    go_wp2_with fail
    refine bodyPost_ret (v:=.tuple #[.agg #[.int .i64 cap,.slice s1 0 k1,.bool false],.int .i64 0,.int .i64 1]) (by simp [results,Tryz.results95,go_sem,d0,d1,d2]) rfl ?_
    exact take_same (take_empty (by simpa using hok)) _ rfl (res_own O2.out hz _ _ _) (res_below K2 _ _ _) (by simp;omega)
  | cons x t=>
   rcases hr with h | ⟨g,o,rfl,hg,hc⟩
   ·cases h
   have HX0:Hid (w2.cell? ⟨g,o,none⟩=some (.int .i64 x)):=by
    have h:=hc 0 (by simp)
    rw [Nat.add_zero] at h
    exact (K2.cell (p:=⟨g,o,none⟩) hg).trans (by simpa using h)
   have HC:Hid (∀ i,i < t.length→w2.cell? ⟨g,o+1+i,none⟩=some (.int .i64 (t.getD i 0))):=by
    intro i hi
    have h:=hc (i+1) (by simp;omega)
    rw [show o+(i+1)=o+1+i by omega] at h
    exact (K2.cell (p:=⟨g,o+1+i,none⟩) hg).trans (by simpa using h)
   clear hc
   have hc1:t.length+1≤c:=by simpa using hcap
   have b1:(1:Int)≤(t.length:Int)+1:=by omega
   have b2:(t.length:Int)+1≤(c:Int):=by omega
   have ha:Below w2.heap.size w2 (w2.alloc (.cells #[] 3)):=(Below.refl _ _).alloc (Nat.le_refl _) _
   rcases Nat.eq_zero_or_pos t.length with h0 | h0
   ·have:t=[]:=List.length_eq_zero_iff.1 h0
    subst this
    clear h0
    obtain ⟨W6,hW6,Y6,X6,hx6⟩:=take_end (v5:=.slice (some ⟨w2.heap.size,0,none⟩) 0 0) z hg HY.out HXY.out HX0.out
    have hs6:W6.heap.size=w2.heap.size:=by rw [← hW6];simp
    have K6:Below w.heap.size w W6:=by rw [← hW6];exact K2.setCell (p:=⟨w1.heap.size,1,none⟩) (by simp;omega) _
    have HW6:=(show Hid _ from hW6)
    clear hW6
    by_cases h1:c=1
    ·subst h1
     go_wp2_with (at_builtin;refine app_none rfl _ _ rfl rfl _ w2.heap.size (.slice (some ⟨w2.heap.size,0,none⟩) 0 0) [] rfl (ownN_empty (Nat.le_refl _)) _ _ rfl ?_)
     rw [HW6.out]
     have ha6:Below W6.heap.size W6 (W6.alloc (.cells #[] 3)):=(Below.refl _ _).alloc (Nat.le_refl _) _
     have Y7:=Y6.keep (ha6.block _ Y6.z) ha6.size
     have X7:=X6.keep (ha6.mono X6.z)
     have x7:=(ha6.cell (p:=⟨g,o,none⟩) (by have:=X6.z;simp;omega)).trans hx6
     have K7:=K6.trans (ha6.mono (by have:=X6.z;omega))
     have HO7:Hid (OwnN (W6.alloc (.cells #[] 3)) w2.heap.size (.slice (some ⟨w2.heap.size,0,none⟩) 0 0) []):=by have h:=ownN_empty (w:=W6) (base:=w2.heap.size) (by omega);rw [hs6] at h;exact h
     have z7:w.heap.size+2≤w2.heap.size:=z2
     generalize (W6.alloc (.cells #[] 3))=W7 at Y7 X7 x7 K7 HO7
     clear HW6 Y6 X6 hx6 ha6
     obtain ⟨p0,p1,p2,pf,pz⟩:=Y7
     obtain ⟨c0,c1,c2,d0,d1,d2,f0,f1,z6,z0,z1⟩:=X7
     have n1:¬ w1.heap.size=w.heap.size:=by omega
     have n2:¬ w1.heap.size=w.heap.size+1:=by omega
     have n3:¬ w.heap.size+1=w1.heap.size:=by omega
     have n4:¬ w.heap.size+1=g:=by omega
     go_region_held3 (fun w'=>w'.cell? ⟨w1.heap.size,0,none⟩=some (.int .i64 cap)∧w'.cell? ⟨w1.heap.size,1,none⟩=some (.slice (some ⟨w2.heap.size,0,none⟩) 0 0)∧w'.cell? ⟨w1.heap.size,2,none⟩=some (.bool cl)∧w'.cell? ⟨w.heap.size,1,none⟩=some (.slice (some ⟨g,o,none⟩) (0+1) 1)∧w'.cell? ⟨g,o,none⟩=some (.int .i64 x)) (go_keep) (fail)
     go_wp2
     refine bodyPost_ret (v:=.tuple #[.agg #[.int .i64 cap,.slice (some ⟨w2.heap.size,0,none⟩) 0 0,.bool cl],.int .i64 x,.int .i64 0]) (by simp [results,Tryz.results95,go_sem,d0,d1,d2]) rfl ?_
     exact take_same (take_cons hok) _ rfl (res_own HO7.out z7 _ _ _) (Below.drew (res_below K7 _ _ _)) (by simp;omega)
    ·go_wp2_with (at_builtin;refine app_none rfl _ _ rfl rfl _ w2.heap.size (.slice (some ⟨w2.heap.size,0,none⟩) 0 0) [] rfl (ownN_empty (Nat.le_refl _)) _ _ rfl ?_)
     rw [HW6.out]
     have ha6:Below W6.heap.size W6 (W6.alloc (.cells #[] 3)):=(Below.refl _ _).alloc (Nat.le_refl _) _
     have Y7:=Y6.keep (ha6.block _ Y6.z) ha6.size
     have X7:=X6.keep (ha6.mono X6.z)
     have x7:=(ha6.cell (p:=⟨g,o,none⟩) (by have:=X6.z;simp;omega)).trans hx6
     have K7:=K6.trans (ha6.mono (by have:=X6.z;omega))
     have HO7:Hid (OwnN (W6.alloc (.cells #[] 3)) w2.heap.size (.slice (some ⟨w2.heap.size,0,none⟩) 0 0) []):=by have h:=ownN_empty (w:=W6) (base:=w2.heap.size) (by omega);rw [hs6] at h;exact h
     have z7:w.heap.size+2≤w2.heap.size:=z2
     generalize (W6.alloc (.cells #[] 3))=W7 at Y7 X7 x7 K7 HO7
     clear HW6 Y6 X6 hx6 ha6
     obtain ⟨p0,p1,p2,pf,pz⟩:=Y7
     obtain ⟨c0,c1,c2,d0,d1,d2,f0,f1,z6,z0,z1⟩:=X7
     have n1:¬ w1.heap.size=w.heap.size:=by omega
     have n2:¬ w1.heap.size=w.heap.size+1:=by omega
     have n3:¬ w.heap.size+1=w1.heap.size:=by omega
     have n4:¬ w.heap.size+1=g:=by omega
     go_region_held3 (fun w'=>w'.cell? ⟨w1.heap.size,0,none⟩=some (.int .i64 cap)∧w'.cell? ⟨w1.heap.size,1,none⟩=some (.slice (some ⟨w2.heap.size,0,none⟩) 0 0)∧w'.cell? ⟨w1.heap.size,2,none⟩=some (.bool cl)∧w'.cell? ⟨w.heap.size,1,none⟩=some (.slice (some ⟨g,o,none⟩) (0+1) c)∧w'.cell? ⟨g,o,none⟩=some (.int .i64 x)) (go_keep) (fail)
     go_wp2
     refine bodyPost_ret (v:=.tuple #[.agg #[.int .i64 cap,.slice (some ⟨w2.heap.size,0,none⟩) 0 0,.bool cl],.int .i64 x,.int .i64 0]) (by simp [results,Tryz.results95,go_sem,d0,d1,d2]) rfl ?_
     exact take_same (take_cons hok) _ rfl (res_own HO7.out z7 _ _ _) (Below.drew (res_below K7 _ _ _)) (by simp;omega)
   ·have hc2:¬ c=1:=by omega
    have hc3:¬ c - 1=0:=by omega
    go_wp2_with (at_builtin;refine app_row rfl _ _ rfl _ w2.heap.size (.slice (some ⟨w2.heap.size,0,none⟩) 0 0) [] rfl (ownN_empty (Nat.le_refl _)) g (o+1) (c - 1) t rfl (fun i hi=>(ha.cell (p:=⟨g,o+1+i,none⟩) (by simp;omega)).trans (HC.out i hi)) h0 (by simp;simp at hn;omega) (by simp) ?_;intro g5 cap5 w5 ho5 hb5 hg5 hg5';have BK:=ha.trans hb5;have HO5:Hid (OwnN w5 w2.heap.size (.slice (some ⟨g5,0,none⟩) t.length cap5) t):=(by simp at ho5;exact ho5);have Y5:=(show Hid _ from HY.out.keep (BK.block _ az2) BK.size);have X5:=(show Hid _ from HXY.out.keep (BK.mono z2));have a0:=Y5.out.c0;have a1:=Y5.out.c1;have a2:=Y5.out.c2;have af:=Y5.out.f;have hx5:=(show Hid _ from (BK.cell (p:=⟨g,o,none⟩) (by simp;omega)).trans HX0.out);have K5:=K2.trans (BK.mono (by omega));clear ho5 hb5 BK)
    obtain ⟨W6,hW6,Y7,X7,x7⟩:=take_end (v5:=.slice (some ⟨g5,0,none⟩) t.length cap5) z hg Y5.out X5.out hx5.out
    have K7:Below w.heap.size w W6:=by rw [← hW6];exact K5.setCell (p:=⟨w1.heap.size,1,none⟩) (by simp;omega) _
    have HO7:Hid (OwnN W6 w2.heap.size (.slice (some ⟨g5,0,none⟩) t.length cap5) t):=by rw [← hW6];exact HO5.out.set (a:=⟨w1.heap.size,1,none⟩) (by simp;omega) _
    have z7:w.heap.size+2≤w2.heap.size:=z2
    rw [hW6]
    clear hW6 a0 a1 a2 af Y5 X5 hx5 K5 HO5 hg5
    obtain ⟨p0,p1,p2,pf,pz⟩:=Y7
    obtain ⟨c0,c1,c2,d0,d1,d2,f0,f1,z6,z0,z1⟩:=X7
    have n1:¬ w1.heap.size=w.heap.size:=by omega
    have n2:¬ w1.heap.size=w.heap.size+1:=by omega
    have n3:¬ w.heap.size+1=w1.heap.size:=by omega
    have n4:¬ w.heap.size+1=g:=by omega
    go_region_held3 (fun w'=>w'.cell? ⟨w1.heap.size,0,none⟩=some (.int .i64 cap)∧w'.cell? ⟨w1.heap.size,1,none⟩=some (.slice (some ⟨g5,0,none⟩) t.length cap5)∧w'.cell? ⟨w1.heap.size,2,none⟩=some (.bool cl)∧w'.cell? ⟨w.heap.size,1,none⟩=some (.slice (some ⟨g,o,none⟩) (t.length+1) c)∧w'.cell? ⟨g,o,none⟩=some (.int .i64 x)) (go_keep) (fail)
    go_wp2
    refine bodyPost_ret (v:=.tuple #[.agg #[.int .i64 cap,.slice (some ⟨g5,0,none⟩) t.length cap5,.bool cl],.int .i64 x,.int .i64 0]) (by simp [results,Tryz.results95,go_sem,d0,d1,d2]) rfl ?_
    exact take_same (take_cons hok) _ rfl (res_own HO7.out z7 _ _ _) (Below.drew (res_below K7 _ _ _)) (by simp;omega)
end Go.Proofs.YtknffngbdakblaaGreat
