/- Chapter 3: ChanSend of the program and of the specification. Conditions: lists of at most 2^30 numbers. Append of a whole row of integers, or of notes, onto an empty row that a call has made. Conditions: fewer than 2^30 of them. What a walk through a law carries from call to call: boxes, rows and sources between two blocks, and what a call that writes over a source leaves. Conditions: none of its own. -/
import Derived.Test.YtknffngbdakblaaGreatJG00
import Derived.Test.YtknffngbdakblaaGreatJG03
import Derived.Test.YtknffngbdakblaaGreatJChRing
namespace Go.Proofs.YtknffngbdakblaaGreat
section
set_option linter.unusedSimpArgs false
set_option linter.unusedVariables false
set_option maxRecDepth 100000
open Go.RowKit
def sendL (cap:Int) (l:List Int) (cl:Bool) (v:Int):List Int:=if okC cap l.length=true∧cl=false∧(l.length:Int) < cap then l++[v] else l
def sendK (cap:Int) (l:List Int) (cl:Bool):Int:=if okC cap l.length=true∧cl=false then (if (l.length:Int) < cap then 0 else 1) else 2
def SendPost (cap:Int) (l:List Int) (cl:Bool) (v:Int) (w:World) (e:Ending) (w':World):Prop:=
 ∃ u,e=.returned (.tuple #[.agg #[.int .i64 cap,u,.bool cl],.int .i64 (sendK cap l cl)])∧OwnN w' w.heap.size u (sendL cap l cl v)∧Below w.heap.size w w'∧w.heap.size < w'.heap.size
theorem okC_range {cap:Int} {n:Nat} (h:okC cap n=true):1≤cap∧cap≤4∧(n:Int)≤cap:=by simpa [okC] using h
theorem send_no {cap:Int} {l:List Int} {cl:Bool} {v:Int} (h:¬ (okC cap l.length=true∧cl=false)):sendL cap l cl v=l∧sendK cap l cl=2:=
 ⟨if_neg (fun g=>h ⟨g.1,g.2.1⟩),if_neg h⟩
theorem send_full {cap:Int} {l:List Int} {cl:Bool} {v:Int} (h:okC cap l.length=true∧cl=false) (hn:¬ (l.length:Int) < cap):sendL cap l cl v=l∧sendK cap l cl=1:=
 ⟨if_neg (fun g=>hn g.2.2),by unfold sendK;rw [if_pos h,if_neg hn]⟩
theorem send_more {cap:Int} {l:List Int} {cl:Bool} {v:Int} (h:okC cap l.length=true∧cl=false) (hn:(l.length:Int) < cap):sendL cap l cl v=l++[v]∧sendK cap l cl=0:=
 ⟨if_pos ⟨h.1,h.2,hn⟩,by unfold sendK;rw [if_pos h,if_pos hn]⟩
/- what is answered as it was -/
theorem send_same {cap : Int} {l : List Int} {cl : Bool} {v k : Int} {w : World} {e : Ending} {w' : World} (h : sendL cap l cl v = l ∧ sendK cap l cl = k) (u : Value)
  (h1:e=.returned (.tuple #[.agg #[.int .i64 cap,u,.bool cl],.int .i64 k])) (h2:OwnN w' w.heap.size u l) (h3:Below w.heap.size w w') (h4:w.heap.size < w'.heap.size):SendPost cap l cl v w e w':=
 ⟨u,by rw [h.2];exact h1,by rw [h.1];exact h2,h3,h4⟩
theorem res_own {w1:World} {base B:Nat} {u:Value} {l:List Int} (h:OwnN w1 base u l) (hb:B+2≤base) (x y z:Value):OwnN (((w1.setCell ⟨B+1,0,none⟩ x).setCell ⟨B+1,1,none⟩ y).setCell ⟨B+1,2,none⟩ z) B u l:=
 OwnN.low (((h.set (a:=⟨B+1,0,none⟩) (by simp;omega) _).set (a:=⟨B+1,1,none⟩) (by simp;omega) _).set (a:=⟨B+1,2,none⟩) (by simp;omega) _) (by omega)
theorem res_below {w w1:World} (h:Below w.heap.size w w1) (x y z:Value):Below w.heap.size w (((w1.setCell ⟨w.heap.size+1,0,none⟩ x).setCell ⟨w.heap.size+1,1,none⟩ y).setCell ⟨w.heap.size+1,2,none⟩ z):=
 ((h.setCell (p:=⟨w.heap.size+1,0,none⟩) (by simp) _).setCell (p:=⟨w.heap.size+1,1,none⟩) (by simp) _).setCell (p:=⟨w.heap.size+1,2,none⟩) (by simp) _
set_option maxHeartbeats 2000000 in
theorem implSend_any (cap:Int) (s:Option Addr) (l:List Int) (c:Nat) (cl:Bool) (v:Int) (w:World) (hr:RowI w w.heap.size s l) (hn:l.length≤1073741824):Calls Tryz.prog 89 #[.agg #[.int .i64 cap,.slice s l.length c,.bool cl],.int .i64 v] w fun e w'=>SendPost cap l cl v w e w':=by
 by_cases hq:okC cap l.length=true∧cl=false
 ·obtain ⟨hok,rfl⟩:=hq
  obtain ⟨q1,q4,qn⟩:=okC_range hok
  by_cases hlt:(l.length:Int) < cap
  all_goals
   go_enter Tryz.func89,Tryz.ntmps89
   go_wp2_with fail
   obtain ⟨W,hW,hX,K0⟩:=boxW w (.int .i64 cap) (.slice s l.length c) (.bool false) (.int .i64 0) (.slice none 0 0) (.bool false) 65 65
   rw [hW]
   clear hW
   refine (implOk_any cap s l.length c false W hn).mono ?_
   rintro e w1 ⟨rfl,hb1⟩
   rw [hok]
   have X1:=hX.keep (hb1.mono hX.z)
   have K1:=K0.trans (hb1.mono (by have:=hX.z;omega))
   have R1:=(hr.below K1).mono (B':=w1.heap.size) (by have:=X1.z;omega)
   clear hX hb1 K0
   have HX:=(show Hid _ from X1)
   obtain ⟨c0,c1,c2,d0,d1,d2,f0,f1,z,z0,z1⟩:=X1
   go_wp2_with fail
   refine (ringOf_any cap s l c false w1 R1 q1 q4 qn).mono ?_
   rintro e w2 ⟨rv,rfl,⟨x0,x1,x2,x3,rfl,hx⟩,hb2,hs2⟩
   have X2:=HX.out.keep (hb2.mono z)
   have K2:=K1.trans (hb2.mono (by omega))
   clear c0 c1 c2 d0 d1 d2 f0 f1 z z0 z1 HX hb2 K1 R1
   have RG:=(show Hid _ from ring_back (X:=w2) (T:=128) q1 q4 qn hx)
   clear hx
   have HX:=(show Hid _ from X2)
   obtain ⟨c0,c1,c2,d0,d1,d2,f0,f1,z,z0,z1⟩:=X2
   go_wp2_with fail
  ·refine (put_more _ cap 0 v l _ RG.out hlt).mono ?_
   rintro e w3 ⟨rfl,hr3,hs3,hb3⟩
   have B3:Below w2.heap.size w2 w3:=((Below.refl _ _).alloc (Nat.le_refl _) _).trans (hb3 _ (Nat.le_refl _))
   have X3:=HX.out.keep (B3.mono z)
   have K3:=K2.trans (B3.mono (by omega))
   have R3:=(show Hid _ from hr3)
   clear c0 c1 c2 d0 d1 d2 f0 f1 z z0 z1 HX hb3 hr3 RG K2 B3 hs3
   have HX:=(show Hid _ from X3)
   obtain ⟨c0,c1,c2,d0,d1,d2,f0,f1,z,z0,z1⟩:=X3
   go_wp2_with fail
   go_region_held3 (fun w'=>w'.cell? ⟨w.heap.size,0,none⟩=some (.int .i64 cap)) (go_keep) (first | (go_at_call 101;refine (row_any _ cap 0 (l++[v]) w3.drew (R3.out.keep (w':=w3.drew) rfl (Nat.le_refl _))).mono ?_;rintro e w4 ⟨v4,rfl,ho4,hb4⟩;obtain ⟨s4,k4,rfl⟩:=ho4.sl;have HX4:=HX.out.keep (w1:=w4) (Below.trans (Below.drew (Below.refl _ _)) (hb4.mono z));have g0:=HX4.c0;have e0:=HX4.d0;have e1:=HX4.d1;have e2:=HX4.d2;have e3:=HX4.f1;have e4:=HX4.z1))
   have K4:=K3.trans (Below.trans (Below.drew (Below.refl _ _)) (hb4.mono (by have:=z;show _≤w3.heap.size;omega)))
   have HO4:Hid (OwnN w4 w3.heap.size (.slice s4 (l.length+1) k4) (l++[v])):=(by simpa using ho4:OwnN _ _ _ _)
   clear ho4 hb4
   go_wp2
   refine bodyPost_ret (v:=.tuple #[.agg #[.int .i64 cap,.slice s4 (l.length+1) k4,.bool false],.int .i64 0]) (by simp [results,Tryz.results89,go_sem,e0,e1,e2]) rfl ?_
   have hh:=send_more (v:=v) ⟨hok,rfl⟩ hlt
   exact ⟨_,by rw [hh.2],by rw [hh.1];exact res_own HO4.out z _ _ _,res_below K4 _ _ _,by simp;omega⟩
  ·refine (put_full _ cap 0 v l _ RG.out (by omega)).mono ?_
   rintro e w3 ⟨rfl,n3,rfl⟩
   have B3:Below w2.heap.size w2 ((w2.alloc (.cells #[.int .i64 x0,.int .i64 x1,.int .i64 x2,.int .i64 x3,.int .i64 cap,.int .i64 0,.int .i64 l.length] 128)).drewN n3):=((Below.refl _ _).alloc (Nat.le_refl _) _).trans ⟨rfl,rfl,rfl,Nat.le_refl _,fun _ _=>rfl⟩
   have X3:=HX.out.keep (B3.mono z)
   have K3:=K2.trans (B3.mono (by omega))
   clear c0 c1 c2 d0 d1 d2 f0 f1 z z0 z1 HX RG K2 B3
   generalize ((w2.alloc (.cells #[.int .i64 x0,.int .i64 x1,.int .i64 x2,.int .i64 x3,.int .i64 cap,.int .i64 0,.int .i64 l.length] 128)).drewN n3)=w3 at X3 K3
   have HX:=(show Hid _ from X3)
   obtain ⟨c0,c1,c2,d0,d1,d2,f0,f1,z,z0,z1⟩:=X3
   go_wp2_with fail
   refine (sameChan_any cap s l c false _ ((hr.below K3).mono (by omega)) hn).mono ?_
   rintro e w4 ⟨u4,rfl,ho4,hb4,hs4⟩
   obtain ⟨s4,k4,rfl⟩:=ho4.sl
   have X4:=HX.out.keep (hb4.mono z)
   have K4:=K3.trans (hb4.mono (by omega))
   have HO4:=(show Hid _ from ho4)
   clear ho4 hb4 c0 c1 c2 d0 d1 d2 f0 f1 z0 z1 HX
   obtain ⟨c0,c1,c2,d0,d1,d2,f0,f1,z4,z0,z1⟩:=X4
   go_wp2
   refine bodyPost_ret (v:=.tuple #[.agg #[.int .i64 cap,.slice s4 l.length k4,.bool false],.int .i64 1]) (by simp [results,Tryz.results89,go_sem,d0,d1,d2]) rfl ?_
   exact send_same (send_full ⟨hok,rfl⟩ (by omega)) _ rfl (res_own HO4.out z _ _ _) (res_below K4 _ _ _) (by simp;omega)
 ·have HQ:Hid (¬ (okC cap l.length=true∧cl=false)):=hq
  clear hq
  have hcase:okC cap l.length=false∨(okC cap l.length=true∧cl=true):=by
   have:=HQ.out
   cases h1:okC cap l.length<;>cases cl<;>simp_all
  rcases hcase with hok | ⟨hok,rfl⟩
  ·go_enter Tryz.func89,Tryz.ntmps89
   go_wp2_with fail
   obtain ⟨W,hW,hX,K0⟩:=boxW w (.int .i64 cap) (.slice s l.length c) (.bool cl) (.int .i64 0) (.slice none 0 0) (.bool false) 65 65
   rw [hW]
   clear hW
   refine (implOk_any cap s l.length c cl W hn).mono ?_
   rintro e w1 ⟨rfl,hb1⟩
   rw [hok]
   have X1:=hX.keep (hb1.mono hX.z)
   have K1:=K0.trans (hb1.mono (by have:=hX.z;omega))
   have R1:=(hr.below K1).mono (B':=w1.heap.size) (by have:=X1.z;omega)
   clear hX hb1 K0
   have HX:=(show Hid _ from X1)
   obtain ⟨c0,c1,c2,d0,d1,d2,f0,f1,z,z0,z1⟩:=X1
   go_wp2_with fail
   refine (sameChan_any cap s l c cl _ R1 hn).mono ?_
   rintro e w4 ⟨u4,rfl,ho4,hb4,hs4⟩
   obtain ⟨s4,k4,rfl⟩:=ho4.sl
   have X4:=HX.out.keep (hb4.mono z)
   have K4:=K1.trans (hb4.mono (by omega))
   have HO4:=(show Hid _ from ho4)
   clear ho4 hb4 c0 c1 c2 d0 d1 d2 f0 f1 z0 z1 HX
   obtain ⟨c0,c1,c2,d0,d1,d2,f0,f1,z4,z0,z1⟩:=X4
   go_wp2
   refine bodyPost_ret (v:=.tuple #[.agg #[.int .i64 cap,.slice s4 l.length k4,.bool cl],.int .i64 2]) (by simp [results,Tryz.results89,go_sem,d0,d1,d2]) rfl ?_
   exact send_same (send_no HQ.out) _ rfl (res_own HO4.out z _ _ _) (res_below K4 _ _ _) (by simp;omega)
  ·go_enter Tryz.func89,Tryz.ntmps89
   go_wp2_with fail
   obtain ⟨W,hW,hX,K0⟩:=boxW w (.int .i64 cap) (.slice s l.length c) (.bool true) (.int .i64 0) (.slice none 0 0) (.bool false) 65 65
   rw [hW]
   clear hW
   refine (implOk_any cap s l.length c true W hn).mono ?_
   rintro e w1 ⟨rfl,hb1⟩
   rw [hok]
   have X1:=hX.keep (hb1.mono hX.z)
   have K1:=K0.trans (hb1.mono (by have:=hX.z;omega))
   have R1:=(hr.below K1).mono (B':=w1.heap.size) (by have:=X1.z;omega)
   clear hX hb1 K0
   have HX:=(show Hid _ from X1)
   obtain ⟨c0,c1,c2,d0,d1,d2,f0,f1,z,z0,z1⟩:=X1
   go_wp2_with fail
   refine (sameChan_any cap s l c true _ R1 hn).mono ?_
   rintro e w4 ⟨u4,rfl,ho4,hb4,hs4⟩
   obtain ⟨s4,k4,rfl⟩:=ho4.sl
   have X4:=HX.out.keep (hb4.mono z)
   have K4:=K1.trans (hb4.mono (by omega))
   have HO4:=(show Hid _ from ho4)
   clear ho4 hb4 c0 c1 c2 d0 d1 d2 f0 f1 z0 z1 HX
   obtain ⟨c0,c1,c2,d0,d1,d2,f0,f1,z4,z0,z1⟩:=X4
   go_wp2
   refine bodyPost_ret (v:=.tuple #[.agg #[.int .i64 cap,.slice s4 l.length k4,.bool true],.int .i64 2]) (by simp [results,Tryz.results89,go_sem,d0,d1,d2]) rfl ?_
   exact send_same (send_no HQ.out) _ rfl (res_own HO4.out z _ _ _) (res_below K4 _ _ _) (by simp;omega)
/- a channel of the call's own, in a block -/
structure Box1 (G:Nat) (W:World) (v0 v1 v2:Value):Prop where
 c0:W.cell? ⟨G,0,none⟩=some v0
 c1:W.cell? ⟨G,1,none⟩=some v1
 c2:W.cell? ⟨G,2,none⟩=some v2
 f:∀ j,W.frozen? ⟨G,j,none⟩=false
 z:G < W.heap.size
theorem Box1.keep {G:Nat} {W w1:World} {v0 v1 v2:Value} (h:Box1 G W v0 v1 v2) (hb:w1.heap[G]? =W.heap[G]?) (hs:W.heap.size≤w1.heap.size):Box1 G w1 v0 v1 v2:=
 ⟨(World.cell?_of_block (w:=W) (a:=⟨G,0,none⟩) hb).trans h.c0,(World.cell?_of_block (w:=W) (a:=⟨G,1,none⟩) hb).trans h.c1,(World.cell?_of_block (w:=W) (a:=⟨G,2,none⟩) hb).trans h.c2,fun j=>(World.frozen?_of_block (w:=W) (a:=⟨G,j,none⟩) hb).trans (h.f j),by have:=h.z;omega⟩
theorem box1 (X:World) (v0 v1 v2:Value) (T:TypeId):∃ Y,X.alloc (.cells #[v0,v1,v2] T)=Y∧Box1 X.heap.size Y v0 v1 v2∧Below X.heap.size X Y∧Y.heap.size=X.heap.size+1:=
 ⟨_,rfl,⟨by simp [go_sem],by simp [go_sem],by simp [go_sem],fun j=>by simp [go_sem],by simp⟩,(Below.refl _ _).alloc (Nat.le_refl _) _,by simp⟩
set_option maxHeartbeats 2000000 in
theorem specSend_any (cap:Int) (s:Option Addr) (l:List Int) (c:Nat) (cl:Bool) (v:Int) (w:World) (hr:RowI w w.heap.size s l) (hn:l.length≤1073741824):Calls Tryz.prog 93 #[.agg #[.int .i64 cap,.slice s l.length c,.bool cl],.int .i64 v] w fun e w'=>SendPost cap l cl v w e w':=by
 cases cl with
 | true=>
  go_enter Tryz.func93,Tryz.ntmps93
  go_wp2_with fail
  obtain ⟨W,hW,hX,K0⟩:=boxW w (.int .i64 cap) (.slice s l.length c) (.bool true) (.int .i64 0) (.slice none 0 0) (.bool false) 65 65
  rw [hW]
  clear hW
  refine (l3Copy_any cap s l c true W ((hr.below K0).mono (by have:=hX.z;omega)) hn).mono ?_
  rintro e w1 ⟨u1,rfl,ho1,hb1,hs1⟩
  obtain ⟨s1,k1,rfl⟩:=ho1.sl
  obtain ⟨Y,hY,b1,KY,sY⟩:=box1 w1 (.int .i64 cap) (.slice s1 l.length k1) (.bool true) 65
  have BY:=(hb1.trans (KY.mono (by omega)))
  have XY:=hX.keep (BY.mono hX.z)
  have KK:=K0.trans (BY.mono (by have:=hX.z;omega))
  have HO:=(show Hid _ from ho1.below KY)
  have hz:=hX.z
  clear hX hb1 K0 KY BY ho1
  obtain ⟨a0,a1,a2,af,az⟩:=b1
  obtain ⟨c0,c1,c2,d0,d1,d2,f0,f1,z,z0,z1⟩:=XY
  go_wp2_with fail
  refine bodyPost_ret (v:=.tuple #[.agg #[.int .i64 cap,.slice s1 l.length k1,.bool true],.int .i64 2]) (by simp [results,Tryz.results93,go_sem,d0,d1,d2]) rfl ?_
  exact send_same (send_no (fun h=>by cases h.2)) _ rfl (res_own HO.out hz _ _ _) (res_below KK _ _ _) (by simp;omega)
 | false=>
  go_enter Tryz.func93,Tryz.ntmps93
  go_wp2_with fail
  obtain ⟨W,hW,hX,K0⟩:=boxW w (.int .i64 cap) (.slice s l.length c) (.bool false) (.int .i64 0) (.slice none 0 0) (.bool false) 65 65
  rw [hW]
  clear hW
  refine (l3Copy_any cap s l c false W ((hr.below K0).mono (by have:=hX.z;omega)) hn).mono ?_
  rintro e w1 ⟨u1,rfl,ho1,hb1,hs1⟩
  obtain ⟨s1,k1,rfl⟩:=ho1.sl
  obtain ⟨Y,hY,b1,KY,sY⟩:=box1 w1 (.int .i64 cap) (.slice s1 l.length k1) (.bool false) 65
  have BY:=(hb1.trans (KY.mono (by omega)))
  have XY:=hX.keep (BY.mono hX.z)
  obtain ⟨c0,c1,c2,d0,d1,d2,f0,f1,z,z0,z1⟩:=hX.keep (hb1.mono hX.z)
  have HYe:=(show Hid _ from hY)
  clear hY
  have KK:=K0.trans (BY.mono (by have:=hX.z;omega))
  have HO:Hid (OwnN Y W.heap.size (.slice s1 l.length k1) l):=ho1.below KY
  have HO1:Hid (OwnN w1 W.heap.size (.slice s1 l.length k1) l):=ho1
  have hz:=hX.z
  clear hX hb1 K0 KY BY ho1
  have HY:=(show Hid _ from b1)
  have HXY:=(show Hid _ from XY)
  clear b1 XY
  go_wp2_with fail
  rw [HYe.out]
  refine (specOk_any cap s l.length c false Y hn).mono ?_
  rintro e w2 ⟨rfl,hb2⟩
  have X2:=HXY.out.keep (hb2.mono HXY.out.z)
  have Y2:=HY.out.keep (hb2.block _ HY.out.z) hb2.size
  have K2:=KK.trans (hb2.mono (by omega))
  have O2:Hid (OwnN w2 W.heap.size (.slice s1 l.length k1) l):=HO.out.below hb2
  have hz2:=hb2.size
  clear c0 c1 c2 d0 d1 d2 f0 f1 z0 z1 HY HYe HXY HO KK hb2
  have HY:=(show Hid _ from Y2)
  have HXY:=(show Hid _ from X2)
  obtain ⟨a0,a1,a2,af,az2⟩:=Y2
  obtain ⟨c0,c1,c2,d0,d1,d2,f0,f1,z2,z0,z1⟩:=X2
  cases hok:okC cap l.length with
  | false=>
   go_wp2_with fail
   refine bodyPost_ret (v:=.tuple #[.agg #[.int .i64 cap,.slice s1 l.length k1,.bool false],.int .i64 2]) (by simp [results,Tryz.results93,go_sem,d0,d1,d2]) rfl ?_
   exact send_same (send_no (fun h=>by rw [hok] at h;cases h.1)) _ rfl (res_own O2.out hz _ _ _) (res_below K2 _ _ _) (by simp;omega)
  | true=>
   obtain ⟨q1,q4,qn⟩:=okC_range hok
   by_cases hlt:(l.length:Int) < cap
   ·have hne:((l.length:Int)==cap)=false:=by simp;omega
    have hne':¬ ((l.length:Int)=cap):=by omega
    go_wp2_with (at_builtin;refine app_one rfl _ _ rfl w2 v W.heap.size (.slice s1 l.length k1) l rfl O2.out rfl (by omega) (by omega) ?_;intro g5 cap5 w5 ho5 hb5 hf5;have hf6:=hf5 _ az2 (fun e=>by have:=(own_block_lt HO1.out e).2;omega);have hg5:¬ w1.heap.size=g5:=hf6.2;have Y5:=HY.out.keep hf6.1 hb5.size;have X5:=HXY.out.keep (hb5.mono hz);have HO5:Hid (OwnN w5 W.heap.size (.slice (some ⟨g5,0,none⟩) (l.length+1) cap5) (l++[v])):=ho5;have K5:=K2.trans (hb5.mono (by omega));obtain ⟨g0,g1,g2,gf,gz⟩:=Y5;obtain ⟨h0,h1,h2,i0,i1,i2,j0,j1,zz,zz0,zz1⟩:=X5;clear ho5 hb5 hf5 hf6 c0 c1 c2 d0 d1 d2 f0 f1 a0 a1 a2 af)
    refine bodyPost_ret (v:=.tuple #[.agg #[.int .i64 cap,.slice (some ⟨g5,0,none⟩) (l.length+1) cap5,.bool false],.int .i64 0]) (by simp [results,Tryz.results93,go_sem,i0,i1,i2]) rfl ?_
    have hh:=send_more (v:=v) ⟨hok,rfl⟩ hlt
    exact ⟨_,by rw [hh.2],by rw [hh.1];exact res_own (HO5.out.far (a:=⟨w1.heap.size,1,none⟩) hg5 _) hz _ _ _,res_below (K5.setCell (p:=⟨w1.heap.size,1,none⟩) (by simp;omega) _) _ _ _,by simp;omega⟩
   ·have he:(l.length:Int)=cap:=by omega
    have HE:Hid ((l.length:Int)=cap):=he
    have hne:((l.length:Int)==cap)=true:=by simp;omega
    clear he
    go_wp2_with fail
    refine bodyPost_ret (v:=.tuple #[.agg #[.int .i64 cap,.slice s1 l.length k1,.bool false],.int .i64 1]) (by simp [results,Tryz.results93,go_sem,d0,d1,d2]) rfl ?_
    exact send_same (send_full ⟨hok,rfl⟩ (by omega)) _ rfl (res_own O2.out hz _ _ _) (res_below K2 _ _ _) (by simp;omega)
end
section
set_option linter.unusedSimpArgs false
set_option linter.unusedVariables false
set_option maxRecDepth 100000
open Go.RowKit
structure Copied (w w':World) (sv:Option Addr) (cv:Nat) (base n:Nat) (s':Option Addr) (c':Nat):Prop where
 far:∀ k,k < w.heap.size→(Value.slice sv 0 cv).ownBlock≠some k→w'.heap[k]? =w.heap[k]?
 low:Below base w w'
 blk:∀ k,(Value.slice s' n c').ownBlock=some k→w.heap.size≤k∨(Value.slice sv 0 cv).ownBlock=some k
theorem wp_copyI {o : Oper} {a : Act} {w : World} {K : Act → World → Prop} {Q : Exit → Act → World → Prop} (s x : Operand) (hty : o.type = 24) (ho : o.op = .call { callee := .builtin .append, args := #[s, x], argTypes := #[24, 24] })
  (base:Nat) (sv:Option Addr) (cv:Nat) (hs:a.eval s=.slice sv 0 cv) (hown:OwnN w base (.slice sv 0 cv) []) (sx:Option Addr) (c:Nat) (l:List Int) {lo hi:Nat} (hx:a.eval x=.slice sx l.length c) (hr:IntsR w lo hi sx l) (hn:l.length≤1073741824) (hbase:base≤w.heap.size)
  (h:∀ s' c' w',OwnN w' base (.slice s' l.length c') l→Copied w w' sv cv base l.length s' c'→K (a.put o.dst (.slice s' l.length c')) w'):Oper.wp Tryz.prog o a w K Q:=by
 rcases hr with rfl | ⟨g,off,rfl,h1,h2,hc⟩
 ·have hrun:=run_append_zero w base _ _ hown sx c
  unfold Oper.wp
  simp at hx
  simp [execOp,ho,resolve,invoke,builtin,hs,hx,hty,hrun,Result.andThen]
  exact h sv cv w hown ⟨fun _ _ _=>rfl,Below.refl _ _,fun k hk=>.inr hk⟩
 ·rcases Nat.eq_zero_or_pos l.length with h0 | hl
  ·have e:=List.length_eq_zero_iff.1 h0
   subst e
   have hrun:=run_append_zero w base _ _ hown (some ⟨g,off,none⟩) c
   unfold Oper.wp
   simp at hx
   simp [execOp,ho,resolve,invoke,builtin,hs,hx,hty,hrun,Result.andThen]
   exact h sv cv w hown ⟨fun _ _ _=>rfl,Below.refl _ _,fun k hk=>.inr hk⟩
  ·obtain ⟨i0,hi0,hz0,hz1,hz2⟩:=infoInt
   refine wp_append_lies w s x 24 ho base 3 i0 _ 1 8 Tryz.underlying24 hi0 hz0 hz1 hz2 rfl (by decide) _ 0 _ hs hown ⟨g,off,none⟩ l.length c (l.map (Value.int .i64)) hx (by simp) (news_row hc) (fun u hu=>by obtain ⟨z,-,rfl⟩:=List.mem_map.1 hu;rfl) hl (by unfold maxLen;omega) (by omega) hbase _ rfl ?_
   intro g' cap w' q1 q2 q3 q4
   have hb:Below base w w':=Below.grown (Below.refl _ _) q2 hbase (fun j hj=>(World.ownsRow.lt hown _ hj).1)
   rw [Nat.zero_add]
   rw [Nat.zero_add] at q1
   refine h _ _ w' (by show w'.ownsRow base 3 1 _ l.length (l.map (Value.int .i64));exact q1) ⟨fun k hk hne=>q2.block k hk (fun e=>hne e.symm),hb,fun k hk=>?_⟩
   injection hk with hk
   rcases q3 with q3 | q3
   ·exact .inr (by rw [q3];exact congrArg some hk)
   ·exact .inl (by have:g'=k:=hk;omega)
theorem app_copyI {ops : Array Oper} {rest : List Oper} {o : Oper} {a : Act} {Q : Exit → Act → World → Prop} (hgd : o.guard = none) (s x : Operand) (hty : o.type = 24) (ho : o.op = .call { callee := .builtin .append, args := #[s, x], argTypes := #[24, 24] }) (w : World)
  (base:Nat) (sv:Option Addr) (cv:Nat) (hs:a.eval s=.slice sv 0 cv) (hown:OwnN w base (.slice sv 0 cv) []) (sx:Option Addr) (c:Nat) (l:List Int) {lo hi:Nat} (hx:a.eval x=.slice sx l.length c) (hr:IntsR w lo hi sx l) (hn:l.length≤1073741824) (hbase:base≤w.heap.size)
  (h:∀ s' c' w',OwnN w' base (.slice s' l.length c') l→Copied w w' sv cv base l.length s' c'→wpList Tryz.prog ops Q rest (a.put o.dst (.slice s' l.length c')) w'):wpList Tryz.prog ops Q (o::rest) a w:=
 wpList_plain hgd fun _ hK=>wp_copyI s x hty ho base sv cv hs hown sx c l hx hr hn hbase fun s' c' w' h1 h2=>hK _ _ (h s' c' w' h1 h2)
theorem infoD:∃ i,Tryz.prog.info? 67=some i∧i.zero=some (.agg #[.int .i64 0,.int .i64 0])∧i.size=2∧i.bytes=16:=⟨_,rfl,rfl,rfl,rfl⟩
theorem run_append_zeroD (w : World) (base : Nat) (v : Value) (l : List ND) (hown : OwnD w base v l) (s : Option Addr) (c : Nat) :
  (Builtin.append_ #[30,30] 30 #[v,.slice s 0 c]).run Tryz.prog w=.ok v w:=by
 obtain ⟨i0,hi,hz0,hz1,hz2⟩:=infoD
 rcases hown.2 with ⟨rfl,-⟩ | ⟨g,cap,cur,rfl,_,_,hnc,_⟩
 ·cases s<;>simp [Builtin.append_,run_underlying Tryz.underlying30,sizeOf,typeInfo,hi,Builtin.lenOf,Builtin.firstCells,loadCells,loadCellsFrom,storeCells]
 ·cases s<;>simp [Builtin.append_,run_underlying Tryz.underlying30,sizeOf,typeInfo,hi,Builtin.lenOf,Builtin.firstCells,hnc,storeCells,loadCells,loadCellsFrom,storeCells]
theorem news_notes {w:World} {g o:Nat} {l:List ND} (hc:∀ (i:Nat) (n:ND),l[i]? =some n→NtR w g (o+i * 2) n):∀ j u,(flatN l)[j]? =some u→w.cell? (Addr.add ⟨g,o,none⟩ j)=some u:=by
 intro j u hu
 have hj:j < l.length * 2:=by have:=(List.getElem?_eq_some_iff.1 hu).1;rw [flatN_len] at this;exact this
 have ea:(Addr.add ⟨g,o,none⟩ j)=⟨g,o+j,none⟩:=by
  by_cases h:j=0
  ·subst h;rfl
  ·simp [Addr.add,h]
 have hi:j / 2 < l.length:=by omega
 have h1:=hc (j / 2) _ (List.getElem?_eq_getElem hi)
 obtain ⟨e0,e1⟩:=flatN_at l (j / 2) _ (List.getElem?_eq_getElem hi)
 rw [ea]
 rcases (show j=j / 2 * 2∨j=j / 2 * 2+1 by omega) with e | e
 ·rw [e,e0] at hu
  rw [e,← hu]
  exact h1.1
 ·rw [e,e1] at hu
  rw [e,← hu]
  exact h1.2
theorem flatN_one:∀ (l:List ND),∀ u∈flatN l,u.oneCell'=true
 | [],u,h=>by simp [flatN] at h
 | x::r,u,h=>by
  simp only [flatN,List.mem_append,List.mem_cons,List.not_mem_nil,or_false] at h
  rcases h with (rfl | rfl) | h
  ·rfl
  ·rfl
  ·exact flatN_one r u h
theorem wp_copyD {o : Oper} {a : Act} {w : World} {K : Act → World → Prop} {Q : Exit → Act → World → Prop} (s x : Operand) (hty : o.type = 30) (ho : o.op = .call { callee := .builtin .append, args := #[s, x], argTypes := #[30, 30] })
  (base:Nat) (sv:Option Addr) (cv:Nat) (hs:a.eval s=.slice sv 0 cv) (hown:OwnD w base (.slice sv 0 cv) []) (sx:Option Addr) (c:Nat) (l:List ND) {lo hi:Nat} (hx:a.eval x=.slice sx l.length c) (hr:NtsR w lo hi sx l) (hn:l.length≤1073741824) (hbase:base≤w.heap.size)
  (h:∀ s' c' w',OwnD w' base (.slice s' l.length c') l→Copied w w' sv cv base l.length s' c'→K (a.put o.dst (.slice s' l.length c')) w'):Oper.wp Tryz.prog o a w K Q:=by
 rcases Nat.eq_zero_or_pos l.length with h0 | hl
 ·have e:=List.length_eq_zero_iff.1 h0
  subst e
  have hrun:=run_append_zeroD w base _ _ hown sx c
  unfold Oper.wp
  simp at hx
  simp [execOp,ho,resolve,invoke,builtin,hs,hx,hty,hrun,Result.andThen]
  exact h sv cv w hown ⟨fun _ _ _=>rfl,Below.refl _ _,fun k hk=>.inr hk⟩
 ·rcases hr with rfl | ⟨g,off,rfl,h1,h2,hc⟩
  ·simp at hl
  ·obtain ⟨i0,hi0,hz0,hz1,hz2⟩:=infoD
   refine wp_append_lies w s x 30 ho base 67 i0 _ 2 16 Tryz.underlying30 hi0 hz0 hz1 hz2 rfl (by decide) _ 0 _ hs hown ⟨g,off,none⟩ l.length c (flatN l) hx (flatN_len l) (news_notes hc) (flatN_one l) hl (by unfold maxLen;omega) (by omega) hbase _ rfl ?_
   intro g' cap w' q1 q2 q3 q4
   have hb:Below base w w':=Below.grown (Below.refl _ _) q2 hbase (fun j hj=>(World.ownsRow.lt hown _ hj).1)
   rw [Nat.zero_add]
   rw [Nat.zero_add] at q1
   refine h _ _ w' q1 ⟨fun k hk hne=>q2.block k hk (fun e=>hne e.symm),hb,fun k hk=>?_⟩
   injection hk with hk
   rcases q3 with q3 | q3
   ·exact .inr (by rw [q3];exact congrArg some hk)
   ·exact .inl (by have:g'=k:=hk;omega)
theorem app_copyD {ops : Array Oper} {rest : List Oper} {o : Oper} {a : Act} {Q : Exit → Act → World → Prop} (hgd : o.guard = none) (s x : Operand) (hty : o.type = 30) (ho : o.op = .call { callee := .builtin .append, args := #[s, x], argTypes := #[30, 30] }) (w : World)
  (base:Nat) (sv:Option Addr) (cv:Nat) (hs:a.eval s=.slice sv 0 cv) (hown:OwnD w base (.slice sv 0 cv) []) (sx:Option Addr) (c:Nat) (l:List ND) {lo hi:Nat} (hx:a.eval x=.slice sx l.length c) (hr:NtsR w lo hi sx l) (hn:l.length≤1073741824) (hbase:base≤w.heap.size)
  (h:∀ s' c' w',OwnD w' base (.slice s' l.length c') l→Copied w w' sv cv base l.length s' c'→wpList Tryz.prog ops Q rest (a.put o.dst (.slice s' l.length c')) w'):wpList Tryz.prog ops Q (o::rest) a w:=
 wpList_plain hgd fun _ hK=>wp_copyD s x hty ho base sv cv hs hown sx c l hx hr hn hbase fun s' c' w' h1 h2=>hK _ _ (h s' c' w' h1 h2)
/- a call of a Go function, as a step of a region that draws its order -/
theorem stepC {ops : Array Oper} {o : Oper} {a : Act} {w : World} {K : Act → World → Prop} {Q : Exit → Act → World → Prop} {F : Prop} (f : FuncId) (args : Array Value) (hgd : o.guard = none) (xs : Array Operand) (ats : Array TypeId) (ho : o.op = .call { callee := .value (.func f), args := xs, argTypes := ats }) (hx : xs.map a.eval = args)
  (hent:∀ (args:Array Value) (w:World),(callFunc f args).run Tryz.prog w=.ok (.enter f args) w) (h:Calls Tryz.prog f args w fun e w'=>∃ v,e=.returned v∧K (a.put o.dst v) w'):
  if Region.wanted o (yielded ops a.tmps)=true then Oper.wp Tryz.prog o a w K Q else F:=by
 have hw:Region.wanted o (yielded ops a.tmps)=true:=by simp [Region.wanted,hgd]
 rw [if_pos hw]
 obtain ⟨dst,op,ty,pos,after,guard⟩:=o
 simp only at ho
 subst ho
 unfold Oper.wp
 rw [execOp_call_go]
 have e:(#[]++xs.map a.eval++#[])=args:=by rw [hx];simp
 rw [e,hent,Oper.upon_enter]
 refine h.mono ?_
 rintro e w' ⟨v,rfl,hk⟩
 exact hk
end
section
set_option linter.unusedSimpArgs false
set_option linter.unusedVariables false
set_option maxRecDepth 100000
open Go.RowKit
structure Bo2 (G:Nat) (W:World) (a b:Value):Prop where
 c0:W.cell? ⟨G,0,none⟩=some a
 c1:W.cell? ⟨G,1,none⟩=some b
theorem Bo2.new (w:World) (a b:Value) (T:TypeId):∃ W,w.alloc (.cells #[a,b] T)=W∧Bo2 w.heap.size W a b∧Below w.heap.size w W∧W.heap.size=w.heap.size+1:=
 ⟨_,rfl,⟨by simp [go_sem],by simp [go_sem]⟩,(Below.refl _ _).alloc (Nat.le_refl _) _,by simp⟩
theorem Bo2.keep {G:Nat} {W W':World} {a b:Value} (h:Bo2 G W a b) (hk:Keep G (G+1) W W'):Bo2 G W' a b:=⟨(hk.cell (p:=⟨G,0,none⟩) (Nat.le_refl _) (Nat.lt_succ_self _)).trans h.c0,(hk.cell (p:=⟨G,1,none⟩) (Nat.le_refl _) (Nat.lt_succ_self _)).trans h.c1⟩
structure Bo3 (G:Nat) (W:World) (a b c:Value):Prop where
 c0:W.cell? ⟨G,0,none⟩=some a
 c1:W.cell? ⟨G,1,none⟩=some b
 c2:W.cell? ⟨G,2,none⟩=some c
theorem Bo3.new (w:World) (a b c:Value) (T:TypeId):∃ W,w.alloc (.cells #[a,b,c] T)=W∧Bo3 w.heap.size W a b c∧Below w.heap.size w W∧W.heap.size=w.heap.size+1:=
 ⟨_,rfl,⟨by simp [go_sem],by simp [go_sem],by simp [go_sem]⟩,(Below.refl _ _).alloc (Nat.le_refl _) _,by simp⟩
theorem Bo3.keep {G:Nat} {W W':World} {a b c:Value} (h:Bo3 G W a b c) (hk:Keep G (G+1) W W'):Bo3 G W' a b c:=⟨(hk.cell (p:=⟨G,0,none⟩) (Nat.le_refl _) (Nat.lt_succ_self _)).trans h.c0,(hk.cell (p:=⟨G,1,none⟩) (Nat.le_refl _) (Nat.lt_succ_self _)).trans h.c1,(hk.cell (p:=⟨G,2,none⟩) (Nat.le_refl _) (Nat.lt_succ_self _)).trans h.c2⟩
theorem OwnS.keepB {w w':World} {lo:Nat} {v1 v2 v3:Value} {L1 L2:List (Rec×Value)} {d:SD} (h:OwnS w lo v1 v2 v3 L1 L2 d) (hk:∀ k,HitS v1 v2 v3 L1 L2 k→w'.heap[k]? =w.heap[k]?):OwnS w' lo v1 v2 v3 L1 L2 d:=
 ⟨h.e1,h.e2,h.t.keepB (fun k e=>hk k (.inl (.inl e))) (fun i x hx k e=>hk k (.inl (.inr ⟨i,x,hx,e⟩))),h.c.keepB (fun k e=>hk k (.inr (.inl (.inl e)))) (fun i x hx k e=>hk k (.inr (.inl (.inr ⟨i,x,hx,e⟩)))),ownKeep' h.n (fun k e=>hk k (.inr (.inr e))),h.sep⟩
end
end Go.Proofs.YtknffngbdakblaaGreat
