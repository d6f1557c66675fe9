/- The ring of the program: put, take, row, and the ring of a channel. Conditions: a room of 1 to 4, at most as many numbers. Chapter 3: ChanSend of the program and of the specification. Conditions: lists of at most 2^30 numbers. -/
import Derived.Test.YtknffngbdakblaaJG00
import Derived.Test.YtknffngbdakblaaJChDefs
import Derived.Test.YtknffngbdakblaaJChA
namespace Go.Proofs.Ytknffngbdakblaa
section
set_option linter.unusedSimpArgs false
set_option linter.unusedVariables false
set_option maxRecDepth 100000
open Go.RowKit
end
section
set_option linter.unusedSimpArgs false
set_option linter.unusedVariables false
set_option maxRecDepth 100000
open Go.RowKit
def sendL (cap : Int) (l : List Int) (cl : Bool) (v : Int) : List Int := if okC cap l.length = true ∧ cl = false ∧ (l.length : Int) < cap then l ++ [v] else l
def sendK (cap : Int) (l : List Int) (cl : Bool) : Int := if okC cap l.length = true ∧ cl = false then (if (l.length : Int) < cap then 0 else 1) else 2
def SendPost (cap : Int) (l : List Int) (cl : Bool) (v : Int) (w : World) (e : Ending) (w' : World) : Prop :=
 ∃ u, e = .returned (.tuple #[.agg #[.int .i64 cap, u, .bool cl], .int .i64 (sendK cap l cl)]) ∧ OwnN w' w.heap.size u (sendL cap l cl v) ∧ Below w.heap.size w w' ∧ w.heap.size < w'.heap.size
theorem okC_range {cap : Int} {n : Nat} (h : okC cap n = true) : 1 ≤ cap ∧ cap ≤ 4 ∧ (n : Int) ≤ cap := by simpa [okC] using h
theorem send_no {cap : Int} {l : List Int} {cl : Bool} {v : Int} (h : ¬ (okC cap l.length = true ∧ cl = false)) : sendL cap l cl v = l ∧ sendK cap l cl = 2 :=
 ⟨if_neg (fun g => h ⟨g.1, g.2.1⟩), if_neg h⟩
theorem send_full {cap : Int} {l : List Int} {cl : Bool} {v : Int} (h : okC cap l.length = true ∧ cl = false) (hn : ¬ (l.length : Int) < cap) : sendL cap l cl v = l ∧ sendK cap l cl = 1 :=
 ⟨if_neg (fun g => hn g.2.2), by unfold sendK; rw [if_pos h, if_neg hn]⟩
theorem send_more {cap : Int} {l : List Int} {cl : Bool} {v : Int} (h : okC cap l.length = true ∧ cl = false) (hn : (l.length : Int) < cap) : sendL cap l cl v = l ++ [v] ∧ sendK cap l cl = 0 :=
 ⟨if_pos ⟨h.1, h.2, hn⟩, by unfold sendK; rw [if_pos h, if_pos hn]⟩
/- what is answered as it was -/
theorem send_same {cap : Int} {l : List Int} {cl : Bool} {v k : Int} {w : World} {e : Ending} {w' : World} (h : sendL cap l cl v = l ∧ sendK cap l cl = k) (u : Value)
  (h1 : e = .returned (.tuple #[.agg #[.int .i64 cap, u, .bool cl], .int .i64 k])) (h2 : OwnN w' w.heap.size u l) (h3 : Below w.heap.size w w') (h4 : w.heap.size < w'.heap.size) : SendPost cap l cl v w e w' :=
 ⟨u, by rw [h.2]; exact h1, by rw [h.1]; exact h2, h3, h4⟩
theorem res_own {w1 : World} {base B : Nat} {u : Value} {l : List Int} (h : OwnN w1 base u l) (hb : B + 2 ≤ base) (x y z : Value) : OwnN (((w1.setCell ⟨B + 1, 0, none⟩ x).setCell ⟨B + 1, 1, none⟩ y).setCell ⟨B + 1, 2, none⟩ z) B u l :=
 OwnN.low (((h.set (a := ⟨B + 1, 0, none⟩) (by simp; omega) _).set (a := ⟨B + 1, 1, none⟩) (by simp; omega) _).set (a := ⟨B + 1, 2, none⟩) (by simp; omega) _) (by omega)
theorem res_below {w w1 : World} (h : Below w.heap.size w w1) (x y z : Value) : Below w.heap.size w (((w1.setCell ⟨w.heap.size + 1, 0, none⟩ x).setCell ⟨w.heap.size + 1, 1, none⟩ y).setCell ⟨w.heap.size + 1, 2, none⟩ z) :=
 ((h.setCell (p := ⟨w.heap.size + 1, 0, none⟩) (by simp) _).setCell (p := ⟨w.heap.size + 1, 1, none⟩) (by simp) _).setCell (p := ⟨w.heap.size + 1, 2, none⟩) (by simp) _
/- a channel of the call's own, in a block -/
structure Box1 (G : Nat) (W : World) (v0 v1 v2 : Value) : Prop where
 c0 : W.cell? ⟨G, 0, none⟩ = some v0
 c1 : W.cell? ⟨G, 1, none⟩ = some v1
 c2 : W.cell? ⟨G, 2, none⟩ = some v2
 f : ∀ j, W.frozen? ⟨G, j, none⟩ = false
 z : G < W.heap.size
theorem Box1.keep {G : Nat} {W w1 : World} {v0 v1 v2 : Value} (h : Box1 G W v0 v1 v2) (hb : w1.heap[G]? = W.heap[G]?) (hs : W.heap.size ≤ w1.heap.size) : Box1 G w1 v0 v1 v2 :=
 ⟨(World.cell?_of_block (w := W) (a := ⟨G, 0, none⟩) hb).trans h.c0, (World.cell?_of_block (w := W) (a := ⟨G, 1, none⟩) hb).trans h.c1, (World.cell?_of_block (w := W) (a := ⟨G, 2, none⟩) hb).trans h.c2, fun j => (World.frozen?_of_block (w := W) (a := ⟨G, j, none⟩) hb).trans (h.f j), by have := h.z; omega⟩
theorem box1 (X : World) (v0 v1 v2 : Value) (T : TypeId) : ∃ Y, X.alloc (.cells #[v0, v1, v2] T) = Y ∧ Box1 X.heap.size Y v0 v1 v2 ∧ Below X.heap.size X Y ∧ Y.heap.size = X.heap.size + 1 :=
 ⟨_, rfl, ⟨by simp [go_sem], by simp [go_sem], by simp [go_sem], fun j => by simp [go_sem], by simp⟩, (Below.refl _ _).alloc (Nat.le_refl _) _, by simp⟩
set_option maxHeartbeats 2000000 in
theorem specSend_any (cap : Int) (s : Option Addr) (l : List Int) (c : Nat) (cl : Bool) (v : Int) (w : World) (hr : RowI w w.heap.size s l) (hn : l.length ≤ 1073741824) : Calls Try.prog 36 #[.agg #[.int .i64 cap, .slice s l.length c, .bool cl], .int .i64 v] w fun e w' => SendPost cap l cl v w e w' := by
 cases cl with
 | true =>
  go_enter Try.func36, Try.ntmps36
  go_wp2_with fail
  obtain ⟨W, hW, hX, K0⟩ := boxW w (.int .i64 cap) (.slice s l.length c) (.bool true) (.int .i64 0) (.slice none 0 0) (.bool false) 50 50
  rw [hW]
  clear hW
  refine (l3Copy_any cap s l c true W ((hr.below K0).mono (by have := hX.z; omega)) hn).mono ?_
  rintro e w1 ⟨u1, rfl, ho1, hb1, hs1⟩
  obtain ⟨s1, k1, rfl⟩ := ho1.sl
  obtain ⟨Y, hY, b1, KY, sY⟩ := box1 w1 (.int .i64 cap) (.slice s1 l.length k1) (.bool true) 50
  have BY := (hb1.trans (KY.mono (by omega)))
  have XY := hX.keep (BY.mono hX.z)
  have KK := K0.trans (BY.mono (by have := hX.z; omega))
  have HO := (show Hid _ from ho1.below KY)
  have hz := hX.z
  clear hX hb1 K0 KY BY ho1
  obtain ⟨a0, a1, a2, af, az⟩ := b1
  obtain ⟨c0, c1, c2, d0, d1, d2, f0, f1, z, z0, z1⟩ := XY
  go_wp2_with fail
  refine bodyPost_ret (v := .tuple #[.agg #[.int .i64 cap, .slice s1 l.length k1, .bool true], .int .i64 2]) (by simp [results, Try.results36, go_sem, d0, d1, d2]) rfl ?_
  exact send_same (send_no (fun h => by cases h.2)) _ rfl (res_own HO.out hz _ _ _) (res_below KK _ _ _) (by simp; omega)
 | false =>
  go_enter Try.func36, Try.ntmps36
  go_wp2_with fail
  obtain ⟨W, hW, hX, K0⟩ := boxW w (.int .i64 cap) (.slice s l.length c) (.bool false) (.int .i64 0) (.slice none 0 0) (.bool false) 50 50
  rw [hW]
  clear hW
  refine (l3Copy_any cap s l c false W ((hr.below K0).mono (by have := hX.z; omega)) hn).mono ?_
  rintro e w1 ⟨u1, rfl, ho1, hb1, hs1⟩
  obtain ⟨s1, k1, rfl⟩ := ho1.sl
  obtain ⟨Y, hY, b1, KY, sY⟩ := box1 w1 (.int .i64 cap) (.slice s1 l.length k1) (.bool false) 50
  have BY := (hb1.trans (KY.mono (by omega)))
  have XY := hX.keep (BY.mono hX.z)
  obtain ⟨c0, c1, c2, d0, d1, d2, f0, f1, z, z0, z1⟩ := hX.keep (hb1.mono hX.z)
  have HYe := (show Hid _ from hY)
  clear hY
  have KK := K0.trans (BY.mono (by have := hX.z; omega))
  have HO : Hid (OwnN Y W.heap.size (.slice s1 l.length k1) l) := ho1.below KY
  have HO1 : Hid (OwnN w1 W.heap.size (.slice s1 l.length k1) l) := ho1
  have hz := hX.z
  clear hX hb1 K0 KY BY ho1
  have HY := (show Hid _ from b1)
  have HXY := (show Hid _ from XY)
  clear b1 XY
  go_wp2_with fail
  rw [HYe.out]
  refine (specOk_any cap s l.length c false Y hn).mono ?_
  rintro e w2 ⟨rfl, hb2⟩
  have X2 := HXY.out.keep (hb2.mono HXY.out.z)
  have Y2 := HY.out.keep (hb2.block _ HY.out.z) hb2.size
  have K2 := KK.trans (hb2.mono (by omega))
  have O2 : Hid (OwnN w2 W.heap.size (.slice s1 l.length k1) l) := HO.out.below hb2
  have hz2 := hb2.size
  clear c0 c1 c2 d0 d1 d2 f0 f1 z0 z1 HY HYe HXY HO KK hb2
  have HY := (show Hid _ from Y2)
  have HXY := (show Hid _ from X2)
  obtain ⟨a0, a1, a2, af, az2⟩ := Y2
  obtain ⟨c0, c1, c2, d0, d1, d2, f0, f1, z2, z0, z1⟩ := X2
  cases hok : okC cap l.length with
  | false =>
   go_wp2_with fail
   refine bodyPost_ret (v := .tuple #[.agg #[.int .i64 cap, .slice s1 l.length k1, .bool false], .int .i64 2]) (by simp [results, Try.results36, go_sem, d0, d1, d2]) rfl ?_
   exact send_same (send_no (fun h => by rw [hok] at h; cases h.1)) _ rfl (res_own O2.out hz _ _ _) (res_below K2 _ _ _) (by simp; omega)
  | true =>
   obtain ⟨q1, q4, qn⟩ := okC_range hok
   by_cases hlt : (l.length : Int) < cap
   ·have hne : ((l.length : Int) == cap) = false := by simp; omega
    have hne' : ¬ ((l.length : Int) = cap) := by omega
    go_wp2_with (at_builtin; refine app_one rfl _ _ rfl w2 v W.heap.size (.slice s1 l.length k1) l rfl O2.out rfl (by omega) (by omega) ?_; intro g5 cap5 w5 ho5 hb5 hf5; have hf6 := hf5 _ az2 (fun e => by have := (own_block_lt HO1.out e).2; omega); have hg5 : ¬ w1.heap.size = g5 := hf6.2; have Y5 := HY.out.keep hf6.1 hb5.size; have X5 := HXY.out.keep (hb5.mono hz); have HO5 : Hid (OwnN w5 W.heap.size (.slice (some ⟨g5, 0, none⟩) (l.length + 1) cap5) (l ++ [v])) := ho5; have K5 := K2.trans (hb5.mono (by omega)); obtain ⟨g0, g1, g2, gf, gz⟩ := Y5; obtain ⟨h0, h1, h2, i0, i1, i2, j0, j1, zz, zz0, zz1⟩ := X5; clear ho5 hb5 hf5 hf6 c0 c1 c2 d0 d1 d2 f0 f1 a0 a1 a2 af)
    refine bodyPost_ret (v := .tuple #[.agg #[.int .i64 cap, .slice (some ⟨g5, 0, none⟩) (l.length + 1) cap5, .bool false], .int .i64 0]) (by simp [results, Try.results36, go_sem, i0, i1, i2]) rfl ?_
    have hh := send_more (v := v) ⟨hok, rfl⟩ hlt
    exact ⟨_, by rw [hh.2], by rw [hh.1]; exact res_own (HO5.out.far (a := ⟨w1.heap.size, 1, none⟩) hg5 _) hz _ _ _, res_below (K5.setCell (p := ⟨w1.heap.size, 1, none⟩) (by simp; omega) _) _ _ _, by simp; omega⟩
   ·have he : (l.length : Int) = cap := by omega
    have HE : Hid ((l.length : Int) = cap) := he
    have hne : ((l.length : Int) == cap) = true := by simp; omega
    clear he
    go_wp2_with fail
    refine bodyPost_ret (v := .tuple #[.agg #[.int .i64 cap, .slice s1 l.length k1, .bool false], .int .i64 1]) (by simp [results, Try.results36, go_sem, d0, d1, d2]) rfl ?_
    exact send_same (send_full ⟨hok, rfl⟩ (by omega)) _ rfl (res_own O2.out hz _ _ _) (res_below K2 _ _ _) (by simp; omega)
end
end Go.Proofs.Ytknffngbdakblaa
