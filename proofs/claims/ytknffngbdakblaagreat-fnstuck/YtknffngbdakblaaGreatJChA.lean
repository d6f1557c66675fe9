/- Chapter 3: ChanOk of the program and of the specification, and a channel as it was in new memory. Conditions: lists of at most 2^30 numbers. -/
import Derived.Test.YtknffngbdakblaaGreatJG00
import Derived.Test.YtknffngbdakblaaGreatJG01
import Derived.Deep.RegionHeld3
namespace Go.Proofs.YtknffngbdakblaaGreat
set_option linter.unusedSimpArgs false
set_option linter.unusedVariables false
set_option maxRecDepth 100000
open Go.RowKit
def okC (cap : Int) (n : Nat) : Bool := decide (1 ≤ cap ∧ cap ≤ 4 ∧ (n : Int) ≤ cap)
theorem ret_b {x y : Bool} (h : x = y) : Ending.returned (.bool x) = Ending.returned (.bool y) := by rw [h]
theorem chCapOk_any (c : Int) (w : World) : Calls Tryz.prog 84 #[.int .i64 c] w fun e w' => e = .returned (.bool (decide (1 ≤ c ∧ c ≤ 4))) ∧ w' = w := by
 by_cases h1 : 1 ≤ c
 ·by_cases h2 : c ≤ 4
  ·go_enter Tryz.func84, Tryz.ntmps84
   go_wp2
   go_ret
   exact ⟨ret_b (by simp [h1, h2]), rfl⟩
  ·go_enter Tryz.func84, Tryz.ntmps84
   go_wp2
   go_ret
   exact ⟨ret_b (by simp [h2]), rfl⟩
 ·go_enter Tryz.func84, Tryz.ntmps84
  go_wp2
  go_ret
  exact ⟨ret_b (by rw [Bool.eq_iff_iff]; simp; omega), rfl⟩
theorem chL1In_any (x a b : Int) (w : World) : Calls Tryz.prog 34 #[.int .i64 x, .int .i64 a, .int .i64 b] w fun e w' => e = .returned (.bool (decide (a ≤ x ∧ x ≤ b))) ∧ w' = w := by
 by_cases h1 : a ≤ x
 ·by_cases h2 : x ≤ b
  ·go_enter Tryz.func34, Tryz.ntmps34
   go_wp2
   go_ret
   exact ⟨ret_b (by simp [h1, h2]), rfl⟩
  ·go_enter Tryz.func34, Tryz.ntmps34
   go_wp2
   go_ret
   exact ⟨ret_b (by simp [h2]), rfl⟩
 ·go_enter Tryz.func34, Tryz.ntmps34
  go_wp2
  go_ret
  exact ⟨ret_b (by rw [Bool.eq_iff_iff]; simp; omega), rfl⟩
theorem implOk_any (cap : Int) (s : Option Addr) (n c : Nat) (cl : Bool) (w : World) (hn : n ≤ 1073741824) : Calls Tryz.prog 64 #[.agg #[.int .i64 cap, .slice s n c, .bool cl]] w fun e w' => e = .returned (.bool (okC cap n)) ∧ Below w.heap.size w w' := by
 by_cases h1 : 1 ≤ cap ∧ cap ≤ 4
 ·have hd : decide (1 ≤ cap ∧ cap ≤ 4) = true := by simp [h1]
  by_cases h2 : (n : Int) ≤ cap
  ·have H1 : Hid (1 ≤ cap ∧ cap ≤ 4) := h1
   clear h1
   go_enter Tryz.func64, Tryz.ntmps64
   go_wp2_with (go_at_call 84; refine (chCapOk_any _ _).mono ?_; rintro e w' ⟨rfl, rfl⟩; rw [hd])
   go_ret
   exact ⟨ret_b (by unfold okC; simp [H1.out, h2]), (Below.refl _ _).alloc (Nat.le_refl _) _⟩
  ·have H1 : Hid (1 ≤ cap ∧ cap ≤ 4) := h1
   clear h1
   go_enter Tryz.func64, Tryz.ntmps64
   go_wp2_with (go_at_call 84; refine (chCapOk_any _ _).mono ?_; rintro e w' ⟨rfl, rfl⟩; rw [hd])
   go_ret
   exact ⟨ret_b (by have := H1.out; unfold okC; rw [Bool.eq_iff_iff]; simp; omega), (Below.refl _ _).alloc (Nat.le_refl _) _⟩
 ·have hd : decide (1 ≤ cap ∧ cap ≤ 4) = false := by simpa using h1
  have H1 : Hid (¬ (1 ≤ cap ∧ cap ≤ 4)) := h1
  clear h1
  go_enter Tryz.func64, Tryz.ntmps64
  go_wp2_with (go_at_call 84; refine (chCapOk_any _ _).mono ?_; rintro e w' ⟨rfl, rfl⟩; rw [hd])
  go_ret
  exact ⟨ret_b (by unfold okC; symm; rw [decide_eq_false_iff_not]; intro h; exact H1.out ⟨h.1, h.2.1⟩), (Below.refl _ _).alloc (Nat.le_refl _) _⟩
theorem specOk_any (cap : Int) (s : Option Addr) (n c : Nat) (cl : Bool) (w : World) (hn : n ≤ 1073741824) : Calls Tryz.prog 35 #[.agg #[.int .i64 cap, .slice s n c, .bool cl]] w fun e w' => e = .returned (.bool (okC cap n)) ∧ Below w.heap.size w w' := by
 by_cases h1 : 1 ≤ cap ∧ cap ≤ 4
 ·have hd : decide (1 ≤ cap ∧ cap ≤ 4) = true := by simp [h1]
  by_cases h2 : (n : Int) ≤ cap
  ·have H1 : Hid (1 ≤ cap ∧ cap ≤ 4) := h1
   clear h1
   go_enter Tryz.func35, Tryz.ntmps35
   go_wp2_with (go_at_call 34; refine (chL1In_any _ _ _ _).mono ?_; rintro e w' ⟨rfl, rfl⟩; rw [hd])
   go_ret
   exact ⟨ret_b (by unfold okC; simp [H1.out, h2]), (Below.refl _ _).alloc (Nat.le_refl _) _⟩
  ·have H1 : Hid (1 ≤ cap ∧ cap ≤ 4) := h1
   clear h1
   go_enter Tryz.func35, Tryz.ntmps35
   go_wp2_with (go_at_call 34; refine (chL1In_any _ _ _ _).mono ?_; rintro e w' ⟨rfl, rfl⟩; rw [hd])
   go_ret
   exact ⟨ret_b (by have := H1.out; unfold okC; rw [Bool.eq_iff_iff]; simp; omega), (Below.refl _ _).alloc (Nat.le_refl _) _⟩
 ·have hd : decide (1 ≤ cap ∧ cap ≤ 4) = false := by simpa using h1
  have H1 : Hid (¬ (1 ≤ cap ∧ cap ≤ 4)) := h1
  clear h1
  go_enter Tryz.func35, Tryz.ntmps35
  go_wp2_with (go_at_call 34; refine (chL1In_any _ _ _ _).mono ?_; rintro e w' ⟨rfl, rfl⟩; rw [hd])
  go_ret
  exact ⟨ret_b (by unfold okC; symm; rw [decide_eq_false_iff_not]; intro h; exact H1.out ⟨h.1, h.2.1⟩), (Below.refl _ _).alloc (Nat.le_refl _) _⟩
def CopyPost (cap : Int) (l : List Int) (cl : Bool) (w : World) (e : Ending) (w' : World) : Prop :=
 ∃ v, e = .returned (.agg #[.int .i64 cap, v, .bool cl]) ∧ OwnN w' w.heap.size v l ∧ Below w.heap.size w w' ∧ w.heap.size < w'.heap.size
/- the argument's box and the box of the result, as a call lays them first -/
structure Box (B : Nat) (W : World) (v0 v1 v2 u0 u1 u2 : Value) : Prop where
 c0 : W.cell? ⟨B, 0, none⟩ = some v0
 c1 : W.cell? ⟨B, 1, none⟩ = some v1
 c2 : W.cell? ⟨B, 2, none⟩ = some v2
 d0 : W.cell? ⟨B + 1, 0, none⟩ = some u0
 d1 : W.cell? ⟨B + 1, 1, none⟩ = some u1
 d2 : W.cell? ⟨B + 1, 2, none⟩ = some u2
 f0 : ∀ j, W.frozen? ⟨B, j, none⟩ = false
 f1 : ∀ j, W.frozen? ⟨B + 1, j, none⟩ = false
 z : B + 2 ≤ W.heap.size
 z0 : B < W.heap.size
 z1 : B + 1 < W.heap.size
theorem Box.keep {B : Nat} {W w1 : World} {v0 v1 v2 u0 u1 u2 : Value} (h : Box B W v0 v1 v2 u0 u1 u2) (hb : Below (B + 2) W w1) : Box B w1 v0 v1 v2 u0 u1 u2 := by
 have hs := hb.size
 have hz := h.z
 exact ⟨(hb.cell (by simp)).trans h.c0, (hb.cell (by simp)).trans h.c1, (hb.cell (by simp)).trans h.c2, (hb.cell (by simp)).trans h.d0, (hb.cell (by simp)).trans h.d1, (hb.cell (by simp)).trans h.d2,
  fun j => (hb.frozen (by simp)).trans (h.f0 j), fun j => (hb.frozen (by simp)).trans (h.f1 j), by omega, by omega, by omega⟩
theorem below_2 {w : World} {a b : Obj} : Below w.heap.size w ((w.alloc a).alloc b) := ((Below.refl _ _).alloc (Nat.le_refl _) _).alloc (by simp) _
theorem box3 {w : World} {v0 v1 v2 u0 u1 u2 : Value} {T T' : TypeId} : Box w.heap.size ((w.alloc (.cells #[v0, v1, v2] T)).alloc (.cells #[u0, u1, u2] T')) v0 v1 v2 u0 u1 u2 := by
 refine ⟨?_, ?_, ?_, ?_, ?_, ?_, ?_, ?_, ?_, ?_, ?_⟩ <;> simp [go_sem] <;> omega
theorem boxW (w : World) (v0 v1 v2 u0 u1 u2 : Value) (T T' : TypeId) : ∃ W, (w.alloc (.cells #[v0, v1, v2] T)).alloc (.cells #[u0, u1, u2] T') = W ∧ Box w.heap.size W v0 v1 v2 u0 u1 u2 ∧ Below w.heap.size w W := ⟨_, rfl, box3, below_2⟩
set_option maxHeartbeats 1000000 in
theorem sameChan_any (cap : Int) (s : Option Addr) (l : List Int) (c : Nat) (cl : Bool) (w : World) (hr : RowI w w.heap.size s l) (hn : l.length ≤ 1073741824) : Calls Tryz.prog 44 #[.agg #[.int .i64 cap, .slice s l.length c, .bool cl]] w fun e w' => CopyPost cap l cl w e w' := by
 rcases Nat.eq_zero_or_pos l.length with h0 | hl0
 ·have : l = [] := List.length_eq_zero_iff.1 h0
  subst this
  clear h0 hr
  go_enter Tryz.func44, Tryz.ntmps44
  go_wp2_with (at_builtin; refine app_none rfl _ _ rfl rfl _ w.heap.size (.slice none 0 0) [] rfl (ownN_nil _ _) s c rfl ?_)
  exact bodyPost_ret (v := .agg #[.int .i64 cap, .slice none 0 0, .bool cl]) (by simp [results, Tryz.results44, go_sem]) rfl ⟨_, rfl, ownN_nil _ _, below_2, by simp [go_sem] <;> omega⟩
 ·rcases hr with rfl | ⟨g, o, rfl, hg, hc⟩
  ·simp at hl0
  have HC : Hid (∀ i, i < l.length → w.cell? ⟨g, o + i, none⟩ = some (.int .i64 (l.getD i 0))) := hc
  clear hc
  go_enter Tryz.func44, Tryz.ntmps44
  go_wp2_with (at_builtin; refine app_row rfl _ _ rfl _ (w.heap.size + 2) (.slice none 0 0) [] rfl (ownN_nil _ _) g o c l rfl (fun i hi => (below_2.cell hg).trans (HC.out i hi)) hl0 (by simp; omega) (by simp) ?_; intro g1 cap1 w1 ho1 hb1 hg1 hg1'; have HO : Hid (OwnN w1 (w.heap.size + 2) (.slice (some ⟨g1, 0, none⟩) l.length cap1) l) := (by simp at ho1; exact ho1); clear ho1; obtain ⟨c0, c1, c2, d0, d1, d2, f0, f1, z, z0, z1⟩ := box3.keep hb1; have K1 := below_2.trans (hb1.mono (by omega)); clear hb1)
  refine bodyPost_ret (v := .agg #[.int .i64 cap, .slice (some ⟨g1, 0, none⟩) l.length cap1, .bool cl]) (by simp [results, Tryz.results44, go_sem, c0, c1, c2, d0, d1, d2]) rfl ⟨_, rfl, ?_, ?_, by simp [go_sem] <;> omega⟩
  ·exact OwnN.low ((((HO.out.set (a := ⟨w.heap.size, 1, none⟩) (by simp) _).set (a := ⟨w.heap.size + 1, 0, none⟩) (by simp) _).set (a := ⟨w.heap.size + 1, 1, none⟩) (by simp) _).set (a := ⟨w.heap.size + 1, 2, none⟩) (by simp) _) (by omega)
  ·exact (((K1.setCell (p := ⟨w.heap.size, 1, none⟩) (Nat.le_refl _) _).setCell (p := ⟨w.heap.size + 1, 0, none⟩) (by simp) _).setCell (p := ⟨w.heap.size + 1, 1, none⟩) (by simp) _).setCell (p := ⟨w.heap.size + 1, 2, none⟩) (by simp) _
set_option maxHeartbeats 1000000 in
theorem l3Copy_any (cap : Int) (s : Option Addr) (l : List Int) (c : Nat) (cl : Bool) (w : World) (hr : RowI w w.heap.size s l) (hn : l.length ≤ 1073741824) : Calls Tryz.prog 53 #[.agg #[.int .i64 cap, .slice s l.length c, .bool cl]] w fun e w' => CopyPost cap l cl w e w' := by
 rcases Nat.eq_zero_or_pos l.length with h0 | hl0
 ·have : l = [] := List.length_eq_zero_iff.1 h0
  subst this
  clear h0 hr
  go_enter Tryz.func53, Tryz.ntmps53
  go_wp2_with fail
  obtain ⟨W, hW, hX, K1⟩ := boxW w (.int .i64 cap) (.slice s 0 c) (.bool cl) (.int .i64 0) (.slice none 0 0) (.bool false) 65 65
  simp only [List.length_nil, hW]
  clear hW
  obtain ⟨c0, c1, c2, d0, d1, d2, f0, f1, z, z0, z1⟩ := hX
  go_region_held3 (fun w' => w'.cell? ⟨w.heap.size, 0, none⟩ = some (.int .i64 cap) ∧ w'.cell? ⟨w.heap.size, 1, none⟩ = some (.slice s 0 c) ∧ w'.cell? ⟨w.heap.size, 2, none⟩ = some (.bool cl)) (go_keep) (first | (refine step_none rfl _ _ rfl rfl _ (w.heap.size + 2) (.slice (some ⟨W.heap.size, 0, none⟩) 0 0) [] rfl (ownN_empty (w := W) (by omega)) s c rfl ?_))
  go_wp2
  refine bodyPost_ret (v := .agg #[.int .i64 cap, .slice (some ⟨W.heap.size, 0, none⟩) 0 0, .bool cl]) (by simp [results, Tryz.results53, go_sem, c0, c1, c2, d0, d1, d2, z1]) rfl ⟨_, rfl, ?_, ?_, by simp [go_sem] <;> omega⟩
  ·have h := ownN_empty (base := w.heap.size) (w := ((W.setCell ⟨w.heap.size + 1, 0, none⟩ (.int .i64 cap)).setCell ⟨w.heap.size + 1, 1, none⟩ (.slice (some ⟨W.heap.size, 0, none⟩) 0 0)).setCell ⟨w.heap.size + 1, 2, none⟩ (.bool cl)) (by simp; omega)
   simp only [World.size_setCell] at h
   exact h
  ·exact Below.drew ((((K1.setCell (p := ⟨w.heap.size + 1, 0, none⟩) (by simp) _).setCell (p := ⟨w.heap.size + 1, 1, none⟩) (by simp) _).setCell (p := ⟨w.heap.size + 1, 2, none⟩) (by simp) _).alloc (by simp; omega) _)
 ·rcases hr with rfl | ⟨g, o, rfl, hg, hc⟩
  ·simp at hl0
  go_enter Tryz.func53, Tryz.ntmps53
  go_wp2_with fail
  obtain ⟨W, hW, hX, K1⟩ := boxW w (.int .i64 cap) (.slice (some ⟨g, o, none⟩) l.length c) (.bool cl) (.int .i64 0) (.slice none 0 0) (.bool false) 65 65
  rw [hW]
  clear hW
  have HX := (show Hid _ from hX)
  have HC : Hid (∀ i, i < l.length → W.cell? ⟨g, o + i, none⟩ = some (.int .i64 (l.getD i 0))) := fun i hi => (K1.cell hg).trans (hc i hi)
  clear hc
  obtain ⟨c0, c1, c2, d0, d1, d2, f0, f1, z, z0, z1⟩ := hX
  have KW : Hid (Below (w.heap.size + 2) W (W.alloc (.cells #[] 3)).drew) := Below.drew ((Below.refl _ _).alloc z _)
  go_region_held3 (fun w' => w'.cell? ⟨w.heap.size, 0, none⟩ = some (.int .i64 cap) ∧ w'.cell? ⟨w.heap.size, 1, none⟩ = some (.slice (some ⟨g, o, none⟩) l.length c) ∧ w'.cell? ⟨w.heap.size, 2, none⟩ = some (.bool cl)) (go_keep) (first | (refine step_row rfl _ _ rfl _ (w.heap.size + 2) (.slice (some ⟨W.heap.size, 0, none⟩) 0 0) [] rfl (ownN_empty (w := W) (by omega)) g o c l rfl (fun i hi => (KW.out.cell (p := ⟨g, o + i, none⟩) (by simp; omega)).trans (HC.out i hi)) hl0 (by simp; omega) (by simp; omega) ?_; intro g1 cap1 w1 ho1 hb1 hg1 hg1'; obtain ⟨c0', c1', c2', d0', d1', d2', f0', f1', z', z0', z1'⟩ := HX.out.keep (KW.out.trans hb1)))
  have HO : Hid (OwnN w1 (w.heap.size + 2) (.slice (some ⟨g1, 0, none⟩) l.length cap1) l) := (by simp at ho1; exact ho1)
  have K2 := K1.trans ((KW.out.trans hb1).mono (by omega))
  clear ho1 hb1
  go_wp2
  refine bodyPost_ret (v := .agg #[.int .i64 cap, .slice (some ⟨g1, 0, none⟩) l.length cap1, .bool cl]) (by simp [results, Tryz.results53, go_sem, d0', d1', d2']) rfl ⟨_, rfl, ?_, ?_, by simp [go_sem] <;> omega⟩
  ·exact OwnN.low (((HO.out.set (a := ⟨w.heap.size + 1, 0, none⟩) (by simp) _).set (a := ⟨w.heap.size + 1, 1, none⟩) (by simp) _).set (a := ⟨w.heap.size + 1, 2, none⟩) (by simp) _) (by omega)
  ·exact ((K2.setCell (p := ⟨w.heap.size + 1, 0, none⟩) (by simp) _).setCell (p := ⟨w.heap.size + 1, 1, none⟩) (by simp) _).setCell (p := ⟨w.heap.size + 1, 2, none⟩) (by simp) _
end Go.Proofs.YtknffngbdakblaaGreat
