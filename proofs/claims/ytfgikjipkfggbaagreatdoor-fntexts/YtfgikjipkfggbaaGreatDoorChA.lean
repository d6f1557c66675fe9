/- Chapter 3: ChanOk of the program and of the specification, and a channel as it was in new memory. Conditions: lists of at most 2^30 numbers. -/
import Derived.Test.YtfgikjipkfggbaaGreatDoorQuietC
import Derived.Test.YtfgikjipkfggbaaGreatDoorOwnN
import Derived.Test.YtfgikjipkfggbaaGreatDoorChDefs
import Derived.Deep.RegionHeld3
namespace Go.Proofs.YtfgikjipkfggbaaGreatDoor
set_option linter.unusedSimpArgs false
set_option linter.unusedVariables false
set_option maxRecDepth 100000
open Go.RowKit

def okC (cap : Int) (n : Nat) : Bool := decide (1 ≤ cap ∧ cap ≤ 4 ∧ (n : Int) ≤ cap)

theorem ret_b {x y : Bool} (h : x = y) : Ending.returned (.bool x) = Ending.returned (.bool y) := by rw [h]
theorem capOk_any (c : Int) (w : World) : Calls Tryz.prog 43 #[.int .i64 c] w fun e w' => e = .returned (.bool (decide (1 ≤ c ∧ c ≤ 4))) ∧ w' = w := by
  by_cases h1 : 1 ≤ c
  · by_cases h2 : c ≤ 4
    · go_enter Tryz.func43, Tryz.ntmps43
      go_wp2
      go_ret
      exact ⟨ret_b (by simp [h1, h2]), rfl⟩
    · go_enter Tryz.func43, Tryz.ntmps43
      go_wp2
      go_ret
      exact ⟨ret_b (by simp [h2]), rfl⟩
  · go_enter Tryz.func43, Tryz.ntmps43
    go_wp2
    go_ret
    exact ⟨ret_b (by rw [Bool.eq_iff_iff]; simp; omega), rfl⟩
theorem l1In_anyx18 (x a b : Int) (w : World) : Calls Tryz.prog 58 #[.int .i64 x, .int .i64 a, .int .i64 b] w fun e w' => e = .returned (.bool (decide (a ≤ x ∧ x ≤ b))) ∧ w' = w := by
  by_cases h1 : a ≤ x
  · by_cases h2 : x ≤ b
    · go_enter Tryz.func58, Tryz.ntmps58
      go_wp2
      go_ret
      exact ⟨ret_b (by simp [h1, h2]), rfl⟩
    · go_enter Tryz.func58, Tryz.ntmps58
      go_wp2
      go_ret
      exact ⟨ret_b (by simp [h2]), rfl⟩
  · go_enter Tryz.func58, Tryz.ntmps58
    go_wp2
    go_ret
    exact ⟨ret_b (by rw [Bool.eq_iff_iff]; simp; omega), rfl⟩

theorem implOk_any (cap : Int) (s : Option Addr) (n c : Nat) (cl : Bool) (w : World) (hn : n ≤ 1073741824) : Calls Tryz.prog 18 #[.agg #[.int .i64 cap, .slice s n c, .bool cl]] w fun e w' => e = .returned (.bool (okC cap n)) ∧ Below w.heap.size w w' := by
  by_cases h1 : 1 ≤ cap ∧ cap ≤ 4
  · have hd : decide (1 ≤ cap ∧ cap ≤ 4) = true := by simp [h1]
    by_cases h2 : (n : Int) ≤ cap
    · have H1 : Hid (1 ≤ cap ∧ cap ≤ 4) := h1
      clear h1
      go_enter Tryz.func18, Tryz.ntmps18
      go_wp2_with (go_at_call 43; refine (capOk_any _ _).mono ?_; rintro e w' ⟨rfl, rfl⟩; rw [hd])
      go_ret
      exact ⟨ret_b (by unfold okC; simp [H1.out, h2]), (Below.refl _ _).alloc (Nat.le_refl _) _⟩
    · have H1 : Hid (1 ≤ cap ∧ cap ≤ 4) := h1
      clear h1
      go_enter Tryz.func18, Tryz.ntmps18
      go_wp2_with (go_at_call 43; refine (capOk_any _ _).mono ?_; rintro e w' ⟨rfl, rfl⟩; rw [hd])
      go_ret
      exact ⟨ret_b (by have := H1.out; unfold okC; rw [Bool.eq_iff_iff]; simp; omega), (Below.refl _ _).alloc (Nat.le_refl _) _⟩
  · have hd : decide (1 ≤ cap ∧ cap ≤ 4) = false := by simpa using h1
    have H1 : Hid (¬ (1 ≤ cap ∧ cap ≤ 4)) := h1
    clear h1
    go_enter Tryz.func18, Tryz.ntmps18
    go_wp2_with (go_at_call 43; refine (capOk_any _ _).mono ?_; rintro e w' ⟨rfl, rfl⟩; rw [hd])
    go_ret
    exact ⟨ret_b (by unfold okC; symm; rw [decide_eq_false_iff_not]; intro h; exact H1.out ⟨h.1, h.2.1⟩), (Below.refl _ _).alloc (Nat.le_refl _) _⟩

theorem specOk_any (cap : Int) (s : Option Addr) (n c : Nat) (cl : Bool) (w : World) (hn : n ≤ 1073741824) : Calls Tryz.prog 39 #[.agg #[.int .i64 cap, .slice s n c, .bool cl]] w fun e w' => e = .returned (.bool (okC cap n)) ∧ Below w.heap.size w w' := by
  by_cases h1 : 1 ≤ cap ∧ cap ≤ 4
  · have hd : decide (1 ≤ cap ∧ cap ≤ 4) = true := by simp [h1]
    by_cases h2 : (n : Int) ≤ cap
    · have H1 : Hid (1 ≤ cap ∧ cap ≤ 4) := h1
      clear h1
      go_enter Tryz.func39, Tryz.ntmps39
      go_wp2_with (go_at_call 58; refine (l1In_anyx18 _ _ _ _).mono ?_; rintro e w' ⟨rfl, rfl⟩; rw [hd])
      go_ret
      exact ⟨ret_b (by unfold okC; simp [H1.out, h2]), (Below.refl _ _).alloc (Nat.le_refl _) _⟩
    · have H1 : Hid (1 ≤ cap ∧ cap ≤ 4) := h1
      clear h1
      go_enter Tryz.func39, Tryz.ntmps39
      go_wp2_with (go_at_call 58; refine (l1In_anyx18 _ _ _ _).mono ?_; rintro e w' ⟨rfl, rfl⟩; rw [hd])
      go_ret
      exact ⟨ret_b (by have := H1.out; unfold okC; rw [Bool.eq_iff_iff]; simp; omega), (Below.refl _ _).alloc (Nat.le_refl _) _⟩
  · have hd : decide (1 ≤ cap ∧ cap ≤ 4) = false := by simpa using h1
    have H1 : Hid (¬ (1 ≤ cap ∧ cap ≤ 4)) := h1
    clear h1
    go_enter Tryz.func39, Tryz.ntmps39
    go_wp2_with (go_at_call 58; refine (l1In_anyx18 _ _ _ _).mono ?_; rintro e w' ⟨rfl, rfl⟩; rw [hd])
    go_ret
    exact ⟨ret_b (by unfold okC; symm; rw [decide_eq_false_iff_not]; intro h; exact H1.out ⟨h.1, h.2.1⟩), (Below.refl _ _).alloc (Nat.le_refl _) _⟩


def CopyPost (cap : Int) (l : List Int) (cl : Bool) (w : World) (e : Ending) (w' : World) : Prop :=
  ∃ v, e = .returned (.agg #[.int .i64 cap, v, .bool cl]) ∧ OwnN w' w.heap.size v l ∧ Below w.heap.size w w' ∧ w.heap.size < w'.heap.size

/- the argument's box and the box of the result, as a call lays them first -/
structure Box (B : Nat) (W : World) (v0 v1 v2 u0 u1 u2 : Value) : Prop where
  c0 : W.cell? ⟨B, 0, none⟩ = some v0
  c1 : W.cell? ⟨B, 1, none⟩ = some v1
  c2 : W.cell? ⟨B, 2, none⟩ = some v2
  d0 : W.cell? ⟨B + 1, 0, none⟩ = some u0
  d1 : W.cell? ⟨B + 1, 1, none⟩ = some u1
  d2 : W.cell? ⟨B + 1, 2, none⟩ = some u2
  f0 : ∀ j, W.frozen? ⟨B, j, none⟩ = false
  f1 : ∀ j, W.frozen? ⟨B + 1, j, none⟩ = false
  z : B + 2 ≤ W.heap.size
  z0 : B < W.heap.size
  z1 : B + 1 < W.heap.size
theorem Box.keep {B : Nat} {W w1 : World} {v0 v1 v2 u0 u1 u2 : Value} (h : Box B W v0 v1 v2 u0 u1 u2) (hb : Below (B + 2) W w1) : Box B w1 v0 v1 v2 u0 u1 u2 := by
  have hs := hb.size
  have hz := h.z
  exact ⟨(hb.cell (by simp)).trans h.c0, (hb.cell (by simp)).trans h.c1, (hb.cell (by simp)).trans h.c2, (hb.cell (by simp)).trans h.d0, (hb.cell (by simp)).trans h.d1, (hb.cell (by simp)).trans h.d2,
    fun j => (hb.frozen (by simp)).trans (h.f0 j), fun j => (hb.frozen (by simp)).trans (h.f1 j), by omega, by omega, by omega⟩
theorem below_2 {w : World} {a b : Obj} : Below w.heap.size w ((w.alloc a).alloc b) := ((Below.refl _ _).alloc (Nat.le_refl _) _).alloc (by simp) _
theorem box3 {w : World} {v0 v1 v2 u0 u1 u2 : Value} {T T' : TypeId} : Box w.heap.size ((w.alloc (.cells #[v0, v1, v2] T)).alloc (.cells #[u0, u1, u2] T')) v0 v1 v2 u0 u1 u2 := by
  refine ⟨?_, ?_, ?_, ?_, ?_, ?_, ?_, ?_, ?_, ?_, ?_⟩ <;> simp [go_sem] <;> omega
theorem boxW (w : World) (v0 v1 v2 u0 u1 u2 : Value) (T T' : TypeId) : ∃ W, (w.alloc (.cells #[v0, v1, v2] T)).alloc (.cells #[u0, u1, u2] T') = W ∧ Box w.heap.size W v0 v1 v2 u0 u1 u2 ∧ Below w.heap.size w W := ⟨_, rfl, box3, below_2⟩

end Go.Proofs.YtfgikjipkfggbaaGreatDoor
