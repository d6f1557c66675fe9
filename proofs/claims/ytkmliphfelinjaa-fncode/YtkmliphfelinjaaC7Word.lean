/- StepWord and WordStep of the program and of the specification: what they answer, at every step and every number, in every world; they make memory, and turn none. Conditions: numbers of 64 bits. -/
import Derived.Test.YtkmliphfelinjaaC7Spec
import Derived.Test.YtkmliphfelinjaaC7Boxes
import Derived.Test.YtkmliphfelinjaaC7Map
namespace Go.Proofs.Ytkmliphfelinjaa
set_option linter.unusedSimpArgs false
set_option linter.unusedVariables false
set_option maxRecDepth 100000
open Go.RowKit
open Go.ChangeMaps (setBlock)

theorem stepB_rng {op r a b n : Int} (h : Plain.stepB op r a b n 800 = true) : 1 ≤ op ∧ op ≤ 13 ∧ 0 ≤ r ∧ r ≤ 7 ∧ -1 ≤ a ∧ a ≤ 7 ∧ 0 ≤ b ∧ b ≤ 7 ∧ -1000000000 ≤ n ∧ n ≤ 1000000000 := by
  simp [Plain.stepB] at h
  omega
theorem id64 {x : Int} (h : -9223372036854775808 ≤ x) (h' : x ≤ 9223372036854775807) : wrap64 x = x := by unfold wrap64; omega

namespace Plain
def wordV (op r a b n : Int) : Int := if stepB op r a b n 800 = true then wordI op r a b n else 0
theorem wordV_t {op r a b n : Int} (h : stepB op r a b n 800 = true) : wordV op r a b n = wordI op r a b n := if_pos h
theorem wordV_f {op r a b n : Int} (h : stepB op r a b n 800 = false) : wordV op r a b n = 0 := if_neg (by rw [h]; decide)
def fO (x : Int) : Int := x.tmod 16
def fR (x : Int) : Int := (x.tdiv 16).tmod 16
def fA (x : Int) : Int := (x.tdiv 256).tmod 16 - 1
def fB (x : Int) : Int := (x.tdiv 4096).tmod 16
def fN (x : Int) : Int := x.tdiv 65536 - 1000000000
def stB (x : Int) : Bool := stepB (fO x) (fR x) (fA x) (fB x) (fN x) 800
def woI (x : Int) : Int := wordI (fO x) (fR x) (fA x) (fB x) (fN x)
def wsB (x : Int) : Bool := stB x && decide (woI x = x)
end Plain

theorem word_wrap {op r a b n : Int} (h : Plain.stepB op r a b n 800 = true) : wrap64 (wrap64 (wrap64 (wrap64 (wrap64 op + wrap64 (16 * r)) + wrap64 (256 * wrap64 (a + 1))) + wrap64 (4096 * b)) + wrap64 (65536 * wrap64 (n + 1000000000))) = Plain.wordI op r a b n := by
  obtain ⟨h0, h1, h2, h3, h4, h5, h6, h7, h8, h9⟩ := stepB_rng h
  unfold Plain.wordI
  rw [id64 (x := op) (by omega) (by omega), id64 (x := 16 * r) (by omega) (by omega), id64 (x := a + 1) (by omega) (by omega), id64 (x := 256 * (a + 1)) (by omega) (by omega), id64 (x := 4096 * b) (by omega) (by omega), id64 (x := n + 1000000000) (by omega) (by omega), id64 (x := 65536 * (n + 1000000000)) (by omega) (by omega), id64 (x := op + 16 * r) (by omega) (by omega), id64 (x := op + 16 * r + 256 * (a + 1)) (by omega) (by omega), id64 (x := op + 16 * r + 256 * (a + 1) + 4096 * b) (by omega) (by omega), id64 (by omega) (by omega)]

theorem word_wrap' {op r a b n : Int} (h : Plain.stepB op r a b n 800 = true) : wrap64 (wrap64 (wrap64 (wrap64 (op + wrap64 (16 * r)) + wrap64 (256 * wrap64 (a + 1))) + wrap64 (4096 * b)) + wrap64 (65536 * wrap64 (n + 1000000000))) = Plain.wordI op r a b n := by
  have e := word_wrap h
  rwa [id64 (x := op) (by have := stepB_rng h; omega) (by have := stepB_rng h; omega)] at e

set_option maxRecDepth 100000 in
theorem stepWord_any (op r a b n : Int) (w : World) : Calls Try.prog 11 #[.agg #[.int .i64 op, .int .i64 r, .int .i64 a, .int .i64 b, .int .i64 n]] w fun e w' => e = .returned (.tuple #[.int .i64 (Plain.wordV op r a b n), .bool (Plain.stepB op r a b n 800)]) ∧ Below w.heap.size w w' := by
  cases h : Plain.stepB op r a b n 800
  · have V : Hid (Plain.wordV op r a b n = 0) := Plain.wordV_f h
    go_enter Try.func11, Try.ntmps11
    go_wp2_with fail
    refine (stepOk_is _ _ _ _ _ _ _ _ h).mono ?_
    rintro e w1 ⟨rfl, hb1⟩
    clear h
    go_wp2
    refine bodyPost_ret (v := .tuple #[.int .i64 0, .bool false]) (by simp [results, Try.results11, go_sem]) rfl ?_
    exact ⟨by rw [V.out], ((Below.refl _ _).alloc (Nat.le_refl _) _).trans (hb1.mono (by simp))⟩
  · have V : Hid (Plain.wordV op r a b n = Plain.wordI op r a b n) := Plain.wordV_t h
    have G : Hid (Plain.stepB op r a b n 800 = true) := h
    go_enter Try.func11, Try.ntmps11
    go_wp2_with fail
    refine (stepOk_is _ _ _ _ _ _ _ _ h).mono ?_
    rintro e w1 ⟨rfl, hb1⟩
    obtain ⟨c0, c1, c2, c3, c4, hz⟩ := boxed5 hb1
    clear h
    go_wp2
    refine bodyPost_ret (v := .tuple #[.int .i64 (wrap64 (wrap64 (wrap64 (wrap64 (wrap64 op + wrap64 (16 * r)) + wrap64 (256 * wrap64 (a + 1))) + wrap64 (4096 * b)) + wrap64 (65536 * wrap64 (n + 1000000000)))), .bool true]) (by simp [results, Try.results11, go_sem]) rfl ?_
    exact ⟨by rw [V.out, ← word_wrap G.out], ((Below.refl _ _).alloc (Nat.le_refl _) _).trans (hb1.mono (by simp))⟩

set_option maxRecDepth 100000 in
theorem specWord_any (op r a b n : Int) (w : World) : Calls Try.prog 12 #[.agg #[.int .i64 op, .int .i64 r, .int .i64 a, .int .i64 b, .int .i64 n]] w fun e w' => e = .returned (.tuple #[.int .i64 (Plain.wordV op r a b n), .bool (Plain.stepB op r a b n 800)]) ∧ Below w.heap.size w w' := by
  cases h : Plain.stepB op r a b n 800
  · have V : Hid (Plain.wordV op r a b n = 0) := Plain.wordV_f h
    go_enter Try.func12, Try.ntmps12
    go_wp2_with fail
    refine (specStepOk_is _ _ _ _ _ _ _ _ h).mono ?_
    rintro e w1 ⟨rfl, hb1⟩
    clear h
    go_wp2
    refine bodyPost_ret (v := .tuple #[.int .i64 0, .bool false]) (by simp [results, Try.results12, go_sem]) rfl ?_
    exact ⟨by rw [V.out], ((Below.refl _ _).alloc (Nat.le_refl _) _).trans (hb1.mono (by simp))⟩
  · have V : Hid (Plain.wordV op r a b n = Plain.wordI op r a b n) := Plain.wordV_t h
    have G : Hid (Plain.stepB op r a b n 800 = true) := h
    go_enter Try.func12, Try.ntmps12
    go_wp2_with fail
    refine (specStepOk_is _ _ _ _ _ _ _ _ h).mono ?_
    rintro e w1 ⟨rfl, hb1⟩
    obtain ⟨c0, c1, c2, c3, c4, hz⟩ := boxed5 hb1
    clear h
    go_wp2
    refine bodyPost_ret (v := .tuple #[.int .i64 (wrap64 (wrap64 (wrap64 (wrap64 (op + wrap64 (16 * r)) + wrap64 (256 * wrap64 (a + 1))) + wrap64 (4096 * b)) + wrap64 (65536 * wrap64 (n + 1000000000)))), .bool true]) (by simp [results, Try.results12, go_sem]) rfl ?_
    exact ⟨by rw [V.out, ← word_wrap' G.out], ((Below.refl _ _).alloc (Nat.le_refl _) _).trans (hb1.mono (by simp))⟩

theorem tdivC {x k : Int} (hk : 0 < k) (h : -9223372036854775808 ≤ x) (h' : x ≤ 9223372036854775807) (hd : ∀ y : Int, 0 ≤ y → y / k ≤ y) : wrap64 (x.tdiv k) = x.tdiv k := by
  rcases Int.le_total 0 x with p | p
  · rw [Int.tdiv_eq_ediv_of_nonneg p]
    have a1 := hd x p
    have a2 : 0 ≤ x / k := Int.ediv_nonneg p (by omega)
    exact id64 (by omega) (by omega)
  · have e : x.tdiv k = -((-x) / k) := by rw [← Int.tdiv_eq_ediv_of_nonneg (by omega), Int.neg_tdiv, Int.neg_neg]
    rw [e]
    have a1 := hd (-x) (by omega)
    have a2 : 0 ≤ (-x) / k := Int.ediv_nonneg (by omega) (by omega)
    exact id64 (by omega) (by omega)
theorem tdiv_le {x k : Int} (hk : 0 < k) (h : -9223372036854775808 ≤ x) (h' : x ≤ 9223372036854775807) (hd : ∀ y : Int, 0 ≤ y → k * (y / k) ≤ y) : -9223372036854775808 ≤ k * x.tdiv k ∧ k * x.tdiv k ≤ 9223372036854775807 := by
  rcases Int.le_total 0 x with p | p
  · rw [Int.tdiv_eq_ediv_of_nonneg p]
    have a1 := hd x p
    have a2 : 0 ≤ k * (x / k) := Int.mul_nonneg (by omega) (Int.ediv_nonneg p (by omega))
    omega
  · have e : x.tdiv k = -((-x) / k) := by rw [← Int.tdiv_eq_ediv_of_nonneg (by omega), Int.neg_tdiv, Int.neg_neg]
    rw [e, Int.mul_neg]
    have a1 := hd (-x) (by omega)
    have a2 : 0 ≤ k * ((-x) / k) := Int.mul_nonneg (by omega) (Int.ediv_nonneg (by omega) (by omega))
    omega
theorem tmodC (y : Int) : -16 < y.tmod 16 ∧ y.tmod 16 < 16 := ⟨Int.lt_tmod_of_pos y (by decide), Int.tmod_lt_of_pos y (by decide)⟩

theorem fields64 {x : Int} (h : -9223372036854775808 ≤ x) (h' : x ≤ 9223372036854775807) : wrap64 x = x ∧ wrap64 (x.tdiv 16) = x.tdiv 16 ∧ wrap64 (x.tdiv 256) = x.tdiv 256 ∧ wrap64 ((x.tdiv 256).tmod 16 + -1) = (x.tdiv 256).tmod 16 - 1 ∧ wrap64 ((x.tdiv 256).tmod 16 - 1) = (x.tdiv 256).tmod 16 - 1 ∧ wrap64 (x.tdiv 4096) = x.tdiv 4096 ∧ wrap64 (x.tdiv 65536) = x.tdiv 65536 ∧ wrap64 (x.tdiv 65536 - 1000000000) = x.tdiv 65536 - 1000000000 := by
  have m := tmodC (x.tdiv 256)
  have q := tdiv_le (k := 65536) (by decide) h h' (fun y hy => by omega)
  refine ⟨id64 h h', tdivC (by decide) h h' (fun y hy => by omega), tdivC (by decide) h h' (fun y hy => by omega), ?_, id64 (by omega) (by omega), tdivC (by decide) h h' (fun y hy => by omega), tdivC (by decide) h h' (fun y hy => by omega), id64 (by omega) (by omega)⟩
  exact id64 (by omega) (by omega)

theorem wsB_neg {x : Int} (h : x < 0) : Plain.wsB x = false := by
  have e : x.tmod 16 ≤ 0 := by
    have e1 : x.tmod 16 = -((-x).tmod 16) := by rw [Int.neg_tmod, Int.neg_neg]
    have := Int.tmod_nonneg (a := -x) 16 (by omega)
    omega
  cases hs : Plain.stB x
  · simp [Plain.wsB, hs]
  · have := (stepB_rng hs).1
    unfold Plain.fO at this
    omega

theorem wordFields_any (x : Int) (w : World) (h : -9223372036854775808 ≤ x) (h' : x ≤ 9223372036854775807) : Calls Try.prog 27 #[.int .i64 x] w fun e w' => e = .returned (.agg #[.int .i64 (Plain.fO x), .int .i64 (Plain.fR x), .int .i64 (Plain.fA x), .int .i64 (Plain.fB x), .int .i64 (Plain.fN x)]) ∧ Below w.heap.size w w' := by
  obtain ⟨e0, e1, e2, e3, e4, e5, e6, e7⟩ := fields64 h h'
  clear h h'
  have E : Hid (wrap64 x = x) := e0
  clear e0
  go_enter Try.func27, Try.ntmps27
  go_wp2
  refine bodyPost_ret (v := .agg #[.int .i64 (Plain.fO x), .int .i64 (Plain.fR x), .int .i64 (Plain.fA x), .int .i64 (Plain.fB x), .int .i64 (Plain.fN x)]) (by simp [results, Try.results27, go_sem, Plain.fO, Plain.fR, Plain.fA, Plain.fB, Plain.fN, E.out, e1, e2, e3, e5, e6, e7]) rfl ⟨rfl, (Below.refl _ _).alloc (Nat.le_refl _) _⟩

end Go.Proofs.Ytkmliphfelinjaa
