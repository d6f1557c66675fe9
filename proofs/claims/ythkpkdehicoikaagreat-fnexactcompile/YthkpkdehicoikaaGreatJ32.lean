/- StepOk of the specification (package spec), at every step and every count of places, in every world: it returns what the plain law says; it makes memory, and turns none. No condition. StepOk of the specification: some kinds of steps. No condition. StepOk of the specification: some kinds of steps. No condition. -/
import Derived.Test.YthkpkdehicoikaaGreatC7Ok
namespace Go.Proofs.YthkpkdehicoikaaGreat
section
set_option linter.unusedSimpArgs false
set_option linter.unusedVariables false
set_option maxRecDepth 100000
open Go.RowKit
theorem l7Reg_any (x : Int) (w : World) : Calls Tryz.prog 66 #[.int .i64 x] w fun e w' => e = .returned (.bool (Plain.inB x 0 7)) ∧ w' = w := by
  go_enter Tryz.func66, Tryz.ntmps66
  go_wp2_with (go_at_call 34; refine (l1In_any _ _ _ _).mono ?_; rintro e w' ⟨rfl, rfl⟩)
  go_ret
  exact ⟨rfl, rfl⟩

theorem l7Reg_is (x : Int) (v : Bool) (w : World) (h : Plain.inB x 0 7 = v) : Calls Tryz.prog 66 #[.int .i64 x] w fun e w' => e = .returned (.bool v) ∧ w' = w := by
  subst h
  exact l7Reg_any x w

theorem l1In_is (x lo hi : Int) (v : Bool) (w : World) (h : Plain.inB x lo hi = v) : Calls Tryz.prog 34 #[.int .i64 x, .int .i64 lo, .int .i64 hi] w fun e w' => e = .returned (.bool v) ∧ w' = w := by
  subst h
  exact l1In_any x lo hi w

set_option maxRecDepth 100000 in
set_option maxHeartbeats 1000000 in
theorem specBadR_x (op r a b n pl : Int) (w : World) (o5 : (op == 5) = false) (o6 : (op == 6) = false) (o7 : (op == 7) = false) (h1 : Plain.inB r 0 7 = false) : Calls Tryz.prog 47 #[.agg #[.int .i64 op, .int .i64 r, .int .i64 a, .int .i64 b, .int .i64 n], .int .i64 pl] w fun e w' => e = .returned (.bool false) ∧ Below w.heap.size w w' := by
  go_enter Tryz.func47, Tryz.ntmps47
  go_wp2_with (go_at_call 66; (first | refine (l7Reg_is _ _ _ h1).mono ?_); rintro e w' ⟨rfl, rfl⟩)
  all_goals go_ret
  all_goals exact ⟨rfl, (Below.refl _ _).alloc (Nat.le_refl _) _⟩

set_option maxRecDepth 100000 in
set_option maxHeartbeats 1000000 in
theorem specBadB_x (op r a b n pl : Int) (w : World) (o5 : (op == 5) = false) (o6 : (op == 6) = false) (o7 : (op == 7) = false) (h1 : Plain.inB r 0 7 = true) (h2 : Plain.inB b 0 7 = false) : Calls Tryz.prog 47 #[.agg #[.int .i64 op, .int .i64 r, .int .i64 a, .int .i64 b, .int .i64 n], .int .i64 pl] w fun e w' => e = .returned (.bool false) ∧ Below w.heap.size w w' := by
  go_enter Tryz.func47, Tryz.ntmps47
  go_wp2_with (go_at_call 66; (first | refine (l7Reg_is _ _ _ h1).mono ?_ | refine (l7Reg_is _ _ _ h2).mono ?_); rintro e w' ⟨rfl, rfl⟩)
  all_goals go_ret
  all_goals exact ⟨rfl, (Below.refl _ _).alloc (Nat.le_refl _) _⟩

set_option maxRecDepth 100000 in
set_option maxHeartbeats 1000000 in
theorem specBadA_x (op r a b n pl : Int) (w : World) (o5 : (op == 5) = false) (o6 : (op == 6) = false) (o7 : (op == 7) = false) (h1 : Plain.inB r 0 7 = true) (h2 : Plain.inB b 0 7 = true) (h3 : Plain.inB a 0 7 = false) : Calls Tryz.prog 47 #[.agg #[.int .i64 op, .int .i64 r, .int .i64 a, .int .i64 b, .int .i64 n], .int .i64 pl] w fun e w' => e = .returned (.bool false) ∧ Below w.heap.size w w' := by
  go_enter Tryz.func47, Tryz.ntmps47
  go_wp2_with (go_at_call 66; (first | refine (l7Reg_is _ _ _ h1).mono ?_ | refine (l7Reg_is _ _ _ h2).mono ?_ | refine (l7Reg_is _ _ _ h3).mono ?_); rintro e w' ⟨rfl, rfl⟩)
  all_goals go_ret
  all_goals exact ⟨rfl, (Below.refl _ _).alloc (Nat.le_refl _) _⟩

set_option maxRecDepth 100000 in
set_option maxHeartbeats 1000000 in
theorem specBadR_5 (r a b n pl : Int) (w : World)  (h1 : Plain.inB r 0 7 = false) : Calls Tryz.prog 47 #[.agg #[.int .i64 5, .int .i64 r, .int .i64 a, .int .i64 b, .int .i64 n], .int .i64 pl] w fun e w' => e = .returned (.bool false) ∧ Below w.heap.size w w' := by
  go_enter Tryz.func47, Tryz.ntmps47
  go_wp2_with (go_at_call 66; (first | refine (l7Reg_is _ _ _ h1).mono ?_); rintro e w' ⟨rfl, rfl⟩)
  all_goals go_ret
  all_goals exact ⟨rfl, (Below.refl _ _).alloc (Nat.le_refl _) _⟩

set_option maxRecDepth 100000 in
set_option maxHeartbeats 1000000 in
theorem specBadB_5 (r a b n pl : Int) (w : World)  (h1 : Plain.inB r 0 7 = true) (h2 : Plain.inB b 0 7 = false) : Calls Tryz.prog 47 #[.agg #[.int .i64 5, .int .i64 r, .int .i64 a, .int .i64 b, .int .i64 n], .int .i64 pl] w fun e w' => e = .returned (.bool false) ∧ Below w.heap.size w w' := by
  go_enter Tryz.func47, Tryz.ntmps47
  go_wp2_with (go_at_call 66; (first | refine (l7Reg_is _ _ _ h1).mono ?_ | refine (l7Reg_is _ _ _ h2).mono ?_); rintro e w' ⟨rfl, rfl⟩)
  all_goals go_ret
  all_goals exact ⟨rfl, (Below.refl _ _).alloc (Nat.le_refl _) _⟩

set_option maxRecDepth 100000 in
set_option maxHeartbeats 1000000 in
theorem specBadA_5 (r a b n pl : Int) (w : World) (h1 : Plain.inB r 0 7 = true) (h2 : Plain.inB b 0 7 = true) (h3 : Plain.inB a 0 7 = false) (h4 : (a != -1) = true) : Calls Tryz.prog 47 #[.agg #[.int .i64 5, .int .i64 r, .int .i64 a, .int .i64 b, .int .i64 n], .int .i64 pl] w fun e w' => e = .returned (.bool false) ∧ Below w.heap.size w w' := by
  go_enter Tryz.func47, Tryz.ntmps47
  go_wp2_with (go_at_call 66; (first | refine (l7Reg_is _ _ _ h1).mono ?_ | refine (l7Reg_is _ _ _ h2).mono ?_ | refine (l7Reg_is _ _ _ h3).mono ?_); rintro e w' ⟨rfl, rfl⟩)
  all_goals go_ret
  all_goals exact ⟨rfl, (Below.refl _ _).alloc (Nat.le_refl _) _⟩

set_option maxRecDepth 100000 in
set_option maxHeartbeats 1000000 in
theorem specBadR_6 (r a b n pl : Int) (w : World)  (h1 : Plain.inB r 0 7 = false) : Calls Tryz.prog 47 #[.agg #[.int .i64 6, .int .i64 r, .int .i64 a, .int .i64 b, .int .i64 n], .int .i64 pl] w fun e w' => e = .returned (.bool false) ∧ Below w.heap.size w w' := by
  go_enter Tryz.func47, Tryz.ntmps47
  go_wp2_with (go_at_call 66; (first | refine (l7Reg_is _ _ _ h1).mono ?_); rintro e w' ⟨rfl, rfl⟩)
  all_goals go_ret
  all_goals exact ⟨rfl, (Below.refl _ _).alloc (Nat.le_refl _) _⟩

set_option maxRecDepth 100000 in
set_option maxHeartbeats 1000000 in
theorem specBadB_6 (r a b n pl : Int) (w : World)  (h1 : Plain.inB r 0 7 = true) (h2 : Plain.inB b 0 7 = false) : Calls Tryz.prog 47 #[.agg #[.int .i64 6, .int .i64 r, .int .i64 a, .int .i64 b, .int .i64 n], .int .i64 pl] w fun e w' => e = .returned (.bool false) ∧ Below w.heap.size w w' := by
  go_enter Tryz.func47, Tryz.ntmps47
  go_wp2_with (go_at_call 66; (first | refine (l7Reg_is _ _ _ h1).mono ?_ | refine (l7Reg_is _ _ _ h2).mono ?_); rintro e w' ⟨rfl, rfl⟩)
  all_goals go_ret
  all_goals exact ⟨rfl, (Below.refl _ _).alloc (Nat.le_refl _) _⟩

set_option maxRecDepth 100000 in
set_option maxHeartbeats 1000000 in
theorem specBadA_6 (r a b n pl : Int) (w : World) (h1 : Plain.inB r 0 7 = true) (h2 : Plain.inB b 0 7 = true) (h3 : Plain.inB a 0 7 = false) (h4 : (a != -1) = true) : Calls Tryz.prog 47 #[.agg #[.int .i64 6, .int .i64 r, .int .i64 a, .int .i64 b, .int .i64 n], .int .i64 pl] w fun e w' => e = .returned (.bool false) ∧ Below w.heap.size w w' := by
  go_enter Tryz.func47, Tryz.ntmps47
  go_wp2_with (go_at_call 66; (first | refine (l7Reg_is _ _ _ h1).mono ?_ | refine (l7Reg_is _ _ _ h2).mono ?_ | refine (l7Reg_is _ _ _ h3).mono ?_); rintro e w' ⟨rfl, rfl⟩)
  all_goals go_ret
  all_goals exact ⟨rfl, (Below.refl _ _).alloc (Nat.le_refl _) _⟩

set_option maxRecDepth 100000 in
set_option maxHeartbeats 1000000 in
theorem specBadR_7 (r a b n pl : Int) (w : World)  (h1 : Plain.inB r 0 7 = false) : Calls Tryz.prog 47 #[.agg #[.int .i64 7, .int .i64 r, .int .i64 a, .int .i64 b, .int .i64 n], .int .i64 pl] w fun e w' => e = .returned (.bool false) ∧ Below w.heap.size w w' := by
  go_enter Tryz.func47, Tryz.ntmps47
  go_wp2_with (go_at_call 66; (first | refine (l7Reg_is _ _ _ h1).mono ?_); rintro e w' ⟨rfl, rfl⟩)
  all_goals go_ret
  all_goals exact ⟨rfl, (Below.refl _ _).alloc (Nat.le_refl _) _⟩

set_option maxRecDepth 100000 in
set_option maxHeartbeats 1000000 in
theorem specBadB_7 (r a b n pl : Int) (w : World)  (h1 : Plain.inB r 0 7 = true) (h2 : Plain.inB b 0 7 = false) : Calls Tryz.prog 47 #[.agg #[.int .i64 7, .int .i64 r, .int .i64 a, .int .i64 b, .int .i64 n], .int .i64 pl] w fun e w' => e = .returned (.bool false) ∧ Below w.heap.size w w' := by
  go_enter Tryz.func47, Tryz.ntmps47
  go_wp2_with (go_at_call 66; (first | refine (l7Reg_is _ _ _ h1).mono ?_ | refine (l7Reg_is _ _ _ h2).mono ?_); rintro e w' ⟨rfl, rfl⟩)
  all_goals go_ret
  all_goals exact ⟨rfl, (Below.refl _ _).alloc (Nat.le_refl _) _⟩

set_option maxRecDepth 100000 in
set_option maxHeartbeats 1000000 in
theorem specBadA_7 (r a b n pl : Int) (w : World) (h1 : Plain.inB r 0 7 = true) (h2 : Plain.inB b 0 7 = true) (h3 : Plain.inB a 0 7 = false) (h4 : (a != -1) = true) : Calls Tryz.prog 47 #[.agg #[.int .i64 7, .int .i64 r, .int .i64 a, .int .i64 b, .int .i64 n], .int .i64 pl] w fun e w' => e = .returned (.bool false) ∧ Below w.heap.size w w' := by
  go_enter Tryz.func47, Tryz.ntmps47
  go_wp2_with (go_at_call 66; (first | refine (l7Reg_is _ _ _ h1).mono ?_ | refine (l7Reg_is _ _ _ h2).mono ?_ | refine (l7Reg_is _ _ _ h3).mono ?_); rintro e w' ⟨rfl, rfl⟩)
  all_goals go_ret
  all_goals exact ⟨rfl, (Below.refl _ _).alloc (Nat.le_refl _) _⟩
end

section
set_option linter.unusedSimpArgs false
set_option linter.unusedVariables false
set_option maxRecDepth 100000
open Go.RowKit

set_option maxRecDepth 100000 in
set_option maxHeartbeats 2000000 in
theorem stepGood_1 (r a b n pl : Int) (w : World)  (h1 : Plain.inB r 0 7 = true) (h2 : Plain.inB b 0 7 = true) (h3 : Plain.inB a 0 7 = true) : Calls Tryz.prog 47 #[.agg #[.int .i64 1, .int .i64 r, .int .i64 a, .int .i64 b, .int .i64 n], .int .i64 pl] w fun e w' => e = .returned (.bool (Plain.stepB 1 r a b n pl)) ∧ Below w.heap.size w w' := by
  by_cases hn0 : 0 ≤ n
  all_goals
    go_enter Tryz.func47, Tryz.ntmps47
    go_wp2_with (first | (go_at_call 66; (first | refine (l7Reg_is _ _ _ h1).mono ?_ | refine (l7Reg_is _ _ _ h2).mono ?_ | refine (l7Reg_is _ _ _ h3).mono ?_); rintro e w' ⟨rfl, rfl⟩) | (go_at_call 34; (first | refine (l1In_is _ _ _ _ _ hc).mono ?_ | refine (l1In_any _ _ _ _).mono ?_); rintro e w' ⟨rfl, rfl⟩))
  all_goals go_ret
  all_goals refine ⟨ret_bool ?_, by first | exact (Below.refl _ _).alloc (Nat.le_refl _) _ | exact ((Below.refl _ _).alloc (Nat.le_refl _) _).alloc (by simp) _ | exact Below.drew ((Below.refl _ _).alloc (Nat.le_refl _) _)⟩
  all_goals (rw [Bool.eq_iff_iff]; simp_all [Plain.stepB, Plain.inB]; try omega)

set_option maxRecDepth 100000 in
set_option maxHeartbeats 2000000 in
theorem stepGood_2 (r a b n pl : Int) (w : World)  (h1 : Plain.inB r 0 7 = true) (h2 : Plain.inB b 0 7 = true) (h3 : Plain.inB a 0 7 = true) : Calls Tryz.prog 47 #[.agg #[.int .i64 2, .int .i64 r, .int .i64 a, .int .i64 b, .int .i64 n], .int .i64 pl] w fun e w' => e = .returned (.bool (Plain.stepB 2 r a b n pl)) ∧ Below w.heap.size w w' := by
  by_cases hn0 : 0 ≤ n
  all_goals
    go_enter Tryz.func47, Tryz.ntmps47
    go_wp2_with (first | (go_at_call 66; (first | refine (l7Reg_is _ _ _ h1).mono ?_ | refine (l7Reg_is _ _ _ h2).mono ?_ | refine (l7Reg_is _ _ _ h3).mono ?_); rintro e w' ⟨rfl, rfl⟩) | (go_at_call 34; (first | refine (l1In_is _ _ _ _ _ hc).mono ?_ | refine (l1In_any _ _ _ _).mono ?_); rintro e w' ⟨rfl, rfl⟩))
  all_goals go_ret
  all_goals refine ⟨ret_bool ?_, by first | exact (Below.refl _ _).alloc (Nat.le_refl _) _ | exact ((Below.refl _ _).alloc (Nat.le_refl _) _).alloc (by simp) _ | exact Below.drew ((Below.refl _ _).alloc (Nat.le_refl _) _)⟩
  all_goals (rw [Bool.eq_iff_iff]; simp_all [Plain.stepB, Plain.inB]; try omega)

set_option maxRecDepth 100000 in
set_option maxHeartbeats 2000000 in
theorem stepGood_3 (r a b n pl : Int) (w : World)  (h1 : Plain.inB r 0 7 = true) (h2 : Plain.inB b 0 7 = true) (h3 : Plain.inB a 0 7 = true) : Calls Tryz.prog 47 #[.agg #[.int .i64 3, .int .i64 r, .int .i64 a, .int .i64 b, .int .i64 n], .int .i64 pl] w fun e w' => e = .returned (.bool (Plain.stepB 3 r a b n pl)) ∧ Below w.heap.size w w' := by
  by_cases hn0 : 0 ≤ n
  all_goals
    go_enter Tryz.func47, Tryz.ntmps47
    go_wp2_with (first | (go_at_call 66; (first | refine (l7Reg_is _ _ _ h1).mono ?_ | refine (l7Reg_is _ _ _ h2).mono ?_ | refine (l7Reg_is _ _ _ h3).mono ?_); rintro e w' ⟨rfl, rfl⟩) | (go_at_call 34; (first | refine (l1In_is _ _ _ _ _ hc).mono ?_ | refine (l1In_any _ _ _ _).mono ?_); rintro e w' ⟨rfl, rfl⟩))
  all_goals go_ret
  all_goals refine ⟨ret_bool ?_, by first | exact (Below.refl _ _).alloc (Nat.le_refl _) _ | exact ((Below.refl _ _).alloc (Nat.le_refl _) _).alloc (by simp) _ | exact Below.drew ((Below.refl _ _).alloc (Nat.le_refl _) _)⟩
  all_goals (rw [Bool.eq_iff_iff]; simp_all [Plain.stepB, Plain.inB]; try omega)

set_option maxRecDepth 100000 in
set_option maxHeartbeats 2000000 in
theorem stepGood_4 (r a b n pl : Int) (w : World)  (h1 : Plain.inB r 0 7 = true) (h2 : Plain.inB b 0 7 = true) (h3 : Plain.inB a 0 7 = true) : Calls Tryz.prog 47 #[.agg #[.int .i64 4, .int .i64 r, .int .i64 a, .int .i64 b, .int .i64 n], .int .i64 pl] w fun e w' => e = .returned (.bool (Plain.stepB 4 r a b n pl)) ∧ Below w.heap.size w w' := by
  by_cases hn0 : 0 ≤ n
  all_goals
    go_enter Tryz.func47, Tryz.ntmps47
    go_wp2_with (first | (go_at_call 66; (first | refine (l7Reg_is _ _ _ h1).mono ?_ | refine (l7Reg_is _ _ _ h2).mono ?_ | refine (l7Reg_is _ _ _ h3).mono ?_); rintro e w' ⟨rfl, rfl⟩) | (go_at_call 34; (first | refine (l1In_is _ _ _ _ _ hc).mono ?_ | refine (l1In_any _ _ _ _).mono ?_); rintro e w' ⟨rfl, rfl⟩))
  all_goals go_ret
  all_goals refine ⟨ret_bool ?_, by first | exact (Below.refl _ _).alloc (Nat.le_refl _) _ | exact ((Below.refl _ _).alloc (Nat.le_refl _) _).alloc (by simp) _ | exact Below.drew ((Below.refl _ _).alloc (Nat.le_refl _) _)⟩
  all_goals (rw [Bool.eq_iff_iff]; simp_all [Plain.stepB, Plain.inB]; try omega)
end

section
set_option linter.unusedSimpArgs false
set_option linter.unusedVariables false
set_option maxRecDepth 100000
open Go.RowKit

set_option maxRecDepth 100000 in
set_option maxHeartbeats 2000000 in
theorem stepGood_5 (r a b n pl : Int) (w : World)  (h1 : Plain.inB r 0 7 = true) (h2 : Plain.inB b 0 7 = true) (h3 : Plain.inB a 0 7 = true) : Calls Tryz.prog 47 #[.agg #[.int .i64 5, .int .i64 r, .int .i64 a, .int .i64 b, .int .i64 n], .int .i64 pl] w fun e w' => e = .returned (.bool (Plain.stepB 5 r a b n pl)) ∧ Below w.heap.size w w' := by
  cases hc : Plain.inB n 0 23
  rotate_left
  have hn0 : 0 ≤ n := (by simpa [Plain.inB] using hc : 0 ≤ n ∧ n ≤ 23).1
  rotate_left
  by_cases hn0 : 0 ≤ n
  all_goals
    go_enter Tryz.func47, Tryz.ntmps47
    go_wp2_with (first | (go_at_call 66; (first | refine (l7Reg_is _ _ _ h1).mono ?_ | refine (l7Reg_is _ _ _ h2).mono ?_ | refine (l7Reg_is _ _ _ h3).mono ?_); rintro e w' ⟨rfl, rfl⟩) | (go_at_call 34; (first | refine (l1In_is _ _ _ _ _ hc).mono ?_ | refine (l1In_any _ _ _ _).mono ?_); rintro e w' ⟨rfl, rfl⟩))
  all_goals go_ret
  all_goals refine ⟨ret_bool ?_, by first | exact (Below.refl _ _).alloc (Nat.le_refl _) _ | exact ((Below.refl _ _).alloc (Nat.le_refl _) _).alloc (by simp) _ | exact Below.drew ((Below.refl _ _).alloc (Nat.le_refl _) _)⟩
  all_goals (rw [Bool.eq_iff_iff]; simp_all [Plain.stepB, Plain.inB]; try omega)

set_option maxRecDepth 100000 in
set_option maxHeartbeats 2000000 in
theorem stepGood_5m (r b n pl : Int) (w : World)  (h1 : Plain.inB r 0 7 = true) (h2 : Plain.inB b 0 7 = true)  : Calls Tryz.prog 47 #[.agg #[.int .i64 5, .int .i64 r, .int .i64 (-1), .int .i64 b, .int .i64 n], .int .i64 pl] w fun e w' => e = .returned (.bool (Plain.stepB 5 r (-1) b n pl)) ∧ Below w.heap.size w w' := by
  have h3 : Plain.inB (-1) 0 7 = false := by decide
  cases hc : Plain.inB n 0 23
  rotate_left
  have hn0 : 0 ≤ n := (by simpa [Plain.inB] using hc : 0 ≤ n ∧ n ≤ 23).1
  rotate_left
  by_cases hn0 : 0 ≤ n
  all_goals
    go_enter Tryz.func47, Tryz.ntmps47
    go_wp2_with (first | (go_at_call 66; (first | refine (l7Reg_is _ _ _ h1).mono ?_ | refine (l7Reg_is _ _ _ h2).mono ?_ | refine (l7Reg_is _ _ _ h3).mono ?_); rintro e w' ⟨rfl, rfl⟩) | (go_at_call 34; (first | refine (l1In_is _ _ _ _ _ hc).mono ?_ | refine (l1In_any _ _ _ _).mono ?_); rintro e w' ⟨rfl, rfl⟩))
  all_goals go_ret
  all_goals refine ⟨ret_bool ?_, by first | exact (Below.refl _ _).alloc (Nat.le_refl _) _ | exact ((Below.refl _ _).alloc (Nat.le_refl _) _).alloc (by simp) _ | exact Below.drew ((Below.refl _ _).alloc (Nat.le_refl _) _)⟩
  all_goals (rw [Bool.eq_iff_iff]; simp_all [Plain.stepB, Plain.inB]; try omega)

set_option maxRecDepth 100000 in
set_option maxHeartbeats 2000000 in
theorem stepGood_6 (r a b n pl : Int) (w : World)  (h1 : Plain.inB r 0 7 = true) (h2 : Plain.inB b 0 7 = true) (h3 : Plain.inB a 0 7 = true) : Calls Tryz.prog 47 #[.agg #[.int .i64 6, .int .i64 r, .int .i64 a, .int .i64 b, .int .i64 n], .int .i64 pl] w fun e w' => e = .returned (.bool (Plain.stepB 6 r a b n pl)) ∧ Below w.heap.size w w' := by
  cases hc : Plain.inB n 0 23
  rotate_left
  have hn0 : 0 ≤ n := (by simpa [Plain.inB] using hc : 0 ≤ n ∧ n ≤ 23).1
  rotate_left
  by_cases hn0 : 0 ≤ n
  all_goals
    go_enter Tryz.func47, Tryz.ntmps47
    go_wp2_with (first | (go_at_call 66; (first | refine (l7Reg_is _ _ _ h1).mono ?_ | refine (l7Reg_is _ _ _ h2).mono ?_ | refine (l7Reg_is _ _ _ h3).mono ?_); rintro e w' ⟨rfl, rfl⟩) | (go_at_call 34; (first | refine (l1In_is _ _ _ _ _ hc).mono ?_ | refine (l1In_any _ _ _ _).mono ?_); rintro e w' ⟨rfl, rfl⟩))
  all_goals go_ret
  all_goals refine ⟨ret_bool ?_, by first | exact (Below.refl _ _).alloc (Nat.le_refl _) _ | exact ((Below.refl _ _).alloc (Nat.le_refl _) _).alloc (by simp) _ | exact Below.drew ((Below.refl _ _).alloc (Nat.le_refl _) _)⟩
  all_goals (rw [Bool.eq_iff_iff]; simp_all [Plain.stepB, Plain.inB]; try omega)

set_option maxRecDepth 100000 in
set_option maxHeartbeats 2000000 in
theorem stepGood_6m (r b n pl : Int) (w : World)  (h1 : Plain.inB r 0 7 = true) (h2 : Plain.inB b 0 7 = true)  : Calls Tryz.prog 47 #[.agg #[.int .i64 6, .int .i64 r, .int .i64 (-1), .int .i64 b, .int .i64 n], .int .i64 pl] w fun e w' => e = .returned (.bool (Plain.stepB 6 r (-1) b n pl)) ∧ Below w.heap.size w w' := by
  have h3 : Plain.inB (-1) 0 7 = false := by decide
  cases hc : Plain.inB n 0 23
  rotate_left
  have hn0 : 0 ≤ n := (by simpa [Plain.inB] using hc : 0 ≤ n ∧ n ≤ 23).1
  rotate_left
  by_cases hn0 : 0 ≤ n
  all_goals
    go_enter Tryz.func47, Tryz.ntmps47
    go_wp2_with (first | (go_at_call 66; (first | refine (l7Reg_is _ _ _ h1).mono ?_ | refine (l7Reg_is _ _ _ h2).mono ?_ | refine (l7Reg_is _ _ _ h3).mono ?_); rintro e w' ⟨rfl, rfl⟩) | (go_at_call 34; (first | refine (l1In_is _ _ _ _ _ hc).mono ?_ | refine (l1In_any _ _ _ _).mono ?_); rintro e w' ⟨rfl, rfl⟩))
  all_goals go_ret
  all_goals refine ⟨ret_bool ?_, by first | exact (Below.refl _ _).alloc (Nat.le_refl _) _ | exact ((Below.refl _ _).alloc (Nat.le_refl _) _).alloc (by simp) _ | exact Below.drew ((Below.refl _ _).alloc (Nat.le_refl _) _)⟩
  all_goals (rw [Bool.eq_iff_iff]; simp_all [Plain.stepB, Plain.inB]; try omega)
end

end Go.Proofs.YthkpkdehicoikaaGreat
