/- StepOk of the specification: some kinds of steps. No condition. StepOk of the specification: some kinds of steps. No condition. StepOk of the specification: some kinds of steps. No condition. StepOk of the specification (package spec), at every step and every count of places, in every world: it returns what the plain law says; it makes memory, and turns none. No condition. -/
import Derived.Test.YteddmadbegpecaaGreatX4
namespace Go.Proofs.YteddmadbegpecaaGreat
section
set_option linter.unusedSimpArgs false
set_option linter.unusedVariables false
set_option maxRecDepth 100000
open Go.RowKit

set_option maxRecDepth 100000 in
set_option maxHeartbeats 2000000 in
theorem stepGood_5 (r a b n pl : Int) (w : World)  (h1 : Plain.inB r 0 7 = true) (h2 : Plain.inB b 0 7 = true) (h3 : Plain.inB a 0 7 = true) : Calls Tryz.prog 56 #[.agg #[.int .i64 5, .int .i64 r, .int .i64 a, .int .i64 b, .int .i64 n], .int .i64 pl] w fun e w' => e = .returned (.bool (Plain.stepB 5 r a b n pl)) ∧ Below w.heap.size w w' := by
  cases hc : Plain.inB n 0 23
  rotate_left
  have hn0 : 0 ≤ n := (by simpa [Plain.inB] using hc : 0 ≤ n ∧ n ≤ 23).1
  rotate_left
  by_cases hn0 : 0 ≤ n
  all_goals
    go_enter Tryz.func56, Tryz.ntmps56
    go_wp2_with (first | (go_at_call 77; (first | refine (l7Reg_is _ _ _ h1).mono ?_ | refine (l7Reg_is _ _ _ h2).mono ?_ | refine (l7Reg_is _ _ _ h3).mono ?_); rintro e w' ⟨rfl, rfl⟩) | (go_at_call 35; (first | refine (l1In_is _ _ _ _ _ hc).mono ?_ | refine (l1In_any _ _ _ _).mono ?_); rintro e w' ⟨rfl, rfl⟩))
  all_goals go_ret
  all_goals refine ⟨ret_bool ?_, by first | exact (Below.refl _ _).alloc (Nat.le_refl _) _ | exact ((Below.refl _ _).alloc (Nat.le_refl _) _).alloc (by simp) _ | exact Below.drew ((Below.refl _ _).alloc (Nat.le_refl _) _)⟩
  all_goals (rw [Bool.eq_iff_iff]; simp_all [Plain.stepB, Plain.inB]; try omega)

set_option maxRecDepth 100000 in
set_option maxHeartbeats 2000000 in
theorem stepGood_5m (r b n pl : Int) (w : World)  (h1 : Plain.inB r 0 7 = true) (h2 : Plain.inB b 0 7 = true)  : Calls Tryz.prog 56 #[.agg #[.int .i64 5, .int .i64 r, .int .i64 (-1), .int .i64 b, .int .i64 n], .int .i64 pl] w fun e w' => e = .returned (.bool (Plain.stepB 5 r (-1) b n pl)) ∧ Below w.heap.size w w' := by
  have h3 : Plain.inB (-1) 0 7 = false := by decide
  cases hc : Plain.inB n 0 23
  rotate_left
  have hn0 : 0 ≤ n := (by simpa [Plain.inB] using hc : 0 ≤ n ∧ n ≤ 23).1
  rotate_left
  by_cases hn0 : 0 ≤ n
  all_goals
    go_enter Tryz.func56, Tryz.ntmps56
    go_wp2_with (first | (go_at_call 77; (first | refine (l7Reg_is _ _ _ h1).mono ?_ | refine (l7Reg_is _ _ _ h2).mono ?_ | refine (l7Reg_is _ _ _ h3).mono ?_); rintro e w' ⟨rfl, rfl⟩) | (go_at_call 35; (first | refine (l1In_is _ _ _ _ _ hc).mono ?_ | refine (l1In_any _ _ _ _).mono ?_); rintro e w' ⟨rfl, rfl⟩))
  all_goals go_ret
  all_goals refine ⟨ret_bool ?_, by first | exact (Below.refl _ _).alloc (Nat.le_refl _) _ | exact ((Below.refl _ _).alloc (Nat.le_refl _) _).alloc (by simp) _ | exact Below.drew ((Below.refl _ _).alloc (Nat.le_refl _) _)⟩
  all_goals (rw [Bool.eq_iff_iff]; simp_all [Plain.stepB, Plain.inB]; try omega)

set_option maxRecDepth 100000 in
set_option maxHeartbeats 2000000 in
theorem stepGood_6 (r a b n pl : Int) (w : World)  (h1 : Plain.inB r 0 7 = true) (h2 : Plain.inB b 0 7 = true) (h3 : Plain.inB a 0 7 = true) : Calls Tryz.prog 56 #[.agg #[.int .i64 6, .int .i64 r, .int .i64 a, .int .i64 b, .int .i64 n], .int .i64 pl] w fun e w' => e = .returned (.bool (Plain.stepB 6 r a b n pl)) ∧ Below w.heap.size w w' := by
  cases hc : Plain.inB n 0 23
  rotate_left
  have hn0 : 0 ≤ n := (by simpa [Plain.inB] using hc : 0 ≤ n ∧ n ≤ 23).1
  rotate_left
  by_cases hn0 : 0 ≤ n
  all_goals
    go_enter Tryz.func56, Tryz.ntmps56
    go_wp2_with (first | (go_at_call 77; (first | refine (l7Reg_is _ _ _ h1).mono ?_ | refine (l7Reg_is _ _ _ h2).mono ?_ | refine (l7Reg_is _ _ _ h3).mono ?_); rintro e w' ⟨rfl, rfl⟩) | (go_at_call 35; (first | refine (l1In_is _ _ _ _ _ hc).mono ?_ | refine (l1In_any _ _ _ _).mono ?_); rintro e w' ⟨rfl, rfl⟩))
  all_goals go_ret
  all_goals refine ⟨ret_bool ?_, by first | exact (Below.refl _ _).alloc (Nat.le_refl _) _ | exact ((Below.refl _ _).alloc (Nat.le_refl _) _).alloc (by simp) _ | exact Below.drew ((Below.refl _ _).alloc (Nat.le_refl _) _)⟩
  all_goals (rw [Bool.eq_iff_iff]; simp_all [Plain.stepB, Plain.inB]; try omega)

set_option maxRecDepth 100000 in
set_option maxHeartbeats 2000000 in
theorem stepGood_6m (r b n pl : Int) (w : World)  (h1 : Plain.inB r 0 7 = true) (h2 : Plain.inB b 0 7 = true)  : Calls Tryz.prog 56 #[.agg #[.int .i64 6, .int .i64 r, .int .i64 (-1), .int .i64 b, .int .i64 n], .int .i64 pl] w fun e w' => e = .returned (.bool (Plain.stepB 6 r (-1) b n pl)) ∧ Below w.heap.size w w' := by
  have h3 : Plain.inB (-1) 0 7 = false := by decide
  cases hc : Plain.inB n 0 23
  rotate_left
  have hn0 : 0 ≤ n := (by simpa [Plain.inB] using hc : 0 ≤ n ∧ n ≤ 23).1
  rotate_left
  by_cases hn0 : 0 ≤ n
  all_goals
    go_enter Tryz.func56, Tryz.ntmps56
    go_wp2_with (first | (go_at_call 77; (first | refine (l7Reg_is _ _ _ h1).mono ?_ | refine (l7Reg_is _ _ _ h2).mono ?_ | refine (l7Reg_is _ _ _ h3).mono ?_); rintro e w' ⟨rfl, rfl⟩) | (go_at_call 35; (first | refine (l1In_is _ _ _ _ _ hc).mono ?_ | refine (l1In_any _ _ _ _).mono ?_); rintro e w' ⟨rfl, rfl⟩))
  all_goals go_ret
  all_goals refine ⟨ret_bool ?_, by first | exact (Below.refl _ _).alloc (Nat.le_refl _) _ | exact ((Below.refl _ _).alloc (Nat.le_refl _) _).alloc (by simp) _ | exact Below.drew ((Below.refl _ _).alloc (Nat.le_refl _) _)⟩
  all_goals (rw [Bool.eq_iff_iff]; simp_all [Plain.stepB, Plain.inB]; try omega)
end

section
set_option linter.unusedSimpArgs false
set_option linter.unusedVariables false
set_option maxRecDepth 100000
open Go.RowKit

set_option maxRecDepth 100000 in
set_option maxHeartbeats 2000000 in
theorem stepGood_7 (r a b n pl : Int) (w : World)  (h1 : Plain.inB r 0 7 = true) (h2 : Plain.inB b 0 7 = true) (h3 : Plain.inB a 0 7 = true) : Calls Tryz.prog 56 #[.agg #[.int .i64 7, .int .i64 r, .int .i64 a, .int .i64 b, .int .i64 n], .int .i64 pl] w fun e w' => e = .returned (.bool (Plain.stepB 7 r a b n pl)) ∧ Below w.heap.size w w' := by
  cases hc : Plain.inB n 0 23
  rotate_left
  have hn0 : 0 ≤ n := (by simpa [Plain.inB] using hc : 0 ≤ n ∧ n ≤ 23).1
  rotate_left
  by_cases hn0 : 0 ≤ n
  all_goals
    go_enter Tryz.func56, Tryz.ntmps56
    go_wp2_with (first | (go_at_call 77; (first | refine (l7Reg_is _ _ _ h1).mono ?_ | refine (l7Reg_is _ _ _ h2).mono ?_ | refine (l7Reg_is _ _ _ h3).mono ?_); rintro e w' ⟨rfl, rfl⟩) | (go_at_call 35; (first | refine (l1In_is _ _ _ _ _ hc).mono ?_ | refine (l1In_any _ _ _ _).mono ?_); rintro e w' ⟨rfl, rfl⟩))
  all_goals go_ret
  all_goals refine ⟨ret_bool ?_, by first | exact (Below.refl _ _).alloc (Nat.le_refl _) _ | exact ((Below.refl _ _).alloc (Nat.le_refl _) _).alloc (by simp) _ | exact Below.drew ((Below.refl _ _).alloc (Nat.le_refl _) _)⟩
  all_goals (rw [Bool.eq_iff_iff]; simp_all [Plain.stepB, Plain.inB]; try omega)

set_option maxRecDepth 100000 in
set_option maxHeartbeats 2000000 in
theorem stepGood_7m (r b n pl : Int) (w : World)  (h1 : Plain.inB r 0 7 = true) (h2 : Plain.inB b 0 7 = true)  : Calls Tryz.prog 56 #[.agg #[.int .i64 7, .int .i64 r, .int .i64 (-1), .int .i64 b, .int .i64 n], .int .i64 pl] w fun e w' => e = .returned (.bool (Plain.stepB 7 r (-1) b n pl)) ∧ Below w.heap.size w w' := by
  have h3 : Plain.inB (-1) 0 7 = false := by decide
  cases hc : Plain.inB n 0 23
  rotate_left
  have hn0 : 0 ≤ n := (by simpa [Plain.inB] using hc : 0 ≤ n ∧ n ≤ 23).1
  rotate_left
  by_cases hn0 : 0 ≤ n
  all_goals
    go_enter Tryz.func56, Tryz.ntmps56
    go_wp2_with (first | (go_at_call 77; (first | refine (l7Reg_is _ _ _ h1).mono ?_ | refine (l7Reg_is _ _ _ h2).mono ?_ | refine (l7Reg_is _ _ _ h3).mono ?_); rintro e w' ⟨rfl, rfl⟩) | (go_at_call 35; (first | refine (l1In_is _ _ _ _ _ hc).mono ?_ | refine (l1In_any _ _ _ _).mono ?_); rintro e w' ⟨rfl, rfl⟩))
  all_goals go_ret
  all_goals refine ⟨ret_bool ?_, by first | exact (Below.refl _ _).alloc (Nat.le_refl _) _ | exact ((Below.refl _ _).alloc (Nat.le_refl _) _).alloc (by simp) _ | exact Below.drew ((Below.refl _ _).alloc (Nat.le_refl _) _)⟩
  all_goals (rw [Bool.eq_iff_iff]; simp_all [Plain.stepB, Plain.inB]; try omega)

set_option maxRecDepth 100000 in
set_option maxHeartbeats 2000000 in
theorem stepGood_8 (r a b n pl : Int) (w : World)  (h1 : Plain.inB r 0 7 = true) (h2 : Plain.inB b 0 7 = true) (h3 : Plain.inB a 0 7 = true) : Calls Tryz.prog 56 #[.agg #[.int .i64 8, .int .i64 r, .int .i64 a, .int .i64 b, .int .i64 n], .int .i64 pl] w fun e w' => e = .returned (.bool (Plain.stepB 8 r a b n pl)) ∧ Below w.heap.size w w' := by
  cases hc : Plain.inB n 0 23
  rotate_left
  have hn0 : 0 ≤ n := (by simpa [Plain.inB] using hc : 0 ≤ n ∧ n ≤ 23).1
  rotate_left
  by_cases hn0 : 0 ≤ n
  all_goals
    go_enter Tryz.func56, Tryz.ntmps56
    go_wp2_with (first | (go_at_call 77; (first | refine (l7Reg_is _ _ _ h1).mono ?_ | refine (l7Reg_is _ _ _ h2).mono ?_ | refine (l7Reg_is _ _ _ h3).mono ?_); rintro e w' ⟨rfl, rfl⟩) | (go_at_call 35; (first | refine (l1In_is _ _ _ _ _ hc).mono ?_ | refine (l1In_any _ _ _ _).mono ?_); rintro e w' ⟨rfl, rfl⟩))
  all_goals go_ret
  all_goals refine ⟨ret_bool ?_, by first | exact (Below.refl _ _).alloc (Nat.le_refl _) _ | exact ((Below.refl _ _).alloc (Nat.le_refl _) _).alloc (by simp) _ | exact Below.drew ((Below.refl _ _).alloc (Nat.le_refl _) _)⟩
  all_goals (rw [Bool.eq_iff_iff]; simp_all [Plain.stepB, Plain.inB]; try omega)

set_option maxRecDepth 100000 in
set_option maxHeartbeats 2000000 in
theorem stepGood_9 (r a b n pl : Int) (w : World)  (h1 : Plain.inB r 0 7 = true) (h2 : Plain.inB b 0 7 = true) (h3 : Plain.inB a 0 7 = true) : Calls Tryz.prog 56 #[.agg #[.int .i64 9, .int .i64 r, .int .i64 a, .int .i64 b, .int .i64 n], .int .i64 pl] w fun e w' => e = .returned (.bool (Plain.stepB 9 r a b n pl)) ∧ Below w.heap.size w w' := by
  by_cases hn0 : 0 ≤ n
  all_goals
    go_enter Tryz.func56, Tryz.ntmps56
    go_wp2_with (first | (go_at_call 77; (first | refine (l7Reg_is _ _ _ h1).mono ?_ | refine (l7Reg_is _ _ _ h2).mono ?_ | refine (l7Reg_is _ _ _ h3).mono ?_); rintro e w' ⟨rfl, rfl⟩) | (go_at_call 35; (first | refine (l1In_is _ _ _ _ _ hc).mono ?_ | refine (l1In_any _ _ _ _).mono ?_); rintro e w' ⟨rfl, rfl⟩))
  all_goals go_ret
  all_goals refine ⟨ret_bool ?_, by first | exact (Below.refl _ _).alloc (Nat.le_refl _) _ | exact ((Below.refl _ _).alloc (Nat.le_refl _) _).alloc (by simp) _ | exact Below.drew ((Below.refl _ _).alloc (Nat.le_refl _) _)⟩
  all_goals (rw [Bool.eq_iff_iff]; simp_all [Plain.stepB, Plain.inB]; try omega)
end

section
set_option linter.unusedSimpArgs false
set_option linter.unusedVariables false
set_option maxRecDepth 100000
open Go.RowKit

set_option maxRecDepth 100000 in
set_option maxHeartbeats 2000000 in
theorem stepGood_10 (r a b n pl : Int) (w : World)  (h1 : Plain.inB r 0 7 = true) (h2 : Plain.inB b 0 7 = true) (h3 : Plain.inB a 0 7 = true) : Calls Tryz.prog 56 #[.agg #[.int .i64 10, .int .i64 r, .int .i64 a, .int .i64 b, .int .i64 n], .int .i64 pl] w fun e w' => e = .returned (.bool (Plain.stepB 10 r a b n pl)) ∧ Below w.heap.size w w' := by
  by_cases hn0 : 0 ≤ n
  by_cases hn1 : n < pl
  all_goals
    go_enter Tryz.func56, Tryz.ntmps56
    go_wp2_with (first | (go_at_call 77; (first | refine (l7Reg_is _ _ _ h1).mono ?_ | refine (l7Reg_is _ _ _ h2).mono ?_ | refine (l7Reg_is _ _ _ h3).mono ?_); rintro e w' ⟨rfl, rfl⟩) | (go_at_call 35; (first | refine (l1In_is _ _ _ _ _ hc).mono ?_ | refine (l1In_any _ _ _ _).mono ?_); rintro e w' ⟨rfl, rfl⟩))
  all_goals go_ret
  all_goals refine ⟨ret_bool ?_, by first | exact (Below.refl _ _).alloc (Nat.le_refl _) _ | exact ((Below.refl _ _).alloc (Nat.le_refl _) _).alloc (by simp) _ | exact Below.drew ((Below.refl _ _).alloc (Nat.le_refl _) _)⟩
  all_goals (rw [Bool.eq_iff_iff]; simp_all [Plain.stepB, Plain.inB]; try omega)

set_option maxRecDepth 100000 in
set_option maxHeartbeats 2000000 in
theorem stepGood_11 (r a b n pl : Int) (w : World)  (h1 : Plain.inB r 0 7 = true) (h2 : Plain.inB b 0 7 = true) (h3 : Plain.inB a 0 7 = true) : Calls Tryz.prog 56 #[.agg #[.int .i64 11, .int .i64 r, .int .i64 a, .int .i64 b, .int .i64 n], .int .i64 pl] w fun e w' => e = .returned (.bool (Plain.stepB 11 r a b n pl)) ∧ Below w.heap.size w w' := by
  by_cases hn0 : 0 ≤ n
  by_cases hn1 : n < pl
  all_goals
    go_enter Tryz.func56, Tryz.ntmps56
    go_wp2_with (first | (go_at_call 77; (first | refine (l7Reg_is _ _ _ h1).mono ?_ | refine (l7Reg_is _ _ _ h2).mono ?_ | refine (l7Reg_is _ _ _ h3).mono ?_); rintro e w' ⟨rfl, rfl⟩) | (go_at_call 35; (first | refine (l1In_is _ _ _ _ _ hc).mono ?_ | refine (l1In_any _ _ _ _).mono ?_); rintro e w' ⟨rfl, rfl⟩))
  all_goals go_ret
  all_goals refine ⟨ret_bool ?_, by first | exact (Below.refl _ _).alloc (Nat.le_refl _) _ | exact ((Below.refl _ _).alloc (Nat.le_refl _) _).alloc (by simp) _ | exact Below.drew ((Below.refl _ _).alloc (Nat.le_refl _) _)⟩
  all_goals (rw [Bool.eq_iff_iff]; simp_all [Plain.stepB, Plain.inB]; try omega)

set_option maxRecDepth 100000 in
set_option maxHeartbeats 2000000 in
theorem stepGood_12 (r a b n pl : Int) (w : World)  (h1 : Plain.inB r 0 7 = true) (h2 : Plain.inB b 0 7 = true) (h3 : Plain.inB a 0 7 = true) : Calls Tryz.prog 56 #[.agg #[.int .i64 12, .int .i64 r, .int .i64 a, .int .i64 b, .int .i64 n], .int .i64 pl] w fun e w' => e = .returned (.bool (Plain.stepB 12 r a b n pl)) ∧ Below w.heap.size w w' := by
  have e2 := fun w => eqStep_run 12 r a b n 12 0 0 0 0 w
  by_cases hn0 : 0 ≤ n
  all_goals
    go_enter Tryz.func56, Tryz.ntmps56
    go_wp2_with (first | (go_at_call 77; (first | refine (l7Reg_is _ _ _ h1).mono ?_ | refine (l7Reg_is _ _ _ h2).mono ?_ | refine (l7Reg_is _ _ _ h3).mono ?_); rintro e w' ⟨rfl, rfl⟩) | (go_at_call 35; (first | refine (l1In_is _ _ _ _ _ hc).mono ?_ | refine (l1In_any _ _ _ _).mono ?_); rintro e w' ⟨rfl, rfl⟩))
  all_goals go_ret
  all_goals refine ⟨ret_bool ?_, by first | exact (Below.refl _ _).alloc (Nat.le_refl _) _ | exact ((Below.refl _ _).alloc (Nat.le_refl _) _).alloc (by simp) _ | exact Below.drew ((Below.refl _ _).alloc (Nat.le_refl _) _)⟩
  all_goals (rw [Bool.eq_iff_iff]; simp_all [Plain.stepB, Plain.inB]; try omega)

set_option maxRecDepth 100000 in
set_option maxHeartbeats 2000000 in
theorem stepGood_13 (r a b n pl : Int) (w : World)  (h1 : Plain.inB r 0 7 = true) (h2 : Plain.inB b 0 7 = true) (h3 : Plain.inB a 0 7 = true) : Calls Tryz.prog 56 #[.agg #[.int .i64 13, .int .i64 r, .int .i64 a, .int .i64 b, .int .i64 n], .int .i64 pl] w fun e w' => e = .returned (.bool (Plain.stepB 13 r a b n pl)) ∧ Below w.heap.size w w' := by
  have e2 := fun w => eqStep_run 13 r a b n 13 0 0 0 0 w
  by_cases hn0 : 0 ≤ n
  all_goals
    go_enter Tryz.func56, Tryz.ntmps56
    go_wp2_with (first | (go_at_call 77; (first | refine (l7Reg_is _ _ _ h1).mono ?_ | refine (l7Reg_is _ _ _ h2).mono ?_ | refine (l7Reg_is _ _ _ h3).mono ?_); rintro e w' ⟨rfl, rfl⟩) | (go_at_call 35; (first | refine (l1In_is _ _ _ _ _ hc).mono ?_ | refine (l1In_any _ _ _ _).mono ?_); rintro e w' ⟨rfl, rfl⟩))
  all_goals go_ret
  all_goals refine ⟨ret_bool ?_, by first | exact (Below.refl _ _).alloc (Nat.le_refl _) _ | exact ((Below.refl _ _).alloc (Nat.le_refl _) _).alloc (by simp) _ | exact Below.drew ((Below.refl _ _).alloc (Nat.le_refl _) _)⟩
  all_goals (rw [Bool.eq_iff_iff]; simp_all [Plain.stepB, Plain.inB]; try omega)

set_option maxRecDepth 100000 in
set_option maxHeartbeats 2000000 in
theorem stepGood_0 (op r a b n pl : Int) (w : World) (o1 : (op == 1) = false) (o2 : (op == 2) = false) (o3 : (op == 3) = false) (o4 : (op == 4) = false) (o5 : (op == 5) = false) (o6 : (op == 6) = false) (o7 : (op == 7) = false) (o8 : (op == 8) = false) (o9 : (op == 9) = false) (o10 : (op == 10) = false) (o11 : (op == 11) = false) (o12 : (op == 12) = false) (o13 : (op == 13) = false) (h1 : Plain.inB r 0 7 = true) (h2 : Plain.inB b 0 7 = true) (h3 : Plain.inB a 0 7 = true) : Calls Tryz.prog 56 #[.agg #[.int .i64 op, .int .i64 r, .int .i64 a, .int .i64 b, .int .i64 n], .int .i64 pl] w fun e w' => e = .returned (.bool (Plain.stepB op r a b n pl)) ∧ Below w.heap.size w w' := by
  by_cases hn0 : 0 ≤ n
  all_goals
    go_enter Tryz.func56, Tryz.ntmps56
    go_wp2_with (first | (go_at_call 77; (first | refine (l7Reg_is _ _ _ h1).mono ?_ | refine (l7Reg_is _ _ _ h2).mono ?_ | refine (l7Reg_is _ _ _ h3).mono ?_); rintro e w' ⟨rfl, rfl⟩) | (go_at_call 35; (first | refine (l1In_is _ _ _ _ _ hc).mono ?_ | refine (l1In_any _ _ _ _).mono ?_); rintro e w' ⟨rfl, rfl⟩))
  all_goals go_ret
  all_goals refine ⟨ret_bool ?_, by first | exact (Below.refl _ _).alloc (Nat.le_refl _) _ | exact ((Below.refl _ _).alloc (Nat.le_refl _) _).alloc (by simp) _ | exact Below.drew ((Below.refl _ _).alloc (Nat.le_refl _) _)⟩
  all_goals (rw [Bool.eq_iff_iff]; simp_all [Plain.stepB, Plain.inB]; try omega)
end

section
set_option linter.unusedSimpArgs false
set_option linter.unusedVariables false
set_option maxRecDepth 100000
open Go.RowKit

theorem specStepOk_any (op r a b n pl : Int) (w : World) : Calls Tryz.prog 56 #[.agg #[.int .i64 op, .int .i64 r, .int .i64 a, .int .i64 b, .int .i64 n], .int .i64 pl] w fun e w' => e = .returned (.bool (Plain.stepB op r a b n pl)) ∧ Below w.heap.size w w' := by
  have no : ∀ {e : Ending} {w' : World}, Plain.stepB op r a b n pl = false → e = .returned (.bool false) ∧ Below w.heap.size w w' → e = .returned (.bool (Plain.stepB op r a b n pl)) ∧ Below w.heap.size w w' := fun h h' => by rw [h]; exact h'
  by_cases e5 : op = 5
  · subst e5
    cases h1 : Plain.inB r 0 7
    · exact (specBadR_5 r a b n pl w h1).mono fun e w' h => no (by simp [Plain.inB] at h1; simp [Plain.stepB]; omega) h
    cases h2 : Plain.inB b 0 7
    · exact (specBadB_5 r a b n pl w h1 h2).mono fun e w' h => no (by simp [Plain.inB] at h2; simp [Plain.stepB]; omega) h
    cases h3 : Plain.inB a 0 7
    · by_cases h4 : a = -1
      · subst h4
        exact stepGood_5m r b n pl w h1 h2
      · exact (specBadA_5 r a b n pl w h1 h2 h3 (by simpa using h4)).mono fun e w' h => no (by simp [Plain.inB] at h3; simp [Plain.stepB]; omega) h
    · exact stepGood_5 r a b n pl w h1 h2 h3
  by_cases e6 : op = 6
  · subst e6
    cases h1 : Plain.inB r 0 7
    · exact (specBadR_6 r a b n pl w h1).mono fun e w' h => no (by simp [Plain.inB] at h1; simp [Plain.stepB]; omega) h
    cases h2 : Plain.inB b 0 7
    · exact (specBadB_6 r a b n pl w h1 h2).mono fun e w' h => no (by simp [Plain.inB] at h2; simp [Plain.stepB]; omega) h
    cases h3 : Plain.inB a 0 7
    · by_cases h4 : a = -1
      · subst h4
        exact stepGood_6m r b n pl w h1 h2
      · exact (specBadA_6 r a b n pl w h1 h2 h3 (by simpa using h4)).mono fun e w' h => no (by simp [Plain.inB] at h3; simp [Plain.stepB]; omega) h
    · exact stepGood_6 r a b n pl w h1 h2 h3
  by_cases e7 : op = 7
  · subst e7
    cases h1 : Plain.inB r 0 7
    · exact (specBadR_7 r a b n pl w h1).mono fun e w' h => no (by simp [Plain.inB] at h1; simp [Plain.stepB]; omega) h
    cases h2 : Plain.inB b 0 7
    · exact (specBadB_7 r a b n pl w h1 h2).mono fun e w' h => no (by simp [Plain.inB] at h2; simp [Plain.stepB]; omega) h
    cases h3 : Plain.inB a 0 7
    · by_cases h4 : a = -1
      · subst h4
        exact stepGood_7m r b n pl w h1 h2
      · exact (specBadA_7 r a b n pl w h1 h2 h3 (by simpa using h4)).mono fun e w' h => no (by simp [Plain.inB] at h3; simp [Plain.stepB]; omega) h
    · exact stepGood_7 r a b n pl w h1 h2 h3
  have o5 : (op == 5) = false := by simpa using e5
  have o6 : (op == 6) = false := by simpa using e6
  have o7 : (op == 7) = false := by simpa using e7
  cases h1 : Plain.inB r 0 7
  · exact (specBadR_x op r a b n pl w o5 o6 o7 h1).mono fun e w' h => no (by simp [Plain.inB] at h1; simp [Plain.stepB]; omega) h
  cases h2 : Plain.inB b 0 7
  · exact (specBadB_x op r a b n pl w o5 o6 o7 h1 h2).mono fun e w' h => no (by simp [Plain.inB] at h2; simp [Plain.stepB]; omega) h
  cases h3 : Plain.inB a 0 7
  · exact (specBadA_x op r a b n pl w o5 o6 o7 h1 h2 h3).mono fun e w' h => no (by simp [Plain.inB] at h3; simp [Plain.stepB]; omega) h
  by_cases e1 : op = 1
  · subst e1; exact stepGood_1 r a b n pl w h1 h2 h3
  by_cases e2 : op = 2
  · subst e2; exact stepGood_2 r a b n pl w h1 h2 h3
  by_cases e3 : op = 3
  · subst e3; exact stepGood_3 r a b n pl w h1 h2 h3
  by_cases e4 : op = 4
  · subst e4; exact stepGood_4 r a b n pl w h1 h2 h3
  by_cases e8 : op = 8
  · subst e8; exact stepGood_8 r a b n pl w h1 h2 h3
  by_cases e9 : op = 9
  · subst e9; exact stepGood_9 r a b n pl w h1 h2 h3
  by_cases e10 : op = 10
  · subst e10; exact stepGood_10 r a b n pl w h1 h2 h3
  by_cases e11 : op = 11
  · subst e11; exact stepGood_11 r a b n pl w h1 h2 h3
  by_cases e12 : op = 12
  · subst e12; exact stepGood_12 r a b n pl w h1 h2 h3
  by_cases e13 : op = 13
  · subst e13; exact stepGood_13 r a b n pl w h1 h2 h3
  exact stepGood_0 op r a b n pl w (by simpa using e1) (by simpa using e2) (by simpa using e3) (by simpa using e4) (by simpa using e5) (by simpa using e6) (by simpa using e7) (by simpa using e8) (by simpa using e9) (by simpa using e10) (by simpa using e11) (by simpa using e12) (by simpa using e13) h1 h2 h3

theorem specStepOk_is (op r a b n pl : Int) (v : Bool) (w : World) (h : Plain.stepB op r a b n pl = v) : Calls Tryz.prog 56 #[.agg #[.int .i64 op, .int .i64 r, .int .i64 a, .int .i64 b, .int .i64 n], .int .i64 pl] w fun e w' => e = .returned (.bool v) ∧ Below w.heap.size w w' := by
  subst h
  exact specStepOk_any op r a b n pl w
end

end Go.Proofs.YteddmadbegpecaaGreat
