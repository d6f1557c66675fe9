/- The leaves of chapter 7: what each small function of the program answers, for every argument, in every world; which step has what its op names alone. No condition. laws.toStep hands its Step on, field by field, in new memory. No condition. Lists of steps as they lie in memory, and how the laws copy them. Conditions: lists of at most 1048576 steps. How a list of steps that came in reads: each step is five integers. No condition. How rows of integers read as arguments of a law. No condition. laws.eqStep says yes of a step and itself; it makes memory, and turns none. No condition. -/
import Derived.Test.YtabppapibnemhaaGreatChecked
import Derived.WalkKit
import Derived.KernelRfl
import Derived.WalkSpells
import Derived.WalkLawsBesides
import Derived.Test.YtabppapibnemhaaGreatJA1
import Derived.Laws.MakeOwn
import Derived.Deep.QuietTactic
import Derived.BigQuiet
import Derived.Deep.Slices
import Derived.Test.YtabppapibnemhaaGreatRows
import Derived.ProofKit
import Derived.OpenShut
import Derived.ShutString
import Derived.ChangeOld
import Derived.Below
namespace Go.Proofs.YtabppapibnemhaaGreat
section
set_option linter.unusedSimpArgs false
set_option linter.unusedVariables false
set_option maxRecDepth 100000
open Go.RowKit
theorem ret_bool {x y : Bool} (h : x = y) : Ending.returned (.bool x) = Ending.returned (.bool y) := by rw [h]
theorem isNum_any (n : Int) (w : World) : Calls Tryz.prog 128 #[.int .i64 n] w fun e w' => e = .returned (.bool (Plain.numB n)) ∧ w' = w := by
 by_cases h0 : -1000000000 ≤ n <;> by_cases h1 : n ≤ 1000000000
 all_goals
  go_enter Tryz.func128, Tryz.ntmps128
  go_wp2
  go_ret
  exact ⟨by simp [Plain.numB]; omega, rfl⟩
theorem isOneOf_any (n c : Int) (w : World) : Calls Tryz.prog 72 #[.int .i64 n, .int .i64 c] w fun e w' => e = .returned (.bool (Plain.oneB n c)) ∧ w' = w := by
 by_cases h0 : 0 ≤ n <;> by_cases h1 : n < c
 all_goals
  go_enter Tryz.func72, Tryz.ntmps72
  go_wp2
  go_ret
  exact ⟨by simp [Plain.oneB]; omega, rfl⟩
theorem isOneOf_is (n c : Int) (v : Bool) (w : World) (h : Plain.oneB n c = v) : Calls Tryz.prog 72 #[.int .i64 n, .int .i64 c] w fun e w' => e = .returned (.bool v) ∧ w' = w := by
 subst h
 exact isOneOf_any n c w
theorem isCoreReg_any (r : Int) (w : World) : Calls Tryz.prog 127 #[.int .i64 r] w fun e w' => e = .returned (.bool (Plain.oneB r 8)) ∧ w' = w := by
 go_enter Tryz.func127, Tryz.ntmps127
 go_wp2_with (go_at_call 72; refine (isOneOf_any _ _ _).mono ?_; rintro e w' ⟨rfl, rfl⟩)
 go_ret
 exact ⟨rfl, rfl⟩
theorem isCoreReg_is (r : Int) (v : Bool) (w : World) (h : Plain.oneB r 8 = v) : Calls Tryz.prog 127 #[.int .i64 r] w fun e w' => e = .returned (.bool v) ∧ w' = w := by
 subst h
 exact isCoreReg_any r w
theorem mayLackA_any (op : Int) (w : World) : Calls Tryz.prog 123 #[.int .i64 op] w fun e w' => e = .returned (.bool (Plain.memB op)) ∧ w' = w := by
 by_cases h0 : op = 5
 ·subst h0
  go_enter Tryz.func123, Tryz.ntmps123
  go_wp2
  go_ret
  exact ⟨rfl, rfl⟩
 by_cases h1 : op = 6
 ·subst h1
  go_enter Tryz.func123, Tryz.ntmps123
  go_wp2
  go_ret
  exact ⟨rfl, rfl⟩
 go_enter Tryz.func123, Tryz.ntmps123
 go_wp2
 go_ret
 exact ⟨ret_bool (by rw [Bool.eq_iff_iff]; simp [Plain.memB, h0, h1]), rfl⟩
theorem mayLackA_is (op : Int) (v : Bool) (w : World) (h : Plain.memB op = v) : Calls Tryz.prog 123 #[.int .i64 op] w fun e w' => e = .returned (.bool v) ∧ w' = w := by
 subst h
 exact mayLackA_any op w
set_option maxRecDepth 100000 in
set_option maxHeartbeats 1000000 in
theorem regs_any (op r a b n : Int) (w : World) : Calls Tryz.prog 119 #[.agg #[.int .i64 op, .int .i64 r, .int .i64 a, .int .i64 b, .int .i64 n]] w fun e w' => e = .returned (.bool (Plain.regsB op r a b)) ∧ Below w.heap.size w w' := by
 cases ha : Plain.oneB a 8
 ·by_cases hn : a = -1
  ·subst hn
   cases hm : Plain.memB op
   ·go_enter Tryz.func119, Tryz.ntmps119
    go_wp2_with (first | (go_at_call 127; (first | refine (isCoreReg_is _ _ _ ha).mono ?_ | refine (isCoreReg_is _ _ _ hr).mono ?_ | refine (isCoreReg_any _ _).mono ?_); rintro e w' ⟨rfl, rfl⟩) | (go_at_call 123; refine (mayLackA_is _ _ _ hm).mono ?_; rintro e w' ⟨rfl, rfl⟩))
    go_ret
    exact ⟨ret_bool (by rw [Bool.eq_iff_iff]; simp_all [Plain.regsB]), by first | exact (Below.refl _ _).alloc (Nat.le_refl _) _ | exact ((Below.refl _ _).alloc (Nat.le_refl _) _).alloc (by simp) _⟩
   cases hr : Plain.oneB r 8
   ·go_enter Tryz.func119, Tryz.ntmps119
    go_wp2_with (first | (go_at_call 127; (first | refine (isCoreReg_is _ _ _ ha).mono ?_ | refine (isCoreReg_is _ _ _ hr).mono ?_ | refine (isCoreReg_any _ _).mono ?_); rintro e w' ⟨rfl, rfl⟩) | (go_at_call 123; refine (mayLackA_is _ _ _ hm).mono ?_; rintro e w' ⟨rfl, rfl⟩))
    go_ret
    exact ⟨ret_bool (by rw [Bool.eq_iff_iff]; simp_all [Plain.regsB]), by first | exact (Below.refl _ _).alloc (Nat.le_refl _) _ | exact ((Below.refl _ _).alloc (Nat.le_refl _) _).alloc (by simp) _⟩
   ·go_enter Tryz.func119, Tryz.ntmps119
    go_wp2_with (first | (go_at_call 127; (first | refine (isCoreReg_is _ _ _ ha).mono ?_ | refine (isCoreReg_is _ _ _ hr).mono ?_ | refine (isCoreReg_any _ _).mono ?_); rintro e w' ⟨rfl, rfl⟩) | (go_at_call 123; refine (mayLackA_is _ _ _ hm).mono ?_; rintro e w' ⟨rfl, rfl⟩))
    go_ret
    exact ⟨ret_bool (by rw [Bool.eq_iff_iff]; simp_all [Plain.regsB]), by first | exact (Below.refl _ _).alloc (Nat.le_refl _) _ | exact ((Below.refl _ _).alloc (Nat.le_refl _) _).alloc (by simp) _⟩
  ·cases hm : Plain.memB op
   ·go_enter Tryz.func119, Tryz.ntmps119
    go_wp2_with (first | (go_at_call 127; (first | refine (isCoreReg_is _ _ _ ha).mono ?_ | refine (isCoreReg_is _ _ _ hr).mono ?_ | refine (isCoreReg_any _ _).mono ?_); rintro e w' ⟨rfl, rfl⟩) | (go_at_call 123; refine (mayLackA_is _ _ _ hm).mono ?_; rintro e w' ⟨rfl, rfl⟩))
    go_ret
    exact ⟨ret_bool (by rw [Bool.eq_iff_iff]; simp_all [Plain.regsB]), by first | exact (Below.refl _ _).alloc (Nat.le_refl _) _ | exact ((Below.refl _ _).alloc (Nat.le_refl _) _).alloc (by simp) _⟩
   ·go_enter Tryz.func119, Tryz.ntmps119
    go_wp2_with (first | (go_at_call 127; (first | refine (isCoreReg_is _ _ _ ha).mono ?_ | refine (isCoreReg_is _ _ _ hr).mono ?_ | refine (isCoreReg_any _ _).mono ?_); rintro e w' ⟨rfl, rfl⟩) | (go_at_call 123; refine (mayLackA_is _ _ _ hm).mono ?_; rintro e w' ⟨rfl, rfl⟩))
    go_ret
    exact ⟨ret_bool (by rw [Bool.eq_iff_iff]; simp_all [Plain.regsB]), by first | exact (Below.refl _ _).alloc (Nat.le_refl _) _ | exact ((Below.refl _ _).alloc (Nat.le_refl _) _).alloc (by simp) _⟩
 ·cases hm : Plain.memB op
  all_goals cases hr : Plain.oneB r 8
  all_goals
   go_enter Tryz.func119, Tryz.ntmps119
   go_wp2_with (first | (go_at_call 127; (first | refine (isCoreReg_is _ _ _ ha).mono ?_ | refine (isCoreReg_is _ _ _ hr).mono ?_ | refine (isCoreReg_any _ _).mono ?_); rintro e w' ⟨rfl, rfl⟩) | (go_at_call 123; refine (mayLackA_is _ _ _ hm).mono ?_; rintro e w' ⟨rfl, rfl⟩))
   go_ret
   exact ⟨ret_bool (by rw [Bool.eq_iff_iff]; simp_all [Plain.regsB]), by first | exact (Below.refl _ _).alloc (Nat.le_refl _) _ | exact ((Below.refl _ _).alloc (Nat.le_refl _) _).alloc (by simp) _⟩
theorem num_1 (r a b n pl : Int) (w : World) : Calls Tryz.prog 120 #[.agg #[.int .i64 1, .int .i64 r, .int .i64 a, .int .i64 b, .int .i64 n], .int .i64 pl] w fun e w' => e = .returned (.bool (Plain.nB 1 n pl)) ∧ Below w.heap.size w w' := by
 go_enter Tryz.func120, Tryz.ntmps120
 go_wp2_with (first | (go_at_call 128; refine (isNum_any _ _).mono ?_; rintro e w' ⟨rfl, rfl⟩) | (go_at_call 72; refine (isOneOf_any _ _ _).mono ?_; rintro e w' ⟨rfl, rfl⟩))
 go_ret
 exact ⟨rfl, (Below.refl _ _).alloc (Nat.le_refl _) _⟩
theorem num_2 (r a b n pl : Int) (w : World) : Calls Tryz.prog 120 #[.agg #[.int .i64 2, .int .i64 r, .int .i64 a, .int .i64 b, .int .i64 n], .int .i64 pl] w fun e w' => e = .returned (.bool (Plain.nB 2 n pl)) ∧ Below w.heap.size w w' := by
 go_enter Tryz.func120, Tryz.ntmps120
 go_wp2_with (first | (go_at_call 128; refine (isNum_any _ _).mono ?_; rintro e w' ⟨rfl, rfl⟩) | (go_at_call 72; refine (isOneOf_any _ _ _).mono ?_; rintro e w' ⟨rfl, rfl⟩))
 go_ret
 exact ⟨rfl, (Below.refl _ _).alloc (Nat.le_refl _) _⟩
theorem num_3 (r a b n pl : Int) (w : World) : Calls Tryz.prog 120 #[.agg #[.int .i64 3, .int .i64 r, .int .i64 a, .int .i64 b, .int .i64 n], .int .i64 pl] w fun e w' => e = .returned (.bool (Plain.nB 3 n pl)) ∧ Below w.heap.size w w' := by
 go_enter Tryz.func120, Tryz.ntmps120
 go_wp2_with (first | (go_at_call 128; refine (isNum_any _ _).mono ?_; rintro e w' ⟨rfl, rfl⟩) | (go_at_call 72; refine (isOneOf_any _ _ _).mono ?_; rintro e w' ⟨rfl, rfl⟩))
 go_ret
 exact ⟨rfl, (Below.refl _ _).alloc (Nat.le_refl _) _⟩
theorem num_4 (r a b n pl : Int) (w : World) : Calls Tryz.prog 120 #[.agg #[.int .i64 4, .int .i64 r, .int .i64 a, .int .i64 b, .int .i64 n], .int .i64 pl] w fun e w' => e = .returned (.bool (Plain.nB 4 n pl)) ∧ Below w.heap.size w w' := by
 go_enter Tryz.func120, Tryz.ntmps120
 go_wp2_with (first | (go_at_call 128; refine (isNum_any _ _).mono ?_; rintro e w' ⟨rfl, rfl⟩) | (go_at_call 72; refine (isOneOf_any _ _ _).mono ?_; rintro e w' ⟨rfl, rfl⟩))
 go_ret
 exact ⟨rfl, (Below.refl _ _).alloc (Nat.le_refl _) _⟩
theorem num_5 (r a b n pl : Int) (w : World) : Calls Tryz.prog 120 #[.agg #[.int .i64 5, .int .i64 r, .int .i64 a, .int .i64 b, .int .i64 n], .int .i64 pl] w fun e w' => e = .returned (.bool (Plain.nB 5 n pl)) ∧ Below w.heap.size w w' := by
 go_enter Tryz.func120, Tryz.ntmps120
 go_wp2_with (first | (go_at_call 128; refine (isNum_any _ _).mono ?_; rintro e w' ⟨rfl, rfl⟩) | (go_at_call 72; refine (isOneOf_any _ _ _).mono ?_; rintro e w' ⟨rfl, rfl⟩))
 go_ret
 exact ⟨rfl, (Below.refl _ _).alloc (Nat.le_refl _) _⟩
theorem num_6 (r a b n pl : Int) (w : World) : Calls Tryz.prog 120 #[.agg #[.int .i64 6, .int .i64 r, .int .i64 a, .int .i64 b, .int .i64 n], .int .i64 pl] w fun e w' => e = .returned (.bool (Plain.nB 6 n pl)) ∧ Below w.heap.size w w' := by
 go_enter Tryz.func120, Tryz.ntmps120
 go_wp2_with (first | (go_at_call 128; refine (isNum_any _ _).mono ?_; rintro e w' ⟨rfl, rfl⟩) | (go_at_call 72; refine (isOneOf_any _ _ _).mono ?_; rintro e w' ⟨rfl, rfl⟩))
 go_ret
 exact ⟨rfl, (Below.refl _ _).alloc (Nat.le_refl _) _⟩
theorem num_7 (r a b n pl : Int) (w : World) : Calls Tryz.prog 120 #[.agg #[.int .i64 7, .int .i64 r, .int .i64 a, .int .i64 b, .int .i64 n], .int .i64 pl] w fun e w' => e = .returned (.bool (Plain.nB 7 n pl)) ∧ Below w.heap.size w w' := by
 go_enter Tryz.func120, Tryz.ntmps120
 go_wp2_with (first | (go_at_call 128; refine (isNum_any _ _).mono ?_; rintro e w' ⟨rfl, rfl⟩) | (go_at_call 72; refine (isOneOf_any _ _ _).mono ?_; rintro e w' ⟨rfl, rfl⟩))
 go_ret
 exact ⟨rfl, (Below.refl _ _).alloc (Nat.le_refl _) _⟩
theorem num_8 (r a b n pl : Int) (w : World) : Calls Tryz.prog 120 #[.agg #[.int .i64 8, .int .i64 r, .int .i64 a, .int .i64 b, .int .i64 n], .int .i64 pl] w fun e w' => e = .returned (.bool (Plain.nB 8 n pl)) ∧ Below w.heap.size w w' := by
 go_enter Tryz.func120, Tryz.ntmps120
 go_wp2_with (first | (go_at_call 128; refine (isNum_any _ _).mono ?_; rintro e w' ⟨rfl, rfl⟩) | (go_at_call 72; refine (isOneOf_any _ _ _).mono ?_; rintro e w' ⟨rfl, rfl⟩))
 go_ret
 exact ⟨rfl, (Below.refl _ _).alloc (Nat.le_refl _) _⟩
theorem num_9 (r a b n pl : Int) (w : World) : Calls Tryz.prog 120 #[.agg #[.int .i64 9, .int .i64 r, .int .i64 a, .int .i64 b, .int .i64 n], .int .i64 pl] w fun e w' => e = .returned (.bool (Plain.nB 9 n pl)) ∧ Below w.heap.size w w' := by
 go_enter Tryz.func120, Tryz.ntmps120
 go_wp2_with (first | (go_at_call 128; refine (isNum_any _ _).mono ?_; rintro e w' ⟨rfl, rfl⟩) | (go_at_call 72; refine (isOneOf_any _ _ _).mono ?_; rintro e w' ⟨rfl, rfl⟩))
 go_ret
 exact ⟨rfl, (Below.refl _ _).alloc (Nat.le_refl _) _⟩
theorem num_10 (r a b n pl : Int) (w : World) : Calls Tryz.prog 120 #[.agg #[.int .i64 10, .int .i64 r, .int .i64 a, .int .i64 b, .int .i64 n], .int .i64 pl] w fun e w' => e = .returned (.bool (Plain.nB 10 n pl)) ∧ Below w.heap.size w w' := by
 go_enter Tryz.func120, Tryz.ntmps120
 go_wp2_with (first | (go_at_call 128; refine (isNum_any _ _).mono ?_; rintro e w' ⟨rfl, rfl⟩) | (go_at_call 72; refine (isOneOf_any _ _ _).mono ?_; rintro e w' ⟨rfl, rfl⟩))
 go_ret
 exact ⟨rfl, (Below.refl _ _).alloc (Nat.le_refl _) _⟩
theorem num_11 (r a b n pl : Int) (w : World) : Calls Tryz.prog 120 #[.agg #[.int .i64 11, .int .i64 r, .int .i64 a, .int .i64 b, .int .i64 n], .int .i64 pl] w fun e w' => e = .returned (.bool (Plain.nB 11 n pl)) ∧ Below w.heap.size w w' := by
 go_enter Tryz.func120, Tryz.ntmps120
 go_wp2_with (first | (go_at_call 128; refine (isNum_any _ _).mono ?_; rintro e w' ⟨rfl, rfl⟩) | (go_at_call 72; refine (isOneOf_any _ _ _).mono ?_; rintro e w' ⟨rfl, rfl⟩))
 go_ret
 exact ⟨rfl, (Below.refl _ _).alloc (Nat.le_refl _) _⟩
theorem num_12 (r a b n pl : Int) (w : World) : Calls Tryz.prog 120 #[.agg #[.int .i64 12, .int .i64 r, .int .i64 a, .int .i64 b, .int .i64 n], .int .i64 pl] w fun e w' => e = .returned (.bool (Plain.nB 12 n pl)) ∧ Below w.heap.size w w' := by
 go_enter Tryz.func120, Tryz.ntmps120
 go_wp2_with (first | (go_at_call 128; refine (isNum_any _ _).mono ?_; rintro e w' ⟨rfl, rfl⟩) | (go_at_call 72; refine (isOneOf_any _ _ _).mono ?_; rintro e w' ⟨rfl, rfl⟩))
 go_ret
 exact ⟨rfl, (Below.refl _ _).alloc (Nat.le_refl _) _⟩
theorem num_13 (r a b n pl : Int) (w : World) : Calls Tryz.prog 120 #[.agg #[.int .i64 13, .int .i64 r, .int .i64 a, .int .i64 b, .int .i64 n], .int .i64 pl] w fun e w' => e = .returned (.bool (Plain.nB 13 n pl)) ∧ Below w.heap.size w w' := by
 go_enter Tryz.func120, Tryz.ntmps120
 go_wp2_with (first | (go_at_call 128; refine (isNum_any _ _).mono ?_; rintro e w' ⟨rfl, rfl⟩) | (go_at_call 72; refine (isOneOf_any _ _ _).mono ?_; rintro e w' ⟨rfl, rfl⟩))
 go_ret
 exact ⟨rfl, (Below.refl _ _).alloc (Nat.le_refl _) _⟩
theorem named_1 (r a b n : Int) (w : World) : Calls Tryz.prog 118 #[.agg #[.int .i64 1, .int .i64 r, .int .i64 a, .int .i64 b, .int .i64 n]] w fun e w' => e = .returned (.agg #[.int .i64 1, .int .i64 r, .int .i64 0, .int .i64 0, .int .i64 n]) ∧ Below w.heap.size w w' := by
 go_enter Tryz.func118, Tryz.ntmps118
 go_wp2
 exact bodyPost_ret (v := .agg #[.int .i64 1, .int .i64 r, .int .i64 0, .int .i64 0, .int .i64 n]) (by simp [results, Tryz.results118, go_sem]) rfl ⟨rfl, ((Below.refl _ _).alloc (Nat.le_refl _) _).alloc (by simp) _⟩
theorem named_2 (r a b n : Int) (w : World) : Calls Tryz.prog 118 #[.agg #[.int .i64 2, .int .i64 r, .int .i64 a, .int .i64 b, .int .i64 n]] w fun e w' => e = .returned (.agg #[.int .i64 2, .int .i64 r, .int .i64 a, .int .i64 b, .int .i64 0]) ∧ Below w.heap.size w w' := by
 go_enter Tryz.func118, Tryz.ntmps118
 go_wp2
 exact bodyPost_ret (v := .agg #[.int .i64 2, .int .i64 r, .int .i64 a, .int .i64 b, .int .i64 0]) (by simp [results, Tryz.results118, go_sem]) rfl ⟨rfl, ((Below.refl _ _).alloc (Nat.le_refl _) _).alloc (by simp) _⟩
theorem named_3 (r a b n : Int) (w : World) : Calls Tryz.prog 118 #[.agg #[.int .i64 3, .int .i64 r, .int .i64 a, .int .i64 b, .int .i64 n]] w fun e w' => e = .returned (.agg #[.int .i64 3, .int .i64 r, .int .i64 a, .int .i64 b, .int .i64 0]) ∧ Below w.heap.size w w' := by
 go_enter Tryz.func118, Tryz.ntmps118
 go_wp2
 exact bodyPost_ret (v := .agg #[.int .i64 3, .int .i64 r, .int .i64 a, .int .i64 b, .int .i64 0]) (by simp [results, Tryz.results118, go_sem]) rfl ⟨rfl, ((Below.refl _ _).alloc (Nat.le_refl _) _).alloc (by simp) _⟩
theorem named_4 (r a b n : Int) (w : World) : Calls Tryz.prog 118 #[.agg #[.int .i64 4, .int .i64 r, .int .i64 a, .int .i64 b, .int .i64 n]] w fun e w' => e = .returned (.agg #[.int .i64 4, .int .i64 r, .int .i64 a, .int .i64 b, .int .i64 0]) ∧ Below w.heap.size w w' := by
 go_enter Tryz.func118, Tryz.ntmps118
 go_wp2
 exact bodyPost_ret (v := .agg #[.int .i64 4, .int .i64 r, .int .i64 a, .int .i64 b, .int .i64 0]) (by simp [results, Tryz.results118, go_sem]) rfl ⟨rfl, ((Below.refl _ _).alloc (Nat.le_refl _) _).alloc (by simp) _⟩
theorem named_5 (r a b n : Int) (w : World) : Calls Tryz.prog 118 #[.agg #[.int .i64 5, .int .i64 r, .int .i64 a, .int .i64 b, .int .i64 n]] w fun e w' => e = .returned (.agg #[.int .i64 5, .int .i64 r, .int .i64 a, .int .i64 0, .int .i64 n]) ∧ Below w.heap.size w w' := by
 go_enter Tryz.func118, Tryz.ntmps118
 go_wp2
 exact bodyPost_ret (v := .agg #[.int .i64 5, .int .i64 r, .int .i64 a, .int .i64 0, .int .i64 n]) (by simp [results, Tryz.results118, go_sem]) rfl ⟨rfl, ((Below.refl _ _).alloc (Nat.le_refl _) _).alloc (by simp) _⟩
theorem named_6 (r a b n : Int) (w : World) : Calls Tryz.prog 118 #[.agg #[.int .i64 6, .int .i64 r, .int .i64 a, .int .i64 b, .int .i64 n]] w fun e w' => e = .returned (.agg #[.int .i64 6, .int .i64 0, .int .i64 a, .int .i64 b, .int .i64 n]) ∧ Below w.heap.size w w' := by
 go_enter Tryz.func118, Tryz.ntmps118
 go_wp2
 exact bodyPost_ret (v := .agg #[.int .i64 6, .int .i64 0, .int .i64 a, .int .i64 b, .int .i64 n]) (by simp [results, Tryz.results118, go_sem]) rfl ⟨rfl, ((Below.refl _ _).alloc (Nat.le_refl _) _).alloc (by simp) _⟩
theorem named_7 (r a b n : Int) (w : World) : Calls Tryz.prog 118 #[.agg #[.int .i64 7, .int .i64 r, .int .i64 a, .int .i64 b, .int .i64 n]] w fun e w' => e = .returned (.agg #[.int .i64 7, .int .i64 0, .int .i64 a, .int .i64 b, .int .i64 n]) ∧ Below w.heap.size w w' := by
 go_enter Tryz.func118, Tryz.ntmps118
 go_wp2
 exact bodyPost_ret (v := .agg #[.int .i64 7, .int .i64 0, .int .i64 a, .int .i64 b, .int .i64 n]) (by simp [results, Tryz.results118, go_sem]) rfl ⟨rfl, ((Below.refl _ _).alloc (Nat.le_refl _) _).alloc (by simp) _⟩
theorem named_8 (r a b n : Int) (w : World) : Calls Tryz.prog 118 #[.agg #[.int .i64 8, .int .i64 r, .int .i64 a, .int .i64 b, .int .i64 n]] w fun e w' => e = .returned (.agg #[.int .i64 8, .int .i64 r, .int .i64 0, .int .i64 b, .int .i64 n]) ∧ Below w.heap.size w w' := by
 go_enter Tryz.func118, Tryz.ntmps118
 go_wp2
 exact bodyPost_ret (v := .agg #[.int .i64 8, .int .i64 r, .int .i64 0, .int .i64 b, .int .i64 n]) (by simp [results, Tryz.results118, go_sem]) rfl ⟨rfl, ((Below.refl _ _).alloc (Nat.le_refl _) _).alloc (by simp) _⟩
theorem named_9 (r a b n : Int) (w : World) : Calls Tryz.prog 118 #[.agg #[.int .i64 9, .int .i64 r, .int .i64 a, .int .i64 b, .int .i64 n]] w fun e w' => e = .returned (.agg #[.int .i64 9, .int .i64 0, .int .i64 a, .int .i64 0, .int .i64 0]) ∧ Below w.heap.size w w' := by
 go_enter Tryz.func118, Tryz.ntmps118
 go_wp2
 exact bodyPost_ret (v := .agg #[.int .i64 9, .int .i64 0, .int .i64 a, .int .i64 0, .int .i64 0]) (by simp [results, Tryz.results118, go_sem]) rfl ⟨rfl, ((Below.refl _ _).alloc (Nat.le_refl _) _).alloc (by simp) _⟩
theorem named_10 (r a b n : Int) (w : World) : Calls Tryz.prog 118 #[.agg #[.int .i64 10, .int .i64 r, .int .i64 a, .int .i64 b, .int .i64 n]] w fun e w' => e = .returned (.agg #[.int .i64 10, .int .i64 0, .int .i64 0, .int .i64 0, .int .i64 n]) ∧ Below w.heap.size w w' := by
 go_enter Tryz.func118, Tryz.ntmps118
 go_wp2
 exact bodyPost_ret (v := .agg #[.int .i64 10, .int .i64 0, .int .i64 0, .int .i64 0, .int .i64 n]) (by simp [results, Tryz.results118, go_sem]) rfl ⟨rfl, ((Below.refl _ _).alloc (Nat.le_refl _) _).alloc (by simp) _⟩
theorem named_11 (r a b n : Int) (w : World) : Calls Tryz.prog 118 #[.agg #[.int .i64 11, .int .i64 r, .int .i64 a, .int .i64 b, .int .i64 n]] w fun e w' => e = .returned (.agg #[.int .i64 11, .int .i64 0, .int .i64 a, .int .i64 0, .int .i64 n]) ∧ Below w.heap.size w w' := by
 go_enter Tryz.func118, Tryz.ntmps118
 go_wp2
 exact bodyPost_ret (v := .agg #[.int .i64 11, .int .i64 0, .int .i64 a, .int .i64 0, .int .i64 n]) (by simp [results, Tryz.results118, go_sem]) rfl ⟨rfl, ((Below.refl _ _).alloc (Nat.le_refl _) _).alloc (by simp) _⟩
theorem named_12 (r a b n : Int) (w : World) : Calls Tryz.prog 118 #[.agg #[.int .i64 12, .int .i64 r, .int .i64 a, .int .i64 b, .int .i64 n]] w fun e w' => e = .returned (.agg #[.int .i64 12, .int .i64 0, .int .i64 0, .int .i64 0, .int .i64 0]) ∧ Below w.heap.size w w' := by
 go_enter Tryz.func118, Tryz.ntmps118
 go_wp2
 exact bodyPost_ret (v := .agg #[.int .i64 12, .int .i64 0, .int .i64 0, .int .i64 0, .int .i64 0]) (by simp [results, Tryz.results118, go_sem]) rfl ⟨rfl, ((Below.refl _ _).alloc (Nat.le_refl _) _).alloc (by simp) _⟩
theorem named_13 (r a b n : Int) (w : World) : Calls Tryz.prog 118 #[.agg #[.int .i64 13, .int .i64 r, .int .i64 a, .int .i64 b, .int .i64 n]] w fun e w' => e = .returned (.agg #[.int .i64 13, .int .i64 0, .int .i64 0, .int .i64 0, .int .i64 0]) ∧ Below w.heap.size w w' := by
 go_enter Tryz.func118, Tryz.ntmps118
 go_wp2
 exact bodyPost_ret (v := .agg #[.int .i64 13, .int .i64 0, .int .i64 0, .int .i64 0, .int .i64 0]) (by simp [results, Tryz.results118, go_sem]) rfl ⟨rfl, ((Below.refl _ _).alloc (Nat.le_refl _) _).alloc (by simp) _⟩
set_option maxRecDepth 100000 in
theorem named_0 (op r a b n : Int) (w : World) (h1 : (op == 1) = false) (h2 : (op == 2) = false) (h3 : (op == 3) = false) (h4 : (op == 4) = false) (h5 : (op == 5) = false) (h6 : (op == 6) = false) (h7 : (op == 7) = false) (h8 : (op == 8) = false) (h9 : (op == 9) = false) (h10 : (op == 10) = false) (h11 : (op == 11) = false) (h12 : (op == 12) = false) (h13 : (op == 13) = false) : Calls Tryz.prog 118 #[.agg #[.int .i64 op, .int .i64 r, .int .i64 a, .int .i64 b, .int .i64 n]] w fun e w' => e = .returned (.agg #[.int .i64 0, .int .i64 0, .int .i64 0, .int .i64 0, .int .i64 0]) ∧ Below w.heap.size w w' := by
 go_enter Tryz.func118, Tryz.ntmps118
 go_wp2
 exact bodyPost_ret (v := .agg #[.int .i64 0, .int .i64 0, .int .i64 0, .int .i64 0, .int .i64 0]) (by simp [results, Tryz.results118, go_sem]) rfl ⟨rfl, ((Below.refl _ _).alloc (Nat.le_refl _) _).alloc (by simp) _⟩
end
section
set_option linter.unusedSimpArgs false
set_option linter.unusedVariables false
set_option maxRecDepth 100000
open Go.RowKit
theorem toStep_any (o r a b n : Int) (w : World) : Calls Tryz.prog 87 #[.agg #[.int .i64 o, .int .i64 r, .int .i64 a, .int .i64 b, .int .i64 n]] w fun e w' => e = .returned (.agg #[.int .i64 o, .int .i64 r, .int .i64 a, .int .i64 b, .int .i64 n]) ∧ Below w.heap.size w w' := by
 go_enter Tryz.func87, Tryz.ntmps87
 go_wp2
 exact bodyPost_ret (v := .agg #[.int .i64 o, .int .i64 r, .int .i64 a, .int .i64 b, .int .i64 n]) (by simp [results, Tryz.results87, go_sem]) rfl ⟨rfl, (((Below.refl _ _).alloc (Nat.le_refl _) _).alloc (by simp) _).alloc (by simp; omega) _⟩
end
section
set_option linter.unusedSimpArgs false
set_option linter.unusedVariables false
set_option maxRecDepth 100000
open Go.RowKit
structure I5 where
 o : Int
 r : Int
 a : Int
 b : Int
 n : Int
def z5 : I5 := ⟨0, 0, 0, 0, 0⟩
def At5 (w : World) (g off : Nat) (x : I5) : Prop :=
 w.cell? ⟨g, off, none⟩ = some (.int .i64 x.o) ∧ w.cell? ⟨g, off + 1, none⟩ = some (.int .i64 x.r) ∧ w.cell? ⟨g, off + 2, none⟩ = some (.int .i64 x.a) ∧ w.cell? ⟨g, off + 3, none⟩ = some (.int .i64 x.b) ∧ w.cell? ⟨g, off + 4, none⟩ = some (.int .i64 x.n)
theorem At5.keep {w w' : World} {B g off : Nat} {x : I5} (h : At5 w g off x) (hb : Below B w w') (hg : g < B) : At5 w' g off x :=
 ⟨(hb.cell hg).trans h.1, (hb.cell hg).trans h.2.1, (hb.cell hg).trans h.2.2.1, (hb.cell hg).trans h.2.2.2.1, (hb.cell hg).trans h.2.2.2.2⟩
/- a list of steps below block B -/
def InsB (w : World) (B : Nat) (s : Option Addr) (l : List I5) : Prop :=
 l = [] ∨ ∃ g off, s = some ⟨g, off, none⟩ ∧ g < B ∧ ∀ i, i < l.length → At5 w g (off + i * 5) (l.getD i z5)
theorem InsB.mono {w : World} {B B' : Nat} {s : Option Addr} {l : List I5} (h : InsB w B s l) (hB : B ≤ B') : InsB w B' s l := by
 rcases h with h | ⟨g, o, hs, hg, hc⟩
 ·exact .inl h
 ·exact .inr ⟨g, o, hs, by omega, hc⟩
theorem mk25 (n : Nat) (hn : n ≤ 1048576) (w : World) : (Instr.makeSlice 92 (.int .i64 (n : Int)) (.int .i64 (n : Int))).run Tryz.prog w = .ok (.slice (some ⟨w.heap.size, 0, none⟩) n n) (w.alloc (.cells (madeCells #[.int .i64 0, .int .i64 0, .int .i64 0, .int .i64 0, .int .i64 0] (n * 5)) 100)) := by
 have h := run_make (P := Tryz.prog) w 92 100 _ (.agg #[.int .i64 0, .int .i64 0, .int .i64 0, .int .i64 0, .int .i64 0]) Tryz.underlying92 rfl rfl .i64 .i64 n n (by omega) (Int.le_refl _) (by show (40 : Int) * _ ≤ _; omega) (by omega)
 have e : (Value.agg #[.int .i64 0, .int .i64 0, .int .i64 0, .int .i64 0, .int .i64 0]).cells = #[.int .i64 0, .int .i64 0, .int .i64 0, .int .i64 0, .int .i64 0] := rfl
 have e' : ∀ t, Tryz.prog.info? 100 = some t → t.size = 5 := by intro t h; cases h; rfl
 rw [e, e' _ rfl] at h
 simpa using h
/- what the store of a step into a list leaves -/
def set5 (w : World) (g o : Nat) (x : I5) : World := ((((w.setCell ⟨g, o, none⟩ (.int .i64 x.o)).setCell ⟨g, o + 1, none⟩ (.int .i64 x.r)).setCell ⟨g, o + 2, none⟩ (.int .i64 x.a)).setCell ⟨g, o + 3, none⟩ (.int .i64 x.b)).setCell ⟨g, o + 4, none⟩ (.int .i64 x.n)
theorem set5_below {B g o : Nat} {w w' : World} {x : I5} (h : Below B w w') (hg : B ≤ g) : Below B w (set5 w' g o x) := ((((h.setCell (p := ⟨g, o, none⟩) hg _).setCell (p := ⟨g, o + 1, none⟩) hg _).setCell (p := ⟨g, o + 2, none⟩) hg _).setCell (p := ⟨g, o + 3, none⟩) hg _).setCell (p := ⟨g, o + 4, none⟩) hg _
theorem set5_size {g o : Nat} {w : World} {x : I5} : (set5 w g o x).heap.size = w.heap.size := by simp [set5]
theorem set5_frozen {g o : Nat} {w : World} {x : I5} {b : Addr} : (set5 w g o x).frozen? b = w.frozen? b := by simp [set5]
theorem set5_other {g o j : Nat} {w : World} {x : I5} (h : j < o ∨ o + 5 ≤ j) : (set5 w g o x).cell? ⟨g, j, none⟩ = w.cell? ⟨g, j, none⟩ := by
 unfold set5
 rw [setC_off (by omega), setC_off (by omega), setC_off (by omega), setC_off (by omega), setC_off (by omega)]
theorem set5_some {g o j : Nat} {w : World} {x : I5} (h : (w.cell? ⟨g, j, none⟩).isSome = true) : ((set5 w g o x).cell? ⟨g, j, none⟩).isSome = true :=
 setC_some (setC_some (setC_some (setC_some (setC_some h))))
theorem set5_at {g o : Nat} {w : World} {x : I5} (h0 : (w.cell? ⟨g, o, none⟩).isSome = true) (h1 : (w.cell? ⟨g, o + 1, none⟩).isSome = true) (h2 : (w.cell? ⟨g, o + 2, none⟩).isSome = true) (h3 : (w.cell? ⟨g, o + 3, none⟩).isSome = true) (h4 : (w.cell? ⟨g, o + 4, none⟩).isSome = true) : At5 (set5 w g o x) g o x := by
 unfold set5
 refine ⟨?_, ?_, ?_, ?_, ?_⟩
 ·rw [setC_off (by omega), setC_off (by omega), setC_off (by omega), setC_off (by omega), setC_at h0]
 ·rw [setC_off (by omega), setC_off (by omega), setC_off (by omega), setC_at (setC_some h1)]
 ·rw [setC_off (by omega), setC_off (by omega), setC_at (setC_some (setC_some h2))]
 ·rw [setC_off (by omega), setC_at (setC_some (setC_some (setC_some h3)))]
 ·rw [setC_at (setC_some (setC_some (setC_some (setC_some h4))))]
theorem At5.set5_off {w : World} {g o o' : Nat} {x y : I5} (h : At5 w g o' y) (hd : o' + 5 ≤ o ∨ o + 5 ≤ o') : At5 (set5 w g o x) g o' y := by
 obtain ⟨h0, h1, h2, h3, h4⟩ := h
 exact ⟨(set5_other (by omega)).trans h0, (set5_other (by omega)).trans h1, (set5_other (by omega)).trans h2, (set5_other (by omega)).trans h3, (set5_other (by omega)).trans h4⟩
set_option maxHeartbeats 400000 in
theorem toStepS_none (s : Option Addr) (c : Nat) (w : World) :
  Calls Tryz.prog 61 #[.slice s 0 c] w fun e w' => e = .returned (.slice (some ⟨w.heap.size, 0, none⟩) 0 0) ∧ Below w.heap.size w w' ∧ w.heap.size < w'.heap.size := by
 have hmk := mk25 0 (by omega)
 simp only [Int.natCast_zero] at hmk
 go_enter Tryz.func61, Tryz.ntmps61
 go_wp2
 clear hmk
 go_loopw [4] (fun i wr => i = .int .i64 0 ∧ Below w.heap.size w wr ∧ w.heap.size < wr.heap.size) (fun _ _ => 0)
 case atStart => exact ⟨rfl, (Below.refl _ _).alloc (Nat.le_refl _) _, by simp⟩
 case round =>
  obtain ⟨rfl, hb, hsz⟩ := hrel
  go_wp2
  go_ret
  exact ⟨rfl, hb, hsz⟩
end
section
set_option linter.unusedSimpArgs false
set_option linter.unusedVariables false
set_option maxRecDepth 100000
open Go.ChangeShapes Go.WideShapes Go.ChangeAt Go.RowKit Go.Deep
theorem cell_lt {w : World} {a : Addr} {v : Value} (h : w.cell? a = some v) : a.block < w.heap.size := by
 apply Classical.byContradiction
 intro hn
 have : w.heap[a.block]? = none := by simp; omega
 simp [World.cell?, this] at h
theorem add_plain (g off n : Nat) : (Addr.add ⟨g, off, none⟩ n) = ⟨g, off + n, none⟩ := by
 by_cases h : n = 0
 ·subst h; rfl
 ·simp [Addr.add, h]
theorem stepS_spot {H : Type} {enc : TypeId × Value → H} {w : World} {base : Nat} {spare : TypeId → Bool} {held : Bool} {n : Nat} {a : Addr} {cs : List Value} {x : DataW H × List MemPlace}
  (hc : w.cells? base (a.add (0 * 5)) 5 = some cs) (h : DataW.trod enc Tryz.prog w base spare held n 135 cs = some x) :
  a.spot = none ∧ a.block < w.heap.size := by
 obtain ⟨o, r, b, c, d, rfl, -⟩ := step_cells h
 obtain ⟨-, -, hcell⟩ := World.cells?_some hc
 have c0 : w.cell? a = some (.int .i64 o) := by simpa [Addr.add] using hcell 0 (by omega)
 exact ⟨World.cell?_spot c0, cell_lt c0⟩
theorem stepS_at {H : Type} {enc : TypeId × Value → H} {w : World} {base : Nat} {spare : TypeId → Bool} {held : Bool} {n g off i : Nat} {cs : List Value} {x : DataW H × List MemPlace}
  (hc : w.cells? base (Addr.add ⟨g, off, none⟩ (i * 5)) 5 = some cs) (h : DataW.trod enc Tryz.prog w base spare held n 135 cs = some x) :
  ∃ y : I5, At5 w g (off + i * 5) y := by
 obtain ⟨o, r, b, c, d, rfl, -⟩ := step_cells h
 obtain ⟨-, -, hcell⟩ := World.cells?_some hc
 rw [add_plain] at hcell
 have c0 := hcell 0 (by omega)
 have c1 := hcell 1 (by omega)
 have c2 := hcell 2 (by omega)
 have c3 := hcell 3 (by omega)
 have c4 := hcell 4 (by omega)
 rw [add_plain] at c0 c1 c2 c3 c4
 exact ⟨⟨o, r, b, c, d⟩, c0, c1, c2, c3, c4⟩
end
section
set_option linter.unusedSimpArgs false
set_option linter.unusedVariables false
set_option maxRecDepth 100000
open Go.ChangeShapes Go.WideShapes Go.ChangeAt Go.RowKit Go.Deep
theorem list2 {α : Type} {cs : List α} (h : cs.length = 2) : ∃ c0 c1, cs = [c0, c1] := by
 match cs, h with
 | [c0, c1], _ => exact ⟨c0, c1, rfl⟩
theorem ownP : ownKnob Tryz.prog.godebug = none := by kernel_rfl
theorem laidOutP : laidOutB Tryz.prog = true := by kernel_rfl
theorem cellsSi : Tryz.prog.cellsOf 51 = 1 := by kernel_rfl
theorem ints_read {H : Type} {enc : TypeId × Value → H} {w : World} {base : Nat} {held : Bool} {fuel : Nat} {v : Value} {x : DataW H × List MemPlace}
  (hf : DataW.trod enc Tryz.prog w base (fun _ => true) held fuel 51 [v] = some x) :
  ∃ (s : Option Addr) (c : Nat) (l : List Int), v = .slice s l.length c ∧ l.length ≤ maxLen ∧ IntsR w 0 w.heap.size s l := by
 rcases open_ints Tryz.underlying51 Tryz.underlying3 cellsInt hf with ⟨hcs, _⟩ | ⟨a, len, cap, zs, hcs, _, hl, hm, hz, _, hcell, _⟩
 ·simp at hcs
  exact ⟨none, 0, [], hcs, Nat.zero_le _, .inl rfl⟩
 ·simp at hcs hz
  by_cases h0 : len = 0
  ·subst h0
   exact ⟨some a, cap, [], hcs, Nat.zero_le _, .inl rfl⟩
  ·have c0 := hcell 0 (by omega)
   have c0' : w.cell? a = some (.int .i64 (zs.getD 0 0)) := by simpa [Addr.add] using c0
   have hs := World.cell?_spot c0'
   have hg := cell_lt c0'
   obtain ⟨g, off, spot⟩ := a
   simp at hs
   subst hs
   refine ⟨some ⟨g, off, none⟩, cap, zs.take len, ?_, ?_, .inr ⟨g, off, rfl, Nat.zero_le _, hg, ?_⟩⟩
   ·rw [hcs]
    congr 1
    simp
    omega
   ·simp
    omega
   ·intro i hi
    have hi' : i < len := by simp at hi; omega
    have := hcell i (by omega)
    rw [add_plain] at this
    rw [this]
    simp [List.getD_eq_getElem?_getD, List.getElem?_take, hi']
end
section
set_option linter.unusedSimpArgs false
set_option linter.unusedVariables false
set_option maxRecDepth 100000
open Go.RowKit
theorem eqStep_same (o r a b n : Int) (w : World) : Calls Tryz.prog 97 #[.agg #[.int .i64 o, .int .i64 r, .int .i64 a, .int .i64 b, .int .i64 n], .agg #[.int .i64 o, .int .i64 r, .int .i64 a, .int .i64 b, .int .i64 n]] w fun e w' => e = .returned (.bool true) ∧ Below w.heap.size w w' := by
 go_enter Tryz.func97, Tryz.ntmps97
 go_wp2
 go_ret
 exact ⟨rfl, ((Below.refl _ _).alloc (Nat.le_refl _) _).alloc (by simp) _⟩
end
end Go.Proofs.YtabppapibnemhaaGreat
