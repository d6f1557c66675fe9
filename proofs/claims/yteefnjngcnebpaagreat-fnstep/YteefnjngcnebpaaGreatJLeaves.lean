/- The leaves of chapter 1: what each small function of the program answers, for every argument, in every world; which place is made of an Ins, and which Ins is made of a place. No condition. -/
import Derived.Test.YteefnjngcnebpaaGreatJG00
import Derived.Test.YteefnjngcnebpaaGreatChecked
import Derived.WalkKit
import Derived.KernelRfl
import Derived.WalkSpells
import Derived.WalkLawsBesides
namespace Go.Proofs.YteefnjngcnebpaaGreat
set_option linter.unusedSimpArgs false
set_option linter.unusedVariables false
set_option maxRecDepth 100000
open Go.RowKit
theorem isReg_any (r : Int) (w : World) : Calls Tryz.prog 86 #[.int .i64 r] w fun e w' => e = .returned (.bool (Plain.regB r)) ∧ w' = w := by
 by_cases h0 : 0 ≤ r <;> by_cases h1 : r ≤ 3
 all_goals
  go_enter Tryz.func86, Tryz.ntmps86
  go_wp2
  go_ret
  exact ⟨by simp [Plain.regB]; omega, rfl⟩
theorem isNum_any (n : Int) (w : World) : Calls Tryz.prog 87 #[.int .i64 n] w fun e w' => e = .returned (.bool (Plain.numB n)) ∧ w' = w := by
 by_cases h0 : -1000000000 ≤ n <;> by_cases h1 : n ≤ 1000000000
 all_goals
  go_enter Tryz.func87, Tryz.ntmps87
  go_wp2
  go_ret
  exact ⟨by simp [Plain.numB]; omega, rfl⟩
theorem isOneOf_any (n c : Int) (w : World) : Calls Tryz.prog 36 #[.int .i64 n, .int .i64 c] w fun e w' => e = .returned (.bool (Plain.oneB n c)) ∧ w' = w := by
 by_cases h0 : 0 ≤ n <;> by_cases h1 : n < c
 all_goals
  go_enter Tryz.func36, Tryz.ntmps36
  go_wp2
  go_ret
  exact ⟨by simp [Plain.oneB]; omega, rfl⟩
theorem areChans_any (c : Int) (w : World) : Calls Tryz.prog 68 #[.int .i64 c] w fun e w' => e = .returned (.bool (Plain.chansB c)) ∧ w' = w := by
 by_cases h0 : 0 ≤ c <;> by_cases h1 : c ≤ 3
 all_goals
  go_enter Tryz.func68, Tryz.ntmps68
  go_wp2
  go_ret
  exact ⟨by simp [Plain.chansB]; omega, rfl⟩
theorem areRegs_any (r a b : Int) (w : World) : Calls Tryz.prog 88 #[.int .i64 r, .int .i64 a, .int .i64 b] w fun e w' => e = .returned (.bool (Plain.areB r a b)) ∧ w' = w := by
 cases h0 : Plain.regB r <;> cases h1 : Plain.regB a
 all_goals
  go_enter Tryz.func88, Tryz.ntmps88
  go_wp2_with (go_at_call 86; refine (isReg_any _ _).mono ?_; rintro e w' ⟨rfl, rfl⟩)
  go_ret
  exact ⟨by simp [Plain.areB, h0, h1], rfl⟩
theorem takesOk_any (r b : Int) (w : World) : Calls Tryz.prog 89 #[.int .i64 r, .int .i64 b] w fun e w' => e = .returned (.bool (Plain.takesB r b)) ∧ w' = w := by
 cases h0 : Plain.regB r <;> cases h1 : Plain.regB b
 all_goals
  go_enter Tryz.func89, Tryz.ntmps89
  go_wp2_with (go_at_call 86; refine (isReg_any _ _).mono ?_; rintro e w' ⟨rfl, rfl⟩)
  go_ret
  exact ⟨by simp [Plain.takesB, h0, h1], rfl⟩
theorem placeOf_1 (r a b n : Int) (w : World) : Calls Tryz.prog 30 #[.agg #[.int .i64 1, .int .i64 r, .int .i64 a, .int .i64 b, .int .i64 n]] w fun e w' => e = .returned (.iface 96 (.agg #[.int .i64 r, .int .i64 n])) ∧ Below w.heap.size w w' := by
 go_enter Tryz.func30, Tryz.ntmps30
 go_wp2
 go_ret
 exact ⟨rfl, (Below.refl _ _).alloc (Nat.le_refl _) _⟩
theorem placeOf_2 (r a b n : Int) (w : World) : Calls Tryz.prog 30 #[.agg #[.int .i64 2, .int .i64 r, .int .i64 a, .int .i64 b, .int .i64 n]] w fun e w' => e = .returned (.iface 98 (.agg #[.int .i64 r, .int .i64 a, .int .i64 b])) ∧ Below w.heap.size w w' := by
 go_enter Tryz.func30, Tryz.ntmps30
 go_wp2
 go_ret
 exact ⟨rfl, (Below.refl _ _).alloc (Nat.le_refl _) _⟩
theorem placeOf_3 (r a b n : Int) (w : World) : Calls Tryz.prog 30 #[.agg #[.int .i64 3, .int .i64 r, .int .i64 a, .int .i64 b, .int .i64 n]] w fun e w' => e = .returned (.iface 99 (.agg #[.int .i64 r, .int .i64 a, .int .i64 b])) ∧ Below w.heap.size w w' := by
 go_enter Tryz.func30, Tryz.ntmps30
 go_wp2
 go_ret
 exact ⟨rfl, (Below.refl _ _).alloc (Nat.le_refl _) _⟩
theorem placeOf_4 (r a b n : Int) (w : World) : Calls Tryz.prog 30 #[.agg #[.int .i64 4, .int .i64 r, .int .i64 a, .int .i64 b, .int .i64 n]] w fun e w' => e = .returned (.iface 100 (.agg #[.int .i64 r, .int .i64 a, .int .i64 b])) ∧ Below w.heap.size w w' := by
 go_enter Tryz.func30, Tryz.ntmps30
 go_wp2
 go_ret
 exact ⟨rfl, (Below.refl _ _).alloc (Nat.le_refl _) _⟩
theorem placeOf_5 (r a b n : Int) (w : World) : Calls Tryz.prog 30 #[.agg #[.int .i64 5, .int .i64 r, .int .i64 a, .int .i64 b, .int .i64 n]] w fun e w' => e = .returned (.iface 107 (.agg #[.int .i64 a, .int .i64 n])) ∧ Below w.heap.size w w' := by
 go_enter Tryz.func30, Tryz.ntmps30
 go_wp2
 go_ret
 exact ⟨rfl, (Below.refl _ _).alloc (Nat.le_refl _) _⟩
theorem placeOf_6 (r a b n : Int) (w : World) : Calls Tryz.prog 30 #[.agg #[.int .i64 6, .int .i64 r, .int .i64 a, .int .i64 b, .int .i64 n]] w fun e w' => e = .returned (.iface 102 (.agg #[.int .i64 r, .int .i64 b, .int .i64 n])) ∧ Below w.heap.size w w' := by
 go_enter Tryz.func30, Tryz.ntmps30
 go_wp2
 go_ret
 exact ⟨rfl, (Below.refl _ _).alloc (Nat.le_refl _) _⟩
theorem placeOf_7 (r a b n : Int) (w : World) : Calls Tryz.prog 30 #[.agg #[.int .i64 7, .int .i64 r, .int .i64 a, .int .i64 b, .int .i64 n]] w fun e w' => e = .returned (.iface 104 (.agg #[.int .i64 r, .int .i64 a, .int .i64 n])) ∧ Below w.heap.size w w' := by
 go_enter Tryz.func30, Tryz.ntmps30
 go_wp2
 go_ret
 exact ⟨rfl, (Below.refl _ _).alloc (Nat.le_refl _) _⟩
theorem placeOf_8 (r a b n : Int) (w : World) : Calls Tryz.prog 30 #[.agg #[.int .i64 8, .int .i64 r, .int .i64 a, .int .i64 b, .int .i64 n]] w fun e w' => e = .returned (.iface 105 (.agg #[.int .i64 r, .int .i64 b, .int .i64 n])) ∧ Below w.heap.size w w' := by
 go_enter Tryz.func30, Tryz.ntmps30
 go_wp2
 go_ret
 exact ⟨rfl, (Below.refl _ _).alloc (Nat.le_refl _) _⟩
theorem placeOf_9 (r a b n : Int) (w : World) : Calls Tryz.prog 30 #[.agg #[.int .i64 9, .int .i64 r, .int .i64 a, .int .i64 b, .int .i64 n]] w fun e w' => e = .returned (.iface 109 (.agg #[.int .i64 n])) ∧ Below w.heap.size w w' := by
 go_enter Tryz.func30, Tryz.ntmps30
 go_wp2
 go_ret
 exact ⟨rfl, (Below.refl _ _).alloc (Nat.le_refl _) _⟩
theorem placeOf_10 (r a b n : Int) (w : World) : Calls Tryz.prog 30 #[.agg #[.int .i64 10, .int .i64 r, .int .i64 a, .int .i64 b, .int .i64 n]] w fun e w' => e = .returned (.iface 111 (.agg #[.int .i64 a])) ∧ Below w.heap.size w w' := by
 go_enter Tryz.func30, Tryz.ntmps30
 go_wp2
 go_ret
 exact ⟨rfl, (Below.refl _ _).alloc (Nat.le_refl _) _⟩
theorem placeOf_11 (r a b n : Int) (w : World) : Calls Tryz.prog 30 #[.agg #[.int .i64 11, .int .i64 r, .int .i64 a, .int .i64 b, .int .i64 n]] w fun e w' => e = .returned (.iface 112 (.agg #[.int .i64 n])) ∧ Below w.heap.size w w' := by
 go_enter Tryz.func30, Tryz.ntmps30
 go_wp2
 go_ret
 exact ⟨rfl, (Below.refl _ _).alloc (Nat.le_refl _) _⟩
theorem placeOf_12 (r a b n : Int) (w : World) : Calls Tryz.prog 30 #[.agg #[.int .i64 12, .int .i64 r, .int .i64 a, .int .i64 b, .int .i64 n]] w fun e w' => e = .returned (.iface 113 (.agg #[.int .i64 a, .int .i64 n])) ∧ Below w.heap.size w w' := by
 go_enter Tryz.func30, Tryz.ntmps30
 go_wp2
 go_ret
 exact ⟨rfl, (Below.refl _ _).alloc (Nat.le_refl _) _⟩
theorem placeOf_13 (r a b n : Int) (w : World) : Calls Tryz.prog 30 #[.agg #[.int .i64 13, .int .i64 r, .int .i64 a, .int .i64 b, .int .i64 n]] w fun e w' => e = .returned (.iface 115 (.agg #[])) ∧ Below w.heap.size w w' := by
 go_enter Tryz.func30, Tryz.ntmps30
 go_wp2
 go_ret
 exact ⟨rfl, (Below.refl _ _).alloc (Nat.le_refl _) _⟩
set_option maxRecDepth 100000 in
theorem placeOf_0 (op r a b n : Int) (w : World) (h1 : (op == 1) = false) (h2 : (op == 2) = false) (h3 : (op == 3) = false) (h4 : (op == 4) = false) (h5 : (op == 5) = false) (h6 : (op == 6) = false) (h7 : (op == 7) = false) (h8 : (op == 8) = false) (h9 : (op == 9) = false) (h10 : (op == 10) = false) (h11 : (op == 11) = false) (h12 : (op == 12) = false) (h13 : (op == 13) = false) : Calls Tryz.prog 30 #[.agg #[.int .i64 op, .int .i64 r, .int .i64 a, .int .i64 b, .int .i64 n]] w fun e w' => e = .returned .nilIface ∧ Below w.heap.size w w' := by
 go_enter Tryz.func30, Tryz.ntmps30
 go_wp2
 go_ret
 exact ⟨rfl, (Below.refl _ _).alloc (Nat.le_refl _) _⟩
theorem ins_1 (r n : Int) (w : World) : Calls Tryz.prog 108 #[.agg #[.int .i64 r, .int .i64 n]] w fun e w' => e = .returned (.agg #[.int .i64 1, .int .i64 r, .int .i64 0, .int .i64 0, .int .i64 n]) ∧ Below w.heap.size w w' := by
 go_enter Tryz.func108, Tryz.ntmps108
 go_wp2
 exact bodyPost_ret (v := .agg #[.int .i64 1, .int .i64 r, .int .i64 0, .int .i64 0, .int .i64 n]) (by simp [results, Tryz.results108, go_sem]) rfl ⟨rfl, ((Below.refl _ _).alloc (Nat.le_refl _) _).alloc (by simp) _⟩
theorem ins_2 (r a b : Int) (w : World) : Calls Tryz.prog 109 #[.agg #[.int .i64 r, .int .i64 a, .int .i64 b]] w fun e w' => e = .returned (.agg #[.int .i64 2, .int .i64 r, .int .i64 a, .int .i64 b, .int .i64 0]) ∧ Below w.heap.size w w' := by
 go_enter Tryz.func109, Tryz.ntmps109
 go_wp2
 exact bodyPost_ret (v := .agg #[.int .i64 2, .int .i64 r, .int .i64 a, .int .i64 b, .int .i64 0]) (by simp [results, Tryz.results109, go_sem]) rfl ⟨rfl, ((Below.refl _ _).alloc (Nat.le_refl _) _).alloc (by simp) _⟩
theorem ins_3 (r a b : Int) (w : World) : Calls Tryz.prog 110 #[.agg #[.int .i64 r, .int .i64 a, .int .i64 b]] w fun e w' => e = .returned (.agg #[.int .i64 3, .int .i64 r, .int .i64 a, .int .i64 b, .int .i64 0]) ∧ Below w.heap.size w w' := by
 go_enter Tryz.func110, Tryz.ntmps110
 go_wp2
 exact bodyPost_ret (v := .agg #[.int .i64 3, .int .i64 r, .int .i64 a, .int .i64 b, .int .i64 0]) (by simp [results, Tryz.results110, go_sem]) rfl ⟨rfl, ((Below.refl _ _).alloc (Nat.le_refl _) _).alloc (by simp) _⟩
theorem ins_4 (r a b : Int) (w : World) : Calls Tryz.prog 111 #[.agg #[.int .i64 r, .int .i64 a, .int .i64 b]] w fun e w' => e = .returned (.agg #[.int .i64 4, .int .i64 r, .int .i64 a, .int .i64 b, .int .i64 0]) ∧ Below w.heap.size w w' := by
 go_enter Tryz.func111, Tryz.ntmps111
 go_wp2
 exact bodyPost_ret (v := .agg #[.int .i64 4, .int .i64 r, .int .i64 a, .int .i64 b, .int .i64 0]) (by simp [results, Tryz.results111, go_sem]) rfl ⟨rfl, ((Below.refl _ _).alloc (Nat.le_refl _) _).alloc (by simp) _⟩
theorem ins_5 (a n : Int) (w : World) : Calls Tryz.prog 115 #[.agg #[.int .i64 a, .int .i64 n]] w fun e w' => e = .returned (.agg #[.int .i64 5, .int .i64 0, .int .i64 a, .int .i64 0, .int .i64 n]) ∧ Below w.heap.size w w' := by
 go_enter Tryz.func115, Tryz.ntmps115
 go_wp2
 exact bodyPost_ret (v := .agg #[.int .i64 5, .int .i64 0, .int .i64 a, .int .i64 0, .int .i64 n]) (by simp [results, Tryz.results115, go_sem]) rfl ⟨rfl, ((Below.refl _ _).alloc (Nat.le_refl _) _).alloc (by simp) _⟩
theorem ins_6 (r b n : Int) (w : World) : Calls Tryz.prog 112 #[.agg #[.int .i64 r, .int .i64 b, .int .i64 n]] w fun e w' => e = .returned (.agg #[.int .i64 6, .int .i64 r, .int .i64 0, .int .i64 b, .int .i64 n]) ∧ Below w.heap.size w w' := by
 go_enter Tryz.func112, Tryz.ntmps112
 go_wp2
 exact bodyPost_ret (v := .agg #[.int .i64 6, .int .i64 r, .int .i64 0, .int .i64 b, .int .i64 n]) (by simp [results, Tryz.results112, go_sem]) rfl ⟨rfl, ((Below.refl _ _).alloc (Nat.le_refl _) _).alloc (by simp) _⟩
theorem ins_7 (r a n : Int) (w : World) : Calls Tryz.prog 113 #[.agg #[.int .i64 r, .int .i64 a, .int .i64 n]] w fun e w' => e = .returned (.agg #[.int .i64 7, .int .i64 r, .int .i64 a, .int .i64 0, .int .i64 n]) ∧ Below w.heap.size w w' := by
 go_enter Tryz.func113, Tryz.ntmps113
 go_wp2
 exact bodyPost_ret (v := .agg #[.int .i64 7, .int .i64 r, .int .i64 a, .int .i64 0, .int .i64 n]) (by simp [results, Tryz.results113, go_sem]) rfl ⟨rfl, ((Below.refl _ _).alloc (Nat.le_refl _) _).alloc (by simp) _⟩
theorem ins_8 (r b n : Int) (w : World) : Calls Tryz.prog 114 #[.agg #[.int .i64 r, .int .i64 b, .int .i64 n]] w fun e w' => e = .returned (.agg #[.int .i64 8, .int .i64 r, .int .i64 0, .int .i64 b, .int .i64 n]) ∧ Below w.heap.size w w' := by
 go_enter Tryz.func114, Tryz.ntmps114
 go_wp2
 exact bodyPost_ret (v := .agg #[.int .i64 8, .int .i64 r, .int .i64 0, .int .i64 b, .int .i64 n]) (by simp [results, Tryz.results114, go_sem]) rfl ⟨rfl, ((Below.refl _ _).alloc (Nat.le_refl _) _).alloc (by simp) _⟩
theorem ins_9 (n : Int) (w : World) : Calls Tryz.prog 116 #[.agg #[.int .i64 n]] w fun e w' => e = .returned (.agg #[.int .i64 9, .int .i64 0, .int .i64 0, .int .i64 0, .int .i64 n]) ∧ Below w.heap.size w w' := by
 go_enter Tryz.func116, Tryz.ntmps116
 go_wp2
 exact bodyPost_ret (v := .agg #[.int .i64 9, .int .i64 0, .int .i64 0, .int .i64 0, .int .i64 n]) (by simp [results, Tryz.results116, go_sem]) rfl ⟨rfl, ((Below.refl _ _).alloc (Nat.le_refl _) _).alloc (by simp) _⟩
theorem ins_10 (a : Int) (w : World) : Calls Tryz.prog 117 #[.agg #[.int .i64 a]] w fun e w' => e = .returned (.agg #[.int .i64 10, .int .i64 0, .int .i64 a, .int .i64 0, .int .i64 0]) ∧ Below w.heap.size w w' := by
 go_enter Tryz.func117, Tryz.ntmps117
 go_wp2
 exact bodyPost_ret (v := .agg #[.int .i64 10, .int .i64 0, .int .i64 a, .int .i64 0, .int .i64 0]) (by simp [results, Tryz.results117, go_sem]) rfl ⟨rfl, ((Below.refl _ _).alloc (Nat.le_refl _) _).alloc (by simp) _⟩
theorem ins_11 (n : Int) (w : World) : Calls Tryz.prog 118 #[.agg #[.int .i64 n]] w fun e w' => e = .returned (.agg #[.int .i64 11, .int .i64 0, .int .i64 0, .int .i64 0, .int .i64 n]) ∧ Below w.heap.size w w' := by
 go_enter Tryz.func118, Tryz.ntmps118
 go_wp2
 exact bodyPost_ret (v := .agg #[.int .i64 11, .int .i64 0, .int .i64 0, .int .i64 0, .int .i64 n]) (by simp [results, Tryz.results118, go_sem]) rfl ⟨rfl, ((Below.refl _ _).alloc (Nat.le_refl _) _).alloc (by simp) _⟩
theorem ins_12 (a n : Int) (w : World) : Calls Tryz.prog 119 #[.agg #[.int .i64 a, .int .i64 n]] w fun e w' => e = .returned (.agg #[.int .i64 12, .int .i64 0, .int .i64 a, .int .i64 0, .int .i64 n]) ∧ Below w.heap.size w w' := by
 go_enter Tryz.func119, Tryz.ntmps119
 go_wp2
 exact bodyPost_ret (v := .agg #[.int .i64 12, .int .i64 0, .int .i64 a, .int .i64 0, .int .i64 n]) (by simp [results, Tryz.results119, go_sem]) rfl ⟨rfl, ((Below.refl _ _).alloc (Nat.le_refl _) _).alloc (by simp) _⟩
theorem ins_13 (w : World) : Calls Tryz.prog 120 #[.agg #[]] w fun e w' => e = .returned (.agg #[.int .i64 13, .int .i64 0, .int .i64 0, .int .i64 0, .int .i64 0]) ∧ Below w.heap.size w w' := by
 go_enter Tryz.func120, Tryz.ntmps120
 go_wp2
 exact bodyPost_ret (v := .agg #[.int .i64 13, .int .i64 0, .int .i64 0, .int .i64 0, .int .i64 0]) (by simp [results, Tryz.results120, go_sem]) rfl ⟨rfl, ((Below.refl _ _).alloc (Nat.le_refl _) _).alloc (by simp) _⟩
end Go.Proofs.YteefnjngcnebpaaGreat
