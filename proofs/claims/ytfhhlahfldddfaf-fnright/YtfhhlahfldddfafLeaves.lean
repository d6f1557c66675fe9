/- The leaves of chapter 1: what each small function of the program answers, for every argument, in every world; which place is made of an Ins, and which Ins is made of a place. No condition. -/
import Derived.Test.YtfhhlahfldddfafChecked
import Derived.WalkKit
import Derived.KernelRfl
import Derived.WalkSpells
import Derived.WalkLawsBesides
import Derived.Test.YtfhhlahfldddfafPlain
namespace Go.Proofs.Ytfhhlahfldddfaf
set_option linter.unusedSimpArgs false
set_option linter.unusedVariables false
open Go.RowKit

theorem isReg_any (r : Int) (w : World) : Calls Try.prog 29 #[.int .i64 r] w fun e w' => e = .returned (.bool (Plain.regB r)) ∧ w' = w := by
  by_cases h0 : 0 ≤ r <;> by_cases h1 : r ≤ 3
  all_goals
    go_enter Try.func29, Try.ntmps29
    go_wp2
    go_ret
    exact ⟨by simp [Plain.regB]; omega, rfl⟩

theorem isNum_any (n : Int) (w : World) : Calls Try.prog 30 #[.int .i64 n] w fun e w' => e = .returned (.bool (Plain.numB n)) ∧ w' = w := by
  by_cases h0 : -1000000000 ≤ n <;> by_cases h1 : n ≤ 1000000000
  all_goals
    go_enter Try.func30, Try.ntmps30
    go_wp2
    go_ret
    exact ⟨by simp [Plain.numB]; omega, rfl⟩

theorem isOneOf_any (n c : Int) (w : World) : Calls Try.prog 32 #[.int .i64 n, .int .i64 c] w fun e w' => e = .returned (.bool (Plain.oneB n c)) ∧ w' = w := by
  by_cases h0 : 0 ≤ n <;> by_cases h1 : n < c
  all_goals
    go_enter Try.func32, Try.ntmps32
    go_wp2
    go_ret
    exact ⟨by simp [Plain.oneB]; omega, rfl⟩

theorem areChans_any (c : Int) (w : World) : Calls Try.prog 20 #[.int .i64 c] w fun e w' => e = .returned (.bool (Plain.chansB c)) ∧ w' = w := by
  by_cases h0 : 0 ≤ c <;> by_cases h1 : c ≤ 3
  all_goals
    go_enter Try.func20, Try.ntmps20
    go_wp2
    go_ret
    exact ⟨by simp [Plain.chansB]; omega, rfl⟩

theorem areRegs_any (r a b : Int) (w : World) : Calls Try.prog 31 #[.int .i64 r, .int .i64 a, .int .i64 b] w fun e w' => e = .returned (.bool (Plain.areB r a b)) ∧ w' = w := by
  cases h0 : Plain.regB r <;> cases h1 : Plain.regB a
  all_goals
    go_enter Try.func31, Try.ntmps31
    go_wp2_with (go_at_call 29; refine (isReg_any _ _).mono ?_; rintro e w' ⟨rfl, rfl⟩)
    go_ret
    exact ⟨by simp [Plain.areB, h0, h1], rfl⟩

theorem takesOk_any (r b : Int) (w : World) : Calls Try.prog 33 #[.int .i64 r, .int .i64 b] w fun e w' => e = .returned (.bool (Plain.takesB r b)) ∧ w' = w := by
  cases h0 : Plain.regB r <;> cases h1 : Plain.regB b
  all_goals
    go_enter Try.func33, Try.ntmps33
    go_wp2_with (go_at_call 29; refine (isReg_any _ _).mono ?_; rintro e w' ⟨rfl, rfl⟩)
    go_ret
    exact ⟨by simp [Plain.takesB, h0, h1], rfl⟩

theorem placeOf_1 (r a b n : Int) (w : World) : Calls Try.prog 19 #[.agg #[.int .i64 1, .int .i64 r, .int .i64 a, .int .i64 b, .int .i64 n]] w fun e w' => e = .returned (.iface 61 (.agg #[.int .i64 r, .int .i64 n])) ∧ Below w.heap.size w w' := by
  go_enter Try.func19, Try.ntmps19
  go_wp2
  go_ret
  exact ⟨rfl, (Below.refl _ _).alloc (Nat.le_refl _) _⟩

theorem placeOf_2 (r a b n : Int) (w : World) : Calls Try.prog 19 #[.agg #[.int .i64 2, .int .i64 r, .int .i64 a, .int .i64 b, .int .i64 n]] w fun e w' => e = .returned (.iface 63 (.agg #[.int .i64 r, .int .i64 a, .int .i64 b])) ∧ Below w.heap.size w w' := by
  go_enter Try.func19, Try.ntmps19
  go_wp2
  go_ret
  exact ⟨rfl, (Below.refl _ _).alloc (Nat.le_refl _) _⟩

theorem placeOf_3 (r a b n : Int) (w : World) : Calls Try.prog 19 #[.agg #[.int .i64 3, .int .i64 r, .int .i64 a, .int .i64 b, .int .i64 n]] w fun e w' => e = .returned (.iface 64 (.agg #[.int .i64 r, .int .i64 a, .int .i64 b])) ∧ Below w.heap.size w w' := by
  go_enter Try.func19, Try.ntmps19
  go_wp2
  go_ret
  exact ⟨rfl, (Below.refl _ _).alloc (Nat.le_refl _) _⟩

theorem placeOf_4 (r a b n : Int) (w : World) : Calls Try.prog 19 #[.agg #[.int .i64 4, .int .i64 r, .int .i64 a, .int .i64 b, .int .i64 n]] w fun e w' => e = .returned (.iface 65 (.agg #[.int .i64 r, .int .i64 a, .int .i64 b])) ∧ Below w.heap.size w w' := by
  go_enter Try.func19, Try.ntmps19
  go_wp2
  go_ret
  exact ⟨rfl, (Below.refl _ _).alloc (Nat.le_refl _) _⟩

theorem placeOf_5 (r a b n : Int) (w : World) : Calls Try.prog 19 #[.agg #[.int .i64 5, .int .i64 r, .int .i64 a, .int .i64 b, .int .i64 n]] w fun e w' => e = .returned (.iface 67 (.agg #[.int .i64 a, .int .i64 n])) ∧ Below w.heap.size w w' := by
  go_enter Try.func19, Try.ntmps19
  go_wp2
  go_ret
  exact ⟨rfl, (Below.refl _ _).alloc (Nat.le_refl _) _⟩

theorem placeOf_6 (r a b n : Int) (w : World) : Calls Try.prog 19 #[.agg #[.int .i64 6, .int .i64 r, .int .i64 a, .int .i64 b, .int .i64 n]] w fun e w' => e = .returned (.iface 69 (.agg #[.int .i64 r, .int .i64 b, .int .i64 n])) ∧ Below w.heap.size w w' := by
  go_enter Try.func19, Try.ntmps19
  go_wp2
  go_ret
  exact ⟨rfl, (Below.refl _ _).alloc (Nat.le_refl _) _⟩

theorem placeOf_7 (r a b n : Int) (w : World) : Calls Try.prog 19 #[.agg #[.int .i64 7, .int .i64 r, .int .i64 a, .int .i64 b, .int .i64 n]] w fun e w' => e = .returned (.iface 71 (.agg #[.int .i64 r, .int .i64 a, .int .i64 n])) ∧ Below w.heap.size w w' := by
  go_enter Try.func19, Try.ntmps19
  go_wp2
  go_ret
  exact ⟨rfl, (Below.refl _ _).alloc (Nat.le_refl _) _⟩

theorem placeOf_8 (r a b n : Int) (w : World) : Calls Try.prog 19 #[.agg #[.int .i64 8, .int .i64 r, .int .i64 a, .int .i64 b, .int .i64 n]] w fun e w' => e = .returned (.iface 72 (.agg #[.int .i64 r, .int .i64 b, .int .i64 n])) ∧ Below w.heap.size w w' := by
  go_enter Try.func19, Try.ntmps19
  go_wp2
  go_ret
  exact ⟨rfl, (Below.refl _ _).alloc (Nat.le_refl _) _⟩

theorem placeOf_9 (r a b n : Int) (w : World) : Calls Try.prog 19 #[.agg #[.int .i64 9, .int .i64 r, .int .i64 a, .int .i64 b, .int .i64 n]] w fun e w' => e = .returned (.iface 74 (.agg #[.int .i64 n])) ∧ Below w.heap.size w w' := by
  go_enter Try.func19, Try.ntmps19
  go_wp2
  go_ret
  exact ⟨rfl, (Below.refl _ _).alloc (Nat.le_refl _) _⟩

theorem placeOf_10 (r a b n : Int) (w : World) : Calls Try.prog 19 #[.agg #[.int .i64 10, .int .i64 r, .int .i64 a, .int .i64 b, .int .i64 n]] w fun e w' => e = .returned (.iface 76 (.agg #[.int .i64 a])) ∧ Below w.heap.size w w' := by
  go_enter Try.func19, Try.ntmps19
  go_wp2
  go_ret
  exact ⟨rfl, (Below.refl _ _).alloc (Nat.le_refl _) _⟩

theorem placeOf_11 (r a b n : Int) (w : World) : Calls Try.prog 19 #[.agg #[.int .i64 11, .int .i64 r, .int .i64 a, .int .i64 b, .int .i64 n]] w fun e w' => e = .returned (.iface 77 (.agg #[.int .i64 n])) ∧ Below w.heap.size w w' := by
  go_enter Try.func19, Try.ntmps19
  go_wp2
  go_ret
  exact ⟨rfl, (Below.refl _ _).alloc (Nat.le_refl _) _⟩

theorem placeOf_12 (r a b n : Int) (w : World) : Calls Try.prog 19 #[.agg #[.int .i64 12, .int .i64 r, .int .i64 a, .int .i64 b, .int .i64 n]] w fun e w' => e = .returned (.iface 78 (.agg #[.int .i64 a, .int .i64 n])) ∧ Below w.heap.size w w' := by
  go_enter Try.func19, Try.ntmps19
  go_wp2
  go_ret
  exact ⟨rfl, (Below.refl _ _).alloc (Nat.le_refl _) _⟩

theorem placeOf_13 (r a b n : Int) (w : World) : Calls Try.prog 19 #[.agg #[.int .i64 13, .int .i64 r, .int .i64 a, .int .i64 b, .int .i64 n]] w fun e w' => e = .returned (.iface 80 (.agg #[])) ∧ Below w.heap.size w w' := by
  go_enter Try.func19, Try.ntmps19
  go_wp2
  go_ret
  exact ⟨rfl, (Below.refl _ _).alloc (Nat.le_refl _) _⟩

set_option maxRecDepth 100000 in
theorem placeOf_0 (op r a b n : Int) (w : World) (h1 : (op == 1) = false) (h2 : (op == 2) = false) (h3 : (op == 3) = false) (h4 : (op == 4) = false) (h5 : (op == 5) = false) (h6 : (op == 6) = false) (h7 : (op == 7) = false) (h8 : (op == 8) = false) (h9 : (op == 9) = false) (h10 : (op == 10) = false) (h11 : (op == 11) = false) (h12 : (op == 12) = false) (h13 : (op == 13) = false) : Calls Try.prog 19 #[.agg #[.int .i64 op, .int .i64 r, .int .i64 a, .int .i64 b, .int .i64 n]] w fun e w' => e = .returned .nilIface ∧ Below w.heap.size w w' := by
  go_enter Try.func19, Try.ntmps19
  go_wp2
  go_ret
  exact ⟨rfl, (Below.refl _ _).alloc (Nat.le_refl _) _⟩

theorem ins_1 (r n : Int) (w : World) : Calls Try.prog 52 #[.agg #[.int .i64 r, .int .i64 n]] w fun e w' => e = .returned (.agg #[.int .i64 1, .int .i64 r, .int .i64 0, .int .i64 0, .int .i64 n]) ∧ Below w.heap.size w w' := by
  go_enter Try.func52, Try.ntmps52
  go_wp2
  exact bodyPost_ret (v := .agg #[.int .i64 1, .int .i64 r, .int .i64 0, .int .i64 0, .int .i64 n]) (by simp [results, Try.results52, go_sem]) rfl ⟨rfl, ((Below.refl _ _).alloc (Nat.le_refl _) _).alloc (by simp) _⟩

theorem ins_2 (r a b : Int) (w : World) : Calls Try.prog 53 #[.agg #[.int .i64 r, .int .i64 a, .int .i64 b]] w fun e w' => e = .returned (.agg #[.int .i64 2, .int .i64 r, .int .i64 a, .int .i64 b, .int .i64 0]) ∧ Below w.heap.size w w' := by
  go_enter Try.func53, Try.ntmps53
  go_wp2
  exact bodyPost_ret (v := .agg #[.int .i64 2, .int .i64 r, .int .i64 a, .int .i64 b, .int .i64 0]) (by simp [results, Try.results53, go_sem]) rfl ⟨rfl, ((Below.refl _ _).alloc (Nat.le_refl _) _).alloc (by simp) _⟩

theorem ins_3 (r a b : Int) (w : World) : Calls Try.prog 54 #[.agg #[.int .i64 r, .int .i64 a, .int .i64 b]] w fun e w' => e = .returned (.agg #[.int .i64 3, .int .i64 r, .int .i64 a, .int .i64 b, .int .i64 0]) ∧ Below w.heap.size w w' := by
  go_enter Try.func54, Try.ntmps54
  go_wp2
  exact bodyPost_ret (v := .agg #[.int .i64 3, .int .i64 r, .int .i64 a, .int .i64 b, .int .i64 0]) (by simp [results, Try.results54, go_sem]) rfl ⟨rfl, ((Below.refl _ _).alloc (Nat.le_refl _) _).alloc (by simp) _⟩

theorem ins_4 (r a b : Int) (w : World) : Calls Try.prog 55 #[.agg #[.int .i64 r, .int .i64 a, .int .i64 b]] w fun e w' => e = .returned (.agg #[.int .i64 4, .int .i64 r, .int .i64 a, .int .i64 b, .int .i64 0]) ∧ Below w.heap.size w w' := by
  go_enter Try.func55, Try.ntmps55
  go_wp2
  exact bodyPost_ret (v := .agg #[.int .i64 4, .int .i64 r, .int .i64 a, .int .i64 b, .int .i64 0]) (by simp [results, Try.results55, go_sem]) rfl ⟨rfl, ((Below.refl _ _).alloc (Nat.le_refl _) _).alloc (by simp) _⟩

theorem ins_5 (a n : Int) (w : World) : Calls Try.prog 56 #[.agg #[.int .i64 a, .int .i64 n]] w fun e w' => e = .returned (.agg #[.int .i64 5, .int .i64 0, .int .i64 a, .int .i64 0, .int .i64 n]) ∧ Below w.heap.size w w' := by
  go_enter Try.func56, Try.ntmps56
  go_wp2
  exact bodyPost_ret (v := .agg #[.int .i64 5, .int .i64 0, .int .i64 a, .int .i64 0, .int .i64 n]) (by simp [results, Try.results56, go_sem]) rfl ⟨rfl, ((Below.refl _ _).alloc (Nat.le_refl _) _).alloc (by simp) _⟩

theorem ins_6 (r b n : Int) (w : World) : Calls Try.prog 57 #[.agg #[.int .i64 r, .int .i64 b, .int .i64 n]] w fun e w' => e = .returned (.agg #[.int .i64 6, .int .i64 r, .int .i64 0, .int .i64 b, .int .i64 n]) ∧ Below w.heap.size w w' := by
  go_enter Try.func57, Try.ntmps57
  go_wp2
  exact bodyPost_ret (v := .agg #[.int .i64 6, .int .i64 r, .int .i64 0, .int .i64 b, .int .i64 n]) (by simp [results, Try.results57, go_sem]) rfl ⟨rfl, ((Below.refl _ _).alloc (Nat.le_refl _) _).alloc (by simp) _⟩

theorem ins_7 (r a n : Int) (w : World) : Calls Try.prog 58 #[.agg #[.int .i64 r, .int .i64 a, .int .i64 n]] w fun e w' => e = .returned (.agg #[.int .i64 7, .int .i64 r, .int .i64 a, .int .i64 0, .int .i64 n]) ∧ Below w.heap.size w w' := by
  go_enter Try.func58, Try.ntmps58
  go_wp2
  exact bodyPost_ret (v := .agg #[.int .i64 7, .int .i64 r, .int .i64 a, .int .i64 0, .int .i64 n]) (by simp [results, Try.results58, go_sem]) rfl ⟨rfl, ((Below.refl _ _).alloc (Nat.le_refl _) _).alloc (by simp) _⟩

theorem ins_8 (r b n : Int) (w : World) : Calls Try.prog 59 #[.agg #[.int .i64 r, .int .i64 b, .int .i64 n]] w fun e w' => e = .returned (.agg #[.int .i64 8, .int .i64 r, .int .i64 0, .int .i64 b, .int .i64 n]) ∧ Below w.heap.size w w' := by
  go_enter Try.func59, Try.ntmps59
  go_wp2
  exact bodyPost_ret (v := .agg #[.int .i64 8, .int .i64 r, .int .i64 0, .int .i64 b, .int .i64 n]) (by simp [results, Try.results59, go_sem]) rfl ⟨rfl, ((Below.refl _ _).alloc (Nat.le_refl _) _).alloc (by simp) _⟩

theorem ins_9 (n : Int) (w : World) : Calls Try.prog 60 #[.agg #[.int .i64 n]] w fun e w' => e = .returned (.agg #[.int .i64 9, .int .i64 0, .int .i64 0, .int .i64 0, .int .i64 n]) ∧ Below w.heap.size w w' := by
  go_enter Try.func60, Try.ntmps60
  go_wp2
  exact bodyPost_ret (v := .agg #[.int .i64 9, .int .i64 0, .int .i64 0, .int .i64 0, .int .i64 n]) (by simp [results, Try.results60, go_sem]) rfl ⟨rfl, ((Below.refl _ _).alloc (Nat.le_refl _) _).alloc (by simp) _⟩

theorem ins_10 (a : Int) (w : World) : Calls Try.prog 61 #[.agg #[.int .i64 a]] w fun e w' => e = .returned (.agg #[.int .i64 10, .int .i64 0, .int .i64 a, .int .i64 0, .int .i64 0]) ∧ Below w.heap.size w w' := by
  go_enter Try.func61, Try.ntmps61
  go_wp2
  exact bodyPost_ret (v := .agg #[.int .i64 10, .int .i64 0, .int .i64 a, .int .i64 0, .int .i64 0]) (by simp [results, Try.results61, go_sem]) rfl ⟨rfl, ((Below.refl _ _).alloc (Nat.le_refl _) _).alloc (by simp) _⟩

theorem ins_11 (n : Int) (w : World) : Calls Try.prog 62 #[.agg #[.int .i64 n]] w fun e w' => e = .returned (.agg #[.int .i64 11, .int .i64 0, .int .i64 0, .int .i64 0, .int .i64 n]) ∧ Below w.heap.size w w' := by
  go_enter Try.func62, Try.ntmps62
  go_wp2
  exact bodyPost_ret (v := .agg #[.int .i64 11, .int .i64 0, .int .i64 0, .int .i64 0, .int .i64 n]) (by simp [results, Try.results62, go_sem]) rfl ⟨rfl, ((Below.refl _ _).alloc (Nat.le_refl _) _).alloc (by simp) _⟩

theorem ins_12 (a n : Int) (w : World) : Calls Try.prog 63 #[.agg #[.int .i64 a, .int .i64 n]] w fun e w' => e = .returned (.agg #[.int .i64 12, .int .i64 0, .int .i64 a, .int .i64 0, .int .i64 n]) ∧ Below w.heap.size w w' := by
  go_enter Try.func63, Try.ntmps63
  go_wp2
  exact bodyPost_ret (v := .agg #[.int .i64 12, .int .i64 0, .int .i64 a, .int .i64 0, .int .i64 n]) (by simp [results, Try.results63, go_sem]) rfl ⟨rfl, ((Below.refl _ _).alloc (Nat.le_refl _) _).alloc (by simp) _⟩

theorem ins_13 (w : World) : Calls Try.prog 64 #[.agg #[]] w fun e w' => e = .returned (.agg #[.int .i64 13, .int .i64 0, .int .i64 0, .int .i64 0, .int .i64 0]) ∧ Below w.heap.size w w' := by
  go_enter Try.func64, Try.ntmps64
  go_wp2
  exact bodyPost_ret (v := .agg #[.int .i64 13, .int .i64 0, .int .i64 0, .int .i64 0, .int .i64 0]) (by simp [results, Try.results64, go_sem]) rfl ⟨rfl, ((Below.refl _ _).alloc (Nat.le_refl _) _).alloc (by simp) _⟩

end Go.Proofs.Ytfhhlahfldddfaf
