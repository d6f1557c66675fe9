/- Chapter 1: placeOk of each kind of place, for every argument, in every world. No condition. -/
import Derived.Test.YtkmobmnbdapjkahChecked
import Derived.WalkKit
import Derived.KernelRfl
import Derived.WalkSpells
import Derived.WalkLawsBesides
import Derived.Test.YtkmobmnbdapjkahPlain
import Derived.Test.YtkmobmnbdapjkahLeaves
namespace Go.Proofs.Ytkmobmnbdapjkah
set_option linter.unusedSimpArgs false
set_option linter.unusedVariables false
open Go.RowKit

theorem asy_1 (v : Value) (w : World) : (Instr.typeAssert (.iface 84 v) 56 84 true).run Try.prog w = .ok (.tuple #[v, .bool true]) w := by kernel_rfl
theorem zero_1 (w : World) : (do pure (Value.tuple #[← zeroValue 84, .bool false]) : Sem Value).run Try.prog w = .ok (.tuple #[.agg #[.int .i64 0, .int .i64 0], .bool false]) w := by kernel_rfl
theorem asn_1 (u : TypeId) (v : Value) (w : World) (h : u ≠ 84) : (Instr.typeAssert (.iface u v) 56 84 true).run Try.prog w = .ok (.tuple #[.agg #[.int .i64 0, .int .i64 0], .bool false]) w := by
  have e : (Instr.typeAssert (.iface u v) 56 84 true).run Try.prog w = (if u = 84 then (pure (Value.tuple #[v, .bool true]) : Sem Value) else (do pure (Value.tuple #[← zeroValue 84, .bool false]))).run Try.prog w := by kernel_rfl
  rw [e, if_neg h]
  exact zero_1 w

theorem asy_2 (v : Value) (w : World) : (Instr.typeAssert (.iface 73 v) 56 73 true).run Try.prog w = .ok (.tuple #[v, .bool true]) w := by kernel_rfl
theorem zero_2 (w : World) : (do pure (Value.tuple #[← zeroValue 73, .bool false]) : Sem Value).run Try.prog w = .ok (.tuple #[.agg #[.int .i64 0, .int .i64 0, .int .i64 0], .bool false]) w := by kernel_rfl
theorem asn_2 (u : TypeId) (v : Value) (w : World) (h : u ≠ 73) : (Instr.typeAssert (.iface u v) 56 73 true).run Try.prog w = .ok (.tuple #[.agg #[.int .i64 0, .int .i64 0, .int .i64 0], .bool false]) w := by
  have e : (Instr.typeAssert (.iface u v) 56 73 true).run Try.prog w = (if u = 73 then (pure (Value.tuple #[v, .bool true]) : Sem Value) else (do pure (Value.tuple #[← zeroValue 73, .bool false]))).run Try.prog w := by kernel_rfl
  rw [e, if_neg h]
  exact zero_2 w

theorem asy_3 (v : Value) (w : World) : (Instr.typeAssert (.iface 74 v) 56 74 true).run Try.prog w = .ok (.tuple #[v, .bool true]) w := by kernel_rfl
theorem zero_3 (w : World) : (do pure (Value.tuple #[← zeroValue 74, .bool false]) : Sem Value).run Try.prog w = .ok (.tuple #[.agg #[.int .i64 0, .int .i64 0, .int .i64 0], .bool false]) w := by kernel_rfl
theorem asn_3 (u : TypeId) (v : Value) (w : World) (h : u ≠ 74) : (Instr.typeAssert (.iface u v) 56 74 true).run Try.prog w = .ok (.tuple #[.agg #[.int .i64 0, .int .i64 0, .int .i64 0], .bool false]) w := by
  have e : (Instr.typeAssert (.iface u v) 56 74 true).run Try.prog w = (if u = 74 then (pure (Value.tuple #[v, .bool true]) : Sem Value) else (do pure (Value.tuple #[← zeroValue 74, .bool false]))).run Try.prog w := by kernel_rfl
  rw [e, if_neg h]
  exact zero_3 w

theorem asy_4 (v : Value) (w : World) : (Instr.typeAssert (.iface 75 v) 56 75 true).run Try.prog w = .ok (.tuple #[v, .bool true]) w := by kernel_rfl
theorem zero_4 (w : World) : (do pure (Value.tuple #[← zeroValue 75, .bool false]) : Sem Value).run Try.prog w = .ok (.tuple #[.agg #[.int .i64 0, .int .i64 0, .int .i64 0], .bool false]) w := by kernel_rfl
theorem asn_4 (u : TypeId) (v : Value) (w : World) (h : u ≠ 75) : (Instr.typeAssert (.iface u v) 56 75 true).run Try.prog w = .ok (.tuple #[.agg #[.int .i64 0, .int .i64 0, .int .i64 0], .bool false]) w := by
  have e : (Instr.typeAssert (.iface u v) 56 75 true).run Try.prog w = (if u = 75 then (pure (Value.tuple #[v, .bool true]) : Sem Value) else (do pure (Value.tuple #[← zeroValue 75, .bool false]))).run Try.prog w := by kernel_rfl
  rw [e, if_neg h]
  exact zero_4 w

theorem asy_5 (v : Value) (w : World) : (Instr.typeAssert (.iface 77 v) 56 77 true).run Try.prog w = .ok (.tuple #[v, .bool true]) w := by kernel_rfl
theorem zero_5 (w : World) : (do pure (Value.tuple #[← zeroValue 77, .bool false]) : Sem Value).run Try.prog w = .ok (.tuple #[.agg #[.int .i64 0, .int .i64 0], .bool false]) w := by kernel_rfl
theorem asn_5 (u : TypeId) (v : Value) (w : World) (h : u ≠ 77) : (Instr.typeAssert (.iface u v) 56 77 true).run Try.prog w = .ok (.tuple #[.agg #[.int .i64 0, .int .i64 0], .bool false]) w := by
  have e : (Instr.typeAssert (.iface u v) 56 77 true).run Try.prog w = (if u = 77 then (pure (Value.tuple #[v, .bool true]) : Sem Value) else (do pure (Value.tuple #[← zeroValue 77, .bool false]))).run Try.prog w := by kernel_rfl
  rw [e, if_neg h]
  exact zero_5 w

theorem asy_6 (v : Value) (w : World) : (Instr.typeAssert (.iface 86 v) 56 86 true).run Try.prog w = .ok (.tuple #[v, .bool true]) w := by kernel_rfl
theorem zero_6 (w : World) : (do pure (Value.tuple #[← zeroValue 86, .bool false]) : Sem Value).run Try.prog w = .ok (.tuple #[.agg #[.int .i64 0, .int .i64 0, .int .i64 0], .bool false]) w := by kernel_rfl
theorem asn_6 (u : TypeId) (v : Value) (w : World) (h : u ≠ 86) : (Instr.typeAssert (.iface u v) 56 86 true).run Try.prog w = .ok (.tuple #[.agg #[.int .i64 0, .int .i64 0, .int .i64 0], .bool false]) w := by
  have e : (Instr.typeAssert (.iface u v) 56 86 true).run Try.prog w = (if u = 86 then (pure (Value.tuple #[v, .bool true]) : Sem Value) else (do pure (Value.tuple #[← zeroValue 86, .bool false]))).run Try.prog w := by kernel_rfl
  rw [e, if_neg h]
  exact zero_6 w

theorem asy_7 (v : Value) (w : World) : (Instr.typeAssert (.iface 79 v) 56 79 true).run Try.prog w = .ok (.tuple #[v, .bool true]) w := by kernel_rfl
theorem zero_7 (w : World) : (do pure (Value.tuple #[← zeroValue 79, .bool false]) : Sem Value).run Try.prog w = .ok (.tuple #[.agg #[.int .i64 0, .int .i64 0, .int .i64 0], .bool false]) w := by kernel_rfl
theorem asn_7 (u : TypeId) (v : Value) (w : World) (h : u ≠ 79) : (Instr.typeAssert (.iface u v) 56 79 true).run Try.prog w = .ok (.tuple #[.agg #[.int .i64 0, .int .i64 0, .int .i64 0], .bool false]) w := by
  have e : (Instr.typeAssert (.iface u v) 56 79 true).run Try.prog w = (if u = 79 then (pure (Value.tuple #[v, .bool true]) : Sem Value) else (do pure (Value.tuple #[← zeroValue 79, .bool false]))).run Try.prog w := by kernel_rfl
  rw [e, if_neg h]
  exact zero_7 w

theorem asy_8 (v : Value) (w : World) : (Instr.typeAssert (.iface 87 v) 56 87 true).run Try.prog w = .ok (.tuple #[v, .bool true]) w := by kernel_rfl
theorem zero_8 (w : World) : (do pure (Value.tuple #[← zeroValue 87, .bool false]) : Sem Value).run Try.prog w = .ok (.tuple #[.agg #[.int .i64 0, .int .i64 0, .int .i64 0], .bool false]) w := by kernel_rfl
theorem asn_8 (u : TypeId) (v : Value) (w : World) (h : u ≠ 87) : (Instr.typeAssert (.iface u v) 56 87 true).run Try.prog w = .ok (.tuple #[.agg #[.int .i64 0, .int .i64 0, .int .i64 0], .bool false]) w := by
  have e : (Instr.typeAssert (.iface u v) 56 87 true).run Try.prog w = (if u = 87 then (pure (Value.tuple #[v, .bool true]) : Sem Value) else (do pure (Value.tuple #[← zeroValue 87, .bool false]))).run Try.prog w := by kernel_rfl
  rw [e, if_neg h]
  exact zero_8 w

theorem asy_9 (v : Value) (w : World) : (Instr.typeAssert (.iface 89 v) 56 89 true).run Try.prog w = .ok (.tuple #[v, .bool true]) w := by kernel_rfl
theorem zero_9 (w : World) : (do pure (Value.tuple #[← zeroValue 89, .bool false]) : Sem Value).run Try.prog w = .ok (.tuple #[.agg #[.int .i64 0], .bool false]) w := by kernel_rfl
theorem asn_9 (u : TypeId) (v : Value) (w : World) (h : u ≠ 89) : (Instr.typeAssert (.iface u v) 56 89 true).run Try.prog w = .ok (.tuple #[.agg #[.int .i64 0], .bool false]) w := by
  have e : (Instr.typeAssert (.iface u v) 56 89 true).run Try.prog w = (if u = 89 then (pure (Value.tuple #[v, .bool true]) : Sem Value) else (do pure (Value.tuple #[← zeroValue 89, .bool false]))).run Try.prog w := by kernel_rfl
  rw [e, if_neg h]
  exact zero_9 w

theorem asy_10 (v : Value) (w : World) : (Instr.typeAssert (.iface 81 v) 56 81 true).run Try.prog w = .ok (.tuple #[v, .bool true]) w := by kernel_rfl
theorem zero_10 (w : World) : (do pure (Value.tuple #[← zeroValue 81, .bool false]) : Sem Value).run Try.prog w = .ok (.tuple #[.agg #[.int .i64 0], .bool false]) w := by kernel_rfl
theorem asn_10 (u : TypeId) (v : Value) (w : World) (h : u ≠ 81) : (Instr.typeAssert (.iface u v) 56 81 true).run Try.prog w = .ok (.tuple #[.agg #[.int .i64 0], .bool false]) w := by
  have e : (Instr.typeAssert (.iface u v) 56 81 true).run Try.prog w = (if u = 81 then (pure (Value.tuple #[v, .bool true]) : Sem Value) else (do pure (Value.tuple #[← zeroValue 81, .bool false]))).run Try.prog w := by kernel_rfl
  rw [e, if_neg h]
  exact zero_10 w

theorem asy_11 (v : Value) (w : World) : (Instr.typeAssert (.iface 90 v) 56 90 true).run Try.prog w = .ok (.tuple #[v, .bool true]) w := by kernel_rfl
theorem zero_11 (w : World) : (do pure (Value.tuple #[← zeroValue 90, .bool false]) : Sem Value).run Try.prog w = .ok (.tuple #[.agg #[.int .i64 0], .bool false]) w := by kernel_rfl
theorem asn_11 (u : TypeId) (v : Value) (w : World) (h : u ≠ 90) : (Instr.typeAssert (.iface u v) 56 90 true).run Try.prog w = .ok (.tuple #[.agg #[.int .i64 0], .bool false]) w := by
  have e : (Instr.typeAssert (.iface u v) 56 90 true).run Try.prog w = (if u = 90 then (pure (Value.tuple #[v, .bool true]) : Sem Value) else (do pure (Value.tuple #[← zeroValue 90, .bool false]))).run Try.prog w := by kernel_rfl
  rw [e, if_neg h]
  exact zero_11 w

theorem asy_12 (v : Value) (w : World) : (Instr.typeAssert (.iface 82 v) 56 82 true).run Try.prog w = .ok (.tuple #[v, .bool true]) w := by kernel_rfl
theorem zero_12 (w : World) : (do pure (Value.tuple #[← zeroValue 82, .bool false]) : Sem Value).run Try.prog w = .ok (.tuple #[.agg #[.int .i64 0, .int .i64 0], .bool false]) w := by kernel_rfl
theorem asn_12 (u : TypeId) (v : Value) (w : World) (h : u ≠ 82) : (Instr.typeAssert (.iface u v) 56 82 true).run Try.prog w = .ok (.tuple #[.agg #[.int .i64 0, .int .i64 0], .bool false]) w := by
  have e : (Instr.typeAssert (.iface u v) 56 82 true).run Try.prog w = (if u = 82 then (pure (Value.tuple #[v, .bool true]) : Sem Value) else (do pure (Value.tuple #[← zeroValue 82, .bool false]))).run Try.prog w := by kernel_rfl
  rw [e, if_neg h]
  exact zero_12 w

theorem asy_13 (v : Value) (w : World) : (Instr.typeAssert (.iface 92 v) 56 92 true).run Try.prog w = .ok (.tuple #[v, .bool true]) w := by kernel_rfl
theorem zero_13 (w : World) : (do pure (Value.tuple #[← zeroValue 92, .bool false]) : Sem Value).run Try.prog w = .ok (.tuple #[.agg #[], .bool false]) w := by kernel_rfl
theorem asn_13 (u : TypeId) (v : Value) (w : World) (h : u ≠ 92) : (Instr.typeAssert (.iface u v) 56 92 true).run Try.prog w = .ok (.tuple #[.agg #[], .bool false]) w := by
  have e : (Instr.typeAssert (.iface u v) 56 92 true).run Try.prog w = (if u = 92 then (pure (Value.tuple #[v, .bool true]) : Sem Value) else (do pure (Value.tuple #[← zeroValue 92, .bool false]))).run Try.prog w := by kernel_rfl
  rw [e, if_neg h]
  exact zero_13 w

set_option maxRecDepth 100000 in
theorem placeOk_1 (r n pl ch : Int) (w : World) : Calls Try.prog 50 #[.iface 84 (.agg #[.int .i64 r, .int .i64 n]), .int .i64 pl, .int .i64 ch] w fun e w' => e = .returned (.bool (Plain.regB r && Plain.numB n)) ∧ Below w.heap.size w w' := by
  have y := fun w => asy_1 (.agg #[.int .i64 r, .int .i64 n]) w
  go_enter Try.func50, Try.ntmps50
  go_wp2_with (first | (go_at_call 51; refine (isReg_any _ _).mono ?_; rintro e w' ⟨rfl, rfl⟩) | (go_at_call 52; refine (isNum_any _ _).mono ?_; rintro e w' ⟨rfl, rfl⟩) | (go_at_call 54; refine (isOneOf_any _ _ _).mono ?_; rintro e w' ⟨rfl, rfl⟩) | (go_at_call 53; refine (areRegs_any _ _ _ _).mono ?_; rintro e w' ⟨rfl, rfl⟩) | (go_at_call 55; refine (takesOk_any _ _ _).mono ?_; rintro e w' ⟨rfl, rfl⟩))
  all_goals go_ret
  all_goals exact ⟨by simp [*], by first | exact (Below.refl _ _).alloc (Nat.le_refl _) _ | exact Below.refl _ _⟩

set_option maxRecDepth 100000 in
theorem placeOk_2 (r a b pl ch : Int) (w : World) : Calls Try.prog 50 #[.iface 73 (.agg #[.int .i64 r, .int .i64 a, .int .i64 b]), .int .i64 pl, .int .i64 ch] w fun e w' => e = .returned (.bool (Plain.areB r a b)) ∧ Below w.heap.size w w' := by
  have n1 := fun w => asn_1 73 (.agg #[.int .i64 r, .int .i64 a, .int .i64 b]) w (by decide)
  have y := fun w => asy_2 (.agg #[.int .i64 r, .int .i64 a, .int .i64 b]) w
  go_enter Try.func50, Try.ntmps50
  go_wp2_with (first | (go_at_call 51; refine (isReg_any _ _).mono ?_; rintro e w' ⟨rfl, rfl⟩) | (go_at_call 52; refine (isNum_any _ _).mono ?_; rintro e w' ⟨rfl, rfl⟩) | (go_at_call 54; refine (isOneOf_any _ _ _).mono ?_; rintro e w' ⟨rfl, rfl⟩) | (go_at_call 53; refine (areRegs_any _ _ _ _).mono ?_; rintro e w' ⟨rfl, rfl⟩) | (go_at_call 55; refine (takesOk_any _ _ _).mono ?_; rintro e w' ⟨rfl, rfl⟩))
  all_goals go_ret
  all_goals exact ⟨by simp [*], by first | exact (Below.refl _ _).alloc (Nat.le_refl _) _ | exact Below.refl _ _⟩

set_option maxRecDepth 100000 in
theorem placeOk_3 (r a b pl ch : Int) (w : World) : Calls Try.prog 50 #[.iface 74 (.agg #[.int .i64 r, .int .i64 a, .int .i64 b]), .int .i64 pl, .int .i64 ch] w fun e w' => e = .returned (.bool (Plain.areB r a b)) ∧ Below w.heap.size w w' := by
  have n1 := fun w => asn_1 74 (.agg #[.int .i64 r, .int .i64 a, .int .i64 b]) w (by decide)
  have n2 := fun w => asn_2 74 (.agg #[.int .i64 r, .int .i64 a, .int .i64 b]) w (by decide)
  have y := fun w => asy_3 (.agg #[.int .i64 r, .int .i64 a, .int .i64 b]) w
  go_enter Try.func50, Try.ntmps50
  go_wp2_with (first | (go_at_call 51; refine (isReg_any _ _).mono ?_; rintro e w' ⟨rfl, rfl⟩) | (go_at_call 52; refine (isNum_any _ _).mono ?_; rintro e w' ⟨rfl, rfl⟩) | (go_at_call 54; refine (isOneOf_any _ _ _).mono ?_; rintro e w' ⟨rfl, rfl⟩) | (go_at_call 53; refine (areRegs_any _ _ _ _).mono ?_; rintro e w' ⟨rfl, rfl⟩) | (go_at_call 55; refine (takesOk_any _ _ _).mono ?_; rintro e w' ⟨rfl, rfl⟩))
  all_goals go_ret
  all_goals exact ⟨by simp [*], by first | exact (Below.refl _ _).alloc (Nat.le_refl _) _ | exact Below.refl _ _⟩

set_option maxRecDepth 100000 in
theorem placeOk_4 (r a b pl ch : Int) (w : World) : Calls Try.prog 50 #[.iface 75 (.agg #[.int .i64 r, .int .i64 a, .int .i64 b]), .int .i64 pl, .int .i64 ch] w fun e w' => e = .returned (.bool (Plain.areB r a b)) ∧ Below w.heap.size w w' := by
  have n1 := fun w => asn_1 75 (.agg #[.int .i64 r, .int .i64 a, .int .i64 b]) w (by decide)
  have n2 := fun w => asn_2 75 (.agg #[.int .i64 r, .int .i64 a, .int .i64 b]) w (by decide)
  have n3 := fun w => asn_3 75 (.agg #[.int .i64 r, .int .i64 a, .int .i64 b]) w (by decide)
  have y := fun w => asy_4 (.agg #[.int .i64 r, .int .i64 a, .int .i64 b]) w
  go_enter Try.func50, Try.ntmps50
  go_wp2_with (first | (go_at_call 51; refine (isReg_any _ _).mono ?_; rintro e w' ⟨rfl, rfl⟩) | (go_at_call 52; refine (isNum_any _ _).mono ?_; rintro e w' ⟨rfl, rfl⟩) | (go_at_call 54; refine (isOneOf_any _ _ _).mono ?_; rintro e w' ⟨rfl, rfl⟩) | (go_at_call 53; refine (areRegs_any _ _ _ _).mono ?_; rintro e w' ⟨rfl, rfl⟩) | (go_at_call 55; refine (takesOk_any _ _ _).mono ?_; rintro e w' ⟨rfl, rfl⟩))
  all_goals go_ret
  all_goals exact ⟨by simp [*], by first | exact (Below.refl _ _).alloc (Nat.le_refl _) _ | exact Below.refl _ _⟩

set_option maxRecDepth 100000 in
theorem placeOk_5 (a n pl ch : Int) (w : World) : Calls Try.prog 50 #[.iface 77 (.agg #[.int .i64 a, .int .i64 n]), .int .i64 pl, .int .i64 ch] w fun e w' => e = .returned (.bool (Plain.regB a && Plain.oneB n ch)) ∧ Below w.heap.size w w' := by
  have n1 := fun w => asn_1 77 (.agg #[.int .i64 a, .int .i64 n]) w (by decide)
  have n2 := fun w => asn_2 77 (.agg #[.int .i64 a, .int .i64 n]) w (by decide)
  have n3 := fun w => asn_3 77 (.agg #[.int .i64 a, .int .i64 n]) w (by decide)
  have n4 := fun w => asn_4 77 (.agg #[.int .i64 a, .int .i64 n]) w (by decide)
  have y := fun w => asy_5 (.agg #[.int .i64 a, .int .i64 n]) w
  go_enter Try.func50, Try.ntmps50
  go_wp2_with (first | (go_at_call 51; refine (isReg_any _ _).mono ?_; rintro e w' ⟨rfl, rfl⟩) | (go_at_call 52; refine (isNum_any _ _).mono ?_; rintro e w' ⟨rfl, rfl⟩) | (go_at_call 54; refine (isOneOf_any _ _ _).mono ?_; rintro e w' ⟨rfl, rfl⟩) | (go_at_call 53; refine (areRegs_any _ _ _ _).mono ?_; rintro e w' ⟨rfl, rfl⟩) | (go_at_call 55; refine (takesOk_any _ _ _).mono ?_; rintro e w' ⟨rfl, rfl⟩))
  all_goals go_ret
  all_goals exact ⟨by simp [*], by first | exact (Below.refl _ _).alloc (Nat.le_refl _) _ | exact Below.refl _ _⟩

set_option maxRecDepth 100000 in
theorem placeOk_6 (r b n pl ch : Int) (w : World) : Calls Try.prog 50 #[.iface 86 (.agg #[.int .i64 r, .int .i64 b, .int .i64 n]), .int .i64 pl, .int .i64 ch] w fun e w' => e = .returned (.bool (Plain.takesB r b && Plain.oneB n ch)) ∧ Below w.heap.size w w' := by
  have n1 := fun w => asn_1 86 (.agg #[.int .i64 r, .int .i64 b, .int .i64 n]) w (by decide)
  have n2 := fun w => asn_2 86 (.agg #[.int .i64 r, .int .i64 b, .int .i64 n]) w (by decide)
  have n3 := fun w => asn_3 86 (.agg #[.int .i64 r, .int .i64 b, .int .i64 n]) w (by decide)
  have n4 := fun w => asn_4 86 (.agg #[.int .i64 r, .int .i64 b, .int .i64 n]) w (by decide)
  have n5 := fun w => asn_5 86 (.agg #[.int .i64 r, .int .i64 b, .int .i64 n]) w (by decide)
  have y := fun w => asy_6 (.agg #[.int .i64 r, .int .i64 b, .int .i64 n]) w
  go_enter Try.func50, Try.ntmps50
  go_wp2_with (first | (go_at_call 51; refine (isReg_any _ _).mono ?_; rintro e w' ⟨rfl, rfl⟩) | (go_at_call 52; refine (isNum_any _ _).mono ?_; rintro e w' ⟨rfl, rfl⟩) | (go_at_call 54; refine (isOneOf_any _ _ _).mono ?_; rintro e w' ⟨rfl, rfl⟩) | (go_at_call 53; refine (areRegs_any _ _ _ _).mono ?_; rintro e w' ⟨rfl, rfl⟩) | (go_at_call 55; refine (takesOk_any _ _ _).mono ?_; rintro e w' ⟨rfl, rfl⟩))
  all_goals go_ret
  all_goals exact ⟨by simp [*], by first | exact (Below.refl _ _).alloc (Nat.le_refl _) _ | exact Below.refl _ _⟩

set_option maxRecDepth 100000 in
theorem placeOk_7 (r a n pl ch : Int) (w : World) : Calls Try.prog 50 #[.iface 79 (.agg #[.int .i64 r, .int .i64 a, .int .i64 n]), .int .i64 pl, .int .i64 ch] w fun e w' => e = .returned (.bool (Plain.regB r && Plain.regB a && Plain.oneB n ch)) ∧ Below w.heap.size w w' := by
  have n1 := fun w => asn_1 79 (.agg #[.int .i64 r, .int .i64 a, .int .i64 n]) w (by decide)
  have n2 := fun w => asn_2 79 (.agg #[.int .i64 r, .int .i64 a, .int .i64 n]) w (by decide)
  have n3 := fun w => asn_3 79 (.agg #[.int .i64 r, .int .i64 a, .int .i64 n]) w (by decide)
  have n4 := fun w => asn_4 79 (.agg #[.int .i64 r, .int .i64 a, .int .i64 n]) w (by decide)
  have n5 := fun w => asn_5 79 (.agg #[.int .i64 r, .int .i64 a, .int .i64 n]) w (by decide)
  have n6 := fun w => asn_6 79 (.agg #[.int .i64 r, .int .i64 a, .int .i64 n]) w (by decide)
  have y := fun w => asy_7 (.agg #[.int .i64 r, .int .i64 a, .int .i64 n]) w
  go_enter Try.func50, Try.ntmps50
  go_wp2_with (first | (go_at_call 51; refine (isReg_any _ _).mono ?_; rintro e w' ⟨rfl, rfl⟩) | (go_at_call 52; refine (isNum_any _ _).mono ?_; rintro e w' ⟨rfl, rfl⟩) | (go_at_call 54; refine (isOneOf_any _ _ _).mono ?_; rintro e w' ⟨rfl, rfl⟩) | (go_at_call 53; refine (areRegs_any _ _ _ _).mono ?_; rintro e w' ⟨rfl, rfl⟩) | (go_at_call 55; refine (takesOk_any _ _ _).mono ?_; rintro e w' ⟨rfl, rfl⟩))
  all_goals go_ret
  all_goals exact ⟨by simp [*], by first | exact (Below.refl _ _).alloc (Nat.le_refl _) _ | exact Below.refl _ _⟩

set_option maxRecDepth 100000 in
theorem placeOk_8 (r b n pl ch : Int) (w : World) : Calls Try.prog 50 #[.iface 87 (.agg #[.int .i64 r, .int .i64 b, .int .i64 n]), .int .i64 pl, .int .i64 ch] w fun e w' => e = .returned (.bool (Plain.takesB r b && Plain.oneB n ch)) ∧ Below w.heap.size w w' := by
  have n1 := fun w => asn_1 87 (.agg #[.int .i64 r, .int .i64 b, .int .i64 n]) w (by decide)
  have n2 := fun w => asn_2 87 (.agg #[.int .i64 r, .int .i64 b, .int .i64 n]) w (by decide)
  have n3 := fun w => asn_3 87 (.agg #[.int .i64 r, .int .i64 b, .int .i64 n]) w (by decide)
  have n4 := fun w => asn_4 87 (.agg #[.int .i64 r, .int .i64 b, .int .i64 n]) w (by decide)
  have n5 := fun w => asn_5 87 (.agg #[.int .i64 r, .int .i64 b, .int .i64 n]) w (by decide)
  have n6 := fun w => asn_6 87 (.agg #[.int .i64 r, .int .i64 b, .int .i64 n]) w (by decide)
  have n7 := fun w => asn_7 87 (.agg #[.int .i64 r, .int .i64 b, .int .i64 n]) w (by decide)
  have y := fun w => asy_8 (.agg #[.int .i64 r, .int .i64 b, .int .i64 n]) w
  go_enter Try.func50, Try.ntmps50
  go_wp2_with (first | (go_at_call 51; refine (isReg_any _ _).mono ?_; rintro e w' ⟨rfl, rfl⟩) | (go_at_call 52; refine (isNum_any _ _).mono ?_; rintro e w' ⟨rfl, rfl⟩) | (go_at_call 54; refine (isOneOf_any _ _ _).mono ?_; rintro e w' ⟨rfl, rfl⟩) | (go_at_call 53; refine (areRegs_any _ _ _ _).mono ?_; rintro e w' ⟨rfl, rfl⟩) | (go_at_call 55; refine (takesOk_any _ _ _).mono ?_; rintro e w' ⟨rfl, rfl⟩))
  all_goals go_ret
  all_goals exact ⟨by simp [*], by first | exact (Below.refl _ _).alloc (Nat.le_refl _) _ | exact Below.refl _ _⟩

set_option maxRecDepth 100000 in
theorem placeOk_9 (n pl ch : Int) (w : World) : Calls Try.prog 50 #[.iface 89 (.agg #[.int .i64 n]), .int .i64 pl, .int .i64 ch] w fun e w' => e = .returned (.bool (Plain.oneB n ch)) ∧ Below w.heap.size w w' := by
  have n1 := fun w => asn_1 89 (.agg #[.int .i64 n]) w (by decide)
  have n2 := fun w => asn_2 89 (.agg #[.int .i64 n]) w (by decide)
  have n3 := fun w => asn_3 89 (.agg #[.int .i64 n]) w (by decide)
  have n4 := fun w => asn_4 89 (.agg #[.int .i64 n]) w (by decide)
  have n5 := fun w => asn_5 89 (.agg #[.int .i64 n]) w (by decide)
  have n6 := fun w => asn_6 89 (.agg #[.int .i64 n]) w (by decide)
  have n7 := fun w => asn_7 89 (.agg #[.int .i64 n]) w (by decide)
  have n8 := fun w => asn_8 89 (.agg #[.int .i64 n]) w (by decide)
  have y := fun w => asy_9 (.agg #[.int .i64 n]) w
  go_enter Try.func50, Try.ntmps50
  go_wp2_with (first | (go_at_call 51; refine (isReg_any _ _).mono ?_; rintro e w' ⟨rfl, rfl⟩) | (go_at_call 52; refine (isNum_any _ _).mono ?_; rintro e w' ⟨rfl, rfl⟩) | (go_at_call 54; refine (isOneOf_any _ _ _).mono ?_; rintro e w' ⟨rfl, rfl⟩) | (go_at_call 53; refine (areRegs_any _ _ _ _).mono ?_; rintro e w' ⟨rfl, rfl⟩) | (go_at_call 55; refine (takesOk_any _ _ _).mono ?_; rintro e w' ⟨rfl, rfl⟩))
  all_goals go_ret
  all_goals exact ⟨by simp [*], by first | exact (Below.refl _ _).alloc (Nat.le_refl _) _ | exact Below.refl _ _⟩

set_option maxRecDepth 100000 in
theorem placeOk_10 (a pl ch : Int) (w : World) : Calls Try.prog 50 #[.iface 81 (.agg #[.int .i64 a]), .int .i64 pl, .int .i64 ch] w fun e w' => e = .returned (.bool (Plain.regB a)) ∧ Below w.heap.size w w' := by
  have n1 := fun w => asn_1 81 (.agg #[.int .i64 a]) w (by decide)
  have n2 := fun w => asn_2 81 (.agg #[.int .i64 a]) w (by decide)
  have n3 := fun w => asn_3 81 (.agg #[.int .i64 a]) w (by decide)
  have n4 := fun w => asn_4 81 (.agg #[.int .i64 a]) w (by decide)
  have n5 := fun w => asn_5 81 (.agg #[.int .i64 a]) w (by decide)
  have n6 := fun w => asn_6 81 (.agg #[.int .i64 a]) w (by decide)
  have n7 := fun w => asn_7 81 (.agg #[.int .i64 a]) w (by decide)
  have n8 := fun w => asn_8 81 (.agg #[.int .i64 a]) w (by decide)
  have n9 := fun w => asn_9 81 (.agg #[.int .i64 a]) w (by decide)
  have y := fun w => asy_10 (.agg #[.int .i64 a]) w
  go_enter Try.func50, Try.ntmps50
  go_wp2_with (first | (go_at_call 51; refine (isReg_any _ _).mono ?_; rintro e w' ⟨rfl, rfl⟩) | (go_at_call 52; refine (isNum_any _ _).mono ?_; rintro e w' ⟨rfl, rfl⟩) | (go_at_call 54; refine (isOneOf_any _ _ _).mono ?_; rintro e w' ⟨rfl, rfl⟩) | (go_at_call 53; refine (areRegs_any _ _ _ _).mono ?_; rintro e w' ⟨rfl, rfl⟩) | (go_at_call 55; refine (takesOk_any _ _ _).mono ?_; rintro e w' ⟨rfl, rfl⟩))
  all_goals go_ret
  all_goals exact ⟨by simp [*], by first | exact (Below.refl _ _).alloc (Nat.le_refl _) _ | exact Below.refl _ _⟩

set_option maxRecDepth 100000 in
theorem placeOk_11 (n pl ch : Int) (w : World) : Calls Try.prog 50 #[.iface 90 (.agg #[.int .i64 n]), .int .i64 pl, .int .i64 ch] w fun e w' => e = .returned (.bool (Plain.oneB n pl)) ∧ Below w.heap.size w w' := by
  have n1 := fun w => asn_1 90 (.agg #[.int .i64 n]) w (by decide)
  have n2 := fun w => asn_2 90 (.agg #[.int .i64 n]) w (by decide)
  have n3 := fun w => asn_3 90 (.agg #[.int .i64 n]) w (by decide)
  have n4 := fun w => asn_4 90 (.agg #[.int .i64 n]) w (by decide)
  have n5 := fun w => asn_5 90 (.agg #[.int .i64 n]) w (by decide)
  have n6 := fun w => asn_6 90 (.agg #[.int .i64 n]) w (by decide)
  have n7 := fun w => asn_7 90 (.agg #[.int .i64 n]) w (by decide)
  have n8 := fun w => asn_8 90 (.agg #[.int .i64 n]) w (by decide)
  have n9 := fun w => asn_9 90 (.agg #[.int .i64 n]) w (by decide)
  have n10 := fun w => asn_10 90 (.agg #[.int .i64 n]) w (by decide)
  have y := fun w => asy_11 (.agg #[.int .i64 n]) w
  go_enter Try.func50, Try.ntmps50
  go_wp2_with (first | (go_at_call 51; refine (isReg_any _ _).mono ?_; rintro e w' ⟨rfl, rfl⟩) | (go_at_call 52; refine (isNum_any _ _).mono ?_; rintro e w' ⟨rfl, rfl⟩) | (go_at_call 54; refine (isOneOf_any _ _ _).mono ?_; rintro e w' ⟨rfl, rfl⟩) | (go_at_call 53; refine (areRegs_any _ _ _ _).mono ?_; rintro e w' ⟨rfl, rfl⟩) | (go_at_call 55; refine (takesOk_any _ _ _).mono ?_; rintro e w' ⟨rfl, rfl⟩))
  all_goals go_ret
  all_goals exact ⟨by simp [*], by first | exact (Below.refl _ _).alloc (Nat.le_refl _) _ | exact Below.refl _ _⟩

set_option maxRecDepth 100000 in
theorem placeOk_12 (a n pl ch : Int) (w : World) : Calls Try.prog 50 #[.iface 82 (.agg #[.int .i64 a, .int .i64 n]), .int .i64 pl, .int .i64 ch] w fun e w' => e = .returned (.bool (Plain.regB a && Plain.oneB n pl)) ∧ Below w.heap.size w w' := by
  have n1 := fun w => asn_1 82 (.agg #[.int .i64 a, .int .i64 n]) w (by decide)
  have n2 := fun w => asn_2 82 (.agg #[.int .i64 a, .int .i64 n]) w (by decide)
  have n3 := fun w => asn_3 82 (.agg #[.int .i64 a, .int .i64 n]) w (by decide)
  have n4 := fun w => asn_4 82 (.agg #[.int .i64 a, .int .i64 n]) w (by decide)
  have n5 := fun w => asn_5 82 (.agg #[.int .i64 a, .int .i64 n]) w (by decide)
  have n6 := fun w => asn_6 82 (.agg #[.int .i64 a, .int .i64 n]) w (by decide)
  have n7 := fun w => asn_7 82 (.agg #[.int .i64 a, .int .i64 n]) w (by decide)
  have n8 := fun w => asn_8 82 (.agg #[.int .i64 a, .int .i64 n]) w (by decide)
  have n9 := fun w => asn_9 82 (.agg #[.int .i64 a, .int .i64 n]) w (by decide)
  have n10 := fun w => asn_10 82 (.agg #[.int .i64 a, .int .i64 n]) w (by decide)
  have n11 := fun w => asn_11 82 (.agg #[.int .i64 a, .int .i64 n]) w (by decide)
  have y := fun w => asy_12 (.agg #[.int .i64 a, .int .i64 n]) w
  go_enter Try.func50, Try.ntmps50
  go_wp2_with (first | (go_at_call 51; refine (isReg_any _ _).mono ?_; rintro e w' ⟨rfl, rfl⟩) | (go_at_call 52; refine (isNum_any _ _).mono ?_; rintro e w' ⟨rfl, rfl⟩) | (go_at_call 54; refine (isOneOf_any _ _ _).mono ?_; rintro e w' ⟨rfl, rfl⟩) | (go_at_call 53; refine (areRegs_any _ _ _ _).mono ?_; rintro e w' ⟨rfl, rfl⟩) | (go_at_call 55; refine (takesOk_any _ _ _).mono ?_; rintro e w' ⟨rfl, rfl⟩))
  all_goals go_ret
  all_goals exact ⟨by simp [*], by first | exact (Below.refl _ _).alloc (Nat.le_refl _) _ | exact Below.refl _ _⟩

set_option maxRecDepth 100000 in
theorem placeOk_13 ( pl ch : Int) (w : World) : Calls Try.prog 50 #[.iface 92 (.agg #[]), .int .i64 pl, .int .i64 ch] w fun e w' => e = .returned (.bool (true)) ∧ Below w.heap.size w w' := by
  have n1 := fun w => asn_1 92 (.agg #[]) w (by decide)
  have n2 := fun w => asn_2 92 (.agg #[]) w (by decide)
  have n3 := fun w => asn_3 92 (.agg #[]) w (by decide)
  have n4 := fun w => asn_4 92 (.agg #[]) w (by decide)
  have n5 := fun w => asn_5 92 (.agg #[]) w (by decide)
  have n6 := fun w => asn_6 92 (.agg #[]) w (by decide)
  have n7 := fun w => asn_7 92 (.agg #[]) w (by decide)
  have n8 := fun w => asn_8 92 (.agg #[]) w (by decide)
  have n9 := fun w => asn_9 92 (.agg #[]) w (by decide)
  have n10 := fun w => asn_10 92 (.agg #[]) w (by decide)
  have n11 := fun w => asn_11 92 (.agg #[]) w (by decide)
  have n12 := fun w => asn_12 92 (.agg #[]) w (by decide)
  have y := fun w => asy_13 (.agg #[]) w
  go_enter Try.func50, Try.ntmps50
  go_wp2_with (first | (go_at_call 51; refine (isReg_any _ _).mono ?_; rintro e w' ⟨rfl, rfl⟩) | (go_at_call 52; refine (isNum_any _ _).mono ?_; rintro e w' ⟨rfl, rfl⟩) | (go_at_call 54; refine (isOneOf_any _ _ _).mono ?_; rintro e w' ⟨rfl, rfl⟩) | (go_at_call 53; refine (areRegs_any _ _ _ _).mono ?_; rintro e w' ⟨rfl, rfl⟩) | (go_at_call 55; refine (takesOk_any _ _ _).mono ?_; rintro e w' ⟨rfl, rfl⟩))
  all_goals go_ret
  all_goals exact ⟨by simp [*], by first | exact (Below.refl _ _).alloc (Nat.le_refl _) _ | exact Below.refl _ _⟩

end Go.Proofs.Ytkmobmnbdapjkah
