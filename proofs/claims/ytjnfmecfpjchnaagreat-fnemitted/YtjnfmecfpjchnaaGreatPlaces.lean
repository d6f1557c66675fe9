/- Chapter 1: placeOk of each kind of place, for every argument, in every world. No condition. -/
import Derived.Test.YtjnfmecfpjchnaaGreatChecked
import Derived.WalkKit
import Derived.KernelRfl
import Derived.WalkSpells
import Derived.WalkLawsBesides
import Derived.Test.YtjnfmecfpjchnaaGreatPlain
import Derived.Test.YtjnfmecfpjchnaaGreatLeaves
namespace Go.Proofs.YtjnfmecfpjchnaaGreat
set_option linter.unusedSimpArgs false
set_option linter.unusedVariables false
set_option maxRecDepth 100000
open Go.RowKit

theorem asy_1 (v : Value) (w : World) : (Instr.typeAssert (.iface 81 v) 69 81 true).run Tryz.prog w = .ok (.tuple #[v, .bool true]) w := by kernel_rfl
theorem zero_1 (w : World) : (do pure (Value.tuple #[← zeroValue 81, .bool false]) : Sem Value).run Tryz.prog w = .ok (.tuple #[.agg #[.int .i64 0, .int .i64 0], .bool false]) w := by kernel_rfl
theorem asn_1 (u : TypeId) (v : Value) (w : World) (h : u ≠ 81) : (Instr.typeAssert (.iface u v) 69 81 true).run Tryz.prog w = .ok (.tuple #[.agg #[.int .i64 0, .int .i64 0], .bool false]) w := by
  have e : (Instr.typeAssert (.iface u v) 69 81 true).run Tryz.prog w = (if u = 81 then (pure (Value.tuple #[v, .bool true]) : Sem Value) else (do pure (Value.tuple #[← zeroValue 81, .bool false]))).run Tryz.prog w := by kernel_rfl
  rw [e, if_neg h]
  exact zero_1 w

theorem asy_2 (v : Value) (w : World) : (Instr.typeAssert (.iface 83 v) 69 83 true).run Tryz.prog w = .ok (.tuple #[v, .bool true]) w := by kernel_rfl
theorem zero_2 (w : World) : (do pure (Value.tuple #[← zeroValue 83, .bool false]) : Sem Value).run Tryz.prog w = .ok (.tuple #[.agg #[.int .i64 0, .int .i64 0, .int .i64 0], .bool false]) w := by kernel_rfl
theorem asn_2 (u : TypeId) (v : Value) (w : World) (h : u ≠ 83) : (Instr.typeAssert (.iface u v) 69 83 true).run Tryz.prog w = .ok (.tuple #[.agg #[.int .i64 0, .int .i64 0, .int .i64 0], .bool false]) w := by
  have e : (Instr.typeAssert (.iface u v) 69 83 true).run Tryz.prog w = (if u = 83 then (pure (Value.tuple #[v, .bool true]) : Sem Value) else (do pure (Value.tuple #[← zeroValue 83, .bool false]))).run Tryz.prog w := by kernel_rfl
  rw [e, if_neg h]
  exact zero_2 w

theorem asy_3 (v : Value) (w : World) : (Instr.typeAssert (.iface 84 v) 69 84 true).run Tryz.prog w = .ok (.tuple #[v, .bool true]) w := by kernel_rfl
theorem zero_3 (w : World) : (do pure (Value.tuple #[← zeroValue 84, .bool false]) : Sem Value).run Tryz.prog w = .ok (.tuple #[.agg #[.int .i64 0, .int .i64 0, .int .i64 0], .bool false]) w := by kernel_rfl
theorem asn_3 (u : TypeId) (v : Value) (w : World) (h : u ≠ 84) : (Instr.typeAssert (.iface u v) 69 84 true).run Tryz.prog w = .ok (.tuple #[.agg #[.int .i64 0, .int .i64 0, .int .i64 0], .bool false]) w := by
  have e : (Instr.typeAssert (.iface u v) 69 84 true).run Tryz.prog w = (if u = 84 then (pure (Value.tuple #[v, .bool true]) : Sem Value) else (do pure (Value.tuple #[← zeroValue 84, .bool false]))).run Tryz.prog w := by kernel_rfl
  rw [e, if_neg h]
  exact zero_3 w

theorem asy_4 (v : Value) (w : World) : (Instr.typeAssert (.iface 85 v) 69 85 true).run Tryz.prog w = .ok (.tuple #[v, .bool true]) w := by kernel_rfl
theorem zero_4 (w : World) : (do pure (Value.tuple #[← zeroValue 85, .bool false]) : Sem Value).run Tryz.prog w = .ok (.tuple #[.agg #[.int .i64 0, .int .i64 0, .int .i64 0], .bool false]) w := by kernel_rfl
theorem asn_4 (u : TypeId) (v : Value) (w : World) (h : u ≠ 85) : (Instr.typeAssert (.iface u v) 69 85 true).run Tryz.prog w = .ok (.tuple #[.agg #[.int .i64 0, .int .i64 0, .int .i64 0], .bool false]) w := by
  have e : (Instr.typeAssert (.iface u v) 69 85 true).run Tryz.prog w = (if u = 85 then (pure (Value.tuple #[v, .bool true]) : Sem Value) else (do pure (Value.tuple #[← zeroValue 85, .bool false]))).run Tryz.prog w := by kernel_rfl
  rw [e, if_neg h]
  exact zero_4 w

theorem asy_5 (v : Value) (w : World) : (Instr.typeAssert (.iface 87 v) 69 87 true).run Tryz.prog w = .ok (.tuple #[v, .bool true]) w := by kernel_rfl
theorem zero_5 (w : World) : (do pure (Value.tuple #[← zeroValue 87, .bool false]) : Sem Value).run Tryz.prog w = .ok (.tuple #[.agg #[.int .i64 0, .int .i64 0], .bool false]) w := by kernel_rfl
theorem asn_5 (u : TypeId) (v : Value) (w : World) (h : u ≠ 87) : (Instr.typeAssert (.iface u v) 69 87 true).run Tryz.prog w = .ok (.tuple #[.agg #[.int .i64 0, .int .i64 0], .bool false]) w := by
  have e : (Instr.typeAssert (.iface u v) 69 87 true).run Tryz.prog w = (if u = 87 then (pure (Value.tuple #[v, .bool true]) : Sem Value) else (do pure (Value.tuple #[← zeroValue 87, .bool false]))).run Tryz.prog w := by kernel_rfl
  rw [e, if_neg h]
  exact zero_5 w

theorem asy_6 (v : Value) (w : World) : (Instr.typeAssert (.iface 89 v) 69 89 true).run Tryz.prog w = .ok (.tuple #[v, .bool true]) w := by kernel_rfl
theorem zero_6 (w : World) : (do pure (Value.tuple #[← zeroValue 89, .bool false]) : Sem Value).run Tryz.prog w = .ok (.tuple #[.agg #[.int .i64 0, .int .i64 0, .int .i64 0], .bool false]) w := by kernel_rfl
theorem asn_6 (u : TypeId) (v : Value) (w : World) (h : u ≠ 89) : (Instr.typeAssert (.iface u v) 69 89 true).run Tryz.prog w = .ok (.tuple #[.agg #[.int .i64 0, .int .i64 0, .int .i64 0], .bool false]) w := by
  have e : (Instr.typeAssert (.iface u v) 69 89 true).run Tryz.prog w = (if u = 89 then (pure (Value.tuple #[v, .bool true]) : Sem Value) else (do pure (Value.tuple #[← zeroValue 89, .bool false]))).run Tryz.prog w := by kernel_rfl
  rw [e, if_neg h]
  exact zero_6 w

theorem asy_7 (v : Value) (w : World) : (Instr.typeAssert (.iface 91 v) 69 91 true).run Tryz.prog w = .ok (.tuple #[v, .bool true]) w := by kernel_rfl
theorem zero_7 (w : World) : (do pure (Value.tuple #[← zeroValue 91, .bool false]) : Sem Value).run Tryz.prog w = .ok (.tuple #[.agg #[.int .i64 0, .int .i64 0, .int .i64 0], .bool false]) w := by kernel_rfl
theorem asn_7 (u : TypeId) (v : Value) (w : World) (h : u ≠ 91) : (Instr.typeAssert (.iface u v) 69 91 true).run Tryz.prog w = .ok (.tuple #[.agg #[.int .i64 0, .int .i64 0, .int .i64 0], .bool false]) w := by
  have e : (Instr.typeAssert (.iface u v) 69 91 true).run Tryz.prog w = (if u = 91 then (pure (Value.tuple #[v, .bool true]) : Sem Value) else (do pure (Value.tuple #[← zeroValue 91, .bool false]))).run Tryz.prog w := by kernel_rfl
  rw [e, if_neg h]
  exact zero_7 w

theorem asy_8 (v : Value) (w : World) : (Instr.typeAssert (.iface 92 v) 69 92 true).run Tryz.prog w = .ok (.tuple #[v, .bool true]) w := by kernel_rfl
theorem zero_8 (w : World) : (do pure (Value.tuple #[← zeroValue 92, .bool false]) : Sem Value).run Tryz.prog w = .ok (.tuple #[.agg #[.int .i64 0, .int .i64 0, .int .i64 0], .bool false]) w := by kernel_rfl
theorem asn_8 (u : TypeId) (v : Value) (w : World) (h : u ≠ 92) : (Instr.typeAssert (.iface u v) 69 92 true).run Tryz.prog w = .ok (.tuple #[.agg #[.int .i64 0, .int .i64 0, .int .i64 0], .bool false]) w := by
  have e : (Instr.typeAssert (.iface u v) 69 92 true).run Tryz.prog w = (if u = 92 then (pure (Value.tuple #[v, .bool true]) : Sem Value) else (do pure (Value.tuple #[← zeroValue 92, .bool false]))).run Tryz.prog w := by kernel_rfl
  rw [e, if_neg h]
  exact zero_8 w

theorem asy_9 (v : Value) (w : World) : (Instr.typeAssert (.iface 94 v) 69 94 true).run Tryz.prog w = .ok (.tuple #[v, .bool true]) w := by kernel_rfl
theorem zero_9 (w : World) : (do pure (Value.tuple #[← zeroValue 94, .bool false]) : Sem Value).run Tryz.prog w = .ok (.tuple #[.agg #[.int .i64 0], .bool false]) w := by kernel_rfl
theorem asn_9 (u : TypeId) (v : Value) (w : World) (h : u ≠ 94) : (Instr.typeAssert (.iface u v) 69 94 true).run Tryz.prog w = .ok (.tuple #[.agg #[.int .i64 0], .bool false]) w := by
  have e : (Instr.typeAssert (.iface u v) 69 94 true).run Tryz.prog w = (if u = 94 then (pure (Value.tuple #[v, .bool true]) : Sem Value) else (do pure (Value.tuple #[← zeroValue 94, .bool false]))).run Tryz.prog w := by kernel_rfl
  rw [e, if_neg h]
  exact zero_9 w

theorem asy_10 (v : Value) (w : World) : (Instr.typeAssert (.iface 96 v) 69 96 true).run Tryz.prog w = .ok (.tuple #[v, .bool true]) w := by kernel_rfl
theorem zero_10 (w : World) : (do pure (Value.tuple #[← zeroValue 96, .bool false]) : Sem Value).run Tryz.prog w = .ok (.tuple #[.agg #[.int .i64 0], .bool false]) w := by kernel_rfl
theorem asn_10 (u : TypeId) (v : Value) (w : World) (h : u ≠ 96) : (Instr.typeAssert (.iface u v) 69 96 true).run Tryz.prog w = .ok (.tuple #[.agg #[.int .i64 0], .bool false]) w := by
  have e : (Instr.typeAssert (.iface u v) 69 96 true).run Tryz.prog w = (if u = 96 then (pure (Value.tuple #[v, .bool true]) : Sem Value) else (do pure (Value.tuple #[← zeroValue 96, .bool false]))).run Tryz.prog w := by kernel_rfl
  rw [e, if_neg h]
  exact zero_10 w

theorem asy_11 (v : Value) (w : World) : (Instr.typeAssert (.iface 97 v) 69 97 true).run Tryz.prog w = .ok (.tuple #[v, .bool true]) w := by kernel_rfl
theorem zero_11 (w : World) : (do pure (Value.tuple #[← zeroValue 97, .bool false]) : Sem Value).run Tryz.prog w = .ok (.tuple #[.agg #[.int .i64 0], .bool false]) w := by kernel_rfl
theorem asn_11 (u : TypeId) (v : Value) (w : World) (h : u ≠ 97) : (Instr.typeAssert (.iface u v) 69 97 true).run Tryz.prog w = .ok (.tuple #[.agg #[.int .i64 0], .bool false]) w := by
  have e : (Instr.typeAssert (.iface u v) 69 97 true).run Tryz.prog w = (if u = 97 then (pure (Value.tuple #[v, .bool true]) : Sem Value) else (do pure (Value.tuple #[← zeroValue 97, .bool false]))).run Tryz.prog w := by kernel_rfl
  rw [e, if_neg h]
  exact zero_11 w

theorem asy_12 (v : Value) (w : World) : (Instr.typeAssert (.iface 98 v) 69 98 true).run Tryz.prog w = .ok (.tuple #[v, .bool true]) w := by kernel_rfl
theorem zero_12 (w : World) : (do pure (Value.tuple #[← zeroValue 98, .bool false]) : Sem Value).run Tryz.prog w = .ok (.tuple #[.agg #[.int .i64 0, .int .i64 0], .bool false]) w := by kernel_rfl
theorem asn_12 (u : TypeId) (v : Value) (w : World) (h : u ≠ 98) : (Instr.typeAssert (.iface u v) 69 98 true).run Tryz.prog w = .ok (.tuple #[.agg #[.int .i64 0, .int .i64 0], .bool false]) w := by
  have e : (Instr.typeAssert (.iface u v) 69 98 true).run Tryz.prog w = (if u = 98 then (pure (Value.tuple #[v, .bool true]) : Sem Value) else (do pure (Value.tuple #[← zeroValue 98, .bool false]))).run Tryz.prog w := by kernel_rfl
  rw [e, if_neg h]
  exact zero_12 w

theorem asy_13 (v : Value) (w : World) : (Instr.typeAssert (.iface 100 v) 69 100 true).run Tryz.prog w = .ok (.tuple #[v, .bool true]) w := by kernel_rfl
theorem zero_13 (w : World) : (do pure (Value.tuple #[← zeroValue 100, .bool false]) : Sem Value).run Tryz.prog w = .ok (.tuple #[.agg #[], .bool false]) w := by kernel_rfl
theorem asn_13 (u : TypeId) (v : Value) (w : World) (h : u ≠ 100) : (Instr.typeAssert (.iface u v) 69 100 true).run Tryz.prog w = .ok (.tuple #[.agg #[], .bool false]) w := by
  have e : (Instr.typeAssert (.iface u v) 69 100 true).run Tryz.prog w = (if u = 100 then (pure (Value.tuple #[v, .bool true]) : Sem Value) else (do pure (Value.tuple #[← zeroValue 100, .bool false]))).run Tryz.prog w := by kernel_rfl
  rw [e, if_neg h]
  exact zero_13 w

set_option maxRecDepth 100000 in
theorem placeOk_1 (r n pl ch : Int) (w : World) : Calls Tryz.prog 44 #[.iface 81 (.agg #[.int .i64 r, .int .i64 n]), .int .i64 pl, .int .i64 ch] w fun e w' => e = .returned (.bool (Plain.regB r && Plain.numB n)) ∧ Below w.heap.size w w' := by
  have y := fun w => asy_1 (.agg #[.int .i64 r, .int .i64 n]) w
  go_enter Tryz.func44, Tryz.ntmps44
  go_wp2_with (first | (go_at_call 60; refine (isReg_any _ _).mono ?_; rintro e w' ⟨rfl, rfl⟩) | (go_at_call 59; refine (isNum_any _ _).mono ?_; rintro e w' ⟨rfl, rfl⟩) | (go_at_call 46; refine (isOneOf_any _ _ _).mono ?_; rintro e w' ⟨rfl, rfl⟩) | (go_at_call 61; refine (areRegs_any _ _ _ _).mono ?_; rintro e w' ⟨rfl, rfl⟩) | (go_at_call 62; refine (takesOk_any _ _ _).mono ?_; rintro e w' ⟨rfl, rfl⟩))
  all_goals go_ret
  all_goals exact ⟨by simp [*], by first | exact (Below.refl _ _).alloc (Nat.le_refl _) _ | exact Below.refl _ _⟩

set_option maxRecDepth 100000 in
theorem placeOk_2 (r a b pl ch : Int) (w : World) : Calls Tryz.prog 44 #[.iface 83 (.agg #[.int .i64 r, .int .i64 a, .int .i64 b]), .int .i64 pl, .int .i64 ch] w fun e w' => e = .returned (.bool (Plain.areB r a b)) ∧ Below w.heap.size w w' := by
  have n1 := fun w => asn_1 83 (.agg #[.int .i64 r, .int .i64 a, .int .i64 b]) w (by decide)
  have y := fun w => asy_2 (.agg #[.int .i64 r, .int .i64 a, .int .i64 b]) w
  go_enter Tryz.func44, Tryz.ntmps44
  go_wp2_with (first | (go_at_call 60; refine (isReg_any _ _).mono ?_; rintro e w' ⟨rfl, rfl⟩) | (go_at_call 59; refine (isNum_any _ _).mono ?_; rintro e w' ⟨rfl, rfl⟩) | (go_at_call 46; refine (isOneOf_any _ _ _).mono ?_; rintro e w' ⟨rfl, rfl⟩) | (go_at_call 61; refine (areRegs_any _ _ _ _).mono ?_; rintro e w' ⟨rfl, rfl⟩) | (go_at_call 62; refine (takesOk_any _ _ _).mono ?_; rintro e w' ⟨rfl, rfl⟩))
  all_goals go_ret
  all_goals exact ⟨by simp [*], by first | exact (Below.refl _ _).alloc (Nat.le_refl _) _ | exact Below.refl _ _⟩

set_option maxRecDepth 100000 in
theorem placeOk_3 (r a b pl ch : Int) (w : World) : Calls Tryz.prog 44 #[.iface 84 (.agg #[.int .i64 r, .int .i64 a, .int .i64 b]), .int .i64 pl, .int .i64 ch] w fun e w' => e = .returned (.bool (Plain.areB r a b)) ∧ Below w.heap.size w w' := by
  have n1 := fun w => asn_1 84 (.agg #[.int .i64 r, .int .i64 a, .int .i64 b]) w (by decide)
  have n2 := fun w => asn_2 84 (.agg #[.int .i64 r, .int .i64 a, .int .i64 b]) w (by decide)
  have y := fun w => asy_3 (.agg #[.int .i64 r, .int .i64 a, .int .i64 b]) w
  go_enter Tryz.func44, Tryz.ntmps44
  go_wp2_with (first | (go_at_call 60; refine (isReg_any _ _).mono ?_; rintro e w' ⟨rfl, rfl⟩) | (go_at_call 59; refine (isNum_any _ _).mono ?_; rintro e w' ⟨rfl, rfl⟩) | (go_at_call 46; refine (isOneOf_any _ _ _).mono ?_; rintro e w' ⟨rfl, rfl⟩) | (go_at_call 61; refine (areRegs_any _ _ _ _).mono ?_; rintro e w' ⟨rfl, rfl⟩) | (go_at_call 62; refine (takesOk_any _ _ _).mono ?_; rintro e w' ⟨rfl, rfl⟩))
  all_goals go_ret
  all_goals exact ⟨by simp [*], by first | exact (Below.refl _ _).alloc (Nat.le_refl _) _ | exact Below.refl _ _⟩

set_option maxRecDepth 100000 in
theorem placeOk_4 (r a b pl ch : Int) (w : World) : Calls Tryz.prog 44 #[.iface 85 (.agg #[.int .i64 r, .int .i64 a, .int .i64 b]), .int .i64 pl, .int .i64 ch] w fun e w' => e = .returned (.bool (Plain.areB r a b)) ∧ Below w.heap.size w w' := by
  have n1 := fun w => asn_1 85 (.agg #[.int .i64 r, .int .i64 a, .int .i64 b]) w (by decide)
  have n2 := fun w => asn_2 85 (.agg #[.int .i64 r, .int .i64 a, .int .i64 b]) w (by decide)
  have n3 := fun w => asn_3 85 (.agg #[.int .i64 r, .int .i64 a, .int .i64 b]) w (by decide)
  have y := fun w => asy_4 (.agg #[.int .i64 r, .int .i64 a, .int .i64 b]) w
  go_enter Tryz.func44, Tryz.ntmps44
  go_wp2_with (first | (go_at_call 60; refine (isReg_any _ _).mono ?_; rintro e w' ⟨rfl, rfl⟩) | (go_at_call 59; refine (isNum_any _ _).mono ?_; rintro e w' ⟨rfl, rfl⟩) | (go_at_call 46; refine (isOneOf_any _ _ _).mono ?_; rintro e w' ⟨rfl, rfl⟩) | (go_at_call 61; refine (areRegs_any _ _ _ _).mono ?_; rintro e w' ⟨rfl, rfl⟩) | (go_at_call 62; refine (takesOk_any _ _ _).mono ?_; rintro e w' ⟨rfl, rfl⟩))
  all_goals go_ret
  all_goals exact ⟨by simp [*], by first | exact (Below.refl _ _).alloc (Nat.le_refl _) _ | exact Below.refl _ _⟩

set_option maxRecDepth 100000 in
theorem placeOk_5 (a n pl ch : Int) (w : World) : Calls Tryz.prog 44 #[.iface 87 (.agg #[.int .i64 a, .int .i64 n]), .int .i64 pl, .int .i64 ch] w fun e w' => e = .returned (.bool (Plain.regB a && Plain.oneB n ch)) ∧ Below w.heap.size w w' := by
  have n1 := fun w => asn_1 87 (.agg #[.int .i64 a, .int .i64 n]) w (by decide)
  have n2 := fun w => asn_2 87 (.agg #[.int .i64 a, .int .i64 n]) w (by decide)
  have n3 := fun w => asn_3 87 (.agg #[.int .i64 a, .int .i64 n]) w (by decide)
  have n4 := fun w => asn_4 87 (.agg #[.int .i64 a, .int .i64 n]) w (by decide)
  have y := fun w => asy_5 (.agg #[.int .i64 a, .int .i64 n]) w
  go_enter Tryz.func44, Tryz.ntmps44
  go_wp2_with (first | (go_at_call 60; refine (isReg_any _ _).mono ?_; rintro e w' ⟨rfl, rfl⟩) | (go_at_call 59; refine (isNum_any _ _).mono ?_; rintro e w' ⟨rfl, rfl⟩) | (go_at_call 46; refine (isOneOf_any _ _ _).mono ?_; rintro e w' ⟨rfl, rfl⟩) | (go_at_call 61; refine (areRegs_any _ _ _ _).mono ?_; rintro e w' ⟨rfl, rfl⟩) | (go_at_call 62; refine (takesOk_any _ _ _).mono ?_; rintro e w' ⟨rfl, rfl⟩))
  all_goals go_ret
  all_goals exact ⟨by simp [*], by first | exact (Below.refl _ _).alloc (Nat.le_refl _) _ | exact Below.refl _ _⟩

set_option maxRecDepth 100000 in
theorem placeOk_6 (r b n pl ch : Int) (w : World) : Calls Tryz.prog 44 #[.iface 89 (.agg #[.int .i64 r, .int .i64 b, .int .i64 n]), .int .i64 pl, .int .i64 ch] w fun e w' => e = .returned (.bool (Plain.takesB r b && Plain.oneB n ch)) ∧ Below w.heap.size w w' := by
  have n1 := fun w => asn_1 89 (.agg #[.int .i64 r, .int .i64 b, .int .i64 n]) w (by decide)
  have n2 := fun w => asn_2 89 (.agg #[.int .i64 r, .int .i64 b, .int .i64 n]) w (by decide)
  have n3 := fun w => asn_3 89 (.agg #[.int .i64 r, .int .i64 b, .int .i64 n]) w (by decide)
  have n4 := fun w => asn_4 89 (.agg #[.int .i64 r, .int .i64 b, .int .i64 n]) w (by decide)
  have n5 := fun w => asn_5 89 (.agg #[.int .i64 r, .int .i64 b, .int .i64 n]) w (by decide)
  have y := fun w => asy_6 (.agg #[.int .i64 r, .int .i64 b, .int .i64 n]) w
  go_enter Tryz.func44, Tryz.ntmps44
  go_wp2_with (first | (go_at_call 60; refine (isReg_any _ _).mono ?_; rintro e w' ⟨rfl, rfl⟩) | (go_at_call 59; refine (isNum_any _ _).mono ?_; rintro e w' ⟨rfl, rfl⟩) | (go_at_call 46; refine (isOneOf_any _ _ _).mono ?_; rintro e w' ⟨rfl, rfl⟩) | (go_at_call 61; refine (areRegs_any _ _ _ _).mono ?_; rintro e w' ⟨rfl, rfl⟩) | (go_at_call 62; refine (takesOk_any _ _ _).mono ?_; rintro e w' ⟨rfl, rfl⟩))
  all_goals go_ret
  all_goals exact ⟨by simp [*], by first | exact (Below.refl _ _).alloc (Nat.le_refl _) _ | exact Below.refl _ _⟩

set_option maxRecDepth 100000 in
theorem placeOk_7 (r a n pl ch : Int) (w : World) : Calls Tryz.prog 44 #[.iface 91 (.agg #[.int .i64 r, .int .i64 a, .int .i64 n]), .int .i64 pl, .int .i64 ch] w fun e w' => e = .returned (.bool (Plain.regB r && Plain.regB a && Plain.oneB n ch)) ∧ Below w.heap.size w w' := by
  have n1 := fun w => asn_1 91 (.agg #[.int .i64 r, .int .i64 a, .int .i64 n]) w (by decide)
  have n2 := fun w => asn_2 91 (.agg #[.int .i64 r, .int .i64 a, .int .i64 n]) w (by decide)
  have n3 := fun w => asn_3 91 (.agg #[.int .i64 r, .int .i64 a, .int .i64 n]) w (by decide)
  have n4 := fun w => asn_4 91 (.agg #[.int .i64 r, .int .i64 a, .int .i64 n]) w (by decide)
  have n5 := fun w => asn_5 91 (.agg #[.int .i64 r, .int .i64 a, .int .i64 n]) w (by decide)
  have n6 := fun w => asn_6 91 (.agg #[.int .i64 r, .int .i64 a, .int .i64 n]) w (by decide)
  have y := fun w => asy_7 (.agg #[.int .i64 r, .int .i64 a, .int .i64 n]) w
  go_enter Tryz.func44, Tryz.ntmps44
  go_wp2_with (first | (go_at_call 60; refine (isReg_any _ _).mono ?_; rintro e w' ⟨rfl, rfl⟩) | (go_at_call 59; refine (isNum_any _ _).mono ?_; rintro e w' ⟨rfl, rfl⟩) | (go_at_call 46; refine (isOneOf_any _ _ _).mono ?_; rintro e w' ⟨rfl, rfl⟩) | (go_at_call 61; refine (areRegs_any _ _ _ _).mono ?_; rintro e w' ⟨rfl, rfl⟩) | (go_at_call 62; refine (takesOk_any _ _ _).mono ?_; rintro e w' ⟨rfl, rfl⟩))
  all_goals go_ret
  all_goals exact ⟨by simp [*], by first | exact (Below.refl _ _).alloc (Nat.le_refl _) _ | exact Below.refl _ _⟩

set_option maxRecDepth 100000 in
theorem placeOk_8 (r b n pl ch : Int) (w : World) : Calls Tryz.prog 44 #[.iface 92 (.agg #[.int .i64 r, .int .i64 b, .int .i64 n]), .int .i64 pl, .int .i64 ch] w fun e w' => e = .returned (.bool (Plain.takesB r b && Plain.oneB n ch)) ∧ Below w.heap.size w w' := by
  have n1 := fun w => asn_1 92 (.agg #[.int .i64 r, .int .i64 b, .int .i64 n]) w (by decide)
  have n2 := fun w => asn_2 92 (.agg #[.int .i64 r, .int .i64 b, .int .i64 n]) w (by decide)
  have n3 := fun w => asn_3 92 (.agg #[.int .i64 r, .int .i64 b, .int .i64 n]) w (by decide)
  have n4 := fun w => asn_4 92 (.agg #[.int .i64 r, .int .i64 b, .int .i64 n]) w (by decide)
  have n5 := fun w => asn_5 92 (.agg #[.int .i64 r, .int .i64 b, .int .i64 n]) w (by decide)
  have n6 := fun w => asn_6 92 (.agg #[.int .i64 r, .int .i64 b, .int .i64 n]) w (by decide)
  have n7 := fun w => asn_7 92 (.agg #[.int .i64 r, .int .i64 b, .int .i64 n]) w (by decide)
  have y := fun w => asy_8 (.agg #[.int .i64 r, .int .i64 b, .int .i64 n]) w
  go_enter Tryz.func44, Tryz.ntmps44
  go_wp2_with (first | (go_at_call 60; refine (isReg_any _ _).mono ?_; rintro e w' ⟨rfl, rfl⟩) | (go_at_call 59; refine (isNum_any _ _).mono ?_; rintro e w' ⟨rfl, rfl⟩) | (go_at_call 46; refine (isOneOf_any _ _ _).mono ?_; rintro e w' ⟨rfl, rfl⟩) | (go_at_call 61; refine (areRegs_any _ _ _ _).mono ?_; rintro e w' ⟨rfl, rfl⟩) | (go_at_call 62; refine (takesOk_any _ _ _).mono ?_; rintro e w' ⟨rfl, rfl⟩))
  all_goals go_ret
  all_goals exact ⟨by simp [*], by first | exact (Below.refl _ _).alloc (Nat.le_refl _) _ | exact Below.refl _ _⟩

set_option maxRecDepth 100000 in
theorem placeOk_9 (n pl ch : Int) (w : World) : Calls Tryz.prog 44 #[.iface 94 (.agg #[.int .i64 n]), .int .i64 pl, .int .i64 ch] w fun e w' => e = .returned (.bool (Plain.oneB n ch)) ∧ Below w.heap.size w w' := by
  have n1 := fun w => asn_1 94 (.agg #[.int .i64 n]) w (by decide)
  have n2 := fun w => asn_2 94 (.agg #[.int .i64 n]) w (by decide)
  have n3 := fun w => asn_3 94 (.agg #[.int .i64 n]) w (by decide)
  have n4 := fun w => asn_4 94 (.agg #[.int .i64 n]) w (by decide)
  have n5 := fun w => asn_5 94 (.agg #[.int .i64 n]) w (by decide)
  have n6 := fun w => asn_6 94 (.agg #[.int .i64 n]) w (by decide)
  have n7 := fun w => asn_7 94 (.agg #[.int .i64 n]) w (by decide)
  have n8 := fun w => asn_8 94 (.agg #[.int .i64 n]) w (by decide)
  have y := fun w => asy_9 (.agg #[.int .i64 n]) w
  go_enter Tryz.func44, Tryz.ntmps44
  go_wp2_with (first | (go_at_call 60; refine (isReg_any _ _).mono ?_; rintro e w' ⟨rfl, rfl⟩) | (go_at_call 59; refine (isNum_any _ _).mono ?_; rintro e w' ⟨rfl, rfl⟩) | (go_at_call 46; refine (isOneOf_any _ _ _).mono ?_; rintro e w' ⟨rfl, rfl⟩) | (go_at_call 61; refine (areRegs_any _ _ _ _).mono ?_; rintro e w' ⟨rfl, rfl⟩) | (go_at_call 62; refine (takesOk_any _ _ _).mono ?_; rintro e w' ⟨rfl, rfl⟩))
  all_goals go_ret
  all_goals exact ⟨by simp [*], by first | exact (Below.refl _ _).alloc (Nat.le_refl _) _ | exact Below.refl _ _⟩

set_option maxRecDepth 100000 in
theorem placeOk_10 (a pl ch : Int) (w : World) : Calls Tryz.prog 44 #[.iface 96 (.agg #[.int .i64 a]), .int .i64 pl, .int .i64 ch] w fun e w' => e = .returned (.bool (Plain.regB a)) ∧ Below w.heap.size w w' := by
  have n1 := fun w => asn_1 96 (.agg #[.int .i64 a]) w (by decide)
  have n2 := fun w => asn_2 96 (.agg #[.int .i64 a]) w (by decide)
  have n3 := fun w => asn_3 96 (.agg #[.int .i64 a]) w (by decide)
  have n4 := fun w => asn_4 96 (.agg #[.int .i64 a]) w (by decide)
  have n5 := fun w => asn_5 96 (.agg #[.int .i64 a]) w (by decide)
  have n6 := fun w => asn_6 96 (.agg #[.int .i64 a]) w (by decide)
  have n7 := fun w => asn_7 96 (.agg #[.int .i64 a]) w (by decide)
  have n8 := fun w => asn_8 96 (.agg #[.int .i64 a]) w (by decide)
  have n9 := fun w => asn_9 96 (.agg #[.int .i64 a]) w (by decide)
  have y := fun w => asy_10 (.agg #[.int .i64 a]) w
  go_enter Tryz.func44, Tryz.ntmps44
  go_wp2_with (first | (go_at_call 60; refine (isReg_any _ _).mono ?_; rintro e w' ⟨rfl, rfl⟩) | (go_at_call 59; refine (isNum_any _ _).mono ?_; rintro e w' ⟨rfl, rfl⟩) | (go_at_call 46; refine (isOneOf_any _ _ _).mono ?_; rintro e w' ⟨rfl, rfl⟩) | (go_at_call 61; refine (areRegs_any _ _ _ _).mono ?_; rintro e w' ⟨rfl, rfl⟩) | (go_at_call 62; refine (takesOk_any _ _ _).mono ?_; rintro e w' ⟨rfl, rfl⟩))
  all_goals go_ret
  all_goals exact ⟨by simp [*], by first | exact (Below.refl _ _).alloc (Nat.le_refl _) _ | exact Below.refl _ _⟩

set_option maxRecDepth 100000 in
theorem placeOk_11 (n pl ch : Int) (w : World) : Calls Tryz.prog 44 #[.iface 97 (.agg #[.int .i64 n]), .int .i64 pl, .int .i64 ch] w fun e w' => e = .returned (.bool (Plain.oneB n pl)) ∧ Below w.heap.size w w' := by
  have n1 := fun w => asn_1 97 (.agg #[.int .i64 n]) w (by decide)
  have n2 := fun w => asn_2 97 (.agg #[.int .i64 n]) w (by decide)
  have n3 := fun w => asn_3 97 (.agg #[.int .i64 n]) w (by decide)
  have n4 := fun w => asn_4 97 (.agg #[.int .i64 n]) w (by decide)
  have n5 := fun w => asn_5 97 (.agg #[.int .i64 n]) w (by decide)
  have n6 := fun w => asn_6 97 (.agg #[.int .i64 n]) w (by decide)
  have n7 := fun w => asn_7 97 (.agg #[.int .i64 n]) w (by decide)
  have n8 := fun w => asn_8 97 (.agg #[.int .i64 n]) w (by decide)
  have n9 := fun w => asn_9 97 (.agg #[.int .i64 n]) w (by decide)
  have n10 := fun w => asn_10 97 (.agg #[.int .i64 n]) w (by decide)
  have y := fun w => asy_11 (.agg #[.int .i64 n]) w
  go_enter Tryz.func44, Tryz.ntmps44
  go_wp2_with (first | (go_at_call 60; refine (isReg_any _ _).mono ?_; rintro e w' ⟨rfl, rfl⟩) | (go_at_call 59; refine (isNum_any _ _).mono ?_; rintro e w' ⟨rfl, rfl⟩) | (go_at_call 46; refine (isOneOf_any _ _ _).mono ?_; rintro e w' ⟨rfl, rfl⟩) | (go_at_call 61; refine (areRegs_any _ _ _ _).mono ?_; rintro e w' ⟨rfl, rfl⟩) | (go_at_call 62; refine (takesOk_any _ _ _).mono ?_; rintro e w' ⟨rfl, rfl⟩))
  all_goals go_ret
  all_goals exact ⟨by simp [*], by first | exact (Below.refl _ _).alloc (Nat.le_refl _) _ | exact Below.refl _ _⟩

set_option maxRecDepth 100000 in
theorem placeOk_12 (a n pl ch : Int) (w : World) : Calls Tryz.prog 44 #[.iface 98 (.agg #[.int .i64 a, .int .i64 n]), .int .i64 pl, .int .i64 ch] w fun e w' => e = .returned (.bool (Plain.regB a && Plain.oneB n pl)) ∧ Below w.heap.size w w' := by
  have n1 := fun w => asn_1 98 (.agg #[.int .i64 a, .int .i64 n]) w (by decide)
  have n2 := fun w => asn_2 98 (.agg #[.int .i64 a, .int .i64 n]) w (by decide)
  have n3 := fun w => asn_3 98 (.agg #[.int .i64 a, .int .i64 n]) w (by decide)
  have n4 := fun w => asn_4 98 (.agg #[.int .i64 a, .int .i64 n]) w (by decide)
  have n5 := fun w => asn_5 98 (.agg #[.int .i64 a, .int .i64 n]) w (by decide)
  have n6 := fun w => asn_6 98 (.agg #[.int .i64 a, .int .i64 n]) w (by decide)
  have n7 := fun w => asn_7 98 (.agg #[.int .i64 a, .int .i64 n]) w (by decide)
  have n8 := fun w => asn_8 98 (.agg #[.int .i64 a, .int .i64 n]) w (by decide)
  have n9 := fun w => asn_9 98 (.agg #[.int .i64 a, .int .i64 n]) w (by decide)
  have n10 := fun w => asn_10 98 (.agg #[.int .i64 a, .int .i64 n]) w (by decide)
  have n11 := fun w => asn_11 98 (.agg #[.int .i64 a, .int .i64 n]) w (by decide)
  have y := fun w => asy_12 (.agg #[.int .i64 a, .int .i64 n]) w
  go_enter Tryz.func44, Tryz.ntmps44
  go_wp2_with (first | (go_at_call 60; refine (isReg_any _ _).mono ?_; rintro e w' ⟨rfl, rfl⟩) | (go_at_call 59; refine (isNum_any _ _).mono ?_; rintro e w' ⟨rfl, rfl⟩) | (go_at_call 46; refine (isOneOf_any _ _ _).mono ?_; rintro e w' ⟨rfl, rfl⟩) | (go_at_call 61; refine (areRegs_any _ _ _ _).mono ?_; rintro e w' ⟨rfl, rfl⟩) | (go_at_call 62; refine (takesOk_any _ _ _).mono ?_; rintro e w' ⟨rfl, rfl⟩))
  all_goals go_ret
  all_goals exact ⟨by simp [*], by first | exact (Below.refl _ _).alloc (Nat.le_refl _) _ | exact Below.refl _ _⟩

set_option maxRecDepth 100000 in
theorem placeOk_13 ( pl ch : Int) (w : World) : Calls Tryz.prog 44 #[.iface 100 (.agg #[]), .int .i64 pl, .int .i64 ch] w fun e w' => e = .returned (.bool (true)) ∧ Below w.heap.size w w' := by
  have n1 := fun w => asn_1 100 (.agg #[]) w (by decide)
  have n2 := fun w => asn_2 100 (.agg #[]) w (by decide)
  have n3 := fun w => asn_3 100 (.agg #[]) w (by decide)
  have n4 := fun w => asn_4 100 (.agg #[]) w (by decide)
  have n5 := fun w => asn_5 100 (.agg #[]) w (by decide)
  have n6 := fun w => asn_6 100 (.agg #[]) w (by decide)
  have n7 := fun w => asn_7 100 (.agg #[]) w (by decide)
  have n8 := fun w => asn_8 100 (.agg #[]) w (by decide)
  have n9 := fun w => asn_9 100 (.agg #[]) w (by decide)
  have n10 := fun w => asn_10 100 (.agg #[]) w (by decide)
  have n11 := fun w => asn_11 100 (.agg #[]) w (by decide)
  have n12 := fun w => asn_12 100 (.agg #[]) w (by decide)
  have y := fun w => asy_13 (.agg #[]) w
  go_enter Tryz.func44, Tryz.ntmps44
  go_wp2_with (first | (go_at_call 60; refine (isReg_any _ _).mono ?_; rintro e w' ⟨rfl, rfl⟩) | (go_at_call 59; refine (isNum_any _ _).mono ?_; rintro e w' ⟨rfl, rfl⟩) | (go_at_call 46; refine (isOneOf_any _ _ _).mono ?_; rintro e w' ⟨rfl, rfl⟩) | (go_at_call 61; refine (areRegs_any _ _ _ _).mono ?_; rintro e w' ⟨rfl, rfl⟩) | (go_at_call 62; refine (takesOk_any _ _ _).mono ?_; rintro e w' ⟨rfl, rfl⟩))
  all_goals go_ret
  all_goals exact ⟨by simp [*], by first | exact (Below.refl _ _).alloc (Nat.le_refl _) _ | exact Below.refl _ _⟩

end Go.Proofs.YtjnfmecfpjchnaaGreat
