/- Chapter 1: placeOk of each kind of place, for every argument, in every world. No condition. -/
import Derived.Test.YtfhhlahfldddfafDoorChecked
import Derived.WalkKit
import Derived.KernelRfl
import Derived.WalkSpells
import Derived.WalkLawsBesides
import Derived.Test.YtfhhlahfldddfafDoorPlain
import Derived.Test.YtfhhlahfldddfafDoorLeaves
namespace Go.Proofs.YtfhhlahfldddfafDoor
set_option linter.unusedSimpArgs false
set_option linter.unusedVariables false
set_option maxRecDepth 100000
open Go.RowKit

theorem asy_1 (v : Value) (w : World) : (Instr.typeAssert (.iface 63 v) 45 63 true).run Tryd.prog w = .ok (.tuple #[v, .bool true]) w := by kernel_rfl
theorem zero_1 (w : World) : (do pure (Value.tuple #[← zeroValue 63, .bool false]) : Sem Value).run Tryd.prog w = .ok (.tuple #[.agg #[.int .i64 0, .int .i64 0], .bool false]) w := by kernel_rfl
theorem asn_1 (u : TypeId) (v : Value) (w : World) (h : u ≠ 63) : (Instr.typeAssert (.iface u v) 45 63 true).run Tryd.prog w = .ok (.tuple #[.agg #[.int .i64 0, .int .i64 0], .bool false]) w := by
  have e : (Instr.typeAssert (.iface u v) 45 63 true).run Tryd.prog w = (if u = 63 then (pure (Value.tuple #[v, .bool true]) : Sem Value) else (do pure (Value.tuple #[← zeroValue 63, .bool false]))).run Tryd.prog w := by kernel_rfl
  rw [e, if_neg h]
  exact zero_1 w

theorem asy_2 (v : Value) (w : World) : (Instr.typeAssert (.iface 65 v) 45 65 true).run Tryd.prog w = .ok (.tuple #[v, .bool true]) w := by kernel_rfl
theorem zero_2 (w : World) : (do pure (Value.tuple #[← zeroValue 65, .bool false]) : Sem Value).run Tryd.prog w = .ok (.tuple #[.agg #[.int .i64 0, .int .i64 0, .int .i64 0], .bool false]) w := by kernel_rfl
theorem asn_2 (u : TypeId) (v : Value) (w : World) (h : u ≠ 65) : (Instr.typeAssert (.iface u v) 45 65 true).run Tryd.prog w = .ok (.tuple #[.agg #[.int .i64 0, .int .i64 0, .int .i64 0], .bool false]) w := by
  have e : (Instr.typeAssert (.iface u v) 45 65 true).run Tryd.prog w = (if u = 65 then (pure (Value.tuple #[v, .bool true]) : Sem Value) else (do pure (Value.tuple #[← zeroValue 65, .bool false]))).run Tryd.prog w := by kernel_rfl
  rw [e, if_neg h]
  exact zero_2 w

theorem asy_3 (v : Value) (w : World) : (Instr.typeAssert (.iface 66 v) 45 66 true).run Tryd.prog w = .ok (.tuple #[v, .bool true]) w := by kernel_rfl
theorem zero_3 (w : World) : (do pure (Value.tuple #[← zeroValue 66, .bool false]) : Sem Value).run Tryd.prog w = .ok (.tuple #[.agg #[.int .i64 0, .int .i64 0, .int .i64 0], .bool false]) w := by kernel_rfl
theorem asn_3 (u : TypeId) (v : Value) (w : World) (h : u ≠ 66) : (Instr.typeAssert (.iface u v) 45 66 true).run Tryd.prog w = .ok (.tuple #[.agg #[.int .i64 0, .int .i64 0, .int .i64 0], .bool false]) w := by
  have e : (Instr.typeAssert (.iface u v) 45 66 true).run Tryd.prog w = (if u = 66 then (pure (Value.tuple #[v, .bool true]) : Sem Value) else (do pure (Value.tuple #[← zeroValue 66, .bool false]))).run Tryd.prog w := by kernel_rfl
  rw [e, if_neg h]
  exact zero_3 w

theorem asy_4 (v : Value) (w : World) : (Instr.typeAssert (.iface 67 v) 45 67 true).run Tryd.prog w = .ok (.tuple #[v, .bool true]) w := by kernel_rfl
theorem zero_4 (w : World) : (do pure (Value.tuple #[← zeroValue 67, .bool false]) : Sem Value).run Tryd.prog w = .ok (.tuple #[.agg #[.int .i64 0, .int .i64 0, .int .i64 0], .bool false]) w := by kernel_rfl
theorem asn_4 (u : TypeId) (v : Value) (w : World) (h : u ≠ 67) : (Instr.typeAssert (.iface u v) 45 67 true).run Tryd.prog w = .ok (.tuple #[.agg #[.int .i64 0, .int .i64 0, .int .i64 0], .bool false]) w := by
  have e : (Instr.typeAssert (.iface u v) 45 67 true).run Tryd.prog w = (if u = 67 then (pure (Value.tuple #[v, .bool true]) : Sem Value) else (do pure (Value.tuple #[← zeroValue 67, .bool false]))).run Tryd.prog w := by kernel_rfl
  rw [e, if_neg h]
  exact zero_4 w

theorem asy_5 (v : Value) (w : World) : (Instr.typeAssert (.iface 69 v) 45 69 true).run Tryd.prog w = .ok (.tuple #[v, .bool true]) w := by kernel_rfl
theorem zero_5 (w : World) : (do pure (Value.tuple #[← zeroValue 69, .bool false]) : Sem Value).run Tryd.prog w = .ok (.tuple #[.agg #[.int .i64 0, .int .i64 0], .bool false]) w := by kernel_rfl
theorem asn_5 (u : TypeId) (v : Value) (w : World) (h : u ≠ 69) : (Instr.typeAssert (.iface u v) 45 69 true).run Tryd.prog w = .ok (.tuple #[.agg #[.int .i64 0, .int .i64 0], .bool false]) w := by
  have e : (Instr.typeAssert (.iface u v) 45 69 true).run Tryd.prog w = (if u = 69 then (pure (Value.tuple #[v, .bool true]) : Sem Value) else (do pure (Value.tuple #[← zeroValue 69, .bool false]))).run Tryd.prog w := by kernel_rfl
  rw [e, if_neg h]
  exact zero_5 w

theorem asy_6 (v : Value) (w : World) : (Instr.typeAssert (.iface 71 v) 45 71 true).run Tryd.prog w = .ok (.tuple #[v, .bool true]) w := by kernel_rfl
theorem zero_6 (w : World) : (do pure (Value.tuple #[← zeroValue 71, .bool false]) : Sem Value).run Tryd.prog w = .ok (.tuple #[.agg #[.int .i64 0, .int .i64 0, .int .i64 0], .bool false]) w := by kernel_rfl
theorem asn_6 (u : TypeId) (v : Value) (w : World) (h : u ≠ 71) : (Instr.typeAssert (.iface u v) 45 71 true).run Tryd.prog w = .ok (.tuple #[.agg #[.int .i64 0, .int .i64 0, .int .i64 0], .bool false]) w := by
  have e : (Instr.typeAssert (.iface u v) 45 71 true).run Tryd.prog w = (if u = 71 then (pure (Value.tuple #[v, .bool true]) : Sem Value) else (do pure (Value.tuple #[← zeroValue 71, .bool false]))).run Tryd.prog w := by kernel_rfl
  rw [e, if_neg h]
  exact zero_6 w

theorem asy_7 (v : Value) (w : World) : (Instr.typeAssert (.iface 73 v) 45 73 true).run Tryd.prog w = .ok (.tuple #[v, .bool true]) w := by kernel_rfl
theorem zero_7 (w : World) : (do pure (Value.tuple #[← zeroValue 73, .bool false]) : Sem Value).run Tryd.prog w = .ok (.tuple #[.agg #[.int .i64 0, .int .i64 0, .int .i64 0], .bool false]) w := by kernel_rfl
theorem asn_7 (u : TypeId) (v : Value) (w : World) (h : u ≠ 73) : (Instr.typeAssert (.iface u v) 45 73 true).run Tryd.prog w = .ok (.tuple #[.agg #[.int .i64 0, .int .i64 0, .int .i64 0], .bool false]) w := by
  have e : (Instr.typeAssert (.iface u v) 45 73 true).run Tryd.prog w = (if u = 73 then (pure (Value.tuple #[v, .bool true]) : Sem Value) else (do pure (Value.tuple #[← zeroValue 73, .bool false]))).run Tryd.prog w := by kernel_rfl
  rw [e, if_neg h]
  exact zero_7 w

theorem asy_8 (v : Value) (w : World) : (Instr.typeAssert (.iface 74 v) 45 74 true).run Tryd.prog w = .ok (.tuple #[v, .bool true]) w := by kernel_rfl
theorem zero_8 (w : World) : (do pure (Value.tuple #[← zeroValue 74, .bool false]) : Sem Value).run Tryd.prog w = .ok (.tuple #[.agg #[.int .i64 0, .int .i64 0, .int .i64 0], .bool false]) w := by kernel_rfl
theorem asn_8 (u : TypeId) (v : Value) (w : World) (h : u ≠ 74) : (Instr.typeAssert (.iface u v) 45 74 true).run Tryd.prog w = .ok (.tuple #[.agg #[.int .i64 0, .int .i64 0, .int .i64 0], .bool false]) w := by
  have e : (Instr.typeAssert (.iface u v) 45 74 true).run Tryd.prog w = (if u = 74 then (pure (Value.tuple #[v, .bool true]) : Sem Value) else (do pure (Value.tuple #[← zeroValue 74, .bool false]))).run Tryd.prog w := by kernel_rfl
  rw [e, if_neg h]
  exact zero_8 w

theorem asy_9 (v : Value) (w : World) : (Instr.typeAssert (.iface 76 v) 45 76 true).run Tryd.prog w = .ok (.tuple #[v, .bool true]) w := by kernel_rfl
theorem zero_9 (w : World) : (do pure (Value.tuple #[← zeroValue 76, .bool false]) : Sem Value).run Tryd.prog w = .ok (.tuple #[.agg #[.int .i64 0], .bool false]) w := by kernel_rfl
theorem asn_9 (u : TypeId) (v : Value) (w : World) (h : u ≠ 76) : (Instr.typeAssert (.iface u v) 45 76 true).run Tryd.prog w = .ok (.tuple #[.agg #[.int .i64 0], .bool false]) w := by
  have e : (Instr.typeAssert (.iface u v) 45 76 true).run Tryd.prog w = (if u = 76 then (pure (Value.tuple #[v, .bool true]) : Sem Value) else (do pure (Value.tuple #[← zeroValue 76, .bool false]))).run Tryd.prog w := by kernel_rfl
  rw [e, if_neg h]
  exact zero_9 w

theorem asy_10 (v : Value) (w : World) : (Instr.typeAssert (.iface 78 v) 45 78 true).run Tryd.prog w = .ok (.tuple #[v, .bool true]) w := by kernel_rfl
theorem zero_10 (w : World) : (do pure (Value.tuple #[← zeroValue 78, .bool false]) : Sem Value).run Tryd.prog w = .ok (.tuple #[.agg #[.int .i64 0], .bool false]) w := by kernel_rfl
theorem asn_10 (u : TypeId) (v : Value) (w : World) (h : u ≠ 78) : (Instr.typeAssert (.iface u v) 45 78 true).run Tryd.prog w = .ok (.tuple #[.agg #[.int .i64 0], .bool false]) w := by
  have e : (Instr.typeAssert (.iface u v) 45 78 true).run Tryd.prog w = (if u = 78 then (pure (Value.tuple #[v, .bool true]) : Sem Value) else (do pure (Value.tuple #[← zeroValue 78, .bool false]))).run Tryd.prog w := by kernel_rfl
  rw [e, if_neg h]
  exact zero_10 w

theorem asy_11 (v : Value) (w : World) : (Instr.typeAssert (.iface 79 v) 45 79 true).run Tryd.prog w = .ok (.tuple #[v, .bool true]) w := by kernel_rfl
theorem zero_11 (w : World) : (do pure (Value.tuple #[← zeroValue 79, .bool false]) : Sem Value).run Tryd.prog w = .ok (.tuple #[.agg #[.int .i64 0], .bool false]) w := by kernel_rfl
theorem asn_11 (u : TypeId) (v : Value) (w : World) (h : u ≠ 79) : (Instr.typeAssert (.iface u v) 45 79 true).run Tryd.prog w = .ok (.tuple #[.agg #[.int .i64 0], .bool false]) w := by
  have e : (Instr.typeAssert (.iface u v) 45 79 true).run Tryd.prog w = (if u = 79 then (pure (Value.tuple #[v, .bool true]) : Sem Value) else (do pure (Value.tuple #[← zeroValue 79, .bool false]))).run Tryd.prog w := by kernel_rfl
  rw [e, if_neg h]
  exact zero_11 w

theorem asy_12 (v : Value) (w : World) : (Instr.typeAssert (.iface 80 v) 45 80 true).run Tryd.prog w = .ok (.tuple #[v, .bool true]) w := by kernel_rfl
theorem zero_12 (w : World) : (do pure (Value.tuple #[← zeroValue 80, .bool false]) : Sem Value).run Tryd.prog w = .ok (.tuple #[.agg #[.int .i64 0, .int .i64 0], .bool false]) w := by kernel_rfl
theorem asn_12 (u : TypeId) (v : Value) (w : World) (h : u ≠ 80) : (Instr.typeAssert (.iface u v) 45 80 true).run Tryd.prog w = .ok (.tuple #[.agg #[.int .i64 0, .int .i64 0], .bool false]) w := by
  have e : (Instr.typeAssert (.iface u v) 45 80 true).run Tryd.prog w = (if u = 80 then (pure (Value.tuple #[v, .bool true]) : Sem Value) else (do pure (Value.tuple #[← zeroValue 80, .bool false]))).run Tryd.prog w := by kernel_rfl
  rw [e, if_neg h]
  exact zero_12 w

theorem asy_13 (v : Value) (w : World) : (Instr.typeAssert (.iface 82 v) 45 82 true).run Tryd.prog w = .ok (.tuple #[v, .bool true]) w := by kernel_rfl
theorem zero_13 (w : World) : (do pure (Value.tuple #[← zeroValue 82, .bool false]) : Sem Value).run Tryd.prog w = .ok (.tuple #[.agg #[], .bool false]) w := by kernel_rfl
theorem asn_13 (u : TypeId) (v : Value) (w : World) (h : u ≠ 82) : (Instr.typeAssert (.iface u v) 45 82 true).run Tryd.prog w = .ok (.tuple #[.agg #[], .bool false]) w := by
  have e : (Instr.typeAssert (.iface u v) 45 82 true).run Tryd.prog w = (if u = 82 then (pure (Value.tuple #[v, .bool true]) : Sem Value) else (do pure (Value.tuple #[← zeroValue 82, .bool false]))).run Tryd.prog w := by kernel_rfl
  rw [e, if_neg h]
  exact zero_13 w

set_option maxRecDepth 100000 in
theorem placeOk_1 (r n pl ch : Int) (w : World) : Calls Tryd.prog 22 #[.iface 63 (.agg #[.int .i64 r, .int .i64 n]), .int .i64 pl, .int .i64 ch] w fun e w' => e = .returned (.bool (Plain.regB r && Plain.numB n)) ∧ Below w.heap.size w w' := by
  have y := fun w => asy_1 (.agg #[.int .i64 r, .int .i64 n]) w
  go_enter Tryd.func22, Tryd.ntmps22
  go_wp2_with (first | (go_at_call 35; refine (isReg_any _ _).mono ?_; rintro e w' ⟨rfl, rfl⟩) | (go_at_call 36; refine (isNum_any _ _).mono ?_; rintro e w' ⟨rfl, rfl⟩) | (go_at_call 38; refine (isOneOf_any _ _ _).mono ?_; rintro e w' ⟨rfl, rfl⟩) | (go_at_call 37; refine (areRegs_any _ _ _ _).mono ?_; rintro e w' ⟨rfl, rfl⟩) | (go_at_call 39; refine (takesOk_any _ _ _).mono ?_; rintro e w' ⟨rfl, rfl⟩))
  all_goals go_ret
  all_goals exact ⟨by simp [*], by first | exact (Below.refl _ _).alloc (Nat.le_refl _) _ | exact Below.refl _ _⟩

set_option maxRecDepth 100000 in
theorem placeOk_2 (r a b pl ch : Int) (w : World) : Calls Tryd.prog 22 #[.iface 65 (.agg #[.int .i64 r, .int .i64 a, .int .i64 b]), .int .i64 pl, .int .i64 ch] w fun e w' => e = .returned (.bool (Plain.areB r a b)) ∧ Below w.heap.size w w' := by
  have n1 := fun w => asn_1 65 (.agg #[.int .i64 r, .int .i64 a, .int .i64 b]) w (by decide)
  have y := fun w => asy_2 (.agg #[.int .i64 r, .int .i64 a, .int .i64 b]) w
  go_enter Tryd.func22, Tryd.ntmps22
  go_wp2_with (first | (go_at_call 35; refine (isReg_any _ _).mono ?_; rintro e w' ⟨rfl, rfl⟩) | (go_at_call 36; refine (isNum_any _ _).mono ?_; rintro e w' ⟨rfl, rfl⟩) | (go_at_call 38; refine (isOneOf_any _ _ _).mono ?_; rintro e w' ⟨rfl, rfl⟩) | (go_at_call 37; refine (areRegs_any _ _ _ _).mono ?_; rintro e w' ⟨rfl, rfl⟩) | (go_at_call 39; refine (takesOk_any _ _ _).mono ?_; rintro e w' ⟨rfl, rfl⟩))
  all_goals go_ret
  all_goals exact ⟨by simp [*], by first | exact (Below.refl _ _).alloc (Nat.le_refl _) _ | exact Below.refl _ _⟩

set_option maxRecDepth 100000 in
theorem placeOk_3 (r a b pl ch : Int) (w : World) : Calls Tryd.prog 22 #[.iface 66 (.agg #[.int .i64 r, .int .i64 a, .int .i64 b]), .int .i64 pl, .int .i64 ch] w fun e w' => e = .returned (.bool (Plain.areB r a b)) ∧ Below w.heap.size w w' := by
  have n1 := fun w => asn_1 66 (.agg #[.int .i64 r, .int .i64 a, .int .i64 b]) w (by decide)
  have n2 := fun w => asn_2 66 (.agg #[.int .i64 r, .int .i64 a, .int .i64 b]) w (by decide)
  have y := fun w => asy_3 (.agg #[.int .i64 r, .int .i64 a, .int .i64 b]) w
  go_enter Tryd.func22, Tryd.ntmps22
  go_wp2_with (first | (go_at_call 35; refine (isReg_any _ _).mono ?_; rintro e w' ⟨rfl, rfl⟩) | (go_at_call 36; refine (isNum_any _ _).mono ?_; rintro e w' ⟨rfl, rfl⟩) | (go_at_call 38; refine (isOneOf_any _ _ _).mono ?_; rintro e w' ⟨rfl, rfl⟩) | (go_at_call 37; refine (areRegs_any _ _ _ _).mono ?_; rintro e w' ⟨rfl, rfl⟩) | (go_at_call 39; refine (takesOk_any _ _ _).mono ?_; rintro e w' ⟨rfl, rfl⟩))
  all_goals go_ret
  all_goals exact ⟨by simp [*], by first | exact (Below.refl _ _).alloc (Nat.le_refl _) _ | exact Below.refl _ _⟩

set_option maxRecDepth 100000 in
theorem placeOk_4 (r a b pl ch : Int) (w : World) : Calls Tryd.prog 22 #[.iface 67 (.agg #[.int .i64 r, .int .i64 a, .int .i64 b]), .int .i64 pl, .int .i64 ch] w fun e w' => e = .returned (.bool (Plain.areB r a b)) ∧ Below w.heap.size w w' := by
  have n1 := fun w => asn_1 67 (.agg #[.int .i64 r, .int .i64 a, .int .i64 b]) w (by decide)
  have n2 := fun w => asn_2 67 (.agg #[.int .i64 r, .int .i64 a, .int .i64 b]) w (by decide)
  have n3 := fun w => asn_3 67 (.agg #[.int .i64 r, .int .i64 a, .int .i64 b]) w (by decide)
  have y := fun w => asy_4 (.agg #[.int .i64 r, .int .i64 a, .int .i64 b]) w
  go_enter Tryd.func22, Tryd.ntmps22
  go_wp2_with (first | (go_at_call 35; refine (isReg_any _ _).mono ?_; rintro e w' ⟨rfl, rfl⟩) | (go_at_call 36; refine (isNum_any _ _).mono ?_; rintro e w' ⟨rfl, rfl⟩) | (go_at_call 38; refine (isOneOf_any _ _ _).mono ?_; rintro e w' ⟨rfl, rfl⟩) | (go_at_call 37; refine (areRegs_any _ _ _ _).mono ?_; rintro e w' ⟨rfl, rfl⟩) | (go_at_call 39; refine (takesOk_any _ _ _).mono ?_; rintro e w' ⟨rfl, rfl⟩))
  all_goals go_ret
  all_goals exact ⟨by simp [*], by first | exact (Below.refl _ _).alloc (Nat.le_refl _) _ | exact Below.refl _ _⟩

set_option maxRecDepth 100000 in
theorem placeOk_5 (a n pl ch : Int) (w : World) : Calls Tryd.prog 22 #[.iface 69 (.agg #[.int .i64 a, .int .i64 n]), .int .i64 pl, .int .i64 ch] w fun e w' => e = .returned (.bool (Plain.regB a && Plain.oneB n ch)) ∧ Below w.heap.size w w' := by
  have n1 := fun w => asn_1 69 (.agg #[.int .i64 a, .int .i64 n]) w (by decide)
  have n2 := fun w => asn_2 69 (.agg #[.int .i64 a, .int .i64 n]) w (by decide)
  have n3 := fun w => asn_3 69 (.agg #[.int .i64 a, .int .i64 n]) w (by decide)
  have n4 := fun w => asn_4 69 (.agg #[.int .i64 a, .int .i64 n]) w (by decide)
  have y := fun w => asy_5 (.agg #[.int .i64 a, .int .i64 n]) w
  go_enter Tryd.func22, Tryd.ntmps22
  go_wp2_with (first | (go_at_call 35; refine (isReg_any _ _).mono ?_; rintro e w' ⟨rfl, rfl⟩) | (go_at_call 36; refine (isNum_any _ _).mono ?_; rintro e w' ⟨rfl, rfl⟩) | (go_at_call 38; refine (isOneOf_any _ _ _).mono ?_; rintro e w' ⟨rfl, rfl⟩) | (go_at_call 37; refine (areRegs_any _ _ _ _).mono ?_; rintro e w' ⟨rfl, rfl⟩) | (go_at_call 39; refine (takesOk_any _ _ _).mono ?_; rintro e w' ⟨rfl, rfl⟩))
  all_goals go_ret
  all_goals exact ⟨by simp [*], by first | exact (Below.refl _ _).alloc (Nat.le_refl _) _ | exact Below.refl _ _⟩

set_option maxRecDepth 100000 in
theorem placeOk_6 (r b n pl ch : Int) (w : World) : Calls Tryd.prog 22 #[.iface 71 (.agg #[.int .i64 r, .int .i64 b, .int .i64 n]), .int .i64 pl, .int .i64 ch] w fun e w' => e = .returned (.bool (Plain.takesB r b && Plain.oneB n ch)) ∧ Below w.heap.size w w' := by
  have n1 := fun w => asn_1 71 (.agg #[.int .i64 r, .int .i64 b, .int .i64 n]) w (by decide)
  have n2 := fun w => asn_2 71 (.agg #[.int .i64 r, .int .i64 b, .int .i64 n]) w (by decide)
  have n3 := fun w => asn_3 71 (.agg #[.int .i64 r, .int .i64 b, .int .i64 n]) w (by decide)
  have n4 := fun w => asn_4 71 (.agg #[.int .i64 r, .int .i64 b, .int .i64 n]) w (by decide)
  have n5 := fun w => asn_5 71 (.agg #[.int .i64 r, .int .i64 b, .int .i64 n]) w (by decide)
  have y := fun w => asy_6 (.agg #[.int .i64 r, .int .i64 b, .int .i64 n]) w
  go_enter Tryd.func22, Tryd.ntmps22
  go_wp2_with (first | (go_at_call 35; refine (isReg_any _ _).mono ?_; rintro e w' ⟨rfl, rfl⟩) | (go_at_call 36; refine (isNum_any _ _).mono ?_; rintro e w' ⟨rfl, rfl⟩) | (go_at_call 38; refine (isOneOf_any _ _ _).mono ?_; rintro e w' ⟨rfl, rfl⟩) | (go_at_call 37; refine (areRegs_any _ _ _ _).mono ?_; rintro e w' ⟨rfl, rfl⟩) | (go_at_call 39; refine (takesOk_any _ _ _).mono ?_; rintro e w' ⟨rfl, rfl⟩))
  all_goals go_ret
  all_goals exact ⟨by simp [*], by first | exact (Below.refl _ _).alloc (Nat.le_refl _) _ | exact Below.refl _ _⟩

set_option maxRecDepth 100000 in
theorem placeOk_7 (r a n pl ch : Int) (w : World) : Calls Tryd.prog 22 #[.iface 73 (.agg #[.int .i64 r, .int .i64 a, .int .i64 n]), .int .i64 pl, .int .i64 ch] w fun e w' => e = .returned (.bool (Plain.regB r && Plain.regB a && Plain.oneB n ch)) ∧ Below w.heap.size w w' := by
  have n1 := fun w => asn_1 73 (.agg #[.int .i64 r, .int .i64 a, .int .i64 n]) w (by decide)
  have n2 := fun w => asn_2 73 (.agg #[.int .i64 r, .int .i64 a, .int .i64 n]) w (by decide)
  have n3 := fun w => asn_3 73 (.agg #[.int .i64 r, .int .i64 a, .int .i64 n]) w (by decide)
  have n4 := fun w => asn_4 73 (.agg #[.int .i64 r, .int .i64 a, .int .i64 n]) w (by decide)
  have n5 := fun w => asn_5 73 (.agg #[.int .i64 r, .int .i64 a, .int .i64 n]) w (by decide)
  have n6 := fun w => asn_6 73 (.agg #[.int .i64 r, .int .i64 a, .int .i64 n]) w (by decide)
  have y := fun w => asy_7 (.agg #[.int .i64 r, .int .i64 a, .int .i64 n]) w
  go_enter Tryd.func22, Tryd.ntmps22
  go_wp2_with (first | (go_at_call 35; refine (isReg_any _ _).mono ?_; rintro e w' ⟨rfl, rfl⟩) | (go_at_call 36; refine (isNum_any _ _).mono ?_; rintro e w' ⟨rfl, rfl⟩) | (go_at_call 38; refine (isOneOf_any _ _ _).mono ?_; rintro e w' ⟨rfl, rfl⟩) | (go_at_call 37; refine (areRegs_any _ _ _ _).mono ?_; rintro e w' ⟨rfl, rfl⟩) | (go_at_call 39; refine (takesOk_any _ _ _).mono ?_; rintro e w' ⟨rfl, rfl⟩))
  all_goals go_ret
  all_goals exact ⟨by simp [*], by first | exact (Below.refl _ _).alloc (Nat.le_refl _) _ | exact Below.refl _ _⟩

set_option maxRecDepth 100000 in
theorem placeOk_8 (r b n pl ch : Int) (w : World) : Calls Tryd.prog 22 #[.iface 74 (.agg #[.int .i64 r, .int .i64 b, .int .i64 n]), .int .i64 pl, .int .i64 ch] w fun e w' => e = .returned (.bool (Plain.takesB r b && Plain.oneB n ch)) ∧ Below w.heap.size w w' := by
  have n1 := fun w => asn_1 74 (.agg #[.int .i64 r, .int .i64 b, .int .i64 n]) w (by decide)
  have n2 := fun w => asn_2 74 (.agg #[.int .i64 r, .int .i64 b, .int .i64 n]) w (by decide)
  have n3 := fun w => asn_3 74 (.agg #[.int .i64 r, .int .i64 b, .int .i64 n]) w (by decide)
  have n4 := fun w => asn_4 74 (.agg #[.int .i64 r, .int .i64 b, .int .i64 n]) w (by decide)
  have n5 := fun w => asn_5 74 (.agg #[.int .i64 r, .int .i64 b, .int .i64 n]) w (by decide)
  have n6 := fun w => asn_6 74 (.agg #[.int .i64 r, .int .i64 b, .int .i64 n]) w (by decide)
  have n7 := fun w => asn_7 74 (.agg #[.int .i64 r, .int .i64 b, .int .i64 n]) w (by decide)
  have y := fun w => asy_8 (.agg #[.int .i64 r, .int .i64 b, .int .i64 n]) w
  go_enter Tryd.func22, Tryd.ntmps22
  go_wp2_with (first | (go_at_call 35; refine (isReg_any _ _).mono ?_; rintro e w' ⟨rfl, rfl⟩) | (go_at_call 36; refine (isNum_any _ _).mono ?_; rintro e w' ⟨rfl, rfl⟩) | (go_at_call 38; refine (isOneOf_any _ _ _).mono ?_; rintro e w' ⟨rfl, rfl⟩) | (go_at_call 37; refine (areRegs_any _ _ _ _).mono ?_; rintro e w' ⟨rfl, rfl⟩) | (go_at_call 39; refine (takesOk_any _ _ _).mono ?_; rintro e w' ⟨rfl, rfl⟩))
  all_goals go_ret
  all_goals exact ⟨by simp [*], by first | exact (Below.refl _ _).alloc (Nat.le_refl _) _ | exact Below.refl _ _⟩

set_option maxRecDepth 100000 in
theorem placeOk_9 (n pl ch : Int) (w : World) : Calls Tryd.prog 22 #[.iface 76 (.agg #[.int .i64 n]), .int .i64 pl, .int .i64 ch] w fun e w' => e = .returned (.bool (Plain.oneB n ch)) ∧ Below w.heap.size w w' := by
  have n1 := fun w => asn_1 76 (.agg #[.int .i64 n]) w (by decide)
  have n2 := fun w => asn_2 76 (.agg #[.int .i64 n]) w (by decide)
  have n3 := fun w => asn_3 76 (.agg #[.int .i64 n]) w (by decide)
  have n4 := fun w => asn_4 76 (.agg #[.int .i64 n]) w (by decide)
  have n5 := fun w => asn_5 76 (.agg #[.int .i64 n]) w (by decide)
  have n6 := fun w => asn_6 76 (.agg #[.int .i64 n]) w (by decide)
  have n7 := fun w => asn_7 76 (.agg #[.int .i64 n]) w (by decide)
  have n8 := fun w => asn_8 76 (.agg #[.int .i64 n]) w (by decide)
  have y := fun w => asy_9 (.agg #[.int .i64 n]) w
  go_enter Tryd.func22, Tryd.ntmps22
  go_wp2_with (first | (go_at_call 35; refine (isReg_any _ _).mono ?_; rintro e w' ⟨rfl, rfl⟩) | (go_at_call 36; refine (isNum_any _ _).mono ?_; rintro e w' ⟨rfl, rfl⟩) | (go_at_call 38; refine (isOneOf_any _ _ _).mono ?_; rintro e w' ⟨rfl, rfl⟩) | (go_at_call 37; refine (areRegs_any _ _ _ _).mono ?_; rintro e w' ⟨rfl, rfl⟩) | (go_at_call 39; refine (takesOk_any _ _ _).mono ?_; rintro e w' ⟨rfl, rfl⟩))
  all_goals go_ret
  all_goals exact ⟨by simp [*], by first | exact (Below.refl _ _).alloc (Nat.le_refl _) _ | exact Below.refl _ _⟩

set_option maxRecDepth 100000 in
theorem placeOk_10 (a pl ch : Int) (w : World) : Calls Tryd.prog 22 #[.iface 78 (.agg #[.int .i64 a]), .int .i64 pl, .int .i64 ch] w fun e w' => e = .returned (.bool (Plain.regB a)) ∧ Below w.heap.size w w' := by
  have n1 := fun w => asn_1 78 (.agg #[.int .i64 a]) w (by decide)
  have n2 := fun w => asn_2 78 (.agg #[.int .i64 a]) w (by decide)
  have n3 := fun w => asn_3 78 (.agg #[.int .i64 a]) w (by decide)
  have n4 := fun w => asn_4 78 (.agg #[.int .i64 a]) w (by decide)
  have n5 := fun w => asn_5 78 (.agg #[.int .i64 a]) w (by decide)
  have n6 := fun w => asn_6 78 (.agg #[.int .i64 a]) w (by decide)
  have n7 := fun w => asn_7 78 (.agg #[.int .i64 a]) w (by decide)
  have n8 := fun w => asn_8 78 (.agg #[.int .i64 a]) w (by decide)
  have n9 := fun w => asn_9 78 (.agg #[.int .i64 a]) w (by decide)
  have y := fun w => asy_10 (.agg #[.int .i64 a]) w
  go_enter Tryd.func22, Tryd.ntmps22
  go_wp2_with (first | (go_at_call 35; refine (isReg_any _ _).mono ?_; rintro e w' ⟨rfl, rfl⟩) | (go_at_call 36; refine (isNum_any _ _).mono ?_; rintro e w' ⟨rfl, rfl⟩) | (go_at_call 38; refine (isOneOf_any _ _ _).mono ?_; rintro e w' ⟨rfl, rfl⟩) | (go_at_call 37; refine (areRegs_any _ _ _ _).mono ?_; rintro e w' ⟨rfl, rfl⟩) | (go_at_call 39; refine (takesOk_any _ _ _).mono ?_; rintro e w' ⟨rfl, rfl⟩))
  all_goals go_ret
  all_goals exact ⟨by simp [*], by first | exact (Below.refl _ _).alloc (Nat.le_refl _) _ | exact Below.refl _ _⟩

set_option maxRecDepth 100000 in
theorem placeOk_11 (n pl ch : Int) (w : World) : Calls Tryd.prog 22 #[.iface 79 (.agg #[.int .i64 n]), .int .i64 pl, .int .i64 ch] w fun e w' => e = .returned (.bool (Plain.oneB n pl)) ∧ Below w.heap.size w w' := by
  have n1 := fun w => asn_1 79 (.agg #[.int .i64 n]) w (by decide)
  have n2 := fun w => asn_2 79 (.agg #[.int .i64 n]) w (by decide)
  have n3 := fun w => asn_3 79 (.agg #[.int .i64 n]) w (by decide)
  have n4 := fun w => asn_4 79 (.agg #[.int .i64 n]) w (by decide)
  have n5 := fun w => asn_5 79 (.agg #[.int .i64 n]) w (by decide)
  have n6 := fun w => asn_6 79 (.agg #[.int .i64 n]) w (by decide)
  have n7 := fun w => asn_7 79 (.agg #[.int .i64 n]) w (by decide)
  have n8 := fun w => asn_8 79 (.agg #[.int .i64 n]) w (by decide)
  have n9 := fun w => asn_9 79 (.agg #[.int .i64 n]) w (by decide)
  have n10 := fun w => asn_10 79 (.agg #[.int .i64 n]) w (by decide)
  have y := fun w => asy_11 (.agg #[.int .i64 n]) w
  go_enter Tryd.func22, Tryd.ntmps22
  go_wp2_with (first | (go_at_call 35; refine (isReg_any _ _).mono ?_; rintro e w' ⟨rfl, rfl⟩) | (go_at_call 36; refine (isNum_any _ _).mono ?_; rintro e w' ⟨rfl, rfl⟩) | (go_at_call 38; refine (isOneOf_any _ _ _).mono ?_; rintro e w' ⟨rfl, rfl⟩) | (go_at_call 37; refine (areRegs_any _ _ _ _).mono ?_; rintro e w' ⟨rfl, rfl⟩) | (go_at_call 39; refine (takesOk_any _ _ _).mono ?_; rintro e w' ⟨rfl, rfl⟩))
  all_goals go_ret
  all_goals exact ⟨by simp [*], by first | exact (Below.refl _ _).alloc (Nat.le_refl _) _ | exact Below.refl _ _⟩

set_option maxRecDepth 100000 in
theorem placeOk_12 (a n pl ch : Int) (w : World) : Calls Tryd.prog 22 #[.iface 80 (.agg #[.int .i64 a, .int .i64 n]), .int .i64 pl, .int .i64 ch] w fun e w' => e = .returned (.bool (Plain.regB a && Plain.oneB n pl)) ∧ Below w.heap.size w w' := by
  have n1 := fun w => asn_1 80 (.agg #[.int .i64 a, .int .i64 n]) w (by decide)
  have n2 := fun w => asn_2 80 (.agg #[.int .i64 a, .int .i64 n]) w (by decide)
  have n3 := fun w => asn_3 80 (.agg #[.int .i64 a, .int .i64 n]) w (by decide)
  have n4 := fun w => asn_4 80 (.agg #[.int .i64 a, .int .i64 n]) w (by decide)
  have n5 := fun w => asn_5 80 (.agg #[.int .i64 a, .int .i64 n]) w (by decide)
  have n6 := fun w => asn_6 80 (.agg #[.int .i64 a, .int .i64 n]) w (by decide)
  have n7 := fun w => asn_7 80 (.agg #[.int .i64 a, .int .i64 n]) w (by decide)
  have n8 := fun w => asn_8 80 (.agg #[.int .i64 a, .int .i64 n]) w (by decide)
  have n9 := fun w => asn_9 80 (.agg #[.int .i64 a, .int .i64 n]) w (by decide)
  have n10 := fun w => asn_10 80 (.agg #[.int .i64 a, .int .i64 n]) w (by decide)
  have n11 := fun w => asn_11 80 (.agg #[.int .i64 a, .int .i64 n]) w (by decide)
  have y := fun w => asy_12 (.agg #[.int .i64 a, .int .i64 n]) w
  go_enter Tryd.func22, Tryd.ntmps22
  go_wp2_with (first | (go_at_call 35; refine (isReg_any _ _).mono ?_; rintro e w' ⟨rfl, rfl⟩) | (go_at_call 36; refine (isNum_any _ _).mono ?_; rintro e w' ⟨rfl, rfl⟩) | (go_at_call 38; refine (isOneOf_any _ _ _).mono ?_; rintro e w' ⟨rfl, rfl⟩) | (go_at_call 37; refine (areRegs_any _ _ _ _).mono ?_; rintro e w' ⟨rfl, rfl⟩) | (go_at_call 39; refine (takesOk_any _ _ _).mono ?_; rintro e w' ⟨rfl, rfl⟩))
  all_goals go_ret
  all_goals exact ⟨by simp [*], by first | exact (Below.refl _ _).alloc (Nat.le_refl _) _ | exact Below.refl _ _⟩

set_option maxRecDepth 100000 in
theorem placeOk_13 ( pl ch : Int) (w : World) : Calls Tryd.prog 22 #[.iface 82 (.agg #[]), .int .i64 pl, .int .i64 ch] w fun e w' => e = .returned (.bool (true)) ∧ Below w.heap.size w w' := by
  have n1 := fun w => asn_1 82 (.agg #[]) w (by decide)
  have n2 := fun w => asn_2 82 (.agg #[]) w (by decide)
  have n3 := fun w => asn_3 82 (.agg #[]) w (by decide)
  have n4 := fun w => asn_4 82 (.agg #[]) w (by decide)
  have n5 := fun w => asn_5 82 (.agg #[]) w (by decide)
  have n6 := fun w => asn_6 82 (.agg #[]) w (by decide)
  have n7 := fun w => asn_7 82 (.agg #[]) w (by decide)
  have n8 := fun w => asn_8 82 (.agg #[]) w (by decide)
  have n9 := fun w => asn_9 82 (.agg #[]) w (by decide)
  have n10 := fun w => asn_10 82 (.agg #[]) w (by decide)
  have n11 := fun w => asn_11 82 (.agg #[]) w (by decide)
  have n12 := fun w => asn_12 82 (.agg #[]) w (by decide)
  have y := fun w => asy_13 (.agg #[]) w
  go_enter Tryd.func22, Tryd.ntmps22
  go_wp2_with (first | (go_at_call 35; refine (isReg_any _ _).mono ?_; rintro e w' ⟨rfl, rfl⟩) | (go_at_call 36; refine (isNum_any _ _).mono ?_; rintro e w' ⟨rfl, rfl⟩) | (go_at_call 38; refine (isOneOf_any _ _ _).mono ?_; rintro e w' ⟨rfl, rfl⟩) | (go_at_call 37; refine (areRegs_any _ _ _ _).mono ?_; rintro e w' ⟨rfl, rfl⟩) | (go_at_call 39; refine (takesOk_any _ _ _).mono ?_; rintro e w' ⟨rfl, rfl⟩))
  all_goals go_ret
  all_goals exact ⟨by simp [*], by first | exact (Below.refl _ _).alloc (Nat.le_refl _) _ | exact Below.refl _ _⟩

end Go.Proofs.YtfhhlahfldddfafDoor
