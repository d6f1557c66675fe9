/- Chapter 1: placeOk of each kind of place, for every argument, in every world. No condition. -/
import Derived.Test.YtajblippcnidiaaGreatDoorChecked
import Derived.WalkKit
import Derived.KernelRfl
import Derived.WalkSpells
import Derived.WalkLawsBesides
import Derived.Test.YtajblippcnidiaaGreatDoorPlain
import Derived.Test.YtajblippcnidiaaGreatDoorLeaves
namespace Go.Proofs.YtajblippcnidiaaGreatDoor
set_option linter.unusedSimpArgs false
set_option linter.unusedVariables false
set_option maxRecDepth 100000
open Go.RowKit

theorem asy_1 (v : Value) (w : World) : (Instr.typeAssert (.iface 106 v) 91 106 true).run Tryz.prog w = .ok (.tuple #[v, .bool true]) w := by kernel_rfl
theorem zero_1 (w : World) : (do pure (Value.tuple #[← zeroValue 106, .bool false]) : Sem Value).run Tryz.prog w = .ok (.tuple #[.agg #[.int .i64 0, .int .i64 0], .bool false]) w := by kernel_rfl
theorem asn_1 (u : TypeId) (v : Value) (w : World) (h : u ≠ 106) : (Instr.typeAssert (.iface u v) 91 106 true).run Tryz.prog w = .ok (.tuple #[.agg #[.int .i64 0, .int .i64 0], .bool false]) w := by
  have e : (Instr.typeAssert (.iface u v) 91 106 true).run Tryz.prog w = (if u = 106 then (pure (Value.tuple #[v, .bool true]) : Sem Value) else (do pure (Value.tuple #[← zeroValue 106, .bool false]))).run Tryz.prog w := by kernel_rfl
  rw [e, if_neg h]
  exact zero_1 w

theorem asy_2 (v : Value) (w : World) : (Instr.typeAssert (.iface 108 v) 91 108 true).run Tryz.prog w = .ok (.tuple #[v, .bool true]) w := by kernel_rfl
theorem zero_2 (w : World) : (do pure (Value.tuple #[← zeroValue 108, .bool false]) : Sem Value).run Tryz.prog w = .ok (.tuple #[.agg #[.int .i64 0, .int .i64 0, .int .i64 0], .bool false]) w := by kernel_rfl
theorem asn_2 (u : TypeId) (v : Value) (w : World) (h : u ≠ 108) : (Instr.typeAssert (.iface u v) 91 108 true).run Tryz.prog w = .ok (.tuple #[.agg #[.int .i64 0, .int .i64 0, .int .i64 0], .bool false]) w := by
  have e : (Instr.typeAssert (.iface u v) 91 108 true).run Tryz.prog w = (if u = 108 then (pure (Value.tuple #[v, .bool true]) : Sem Value) else (do pure (Value.tuple #[← zeroValue 108, .bool false]))).run Tryz.prog w := by kernel_rfl
  rw [e, if_neg h]
  exact zero_2 w

theorem asy_3 (v : Value) (w : World) : (Instr.typeAssert (.iface 109 v) 91 109 true).run Tryz.prog w = .ok (.tuple #[v, .bool true]) w := by kernel_rfl
theorem zero_3 (w : World) : (do pure (Value.tuple #[← zeroValue 109, .bool false]) : Sem Value).run Tryz.prog w = .ok (.tuple #[.agg #[.int .i64 0, .int .i64 0, .int .i64 0], .bool false]) w := by kernel_rfl
theorem asn_3 (u : TypeId) (v : Value) (w : World) (h : u ≠ 109) : (Instr.typeAssert (.iface u v) 91 109 true).run Tryz.prog w = .ok (.tuple #[.agg #[.int .i64 0, .int .i64 0, .int .i64 0], .bool false]) w := by
  have e : (Instr.typeAssert (.iface u v) 91 109 true).run Tryz.prog w = (if u = 109 then (pure (Value.tuple #[v, .bool true]) : Sem Value) else (do pure (Value.tuple #[← zeroValue 109, .bool false]))).run Tryz.prog w := by kernel_rfl
  rw [e, if_neg h]
  exact zero_3 w

theorem asy_4 (v : Value) (w : World) : (Instr.typeAssert (.iface 110 v) 91 110 true).run Tryz.prog w = .ok (.tuple #[v, .bool true]) w := by kernel_rfl
theorem zero_4 (w : World) : (do pure (Value.tuple #[← zeroValue 110, .bool false]) : Sem Value).run Tryz.prog w = .ok (.tuple #[.agg #[.int .i64 0, .int .i64 0, .int .i64 0], .bool false]) w := by kernel_rfl
theorem asn_4 (u : TypeId) (v : Value) (w : World) (h : u ≠ 110) : (Instr.typeAssert (.iface u v) 91 110 true).run Tryz.prog w = .ok (.tuple #[.agg #[.int .i64 0, .int .i64 0, .int .i64 0], .bool false]) w := by
  have e : (Instr.typeAssert (.iface u v) 91 110 true).run Tryz.prog w = (if u = 110 then (pure (Value.tuple #[v, .bool true]) : Sem Value) else (do pure (Value.tuple #[← zeroValue 110, .bool false]))).run Tryz.prog w := by kernel_rfl
  rw [e, if_neg h]
  exact zero_4 w

theorem asy_5 (v : Value) (w : World) : (Instr.typeAssert (.iface 112 v) 91 112 true).run Tryz.prog w = .ok (.tuple #[v, .bool true]) w := by kernel_rfl
theorem zero_5 (w : World) : (do pure (Value.tuple #[← zeroValue 112, .bool false]) : Sem Value).run Tryz.prog w = .ok (.tuple #[.agg #[.int .i64 0, .int .i64 0], .bool false]) w := by kernel_rfl
theorem asn_5 (u : TypeId) (v : Value) (w : World) (h : u ≠ 112) : (Instr.typeAssert (.iface u v) 91 112 true).run Tryz.prog w = .ok (.tuple #[.agg #[.int .i64 0, .int .i64 0], .bool false]) w := by
  have e : (Instr.typeAssert (.iface u v) 91 112 true).run Tryz.prog w = (if u = 112 then (pure (Value.tuple #[v, .bool true]) : Sem Value) else (do pure (Value.tuple #[← zeroValue 112, .bool false]))).run Tryz.prog w := by kernel_rfl
  rw [e, if_neg h]
  exact zero_5 w

theorem asy_6 (v : Value) (w : World) : (Instr.typeAssert (.iface 114 v) 91 114 true).run Tryz.prog w = .ok (.tuple #[v, .bool true]) w := by kernel_rfl
theorem zero_6 (w : World) : (do pure (Value.tuple #[← zeroValue 114, .bool false]) : Sem Value).run Tryz.prog w = .ok (.tuple #[.agg #[.int .i64 0, .int .i64 0, .int .i64 0], .bool false]) w := by kernel_rfl
theorem asn_6 (u : TypeId) (v : Value) (w : World) (h : u ≠ 114) : (Instr.typeAssert (.iface u v) 91 114 true).run Tryz.prog w = .ok (.tuple #[.agg #[.int .i64 0, .int .i64 0, .int .i64 0], .bool false]) w := by
  have e : (Instr.typeAssert (.iface u v) 91 114 true).run Tryz.prog w = (if u = 114 then (pure (Value.tuple #[v, .bool true]) : Sem Value) else (do pure (Value.tuple #[← zeroValue 114, .bool false]))).run Tryz.prog w := by kernel_rfl
  rw [e, if_neg h]
  exact zero_6 w

theorem asy_7 (v : Value) (w : World) : (Instr.typeAssert (.iface 116 v) 91 116 true).run Tryz.prog w = .ok (.tuple #[v, .bool true]) w := by kernel_rfl
theorem zero_7 (w : World) : (do pure (Value.tuple #[← zeroValue 116, .bool false]) : Sem Value).run Tryz.prog w = .ok (.tuple #[.agg #[.int .i64 0, .int .i64 0, .int .i64 0], .bool false]) w := by kernel_rfl
theorem asn_7 (u : TypeId) (v : Value) (w : World) (h : u ≠ 116) : (Instr.typeAssert (.iface u v) 91 116 true).run Tryz.prog w = .ok (.tuple #[.agg #[.int .i64 0, .int .i64 0, .int .i64 0], .bool false]) w := by
  have e : (Instr.typeAssert (.iface u v) 91 116 true).run Tryz.prog w = (if u = 116 then (pure (Value.tuple #[v, .bool true]) : Sem Value) else (do pure (Value.tuple #[← zeroValue 116, .bool false]))).run Tryz.prog w := by kernel_rfl
  rw [e, if_neg h]
  exact zero_7 w

theorem asy_8 (v : Value) (w : World) : (Instr.typeAssert (.iface 117 v) 91 117 true).run Tryz.prog w = .ok (.tuple #[v, .bool true]) w := by kernel_rfl
theorem zero_8 (w : World) : (do pure (Value.tuple #[← zeroValue 117, .bool false]) : Sem Value).run Tryz.prog w = .ok (.tuple #[.agg #[.int .i64 0, .int .i64 0, .int .i64 0], .bool false]) w := by kernel_rfl
theorem asn_8 (u : TypeId) (v : Value) (w : World) (h : u ≠ 117) : (Instr.typeAssert (.iface u v) 91 117 true).run Tryz.prog w = .ok (.tuple #[.agg #[.int .i64 0, .int .i64 0, .int .i64 0], .bool false]) w := by
  have e : (Instr.typeAssert (.iface u v) 91 117 true).run Tryz.prog w = (if u = 117 then (pure (Value.tuple #[v, .bool true]) : Sem Value) else (do pure (Value.tuple #[← zeroValue 117, .bool false]))).run Tryz.prog w := by kernel_rfl
  rw [e, if_neg h]
  exact zero_8 w

theorem asy_9 (v : Value) (w : World) : (Instr.typeAssert (.iface 119 v) 91 119 true).run Tryz.prog w = .ok (.tuple #[v, .bool true]) w := by kernel_rfl
theorem zero_9 (w : World) : (do pure (Value.tuple #[← zeroValue 119, .bool false]) : Sem Value).run Tryz.prog w = .ok (.tuple #[.agg #[.int .i64 0], .bool false]) w := by kernel_rfl
theorem asn_9 (u : TypeId) (v : Value) (w : World) (h : u ≠ 119) : (Instr.typeAssert (.iface u v) 91 119 true).run Tryz.prog w = .ok (.tuple #[.agg #[.int .i64 0], .bool false]) w := by
  have e : (Instr.typeAssert (.iface u v) 91 119 true).run Tryz.prog w = (if u = 119 then (pure (Value.tuple #[v, .bool true]) : Sem Value) else (do pure (Value.tuple #[← zeroValue 119, .bool false]))).run Tryz.prog w := by kernel_rfl
  rw [e, if_neg h]
  exact zero_9 w

theorem asy_10 (v : Value) (w : World) : (Instr.typeAssert (.iface 121 v) 91 121 true).run Tryz.prog w = .ok (.tuple #[v, .bool true]) w := by kernel_rfl
theorem zero_10 (w : World) : (do pure (Value.tuple #[← zeroValue 121, .bool false]) : Sem Value).run Tryz.prog w = .ok (.tuple #[.agg #[.int .i64 0], .bool false]) w := by kernel_rfl
theorem asn_10 (u : TypeId) (v : Value) (w : World) (h : u ≠ 121) : (Instr.typeAssert (.iface u v) 91 121 true).run Tryz.prog w = .ok (.tuple #[.agg #[.int .i64 0], .bool false]) w := by
  have e : (Instr.typeAssert (.iface u v) 91 121 true).run Tryz.prog w = (if u = 121 then (pure (Value.tuple #[v, .bool true]) : Sem Value) else (do pure (Value.tuple #[← zeroValue 121, .bool false]))).run Tryz.prog w := by kernel_rfl
  rw [e, if_neg h]
  exact zero_10 w

theorem asy_11 (v : Value) (w : World) : (Instr.typeAssert (.iface 122 v) 91 122 true).run Tryz.prog w = .ok (.tuple #[v, .bool true]) w := by kernel_rfl
theorem zero_11 (w : World) : (do pure (Value.tuple #[← zeroValue 122, .bool false]) : Sem Value).run Tryz.prog w = .ok (.tuple #[.agg #[.int .i64 0], .bool false]) w := by kernel_rfl
theorem asn_11 (u : TypeId) (v : Value) (w : World) (h : u ≠ 122) : (Instr.typeAssert (.iface u v) 91 122 true).run Tryz.prog w = .ok (.tuple #[.agg #[.int .i64 0], .bool false]) w := by
  have e : (Instr.typeAssert (.iface u v) 91 122 true).run Tryz.prog w = (if u = 122 then (pure (Value.tuple #[v, .bool true]) : Sem Value) else (do pure (Value.tuple #[← zeroValue 122, .bool false]))).run Tryz.prog w := by kernel_rfl
  rw [e, if_neg h]
  exact zero_11 w

theorem asy_12 (v : Value) (w : World) : (Instr.typeAssert (.iface 123 v) 91 123 true).run Tryz.prog w = .ok (.tuple #[v, .bool true]) w := by kernel_rfl
theorem zero_12 (w : World) : (do pure (Value.tuple #[← zeroValue 123, .bool false]) : Sem Value).run Tryz.prog w = .ok (.tuple #[.agg #[.int .i64 0, .int .i64 0], .bool false]) w := by kernel_rfl
theorem asn_12 (u : TypeId) (v : Value) (w : World) (h : u ≠ 123) : (Instr.typeAssert (.iface u v) 91 123 true).run Tryz.prog w = .ok (.tuple #[.agg #[.int .i64 0, .int .i64 0], .bool false]) w := by
  have e : (Instr.typeAssert (.iface u v) 91 123 true).run Tryz.prog w = (if u = 123 then (pure (Value.tuple #[v, .bool true]) : Sem Value) else (do pure (Value.tuple #[← zeroValue 123, .bool false]))).run Tryz.prog w := by kernel_rfl
  rw [e, if_neg h]
  exact zero_12 w

theorem asy_13 (v : Value) (w : World) : (Instr.typeAssert (.iface 125 v) 91 125 true).run Tryz.prog w = .ok (.tuple #[v, .bool true]) w := by kernel_rfl
theorem zero_13 (w : World) : (do pure (Value.tuple #[← zeroValue 125, .bool false]) : Sem Value).run Tryz.prog w = .ok (.tuple #[.agg #[], .bool false]) w := by kernel_rfl
theorem asn_13 (u : TypeId) (v : Value) (w : World) (h : u ≠ 125) : (Instr.typeAssert (.iface u v) 91 125 true).run Tryz.prog w = .ok (.tuple #[.agg #[], .bool false]) w := by
  have e : (Instr.typeAssert (.iface u v) 91 125 true).run Tryz.prog w = (if u = 125 then (pure (Value.tuple #[v, .bool true]) : Sem Value) else (do pure (Value.tuple #[← zeroValue 125, .bool false]))).run Tryz.prog w := by kernel_rfl
  rw [e, if_neg h]
  exact zero_13 w

set_option maxRecDepth 100000 in
theorem placeOk_1 (r n pl ch : Int) (w : World) : Calls Tryz.prog 61 #[.iface 106 (.agg #[.int .i64 r, .int .i64 n]), .int .i64 pl, .int .i64 ch] w fun e w' => e = .returned (.bool (Plain.regB r && Plain.numB n)) ∧ Below w.heap.size w w' := by
  have y := fun w => asy_1 (.agg #[.int .i64 r, .int .i64 n]) w
  go_enter Tryz.func61, Tryz.ntmps61
  go_wp2_with (first | (go_at_call 70; refine (isReg_any _ _).mono ?_; rintro e w' ⟨rfl, rfl⟩) | (go_at_call 71; refine (isNum_any _ _).mono ?_; rintro e w' ⟨rfl, rfl⟩) | (go_at_call 73; refine (isOneOf_any _ _ _).mono ?_; rintro e w' ⟨rfl, rfl⟩) | (go_at_call 72; refine (areRegs_any _ _ _ _).mono ?_; rintro e w' ⟨rfl, rfl⟩) | (go_at_call 74; refine (takesOk_any _ _ _).mono ?_; rintro e w' ⟨rfl, rfl⟩))
  all_goals go_ret
  all_goals exact ⟨by simp [*], by first | exact (Below.refl _ _).alloc (Nat.le_refl _) _ | exact Below.refl _ _⟩

set_option maxRecDepth 100000 in
theorem placeOk_2 (r a b pl ch : Int) (w : World) : Calls Tryz.prog 61 #[.iface 108 (.agg #[.int .i64 r, .int .i64 a, .int .i64 b]), .int .i64 pl, .int .i64 ch] w fun e w' => e = .returned (.bool (Plain.areB r a b)) ∧ Below w.heap.size w w' := by
  have n1 := fun w => asn_1 108 (.agg #[.int .i64 r, .int .i64 a, .int .i64 b]) w (by decide)
  have y := fun w => asy_2 (.agg #[.int .i64 r, .int .i64 a, .int .i64 b]) w
  go_enter Tryz.func61, Tryz.ntmps61
  go_wp2_with (first | (go_at_call 70; refine (isReg_any _ _).mono ?_; rintro e w' ⟨rfl, rfl⟩) | (go_at_call 71; refine (isNum_any _ _).mono ?_; rintro e w' ⟨rfl, rfl⟩) | (go_at_call 73; refine (isOneOf_any _ _ _).mono ?_; rintro e w' ⟨rfl, rfl⟩) | (go_at_call 72; refine (areRegs_any _ _ _ _).mono ?_; rintro e w' ⟨rfl, rfl⟩) | (go_at_call 74; refine (takesOk_any _ _ _).mono ?_; rintro e w' ⟨rfl, rfl⟩))
  all_goals go_ret
  all_goals exact ⟨by simp [*], by first | exact (Below.refl _ _).alloc (Nat.le_refl _) _ | exact Below.refl _ _⟩

set_option maxRecDepth 100000 in
theorem placeOk_3 (r a b pl ch : Int) (w : World) : Calls Tryz.prog 61 #[.iface 109 (.agg #[.int .i64 r, .int .i64 a, .int .i64 b]), .int .i64 pl, .int .i64 ch] w fun e w' => e = .returned (.bool (Plain.areB r a b)) ∧ Below w.heap.size w w' := by
  have n1 := fun w => asn_1 109 (.agg #[.int .i64 r, .int .i64 a, .int .i64 b]) w (by decide)
  have n2 := fun w => asn_2 109 (.agg #[.int .i64 r, .int .i64 a, .int .i64 b]) w (by decide)
  have y := fun w => asy_3 (.agg #[.int .i64 r, .int .i64 a, .int .i64 b]) w
  go_enter Tryz.func61, Tryz.ntmps61
  go_wp2_with (first | (go_at_call 70; refine (isReg_any _ _).mono ?_; rintro e w' ⟨rfl, rfl⟩) | (go_at_call 71; refine (isNum_any _ _).mono ?_; rintro e w' ⟨rfl, rfl⟩) | (go_at_call 73; refine (isOneOf_any _ _ _).mono ?_; rintro e w' ⟨rfl, rfl⟩) | (go_at_call 72; refine (areRegs_any _ _ _ _).mono ?_; rintro e w' ⟨rfl, rfl⟩) | (go_at_call 74; refine (takesOk_any _ _ _).mono ?_; rintro e w' ⟨rfl, rfl⟩))
  all_goals go_ret
  all_goals exact ⟨by simp [*], by first | exact (Below.refl _ _).alloc (Nat.le_refl _) _ | exact Below.refl _ _⟩

set_option maxRecDepth 100000 in
theorem placeOk_4 (r a b pl ch : Int) (w : World) : Calls Tryz.prog 61 #[.iface 110 (.agg #[.int .i64 r, .int .i64 a, .int .i64 b]), .int .i64 pl, .int .i64 ch] w fun e w' => e = .returned (.bool (Plain.areB r a b)) ∧ Below w.heap.size w w' := by
  have n1 := fun w => asn_1 110 (.agg #[.int .i64 r, .int .i64 a, .int .i64 b]) w (by decide)
  have n2 := fun w => asn_2 110 (.agg #[.int .i64 r, .int .i64 a, .int .i64 b]) w (by decide)
  have n3 := fun w => asn_3 110 (.agg #[.int .i64 r, .int .i64 a, .int .i64 b]) w (by decide)
  have y := fun w => asy_4 (.agg #[.int .i64 r, .int .i64 a, .int .i64 b]) w
  go_enter Tryz.func61, Tryz.ntmps61
  go_wp2_with (first | (go_at_call 70; refine (isReg_any _ _).mono ?_; rintro e w' ⟨rfl, rfl⟩) | (go_at_call 71; refine (isNum_any _ _).mono ?_; rintro e w' ⟨rfl, rfl⟩) | (go_at_call 73; refine (isOneOf_any _ _ _).mono ?_; rintro e w' ⟨rfl, rfl⟩) | (go_at_call 72; refine (areRegs_any _ _ _ _).mono ?_; rintro e w' ⟨rfl, rfl⟩) | (go_at_call 74; refine (takesOk_any _ _ _).mono ?_; rintro e w' ⟨rfl, rfl⟩))
  all_goals go_ret
  all_goals exact ⟨by simp [*], by first | exact (Below.refl _ _).alloc (Nat.le_refl _) _ | exact Below.refl _ _⟩

set_option maxRecDepth 100000 in
theorem placeOk_5 (a n pl ch : Int) (w : World) : Calls Tryz.prog 61 #[.iface 112 (.agg #[.int .i64 a, .int .i64 n]), .int .i64 pl, .int .i64 ch] w fun e w' => e = .returned (.bool (Plain.regB a && Plain.oneB n ch)) ∧ Below w.heap.size w w' := by
  have n1 := fun w => asn_1 112 (.agg #[.int .i64 a, .int .i64 n]) w (by decide)
  have n2 := fun w => asn_2 112 (.agg #[.int .i64 a, .int .i64 n]) w (by decide)
  have n3 := fun w => asn_3 112 (.agg #[.int .i64 a, .int .i64 n]) w (by decide)
  have n4 := fun w => asn_4 112 (.agg #[.int .i64 a, .int .i64 n]) w (by decide)
  have y := fun w => asy_5 (.agg #[.int .i64 a, .int .i64 n]) w
  go_enter Tryz.func61, Tryz.ntmps61
  go_wp2_with (first | (go_at_call 70; refine (isReg_any _ _).mono ?_; rintro e w' ⟨rfl, rfl⟩) | (go_at_call 71; refine (isNum_any _ _).mono ?_; rintro e w' ⟨rfl, rfl⟩) | (go_at_call 73; refine (isOneOf_any _ _ _).mono ?_; rintro e w' ⟨rfl, rfl⟩) | (go_at_call 72; refine (areRegs_any _ _ _ _).mono ?_; rintro e w' ⟨rfl, rfl⟩) | (go_at_call 74; refine (takesOk_any _ _ _).mono ?_; rintro e w' ⟨rfl, rfl⟩))
  all_goals go_ret
  all_goals exact ⟨by simp [*], by first | exact (Below.refl _ _).alloc (Nat.le_refl _) _ | exact Below.refl _ _⟩

set_option maxRecDepth 100000 in
theorem placeOk_6 (r b n pl ch : Int) (w : World) : Calls Tryz.prog 61 #[.iface 114 (.agg #[.int .i64 r, .int .i64 b, .int .i64 n]), .int .i64 pl, .int .i64 ch] w fun e w' => e = .returned (.bool (Plain.takesB r b && Plain.oneB n ch)) ∧ Below w.heap.size w w' := by
  have n1 := fun w => asn_1 114 (.agg #[.int .i64 r, .int .i64 b, .int .i64 n]) w (by decide)
  have n2 := fun w => asn_2 114 (.agg #[.int .i64 r, .int .i64 b, .int .i64 n]) w (by decide)
  have n3 := fun w => asn_3 114 (.agg #[.int .i64 r, .int .i64 b, .int .i64 n]) w (by decide)
  have n4 := fun w => asn_4 114 (.agg #[.int .i64 r, .int .i64 b, .int .i64 n]) w (by decide)
  have n5 := fun w => asn_5 114 (.agg #[.int .i64 r, .int .i64 b, .int .i64 n]) w (by decide)
  have y := fun w => asy_6 (.agg #[.int .i64 r, .int .i64 b, .int .i64 n]) w
  go_enter Tryz.func61, Tryz.ntmps61
  go_wp2_with (first | (go_at_call 70; refine (isReg_any _ _).mono ?_; rintro e w' ⟨rfl, rfl⟩) | (go_at_call 71; refine (isNum_any _ _).mono ?_; rintro e w' ⟨rfl, rfl⟩) | (go_at_call 73; refine (isOneOf_any _ _ _).mono ?_; rintro e w' ⟨rfl, rfl⟩) | (go_at_call 72; refine (areRegs_any _ _ _ _).mono ?_; rintro e w' ⟨rfl, rfl⟩) | (go_at_call 74; refine (takesOk_any _ _ _).mono ?_; rintro e w' ⟨rfl, rfl⟩))
  all_goals go_ret
  all_goals exact ⟨by simp [*], by first | exact (Below.refl _ _).alloc (Nat.le_refl _) _ | exact Below.refl _ _⟩

set_option maxRecDepth 100000 in
theorem placeOk_7 (r a n pl ch : Int) (w : World) : Calls Tryz.prog 61 #[.iface 116 (.agg #[.int .i64 r, .int .i64 a, .int .i64 n]), .int .i64 pl, .int .i64 ch] w fun e w' => e = .returned (.bool (Plain.regB r && Plain.regB a && Plain.oneB n ch)) ∧ Below w.heap.size w w' := by
  have n1 := fun w => asn_1 116 (.agg #[.int .i64 r, .int .i64 a, .int .i64 n]) w (by decide)
  have n2 := fun w => asn_2 116 (.agg #[.int .i64 r, .int .i64 a, .int .i64 n]) w (by decide)
  have n3 := fun w => asn_3 116 (.agg #[.int .i64 r, .int .i64 a, .int .i64 n]) w (by decide)
  have n4 := fun w => asn_4 116 (.agg #[.int .i64 r, .int .i64 a, .int .i64 n]) w (by decide)
  have n5 := fun w => asn_5 116 (.agg #[.int .i64 r, .int .i64 a, .int .i64 n]) w (by decide)
  have n6 := fun w => asn_6 116 (.agg #[.int .i64 r, .int .i64 a, .int .i64 n]) w (by decide)
  have y := fun w => asy_7 (.agg #[.int .i64 r, .int .i64 a, .int .i64 n]) w
  go_enter Tryz.func61, Tryz.ntmps61
  go_wp2_with (first | (go_at_call 70; refine (isReg_any _ _).mono ?_; rintro e w' ⟨rfl, rfl⟩) | (go_at_call 71; refine (isNum_any _ _).mono ?_; rintro e w' ⟨rfl, rfl⟩) | (go_at_call 73; refine (isOneOf_any _ _ _).mono ?_; rintro e w' ⟨rfl, rfl⟩) | (go_at_call 72; refine (areRegs_any _ _ _ _).mono ?_; rintro e w' ⟨rfl, rfl⟩) | (go_at_call 74; refine (takesOk_any _ _ _).mono ?_; rintro e w' ⟨rfl, rfl⟩))
  all_goals go_ret
  all_goals exact ⟨by simp [*], by first | exact (Below.refl _ _).alloc (Nat.le_refl _) _ | exact Below.refl _ _⟩

set_option maxRecDepth 100000 in
theorem placeOk_8 (r b n pl ch : Int) (w : World) : Calls Tryz.prog 61 #[.iface 117 (.agg #[.int .i64 r, .int .i64 b, .int .i64 n]), .int .i64 pl, .int .i64 ch] w fun e w' => e = .returned (.bool (Plain.takesB r b && Plain.oneB n ch)) ∧ Below w.heap.size w w' := by
  have n1 := fun w => asn_1 117 (.agg #[.int .i64 r, .int .i64 b, .int .i64 n]) w (by decide)
  have n2 := fun w => asn_2 117 (.agg #[.int .i64 r, .int .i64 b, .int .i64 n]) w (by decide)
  have n3 := fun w => asn_3 117 (.agg #[.int .i64 r, .int .i64 b, .int .i64 n]) w (by decide)
  have n4 := fun w => asn_4 117 (.agg #[.int .i64 r, .int .i64 b, .int .i64 n]) w (by decide)
  have n5 := fun w => asn_5 117 (.agg #[.int .i64 r, .int .i64 b, .int .i64 n]) w (by decide)
  have n6 := fun w => asn_6 117 (.agg #[.int .i64 r, .int .i64 b, .int .i64 n]) w (by decide)
  have n7 := fun w => asn_7 117 (.agg #[.int .i64 r, .int .i64 b, .int .i64 n]) w (by decide)
  have y := fun w => asy_8 (.agg #[.int .i64 r, .int .i64 b, .int .i64 n]) w
  go_enter Tryz.func61, Tryz.ntmps61
  go_wp2_with (first | (go_at_call 70; refine (isReg_any _ _).mono ?_; rintro e w' ⟨rfl, rfl⟩) | (go_at_call 71; refine (isNum_any _ _).mono ?_; rintro e w' ⟨rfl, rfl⟩) | (go_at_call 73; refine (isOneOf_any _ _ _).mono ?_; rintro e w' ⟨rfl, rfl⟩) | (go_at_call 72; refine (areRegs_any _ _ _ _).mono ?_; rintro e w' ⟨rfl, rfl⟩) | (go_at_call 74; refine (takesOk_any _ _ _).mono ?_; rintro e w' ⟨rfl, rfl⟩))
  all_goals go_ret
  all_goals exact ⟨by simp [*], by first | exact (Below.refl _ _).alloc (Nat.le_refl _) _ | exact Below.refl _ _⟩

set_option maxRecDepth 100000 in
theorem placeOk_9 (n pl ch : Int) (w : World) : Calls Tryz.prog 61 #[.iface 119 (.agg #[.int .i64 n]), .int .i64 pl, .int .i64 ch] w fun e w' => e = .returned (.bool (Plain.oneB n ch)) ∧ Below w.heap.size w w' := by
  have n1 := fun w => asn_1 119 (.agg #[.int .i64 n]) w (by decide)
  have n2 := fun w => asn_2 119 (.agg #[.int .i64 n]) w (by decide)
  have n3 := fun w => asn_3 119 (.agg #[.int .i64 n]) w (by decide)
  have n4 := fun w => asn_4 119 (.agg #[.int .i64 n]) w (by decide)
  have n5 := fun w => asn_5 119 (.agg #[.int .i64 n]) w (by decide)
  have n6 := fun w => asn_6 119 (.agg #[.int .i64 n]) w (by decide)
  have n7 := fun w => asn_7 119 (.agg #[.int .i64 n]) w (by decide)
  have n8 := fun w => asn_8 119 (.agg #[.int .i64 n]) w (by decide)
  have y := fun w => asy_9 (.agg #[.int .i64 n]) w
  go_enter Tryz.func61, Tryz.ntmps61
  go_wp2_with (first | (go_at_call 70; refine (isReg_any _ _).mono ?_; rintro e w' ⟨rfl, rfl⟩) | (go_at_call 71; refine (isNum_any _ _).mono ?_; rintro e w' ⟨rfl, rfl⟩) | (go_at_call 73; refine (isOneOf_any _ _ _).mono ?_; rintro e w' ⟨rfl, rfl⟩) | (go_at_call 72; refine (areRegs_any _ _ _ _).mono ?_; rintro e w' ⟨rfl, rfl⟩) | (go_at_call 74; refine (takesOk_any _ _ _).mono ?_; rintro e w' ⟨rfl, rfl⟩))
  all_goals go_ret
  all_goals exact ⟨by simp [*], by first | exact (Below.refl _ _).alloc (Nat.le_refl _) _ | exact Below.refl _ _⟩

set_option maxRecDepth 100000 in
theorem placeOk_10 (a pl ch : Int) (w : World) : Calls Tryz.prog 61 #[.iface 121 (.agg #[.int .i64 a]), .int .i64 pl, .int .i64 ch] w fun e w' => e = .returned (.bool (Plain.regB a)) ∧ Below w.heap.size w w' := by
  have n1 := fun w => asn_1 121 (.agg #[.int .i64 a]) w (by decide)
  have n2 := fun w => asn_2 121 (.agg #[.int .i64 a]) w (by decide)
  have n3 := fun w => asn_3 121 (.agg #[.int .i64 a]) w (by decide)
  have n4 := fun w => asn_4 121 (.agg #[.int .i64 a]) w (by decide)
  have n5 := fun w => asn_5 121 (.agg #[.int .i64 a]) w (by decide)
  have n6 := fun w => asn_6 121 (.agg #[.int .i64 a]) w (by decide)
  have n7 := fun w => asn_7 121 (.agg #[.int .i64 a]) w (by decide)
  have n8 := fun w => asn_8 121 (.agg #[.int .i64 a]) w (by decide)
  have n9 := fun w => asn_9 121 (.agg #[.int .i64 a]) w (by decide)
  have y := fun w => asy_10 (.agg #[.int .i64 a]) w
  go_enter Tryz.func61, Tryz.ntmps61
  go_wp2_with (first | (go_at_call 70; refine (isReg_any _ _).mono ?_; rintro e w' ⟨rfl, rfl⟩) | (go_at_call 71; refine (isNum_any _ _).mono ?_; rintro e w' ⟨rfl, rfl⟩) | (go_at_call 73; refine (isOneOf_any _ _ _).mono ?_; rintro e w' ⟨rfl, rfl⟩) | (go_at_call 72; refine (areRegs_any _ _ _ _).mono ?_; rintro e w' ⟨rfl, rfl⟩) | (go_at_call 74; refine (takesOk_any _ _ _).mono ?_; rintro e w' ⟨rfl, rfl⟩))
  all_goals go_ret
  all_goals exact ⟨by simp [*], by first | exact (Below.refl _ _).alloc (Nat.le_refl _) _ | exact Below.refl _ _⟩

set_option maxRecDepth 100000 in
theorem placeOk_11 (n pl ch : Int) (w : World) : Calls Tryz.prog 61 #[.iface 122 (.agg #[.int .i64 n]), .int .i64 pl, .int .i64 ch] w fun e w' => e = .returned (.bool (Plain.oneB n pl)) ∧ Below w.heap.size w w' := by
  have n1 := fun w => asn_1 122 (.agg #[.int .i64 n]) w (by decide)
  have n2 := fun w => asn_2 122 (.agg #[.int .i64 n]) w (by decide)
  have n3 := fun w => asn_3 122 (.agg #[.int .i64 n]) w (by decide)
  have n4 := fun w => asn_4 122 (.agg #[.int .i64 n]) w (by decide)
  have n5 := fun w => asn_5 122 (.agg #[.int .i64 n]) w (by decide)
  have n6 := fun w => asn_6 122 (.agg #[.int .i64 n]) w (by decide)
  have n7 := fun w => asn_7 122 (.agg #[.int .i64 n]) w (by decide)
  have n8 := fun w => asn_8 122 (.agg #[.int .i64 n]) w (by decide)
  have n9 := fun w => asn_9 122 (.agg #[.int .i64 n]) w (by decide)
  have n10 := fun w => asn_10 122 (.agg #[.int .i64 n]) w (by decide)
  have y := fun w => asy_11 (.agg #[.int .i64 n]) w
  go_enter Tryz.func61, Tryz.ntmps61
  go_wp2_with (first | (go_at_call 70; refine (isReg_any _ _).mono ?_; rintro e w' ⟨rfl, rfl⟩) | (go_at_call 71; refine (isNum_any _ _).mono ?_; rintro e w' ⟨rfl, rfl⟩) | (go_at_call 73; refine (isOneOf_any _ _ _).mono ?_; rintro e w' ⟨rfl, rfl⟩) | (go_at_call 72; refine (areRegs_any _ _ _ _).mono ?_; rintro e w' ⟨rfl, rfl⟩) | (go_at_call 74; refine (takesOk_any _ _ _).mono ?_; rintro e w' ⟨rfl, rfl⟩))
  all_goals go_ret
  all_goals exact ⟨by simp [*], by first | exact (Below.refl _ _).alloc (Nat.le_refl _) _ | exact Below.refl _ _⟩

set_option maxRecDepth 100000 in
theorem placeOk_12 (a n pl ch : Int) (w : World) : Calls Tryz.prog 61 #[.iface 123 (.agg #[.int .i64 a, .int .i64 n]), .int .i64 pl, .int .i64 ch] w fun e w' => e = .returned (.bool (Plain.regB a && Plain.oneB n pl)) ∧ Below w.heap.size w w' := by
  have n1 := fun w => asn_1 123 (.agg #[.int .i64 a, .int .i64 n]) w (by decide)
  have n2 := fun w => asn_2 123 (.agg #[.int .i64 a, .int .i64 n]) w (by decide)
  have n3 := fun w => asn_3 123 (.agg #[.int .i64 a, .int .i64 n]) w (by decide)
  have n4 := fun w => asn_4 123 (.agg #[.int .i64 a, .int .i64 n]) w (by decide)
  have n5 := fun w => asn_5 123 (.agg #[.int .i64 a, .int .i64 n]) w (by decide)
  have n6 := fun w => asn_6 123 (.agg #[.int .i64 a, .int .i64 n]) w (by decide)
  have n7 := fun w => asn_7 123 (.agg #[.int .i64 a, .int .i64 n]) w (by decide)
  have n8 := fun w => asn_8 123 (.agg #[.int .i64 a, .int .i64 n]) w (by decide)
  have n9 := fun w => asn_9 123 (.agg #[.int .i64 a, .int .i64 n]) w (by decide)
  have n10 := fun w => asn_10 123 (.agg #[.int .i64 a, .int .i64 n]) w (by decide)
  have n11 := fun w => asn_11 123 (.agg #[.int .i64 a, .int .i64 n]) w (by decide)
  have y := fun w => asy_12 (.agg #[.int .i64 a, .int .i64 n]) w
  go_enter Tryz.func61, Tryz.ntmps61
  go_wp2_with (first | (go_at_call 70; refine (isReg_any _ _).mono ?_; rintro e w' ⟨rfl, rfl⟩) | (go_at_call 71; refine (isNum_any _ _).mono ?_; rintro e w' ⟨rfl, rfl⟩) | (go_at_call 73; refine (isOneOf_any _ _ _).mono ?_; rintro e w' ⟨rfl, rfl⟩) | (go_at_call 72; refine (areRegs_any _ _ _ _).mono ?_; rintro e w' ⟨rfl, rfl⟩) | (go_at_call 74; refine (takesOk_any _ _ _).mono ?_; rintro e w' ⟨rfl, rfl⟩))
  all_goals go_ret
  all_goals exact ⟨by simp [*], by first | exact (Below.refl _ _).alloc (Nat.le_refl _) _ | exact Below.refl _ _⟩

set_option maxRecDepth 100000 in
theorem placeOk_13 ( pl ch : Int) (w : World) : Calls Tryz.prog 61 #[.iface 125 (.agg #[]), .int .i64 pl, .int .i64 ch] w fun e w' => e = .returned (.bool (true)) ∧ Below w.heap.size w w' := by
  have n1 := fun w => asn_1 125 (.agg #[]) w (by decide)
  have n2 := fun w => asn_2 125 (.agg #[]) w (by decide)
  have n3 := fun w => asn_3 125 (.agg #[]) w (by decide)
  have n4 := fun w => asn_4 125 (.agg #[]) w (by decide)
  have n5 := fun w => asn_5 125 (.agg #[]) w (by decide)
  have n6 := fun w => asn_6 125 (.agg #[]) w (by decide)
  have n7 := fun w => asn_7 125 (.agg #[]) w (by decide)
  have n8 := fun w => asn_8 125 (.agg #[]) w (by decide)
  have n9 := fun w => asn_9 125 (.agg #[]) w (by decide)
  have n10 := fun w => asn_10 125 (.agg #[]) w (by decide)
  have n11 := fun w => asn_11 125 (.agg #[]) w (by decide)
  have n12 := fun w => asn_12 125 (.agg #[]) w (by decide)
  have y := fun w => asy_13 (.agg #[]) w
  go_enter Tryz.func61, Tryz.ntmps61
  go_wp2_with (first | (go_at_call 70; refine (isReg_any _ _).mono ?_; rintro e w' ⟨rfl, rfl⟩) | (go_at_call 71; refine (isNum_any _ _).mono ?_; rintro e w' ⟨rfl, rfl⟩) | (go_at_call 73; refine (isOneOf_any _ _ _).mono ?_; rintro e w' ⟨rfl, rfl⟩) | (go_at_call 72; refine (areRegs_any _ _ _ _).mono ?_; rintro e w' ⟨rfl, rfl⟩) | (go_at_call 74; refine (takesOk_any _ _ _).mono ?_; rintro e w' ⟨rfl, rfl⟩))
  all_goals go_ret
  all_goals exact ⟨by simp [*], by first | exact (Below.refl _ _).alloc (Nat.le_refl _) _ | exact Below.refl _ _⟩

end Go.Proofs.YtajblippcnidiaaGreatDoor
