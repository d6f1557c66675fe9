/- Chapter 1: placeOk of each kind of place, for every argument, in every world. No condition. -/
import Derived.Test.YtpmopmgpheefeaaGreatJG00
import Derived.Test.YtpmopmgpheefeaaGreatChecked
import Derived.WalkKit
import Derived.KernelRfl
import Derived.WalkSpells
import Derived.WalkLawsBesides
import Derived.Test.YtpmopmgpheefeaaGreatJLeaves
namespace Go.Proofs.YtpmopmgpheefeaaGreat
set_option linter.unusedSimpArgs false
set_option linter.unusedVariables false
set_option maxRecDepth 100000
open Go.RowKit
theorem asy_1 (v : Value) (w : World) : (Instr.typeAssert (.iface 150 v) 141 150 true).run Tryz.prog w = .ok (.tuple #[v, .bool true]) w := by kernel_rfl
theorem zero_1 (w : World) : (do pure (Value.tuple #[← zeroValue 150, .bool false]) : Sem Value).run Tryz.prog w = .ok (.tuple #[.agg #[.int .i64 0, .int .i64 0], .bool false]) w := by kernel_rfl
theorem asn_1 (u : TypeId) (v : Value) (w : World) (h : u ≠ 150) : (Instr.typeAssert (.iface u v) 141 150 true).run Tryz.prog w = .ok (.tuple #[.agg #[.int .i64 0, .int .i64 0], .bool false]) w := by
 have e : (Instr.typeAssert (.iface u v) 141 150 true).run Tryz.prog w = (if u = 150 then (pure (Value.tuple #[v, .bool true]) : Sem Value) else (do pure (Value.tuple #[← zeroValue 150, .bool false]))).run Tryz.prog w := by kernel_rfl
 rw [e, if_neg h]
 exact zero_1 w
theorem asy_2 (v : Value) (w : World) : (Instr.typeAssert (.iface 152 v) 141 152 true).run Tryz.prog w = .ok (.tuple #[v, .bool true]) w := by kernel_rfl
theorem zero_2 (w : World) : (do pure (Value.tuple #[← zeroValue 152, .bool false]) : Sem Value).run Tryz.prog w = .ok (.tuple #[.agg #[.int .i64 0, .int .i64 0, .int .i64 0], .bool false]) w := by kernel_rfl
theorem asn_2 (u : TypeId) (v : Value) (w : World) (h : u ≠ 152) : (Instr.typeAssert (.iface u v) 141 152 true).run Tryz.prog w = .ok (.tuple #[.agg #[.int .i64 0, .int .i64 0, .int .i64 0], .bool false]) w := by
 have e : (Instr.typeAssert (.iface u v) 141 152 true).run Tryz.prog w = (if u = 152 then (pure (Value.tuple #[v, .bool true]) : Sem Value) else (do pure (Value.tuple #[← zeroValue 152, .bool false]))).run Tryz.prog w := by kernel_rfl
 rw [e, if_neg h]
 exact zero_2 w
theorem asy_3 (v : Value) (w : World) : (Instr.typeAssert (.iface 153 v) 141 153 true).run Tryz.prog w = .ok (.tuple #[v, .bool true]) w := by kernel_rfl
theorem zero_3 (w : World) : (do pure (Value.tuple #[← zeroValue 153, .bool false]) : Sem Value).run Tryz.prog w = .ok (.tuple #[.agg #[.int .i64 0, .int .i64 0, .int .i64 0], .bool false]) w := by kernel_rfl
theorem asn_3 (u : TypeId) (v : Value) (w : World) (h : u ≠ 153) : (Instr.typeAssert (.iface u v) 141 153 true).run Tryz.prog w = .ok (.tuple #[.agg #[.int .i64 0, .int .i64 0, .int .i64 0], .bool false]) w := by
 have e : (Instr.typeAssert (.iface u v) 141 153 true).run Tryz.prog w = (if u = 153 then (pure (Value.tuple #[v, .bool true]) : Sem Value) else (do pure (Value.tuple #[← zeroValue 153, .bool false]))).run Tryz.prog w := by kernel_rfl
 rw [e, if_neg h]
 exact zero_3 w
theorem asy_4 (v : Value) (w : World) : (Instr.typeAssert (.iface 154 v) 141 154 true).run Tryz.prog w = .ok (.tuple #[v, .bool true]) w := by kernel_rfl
theorem zero_4 (w : World) : (do pure (Value.tuple #[← zeroValue 154, .bool false]) : Sem Value).run Tryz.prog w = .ok (.tuple #[.agg #[.int .i64 0, .int .i64 0, .int .i64 0], .bool false]) w := by kernel_rfl
theorem asn_4 (u : TypeId) (v : Value) (w : World) (h : u ≠ 154) : (Instr.typeAssert (.iface u v) 141 154 true).run Tryz.prog w = .ok (.tuple #[.agg #[.int .i64 0, .int .i64 0, .int .i64 0], .bool false]) w := by
 have e : (Instr.typeAssert (.iface u v) 141 154 true).run Tryz.prog w = (if u = 154 then (pure (Value.tuple #[v, .bool true]) : Sem Value) else (do pure (Value.tuple #[← zeroValue 154, .bool false]))).run Tryz.prog w := by kernel_rfl
 rw [e, if_neg h]
 exact zero_4 w
theorem asy_5 (v : Value) (w : World) : (Instr.typeAssert (.iface 156 v) 141 156 true).run Tryz.prog w = .ok (.tuple #[v, .bool true]) w := by kernel_rfl
theorem zero_5 (w : World) : (do pure (Value.tuple #[← zeroValue 156, .bool false]) : Sem Value).run Tryz.prog w = .ok (.tuple #[.agg #[.int .i64 0, .int .i64 0], .bool false]) w := by kernel_rfl
theorem asn_5 (u : TypeId) (v : Value) (w : World) (h : u ≠ 156) : (Instr.typeAssert (.iface u v) 141 156 true).run Tryz.prog w = .ok (.tuple #[.agg #[.int .i64 0, .int .i64 0], .bool false]) w := by
 have e : (Instr.typeAssert (.iface u v) 141 156 true).run Tryz.prog w = (if u = 156 then (pure (Value.tuple #[v, .bool true]) : Sem Value) else (do pure (Value.tuple #[← zeroValue 156, .bool false]))).run Tryz.prog w := by kernel_rfl
 rw [e, if_neg h]
 exact zero_5 w
theorem asy_6 (v : Value) (w : World) : (Instr.typeAssert (.iface 158 v) 141 158 true).run Tryz.prog w = .ok (.tuple #[v, .bool true]) w := by kernel_rfl
theorem zero_6 (w : World) : (do pure (Value.tuple #[← zeroValue 158, .bool false]) : Sem Value).run Tryz.prog w = .ok (.tuple #[.agg #[.int .i64 0, .int .i64 0, .int .i64 0], .bool false]) w := by kernel_rfl
theorem asn_6 (u : TypeId) (v : Value) (w : World) (h : u ≠ 158) : (Instr.typeAssert (.iface u v) 141 158 true).run Tryz.prog w = .ok (.tuple #[.agg #[.int .i64 0, .int .i64 0, .int .i64 0], .bool false]) w := by
 have e : (Instr.typeAssert (.iface u v) 141 158 true).run Tryz.prog w = (if u = 158 then (pure (Value.tuple #[v, .bool true]) : Sem Value) else (do pure (Value.tuple #[← zeroValue 158, .bool false]))).run Tryz.prog w := by kernel_rfl
 rw [e, if_neg h]
 exact zero_6 w
theorem asy_7 (v : Value) (w : World) : (Instr.typeAssert (.iface 160 v) 141 160 true).run Tryz.prog w = .ok (.tuple #[v, .bool true]) w := by kernel_rfl
theorem zero_7 (w : World) : (do pure (Value.tuple #[← zeroValue 160, .bool false]) : Sem Value).run Tryz.prog w = .ok (.tuple #[.agg #[.int .i64 0, .int .i64 0, .int .i64 0], .bool false]) w := by kernel_rfl
theorem asn_7 (u : TypeId) (v : Value) (w : World) (h : u ≠ 160) : (Instr.typeAssert (.iface u v) 141 160 true).run Tryz.prog w = .ok (.tuple #[.agg #[.int .i64 0, .int .i64 0, .int .i64 0], .bool false]) w := by
 have e : (Instr.typeAssert (.iface u v) 141 160 true).run Tryz.prog w = (if u = 160 then (pure (Value.tuple #[v, .bool true]) : Sem Value) else (do pure (Value.tuple #[← zeroValue 160, .bool false]))).run Tryz.prog w := by kernel_rfl
 rw [e, if_neg h]
 exact zero_7 w
theorem asy_8 (v : Value) (w : World) : (Instr.typeAssert (.iface 161 v) 141 161 true).run Tryz.prog w = .ok (.tuple #[v, .bool true]) w := by kernel_rfl
theorem zero_8 (w : World) : (do pure (Value.tuple #[← zeroValue 161, .bool false]) : Sem Value).run Tryz.prog w = .ok (.tuple #[.agg #[.int .i64 0, .int .i64 0, .int .i64 0], .bool false]) w := by kernel_rfl
theorem asn_8 (u : TypeId) (v : Value) (w : World) (h : u ≠ 161) : (Instr.typeAssert (.iface u v) 141 161 true).run Tryz.prog w = .ok (.tuple #[.agg #[.int .i64 0, .int .i64 0, .int .i64 0], .bool false]) w := by
 have e : (Instr.typeAssert (.iface u v) 141 161 true).run Tryz.prog w = (if u = 161 then (pure (Value.tuple #[v, .bool true]) : Sem Value) else (do pure (Value.tuple #[← zeroValue 161, .bool false]))).run Tryz.prog w := by kernel_rfl
 rw [e, if_neg h]
 exact zero_8 w
theorem asy_9 (v : Value) (w : World) : (Instr.typeAssert (.iface 163 v) 141 163 true).run Tryz.prog w = .ok (.tuple #[v, .bool true]) w := by kernel_rfl
theorem zero_9 (w : World) : (do pure (Value.tuple #[← zeroValue 163, .bool false]) : Sem Value).run Tryz.prog w = .ok (.tuple #[.agg #[.int .i64 0], .bool false]) w := by kernel_rfl
theorem asn_9 (u : TypeId) (v : Value) (w : World) (h : u ≠ 163) : (Instr.typeAssert (.iface u v) 141 163 true).run Tryz.prog w = .ok (.tuple #[.agg #[.int .i64 0], .bool false]) w := by
 have e : (Instr.typeAssert (.iface u v) 141 163 true).run Tryz.prog w = (if u = 163 then (pure (Value.tuple #[v, .bool true]) : Sem Value) else (do pure (Value.tuple #[← zeroValue 163, .bool false]))).run Tryz.prog w := by kernel_rfl
 rw [e, if_neg h]
 exact zero_9 w
theorem asy_10 (v : Value) (w : World) : (Instr.typeAssert (.iface 165 v) 141 165 true).run Tryz.prog w = .ok (.tuple #[v, .bool true]) w := by kernel_rfl
theorem zero_10 (w : World) : (do pure (Value.tuple #[← zeroValue 165, .bool false]) : Sem Value).run Tryz.prog w = .ok (.tuple #[.agg #[.int .i64 0], .bool false]) w := by kernel_rfl
theorem asn_10 (u : TypeId) (v : Value) (w : World) (h : u ≠ 165) : (Instr.typeAssert (.iface u v) 141 165 true).run Tryz.prog w = .ok (.tuple #[.agg #[.int .i64 0], .bool false]) w := by
 have e : (Instr.typeAssert (.iface u v) 141 165 true).run Tryz.prog w = (if u = 165 then (pure (Value.tuple #[v, .bool true]) : Sem Value) else (do pure (Value.tuple #[← zeroValue 165, .bool false]))).run Tryz.prog w := by kernel_rfl
 rw [e, if_neg h]
 exact zero_10 w
theorem asy_11 (v : Value) (w : World) : (Instr.typeAssert (.iface 166 v) 141 166 true).run Tryz.prog w = .ok (.tuple #[v, .bool true]) w := by kernel_rfl
theorem zero_11 (w : World) : (do pure (Value.tuple #[← zeroValue 166, .bool false]) : Sem Value).run Tryz.prog w = .ok (.tuple #[.agg #[.int .i64 0], .bool false]) w := by kernel_rfl
theorem asn_11 (u : TypeId) (v : Value) (w : World) (h : u ≠ 166) : (Instr.typeAssert (.iface u v) 141 166 true).run Tryz.prog w = .ok (.tuple #[.agg #[.int .i64 0], .bool false]) w := by
 have e : (Instr.typeAssert (.iface u v) 141 166 true).run Tryz.prog w = (if u = 166 then (pure (Value.tuple #[v, .bool true]) : Sem Value) else (do pure (Value.tuple #[← zeroValue 166, .bool false]))).run Tryz.prog w := by kernel_rfl
 rw [e, if_neg h]
 exact zero_11 w
theorem asy_12 (v : Value) (w : World) : (Instr.typeAssert (.iface 167 v) 141 167 true).run Tryz.prog w = .ok (.tuple #[v, .bool true]) w := by kernel_rfl
theorem zero_12 (w : World) : (do pure (Value.tuple #[← zeroValue 167, .bool false]) : Sem Value).run Tryz.prog w = .ok (.tuple #[.agg #[.int .i64 0, .int .i64 0], .bool false]) w := by kernel_rfl
theorem asn_12 (u : TypeId) (v : Value) (w : World) (h : u ≠ 167) : (Instr.typeAssert (.iface u v) 141 167 true).run Tryz.prog w = .ok (.tuple #[.agg #[.int .i64 0, .int .i64 0], .bool false]) w := by
 have e : (Instr.typeAssert (.iface u v) 141 167 true).run Tryz.prog w = (if u = 167 then (pure (Value.tuple #[v, .bool true]) : Sem Value) else (do pure (Value.tuple #[← zeroValue 167, .bool false]))).run Tryz.prog w := by kernel_rfl
 rw [e, if_neg h]
 exact zero_12 w
theorem asy_13 (v : Value) (w : World) : (Instr.typeAssert (.iface 169 v) 141 169 true).run Tryz.prog w = .ok (.tuple #[v, .bool true]) w := by kernel_rfl
set_option maxRecDepth 100000 in
theorem placeOk_1 (r n pl ch : Int) (w : World) : Calls Tryz.prog 108 #[.iface 150 (.agg #[.int .i64 r, .int .i64 n]), .int .i64 pl, .int .i64 ch] w fun e w' => e = .returned (.bool (Plain.regB r && Plain.numB n)) ∧ Below w.heap.size w w' := by
 have y := fun w => asy_1 (.agg #[.int .i64 r, .int .i64 n]) w
 go_enter Tryz.func108, Tryz.ntmps108
 go_wp2_with (first | (go_at_call 113; refine (isReg_any _ _).mono ?_; rintro e w' ⟨rfl, rfl⟩) | (go_at_call 114; refine (isNum_any _ _).mono ?_; rintro e w' ⟨rfl, rfl⟩) | (go_at_call 63; refine (isOneOf_any _ _ _).mono ?_; rintro e w' ⟨rfl, rfl⟩) | (go_at_call 115; refine (areRegs_any _ _ _ _).mono ?_; rintro e w' ⟨rfl, rfl⟩) | (go_at_call 116; refine (takesOk_any _ _ _).mono ?_; rintro e w' ⟨rfl, rfl⟩))
 all_goals go_ret
 all_goals exact ⟨by simp [*], by first | exact (Below.refl _ _).alloc (Nat.le_refl _) _ | exact Below.refl _ _⟩
set_option maxRecDepth 100000 in
theorem placeOk_2 (r a b pl ch : Int) (w : World) : Calls Tryz.prog 108 #[.iface 152 (.agg #[.int .i64 r, .int .i64 a, .int .i64 b]), .int .i64 pl, .int .i64 ch] w fun e w' => e = .returned (.bool (Plain.areB r a b)) ∧ Below w.heap.size w w' := by
 have n1 := fun w => asn_1 152 (.agg #[.int .i64 r, .int .i64 a, .int .i64 b]) w (by decide)
 have y := fun w => asy_2 (.agg #[.int .i64 r, .int .i64 a, .int .i64 b]) w
 go_enter Tryz.func108, Tryz.ntmps108
 go_wp2_with (first | (go_at_call 113; refine (isReg_any _ _).mono ?_; rintro e w' ⟨rfl, rfl⟩) | (go_at_call 114; refine (isNum_any _ _).mono ?_; rintro e w' ⟨rfl, rfl⟩) | (go_at_call 63; refine (isOneOf_any _ _ _).mono ?_; rintro e w' ⟨rfl, rfl⟩) | (go_at_call 115; refine (areRegs_any _ _ _ _).mono ?_; rintro e w' ⟨rfl, rfl⟩) | (go_at_call 116; refine (takesOk_any _ _ _).mono ?_; rintro e w' ⟨rfl, rfl⟩))
 all_goals go_ret
 all_goals exact ⟨by simp [*], by first | exact (Below.refl _ _).alloc (Nat.le_refl _) _ | exact Below.refl _ _⟩
set_option maxRecDepth 100000 in
theorem placeOk_3 (r a b pl ch : Int) (w : World) : Calls Tryz.prog 108 #[.iface 153 (.agg #[.int .i64 r, .int .i64 a, .int .i64 b]), .int .i64 pl, .int .i64 ch] w fun e w' => e = .returned (.bool (Plain.areB r a b)) ∧ Below w.heap.size w w' := by
 have n1 := fun w => asn_1 153 (.agg #[.int .i64 r, .int .i64 a, .int .i64 b]) w (by decide)
 have n2 := fun w => asn_2 153 (.agg #[.int .i64 r, .int .i64 a, .int .i64 b]) w (by decide)
 have y := fun w => asy_3 (.agg #[.int .i64 r, .int .i64 a, .int .i64 b]) w
 go_enter Tryz.func108, Tryz.ntmps108
 go_wp2_with (first | (go_at_call 113; refine (isReg_any _ _).mono ?_; rintro e w' ⟨rfl, rfl⟩) | (go_at_call 114; refine (isNum_any _ _).mono ?_; rintro e w' ⟨rfl, rfl⟩) | (go_at_call 63; refine (isOneOf_any _ _ _).mono ?_; rintro e w' ⟨rfl, rfl⟩) | (go_at_call 115; refine (areRegs_any _ _ _ _).mono ?_; rintro e w' ⟨rfl, rfl⟩) | (go_at_call 116; refine (takesOk_any _ _ _).mono ?_; rintro e w' ⟨rfl, rfl⟩))
 all_goals go_ret
 all_goals exact ⟨by simp [*], by first | exact (Below.refl _ _).alloc (Nat.le_refl _) _ | exact Below.refl _ _⟩
set_option maxRecDepth 100000 in
theorem placeOk_4 (r a b pl ch : Int) (w : World) : Calls Tryz.prog 108 #[.iface 154 (.agg #[.int .i64 r, .int .i64 a, .int .i64 b]), .int .i64 pl, .int .i64 ch] w fun e w' => e = .returned (.bool (Plain.areB r a b)) ∧ Below w.heap.size w w' := by
 have n1 := fun w => asn_1 154 (.agg #[.int .i64 r, .int .i64 a, .int .i64 b]) w (by decide)
 have n2 := fun w => asn_2 154 (.agg #[.int .i64 r, .int .i64 a, .int .i64 b]) w (by decide)
 have n3 := fun w => asn_3 154 (.agg #[.int .i64 r, .int .i64 a, .int .i64 b]) w (by decide)
 have y := fun w => asy_4 (.agg #[.int .i64 r, .int .i64 a, .int .i64 b]) w
 go_enter Tryz.func108, Tryz.ntmps108
 go_wp2_with (first | (go_at_call 113; refine (isReg_any _ _).mono ?_; rintro e w' ⟨rfl, rfl⟩) | (go_at_call 114; refine (isNum_any _ _).mono ?_; rintro e w' ⟨rfl, rfl⟩) | (go_at_call 63; refine (isOneOf_any _ _ _).mono ?_; rintro e w' ⟨rfl, rfl⟩) | (go_at_call 115; refine (areRegs_any _ _ _ _).mono ?_; rintro e w' ⟨rfl, rfl⟩) | (go_at_call 116; refine (takesOk_any _ _ _).mono ?_; rintro e w' ⟨rfl, rfl⟩))
 all_goals go_ret
 all_goals exact ⟨by simp [*], by first | exact (Below.refl _ _).alloc (Nat.le_refl _) _ | exact Below.refl _ _⟩
set_option maxRecDepth 100000 in
theorem placeOk_5 (a n pl ch : Int) (w : World) : Calls Tryz.prog 108 #[.iface 156 (.agg #[.int .i64 a, .int .i64 n]), .int .i64 pl, .int .i64 ch] w fun e w' => e = .returned (.bool (Plain.regB a && Plain.oneB n ch)) ∧ Below w.heap.size w w' := by
 have n1 := fun w => asn_1 156 (.agg #[.int .i64 a, .int .i64 n]) w (by decide)
 have n2 := fun w => asn_2 156 (.agg #[.int .i64 a, .int .i64 n]) w (by decide)
 have n3 := fun w => asn_3 156 (.agg #[.int .i64 a, .int .i64 n]) w (by decide)
 have n4 := fun w => asn_4 156 (.agg #[.int .i64 a, .int .i64 n]) w (by decide)
 have y := fun w => asy_5 (.agg #[.int .i64 a, .int .i64 n]) w
 go_enter Tryz.func108, Tryz.ntmps108
 go_wp2_with (first | (go_at_call 113; refine (isReg_any _ _).mono ?_; rintro e w' ⟨rfl, rfl⟩) | (go_at_call 114; refine (isNum_any _ _).mono ?_; rintro e w' ⟨rfl, rfl⟩) | (go_at_call 63; refine (isOneOf_any _ _ _).mono ?_; rintro e w' ⟨rfl, rfl⟩) | (go_at_call 115; refine (areRegs_any _ _ _ _).mono ?_; rintro e w' ⟨rfl, rfl⟩) | (go_at_call 116; refine (takesOk_any _ _ _).mono ?_; rintro e w' ⟨rfl, rfl⟩))
 all_goals go_ret
 all_goals exact ⟨by simp [*], by first | exact (Below.refl _ _).alloc (Nat.le_refl _) _ | exact Below.refl _ _⟩
set_option maxRecDepth 100000 in
theorem placeOk_6 (r b n pl ch : Int) (w : World) : Calls Tryz.prog 108 #[.iface 158 (.agg #[.int .i64 r, .int .i64 b, .int .i64 n]), .int .i64 pl, .int .i64 ch] w fun e w' => e = .returned (.bool (Plain.takesB r b && Plain.oneB n ch)) ∧ Below w.heap.size w w' := by
 have n1 := fun w => asn_1 158 (.agg #[.int .i64 r, .int .i64 b, .int .i64 n]) w (by decide)
 have n2 := fun w => asn_2 158 (.agg #[.int .i64 r, .int .i64 b, .int .i64 n]) w (by decide)
 have n3 := fun w => asn_3 158 (.agg #[.int .i64 r, .int .i64 b, .int .i64 n]) w (by decide)
 have n4 := fun w => asn_4 158 (.agg #[.int .i64 r, .int .i64 b, .int .i64 n]) w (by decide)
 have n5 := fun w => asn_5 158 (.agg #[.int .i64 r, .int .i64 b, .int .i64 n]) w (by decide)
 have y := fun w => asy_6 (.agg #[.int .i64 r, .int .i64 b, .int .i64 n]) w
 go_enter Tryz.func108, Tryz.ntmps108
 go_wp2_with (first | (go_at_call 113; refine (isReg_any _ _).mono ?_; rintro e w' ⟨rfl, rfl⟩) | (go_at_call 114; refine (isNum_any _ _).mono ?_; rintro e w' ⟨rfl, rfl⟩) | (go_at_call 63; refine (isOneOf_any _ _ _).mono ?_; rintro e w' ⟨rfl, rfl⟩) | (go_at_call 115; refine (areRegs_any _ _ _ _).mono ?_; rintro e w' ⟨rfl, rfl⟩) | (go_at_call 116; refine (takesOk_any _ _ _).mono ?_; rintro e w' ⟨rfl, rfl⟩))
 all_goals go_ret
 all_goals exact ⟨by simp [*], by first | exact (Below.refl _ _).alloc (Nat.le_refl _) _ | exact Below.refl _ _⟩
set_option maxRecDepth 100000 in
theorem placeOk_7 (r a n pl ch : Int) (w : World) : Calls Tryz.prog 108 #[.iface 160 (.agg #[.int .i64 r, .int .i64 a, .int .i64 n]), .int .i64 pl, .int .i64 ch] w fun e w' => e = .returned (.bool (Plain.regB r && Plain.regB a && Plain.oneB n ch)) ∧ Below w.heap.size w w' := by
 have n1 := fun w => asn_1 160 (.agg #[.int .i64 r, .int .i64 a, .int .i64 n]) w (by decide)
 have n2 := fun w => asn_2 160 (.agg #[.int .i64 r, .int .i64 a, .int .i64 n]) w (by decide)
 have n3 := fun w => asn_3 160 (.agg #[.int .i64 r, .int .i64 a, .int .i64 n]) w (by decide)
 have n4 := fun w => asn_4 160 (.agg #[.int .i64 r, .int .i64 a, .int .i64 n]) w (by decide)
 have n5 := fun w => asn_5 160 (.agg #[.int .i64 r, .int .i64 a, .int .i64 n]) w (by decide)
 have n6 := fun w => asn_6 160 (.agg #[.int .i64 r, .int .i64 a, .int .i64 n]) w (by decide)
 have y := fun w => asy_7 (.agg #[.int .i64 r, .int .i64 a, .int .i64 n]) w
 go_enter Tryz.func108, Tryz.ntmps108
 go_wp2_with (first | (go_at_call 113; refine (isReg_any _ _).mono ?_; rintro e w' ⟨rfl, rfl⟩) | (go_at_call 114; refine (isNum_any _ _).mono ?_; rintro e w' ⟨rfl, rfl⟩) | (go_at_call 63; refine (isOneOf_any _ _ _).mono ?_; rintro e w' ⟨rfl, rfl⟩) | (go_at_call 115; refine (areRegs_any _ _ _ _).mono ?_; rintro e w' ⟨rfl, rfl⟩) | (go_at_call 116; refine (takesOk_any _ _ _).mono ?_; rintro e w' ⟨rfl, rfl⟩))
 all_goals go_ret
 all_goals exact ⟨by simp [*], by first | exact (Below.refl _ _).alloc (Nat.le_refl _) _ | exact Below.refl _ _⟩
set_option maxRecDepth 100000 in
theorem placeOk_8 (r b n pl ch : Int) (w : World) : Calls Tryz.prog 108 #[.iface 161 (.agg #[.int .i64 r, .int .i64 b, .int .i64 n]), .int .i64 pl, .int .i64 ch] w fun e w' => e = .returned (.bool (Plain.takesB r b && Plain.oneB n ch)) ∧ Below w.heap.size w w' := by
 have n1 := fun w => asn_1 161 (.agg #[.int .i64 r, .int .i64 b, .int .i64 n]) w (by decide)
 have n2 := fun w => asn_2 161 (.agg #[.int .i64 r, .int .i64 b, .int .i64 n]) w (by decide)
 have n3 := fun w => asn_3 161 (.agg #[.int .i64 r, .int .i64 b, .int .i64 n]) w (by decide)
 have n4 := fun w => asn_4 161 (.agg #[.int .i64 r, .int .i64 b, .int .i64 n]) w (by decide)
 have n5 := fun w => asn_5 161 (.agg #[.int .i64 r, .int .i64 b, .int .i64 n]) w (by decide)
 have n6 := fun w => asn_6 161 (.agg #[.int .i64 r, .int .i64 b, .int .i64 n]) w (by decide)
 have n7 := fun w => asn_7 161 (.agg #[.int .i64 r, .int .i64 b, .int .i64 n]) w (by decide)
 have y := fun w => asy_8 (.agg #[.int .i64 r, .int .i64 b, .int .i64 n]) w
 go_enter Tryz.func108, Tryz.ntmps108
 go_wp2_with (first | (go_at_call 113; refine (isReg_any _ _).mono ?_; rintro e w' ⟨rfl, rfl⟩) | (go_at_call 114; refine (isNum_any _ _).mono ?_; rintro e w' ⟨rfl, rfl⟩) | (go_at_call 63; refine (isOneOf_any _ _ _).mono ?_; rintro e w' ⟨rfl, rfl⟩) | (go_at_call 115; refine (areRegs_any _ _ _ _).mono ?_; rintro e w' ⟨rfl, rfl⟩) | (go_at_call 116; refine (takesOk_any _ _ _).mono ?_; rintro e w' ⟨rfl, rfl⟩))
 all_goals go_ret
 all_goals exact ⟨by simp [*], by first | exact (Below.refl _ _).alloc (Nat.le_refl _) _ | exact Below.refl _ _⟩
set_option maxRecDepth 100000 in
theorem placeOk_9 (n pl ch : Int) (w : World) : Calls Tryz.prog 108 #[.iface 163 (.agg #[.int .i64 n]), .int .i64 pl, .int .i64 ch] w fun e w' => e = .returned (.bool (Plain.oneB n ch)) ∧ Below w.heap.size w w' := by
 have n1 := fun w => asn_1 163 (.agg #[.int .i64 n]) w (by decide)
 have n2 := fun w => asn_2 163 (.agg #[.int .i64 n]) w (by decide)
 have n3 := fun w => asn_3 163 (.agg #[.int .i64 n]) w (by decide)
 have n4 := fun w => asn_4 163 (.agg #[.int .i64 n]) w (by decide)
 have n5 := fun w => asn_5 163 (.agg #[.int .i64 n]) w (by decide)
 have n6 := fun w => asn_6 163 (.agg #[.int .i64 n]) w (by decide)
 have n7 := fun w => asn_7 163 (.agg #[.int .i64 n]) w (by decide)
 have n8 := fun w => asn_8 163 (.agg #[.int .i64 n]) w (by decide)
 have y := fun w => asy_9 (.agg #[.int .i64 n]) w
 go_enter Tryz.func108, Tryz.ntmps108
 go_wp2_with (first | (go_at_call 113; refine (isReg_any _ _).mono ?_; rintro e w' ⟨rfl, rfl⟩) | (go_at_call 114; refine (isNum_any _ _).mono ?_; rintro e w' ⟨rfl, rfl⟩) | (go_at_call 63; refine (isOneOf_any _ _ _).mono ?_; rintro e w' ⟨rfl, rfl⟩) | (go_at_call 115; refine (areRegs_any _ _ _ _).mono ?_; rintro e w' ⟨rfl, rfl⟩) | (go_at_call 116; refine (takesOk_any _ _ _).mono ?_; rintro e w' ⟨rfl, rfl⟩))
 all_goals go_ret
 all_goals exact ⟨by simp [*], by first | exact (Below.refl _ _).alloc (Nat.le_refl _) _ | exact Below.refl _ _⟩
set_option maxRecDepth 100000 in
theorem placeOk_10 (a pl ch : Int) (w : World) : Calls Tryz.prog 108 #[.iface 165 (.agg #[.int .i64 a]), .int .i64 pl, .int .i64 ch] w fun e w' => e = .returned (.bool (Plain.regB a)) ∧ Below w.heap.size w w' := by
 have n1 := fun w => asn_1 165 (.agg #[.int .i64 a]) w (by decide)
 have n2 := fun w => asn_2 165 (.agg #[.int .i64 a]) w (by decide)
 have n3 := fun w => asn_3 165 (.agg #[.int .i64 a]) w (by decide)
 have n4 := fun w => asn_4 165 (.agg #[.int .i64 a]) w (by decide)
 have n5 := fun w => asn_5 165 (.agg #[.int .i64 a]) w (by decide)
 have n6 := fun w => asn_6 165 (.agg #[.int .i64 a]) w (by decide)
 have n7 := fun w => asn_7 165 (.agg #[.int .i64 a]) w (by decide)
 have n8 := fun w => asn_8 165 (.agg #[.int .i64 a]) w (by decide)
 have n9 := fun w => asn_9 165 (.agg #[.int .i64 a]) w (by decide)
 have y := fun w => asy_10 (.agg #[.int .i64 a]) w
 go_enter Tryz.func108, Tryz.ntmps108
 go_wp2_with (first | (go_at_call 113; refine (isReg_any _ _).mono ?_; rintro e w' ⟨rfl, rfl⟩) | (go_at_call 114; refine (isNum_any _ _).mono ?_; rintro e w' ⟨rfl, rfl⟩) | (go_at_call 63; refine (isOneOf_any _ _ _).mono ?_; rintro e w' ⟨rfl, rfl⟩) | (go_at_call 115; refine (areRegs_any _ _ _ _).mono ?_; rintro e w' ⟨rfl, rfl⟩) | (go_at_call 116; refine (takesOk_any _ _ _).mono ?_; rintro e w' ⟨rfl, rfl⟩))
 all_goals go_ret
 all_goals exact ⟨by simp [*], by first | exact (Below.refl _ _).alloc (Nat.le_refl _) _ | exact Below.refl _ _⟩
set_option maxRecDepth 100000 in
theorem placeOk_11 (n pl ch : Int) (w : World) : Calls Tryz.prog 108 #[.iface 166 (.agg #[.int .i64 n]), .int .i64 pl, .int .i64 ch] w fun e w' => e = .returned (.bool (Plain.oneB n pl)) ∧ Below w.heap.size w w' := by
 have n1 := fun w => asn_1 166 (.agg #[.int .i64 n]) w (by decide)
 have n2 := fun w => asn_2 166 (.agg #[.int .i64 n]) w (by decide)
 have n3 := fun w => asn_3 166 (.agg #[.int .i64 n]) w (by decide)
 have n4 := fun w => asn_4 166 (.agg #[.int .i64 n]) w (by decide)
 have n5 := fun w => asn_5 166 (.agg #[.int .i64 n]) w (by decide)
 have n6 := fun w => asn_6 166 (.agg #[.int .i64 n]) w (by decide)
 have n7 := fun w => asn_7 166 (.agg #[.int .i64 n]) w (by decide)
 have n8 := fun w => asn_8 166 (.agg #[.int .i64 n]) w (by decide)
 have n9 := fun w => asn_9 166 (.agg #[.int .i64 n]) w (by decide)
 have n10 := fun w => asn_10 166 (.agg #[.int .i64 n]) w (by decide)
 have y := fun w => asy_11 (.agg #[.int .i64 n]) w
 go_enter Tryz.func108, Tryz.ntmps108
 go_wp2_with (first | (go_at_call 113; refine (isReg_any _ _).mono ?_; rintro e w' ⟨rfl, rfl⟩) | (go_at_call 114; refine (isNum_any _ _).mono ?_; rintro e w' ⟨rfl, rfl⟩) | (go_at_call 63; refine (isOneOf_any _ _ _).mono ?_; rintro e w' ⟨rfl, rfl⟩) | (go_at_call 115; refine (areRegs_any _ _ _ _).mono ?_; rintro e w' ⟨rfl, rfl⟩) | (go_at_call 116; refine (takesOk_any _ _ _).mono ?_; rintro e w' ⟨rfl, rfl⟩))
 all_goals go_ret
 all_goals exact ⟨by simp [*], by first | exact (Below.refl _ _).alloc (Nat.le_refl _) _ | exact Below.refl _ _⟩
set_option maxRecDepth 100000 in
theorem placeOk_12 (a n pl ch : Int) (w : World) : Calls Tryz.prog 108 #[.iface 167 (.agg #[.int .i64 a, .int .i64 n]), .int .i64 pl, .int .i64 ch] w fun e w' => e = .returned (.bool (Plain.regB a && Plain.oneB n pl)) ∧ Below w.heap.size w w' := by
 have n1 := fun w => asn_1 167 (.agg #[.int .i64 a, .int .i64 n]) w (by decide)
 have n2 := fun w => asn_2 167 (.agg #[.int .i64 a, .int .i64 n]) w (by decide)
 have n3 := fun w => asn_3 167 (.agg #[.int .i64 a, .int .i64 n]) w (by decide)
 have n4 := fun w => asn_4 167 (.agg #[.int .i64 a, .int .i64 n]) w (by decide)
 have n5 := fun w => asn_5 167 (.agg #[.int .i64 a, .int .i64 n]) w (by decide)
 have n6 := fun w => asn_6 167 (.agg #[.int .i64 a, .int .i64 n]) w (by decide)
 have n7 := fun w => asn_7 167 (.agg #[.int .i64 a, .int .i64 n]) w (by decide)
 have n8 := fun w => asn_8 167 (.agg #[.int .i64 a, .int .i64 n]) w (by decide)
 have n9 := fun w => asn_9 167 (.agg #[.int .i64 a, .int .i64 n]) w (by decide)
 have n10 := fun w => asn_10 167 (.agg #[.int .i64 a, .int .i64 n]) w (by decide)
 have n11 := fun w => asn_11 167 (.agg #[.int .i64 a, .int .i64 n]) w (by decide)
 have y := fun w => asy_12 (.agg #[.int .i64 a, .int .i64 n]) w
 go_enter Tryz.func108, Tryz.ntmps108
 go_wp2_with (first | (go_at_call 113; refine (isReg_any _ _).mono ?_; rintro e w' ⟨rfl, rfl⟩) | (go_at_call 114; refine (isNum_any _ _).mono ?_; rintro e w' ⟨rfl, rfl⟩) | (go_at_call 63; refine (isOneOf_any _ _ _).mono ?_; rintro e w' ⟨rfl, rfl⟩) | (go_at_call 115; refine (areRegs_any _ _ _ _).mono ?_; rintro e w' ⟨rfl, rfl⟩) | (go_at_call 116; refine (takesOk_any _ _ _).mono ?_; rintro e w' ⟨rfl, rfl⟩))
 all_goals go_ret
 all_goals exact ⟨by simp [*], by first | exact (Below.refl _ _).alloc (Nat.le_refl _) _ | exact Below.refl _ _⟩
set_option maxRecDepth 100000 in
theorem placeOk_13 ( pl ch : Int) (w : World) : Calls Tryz.prog 108 #[.iface 169 (.agg #[]), .int .i64 pl, .int .i64 ch] w fun e w' => e = .returned (.bool (true)) ∧ Below w.heap.size w w' := by
 have n1 := fun w => asn_1 169 (.agg #[]) w (by decide)
 have n2 := fun w => asn_2 169 (.agg #[]) w (by decide)
 have n3 := fun w => asn_3 169 (.agg #[]) w (by decide)
 have n4 := fun w => asn_4 169 (.agg #[]) w (by decide)
 have n5 := fun w => asn_5 169 (.agg #[]) w (by decide)
 have n6 := fun w => asn_6 169 (.agg #[]) w (by decide)
 have n7 := fun w => asn_7 169 (.agg #[]) w (by decide)
 have n8 := fun w => asn_8 169 (.agg #[]) w (by decide)
 have n9 := fun w => asn_9 169 (.agg #[]) w (by decide)
 have n10 := fun w => asn_10 169 (.agg #[]) w (by decide)
 have n11 := fun w => asn_11 169 (.agg #[]) w (by decide)
 have n12 := fun w => asn_12 169 (.agg #[]) w (by decide)
 have y := fun w => asy_13 (.agg #[]) w
 go_enter Tryz.func108, Tryz.ntmps108
 go_wp2_with (first | (go_at_call 113; refine (isReg_any _ _).mono ?_; rintro e w' ⟨rfl, rfl⟩) | (go_at_call 114; refine (isNum_any _ _).mono ?_; rintro e w' ⟨rfl, rfl⟩) | (go_at_call 63; refine (isOneOf_any _ _ _).mono ?_; rintro e w' ⟨rfl, rfl⟩) | (go_at_call 115; refine (areRegs_any _ _ _ _).mono ?_; rintro e w' ⟨rfl, rfl⟩) | (go_at_call 116; refine (takesOk_any _ _ _).mono ?_; rintro e w' ⟨rfl, rfl⟩))
 all_goals go_ret
 all_goals exact ⟨by simp [*], by first | exact (Below.refl _ _).alloc (Nat.le_refl _) _ | exact Below.refl _ _⟩
end Go.Proofs.YtpmopmgpheefeaaGreat
