/- Chapter 1: placeOk of each kind of place, for every argument, in every world. No condition. -/
import Derived.Test.YtcfehbfjillnoaaGreatJG00
import Derived.Test.YtcfehbfjillnoaaGreatChecked
import Derived.WalkKit
import Derived.KernelRfl
import Derived.WalkSpells
import Derived.WalkLawsBesides
import Derived.Test.YtcfehbfjillnoaaGreatJLeaves
namespace Go.Proofs.YtcfehbfjillnoaaGreat
set_option linter.unusedSimpArgs false
set_option linter.unusedVariables false
set_option maxRecDepth 100000
open Go.RowKit
theorem asy_1 (v : Value) (w : World) : (Instr.typeAssert (.iface 206 v) 195 206 true).run Tryz.prog w = .ok (.tuple #[v, .bool true]) w := by kernel_rfl
theorem zero_1 (w : World) : (do pure (Value.tuple #[← zeroValue 206, .bool false]) : Sem Value).run Tryz.prog w = .ok (.tuple #[.agg #[.int .i64 0, .int .i64 0], .bool false]) w := by kernel_rfl
theorem asn_1 (u : TypeId) (v : Value) (w : World) (h : u ≠ 206) : (Instr.typeAssert (.iface u v) 195 206 true).run Tryz.prog w = .ok (.tuple #[.agg #[.int .i64 0, .int .i64 0], .bool false]) w := by
 have e : (Instr.typeAssert (.iface u v) 195 206 true).run Tryz.prog w = (if u = 206 then (pure (Value.tuple #[v, .bool true]) : Sem Value) else (do pure (Value.tuple #[← zeroValue 206, .bool false]))).run Tryz.prog w := by kernel_rfl
 rw [e, if_neg h]
 exact zero_1 w
theorem asy_2 (v : Value) (w : World) : (Instr.typeAssert (.iface 208 v) 195 208 true).run Tryz.prog w = .ok (.tuple #[v, .bool true]) w := by kernel_rfl
theorem zero_2 (w : World) : (do pure (Value.tuple #[← zeroValue 208, .bool false]) : Sem Value).run Tryz.prog w = .ok (.tuple #[.agg #[.int .i64 0, .int .i64 0, .int .i64 0], .bool false]) w := by kernel_rfl
theorem asn_2 (u : TypeId) (v : Value) (w : World) (h : u ≠ 208) : (Instr.typeAssert (.iface u v) 195 208 true).run Tryz.prog w = .ok (.tuple #[.agg #[.int .i64 0, .int .i64 0, .int .i64 0], .bool false]) w := by
 have e : (Instr.typeAssert (.iface u v) 195 208 true).run Tryz.prog w = (if u = 208 then (pure (Value.tuple #[v, .bool true]) : Sem Value) else (do pure (Value.tuple #[← zeroValue 208, .bool false]))).run Tryz.prog w := by kernel_rfl
 rw [e, if_neg h]
 exact zero_2 w
theorem asy_3 (v : Value) (w : World) : (Instr.typeAssert (.iface 209 v) 195 209 true).run Tryz.prog w = .ok (.tuple #[v, .bool true]) w := by kernel_rfl
theorem zero_3 (w : World) : (do pure (Value.tuple #[← zeroValue 209, .bool false]) : Sem Value).run Tryz.prog w = .ok (.tuple #[.agg #[.int .i64 0, .int .i64 0, .int .i64 0], .bool false]) w := by kernel_rfl
theorem asn_3 (u : TypeId) (v : Value) (w : World) (h : u ≠ 209) : (Instr.typeAssert (.iface u v) 195 209 true).run Tryz.prog w = .ok (.tuple #[.agg #[.int .i64 0, .int .i64 0, .int .i64 0], .bool false]) w := by
 have e : (Instr.typeAssert (.iface u v) 195 209 true).run Tryz.prog w = (if u = 209 then (pure (Value.tuple #[v, .bool true]) : Sem Value) else (do pure (Value.tuple #[← zeroValue 209, .bool false]))).run Tryz.prog w := by kernel_rfl
 rw [e, if_neg h]
 exact zero_3 w
theorem asy_4 (v : Value) (w : World) : (Instr.typeAssert (.iface 210 v) 195 210 true).run Tryz.prog w = .ok (.tuple #[v, .bool true]) w := by kernel_rfl
theorem zero_4 (w : World) : (do pure (Value.tuple #[← zeroValue 210, .bool false]) : Sem Value).run Tryz.prog w = .ok (.tuple #[.agg #[.int .i64 0, .int .i64 0, .int .i64 0], .bool false]) w := by kernel_rfl
theorem asn_4 (u : TypeId) (v : Value) (w : World) (h : u ≠ 210) : (Instr.typeAssert (.iface u v) 195 210 true).run Tryz.prog w = .ok (.tuple #[.agg #[.int .i64 0, .int .i64 0, .int .i64 0], .bool false]) w := by
 have e : (Instr.typeAssert (.iface u v) 195 210 true).run Tryz.prog w = (if u = 210 then (pure (Value.tuple #[v, .bool true]) : Sem Value) else (do pure (Value.tuple #[← zeroValue 210, .bool false]))).run Tryz.prog w := by kernel_rfl
 rw [e, if_neg h]
 exact zero_4 w
theorem asy_5 (v : Value) (w : World) : (Instr.typeAssert (.iface 212 v) 195 212 true).run Tryz.prog w = .ok (.tuple #[v, .bool true]) w := by kernel_rfl
theorem zero_5 (w : World) : (do pure (Value.tuple #[← zeroValue 212, .bool false]) : Sem Value).run Tryz.prog w = .ok (.tuple #[.agg #[.int .i64 0, .int .i64 0], .bool false]) w := by kernel_rfl
theorem asn_5 (u : TypeId) (v : Value) (w : World) (h : u ≠ 212) : (Instr.typeAssert (.iface u v) 195 212 true).run Tryz.prog w = .ok (.tuple #[.agg #[.int .i64 0, .int .i64 0], .bool false]) w := by
 have e : (Instr.typeAssert (.iface u v) 195 212 true).run Tryz.prog w = (if u = 212 then (pure (Value.tuple #[v, .bool true]) : Sem Value) else (do pure (Value.tuple #[← zeroValue 212, .bool false]))).run Tryz.prog w := by kernel_rfl
 rw [e, if_neg h]
 exact zero_5 w
theorem asy_6 (v : Value) (w : World) : (Instr.typeAssert (.iface 214 v) 195 214 true).run Tryz.prog w = .ok (.tuple #[v, .bool true]) w := by kernel_rfl
theorem zero_6 (w : World) : (do pure (Value.tuple #[← zeroValue 214, .bool false]) : Sem Value).run Tryz.prog w = .ok (.tuple #[.agg #[.int .i64 0, .int .i64 0, .int .i64 0], .bool false]) w := by kernel_rfl
theorem asn_6 (u : TypeId) (v : Value) (w : World) (h : u ≠ 214) : (Instr.typeAssert (.iface u v) 195 214 true).run Tryz.prog w = .ok (.tuple #[.agg #[.int .i64 0, .int .i64 0, .int .i64 0], .bool false]) w := by
 have e : (Instr.typeAssert (.iface u v) 195 214 true).run Tryz.prog w = (if u = 214 then (pure (Value.tuple #[v, .bool true]) : Sem Value) else (do pure (Value.tuple #[← zeroValue 214, .bool false]))).run Tryz.prog w := by kernel_rfl
 rw [e, if_neg h]
 exact zero_6 w
theorem asy_7 (v : Value) (w : World) : (Instr.typeAssert (.iface 216 v) 195 216 true).run Tryz.prog w = .ok (.tuple #[v, .bool true]) w := by kernel_rfl
theorem zero_7 (w : World) : (do pure (Value.tuple #[← zeroValue 216, .bool false]) : Sem Value).run Tryz.prog w = .ok (.tuple #[.agg #[.int .i64 0, .int .i64 0, .int .i64 0], .bool false]) w := by kernel_rfl
theorem asn_7 (u : TypeId) (v : Value) (w : World) (h : u ≠ 216) : (Instr.typeAssert (.iface u v) 195 216 true).run Tryz.prog w = .ok (.tuple #[.agg #[.int .i64 0, .int .i64 0, .int .i64 0], .bool false]) w := by
 have e : (Instr.typeAssert (.iface u v) 195 216 true).run Tryz.prog w = (if u = 216 then (pure (Value.tuple #[v, .bool true]) : Sem Value) else (do pure (Value.tuple #[← zeroValue 216, .bool false]))).run Tryz.prog w := by kernel_rfl
 rw [e, if_neg h]
 exact zero_7 w
theorem asy_8 (v : Value) (w : World) : (Instr.typeAssert (.iface 217 v) 195 217 true).run Tryz.prog w = .ok (.tuple #[v, .bool true]) w := by kernel_rfl
theorem zero_8 (w : World) : (do pure (Value.tuple #[← zeroValue 217, .bool false]) : Sem Value).run Tryz.prog w = .ok (.tuple #[.agg #[.int .i64 0, .int .i64 0, .int .i64 0], .bool false]) w := by kernel_rfl
theorem asn_8 (u : TypeId) (v : Value) (w : World) (h : u ≠ 217) : (Instr.typeAssert (.iface u v) 195 217 true).run Tryz.prog w = .ok (.tuple #[.agg #[.int .i64 0, .int .i64 0, .int .i64 0], .bool false]) w := by
 have e : (Instr.typeAssert (.iface u v) 195 217 true).run Tryz.prog w = (if u = 217 then (pure (Value.tuple #[v, .bool true]) : Sem Value) else (do pure (Value.tuple #[← zeroValue 217, .bool false]))).run Tryz.prog w := by kernel_rfl
 rw [e, if_neg h]
 exact zero_8 w
theorem asy_9 (v : Value) (w : World) : (Instr.typeAssert (.iface 219 v) 195 219 true).run Tryz.prog w = .ok (.tuple #[v, .bool true]) w := by kernel_rfl
theorem zero_9 (w : World) : (do pure (Value.tuple #[← zeroValue 219, .bool false]) : Sem Value).run Tryz.prog w = .ok (.tuple #[.agg #[.int .i64 0], .bool false]) w := by kernel_rfl
theorem asn_9 (u : TypeId) (v : Value) (w : World) (h : u ≠ 219) : (Instr.typeAssert (.iface u v) 195 219 true).run Tryz.prog w = .ok (.tuple #[.agg #[.int .i64 0], .bool false]) w := by
 have e : (Instr.typeAssert (.iface u v) 195 219 true).run Tryz.prog w = (if u = 219 then (pure (Value.tuple #[v, .bool true]) : Sem Value) else (do pure (Value.tuple #[← zeroValue 219, .bool false]))).run Tryz.prog w := by kernel_rfl
 rw [e, if_neg h]
 exact zero_9 w
theorem asy_10 (v : Value) (w : World) : (Instr.typeAssert (.iface 221 v) 195 221 true).run Tryz.prog w = .ok (.tuple #[v, .bool true]) w := by kernel_rfl
theorem zero_10 (w : World) : (do pure (Value.tuple #[← zeroValue 221, .bool false]) : Sem Value).run Tryz.prog w = .ok (.tuple #[.agg #[.int .i64 0], .bool false]) w := by kernel_rfl
theorem asn_10 (u : TypeId) (v : Value) (w : World) (h : u ≠ 221) : (Instr.typeAssert (.iface u v) 195 221 true).run Tryz.prog w = .ok (.tuple #[.agg #[.int .i64 0], .bool false]) w := by
 have e : (Instr.typeAssert (.iface u v) 195 221 true).run Tryz.prog w = (if u = 221 then (pure (Value.tuple #[v, .bool true]) : Sem Value) else (do pure (Value.tuple #[← zeroValue 221, .bool false]))).run Tryz.prog w := by kernel_rfl
 rw [e, if_neg h]
 exact zero_10 w
theorem asy_11 (v : Value) (w : World) : (Instr.typeAssert (.iface 222 v) 195 222 true).run Tryz.prog w = .ok (.tuple #[v, .bool true]) w := by kernel_rfl
theorem zero_11 (w : World) : (do pure (Value.tuple #[← zeroValue 222, .bool false]) : Sem Value).run Tryz.prog w = .ok (.tuple #[.agg #[.int .i64 0], .bool false]) w := by kernel_rfl
theorem asn_11 (u : TypeId) (v : Value) (w : World) (h : u ≠ 222) : (Instr.typeAssert (.iface u v) 195 222 true).run Tryz.prog w = .ok (.tuple #[.agg #[.int .i64 0], .bool false]) w := by
 have e : (Instr.typeAssert (.iface u v) 195 222 true).run Tryz.prog w = (if u = 222 then (pure (Value.tuple #[v, .bool true]) : Sem Value) else (do pure (Value.tuple #[← zeroValue 222, .bool false]))).run Tryz.prog w := by kernel_rfl
 rw [e, if_neg h]
 exact zero_11 w
theorem asy_12 (v : Value) (w : World) : (Instr.typeAssert (.iface 223 v) 195 223 true).run Tryz.prog w = .ok (.tuple #[v, .bool true]) w := by kernel_rfl
theorem zero_12 (w : World) : (do pure (Value.tuple #[← zeroValue 223, .bool false]) : Sem Value).run Tryz.prog w = .ok (.tuple #[.agg #[.int .i64 0, .int .i64 0], .bool false]) w := by kernel_rfl
theorem asn_12 (u : TypeId) (v : Value) (w : World) (h : u ≠ 223) : (Instr.typeAssert (.iface u v) 195 223 true).run Tryz.prog w = .ok (.tuple #[.agg #[.int .i64 0, .int .i64 0], .bool false]) w := by
 have e : (Instr.typeAssert (.iface u v) 195 223 true).run Tryz.prog w = (if u = 223 then (pure (Value.tuple #[v, .bool true]) : Sem Value) else (do pure (Value.tuple #[← zeroValue 223, .bool false]))).run Tryz.prog w := by kernel_rfl
 rw [e, if_neg h]
 exact zero_12 w
theorem asy_13 (v : Value) (w : World) : (Instr.typeAssert (.iface 225 v) 195 225 true).run Tryz.prog w = .ok (.tuple #[v, .bool true]) w := by kernel_rfl
set_option maxRecDepth 100000 in
theorem placeOk_1 (r n pl ch : Int) (w : World) : Calls Tryz.prog 145 #[.iface 206 (.agg #[.int .i64 r, .int .i64 n]), .int .i64 pl, .int .i64 ch] w fun e w' => e = .returned (.bool (Plain.regB r && Plain.numB n)) ∧ Below w.heap.size w w' := by
 have y := fun w => asy_1 (.agg #[.int .i64 r, .int .i64 n]) w
 go_enter Tryz.func145, Tryz.ntmps145
 go_wp2_with (first | (go_at_call 151; refine (isReg_any _ _).mono ?_; rintro e w' ⟨rfl, rfl⟩) | (go_at_call 152; refine (isNum_any _ _).mono ?_; rintro e w' ⟨rfl, rfl⟩) | (go_at_call 83; refine (isOneOf_any _ _ _).mono ?_; rintro e w' ⟨rfl, rfl⟩) | (go_at_call 153; refine (areRegs_any _ _ _ _).mono ?_; rintro e w' ⟨rfl, rfl⟩) | (go_at_call 154; refine (takesOk_any _ _ _).mono ?_; rintro e w' ⟨rfl, rfl⟩))
 all_goals go_ret
 all_goals exact ⟨by simp [*], by first | exact (Below.refl _ _).alloc (Nat.le_refl _) _ | exact Below.refl _ _⟩
set_option maxRecDepth 100000 in
theorem placeOk_2 (r a b pl ch : Int) (w : World) : Calls Tryz.prog 145 #[.iface 208 (.agg #[.int .i64 r, .int .i64 a, .int .i64 b]), .int .i64 pl, .int .i64 ch] w fun e w' => e = .returned (.bool (Plain.areB r a b)) ∧ Below w.heap.size w w' := by
 have n1 := fun w => asn_1 208 (.agg #[.int .i64 r, .int .i64 a, .int .i64 b]) w (by decide)
 have y := fun w => asy_2 (.agg #[.int .i64 r, .int .i64 a, .int .i64 b]) w
 go_enter Tryz.func145, Tryz.ntmps145
 go_wp2_with (first | (go_at_call 151; refine (isReg_any _ _).mono ?_; rintro e w' ⟨rfl, rfl⟩) | (go_at_call 152; refine (isNum_any _ _).mono ?_; rintro e w' ⟨rfl, rfl⟩) | (go_at_call 83; refine (isOneOf_any _ _ _).mono ?_; rintro e w' ⟨rfl, rfl⟩) | (go_at_call 153; refine (areRegs_any _ _ _ _).mono ?_; rintro e w' ⟨rfl, rfl⟩) | (go_at_call 154; refine (takesOk_any _ _ _).mono ?_; rintro e w' ⟨rfl, rfl⟩))
 all_goals go_ret
 all_goals exact ⟨by simp [*], by first | exact (Below.refl _ _).alloc (Nat.le_refl _) _ | exact Below.refl _ _⟩
set_option maxRecDepth 100000 in
theorem placeOk_3 (r a b pl ch : Int) (w : World) : Calls Tryz.prog 145 #[.iface 209 (.agg #[.int .i64 r, .int .i64 a, .int .i64 b]), .int .i64 pl, .int .i64 ch] w fun e w' => e = .returned (.bool (Plain.areB r a b)) ∧ Below w.heap.size w w' := by
 have n1 := fun w => asn_1 209 (.agg #[.int .i64 r, .int .i64 a, .int .i64 b]) w (by decide)
 have n2 := fun w => asn_2 209 (.agg #[.int .i64 r, .int .i64 a, .int .i64 b]) w (by decide)
 have y := fun w => asy_3 (.agg #[.int .i64 r, .int .i64 a, .int .i64 b]) w
 go_enter Tryz.func145, Tryz.ntmps145
 go_wp2_with (first | (go_at_call 151; refine (isReg_any _ _).mono ?_; rintro e w' ⟨rfl, rfl⟩) | (go_at_call 152; refine (isNum_any _ _).mono ?_; rintro e w' ⟨rfl, rfl⟩) | (go_at_call 83; refine (isOneOf_any _ _ _).mono ?_; rintro e w' ⟨rfl, rfl⟩) | (go_at_call 153; refine (areRegs_any _ _ _ _).mono ?_; rintro e w' ⟨rfl, rfl⟩) | (go_at_call 154; refine (takesOk_any _ _ _).mono ?_; rintro e w' ⟨rfl, rfl⟩))
 all_goals go_ret
 all_goals exact ⟨by simp [*], by first | exact (Below.refl _ _).alloc (Nat.le_refl _) _ | exact Below.refl _ _⟩
set_option maxRecDepth 100000 in
theorem placeOk_4 (r a b pl ch : Int) (w : World) : Calls Tryz.prog 145 #[.iface 210 (.agg #[.int .i64 r, .int .i64 a, .int .i64 b]), .int .i64 pl, .int .i64 ch] w fun e w' => e = .returned (.bool (Plain.areB r a b)) ∧ Below w.heap.size w w' := by
 have n1 := fun w => asn_1 210 (.agg #[.int .i64 r, .int .i64 a, .int .i64 b]) w (by decide)
 have n2 := fun w => asn_2 210 (.agg #[.int .i64 r, .int .i64 a, .int .i64 b]) w (by decide)
 have n3 := fun w => asn_3 210 (.agg #[.int .i64 r, .int .i64 a, .int .i64 b]) w (by decide)
 have y := fun w => asy_4 (.agg #[.int .i64 r, .int .i64 a, .int .i64 b]) w
 go_enter Tryz.func145, Tryz.ntmps145
 go_wp2_with (first | (go_at_call 151; refine (isReg_any _ _).mono ?_; rintro e w' ⟨rfl, rfl⟩) | (go_at_call 152; refine (isNum_any _ _).mono ?_; rintro e w' ⟨rfl, rfl⟩) | (go_at_call 83; refine (isOneOf_any _ _ _).mono ?_; rintro e w' ⟨rfl, rfl⟩) | (go_at_call 153; refine (areRegs_any _ _ _ _).mono ?_; rintro e w' ⟨rfl, rfl⟩) | (go_at_call 154; refine (takesOk_any _ _ _).mono ?_; rintro e w' ⟨rfl, rfl⟩))
 all_goals go_ret
 all_goals exact ⟨by simp [*], by first | exact (Below.refl _ _).alloc (Nat.le_refl _) _ | exact Below.refl _ _⟩
set_option maxRecDepth 100000 in
theorem placeOk_5 (a n pl ch : Int) (w : World) : Calls Tryz.prog 145 #[.iface 212 (.agg #[.int .i64 a, .int .i64 n]), .int .i64 pl, .int .i64 ch] w fun e w' => e = .returned (.bool (Plain.regB a && Plain.oneB n ch)) ∧ Below w.heap.size w w' := by
 have n1 := fun w => asn_1 212 (.agg #[.int .i64 a, .int .i64 n]) w (by decide)
 have n2 := fun w => asn_2 212 (.agg #[.int .i64 a, .int .i64 n]) w (by decide)
 have n3 := fun w => asn_3 212 (.agg #[.int .i64 a, .int .i64 n]) w (by decide)
 have n4 := fun w => asn_4 212 (.agg #[.int .i64 a, .int .i64 n]) w (by decide)
 have y := fun w => asy_5 (.agg #[.int .i64 a, .int .i64 n]) w
 go_enter Tryz.func145, Tryz.ntmps145
 go_wp2_with (first | (go_at_call 151; refine (isReg_any _ _).mono ?_; rintro e w' ⟨rfl, rfl⟩) | (go_at_call 152; refine (isNum_any _ _).mono ?_; rintro e w' ⟨rfl, rfl⟩) | (go_at_call 83; refine (isOneOf_any _ _ _).mono ?_; rintro e w' ⟨rfl, rfl⟩) | (go_at_call 153; refine (areRegs_any _ _ _ _).mono ?_; rintro e w' ⟨rfl, rfl⟩) | (go_at_call 154; refine (takesOk_any _ _ _).mono ?_; rintro e w' ⟨rfl, rfl⟩))
 all_goals go_ret
 all_goals exact ⟨by simp [*], by first | exact (Below.refl _ _).alloc (Nat.le_refl _) _ | exact Below.refl _ _⟩
set_option maxRecDepth 100000 in
theorem placeOk_6 (r b n pl ch : Int) (w : World) : Calls Tryz.prog 145 #[.iface 214 (.agg #[.int .i64 r, .int .i64 b, .int .i64 n]), .int .i64 pl, .int .i64 ch] w fun e w' => e = .returned (.bool (Plain.takesB r b && Plain.oneB n ch)) ∧ Below w.heap.size w w' := by
 have n1 := fun w => asn_1 214 (.agg #[.int .i64 r, .int .i64 b, .int .i64 n]) w (by decide)
 have n2 := fun w => asn_2 214 (.agg #[.int .i64 r, .int .i64 b, .int .i64 n]) w (by decide)
 have n3 := fun w => asn_3 214 (.agg #[.int .i64 r, .int .i64 b, .int .i64 n]) w (by decide)
 have n4 := fun w => asn_4 214 (.agg #[.int .i64 r, .int .i64 b, .int .i64 n]) w (by decide)
 have n5 := fun w => asn_5 214 (.agg #[.int .i64 r, .int .i64 b, .int .i64 n]) w (by decide)
 have y := fun w => asy_6 (.agg #[.int .i64 r, .int .i64 b, .int .i64 n]) w
 go_enter Tryz.func145, Tryz.ntmps145
 go_wp2_with (first | (go_at_call 151; refine (isReg_any _ _).mono ?_; rintro e w' ⟨rfl, rfl⟩) | (go_at_call 152; refine (isNum_any _ _).mono ?_; rintro e w' ⟨rfl, rfl⟩) | (go_at_call 83; refine (isOneOf_any _ _ _).mono ?_; rintro e w' ⟨rfl, rfl⟩) | (go_at_call 153; refine (areRegs_any _ _ _ _).mono ?_; rintro e w' ⟨rfl, rfl⟩) | (go_at_call 154; refine (takesOk_any _ _ _).mono ?_; rintro e w' ⟨rfl, rfl⟩))
 all_goals go_ret
 all_goals exact ⟨by simp [*], by first | exact (Below.refl _ _).alloc (Nat.le_refl _) _ | exact Below.refl _ _⟩
set_option maxRecDepth 100000 in
theorem placeOk_7 (r a n pl ch : Int) (w : World) : Calls Tryz.prog 145 #[.iface 216 (.agg #[.int .i64 r, .int .i64 a, .int .i64 n]), .int .i64 pl, .int .i64 ch] w fun e w' => e = .returned (.bool (Plain.regB r && Plain.regB a && Plain.oneB n ch)) ∧ Below w.heap.size w w' := by
 have n1 := fun w => asn_1 216 (.agg #[.int .i64 r, .int .i64 a, .int .i64 n]) w (by decide)
 have n2 := fun w => asn_2 216 (.agg #[.int .i64 r, .int .i64 a, .int .i64 n]) w (by decide)
 have n3 := fun w => asn_3 216 (.agg #[.int .i64 r, .int .i64 a, .int .i64 n]) w (by decide)
 have n4 := fun w => asn_4 216 (.agg #[.int .i64 r, .int .i64 a, .int .i64 n]) w (by decide)
 have n5 := fun w => asn_5 216 (.agg #[.int .i64 r, .int .i64 a, .int .i64 n]) w (by decide)
 have n6 := fun w => asn_6 216 (.agg #[.int .i64 r, .int .i64 a, .int .i64 n]) w (by decide)
 have y := fun w => asy_7 (.agg #[.int .i64 r, .int .i64 a, .int .i64 n]) w
 go_enter Tryz.func145, Tryz.ntmps145
 go_wp2_with (first | (go_at_call 151; refine (isReg_any _ _).mono ?_; rintro e w' ⟨rfl, rfl⟩) | (go_at_call 152; refine (isNum_any _ _).mono ?_; rintro e w' ⟨rfl, rfl⟩) | (go_at_call 83; refine (isOneOf_any _ _ _).mono ?_; rintro e w' ⟨rfl, rfl⟩) | (go_at_call 153; refine (areRegs_any _ _ _ _).mono ?_; rintro e w' ⟨rfl, rfl⟩) | (go_at_call 154; refine (takesOk_any _ _ _).mono ?_; rintro e w' ⟨rfl, rfl⟩))
 all_goals go_ret
 all_goals exact ⟨by simp [*], by first | exact (Below.refl _ _).alloc (Nat.le_refl _) _ | exact Below.refl _ _⟩
set_option maxRecDepth 100000 in
theorem placeOk_8 (r b n pl ch : Int) (w : World) : Calls Tryz.prog 145 #[.iface 217 (.agg #[.int .i64 r, .int .i64 b, .int .i64 n]), .int .i64 pl, .int .i64 ch] w fun e w' => e = .returned (.bool (Plain.takesB r b && Plain.oneB n ch)) ∧ Below w.heap.size w w' := by
 have n1 := fun w => asn_1 217 (.agg #[.int .i64 r, .int .i64 b, .int .i64 n]) w (by decide)
 have n2 := fun w => asn_2 217 (.agg #[.int .i64 r, .int .i64 b, .int .i64 n]) w (by decide)
 have n3 := fun w => asn_3 217 (.agg #[.int .i64 r, .int .i64 b, .int .i64 n]) w (by decide)
 have n4 := fun w => asn_4 217 (.agg #[.int .i64 r, .int .i64 b, .int .i64 n]) w (by decide)
 have n5 := fun w => asn_5 217 (.agg #[.int .i64 r, .int .i64 b, .int .i64 n]) w (by decide)
 have n6 := fun w => asn_6 217 (.agg #[.int .i64 r, .int .i64 b, .int .i64 n]) w (by decide)
 have n7 := fun w => asn_7 217 (.agg #[.int .i64 r, .int .i64 b, .int .i64 n]) w (by decide)
 have y := fun w => asy_8 (.agg #[.int .i64 r, .int .i64 b, .int .i64 n]) w
 go_enter Tryz.func145, Tryz.ntmps145
 go_wp2_with (first | (go_at_call 151; refine (isReg_any _ _).mono ?_; rintro e w' ⟨rfl, rfl⟩) | (go_at_call 152; refine (isNum_any _ _).mono ?_; rintro e w' ⟨rfl, rfl⟩) | (go_at_call 83; refine (isOneOf_any _ _ _).mono ?_; rintro e w' ⟨rfl, rfl⟩) | (go_at_call 153; refine (areRegs_any _ _ _ _).mono ?_; rintro e w' ⟨rfl, rfl⟩) | (go_at_call 154; refine (takesOk_any _ _ _).mono ?_; rintro e w' ⟨rfl, rfl⟩))
 all_goals go_ret
 all_goals exact ⟨by simp [*], by first | exact (Below.refl _ _).alloc (Nat.le_refl _) _ | exact Below.refl _ _⟩
set_option maxRecDepth 100000 in
theorem placeOk_9 (n pl ch : Int) (w : World) : Calls Tryz.prog 145 #[.iface 219 (.agg #[.int .i64 n]), .int .i64 pl, .int .i64 ch] w fun e w' => e = .returned (.bool (Plain.oneB n ch)) ∧ Below w.heap.size w w' := by
 have n1 := fun w => asn_1 219 (.agg #[.int .i64 n]) w (by decide)
 have n2 := fun w => asn_2 219 (.agg #[.int .i64 n]) w (by decide)
 have n3 := fun w => asn_3 219 (.agg #[.int .i64 n]) w (by decide)
 have n4 := fun w => asn_4 219 (.agg #[.int .i64 n]) w (by decide)
 have n5 := fun w => asn_5 219 (.agg #[.int .i64 n]) w (by decide)
 have n6 := fun w => asn_6 219 (.agg #[.int .i64 n]) w (by decide)
 have n7 := fun w => asn_7 219 (.agg #[.int .i64 n]) w (by decide)
 have n8 := fun w => asn_8 219 (.agg #[.int .i64 n]) w (by decide)
 have y := fun w => asy_9 (.agg #[.int .i64 n]) w
 go_enter Tryz.func145, Tryz.ntmps145
 go_wp2_with (first | (go_at_call 151; refine (isReg_any _ _).mono ?_; rintro e w' ⟨rfl, rfl⟩) | (go_at_call 152; refine (isNum_any _ _).mono ?_; rintro e w' ⟨rfl, rfl⟩) | (go_at_call 83; refine (isOneOf_any _ _ _).mono ?_; rintro e w' ⟨rfl, rfl⟩) | (go_at_call 153; refine (areRegs_any _ _ _ _).mono ?_; rintro e w' ⟨rfl, rfl⟩) | (go_at_call 154; refine (takesOk_any _ _ _).mono ?_; rintro e w' ⟨rfl, rfl⟩))
 all_goals go_ret
 all_goals exact ⟨by simp [*], by first | exact (Below.refl _ _).alloc (Nat.le_refl _) _ | exact Below.refl _ _⟩
set_option maxRecDepth 100000 in
theorem placeOk_10 (a pl ch : Int) (w : World) : Calls Tryz.prog 145 #[.iface 221 (.agg #[.int .i64 a]), .int .i64 pl, .int .i64 ch] w fun e w' => e = .returned (.bool (Plain.regB a)) ∧ Below w.heap.size w w' := by
 have n1 := fun w => asn_1 221 (.agg #[.int .i64 a]) w (by decide)
 have n2 := fun w => asn_2 221 (.agg #[.int .i64 a]) w (by decide)
 have n3 := fun w => asn_3 221 (.agg #[.int .i64 a]) w (by decide)
 have n4 := fun w => asn_4 221 (.agg #[.int .i64 a]) w (by decide)
 have n5 := fun w => asn_5 221 (.agg #[.int .i64 a]) w (by decide)
 have n6 := fun w => asn_6 221 (.agg #[.int .i64 a]) w (by decide)
 have n7 := fun w => asn_7 221 (.agg #[.int .i64 a]) w (by decide)
 have n8 := fun w => asn_8 221 (.agg #[.int .i64 a]) w (by decide)
 have n9 := fun w => asn_9 221 (.agg #[.int .i64 a]) w (by decide)
 have y := fun w => asy_10 (.agg #[.int .i64 a]) w
 go_enter Tryz.func145, Tryz.ntmps145
 go_wp2_with (first | (go_at_call 151; refine (isReg_any _ _).mono ?_; rintro e w' ⟨rfl, rfl⟩) | (go_at_call 152; refine (isNum_any _ _).mono ?_; rintro e w' ⟨rfl, rfl⟩) | (go_at_call 83; refine (isOneOf_any _ _ _).mono ?_; rintro e w' ⟨rfl, rfl⟩) | (go_at_call 153; refine (areRegs_any _ _ _ _).mono ?_; rintro e w' ⟨rfl, rfl⟩) | (go_at_call 154; refine (takesOk_any _ _ _).mono ?_; rintro e w' ⟨rfl, rfl⟩))
 all_goals go_ret
 all_goals exact ⟨by simp [*], by first | exact (Below.refl _ _).alloc (Nat.le_refl _) _ | exact Below.refl _ _⟩
set_option maxRecDepth 100000 in
theorem placeOk_11 (n pl ch : Int) (w : World) : Calls Tryz.prog 145 #[.iface 222 (.agg #[.int .i64 n]), .int .i64 pl, .int .i64 ch] w fun e w' => e = .returned (.bool (Plain.oneB n pl)) ∧ Below w.heap.size w w' := by
 have n1 := fun w => asn_1 222 (.agg #[.int .i64 n]) w (by decide)
 have n2 := fun w => asn_2 222 (.agg #[.int .i64 n]) w (by decide)
 have n3 := fun w => asn_3 222 (.agg #[.int .i64 n]) w (by decide)
 have n4 := fun w => asn_4 222 (.agg #[.int .i64 n]) w (by decide)
 have n5 := fun w => asn_5 222 (.agg #[.int .i64 n]) w (by decide)
 have n6 := fun w => asn_6 222 (.agg #[.int .i64 n]) w (by decide)
 have n7 := fun w => asn_7 222 (.agg #[.int .i64 n]) w (by decide)
 have n8 := fun w => asn_8 222 (.agg #[.int .i64 n]) w (by decide)
 have n9 := fun w => asn_9 222 (.agg #[.int .i64 n]) w (by decide)
 have n10 := fun w => asn_10 222 (.agg #[.int .i64 n]) w (by decide)
 have y := fun w => asy_11 (.agg #[.int .i64 n]) w
 go_enter Tryz.func145, Tryz.ntmps145
 go_wp2_with (first | (go_at_call 151; refine (isReg_any _ _).mono ?_; rintro e w' ⟨rfl, rfl⟩) | (go_at_call 152; refine (isNum_any _ _).mono ?_; rintro e w' ⟨rfl, rfl⟩) | (go_at_call 83; refine (isOneOf_any _ _ _).mono ?_; rintro e w' ⟨rfl, rfl⟩) | (go_at_call 153; refine (areRegs_any _ _ _ _).mono ?_; rintro e w' ⟨rfl, rfl⟩) | (go_at_call 154; refine (takesOk_any _ _ _).mono ?_; rintro e w' ⟨rfl, rfl⟩))
 all_goals go_ret
 all_goals exact ⟨by simp [*], by first | exact (Below.refl _ _).alloc (Nat.le_refl _) _ | exact Below.refl _ _⟩
set_option maxRecDepth 100000 in
theorem placeOk_12 (a n pl ch : Int) (w : World) : Calls Tryz.prog 145 #[.iface 223 (.agg #[.int .i64 a, .int .i64 n]), .int .i64 pl, .int .i64 ch] w fun e w' => e = .returned (.bool (Plain.regB a && Plain.oneB n pl)) ∧ Below w.heap.size w w' := by
 have n1 := fun w => asn_1 223 (.agg #[.int .i64 a, .int .i64 n]) w (by decide)
 have n2 := fun w => asn_2 223 (.agg #[.int .i64 a, .int .i64 n]) w (by decide)
 have n3 := fun w => asn_3 223 (.agg #[.int .i64 a, .int .i64 n]) w (by decide)
 have n4 := fun w => asn_4 223 (.agg #[.int .i64 a, .int .i64 n]) w (by decide)
 have n5 := fun w => asn_5 223 (.agg #[.int .i64 a, .int .i64 n]) w (by decide)
 have n6 := fun w => asn_6 223 (.agg #[.int .i64 a, .int .i64 n]) w (by decide)
 have n7 := fun w => asn_7 223 (.agg #[.int .i64 a, .int .i64 n]) w (by decide)
 have n8 := fun w => asn_8 223 (.agg #[.int .i64 a, .int .i64 n]) w (by decide)
 have n9 := fun w => asn_9 223 (.agg #[.int .i64 a, .int .i64 n]) w (by decide)
 have n10 := fun w => asn_10 223 (.agg #[.int .i64 a, .int .i64 n]) w (by decide)
 have n11 := fun w => asn_11 223 (.agg #[.int .i64 a, .int .i64 n]) w (by decide)
 have y := fun w => asy_12 (.agg #[.int .i64 a, .int .i64 n]) w
 go_enter Tryz.func145, Tryz.ntmps145
 go_wp2_with (first | (go_at_call 151; refine (isReg_any _ _).mono ?_; rintro e w' ⟨rfl, rfl⟩) | (go_at_call 152; refine (isNum_any _ _).mono ?_; rintro e w' ⟨rfl, rfl⟩) | (go_at_call 83; refine (isOneOf_any _ _ _).mono ?_; rintro e w' ⟨rfl, rfl⟩) | (go_at_call 153; refine (areRegs_any _ _ _ _).mono ?_; rintro e w' ⟨rfl, rfl⟩) | (go_at_call 154; refine (takesOk_any _ _ _).mono ?_; rintro e w' ⟨rfl, rfl⟩))
 all_goals go_ret
 all_goals exact ⟨by simp [*], by first | exact (Below.refl _ _).alloc (Nat.le_refl _) _ | exact Below.refl _ _⟩
set_option maxRecDepth 100000 in
theorem placeOk_13 ( pl ch : Int) (w : World) : Calls Tryz.prog 145 #[.iface 225 (.agg #[]), .int .i64 pl, .int .i64 ch] w fun e w' => e = .returned (.bool (true)) ∧ Below w.heap.size w w' := by
 have n1 := fun w => asn_1 225 (.agg #[]) w (by decide)
 have n2 := fun w => asn_2 225 (.agg #[]) w (by decide)
 have n3 := fun w => asn_3 225 (.agg #[]) w (by decide)
 have n4 := fun w => asn_4 225 (.agg #[]) w (by decide)
 have n5 := fun w => asn_5 225 (.agg #[]) w (by decide)
 have n6 := fun w => asn_6 225 (.agg #[]) w (by decide)
 have n7 := fun w => asn_7 225 (.agg #[]) w (by decide)
 have n8 := fun w => asn_8 225 (.agg #[]) w (by decide)
 have n9 := fun w => asn_9 225 (.agg #[]) w (by decide)
 have n10 := fun w => asn_10 225 (.agg #[]) w (by decide)
 have n11 := fun w => asn_11 225 (.agg #[]) w (by decide)
 have n12 := fun w => asn_12 225 (.agg #[]) w (by decide)
 have y := fun w => asy_13 (.agg #[]) w
 go_enter Tryz.func145, Tryz.ntmps145
 go_wp2_with (first | (go_at_call 151; refine (isReg_any _ _).mono ?_; rintro e w' ⟨rfl, rfl⟩) | (go_at_call 152; refine (isNum_any _ _).mono ?_; rintro e w' ⟨rfl, rfl⟩) | (go_at_call 83; refine (isOneOf_any _ _ _).mono ?_; rintro e w' ⟨rfl, rfl⟩) | (go_at_call 153; refine (areRegs_any _ _ _ _).mono ?_; rintro e w' ⟨rfl, rfl⟩) | (go_at_call 154; refine (takesOk_any _ _ _).mono ?_; rintro e w' ⟨rfl, rfl⟩))
 all_goals go_ret
 all_goals exact ⟨by simp [*], by first | exact (Below.refl _ _).alloc (Nat.le_refl _) _ | exact Below.refl _ _⟩
end Go.Proofs.YtcfehbfjillnoaaGreat
