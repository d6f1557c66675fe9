/- Chapter 1: placeOk of each kind of place, for every argument, in every world. No condition. -/
import Derived.Test.YtplncjlcejaabaaGreatChecked
import Derived.WalkKit
import Derived.KernelRfl
import Derived.WalkSpells
import Derived.WalkLawsBesides
import Derived.Test.YtplncjlcejaabaaGreatJPlain
import Derived.Test.YtplncjlcejaabaaGreatJLeaves
namespace Go.Proofs.YtplncjlcejaabaaGreat
set_option linter.unusedSimpArgs false
set_option linter.unusedVariables false
set_option maxRecDepth 100000
open Go.RowKit
theorem asy_1 (v : Value) (w : World) : (Instr.typeAssert (.iface 188 v) 175 188 true).run Tryz.prog w = .ok (.tuple #[v, .bool true]) w := by kernel_rfl
theorem zero_1 (w : World) : (do pure (Value.tuple #[← zeroValue 188, .bool false]) : Sem Value).run Tryz.prog w = .ok (.tuple #[.agg #[.int .i64 0, .int .i64 0], .bool false]) w := by kernel_rfl
theorem asn_1 (u : TypeId) (v : Value) (w : World) (h : u ≠ 188) : (Instr.typeAssert (.iface u v) 175 188 true).run Tryz.prog w = .ok (.tuple #[.agg #[.int .i64 0, .int .i64 0], .bool false]) w := by
 have e : (Instr.typeAssert (.iface u v) 175 188 true).run Tryz.prog w = (if u = 188 then (pure (Value.tuple #[v, .bool true]) : Sem Value) else (do pure (Value.tuple #[← zeroValue 188, .bool false]))).run Tryz.prog w := by kernel_rfl
 rw [e, if_neg h]
 exact zero_1 w
theorem asy_2 (v : Value) (w : World) : (Instr.typeAssert (.iface 190 v) 175 190 true).run Tryz.prog w = .ok (.tuple #[v, .bool true]) w := by kernel_rfl
theorem zero_2 (w : World) : (do pure (Value.tuple #[← zeroValue 190, .bool false]) : Sem Value).run Tryz.prog w = .ok (.tuple #[.agg #[.int .i64 0, .int .i64 0, .int .i64 0], .bool false]) w := by kernel_rfl
theorem asn_2 (u : TypeId) (v : Value) (w : World) (h : u ≠ 190) : (Instr.typeAssert (.iface u v) 175 190 true).run Tryz.prog w = .ok (.tuple #[.agg #[.int .i64 0, .int .i64 0, .int .i64 0], .bool false]) w := by
 have e : (Instr.typeAssert (.iface u v) 175 190 true).run Tryz.prog w = (if u = 190 then (pure (Value.tuple #[v, .bool true]) : Sem Value) else (do pure (Value.tuple #[← zeroValue 190, .bool false]))).run Tryz.prog w := by kernel_rfl
 rw [e, if_neg h]
 exact zero_2 w
theorem asy_3 (v : Value) (w : World) : (Instr.typeAssert (.iface 191 v) 175 191 true).run Tryz.prog w = .ok (.tuple #[v, .bool true]) w := by kernel_rfl
theorem zero_3 (w : World) : (do pure (Value.tuple #[← zeroValue 191, .bool false]) : Sem Value).run Tryz.prog w = .ok (.tuple #[.agg #[.int .i64 0, .int .i64 0, .int .i64 0], .bool false]) w := by kernel_rfl
theorem asn_3 (u : TypeId) (v : Value) (w : World) (h : u ≠ 191) : (Instr.typeAssert (.iface u v) 175 191 true).run Tryz.prog w = .ok (.tuple #[.agg #[.int .i64 0, .int .i64 0, .int .i64 0], .bool false]) w := by
 have e : (Instr.typeAssert (.iface u v) 175 191 true).run Tryz.prog w = (if u = 191 then (pure (Value.tuple #[v, .bool true]) : Sem Value) else (do pure (Value.tuple #[← zeroValue 191, .bool false]))).run Tryz.prog w := by kernel_rfl
 rw [e, if_neg h]
 exact zero_3 w
theorem asy_4 (v : Value) (w : World) : (Instr.typeAssert (.iface 192 v) 175 192 true).run Tryz.prog w = .ok (.tuple #[v, .bool true]) w := by kernel_rfl
theorem zero_4 (w : World) : (do pure (Value.tuple #[← zeroValue 192, .bool false]) : Sem Value).run Tryz.prog w = .ok (.tuple #[.agg #[.int .i64 0, .int .i64 0, .int .i64 0], .bool false]) w := by kernel_rfl
theorem asn_4 (u : TypeId) (v : Value) (w : World) (h : u ≠ 192) : (Instr.typeAssert (.iface u v) 175 192 true).run Tryz.prog w = .ok (.tuple #[.agg #[.int .i64 0, .int .i64 0, .int .i64 0], .bool false]) w := by
 have e : (Instr.typeAssert (.iface u v) 175 192 true).run Tryz.prog w = (if u = 192 then (pure (Value.tuple #[v, .bool true]) : Sem Value) else (do pure (Value.tuple #[← zeroValue 192, .bool false]))).run Tryz.prog w := by kernel_rfl
 rw [e, if_neg h]
 exact zero_4 w
theorem asy_5 (v : Value) (w : World) : (Instr.typeAssert (.iface 194 v) 175 194 true).run Tryz.prog w = .ok (.tuple #[v, .bool true]) w := by kernel_rfl
theorem zero_5 (w : World) : (do pure (Value.tuple #[← zeroValue 194, .bool false]) : Sem Value).run Tryz.prog w = .ok (.tuple #[.agg #[.int .i64 0, .int .i64 0], .bool false]) w := by kernel_rfl
theorem asn_5 (u : TypeId) (v : Value) (w : World) (h : u ≠ 194) : (Instr.typeAssert (.iface u v) 175 194 true).run Tryz.prog w = .ok (.tuple #[.agg #[.int .i64 0, .int .i64 0], .bool false]) w := by
 have e : (Instr.typeAssert (.iface u v) 175 194 true).run Tryz.prog w = (if u = 194 then (pure (Value.tuple #[v, .bool true]) : Sem Value) else (do pure (Value.tuple #[← zeroValue 194, .bool false]))).run Tryz.prog w := by kernel_rfl
 rw [e, if_neg h]
 exact zero_5 w
theorem asy_6 (v : Value) (w : World) : (Instr.typeAssert (.iface 196 v) 175 196 true).run Tryz.prog w = .ok (.tuple #[v, .bool true]) w := by kernel_rfl
theorem zero_6 (w : World) : (do pure (Value.tuple #[← zeroValue 196, .bool false]) : Sem Value).run Tryz.prog w = .ok (.tuple #[.agg #[.int .i64 0, .int .i64 0, .int .i64 0], .bool false]) w := by kernel_rfl
theorem asn_6 (u : TypeId) (v : Value) (w : World) (h : u ≠ 196) : (Instr.typeAssert (.iface u v) 175 196 true).run Tryz.prog w = .ok (.tuple #[.agg #[.int .i64 0, .int .i64 0, .int .i64 0], .bool false]) w := by
 have e : (Instr.typeAssert (.iface u v) 175 196 true).run Tryz.prog w = (if u = 196 then (pure (Value.tuple #[v, .bool true]) : Sem Value) else (do pure (Value.tuple #[← zeroValue 196, .bool false]))).run Tryz.prog w := by kernel_rfl
 rw [e, if_neg h]
 exact zero_6 w
theorem asy_7 (v : Value) (w : World) : (Instr.typeAssert (.iface 198 v) 175 198 true).run Tryz.prog w = .ok (.tuple #[v, .bool true]) w := by kernel_rfl
theorem zero_7 (w : World) : (do pure (Value.tuple #[← zeroValue 198, .bool false]) : Sem Value).run Tryz.prog w = .ok (.tuple #[.agg #[.int .i64 0, .int .i64 0, .int .i64 0], .bool false]) w := by kernel_rfl
theorem asn_7 (u : TypeId) (v : Value) (w : World) (h : u ≠ 198) : (Instr.typeAssert (.iface u v) 175 198 true).run Tryz.prog w = .ok (.tuple #[.agg #[.int .i64 0, .int .i64 0, .int .i64 0], .bool false]) w := by
 have e : (Instr.typeAssert (.iface u v) 175 198 true).run Tryz.prog w = (if u = 198 then (pure (Value.tuple #[v, .bool true]) : Sem Value) else (do pure (Value.tuple #[← zeroValue 198, .bool false]))).run Tryz.prog w := by kernel_rfl
 rw [e, if_neg h]
 exact zero_7 w
theorem asy_8 (v : Value) (w : World) : (Instr.typeAssert (.iface 199 v) 175 199 true).run Tryz.prog w = .ok (.tuple #[v, .bool true]) w := by kernel_rfl
theorem zero_8 (w : World) : (do pure (Value.tuple #[← zeroValue 199, .bool false]) : Sem Value).run Tryz.prog w = .ok (.tuple #[.agg #[.int .i64 0, .int .i64 0, .int .i64 0], .bool false]) w := by kernel_rfl
theorem asn_8 (u : TypeId) (v : Value) (w : World) (h : u ≠ 199) : (Instr.typeAssert (.iface u v) 175 199 true).run Tryz.prog w = .ok (.tuple #[.agg #[.int .i64 0, .int .i64 0, .int .i64 0], .bool false]) w := by
 have e : (Instr.typeAssert (.iface u v) 175 199 true).run Tryz.prog w = (if u = 199 then (pure (Value.tuple #[v, .bool true]) : Sem Value) else (do pure (Value.tuple #[← zeroValue 199, .bool false]))).run Tryz.prog w := by kernel_rfl
 rw [e, if_neg h]
 exact zero_8 w
theorem asy_9 (v : Value) (w : World) : (Instr.typeAssert (.iface 201 v) 175 201 true).run Tryz.prog w = .ok (.tuple #[v, .bool true]) w := by kernel_rfl
theorem zero_9 (w : World) : (do pure (Value.tuple #[← zeroValue 201, .bool false]) : Sem Value).run Tryz.prog w = .ok (.tuple #[.agg #[.int .i64 0], .bool false]) w := by kernel_rfl
theorem asn_9 (u : TypeId) (v : Value) (w : World) (h : u ≠ 201) : (Instr.typeAssert (.iface u v) 175 201 true).run Tryz.prog w = .ok (.tuple #[.agg #[.int .i64 0], .bool false]) w := by
 have e : (Instr.typeAssert (.iface u v) 175 201 true).run Tryz.prog w = (if u = 201 then (pure (Value.tuple #[v, .bool true]) : Sem Value) else (do pure (Value.tuple #[← zeroValue 201, .bool false]))).run Tryz.prog w := by kernel_rfl
 rw [e, if_neg h]
 exact zero_9 w
theorem asy_10 (v : Value) (w : World) : (Instr.typeAssert (.iface 203 v) 175 203 true).run Tryz.prog w = .ok (.tuple #[v, .bool true]) w := by kernel_rfl
theorem zero_10 (w : World) : (do pure (Value.tuple #[← zeroValue 203, .bool false]) : Sem Value).run Tryz.prog w = .ok (.tuple #[.agg #[.int .i64 0], .bool false]) w := by kernel_rfl
theorem asn_10 (u : TypeId) (v : Value) (w : World) (h : u ≠ 203) : (Instr.typeAssert (.iface u v) 175 203 true).run Tryz.prog w = .ok (.tuple #[.agg #[.int .i64 0], .bool false]) w := by
 have e : (Instr.typeAssert (.iface u v) 175 203 true).run Tryz.prog w = (if u = 203 then (pure (Value.tuple #[v, .bool true]) : Sem Value) else (do pure (Value.tuple #[← zeroValue 203, .bool false]))).run Tryz.prog w := by kernel_rfl
 rw [e, if_neg h]
 exact zero_10 w
theorem asy_11 (v : Value) (w : World) : (Instr.typeAssert (.iface 204 v) 175 204 true).run Tryz.prog w = .ok (.tuple #[v, .bool true]) w := by kernel_rfl
theorem zero_11 (w : World) : (do pure (Value.tuple #[← zeroValue 204, .bool false]) : Sem Value).run Tryz.prog w = .ok (.tuple #[.agg #[.int .i64 0], .bool false]) w := by kernel_rfl
theorem asn_11 (u : TypeId) (v : Value) (w : World) (h : u ≠ 204) : (Instr.typeAssert (.iface u v) 175 204 true).run Tryz.prog w = .ok (.tuple #[.agg #[.int .i64 0], .bool false]) w := by
 have e : (Instr.typeAssert (.iface u v) 175 204 true).run Tryz.prog w = (if u = 204 then (pure (Value.tuple #[v, .bool true]) : Sem Value) else (do pure (Value.tuple #[← zeroValue 204, .bool false]))).run Tryz.prog w := by kernel_rfl
 rw [e, if_neg h]
 exact zero_11 w
theorem asy_12 (v : Value) (w : World) : (Instr.typeAssert (.iface 205 v) 175 205 true).run Tryz.prog w = .ok (.tuple #[v, .bool true]) w := by kernel_rfl
theorem zero_12 (w : World) : (do pure (Value.tuple #[← zeroValue 205, .bool false]) : Sem Value).run Tryz.prog w = .ok (.tuple #[.agg #[.int .i64 0, .int .i64 0], .bool false]) w := by kernel_rfl
theorem asn_12 (u : TypeId) (v : Value) (w : World) (h : u ≠ 205) : (Instr.typeAssert (.iface u v) 175 205 true).run Tryz.prog w = .ok (.tuple #[.agg #[.int .i64 0, .int .i64 0], .bool false]) w := by
 have e : (Instr.typeAssert (.iface u v) 175 205 true).run Tryz.prog w = (if u = 205 then (pure (Value.tuple #[v, .bool true]) : Sem Value) else (do pure (Value.tuple #[← zeroValue 205, .bool false]))).run Tryz.prog w := by kernel_rfl
 rw [e, if_neg h]
 exact zero_12 w
theorem asy_13 (v : Value) (w : World) : (Instr.typeAssert (.iface 207 v) 175 207 true).run Tryz.prog w = .ok (.tuple #[v, .bool true]) w := by kernel_rfl
set_option maxRecDepth 100000 in
theorem placeOk_1 (r n pl ch : Int) (w : World) : Calls Tryz.prog 109 #[.iface 188 (.agg #[.int .i64 r, .int .i64 n]), .int .i64 pl, .int .i64 ch] w fun e w' => e = .returned (.bool (Plain.regB r && Plain.numB n)) ∧ Below w.heap.size w w' := by
 have y := fun w => asy_1 (.agg #[.int .i64 r, .int .i64 n]) w
 go_enter Tryz.func109, Tryz.ntmps109
 go_wp2_with (first | (go_at_call 123; refine (isReg_any _ _).mono ?_; rintro e w' ⟨rfl, rfl⟩) | (go_at_call 124; refine (isNum_any _ _).mono ?_; rintro e w' ⟨rfl, rfl⟩) | (go_at_call 32; refine (isOneOf_any _ _ _).mono ?_; rintro e w' ⟨rfl, rfl⟩) | (go_at_call 125; refine (areRegs_any _ _ _ _).mono ?_; rintro e w' ⟨rfl, rfl⟩) | (go_at_call 126; refine (takesOk_any _ _ _).mono ?_; rintro e w' ⟨rfl, rfl⟩))
 all_goals go_ret
 all_goals exact ⟨by simp [*], by first | exact (Below.refl _ _).alloc (Nat.le_refl _) _ | exact Below.refl _ _⟩
set_option maxRecDepth 100000 in
theorem placeOk_2 (r a b pl ch : Int) (w : World) : Calls Tryz.prog 109 #[.iface 190 (.agg #[.int .i64 r, .int .i64 a, .int .i64 b]), .int .i64 pl, .int .i64 ch] w fun e w' => e = .returned (.bool (Plain.areB r a b)) ∧ Below w.heap.size w w' := by
 have n1 := fun w => asn_1 190 (.agg #[.int .i64 r, .int .i64 a, .int .i64 b]) w (by decide)
 have y := fun w => asy_2 (.agg #[.int .i64 r, .int .i64 a, .int .i64 b]) w
 go_enter Tryz.func109, Tryz.ntmps109
 go_wp2_with (first | (go_at_call 123; refine (isReg_any _ _).mono ?_; rintro e w' ⟨rfl, rfl⟩) | (go_at_call 124; refine (isNum_any _ _).mono ?_; rintro e w' ⟨rfl, rfl⟩) | (go_at_call 32; refine (isOneOf_any _ _ _).mono ?_; rintro e w' ⟨rfl, rfl⟩) | (go_at_call 125; refine (areRegs_any _ _ _ _).mono ?_; rintro e w' ⟨rfl, rfl⟩) | (go_at_call 126; refine (takesOk_any _ _ _).mono ?_; rintro e w' ⟨rfl, rfl⟩))
 all_goals go_ret
 all_goals exact ⟨by simp [*], by first | exact (Below.refl _ _).alloc (Nat.le_refl _) _ | exact Below.refl _ _⟩
set_option maxRecDepth 100000 in
theorem placeOk_3 (r a b pl ch : Int) (w : World) : Calls Tryz.prog 109 #[.iface 191 (.agg #[.int .i64 r, .int .i64 a, .int .i64 b]), .int .i64 pl, .int .i64 ch] w fun e w' => e = .returned (.bool (Plain.areB r a b)) ∧ Below w.heap.size w w' := by
 have n1 := fun w => asn_1 191 (.agg #[.int .i64 r, .int .i64 a, .int .i64 b]) w (by decide)
 have n2 := fun w => asn_2 191 (.agg #[.int .i64 r, .int .i64 a, .int .i64 b]) w (by decide)
 have y := fun w => asy_3 (.agg #[.int .i64 r, .int .i64 a, .int .i64 b]) w
 go_enter Tryz.func109, Tryz.ntmps109
 go_wp2_with (first | (go_at_call 123; refine (isReg_any _ _).mono ?_; rintro e w' ⟨rfl, rfl⟩) | (go_at_call 124; refine (isNum_any _ _).mono ?_; rintro e w' ⟨rfl, rfl⟩) | (go_at_call 32; refine (isOneOf_any _ _ _).mono ?_; rintro e w' ⟨rfl, rfl⟩) | (go_at_call 125; refine (areRegs_any _ _ _ _).mono ?_; rintro e w' ⟨rfl, rfl⟩) | (go_at_call 126; refine (takesOk_any _ _ _).mono ?_; rintro e w' ⟨rfl, rfl⟩))
 all_goals go_ret
 all_goals exact ⟨by simp [*], by first | exact (Below.refl _ _).alloc (Nat.le_refl _) _ | exact Below.refl _ _⟩
set_option maxRecDepth 100000 in
theorem placeOk_4 (r a b pl ch : Int) (w : World) : Calls Tryz.prog 109 #[.iface 192 (.agg #[.int .i64 r, .int .i64 a, .int .i64 b]), .int .i64 pl, .int .i64 ch] w fun e w' => e = .returned (.bool (Plain.areB r a b)) ∧ Below w.heap.size w w' := by
 have n1 := fun w => asn_1 192 (.agg #[.int .i64 r, .int .i64 a, .int .i64 b]) w (by decide)
 have n2 := fun w => asn_2 192 (.agg #[.int .i64 r, .int .i64 a, .int .i64 b]) w (by decide)
 have n3 := fun w => asn_3 192 (.agg #[.int .i64 r, .int .i64 a, .int .i64 b]) w (by decide)
 have y := fun w => asy_4 (.agg #[.int .i64 r, .int .i64 a, .int .i64 b]) w
 go_enter Tryz.func109, Tryz.ntmps109
 go_wp2_with (first | (go_at_call 123; refine (isReg_any _ _).mono ?_; rintro e w' ⟨rfl, rfl⟩) | (go_at_call 124; refine (isNum_any _ _).mono ?_; rintro e w' ⟨rfl, rfl⟩) | (go_at_call 32; refine (isOneOf_any _ _ _).mono ?_; rintro e w' ⟨rfl, rfl⟩) | (go_at_call 125; refine (areRegs_any _ _ _ _).mono ?_; rintro e w' ⟨rfl, rfl⟩) | (go_at_call 126; refine (takesOk_any _ _ _).mono ?_; rintro e w' ⟨rfl, rfl⟩))
 all_goals go_ret
 all_goals exact ⟨by simp [*], by first | exact (Below.refl _ _).alloc (Nat.le_refl _) _ | exact Below.refl _ _⟩
set_option maxRecDepth 100000 in
theorem placeOk_5 (a n pl ch : Int) (w : World) : Calls Tryz.prog 109 #[.iface 194 (.agg #[.int .i64 a, .int .i64 n]), .int .i64 pl, .int .i64 ch] w fun e w' => e = .returned (.bool (Plain.regB a && Plain.oneB n ch)) ∧ Below w.heap.size w w' := by
 have n1 := fun w => asn_1 194 (.agg #[.int .i64 a, .int .i64 n]) w (by decide)
 have n2 := fun w => asn_2 194 (.agg #[.int .i64 a, .int .i64 n]) w (by decide)
 have n3 := fun w => asn_3 194 (.agg #[.int .i64 a, .int .i64 n]) w (by decide)
 have n4 := fun w => asn_4 194 (.agg #[.int .i64 a, .int .i64 n]) w (by decide)
 have y := fun w => asy_5 (.agg #[.int .i64 a, .int .i64 n]) w
 go_enter Tryz.func109, Tryz.ntmps109
 go_wp2_with (first | (go_at_call 123; refine (isReg_any _ _).mono ?_; rintro e w' ⟨rfl, rfl⟩) | (go_at_call 124; refine (isNum_any _ _).mono ?_; rintro e w' ⟨rfl, rfl⟩) | (go_at_call 32; refine (isOneOf_any _ _ _).mono ?_; rintro e w' ⟨rfl, rfl⟩) | (go_at_call 125; refine (areRegs_any _ _ _ _).mono ?_; rintro e w' ⟨rfl, rfl⟩) | (go_at_call 126; refine (takesOk_any _ _ _).mono ?_; rintro e w' ⟨rfl, rfl⟩))
 all_goals go_ret
 all_goals exact ⟨by simp [*], by first | exact (Below.refl _ _).alloc (Nat.le_refl _) _ | exact Below.refl _ _⟩
set_option maxRecDepth 100000 in
theorem placeOk_6 (r b n pl ch : Int) (w : World) : Calls Tryz.prog 109 #[.iface 196 (.agg #[.int .i64 r, .int .i64 b, .int .i64 n]), .int .i64 pl, .int .i64 ch] w fun e w' => e = .returned (.bool (Plain.takesB r b && Plain.oneB n ch)) ∧ Below w.heap.size w w' := by
 have n1 := fun w => asn_1 196 (.agg #[.int .i64 r, .int .i64 b, .int .i64 n]) w (by decide)
 have n2 := fun w => asn_2 196 (.agg #[.int .i64 r, .int .i64 b, .int .i64 n]) w (by decide)
 have n3 := fun w => asn_3 196 (.agg #[.int .i64 r, .int .i64 b, .int .i64 n]) w (by decide)
 have n4 := fun w => asn_4 196 (.agg #[.int .i64 r, .int .i64 b, .int .i64 n]) w (by decide)
 have n5 := fun w => asn_5 196 (.agg #[.int .i64 r, .int .i64 b, .int .i64 n]) w (by decide)
 have y := fun w => asy_6 (.agg #[.int .i64 r, .int .i64 b, .int .i64 n]) w
 go_enter Tryz.func109, Tryz.ntmps109
 go_wp2_with (first | (go_at_call 123; refine (isReg_any _ _).mono ?_; rintro e w' ⟨rfl, rfl⟩) | (go_at_call 124; refine (isNum_any _ _).mono ?_; rintro e w' ⟨rfl, rfl⟩) | (go_at_call 32; refine (isOneOf_any _ _ _).mono ?_; rintro e w' ⟨rfl, rfl⟩) | (go_at_call 125; refine (areRegs_any _ _ _ _).mono ?_; rintro e w' ⟨rfl, rfl⟩) | (go_at_call 126; refine (takesOk_any _ _ _).mono ?_; rintro e w' ⟨rfl, rfl⟩))
 all_goals go_ret
 all_goals exact ⟨by simp [*], by first | exact (Below.refl _ _).alloc (Nat.le_refl _) _ | exact Below.refl _ _⟩
set_option maxRecDepth 100000 in
theorem placeOk_7 (r a n pl ch : Int) (w : World) : Calls Tryz.prog 109 #[.iface 198 (.agg #[.int .i64 r, .int .i64 a, .int .i64 n]), .int .i64 pl, .int .i64 ch] w fun e w' => e = .returned (.bool (Plain.regB r && Plain.regB a && Plain.oneB n ch)) ∧ Below w.heap.size w w' := by
 have n1 := fun w => asn_1 198 (.agg #[.int .i64 r, .int .i64 a, .int .i64 n]) w (by decide)
 have n2 := fun w => asn_2 198 (.agg #[.int .i64 r, .int .i64 a, .int .i64 n]) w (by decide)
 have n3 := fun w => asn_3 198 (.agg #[.int .i64 r, .int .i64 a, .int .i64 n]) w (by decide)
 have n4 := fun w => asn_4 198 (.agg #[.int .i64 r, .int .i64 a, .int .i64 n]) w (by decide)
 have n5 := fun w => asn_5 198 (.agg #[.int .i64 r, .int .i64 a, .int .i64 n]) w (by decide)
 have n6 := fun w => asn_6 198 (.agg #[.int .i64 r, .int .i64 a, .int .i64 n]) w (by decide)
 have y := fun w => asy_7 (.agg #[.int .i64 r, .int .i64 a, .int .i64 n]) w
 go_enter Tryz.func109, Tryz.ntmps109
 go_wp2_with (first | (go_at_call 123; refine (isReg_any _ _).mono ?_; rintro e w' ⟨rfl, rfl⟩) | (go_at_call 124; refine (isNum_any _ _).mono ?_; rintro e w' ⟨rfl, rfl⟩) | (go_at_call 32; refine (isOneOf_any _ _ _).mono ?_; rintro e w' ⟨rfl, rfl⟩) | (go_at_call 125; refine (areRegs_any _ _ _ _).mono ?_; rintro e w' ⟨rfl, rfl⟩) | (go_at_call 126; refine (takesOk_any _ _ _).mono ?_; rintro e w' ⟨rfl, rfl⟩))
 all_goals go_ret
 all_goals exact ⟨by simp [*], by first | exact (Below.refl _ _).alloc (Nat.le_refl _) _ | exact Below.refl _ _⟩
set_option maxRecDepth 100000 in
theorem placeOk_8 (r b n pl ch : Int) (w : World) : Calls Tryz.prog 109 #[.iface 199 (.agg #[.int .i64 r, .int .i64 b, .int .i64 n]), .int .i64 pl, .int .i64 ch] w fun e w' => e = .returned (.bool (Plain.takesB r b && Plain.oneB n ch)) ∧ Below w.heap.size w w' := by
 have n1 := fun w => asn_1 199 (.agg #[.int .i64 r, .int .i64 b, .int .i64 n]) w (by decide)
 have n2 := fun w => asn_2 199 (.agg #[.int .i64 r, .int .i64 b, .int .i64 n]) w (by decide)
 have n3 := fun w => asn_3 199 (.agg #[.int .i64 r, .int .i64 b, .int .i64 n]) w (by decide)
 have n4 := fun w => asn_4 199 (.agg #[.int .i64 r, .int .i64 b, .int .i64 n]) w (by decide)
 have n5 := fun w => asn_5 199 (.agg #[.int .i64 r, .int .i64 b, .int .i64 n]) w (by decide)
 have n6 := fun w => asn_6 199 (.agg #[.int .i64 r, .int .i64 b, .int .i64 n]) w (by decide)
 have n7 := fun w => asn_7 199 (.agg #[.int .i64 r, .int .i64 b, .int .i64 n]) w (by decide)
 have y := fun w => asy_8 (.agg #[.int .i64 r, .int .i64 b, .int .i64 n]) w
 go_enter Tryz.func109, Tryz.ntmps109
 go_wp2_with (first | (go_at_call 123; refine (isReg_any _ _).mono ?_; rintro e w' ⟨rfl, rfl⟩) | (go_at_call 124; refine (isNum_any _ _).mono ?_; rintro e w' ⟨rfl, rfl⟩) | (go_at_call 32; refine (isOneOf_any _ _ _).mono ?_; rintro e w' ⟨rfl, rfl⟩) | (go_at_call 125; refine (areRegs_any _ _ _ _).mono ?_; rintro e w' ⟨rfl, rfl⟩) | (go_at_call 126; refine (takesOk_any _ _ _).mono ?_; rintro e w' ⟨rfl, rfl⟩))
 all_goals go_ret
 all_goals exact ⟨by simp [*], by first | exact (Below.refl _ _).alloc (Nat.le_refl _) _ | exact Below.refl _ _⟩
set_option maxRecDepth 100000 in
theorem placeOk_9 (n pl ch : Int) (w : World) : Calls Tryz.prog 109 #[.iface 201 (.agg #[.int .i64 n]), .int .i64 pl, .int .i64 ch] w fun e w' => e = .returned (.bool (Plain.oneB n ch)) ∧ Below w.heap.size w w' := by
 have n1 := fun w => asn_1 201 (.agg #[.int .i64 n]) w (by decide)
 have n2 := fun w => asn_2 201 (.agg #[.int .i64 n]) w (by decide)
 have n3 := fun w => asn_3 201 (.agg #[.int .i64 n]) w (by decide)
 have n4 := fun w => asn_4 201 (.agg #[.int .i64 n]) w (by decide)
 have n5 := fun w => asn_5 201 (.agg #[.int .i64 n]) w (by decide)
 have n6 := fun w => asn_6 201 (.agg #[.int .i64 n]) w (by decide)
 have n7 := fun w => asn_7 201 (.agg #[.int .i64 n]) w (by decide)
 have n8 := fun w => asn_8 201 (.agg #[.int .i64 n]) w (by decide)
 have y := fun w => asy_9 (.agg #[.int .i64 n]) w
 go_enter Tryz.func109, Tryz.ntmps109
 go_wp2_with (first | (go_at_call 123; refine (isReg_any _ _).mono ?_; rintro e w' ⟨rfl, rfl⟩) | (go_at_call 124; refine (isNum_any _ _).mono ?_; rintro e w' ⟨rfl, rfl⟩) | (go_at_call 32; refine (isOneOf_any _ _ _).mono ?_; rintro e w' ⟨rfl, rfl⟩) | (go_at_call 125; refine (areRegs_any _ _ _ _).mono ?_; rintro e w' ⟨rfl, rfl⟩) | (go_at_call 126; refine (takesOk_any _ _ _).mono ?_; rintro e w' ⟨rfl, rfl⟩))
 all_goals go_ret
 all_goals exact ⟨by simp [*], by first | exact (Below.refl _ _).alloc (Nat.le_refl _) _ | exact Below.refl _ _⟩
set_option maxRecDepth 100000 in
theorem placeOk_10 (a pl ch : Int) (w : World) : Calls Tryz.prog 109 #[.iface 203 (.agg #[.int .i64 a]), .int .i64 pl, .int .i64 ch] w fun e w' => e = .returned (.bool (Plain.regB a)) ∧ Below w.heap.size w w' := by
 have n1 := fun w => asn_1 203 (.agg #[.int .i64 a]) w (by decide)
 have n2 := fun w => asn_2 203 (.agg #[.int .i64 a]) w (by decide)
 have n3 := fun w => asn_3 203 (.agg #[.int .i64 a]) w (by decide)
 have n4 := fun w => asn_4 203 (.agg #[.int .i64 a]) w (by decide)
 have n5 := fun w => asn_5 203 (.agg #[.int .i64 a]) w (by decide)
 have n6 := fun w => asn_6 203 (.agg #[.int .i64 a]) w (by decide)
 have n7 := fun w => asn_7 203 (.agg #[.int .i64 a]) w (by decide)
 have n8 := fun w => asn_8 203 (.agg #[.int .i64 a]) w (by decide)
 have n9 := fun w => asn_9 203 (.agg #[.int .i64 a]) w (by decide)
 have y := fun w => asy_10 (.agg #[.int .i64 a]) w
 go_enter Tryz.func109, Tryz.ntmps109
 go_wp2_with (first | (go_at_call 123; refine (isReg_any _ _).mono ?_; rintro e w' ⟨rfl, rfl⟩) | (go_at_call 124; refine (isNum_any _ _).mono ?_; rintro e w' ⟨rfl, rfl⟩) | (go_at_call 32; refine (isOneOf_any _ _ _).mono ?_; rintro e w' ⟨rfl, rfl⟩) | (go_at_call 125; refine (areRegs_any _ _ _ _).mono ?_; rintro e w' ⟨rfl, rfl⟩) | (go_at_call 126; refine (takesOk_any _ _ _).mono ?_; rintro e w' ⟨rfl, rfl⟩))
 all_goals go_ret
 all_goals exact ⟨by simp [*], by first | exact (Below.refl _ _).alloc (Nat.le_refl _) _ | exact Below.refl _ _⟩
set_option maxRecDepth 100000 in
theorem placeOk_11 (n pl ch : Int) (w : World) : Calls Tryz.prog 109 #[.iface 204 (.agg #[.int .i64 n]), .int .i64 pl, .int .i64 ch] w fun e w' => e = .returned (.bool (Plain.oneB n pl)) ∧ Below w.heap.size w w' := by
 have n1 := fun w => asn_1 204 (.agg #[.int .i64 n]) w (by decide)
 have n2 := fun w => asn_2 204 (.agg #[.int .i64 n]) w (by decide)
 have n3 := fun w => asn_3 204 (.agg #[.int .i64 n]) w (by decide)
 have n4 := fun w => asn_4 204 (.agg #[.int .i64 n]) w (by decide)
 have n5 := fun w => asn_5 204 (.agg #[.int .i64 n]) w (by decide)
 have n6 := fun w => asn_6 204 (.agg #[.int .i64 n]) w (by decide)
 have n7 := fun w => asn_7 204 (.agg #[.int .i64 n]) w (by decide)
 have n8 := fun w => asn_8 204 (.agg #[.int .i64 n]) w (by decide)
 have n9 := fun w => asn_9 204 (.agg #[.int .i64 n]) w (by decide)
 have n10 := fun w => asn_10 204 (.agg #[.int .i64 n]) w (by decide)
 have y := fun w => asy_11 (.agg #[.int .i64 n]) w
 go_enter Tryz.func109, Tryz.ntmps109
 go_wp2_with (first | (go_at_call 123; refine (isReg_any _ _).mono ?_; rintro e w' ⟨rfl, rfl⟩) | (go_at_call 124; refine (isNum_any _ _).mono ?_; rintro e w' ⟨rfl, rfl⟩) | (go_at_call 32; refine (isOneOf_any _ _ _).mono ?_; rintro e w' ⟨rfl, rfl⟩) | (go_at_call 125; refine (areRegs_any _ _ _ _).mono ?_; rintro e w' ⟨rfl, rfl⟩) | (go_at_call 126; refine (takesOk_any _ _ _).mono ?_; rintro e w' ⟨rfl, rfl⟩))
 all_goals go_ret
 all_goals exact ⟨by simp [*], by first | exact (Below.refl _ _).alloc (Nat.le_refl _) _ | exact Below.refl _ _⟩
set_option maxRecDepth 100000 in
theorem placeOk_12 (a n pl ch : Int) (w : World) : Calls Tryz.prog 109 #[.iface 205 (.agg #[.int .i64 a, .int .i64 n]), .int .i64 pl, .int .i64 ch] w fun e w' => e = .returned (.bool (Plain.regB a && Plain.oneB n pl)) ∧ Below w.heap.size w w' := by
 have n1 := fun w => asn_1 205 (.agg #[.int .i64 a, .int .i64 n]) w (by decide)
 have n2 := fun w => asn_2 205 (.agg #[.int .i64 a, .int .i64 n]) w (by decide)
 have n3 := fun w => asn_3 205 (.agg #[.int .i64 a, .int .i64 n]) w (by decide)
 have n4 := fun w => asn_4 205 (.agg #[.int .i64 a, .int .i64 n]) w (by decide)
 have n5 := fun w => asn_5 205 (.agg #[.int .i64 a, .int .i64 n]) w (by decide)
 have n6 := fun w => asn_6 205 (.agg #[.int .i64 a, .int .i64 n]) w (by decide)
 have n7 := fun w => asn_7 205 (.agg #[.int .i64 a, .int .i64 n]) w (by decide)
 have n8 := fun w => asn_8 205 (.agg #[.int .i64 a, .int .i64 n]) w (by decide)
 have n9 := fun w => asn_9 205 (.agg #[.int .i64 a, .int .i64 n]) w (by decide)
 have n10 := fun w => asn_10 205 (.agg #[.int .i64 a, .int .i64 n]) w (by decide)
 have n11 := fun w => asn_11 205 (.agg #[.int .i64 a, .int .i64 n]) w (by decide)
 have y := fun w => asy_12 (.agg #[.int .i64 a, .int .i64 n]) w
 go_enter Tryz.func109, Tryz.ntmps109
 go_wp2_with (first | (go_at_call 123; refine (isReg_any _ _).mono ?_; rintro e w' ⟨rfl, rfl⟩) | (go_at_call 124; refine (isNum_any _ _).mono ?_; rintro e w' ⟨rfl, rfl⟩) | (go_at_call 32; refine (isOneOf_any _ _ _).mono ?_; rintro e w' ⟨rfl, rfl⟩) | (go_at_call 125; refine (areRegs_any _ _ _ _).mono ?_; rintro e w' ⟨rfl, rfl⟩) | (go_at_call 126; refine (takesOk_any _ _ _).mono ?_; rintro e w' ⟨rfl, rfl⟩))
 all_goals go_ret
 all_goals exact ⟨by simp [*], by first | exact (Below.refl _ _).alloc (Nat.le_refl _) _ | exact Below.refl _ _⟩
set_option maxRecDepth 100000 in
theorem placeOk_13 ( pl ch : Int) (w : World) : Calls Tryz.prog 109 #[.iface 207 (.agg #[]), .int .i64 pl, .int .i64 ch] w fun e w' => e = .returned (.bool (true)) ∧ Below w.heap.size w w' := by
 have n1 := fun w => asn_1 207 (.agg #[]) w (by decide)
 have n2 := fun w => asn_2 207 (.agg #[]) w (by decide)
 have n3 := fun w => asn_3 207 (.agg #[]) w (by decide)
 have n4 := fun w => asn_4 207 (.agg #[]) w (by decide)
 have n5 := fun w => asn_5 207 (.agg #[]) w (by decide)
 have n6 := fun w => asn_6 207 (.agg #[]) w (by decide)
 have n7 := fun w => asn_7 207 (.agg #[]) w (by decide)
 have n8 := fun w => asn_8 207 (.agg #[]) w (by decide)
 have n9 := fun w => asn_9 207 (.agg #[]) w (by decide)
 have n10 := fun w => asn_10 207 (.agg #[]) w (by decide)
 have n11 := fun w => asn_11 207 (.agg #[]) w (by decide)
 have n12 := fun w => asn_12 207 (.agg #[]) w (by decide)
 have y := fun w => asy_13 (.agg #[]) w
 go_enter Tryz.func109, Tryz.ntmps109
 go_wp2_with (first | (go_at_call 123; refine (isReg_any _ _).mono ?_; rintro e w' ⟨rfl, rfl⟩) | (go_at_call 124; refine (isNum_any _ _).mono ?_; rintro e w' ⟨rfl, rfl⟩) | (go_at_call 32; refine (isOneOf_any _ _ _).mono ?_; rintro e w' ⟨rfl, rfl⟩) | (go_at_call 125; refine (areRegs_any _ _ _ _).mono ?_; rintro e w' ⟨rfl, rfl⟩) | (go_at_call 126; refine (takesOk_any _ _ _).mono ?_; rintro e w' ⟨rfl, rfl⟩))
 all_goals go_ret
 all_goals exact ⟨by simp [*], by first | exact (Below.refl _ _).alloc (Nat.le_refl _) _ | exact Below.refl _ _⟩
end Go.Proofs.YtplncjlcejaabaaGreat
