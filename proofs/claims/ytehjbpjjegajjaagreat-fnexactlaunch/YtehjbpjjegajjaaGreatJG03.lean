/- Chapter 1: placeOk of each kind of place, for every argument, in every world. No condition. The plain side of chapter 1, kind by kind: a place is right just if what is not named is 0, the channels are so many, and what is named is right. No condition. -/
import Derived.Test.YtehjbpjjegajjaaGreatJG00
import Derived.Test.YtehjbpjjegajjaaGreatChecked
import Derived.WalkKit
import Derived.KernelRfl
import Derived.WalkSpells
import Derived.WalkLawsBesides
import Derived.Test.YtehjbpjjegajjaaGreatJLeaves
namespace Go.Proofs.YtehjbpjjegajjaaGreat
section
set_option linter.unusedSimpArgs false
set_option linter.unusedVariables false
set_option maxRecDepth 100000
open Go.RowKit
theorem asy_1 (v : Value) (w : World) : (Instr.typeAssert (.iface 147 v) 136 147 true).run Tryz.prog w = .ok (.tuple #[v, .bool true]) w := by kernel_rfl
theorem zero_1 (w : World) : (do pure (Value.tuple #[← zeroValue 147, .bool false]) : Sem Value).run Tryz.prog w = .ok (.tuple #[.agg #[.int .i64 0, .int .i64 0], .bool false]) w := by kernel_rfl
theorem asn_1 (u : TypeId) (v : Value) (w : World) (h : u ≠ 147) : (Instr.typeAssert (.iface u v) 136 147 true).run Tryz.prog w = .ok (.tuple #[.agg #[.int .i64 0, .int .i64 0], .bool false]) w := by
 have e : (Instr.typeAssert (.iface u v) 136 147 true).run Tryz.prog w = (if u = 147 then (pure (Value.tuple #[v, .bool true]) : Sem Value) else (do pure (Value.tuple #[← zeroValue 147, .bool false]))).run Tryz.prog w := by kernel_rfl
 rw [e, if_neg h]
 exact zero_1 w
theorem asy_2 (v : Value) (w : World) : (Instr.typeAssert (.iface 149 v) 136 149 true).run Tryz.prog w = .ok (.tuple #[v, .bool true]) w := by kernel_rfl
theorem zero_2 (w : World) : (do pure (Value.tuple #[← zeroValue 149, .bool false]) : Sem Value).run Tryz.prog w = .ok (.tuple #[.agg #[.int .i64 0, .int .i64 0, .int .i64 0], .bool false]) w := by kernel_rfl
theorem asn_2 (u : TypeId) (v : Value) (w : World) (h : u ≠ 149) : (Instr.typeAssert (.iface u v) 136 149 true).run Tryz.prog w = .ok (.tuple #[.agg #[.int .i64 0, .int .i64 0, .int .i64 0], .bool false]) w := by
 have e : (Instr.typeAssert (.iface u v) 136 149 true).run Tryz.prog w = (if u = 149 then (pure (Value.tuple #[v, .bool true]) : Sem Value) else (do pure (Value.tuple #[← zeroValue 149, .bool false]))).run Tryz.prog w := by kernel_rfl
 rw [e, if_neg h]
 exact zero_2 w
theorem asy_3 (v : Value) (w : World) : (Instr.typeAssert (.iface 150 v) 136 150 true).run Tryz.prog w = .ok (.tuple #[v, .bool true]) w := by kernel_rfl
theorem zero_3 (w : World) : (do pure (Value.tuple #[← zeroValue 150, .bool false]) : Sem Value).run Tryz.prog w = .ok (.tuple #[.agg #[.int .i64 0, .int .i64 0, .int .i64 0], .bool false]) w := by kernel_rfl
theorem asn_3 (u : TypeId) (v : Value) (w : World) (h : u ≠ 150) : (Instr.typeAssert (.iface u v) 136 150 true).run Tryz.prog w = .ok (.tuple #[.agg #[.int .i64 0, .int .i64 0, .int .i64 0], .bool false]) w := by
 have e : (Instr.typeAssert (.iface u v) 136 150 true).run Tryz.prog w = (if u = 150 then (pure (Value.tuple #[v, .bool true]) : Sem Value) else (do pure (Value.tuple #[← zeroValue 150, .bool false]))).run Tryz.prog w := by kernel_rfl
 rw [e, if_neg h]
 exact zero_3 w
theorem asy_4 (v : Value) (w : World) : (Instr.typeAssert (.iface 151 v) 136 151 true).run Tryz.prog w = .ok (.tuple #[v, .bool true]) w := by kernel_rfl
theorem zero_4 (w : World) : (do pure (Value.tuple #[← zeroValue 151, .bool false]) : Sem Value).run Tryz.prog w = .ok (.tuple #[.agg #[.int .i64 0, .int .i64 0, .int .i64 0], .bool false]) w := by kernel_rfl
theorem asn_4 (u : TypeId) (v : Value) (w : World) (h : u ≠ 151) : (Instr.typeAssert (.iface u v) 136 151 true).run Tryz.prog w = .ok (.tuple #[.agg #[.int .i64 0, .int .i64 0, .int .i64 0], .bool false]) w := by
 have e : (Instr.typeAssert (.iface u v) 136 151 true).run Tryz.prog w = (if u = 151 then (pure (Value.tuple #[v, .bool true]) : Sem Value) else (do pure (Value.tuple #[← zeroValue 151, .bool false]))).run Tryz.prog w := by kernel_rfl
 rw [e, if_neg h]
 exact zero_4 w
theorem asy_5 (v : Value) (w : World) : (Instr.typeAssert (.iface 153 v) 136 153 true).run Tryz.prog w = .ok (.tuple #[v, .bool true]) w := by kernel_rfl
theorem zero_5 (w : World) : (do pure (Value.tuple #[← zeroValue 153, .bool false]) : Sem Value).run Tryz.prog w = .ok (.tuple #[.agg #[.int .i64 0, .int .i64 0], .bool false]) w := by kernel_rfl
theorem asn_5 (u : TypeId) (v : Value) (w : World) (h : u ≠ 153) : (Instr.typeAssert (.iface u v) 136 153 true).run Tryz.prog w = .ok (.tuple #[.agg #[.int .i64 0, .int .i64 0], .bool false]) w := by
 have e : (Instr.typeAssert (.iface u v) 136 153 true).run Tryz.prog w = (if u = 153 then (pure (Value.tuple #[v, .bool true]) : Sem Value) else (do pure (Value.tuple #[← zeroValue 153, .bool false]))).run Tryz.prog w := by kernel_rfl
 rw [e, if_neg h]
 exact zero_5 w
theorem asy_6 (v : Value) (w : World) : (Instr.typeAssert (.iface 155 v) 136 155 true).run Tryz.prog w = .ok (.tuple #[v, .bool true]) w := by kernel_rfl
theorem zero_6 (w : World) : (do pure (Value.tuple #[← zeroValue 155, .bool false]) : Sem Value).run Tryz.prog w = .ok (.tuple #[.agg #[.int .i64 0, .int .i64 0, .int .i64 0], .bool false]) w := by kernel_rfl
theorem asn_6 (u : TypeId) (v : Value) (w : World) (h : u ≠ 155) : (Instr.typeAssert (.iface u v) 136 155 true).run Tryz.prog w = .ok (.tuple #[.agg #[.int .i64 0, .int .i64 0, .int .i64 0], .bool false]) w := by
 have e : (Instr.typeAssert (.iface u v) 136 155 true).run Tryz.prog w = (if u = 155 then (pure (Value.tuple #[v, .bool true]) : Sem Value) else (do pure (Value.tuple #[← zeroValue 155, .bool false]))).run Tryz.prog w := by kernel_rfl
 rw [e, if_neg h]
 exact zero_6 w
theorem asy_7 (v : Value) (w : World) : (Instr.typeAssert (.iface 157 v) 136 157 true).run Tryz.prog w = .ok (.tuple #[v, .bool true]) w := by kernel_rfl
theorem zero_7 (w : World) : (do pure (Value.tuple #[← zeroValue 157, .bool false]) : Sem Value).run Tryz.prog w = .ok (.tuple #[.agg #[.int .i64 0, .int .i64 0, .int .i64 0], .bool false]) w := by kernel_rfl
theorem asn_7 (u : TypeId) (v : Value) (w : World) (h : u ≠ 157) : (Instr.typeAssert (.iface u v) 136 157 true).run Tryz.prog w = .ok (.tuple #[.agg #[.int .i64 0, .int .i64 0, .int .i64 0], .bool false]) w := by
 have e : (Instr.typeAssert (.iface u v) 136 157 true).run Tryz.prog w = (if u = 157 then (pure (Value.tuple #[v, .bool true]) : Sem Value) else (do pure (Value.tuple #[← zeroValue 157, .bool false]))).run Tryz.prog w := by kernel_rfl
 rw [e, if_neg h]
 exact zero_7 w
theorem asy_8 (v : Value) (w : World) : (Instr.typeAssert (.iface 158 v) 136 158 true).run Tryz.prog w = .ok (.tuple #[v, .bool true]) w := by kernel_rfl
theorem zero_8 (w : World) : (do pure (Value.tuple #[← zeroValue 158, .bool false]) : Sem Value).run Tryz.prog w = .ok (.tuple #[.agg #[.int .i64 0, .int .i64 0, .int .i64 0], .bool false]) w := by kernel_rfl
theorem asn_8 (u : TypeId) (v : Value) (w : World) (h : u ≠ 158) : (Instr.typeAssert (.iface u v) 136 158 true).run Tryz.prog w = .ok (.tuple #[.agg #[.int .i64 0, .int .i64 0, .int .i64 0], .bool false]) w := by
 have e : (Instr.typeAssert (.iface u v) 136 158 true).run Tryz.prog w = (if u = 158 then (pure (Value.tuple #[v, .bool true]) : Sem Value) else (do pure (Value.tuple #[← zeroValue 158, .bool false]))).run Tryz.prog w := by kernel_rfl
 rw [e, if_neg h]
 exact zero_8 w
theorem asy_9 (v : Value) (w : World) : (Instr.typeAssert (.iface 160 v) 136 160 true).run Tryz.prog w = .ok (.tuple #[v, .bool true]) w := by kernel_rfl
theorem zero_9 (w : World) : (do pure (Value.tuple #[← zeroValue 160, .bool false]) : Sem Value).run Tryz.prog w = .ok (.tuple #[.agg #[.int .i64 0], .bool false]) w := by kernel_rfl
theorem asn_9 (u : TypeId) (v : Value) (w : World) (h : u ≠ 160) : (Instr.typeAssert (.iface u v) 136 160 true).run Tryz.prog w = .ok (.tuple #[.agg #[.int .i64 0], .bool false]) w := by
 have e : (Instr.typeAssert (.iface u v) 136 160 true).run Tryz.prog w = (if u = 160 then (pure (Value.tuple #[v, .bool true]) : Sem Value) else (do pure (Value.tuple #[← zeroValue 160, .bool false]))).run Tryz.prog w := by kernel_rfl
 rw [e, if_neg h]
 exact zero_9 w
theorem asy_10 (v : Value) (w : World) : (Instr.typeAssert (.iface 162 v) 136 162 true).run Tryz.prog w = .ok (.tuple #[v, .bool true]) w := by kernel_rfl
theorem zero_10 (w : World) : (do pure (Value.tuple #[← zeroValue 162, .bool false]) : Sem Value).run Tryz.prog w = .ok (.tuple #[.agg #[.int .i64 0], .bool false]) w := by kernel_rfl
theorem asn_10 (u : TypeId) (v : Value) (w : World) (h : u ≠ 162) : (Instr.typeAssert (.iface u v) 136 162 true).run Tryz.prog w = .ok (.tuple #[.agg #[.int .i64 0], .bool false]) w := by
 have e : (Instr.typeAssert (.iface u v) 136 162 true).run Tryz.prog w = (if u = 162 then (pure (Value.tuple #[v, .bool true]) : Sem Value) else (do pure (Value.tuple #[← zeroValue 162, .bool false]))).run Tryz.prog w := by kernel_rfl
 rw [e, if_neg h]
 exact zero_10 w
theorem asy_11 (v : Value) (w : World) : (Instr.typeAssert (.iface 163 v) 136 163 true).run Tryz.prog w = .ok (.tuple #[v, .bool true]) w := by kernel_rfl
theorem zero_11 (w : World) : (do pure (Value.tuple #[← zeroValue 163, .bool false]) : Sem Value).run Tryz.prog w = .ok (.tuple #[.agg #[.int .i64 0], .bool false]) w := by kernel_rfl
theorem asn_11 (u : TypeId) (v : Value) (w : World) (h : u ≠ 163) : (Instr.typeAssert (.iface u v) 136 163 true).run Tryz.prog w = .ok (.tuple #[.agg #[.int .i64 0], .bool false]) w := by
 have e : (Instr.typeAssert (.iface u v) 136 163 true).run Tryz.prog w = (if u = 163 then (pure (Value.tuple #[v, .bool true]) : Sem Value) else (do pure (Value.tuple #[← zeroValue 163, .bool false]))).run Tryz.prog w := by kernel_rfl
 rw [e, if_neg h]
 exact zero_11 w
theorem asy_12 (v : Value) (w : World) : (Instr.typeAssert (.iface 164 v) 136 164 true).run Tryz.prog w = .ok (.tuple #[v, .bool true]) w := by kernel_rfl
theorem zero_12 (w : World) : (do pure (Value.tuple #[← zeroValue 164, .bool false]) : Sem Value).run Tryz.prog w = .ok (.tuple #[.agg #[.int .i64 0, .int .i64 0], .bool false]) w := by kernel_rfl
theorem asn_12 (u : TypeId) (v : Value) (w : World) (h : u ≠ 164) : (Instr.typeAssert (.iface u v) 136 164 true).run Tryz.prog w = .ok (.tuple #[.agg #[.int .i64 0, .int .i64 0], .bool false]) w := by
 have e : (Instr.typeAssert (.iface u v) 136 164 true).run Tryz.prog w = (if u = 164 then (pure (Value.tuple #[v, .bool true]) : Sem Value) else (do pure (Value.tuple #[← zeroValue 164, .bool false]))).run Tryz.prog w := by kernel_rfl
 rw [e, if_neg h]
 exact zero_12 w
theorem asy_13 (v : Value) (w : World) : (Instr.typeAssert (.iface 166 v) 136 166 true).run Tryz.prog w = .ok (.tuple #[v, .bool true]) w := by kernel_rfl
set_option maxRecDepth 100000 in
theorem placeOk_1 (r n pl ch : Int) (w : World) : Calls Tryz.prog 116 #[.iface 147 (.agg #[.int .i64 r, .int .i64 n]), .int .i64 pl, .int .i64 ch] w fun e w' => e = .returned (.bool (Plain.regB r && Plain.numB n)) ∧ Below w.heap.size w w' := by
 have y := fun w => asy_1 (.agg #[.int .i64 r, .int .i64 n]) w
 go_enter Tryz.func116, Tryz.ntmps116
 go_wp2_with (first | (go_at_call 126; refine (isReg_any _ _).mono ?_; rintro e w' ⟨rfl, rfl⟩) | (go_at_call 125; refine (isNum_any _ _).mono ?_; rintro e w' ⟨rfl, rfl⟩) | (go_at_call 121; refine (isOneOf_any _ _ _).mono ?_; rintro e w' ⟨rfl, rfl⟩) | (go_at_call 127; refine (areRegs_any _ _ _ _).mono ?_; rintro e w' ⟨rfl, rfl⟩) | (go_at_call 128; refine (takesOk_any _ _ _).mono ?_; rintro e w' ⟨rfl, rfl⟩))
 all_goals go_ret
 all_goals exact ⟨by simp [*], by first | exact (Below.refl _ _).alloc (Nat.le_refl _) _ | exact Below.refl _ _⟩
set_option maxRecDepth 100000 in
theorem placeOk_2 (r a b pl ch : Int) (w : World) : Calls Tryz.prog 116 #[.iface 149 (.agg #[.int .i64 r, .int .i64 a, .int .i64 b]), .int .i64 pl, .int .i64 ch] w fun e w' => e = .returned (.bool (Plain.areB r a b)) ∧ Below w.heap.size w w' := by
 have n1 := fun w => asn_1 149 (.agg #[.int .i64 r, .int .i64 a, .int .i64 b]) w (by decide)
 have y := fun w => asy_2 (.agg #[.int .i64 r, .int .i64 a, .int .i64 b]) w
 go_enter Tryz.func116, Tryz.ntmps116
 go_wp2_with (first | (go_at_call 126; refine (isReg_any _ _).mono ?_; rintro e w' ⟨rfl, rfl⟩) | (go_at_call 125; refine (isNum_any _ _).mono ?_; rintro e w' ⟨rfl, rfl⟩) | (go_at_call 121; refine (isOneOf_any _ _ _).mono ?_; rintro e w' ⟨rfl, rfl⟩) | (go_at_call 127; refine (areRegs_any _ _ _ _).mono ?_; rintro e w' ⟨rfl, rfl⟩) | (go_at_call 128; refine (takesOk_any _ _ _).mono ?_; rintro e w' ⟨rfl, rfl⟩))
 all_goals go_ret
 all_goals exact ⟨by simp [*], by first | exact (Below.refl _ _).alloc (Nat.le_refl _) _ | exact Below.refl _ _⟩
set_option maxRecDepth 100000 in
theorem placeOk_3 (r a b pl ch : Int) (w : World) : Calls Tryz.prog 116 #[.iface 150 (.agg #[.int .i64 r, .int .i64 a, .int .i64 b]), .int .i64 pl, .int .i64 ch] w fun e w' => e = .returned (.bool (Plain.areB r a b)) ∧ Below w.heap.size w w' := by
 have n1 := fun w => asn_1 150 (.agg #[.int .i64 r, .int .i64 a, .int .i64 b]) w (by decide)
 have n2 := fun w => asn_2 150 (.agg #[.int .i64 r, .int .i64 a, .int .i64 b]) w (by decide)
 have y := fun w => asy_3 (.agg #[.int .i64 r, .int .i64 a, .int .i64 b]) w
 go_enter Tryz.func116, Tryz.ntmps116
 go_wp2_with (first | (go_at_call 126; refine (isReg_any _ _).mono ?_; rintro e w' ⟨rfl, rfl⟩) | (go_at_call 125; refine (isNum_any _ _).mono ?_; rintro e w' ⟨rfl, rfl⟩) | (go_at_call 121; refine (isOneOf_any _ _ _).mono ?_; rintro e w' ⟨rfl, rfl⟩) | (go_at_call 127; refine (areRegs_any _ _ _ _).mono ?_; rintro e w' ⟨rfl, rfl⟩) | (go_at_call 128; refine (takesOk_any _ _ _).mono ?_; rintro e w' ⟨rfl, rfl⟩))
 all_goals go_ret
 all_goals exact ⟨by simp [*], by first | exact (Below.refl _ _).alloc (Nat.le_refl _) _ | exact Below.refl _ _⟩
set_option maxRecDepth 100000 in
theorem placeOk_4 (r a b pl ch : Int) (w : World) : Calls Tryz.prog 116 #[.iface 151 (.agg #[.int .i64 r, .int .i64 a, .int .i64 b]), .int .i64 pl, .int .i64 ch] w fun e w' => e = .returned (.bool (Plain.areB r a b)) ∧ Below w.heap.size w w' := by
 have n1 := fun w => asn_1 151 (.agg #[.int .i64 r, .int .i64 a, .int .i64 b]) w (by decide)
 have n2 := fun w => asn_2 151 (.agg #[.int .i64 r, .int .i64 a, .int .i64 b]) w (by decide)
 have n3 := fun w => asn_3 151 (.agg #[.int .i64 r, .int .i64 a, .int .i64 b]) w (by decide)
 have y := fun w => asy_4 (.agg #[.int .i64 r, .int .i64 a, .int .i64 b]) w
 go_enter Tryz.func116, Tryz.ntmps116
 go_wp2_with (first | (go_at_call 126; refine (isReg_any _ _).mono ?_; rintro e w' ⟨rfl, rfl⟩) | (go_at_call 125; refine (isNum_any _ _).mono ?_; rintro e w' ⟨rfl, rfl⟩) | (go_at_call 121; refine (isOneOf_any _ _ _).mono ?_; rintro e w' ⟨rfl, rfl⟩) | (go_at_call 127; refine (areRegs_any _ _ _ _).mono ?_; rintro e w' ⟨rfl, rfl⟩) | (go_at_call 128; refine (takesOk_any _ _ _).mono ?_; rintro e w' ⟨rfl, rfl⟩))
 all_goals go_ret
 all_goals exact ⟨by simp [*], by first | exact (Below.refl _ _).alloc (Nat.le_refl _) _ | exact Below.refl _ _⟩
set_option maxRecDepth 100000 in
theorem placeOk_5 (a n pl ch : Int) (w : World) : Calls Tryz.prog 116 #[.iface 153 (.agg #[.int .i64 a, .int .i64 n]), .int .i64 pl, .int .i64 ch] w fun e w' => e = .returned (.bool (Plain.regB a && Plain.oneB n ch)) ∧ Below w.heap.size w w' := by
 have n1 := fun w => asn_1 153 (.agg #[.int .i64 a, .int .i64 n]) w (by decide)
 have n2 := fun w => asn_2 153 (.agg #[.int .i64 a, .int .i64 n]) w (by decide)
 have n3 := fun w => asn_3 153 (.agg #[.int .i64 a, .int .i64 n]) w (by decide)
 have n4 := fun w => asn_4 153 (.agg #[.int .i64 a, .int .i64 n]) w (by decide)
 have y := fun w => asy_5 (.agg #[.int .i64 a, .int .i64 n]) w
 go_enter Tryz.func116, Tryz.ntmps116
 go_wp2_with (first | (go_at_call 126; refine (isReg_any _ _).mono ?_; rintro e w' ⟨rfl, rfl⟩) | (go_at_call 125; refine (isNum_any _ _).mono ?_; rintro e w' ⟨rfl, rfl⟩) | (go_at_call 121; refine (isOneOf_any _ _ _).mono ?_; rintro e w' ⟨rfl, rfl⟩) | (go_at_call 127; refine (areRegs_any _ _ _ _).mono ?_; rintro e w' ⟨rfl, rfl⟩) | (go_at_call 128; refine (takesOk_any _ _ _).mono ?_; rintro e w' ⟨rfl, rfl⟩))
 all_goals go_ret
 all_goals exact ⟨by simp [*], by first | exact (Below.refl _ _).alloc (Nat.le_refl _) _ | exact Below.refl _ _⟩
set_option maxRecDepth 100000 in
theorem placeOk_6 (r b n pl ch : Int) (w : World) : Calls Tryz.prog 116 #[.iface 155 (.agg #[.int .i64 r, .int .i64 b, .int .i64 n]), .int .i64 pl, .int .i64 ch] w fun e w' => e = .returned (.bool (Plain.takesB r b && Plain.oneB n ch)) ∧ Below w.heap.size w w' := by
 have n1 := fun w => asn_1 155 (.agg #[.int .i64 r, .int .i64 b, .int .i64 n]) w (by decide)
 have n2 := fun w => asn_2 155 (.agg #[.int .i64 r, .int .i64 b, .int .i64 n]) w (by decide)
 have n3 := fun w => asn_3 155 (.agg #[.int .i64 r, .int .i64 b, .int .i64 n]) w (by decide)
 have n4 := fun w => asn_4 155 (.agg #[.int .i64 r, .int .i64 b, .int .i64 n]) w (by decide)
 have n5 := fun w => asn_5 155 (.agg #[.int .i64 r, .int .i64 b, .int .i64 n]) w (by decide)
 have y := fun w => asy_6 (.agg #[.int .i64 r, .int .i64 b, .int .i64 n]) w
 go_enter Tryz.func116, Tryz.ntmps116
 go_wp2_with (first | (go_at_call 126; refine (isReg_any _ _).mono ?_; rintro e w' ⟨rfl, rfl⟩) | (go_at_call 125; refine (isNum_any _ _).mono ?_; rintro e w' ⟨rfl, rfl⟩) | (go_at_call 121; refine (isOneOf_any _ _ _).mono ?_; rintro e w' ⟨rfl, rfl⟩) | (go_at_call 127; refine (areRegs_any _ _ _ _).mono ?_; rintro e w' ⟨rfl, rfl⟩) | (go_at_call 128; refine (takesOk_any _ _ _).mono ?_; rintro e w' ⟨rfl, rfl⟩))
 all_goals go_ret
 all_goals exact ⟨by simp [*], by first | exact (Below.refl _ _).alloc (Nat.le_refl _) _ | exact Below.refl _ _⟩
set_option maxRecDepth 100000 in
theorem placeOk_7 (r a n pl ch : Int) (w : World) : Calls Tryz.prog 116 #[.iface 157 (.agg #[.int .i64 r, .int .i64 a, .int .i64 n]), .int .i64 pl, .int .i64 ch] w fun e w' => e = .returned (.bool (Plain.regB r && Plain.regB a && Plain.oneB n ch)) ∧ Below w.heap.size w w' := by
 have n1 := fun w => asn_1 157 (.agg #[.int .i64 r, .int .i64 a, .int .i64 n]) w (by decide)
 have n2 := fun w => asn_2 157 (.agg #[.int .i64 r, .int .i64 a, .int .i64 n]) w (by decide)
 have n3 := fun w => asn_3 157 (.agg #[.int .i64 r, .int .i64 a, .int .i64 n]) w (by decide)
 have n4 := fun w => asn_4 157 (.agg #[.int .i64 r, .int .i64 a, .int .i64 n]) w (by decide)
 have n5 := fun w => asn_5 157 (.agg #[.int .i64 r, .int .i64 a, .int .i64 n]) w (by decide)
 have n6 := fun w => asn_6 157 (.agg #[.int .i64 r, .int .i64 a, .int .i64 n]) w (by decide)
 have y := fun w => asy_7 (.agg #[.int .i64 r, .int .i64 a, .int .i64 n]) w
 go_enter Tryz.func116, Tryz.ntmps116
 go_wp2_with (first | (go_at_call 126; refine (isReg_any _ _).mono ?_; rintro e w' ⟨rfl, rfl⟩) | (go_at_call 125; refine (isNum_any _ _).mono ?_; rintro e w' ⟨rfl, rfl⟩) | (go_at_call 121; refine (isOneOf_any _ _ _).mono ?_; rintro e w' ⟨rfl, rfl⟩) | (go_at_call 127; refine (areRegs_any _ _ _ _).mono ?_; rintro e w' ⟨rfl, rfl⟩) | (go_at_call 128; refine (takesOk_any _ _ _).mono ?_; rintro e w' ⟨rfl, rfl⟩))
 all_goals go_ret
 all_goals exact ⟨by simp [*], by first | exact (Below.refl _ _).alloc (Nat.le_refl _) _ | exact Below.refl _ _⟩
set_option maxRecDepth 100000 in
theorem placeOk_8 (r b n pl ch : Int) (w : World) : Calls Tryz.prog 116 #[.iface 158 (.agg #[.int .i64 r, .int .i64 b, .int .i64 n]), .int .i64 pl, .int .i64 ch] w fun e w' => e = .returned (.bool (Plain.takesB r b && Plain.oneB n ch)) ∧ Below w.heap.size w w' := by
 have n1 := fun w => asn_1 158 (.agg #[.int .i64 r, .int .i64 b, .int .i64 n]) w (by decide)
 have n2 := fun w => asn_2 158 (.agg #[.int .i64 r, .int .i64 b, .int .i64 n]) w (by decide)
 have n3 := fun w => asn_3 158 (.agg #[.int .i64 r, .int .i64 b, .int .i64 n]) w (by decide)
 have n4 := fun w => asn_4 158 (.agg #[.int .i64 r, .int .i64 b, .int .i64 n]) w (by decide)
 have n5 := fun w => asn_5 158 (.agg #[.int .i64 r, .int .i64 b, .int .i64 n]) w (by decide)
 have n6 := fun w => asn_6 158 (.agg #[.int .i64 r, .int .i64 b, .int .i64 n]) w (by decide)
 have n7 := fun w => asn_7 158 (.agg #[.int .i64 r, .int .i64 b, .int .i64 n]) w (by decide)
 have y := fun w => asy_8 (.agg #[.int .i64 r, .int .i64 b, .int .i64 n]) w
 go_enter Tryz.func116, Tryz.ntmps116
 go_wp2_with (first | (go_at_call 126; refine (isReg_any _ _).mono ?_; rintro e w' ⟨rfl, rfl⟩) | (go_at_call 125; refine (isNum_any _ _).mono ?_; rintro e w' ⟨rfl, rfl⟩) | (go_at_call 121; refine (isOneOf_any _ _ _).mono ?_; rintro e w' ⟨rfl, rfl⟩) | (go_at_call 127; refine (areRegs_any _ _ _ _).mono ?_; rintro e w' ⟨rfl, rfl⟩) | (go_at_call 128; refine (takesOk_any _ _ _).mono ?_; rintro e w' ⟨rfl, rfl⟩))
 all_goals go_ret
 all_goals exact ⟨by simp [*], by first | exact (Below.refl _ _).alloc (Nat.le_refl _) _ | exact Below.refl _ _⟩
set_option maxRecDepth 100000 in
theorem placeOk_9 (n pl ch : Int) (w : World) : Calls Tryz.prog 116 #[.iface 160 (.agg #[.int .i64 n]), .int .i64 pl, .int .i64 ch] w fun e w' => e = .returned (.bool (Plain.oneB n ch)) ∧ Below w.heap.size w w' := by
 have n1 := fun w => asn_1 160 (.agg #[.int .i64 n]) w (by decide)
 have n2 := fun w => asn_2 160 (.agg #[.int .i64 n]) w (by decide)
 have n3 := fun w => asn_3 160 (.agg #[.int .i64 n]) w (by decide)
 have n4 := fun w => asn_4 160 (.agg #[.int .i64 n]) w (by decide)
 have n5 := fun w => asn_5 160 (.agg #[.int .i64 n]) w (by decide)
 have n6 := fun w => asn_6 160 (.agg #[.int .i64 n]) w (by decide)
 have n7 := fun w => asn_7 160 (.agg #[.int .i64 n]) w (by decide)
 have n8 := fun w => asn_8 160 (.agg #[.int .i64 n]) w (by decide)
 have y := fun w => asy_9 (.agg #[.int .i64 n]) w
 go_enter Tryz.func116, Tryz.ntmps116
 go_wp2_with (first | (go_at_call 126; refine (isReg_any _ _).mono ?_; rintro e w' ⟨rfl, rfl⟩) | (go_at_call 125; refine (isNum_any _ _).mono ?_; rintro e w' ⟨rfl, rfl⟩) | (go_at_call 121; refine (isOneOf_any _ _ _).mono ?_; rintro e w' ⟨rfl, rfl⟩) | (go_at_call 127; refine (areRegs_any _ _ _ _).mono ?_; rintro e w' ⟨rfl, rfl⟩) | (go_at_call 128; refine (takesOk_any _ _ _).mono ?_; rintro e w' ⟨rfl, rfl⟩))
 all_goals go_ret
 all_goals exact ⟨by simp [*], by first | exact (Below.refl _ _).alloc (Nat.le_refl _) _ | exact Below.refl _ _⟩
set_option maxRecDepth 100000 in
theorem placeOk_10 (a pl ch : Int) (w : World) : Calls Tryz.prog 116 #[.iface 162 (.agg #[.int .i64 a]), .int .i64 pl, .int .i64 ch] w fun e w' => e = .returned (.bool (Plain.regB a)) ∧ Below w.heap.size w w' := by
 have n1 := fun w => asn_1 162 (.agg #[.int .i64 a]) w (by decide)
 have n2 := fun w => asn_2 162 (.agg #[.int .i64 a]) w (by decide)
 have n3 := fun w => asn_3 162 (.agg #[.int .i64 a]) w (by decide)
 have n4 := fun w => asn_4 162 (.agg #[.int .i64 a]) w (by decide)
 have n5 := fun w => asn_5 162 (.agg #[.int .i64 a]) w (by decide)
 have n6 := fun w => asn_6 162 (.agg #[.int .i64 a]) w (by decide)
 have n7 := fun w => asn_7 162 (.agg #[.int .i64 a]) w (by decide)
 have n8 := fun w => asn_8 162 (.agg #[.int .i64 a]) w (by decide)
 have n9 := fun w => asn_9 162 (.agg #[.int .i64 a]) w (by decide)
 have y := fun w => asy_10 (.agg #[.int .i64 a]) w
 go_enter Tryz.func116, Tryz.ntmps116
 go_wp2_with (first | (go_at_call 126; refine (isReg_any _ _).mono ?_; rintro e w' ⟨rfl, rfl⟩) | (go_at_call 125; refine (isNum_any _ _).mono ?_; rintro e w' ⟨rfl, rfl⟩) | (go_at_call 121; refine (isOneOf_any _ _ _).mono ?_; rintro e w' ⟨rfl, rfl⟩) | (go_at_call 127; refine (areRegs_any _ _ _ _).mono ?_; rintro e w' ⟨rfl, rfl⟩) | (go_at_call 128; refine (takesOk_any _ _ _).mono ?_; rintro e w' ⟨rfl, rfl⟩))
 all_goals go_ret
 all_goals exact ⟨by simp [*], by first | exact (Below.refl _ _).alloc (Nat.le_refl _) _ | exact Below.refl _ _⟩
set_option maxRecDepth 100000 in
theorem placeOk_11 (n pl ch : Int) (w : World) : Calls Tryz.prog 116 #[.iface 163 (.agg #[.int .i64 n]), .int .i64 pl, .int .i64 ch] w fun e w' => e = .returned (.bool (Plain.oneB n pl)) ∧ Below w.heap.size w w' := by
 have n1 := fun w => asn_1 163 (.agg #[.int .i64 n]) w (by decide)
 have n2 := fun w => asn_2 163 (.agg #[.int .i64 n]) w (by decide)
 have n3 := fun w => asn_3 163 (.agg #[.int .i64 n]) w (by decide)
 have n4 := fun w => asn_4 163 (.agg #[.int .i64 n]) w (by decide)
 have n5 := fun w => asn_5 163 (.agg #[.int .i64 n]) w (by decide)
 have n6 := fun w => asn_6 163 (.agg #[.int .i64 n]) w (by decide)
 have n7 := fun w => asn_7 163 (.agg #[.int .i64 n]) w (by decide)
 have n8 := fun w => asn_8 163 (.agg #[.int .i64 n]) w (by decide)
 have n9 := fun w => asn_9 163 (.agg #[.int .i64 n]) w (by decide)
 have n10 := fun w => asn_10 163 (.agg #[.int .i64 n]) w (by decide)
 have y := fun w => asy_11 (.agg #[.int .i64 n]) w
 go_enter Tryz.func116, Tryz.ntmps116
 go_wp2_with (first | (go_at_call 126; refine (isReg_any _ _).mono ?_; rintro e w' ⟨rfl, rfl⟩) | (go_at_call 125; refine (isNum_any _ _).mono ?_; rintro e w' ⟨rfl, rfl⟩) | (go_at_call 121; refine (isOneOf_any _ _ _).mono ?_; rintro e w' ⟨rfl, rfl⟩) | (go_at_call 127; refine (areRegs_any _ _ _ _).mono ?_; rintro e w' ⟨rfl, rfl⟩) | (go_at_call 128; refine (takesOk_any _ _ _).mono ?_; rintro e w' ⟨rfl, rfl⟩))
 all_goals go_ret
 all_goals exact ⟨by simp [*], by first | exact (Below.refl _ _).alloc (Nat.le_refl _) _ | exact Below.refl _ _⟩
set_option maxRecDepth 100000 in
theorem placeOk_12 (a n pl ch : Int) (w : World) : Calls Tryz.prog 116 #[.iface 164 (.agg #[.int .i64 a, .int .i64 n]), .int .i64 pl, .int .i64 ch] w fun e w' => e = .returned (.bool (Plain.regB a && Plain.oneB n pl)) ∧ Below w.heap.size w w' := by
 have n1 := fun w => asn_1 164 (.agg #[.int .i64 a, .int .i64 n]) w (by decide)
 have n2 := fun w => asn_2 164 (.agg #[.int .i64 a, .int .i64 n]) w (by decide)
 have n3 := fun w => asn_3 164 (.agg #[.int .i64 a, .int .i64 n]) w (by decide)
 have n4 := fun w => asn_4 164 (.agg #[.int .i64 a, .int .i64 n]) w (by decide)
 have n5 := fun w => asn_5 164 (.agg #[.int .i64 a, .int .i64 n]) w (by decide)
 have n6 := fun w => asn_6 164 (.agg #[.int .i64 a, .int .i64 n]) w (by decide)
 have n7 := fun w => asn_7 164 (.agg #[.int .i64 a, .int .i64 n]) w (by decide)
 have n8 := fun w => asn_8 164 (.agg #[.int .i64 a, .int .i64 n]) w (by decide)
 have n9 := fun w => asn_9 164 (.agg #[.int .i64 a, .int .i64 n]) w (by decide)
 have n10 := fun w => asn_10 164 (.agg #[.int .i64 a, .int .i64 n]) w (by decide)
 have n11 := fun w => asn_11 164 (.agg #[.int .i64 a, .int .i64 n]) w (by decide)
 have y := fun w => asy_12 (.agg #[.int .i64 a, .int .i64 n]) w
 go_enter Tryz.func116, Tryz.ntmps116
 go_wp2_with (first | (go_at_call 126; refine (isReg_any _ _).mono ?_; rintro e w' ⟨rfl, rfl⟩) | (go_at_call 125; refine (isNum_any _ _).mono ?_; rintro e w' ⟨rfl, rfl⟩) | (go_at_call 121; refine (isOneOf_any _ _ _).mono ?_; rintro e w' ⟨rfl, rfl⟩) | (go_at_call 127; refine (areRegs_any _ _ _ _).mono ?_; rintro e w' ⟨rfl, rfl⟩) | (go_at_call 128; refine (takesOk_any _ _ _).mono ?_; rintro e w' ⟨rfl, rfl⟩))
 all_goals go_ret
 all_goals exact ⟨by simp [*], by first | exact (Below.refl _ _).alloc (Nat.le_refl _) _ | exact Below.refl _ _⟩
set_option maxRecDepth 100000 in
theorem placeOk_13 ( pl ch : Int) (w : World) : Calls Tryz.prog 116 #[.iface 166 (.agg #[]), .int .i64 pl, .int .i64 ch] w fun e w' => e = .returned (.bool (true)) ∧ Below w.heap.size w w' := by
 have n1 := fun w => asn_1 166 (.agg #[]) w (by decide)
 have n2 := fun w => asn_2 166 (.agg #[]) w (by decide)
 have n3 := fun w => asn_3 166 (.agg #[]) w (by decide)
 have n4 := fun w => asn_4 166 (.agg #[]) w (by decide)
 have n5 := fun w => asn_5 166 (.agg #[]) w (by decide)
 have n6 := fun w => asn_6 166 (.agg #[]) w (by decide)
 have n7 := fun w => asn_7 166 (.agg #[]) w (by decide)
 have n8 := fun w => asn_8 166 (.agg #[]) w (by decide)
 have n9 := fun w => asn_9 166 (.agg #[]) w (by decide)
 have n10 := fun w => asn_10 166 (.agg #[]) w (by decide)
 have n11 := fun w => asn_11 166 (.agg #[]) w (by decide)
 have n12 := fun w => asn_12 166 (.agg #[]) w (by decide)
 have y := fun w => asy_13 (.agg #[]) w
 go_enter Tryz.func116, Tryz.ntmps116
 go_wp2_with (first | (go_at_call 126; refine (isReg_any _ _).mono ?_; rintro e w' ⟨rfl, rfl⟩) | (go_at_call 125; refine (isNum_any _ _).mono ?_; rintro e w' ⟨rfl, rfl⟩) | (go_at_call 121; refine (isOneOf_any _ _ _).mono ?_; rintro e w' ⟨rfl, rfl⟩) | (go_at_call 127; refine (areRegs_any _ _ _ _).mono ?_; rintro e w' ⟨rfl, rfl⟩) | (go_at_call 128; refine (takesOk_any _ _ _).mono ?_; rintro e w' ⟨rfl, rfl⟩))
 all_goals go_ret
 all_goals exact ⟨by simp [*], by first | exact (Below.refl _ _).alloc (Nat.le_refl _) _ | exact Below.refl _ _⟩
end
section
set_option linter.unusedSimpArgs false
set_option linter.unusedVariables false
set_option maxRecDepth 100000
namespace Plain
theorem insB_1 (r a b n pl ch : Int) : insB 1 r a b n pl ch = (decide (a = 0 ∧ b = 0) && (chansB ch && (regB r && numB n))) := by
 rw [Bool.eq_iff_iff]
 simp [insB, chansB, regB, numB, oneB, areB, takesB]
 try omega
theorem insB_2 (r a b n pl ch : Int) : insB 2 r a b n pl ch = (decide (n = 0) && (chansB ch && (areB r a b))) := by
 rw [Bool.eq_iff_iff]
 simp [insB, chansB, regB, numB, oneB, areB, takesB]
 try omega
theorem insB_3 (r a b n pl ch : Int) : insB 3 r a b n pl ch = (decide (n = 0) && (chansB ch && (areB r a b))) := by
 rw [Bool.eq_iff_iff]
 simp [insB, chansB, regB, numB, oneB, areB, takesB]
 try omega
theorem insB_4 (r a b n pl ch : Int) : insB 4 r a b n pl ch = (decide (n = 0) && (chansB ch && (areB r a b))) := by
 rw [Bool.eq_iff_iff]
 simp [insB, chansB, regB, numB, oneB, areB, takesB]
 try omega
theorem insB_5 (r a b n pl ch : Int) : insB 5 r a b n pl ch = (decide (r = 0 ∧ b = 0) && (chansB ch && (regB a && oneB n ch))) := by
 rw [Bool.eq_iff_iff]
 simp [insB, chansB, regB, numB, oneB, areB, takesB]
 try omega
theorem insB_6 (r a b n pl ch : Int) : insB 6 r a b n pl ch = (decide (a = 0) && (chansB ch && (takesB r b && oneB n ch))) := by
 rw [Bool.eq_iff_iff]
 simp [insB, chansB, regB, numB, oneB, areB, takesB]
 try omega
theorem insB_7 (r a b n pl ch : Int) : insB 7 r a b n pl ch = (decide (b = 0) && (chansB ch && (regB r && regB a && oneB n ch))) := by
 rw [Bool.eq_iff_iff]
 simp [insB, chansB, regB, numB, oneB, areB, takesB]
 try omega
theorem insB_8 (r a b n pl ch : Int) : insB 8 r a b n pl ch = (decide (a = 0) && (chansB ch && (takesB r b && oneB n ch))) := by
 rw [Bool.eq_iff_iff]
 simp [insB, chansB, regB, numB, oneB, areB, takesB]
 try omega
theorem insB_9 (r a b n pl ch : Int) : insB 9 r a b n pl ch = (decide (r = 0 ∧ a = 0 ∧ b = 0) && (chansB ch && (oneB n ch))) := by
 rw [Bool.eq_iff_iff]
 simp [insB, chansB, regB, numB, oneB, areB, takesB]
 try omega
theorem insB_10 (r a b n pl ch : Int) : insB 10 r a b n pl ch = (decide (r = 0 ∧ b = 0 ∧ n = 0) && (chansB ch && (regB a))) := by
 rw [Bool.eq_iff_iff]
 simp [insB, chansB, regB, numB, oneB, areB, takesB]
 try omega
theorem insB_11 (r a b n pl ch : Int) : insB 11 r a b n pl ch = (decide (r = 0 ∧ a = 0 ∧ b = 0) && (chansB ch && (oneB n pl))) := by
 rw [Bool.eq_iff_iff]
 simp [insB, chansB, regB, numB, oneB, areB, takesB]
 try omega
theorem insB_12 (r a b n pl ch : Int) : insB 12 r a b n pl ch = (decide (r = 0 ∧ b = 0) && (chansB ch && (regB a && oneB n pl))) := by
 rw [Bool.eq_iff_iff]
 simp [insB, chansB, regB, numB, oneB, areB, takesB]
 try omega
theorem insB_13 (r a b n pl ch : Int) : insB 13 r a b n pl ch = (decide (r = 0 ∧ a = 0 ∧ b = 0 ∧ n = 0) && (chansB ch && (true))) := by
 rw [Bool.eq_iff_iff]
 simp [insB, chansB, regB, numB, oneB, areB, takesB]
 try omega
theorem insB_0 (op r a b n pl ch : Int) (h1 : (op == 1) = false) (h2 : (op == 2) = false) (h3 : (op == 3) = false) (h4 : (op == 4) = false) (h5 : (op == 5) = false) (h6 : (op == 6) = false) (h7 : (op == 7) = false) (h8 : (op == 8) = false) (h9 : (op == 9) = false) (h10 : (op == 10) = false) (h11 : (op == 11) = false) (h12 : (op == 12) = false) (h13 : (op == 13) = false) : insB op r a b n pl ch = false := by
 simp at h1 h2 h3 h4 h5 h6 h7 h8 h9 h10 h11 h12 h13
 simp [insB]
 omega
end Plain
end
end Go.Proofs.YtehjbpjjegajjaaGreat
