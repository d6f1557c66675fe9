/- Chapter 1: placeOk of each kind of place, for every argument, in every world. No condition. -/
import Derived.Test.YteefnjngcnebpaaGreatJG00
import Derived.Test.YteefnjngcnebpaaGreatChecked
import Derived.WalkKit
import Derived.KernelRfl
import Derived.WalkSpells
import Derived.WalkLawsBesides
import Derived.Test.YteefnjngcnebpaaGreatJLeaves
namespace Go.Proofs.YteefnjngcnebpaaGreat
set_option linter.unusedSimpArgs false
set_option linter.unusedVariables false
set_option maxRecDepth 100000
open Go.RowKit
theorem asy_1 (v : Value) (w : World) : (Instr.typeAssert (.iface 96 v) 68 96 true).run Tryz.prog w = .ok (.tuple #[v, .bool true]) w := by kernel_rfl
theorem zero_1 (w : World) : (do pure (Value.tuple #[← zeroValue 96, .bool false]) : Sem Value).run Tryz.prog w = .ok (.tuple #[.agg #[.int .i64 0, .int .i64 0], .bool false]) w := by kernel_rfl
theorem asn_1 (u : TypeId) (v : Value) (w : World) (h : u ≠ 96) : (Instr.typeAssert (.iface u v) 68 96 true).run Tryz.prog w = .ok (.tuple #[.agg #[.int .i64 0, .int .i64 0], .bool false]) w := by
 have e : (Instr.typeAssert (.iface u v) 68 96 true).run Tryz.prog w = (if u = 96 then (pure (Value.tuple #[v, .bool true]) : Sem Value) else (do pure (Value.tuple #[← zeroValue 96, .bool false]))).run Tryz.prog w := by kernel_rfl
 rw [e, if_neg h]
 exact zero_1 w
theorem asy_2 (v : Value) (w : World) : (Instr.typeAssert (.iface 98 v) 68 98 true).run Tryz.prog w = .ok (.tuple #[v, .bool true]) w := by kernel_rfl
theorem zero_2 (w : World) : (do pure (Value.tuple #[← zeroValue 98, .bool false]) : Sem Value).run Tryz.prog w = .ok (.tuple #[.agg #[.int .i64 0, .int .i64 0, .int .i64 0], .bool false]) w := by kernel_rfl
theorem asn_2 (u : TypeId) (v : Value) (w : World) (h : u ≠ 98) : (Instr.typeAssert (.iface u v) 68 98 true).run Tryz.prog w = .ok (.tuple #[.agg #[.int .i64 0, .int .i64 0, .int .i64 0], .bool false]) w := by
 have e : (Instr.typeAssert (.iface u v) 68 98 true).run Tryz.prog w = (if u = 98 then (pure (Value.tuple #[v, .bool true]) : Sem Value) else (do pure (Value.tuple #[← zeroValue 98, .bool false]))).run Tryz.prog w := by kernel_rfl
 rw [e, if_neg h]
 exact zero_2 w
theorem asy_3 (v : Value) (w : World) : (Instr.typeAssert (.iface 99 v) 68 99 true).run Tryz.prog w = .ok (.tuple #[v, .bool true]) w := by kernel_rfl
theorem zero_3 (w : World) : (do pure (Value.tuple #[← zeroValue 99, .bool false]) : Sem Value).run Tryz.prog w = .ok (.tuple #[.agg #[.int .i64 0, .int .i64 0, .int .i64 0], .bool false]) w := by kernel_rfl
theorem asn_3 (u : TypeId) (v : Value) (w : World) (h : u ≠ 99) : (Instr.typeAssert (.iface u v) 68 99 true).run Tryz.prog w = .ok (.tuple #[.agg #[.int .i64 0, .int .i64 0, .int .i64 0], .bool false]) w := by
 have e : (Instr.typeAssert (.iface u v) 68 99 true).run Tryz.prog w = (if u = 99 then (pure (Value.tuple #[v, .bool true]) : Sem Value) else (do pure (Value.tuple #[← zeroValue 99, .bool false]))).run Tryz.prog w := by kernel_rfl
 rw [e, if_neg h]
 exact zero_3 w
theorem asy_4 (v : Value) (w : World) : (Instr.typeAssert (.iface 100 v) 68 100 true).run Tryz.prog w = .ok (.tuple #[v, .bool true]) w := by kernel_rfl
theorem zero_4 (w : World) : (do pure (Value.tuple #[← zeroValue 100, .bool false]) : Sem Value).run Tryz.prog w = .ok (.tuple #[.agg #[.int .i64 0, .int .i64 0, .int .i64 0], .bool false]) w := by kernel_rfl
theorem asn_4 (u : TypeId) (v : Value) (w : World) (h : u ≠ 100) : (Instr.typeAssert (.iface u v) 68 100 true).run Tryz.prog w = .ok (.tuple #[.agg #[.int .i64 0, .int .i64 0, .int .i64 0], .bool false]) w := by
 have e : (Instr.typeAssert (.iface u v) 68 100 true).run Tryz.prog w = (if u = 100 then (pure (Value.tuple #[v, .bool true]) : Sem Value) else (do pure (Value.tuple #[← zeroValue 100, .bool false]))).run Tryz.prog w := by kernel_rfl
 rw [e, if_neg h]
 exact zero_4 w
theorem asy_5 (v : Value) (w : World) : (Instr.typeAssert (.iface 107 v) 68 107 true).run Tryz.prog w = .ok (.tuple #[v, .bool true]) w := by kernel_rfl
theorem zero_5 (w : World) : (do pure (Value.tuple #[← zeroValue 107, .bool false]) : Sem Value).run Tryz.prog w = .ok (.tuple #[.agg #[.int .i64 0, .int .i64 0], .bool false]) w := by kernel_rfl
theorem asn_5 (u : TypeId) (v : Value) (w : World) (h : u ≠ 107) : (Instr.typeAssert (.iface u v) 68 107 true).run Tryz.prog w = .ok (.tuple #[.agg #[.int .i64 0, .int .i64 0], .bool false]) w := by
 have e : (Instr.typeAssert (.iface u v) 68 107 true).run Tryz.prog w = (if u = 107 then (pure (Value.tuple #[v, .bool true]) : Sem Value) else (do pure (Value.tuple #[← zeroValue 107, .bool false]))).run Tryz.prog w := by kernel_rfl
 rw [e, if_neg h]
 exact zero_5 w
theorem asy_6 (v : Value) (w : World) : (Instr.typeAssert (.iface 102 v) 68 102 true).run Tryz.prog w = .ok (.tuple #[v, .bool true]) w := by kernel_rfl
theorem zero_6 (w : World) : (do pure (Value.tuple #[← zeroValue 102, .bool false]) : Sem Value).run Tryz.prog w = .ok (.tuple #[.agg #[.int .i64 0, .int .i64 0, .int .i64 0], .bool false]) w := by kernel_rfl
theorem asn_6 (u : TypeId) (v : Value) (w : World) (h : u ≠ 102) : (Instr.typeAssert (.iface u v) 68 102 true).run Tryz.prog w = .ok (.tuple #[.agg #[.int .i64 0, .int .i64 0, .int .i64 0], .bool false]) w := by
 have e : (Instr.typeAssert (.iface u v) 68 102 true).run Tryz.prog w = (if u = 102 then (pure (Value.tuple #[v, .bool true]) : Sem Value) else (do pure (Value.tuple #[← zeroValue 102, .bool false]))).run Tryz.prog w := by kernel_rfl
 rw [e, if_neg h]
 exact zero_6 w
theorem asy_7 (v : Value) (w : World) : (Instr.typeAssert (.iface 104 v) 68 104 true).run Tryz.prog w = .ok (.tuple #[v, .bool true]) w := by kernel_rfl
theorem zero_7 (w : World) : (do pure (Value.tuple #[← zeroValue 104, .bool false]) : Sem Value).run Tryz.prog w = .ok (.tuple #[.agg #[.int .i64 0, .int .i64 0, .int .i64 0], .bool false]) w := by kernel_rfl
theorem asn_7 (u : TypeId) (v : Value) (w : World) (h : u ≠ 104) : (Instr.typeAssert (.iface u v) 68 104 true).run Tryz.prog w = .ok (.tuple #[.agg #[.int .i64 0, .int .i64 0, .int .i64 0], .bool false]) w := by
 have e : (Instr.typeAssert (.iface u v) 68 104 true).run Tryz.prog w = (if u = 104 then (pure (Value.tuple #[v, .bool true]) : Sem Value) else (do pure (Value.tuple #[← zeroValue 104, .bool false]))).run Tryz.prog w := by kernel_rfl
 rw [e, if_neg h]
 exact zero_7 w
theorem asy_8 (v : Value) (w : World) : (Instr.typeAssert (.iface 105 v) 68 105 true).run Tryz.prog w = .ok (.tuple #[v, .bool true]) w := by kernel_rfl
theorem zero_8 (w : World) : (do pure (Value.tuple #[← zeroValue 105, .bool false]) : Sem Value).run Tryz.prog w = .ok (.tuple #[.agg #[.int .i64 0, .int .i64 0, .int .i64 0], .bool false]) w := by kernel_rfl
theorem asn_8 (u : TypeId) (v : Value) (w : World) (h : u ≠ 105) : (Instr.typeAssert (.iface u v) 68 105 true).run Tryz.prog w = .ok (.tuple #[.agg #[.int .i64 0, .int .i64 0, .int .i64 0], .bool false]) w := by
 have e : (Instr.typeAssert (.iface u v) 68 105 true).run Tryz.prog w = (if u = 105 then (pure (Value.tuple #[v, .bool true]) : Sem Value) else (do pure (Value.tuple #[← zeroValue 105, .bool false]))).run Tryz.prog w := by kernel_rfl
 rw [e, if_neg h]
 exact zero_8 w
theorem asy_9 (v : Value) (w : World) : (Instr.typeAssert (.iface 109 v) 68 109 true).run Tryz.prog w = .ok (.tuple #[v, .bool true]) w := by kernel_rfl
theorem zero_9 (w : World) : (do pure (Value.tuple #[← zeroValue 109, .bool false]) : Sem Value).run Tryz.prog w = .ok (.tuple #[.agg #[.int .i64 0], .bool false]) w := by kernel_rfl
theorem asn_9 (u : TypeId) (v : Value) (w : World) (h : u ≠ 109) : (Instr.typeAssert (.iface u v) 68 109 true).run Tryz.prog w = .ok (.tuple #[.agg #[.int .i64 0], .bool false]) w := by
 have e : (Instr.typeAssert (.iface u v) 68 109 true).run Tryz.prog w = (if u = 109 then (pure (Value.tuple #[v, .bool true]) : Sem Value) else (do pure (Value.tuple #[← zeroValue 109, .bool false]))).run Tryz.prog w := by kernel_rfl
 rw [e, if_neg h]
 exact zero_9 w
theorem asy_10 (v : Value) (w : World) : (Instr.typeAssert (.iface 111 v) 68 111 true).run Tryz.prog w = .ok (.tuple #[v, .bool true]) w := by kernel_rfl
theorem zero_10 (w : World) : (do pure (Value.tuple #[← zeroValue 111, .bool false]) : Sem Value).run Tryz.prog w = .ok (.tuple #[.agg #[.int .i64 0], .bool false]) w := by kernel_rfl
theorem asn_10 (u : TypeId) (v : Value) (w : World) (h : u ≠ 111) : (Instr.typeAssert (.iface u v) 68 111 true).run Tryz.prog w = .ok (.tuple #[.agg #[.int .i64 0], .bool false]) w := by
 have e : (Instr.typeAssert (.iface u v) 68 111 true).run Tryz.prog w = (if u = 111 then (pure (Value.tuple #[v, .bool true]) : Sem Value) else (do pure (Value.tuple #[← zeroValue 111, .bool false]))).run Tryz.prog w := by kernel_rfl
 rw [e, if_neg h]
 exact zero_10 w
theorem asy_11 (v : Value) (w : World) : (Instr.typeAssert (.iface 112 v) 68 112 true).run Tryz.prog w = .ok (.tuple #[v, .bool true]) w := by kernel_rfl
theorem zero_11 (w : World) : (do pure (Value.tuple #[← zeroValue 112, .bool false]) : Sem Value).run Tryz.prog w = .ok (.tuple #[.agg #[.int .i64 0], .bool false]) w := by kernel_rfl
theorem asn_11 (u : TypeId) (v : Value) (w : World) (h : u ≠ 112) : (Instr.typeAssert (.iface u v) 68 112 true).run Tryz.prog w = .ok (.tuple #[.agg #[.int .i64 0], .bool false]) w := by
 have e : (Instr.typeAssert (.iface u v) 68 112 true).run Tryz.prog w = (if u = 112 then (pure (Value.tuple #[v, .bool true]) : Sem Value) else (do pure (Value.tuple #[← zeroValue 112, .bool false]))).run Tryz.prog w := by kernel_rfl
 rw [e, if_neg h]
 exact zero_11 w
theorem asy_12 (v : Value) (w : World) : (Instr.typeAssert (.iface 113 v) 68 113 true).run Tryz.prog w = .ok (.tuple #[v, .bool true]) w := by kernel_rfl
theorem zero_12 (w : World) : (do pure (Value.tuple #[← zeroValue 113, .bool false]) : Sem Value).run Tryz.prog w = .ok (.tuple #[.agg #[.int .i64 0, .int .i64 0], .bool false]) w := by kernel_rfl
theorem asn_12 (u : TypeId) (v : Value) (w : World) (h : u ≠ 113) : (Instr.typeAssert (.iface u v) 68 113 true).run Tryz.prog w = .ok (.tuple #[.agg #[.int .i64 0, .int .i64 0], .bool false]) w := by
 have e : (Instr.typeAssert (.iface u v) 68 113 true).run Tryz.prog w = (if u = 113 then (pure (Value.tuple #[v, .bool true]) : Sem Value) else (do pure (Value.tuple #[← zeroValue 113, .bool false]))).run Tryz.prog w := by kernel_rfl
 rw [e, if_neg h]
 exact zero_12 w
theorem asy_13 (v : Value) (w : World) : (Instr.typeAssert (.iface 115 v) 68 115 true).run Tryz.prog w = .ok (.tuple #[v, .bool true]) w := by kernel_rfl
set_option maxRecDepth 100000 in
theorem placeOk_1 (r n pl ch : Int) (w : World) : Calls Tryz.prog 80 #[.iface 96 (.agg #[.int .i64 r, .int .i64 n]), .int .i64 pl, .int .i64 ch] w fun e w' => e = .returned (.bool (Plain.regB r && Plain.numB n)) ∧ Below w.heap.size w w' := by
 have y := fun w => asy_1 (.agg #[.int .i64 r, .int .i64 n]) w
 go_enter Tryz.func80, Tryz.ntmps80
 go_wp2_with (first | (go_at_call 86; refine (isReg_any _ _).mono ?_; rintro e w' ⟨rfl, rfl⟩) | (go_at_call 87; refine (isNum_any _ _).mono ?_; rintro e w' ⟨rfl, rfl⟩) | (go_at_call 36; refine (isOneOf_any _ _ _).mono ?_; rintro e w' ⟨rfl, rfl⟩) | (go_at_call 88; refine (areRegs_any _ _ _ _).mono ?_; rintro e w' ⟨rfl, rfl⟩) | (go_at_call 89; refine (takesOk_any _ _ _).mono ?_; rintro e w' ⟨rfl, rfl⟩))
 all_goals go_ret
 all_goals exact ⟨by simp [*], by first | exact (Below.refl _ _).alloc (Nat.le_refl _) _ | exact Below.refl _ _⟩
set_option maxRecDepth 100000 in
theorem placeOk_2 (r a b pl ch : Int) (w : World) : Calls Tryz.prog 80 #[.iface 98 (.agg #[.int .i64 r, .int .i64 a, .int .i64 b]), .int .i64 pl, .int .i64 ch] w fun e w' => e = .returned (.bool (Plain.areB r a b)) ∧ Below w.heap.size w w' := by
 have n1 := fun w => asn_1 98 (.agg #[.int .i64 r, .int .i64 a, .int .i64 b]) w (by decide)
 have y := fun w => asy_2 (.agg #[.int .i64 r, .int .i64 a, .int .i64 b]) w
 go_enter Tryz.func80, Tryz.ntmps80
 go_wp2_with (first | (go_at_call 86; refine (isReg_any _ _).mono ?_; rintro e w' ⟨rfl, rfl⟩) | (go_at_call 87; refine (isNum_any _ _).mono ?_; rintro e w' ⟨rfl, rfl⟩) | (go_at_call 36; refine (isOneOf_any _ _ _).mono ?_; rintro e w' ⟨rfl, rfl⟩) | (go_at_call 88; refine (areRegs_any _ _ _ _).mono ?_; rintro e w' ⟨rfl, rfl⟩) | (go_at_call 89; refine (takesOk_any _ _ _).mono ?_; rintro e w' ⟨rfl, rfl⟩))
 all_goals go_ret
 all_goals exact ⟨by simp [*], by first | exact (Below.refl _ _).alloc (Nat.le_refl _) _ | exact Below.refl _ _⟩
set_option maxRecDepth 100000 in
theorem placeOk_3 (r a b pl ch : Int) (w : World) : Calls Tryz.prog 80 #[.iface 99 (.agg #[.int .i64 r, .int .i64 a, .int .i64 b]), .int .i64 pl, .int .i64 ch] w fun e w' => e = .returned (.bool (Plain.areB r a b)) ∧ Below w.heap.size w w' := by
 have n1 := fun w => asn_1 99 (.agg #[.int .i64 r, .int .i64 a, .int .i64 b]) w (by decide)
 have n2 := fun w => asn_2 99 (.agg #[.int .i64 r, .int .i64 a, .int .i64 b]) w (by decide)
 have y := fun w => asy_3 (.agg #[.int .i64 r, .int .i64 a, .int .i64 b]) w
 go_enter Tryz.func80, Tryz.ntmps80
 go_wp2_with (first | (go_at_call 86; refine (isReg_any _ _).mono ?_; rintro e w' ⟨rfl, rfl⟩) | (go_at_call 87; refine (isNum_any _ _).mono ?_; rintro e w' ⟨rfl, rfl⟩) | (go_at_call 36; refine (isOneOf_any _ _ _).mono ?_; rintro e w' ⟨rfl, rfl⟩) | (go_at_call 88; refine (areRegs_any _ _ _ _).mono ?_; rintro e w' ⟨rfl, rfl⟩) | (go_at_call 89; refine (takesOk_any _ _ _).mono ?_; rintro e w' ⟨rfl, rfl⟩))
 all_goals go_ret
 all_goals exact ⟨by simp [*], by first | exact (Below.refl _ _).alloc (Nat.le_refl _) _ | exact Below.refl _ _⟩
set_option maxRecDepth 100000 in
theorem placeOk_4 (r a b pl ch : Int) (w : World) : Calls Tryz.prog 80 #[.iface 100 (.agg #[.int .i64 r, .int .i64 a, .int .i64 b]), .int .i64 pl, .int .i64 ch] w fun e w' => e = .returned (.bool (Plain.areB r a b)) ∧ Below w.heap.size w w' := by
 have n1 := fun w => asn_1 100 (.agg #[.int .i64 r, .int .i64 a, .int .i64 b]) w (by decide)
 have n2 := fun w => asn_2 100 (.agg #[.int .i64 r, .int .i64 a, .int .i64 b]) w (by decide)
 have n3 := fun w => asn_3 100 (.agg #[.int .i64 r, .int .i64 a, .int .i64 b]) w (by decide)
 have y := fun w => asy_4 (.agg #[.int .i64 r, .int .i64 a, .int .i64 b]) w
 go_enter Tryz.func80, Tryz.ntmps80
 go_wp2_with (first | (go_at_call 86; refine (isReg_any _ _).mono ?_; rintro e w' ⟨rfl, rfl⟩) | (go_at_call 87; refine (isNum_any _ _).mono ?_; rintro e w' ⟨rfl, rfl⟩) | (go_at_call 36; refine (isOneOf_any _ _ _).mono ?_; rintro e w' ⟨rfl, rfl⟩) | (go_at_call 88; refine (areRegs_any _ _ _ _).mono ?_; rintro e w' ⟨rfl, rfl⟩) | (go_at_call 89; refine (takesOk_any _ _ _).mono ?_; rintro e w' ⟨rfl, rfl⟩))
 all_goals go_ret
 all_goals exact ⟨by simp [*], by first | exact (Below.refl _ _).alloc (Nat.le_refl _) _ | exact Below.refl _ _⟩
set_option maxRecDepth 100000 in
theorem placeOk_5 (a n pl ch : Int) (w : World) : Calls Tryz.prog 80 #[.iface 107 (.agg #[.int .i64 a, .int .i64 n]), .int .i64 pl, .int .i64 ch] w fun e w' => e = .returned (.bool (Plain.regB a && Plain.oneB n ch)) ∧ Below w.heap.size w w' := by
 have n1 := fun w => asn_1 107 (.agg #[.int .i64 a, .int .i64 n]) w (by decide)
 have n2 := fun w => asn_2 107 (.agg #[.int .i64 a, .int .i64 n]) w (by decide)
 have n3 := fun w => asn_3 107 (.agg #[.int .i64 a, .int .i64 n]) w (by decide)
 have n4 := fun w => asn_4 107 (.agg #[.int .i64 a, .int .i64 n]) w (by decide)
 have y := fun w => asy_5 (.agg #[.int .i64 a, .int .i64 n]) w
 go_enter Tryz.func80, Tryz.ntmps80
 go_wp2_with (first | (go_at_call 86; refine (isReg_any _ _).mono ?_; rintro e w' ⟨rfl, rfl⟩) | (go_at_call 87; refine (isNum_any _ _).mono ?_; rintro e w' ⟨rfl, rfl⟩) | (go_at_call 36; refine (isOneOf_any _ _ _).mono ?_; rintro e w' ⟨rfl, rfl⟩) | (go_at_call 88; refine (areRegs_any _ _ _ _).mono ?_; rintro e w' ⟨rfl, rfl⟩) | (go_at_call 89; refine (takesOk_any _ _ _).mono ?_; rintro e w' ⟨rfl, rfl⟩))
 all_goals go_ret
 all_goals exact ⟨by simp [*], by first | exact (Below.refl _ _).alloc (Nat.le_refl _) _ | exact Below.refl _ _⟩
set_option maxRecDepth 100000 in
theorem placeOk_6 (r b n pl ch : Int) (w : World) : Calls Tryz.prog 80 #[.iface 102 (.agg #[.int .i64 r, .int .i64 b, .int .i64 n]), .int .i64 pl, .int .i64 ch] w fun e w' => e = .returned (.bool (Plain.takesB r b && Plain.oneB n ch)) ∧ Below w.heap.size w w' := by
 have n1 := fun w => asn_1 102 (.agg #[.int .i64 r, .int .i64 b, .int .i64 n]) w (by decide)
 have n2 := fun w => asn_2 102 (.agg #[.int .i64 r, .int .i64 b, .int .i64 n]) w (by decide)
 have n3 := fun w => asn_3 102 (.agg #[.int .i64 r, .int .i64 b, .int .i64 n]) w (by decide)
 have n4 := fun w => asn_4 102 (.agg #[.int .i64 r, .int .i64 b, .int .i64 n]) w (by decide)
 have n5 := fun w => asn_5 102 (.agg #[.int .i64 r, .int .i64 b, .int .i64 n]) w (by decide)
 have y := fun w => asy_6 (.agg #[.int .i64 r, .int .i64 b, .int .i64 n]) w
 go_enter Tryz.func80, Tryz.ntmps80
 go_wp2_with (first | (go_at_call 86; refine (isReg_any _ _).mono ?_; rintro e w' ⟨rfl, rfl⟩) | (go_at_call 87; refine (isNum_any _ _).mono ?_; rintro e w' ⟨rfl, rfl⟩) | (go_at_call 36; refine (isOneOf_any _ _ _).mono ?_; rintro e w' ⟨rfl, rfl⟩) | (go_at_call 88; refine (areRegs_any _ _ _ _).mono ?_; rintro e w' ⟨rfl, rfl⟩) | (go_at_call 89; refine (takesOk_any _ _ _).mono ?_; rintro e w' ⟨rfl, rfl⟩))
 all_goals go_ret
 all_goals exact ⟨by simp [*], by first | exact (Below.refl _ _).alloc (Nat.le_refl _) _ | exact Below.refl _ _⟩
set_option maxRecDepth 100000 in
theorem placeOk_7 (r a n pl ch : Int) (w : World) : Calls Tryz.prog 80 #[.iface 104 (.agg #[.int .i64 r, .int .i64 a, .int .i64 n]), .int .i64 pl, .int .i64 ch] w fun e w' => e = .returned (.bool (Plain.regB r && Plain.regB a && Plain.oneB n ch)) ∧ Below w.heap.size w w' := by
 have n1 := fun w => asn_1 104 (.agg #[.int .i64 r, .int .i64 a, .int .i64 n]) w (by decide)
 have n2 := fun w => asn_2 104 (.agg #[.int .i64 r, .int .i64 a, .int .i64 n]) w (by decide)
 have n3 := fun w => asn_3 104 (.agg #[.int .i64 r, .int .i64 a, .int .i64 n]) w (by decide)
 have n4 := fun w => asn_4 104 (.agg #[.int .i64 r, .int .i64 a, .int .i64 n]) w (by decide)
 have n5 := fun w => asn_5 104 (.agg #[.int .i64 r, .int .i64 a, .int .i64 n]) w (by decide)
 have n6 := fun w => asn_6 104 (.agg #[.int .i64 r, .int .i64 a, .int .i64 n]) w (by decide)
 have y := fun w => asy_7 (.agg #[.int .i64 r, .int .i64 a, .int .i64 n]) w
 go_enter Tryz.func80, Tryz.ntmps80
 go_wp2_with (first | (go_at_call 86; refine (isReg_any _ _).mono ?_; rintro e w' ⟨rfl, rfl⟩) | (go_at_call 87; refine (isNum_any _ _).mono ?_; rintro e w' ⟨rfl, rfl⟩) | (go_at_call 36; refine (isOneOf_any _ _ _).mono ?_; rintro e w' ⟨rfl, rfl⟩) | (go_at_call 88; refine (areRegs_any _ _ _ _).mono ?_; rintro e w' ⟨rfl, rfl⟩) | (go_at_call 89; refine (takesOk_any _ _ _).mono ?_; rintro e w' ⟨rfl, rfl⟩))
 all_goals go_ret
 all_goals exact ⟨by simp [*], by first | exact (Below.refl _ _).alloc (Nat.le_refl _) _ | exact Below.refl _ _⟩
set_option maxRecDepth 100000 in
theorem placeOk_8 (r b n pl ch : Int) (w : World) : Calls Tryz.prog 80 #[.iface 105 (.agg #[.int .i64 r, .int .i64 b, .int .i64 n]), .int .i64 pl, .int .i64 ch] w fun e w' => e = .returned (.bool (Plain.takesB r b && Plain.oneB n ch)) ∧ Below w.heap.size w w' := by
 have n1 := fun w => asn_1 105 (.agg #[.int .i64 r, .int .i64 b, .int .i64 n]) w (by decide)
 have n2 := fun w => asn_2 105 (.agg #[.int .i64 r, .int .i64 b, .int .i64 n]) w (by decide)
 have n3 := fun w => asn_3 105 (.agg #[.int .i64 r, .int .i64 b, .int .i64 n]) w (by decide)
 have n4 := fun w => asn_4 105 (.agg #[.int .i64 r, .int .i64 b, .int .i64 n]) w (by decide)
 have n5 := fun w => asn_5 105 (.agg #[.int .i64 r, .int .i64 b, .int .i64 n]) w (by decide)
 have n6 := fun w => asn_6 105 (.agg #[.int .i64 r, .int .i64 b, .int .i64 n]) w (by decide)
 have n7 := fun w => asn_7 105 (.agg #[.int .i64 r, .int .i64 b, .int .i64 n]) w (by decide)
 have y := fun w => asy_8 (.agg #[.int .i64 r, .int .i64 b, .int .i64 n]) w
 go_enter Tryz.func80, Tryz.ntmps80
 go_wp2_with (first | (go_at_call 86; refine (isReg_any _ _).mono ?_; rintro e w' ⟨rfl, rfl⟩) | (go_at_call 87; refine (isNum_any _ _).mono ?_; rintro e w' ⟨rfl, rfl⟩) | (go_at_call 36; refine (isOneOf_any _ _ _).mono ?_; rintro e w' ⟨rfl, rfl⟩) | (go_at_call 88; refine (areRegs_any _ _ _ _).mono ?_; rintro e w' ⟨rfl, rfl⟩) | (go_at_call 89; refine (takesOk_any _ _ _).mono ?_; rintro e w' ⟨rfl, rfl⟩))
 all_goals go_ret
 all_goals exact ⟨by simp [*], by first | exact (Below.refl _ _).alloc (Nat.le_refl _) _ | exact Below.refl _ _⟩
set_option maxRecDepth 100000 in
theorem placeOk_9 (n pl ch : Int) (w : World) : Calls Tryz.prog 80 #[.iface 109 (.agg #[.int .i64 n]), .int .i64 pl, .int .i64 ch] w fun e w' => e = .returned (.bool (Plain.oneB n ch)) ∧ Below w.heap.size w w' := by
 have n1 := fun w => asn_1 109 (.agg #[.int .i64 n]) w (by decide)
 have n2 := fun w => asn_2 109 (.agg #[.int .i64 n]) w (by decide)
 have n3 := fun w => asn_3 109 (.agg #[.int .i64 n]) w (by decide)
 have n4 := fun w => asn_4 109 (.agg #[.int .i64 n]) w (by decide)
 have n5 := fun w => asn_5 109 (.agg #[.int .i64 n]) w (by decide)
 have n6 := fun w => asn_6 109 (.agg #[.int .i64 n]) w (by decide)
 have n7 := fun w => asn_7 109 (.agg #[.int .i64 n]) w (by decide)
 have n8 := fun w => asn_8 109 (.agg #[.int .i64 n]) w (by decide)
 have y := fun w => asy_9 (.agg #[.int .i64 n]) w
 go_enter Tryz.func80, Tryz.ntmps80
 go_wp2_with (first | (go_at_call 86; refine (isReg_any _ _).mono ?_; rintro e w' ⟨rfl, rfl⟩) | (go_at_call 87; refine (isNum_any _ _).mono ?_; rintro e w' ⟨rfl, rfl⟩) | (go_at_call 36; refine (isOneOf_any _ _ _).mono ?_; rintro e w' ⟨rfl, rfl⟩) | (go_at_call 88; refine (areRegs_any _ _ _ _).mono ?_; rintro e w' ⟨rfl, rfl⟩) | (go_at_call 89; refine (takesOk_any _ _ _).mono ?_; rintro e w' ⟨rfl, rfl⟩))
 all_goals go_ret
 all_goals exact ⟨by simp [*], by first | exact (Below.refl _ _).alloc (Nat.le_refl _) _ | exact Below.refl _ _⟩
set_option maxRecDepth 100000 in
theorem placeOk_10 (a pl ch : Int) (w : World) : Calls Tryz.prog 80 #[.iface 111 (.agg #[.int .i64 a]), .int .i64 pl, .int .i64 ch] w fun e w' => e = .returned (.bool (Plain.regB a)) ∧ Below w.heap.size w w' := by
 have n1 := fun w => asn_1 111 (.agg #[.int .i64 a]) w (by decide)
 have n2 := fun w => asn_2 111 (.agg #[.int .i64 a]) w (by decide)
 have n3 := fun w => asn_3 111 (.agg #[.int .i64 a]) w (by decide)
 have n4 := fun w => asn_4 111 (.agg #[.int .i64 a]) w (by decide)
 have n5 := fun w => asn_5 111 (.agg #[.int .i64 a]) w (by decide)
 have n6 := fun w => asn_6 111 (.agg #[.int .i64 a]) w (by decide)
 have n7 := fun w => asn_7 111 (.agg #[.int .i64 a]) w (by decide)
 have n8 := fun w => asn_8 111 (.agg #[.int .i64 a]) w (by decide)
 have n9 := fun w => asn_9 111 (.agg #[.int .i64 a]) w (by decide)
 have y := fun w => asy_10 (.agg #[.int .i64 a]) w
 go_enter Tryz.func80, Tryz.ntmps80
 go_wp2_with (first | (go_at_call 86; refine (isReg_any _ _).mono ?_; rintro e w' ⟨rfl, rfl⟩) | (go_at_call 87; refine (isNum_any _ _).mono ?_; rintro e w' ⟨rfl, rfl⟩) | (go_at_call 36; refine (isOneOf_any _ _ _).mono ?_; rintro e w' ⟨rfl, rfl⟩) | (go_at_call 88; refine (areRegs_any _ _ _ _).mono ?_; rintro e w' ⟨rfl, rfl⟩) | (go_at_call 89; refine (takesOk_any _ _ _).mono ?_; rintro e w' ⟨rfl, rfl⟩))
 all_goals go_ret
 all_goals exact ⟨by simp [*], by first | exact (Below.refl _ _).alloc (Nat.le_refl _) _ | exact Below.refl _ _⟩
set_option maxRecDepth 100000 in
theorem placeOk_11 (n pl ch : Int) (w : World) : Calls Tryz.prog 80 #[.iface 112 (.agg #[.int .i64 n]), .int .i64 pl, .int .i64 ch] w fun e w' => e = .returned (.bool (Plain.oneB n pl)) ∧ Below w.heap.size w w' := by
 have n1 := fun w => asn_1 112 (.agg #[.int .i64 n]) w (by decide)
 have n2 := fun w => asn_2 112 (.agg #[.int .i64 n]) w (by decide)
 have n3 := fun w => asn_3 112 (.agg #[.int .i64 n]) w (by decide)
 have n4 := fun w => asn_4 112 (.agg #[.int .i64 n]) w (by decide)
 have n5 := fun w => asn_5 112 (.agg #[.int .i64 n]) w (by decide)
 have n6 := fun w => asn_6 112 (.agg #[.int .i64 n]) w (by decide)
 have n7 := fun w => asn_7 112 (.agg #[.int .i64 n]) w (by decide)
 have n8 := fun w => asn_8 112 (.agg #[.int .i64 n]) w (by decide)
 have n9 := fun w => asn_9 112 (.agg #[.int .i64 n]) w (by decide)
 have n10 := fun w => asn_10 112 (.agg #[.int .i64 n]) w (by decide)
 have y := fun w => asy_11 (.agg #[.int .i64 n]) w
 go_enter Tryz.func80, Tryz.ntmps80
 go_wp2_with (first | (go_at_call 86; refine (isReg_any _ _).mono ?_; rintro e w' ⟨rfl, rfl⟩) | (go_at_call 87; refine (isNum_any _ _).mono ?_; rintro e w' ⟨rfl, rfl⟩) | (go_at_call 36; refine (isOneOf_any _ _ _).mono ?_; rintro e w' ⟨rfl, rfl⟩) | (go_at_call 88; refine (areRegs_any _ _ _ _).mono ?_; rintro e w' ⟨rfl, rfl⟩) | (go_at_call 89; refine (takesOk_any _ _ _).mono ?_; rintro e w' ⟨rfl, rfl⟩))
 all_goals go_ret
 all_goals exact ⟨by simp [*], by first | exact (Below.refl _ _).alloc (Nat.le_refl _) _ | exact Below.refl _ _⟩
set_option maxRecDepth 100000 in
theorem placeOk_12 (a n pl ch : Int) (w : World) : Calls Tryz.prog 80 #[.iface 113 (.agg #[.int .i64 a, .int .i64 n]), .int .i64 pl, .int .i64 ch] w fun e w' => e = .returned (.bool (Plain.regB a && Plain.oneB n pl)) ∧ Below w.heap.size w w' := by
 have n1 := fun w => asn_1 113 (.agg #[.int .i64 a, .int .i64 n]) w (by decide)
 have n2 := fun w => asn_2 113 (.agg #[.int .i64 a, .int .i64 n]) w (by decide)
 have n3 := fun w => asn_3 113 (.agg #[.int .i64 a, .int .i64 n]) w (by decide)
 have n4 := fun w => asn_4 113 (.agg #[.int .i64 a, .int .i64 n]) w (by decide)
 have n5 := fun w => asn_5 113 (.agg #[.int .i64 a, .int .i64 n]) w (by decide)
 have n6 := fun w => asn_6 113 (.agg #[.int .i64 a, .int .i64 n]) w (by decide)
 have n7 := fun w => asn_7 113 (.agg #[.int .i64 a, .int .i64 n]) w (by decide)
 have n8 := fun w => asn_8 113 (.agg #[.int .i64 a, .int .i64 n]) w (by decide)
 have n9 := fun w => asn_9 113 (.agg #[.int .i64 a, .int .i64 n]) w (by decide)
 have n10 := fun w => asn_10 113 (.agg #[.int .i64 a, .int .i64 n]) w (by decide)
 have n11 := fun w => asn_11 113 (.agg #[.int .i64 a, .int .i64 n]) w (by decide)
 have y := fun w => asy_12 (.agg #[.int .i64 a, .int .i64 n]) w
 go_enter Tryz.func80, Tryz.ntmps80
 go_wp2_with (first | (go_at_call 86; refine (isReg_any _ _).mono ?_; rintro e w' ⟨rfl, rfl⟩) | (go_at_call 87; refine (isNum_any _ _).mono ?_; rintro e w' ⟨rfl, rfl⟩) | (go_at_call 36; refine (isOneOf_any _ _ _).mono ?_; rintro e w' ⟨rfl, rfl⟩) | (go_at_call 88; refine (areRegs_any _ _ _ _).mono ?_; rintro e w' ⟨rfl, rfl⟩) | (go_at_call 89; refine (takesOk_any _ _ _).mono ?_; rintro e w' ⟨rfl, rfl⟩))
 all_goals go_ret
 all_goals exact ⟨by simp [*], by first | exact (Below.refl _ _).alloc (Nat.le_refl _) _ | exact Below.refl _ _⟩
set_option maxRecDepth 100000 in
theorem placeOk_13 ( pl ch : Int) (w : World) : Calls Tryz.prog 80 #[.iface 115 (.agg #[]), .int .i64 pl, .int .i64 ch] w fun e w' => e = .returned (.bool (true)) ∧ Below w.heap.size w w' := by
 have n1 := fun w => asn_1 115 (.agg #[]) w (by decide)
 have n2 := fun w => asn_2 115 (.agg #[]) w (by decide)
 have n3 := fun w => asn_3 115 (.agg #[]) w (by decide)
 have n4 := fun w => asn_4 115 (.agg #[]) w (by decide)
 have n5 := fun w => asn_5 115 (.agg #[]) w (by decide)
 have n6 := fun w => asn_6 115 (.agg #[]) w (by decide)
 have n7 := fun w => asn_7 115 (.agg #[]) w (by decide)
 have n8 := fun w => asn_8 115 (.agg #[]) w (by decide)
 have n9 := fun w => asn_9 115 (.agg #[]) w (by decide)
 have n10 := fun w => asn_10 115 (.agg #[]) w (by decide)
 have n11 := fun w => asn_11 115 (.agg #[]) w (by decide)
 have n12 := fun w => asn_12 115 (.agg #[]) w (by decide)
 have y := fun w => asy_13 (.agg #[]) w
 go_enter Tryz.func80, Tryz.ntmps80
 go_wp2_with (first | (go_at_call 86; refine (isReg_any _ _).mono ?_; rintro e w' ⟨rfl, rfl⟩) | (go_at_call 87; refine (isNum_any _ _).mono ?_; rintro e w' ⟨rfl, rfl⟩) | (go_at_call 36; refine (isOneOf_any _ _ _).mono ?_; rintro e w' ⟨rfl, rfl⟩) | (go_at_call 88; refine (areRegs_any _ _ _ _).mono ?_; rintro e w' ⟨rfl, rfl⟩) | (go_at_call 89; refine (takesOk_any _ _ _).mono ?_; rintro e w' ⟨rfl, rfl⟩))
 all_goals go_ret
 all_goals exact ⟨by simp [*], by first | exact (Below.refl _ _).alloc (Nat.le_refl _) _ | exact Below.refl _ _⟩
end Go.Proofs.YteefnjngcnebpaaGreat
