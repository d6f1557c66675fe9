/- StepOk of the specification: some kinds of steps. No condition. -/
import Derived.Test.YtkhjhibigldcgaaGreatBG00
import Derived.Test.YtkhjhibigldcgaaGreatBSpecIns
import Derived.Test.YtkhjhibigldcgaaGreatBG09
namespace Go.Proofs.YtkhjhibigldcgaaGreat
set_option linter.unusedSimpArgs false
set_option linter.unusedVariables false
set_option maxRecDepth 100000
open Go.RowKit
set_option maxRecDepth 100000 in
set_option maxHeartbeats 2000000 in
theorem specGood_1x36 (r a b n pl:Int) (w:World) (h1:Plain.inB r 0 7=true) (h2:Plain.inB b 0 7=true) (h3:Plain.inB a 0 7=true):Calls Tryz.prog 59 #[.agg #[.int .i64 1,.int .i64 r,.int .i64 a,.int .i64 b,.int .i64 n],.int .i64 pl] w fun e w'=>e=.returned (.bool (Plain.stepB 1 r a b n pl))∧Below w.heap.size w w':=by
 by_cases hn0:0≤n
 all_goals
  go_enter Tryz.func59,Tryz.ntmps59
  go_wp2_with (first | (go_at_call 85;(first | refine (l7Reg_is _ _ _ h1).mono ?_ | refine (l7Reg_is _ _ _ h2).mono ?_ | refine (l7Reg_is _ _ _ h3).mono ?_);rintro e w' ⟨rfl,rfl⟩) | (go_at_call 13;(first | refine (l1In_is _ _ _ _ _ hc).mono ?_ | refine (l1In_any _ _ _ _).mono ?_);rintro e w' ⟨rfl,rfl⟩))
 all_goals go_ret
 all_goals refine ⟨ret_bool ?_,by first | exact (Below.refl _ _).alloc (Nat.le_refl _) _ | exact ((Below.refl _ _).alloc (Nat.le_refl _) _).alloc (by simp) _ | exact Below.drew ((Below.refl _ _).alloc (Nat.le_refl _) _)⟩
 all_goals (rw [Bool.eq_iff_iff];simp_all [Plain.stepB,Plain.inB];try omega)
set_option maxRecDepth 100000 in
set_option maxHeartbeats 2000000 in
theorem specGood_2x36 (r a b n pl:Int) (w:World) (h1:Plain.inB r 0 7=true) (h2:Plain.inB b 0 7=true) (h3:Plain.inB a 0 7=true):Calls Tryz.prog 59 #[.agg #[.int .i64 2,.int .i64 r,.int .i64 a,.int .i64 b,.int .i64 n],.int .i64 pl] w fun e w'=>e=.returned (.bool (Plain.stepB 2 r a b n pl))∧Below w.heap.size w w':=by
 by_cases hn0:0≤n
 all_goals
  go_enter Tryz.func59,Tryz.ntmps59
  go_wp2_with (first | (go_at_call 85;(first | refine (l7Reg_is _ _ _ h1).mono ?_ | refine (l7Reg_is _ _ _ h2).mono ?_ | refine (l7Reg_is _ _ _ h3).mono ?_);rintro e w' ⟨rfl,rfl⟩) | (go_at_call 13;(first | refine (l1In_is _ _ _ _ _ hc).mono ?_ | refine (l1In_any _ _ _ _).mono ?_);rintro e w' ⟨rfl,rfl⟩))
 all_goals go_ret
 all_goals refine ⟨ret_bool ?_,by first | exact (Below.refl _ _).alloc (Nat.le_refl _) _ | exact ((Below.refl _ _).alloc (Nat.le_refl _) _).alloc (by simp) _ | exact Below.drew ((Below.refl _ _).alloc (Nat.le_refl _) _)⟩
 all_goals (rw [Bool.eq_iff_iff];simp_all [Plain.stepB,Plain.inB];try omega)
set_option maxRecDepth 100000 in
set_option maxHeartbeats 2000000 in
theorem specGood_3x36 (r a b n pl:Int) (w:World) (h1:Plain.inB r 0 7=true) (h2:Plain.inB b 0 7=true) (h3:Plain.inB a 0 7=true):Calls Tryz.prog 59 #[.agg #[.int .i64 3,.int .i64 r,.int .i64 a,.int .i64 b,.int .i64 n],.int .i64 pl] w fun e w'=>e=.returned (.bool (Plain.stepB 3 r a b n pl))∧Below w.heap.size w w':=by
 by_cases hn0:0≤n
 all_goals
  go_enter Tryz.func59,Tryz.ntmps59
  go_wp2_with (first | (go_at_call 85;(first | refine (l7Reg_is _ _ _ h1).mono ?_ | refine (l7Reg_is _ _ _ h2).mono ?_ | refine (l7Reg_is _ _ _ h3).mono ?_);rintro e w' ⟨rfl,rfl⟩) | (go_at_call 13;(first | refine (l1In_is _ _ _ _ _ hc).mono ?_ | refine (l1In_any _ _ _ _).mono ?_);rintro e w' ⟨rfl,rfl⟩))
 all_goals go_ret
 all_goals refine ⟨ret_bool ?_,by first | exact (Below.refl _ _).alloc (Nat.le_refl _) _ | exact ((Below.refl _ _).alloc (Nat.le_refl _) _).alloc (by simp) _ | exact Below.drew ((Below.refl _ _).alloc (Nat.le_refl _) _)⟩
 all_goals (rw [Bool.eq_iff_iff];simp_all [Plain.stepB,Plain.inB];try omega)
set_option maxRecDepth 100000 in
set_option maxHeartbeats 2000000 in
theorem specGood_4x36 (r a b n pl:Int) (w:World) (h1:Plain.inB r 0 7=true) (h2:Plain.inB b 0 7=true) (h3:Plain.inB a 0 7=true):Calls Tryz.prog 59 #[.agg #[.int .i64 4,.int .i64 r,.int .i64 a,.int .i64 b,.int .i64 n],.int .i64 pl] w fun e w'=>e=.returned (.bool (Plain.stepB 4 r a b n pl))∧Below w.heap.size w w':=by
 by_cases hn0:0≤n
 all_goals
  go_enter Tryz.func59,Tryz.ntmps59
  go_wp2_with (first | (go_at_call 85;(first | refine (l7Reg_is _ _ _ h1).mono ?_ | refine (l7Reg_is _ _ _ h2).mono ?_ | refine (l7Reg_is _ _ _ h3).mono ?_);rintro e w' ⟨rfl,rfl⟩) | (go_at_call 13;(first | refine (l1In_is _ _ _ _ _ hc).mono ?_ | refine (l1In_any _ _ _ _).mono ?_);rintro e w' ⟨rfl,rfl⟩))
 all_goals go_ret
 all_goals refine ⟨ret_bool ?_,by first | exact (Below.refl _ _).alloc (Nat.le_refl _) _ | exact ((Below.refl _ _).alloc (Nat.le_refl _) _).alloc (by simp) _ | exact Below.drew ((Below.refl _ _).alloc (Nat.le_refl _) _)⟩
 all_goals (rw [Bool.eq_iff_iff];simp_all [Plain.stepB,Plain.inB];try omega)
end Go.Proofs.YtkhjhibigldcgaaGreat
