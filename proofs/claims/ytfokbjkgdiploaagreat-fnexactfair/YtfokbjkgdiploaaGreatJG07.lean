/- InsOk of the program, at every Ins, every count of places and of channels, in every world: it returns what the plain law says; it makes memory, and turns none. No condition. BodyOk of the program and of the specification, at every list of at most 1048576 places: each answers as the plain law says; and how the laws hold two such lists against each other. -/
import Derived.Test.YtfokbjkgdiploaaGreatJG00
import Derived.Test.YtfokbjkgdiploaaGreatJLeaves
import Derived.Test.YtfokbjkgdiploaaGreatJG01
import Derived.Test.YtfokbjkgdiploaaGreatJPlaces
import Derived.Test.YtfokbjkgdiploaaGreatJPlain2
import Derived.Test.YtfokbjkgdiploaaGreatJInsGen
import Derived.Test.YtfokbjkgdiploaaGreatJSpecIns
namespace Go.Proofs.YtfokbjkgdiploaaGreat
section
set_option linter.unusedSimpArgs false
set_option linter.unusedVariables false
set_option maxRecDepth 100000
open Go.RowKit
theorem entr_1 (args : Array Value) (w : World) : (callFunc 149 args).run Tryz.prog w = .ok (.enter 149 args) w := by kernel_rfl
theorem entr_2 (args : Array Value) (w : World) : (callFunc 150 args).run Tryz.prog w = .ok (.enter 150 args) w := by kernel_rfl
theorem entr_3 (args : Array Value) (w : World) : (callFunc 151 args).run Tryz.prog w = .ok (.enter 151 args) w := by kernel_rfl
theorem entr_4 (args : Array Value) (w : World) : (callFunc 152 args).run Tryz.prog w = .ok (.enter 152 args) w := by kernel_rfl
theorem entr_5 (args : Array Value) (w : World) : (callFunc 153 args).run Tryz.prog w = .ok (.enter 153 args) w := by kernel_rfl
theorem entr_6 (args : Array Value) (w : World) : (callFunc 154 args).run Tryz.prog w = .ok (.enter 154 args) w := by kernel_rfl
theorem entr_7 (args : Array Value) (w : World) : (callFunc 155 args).run Tryz.prog w = .ok (.enter 155 args) w := by kernel_rfl
theorem entr_8 (args : Array Value) (w : World) : (callFunc 156 args).run Tryz.prog w = .ok (.enter 156 args) w := by kernel_rfl
theorem entr_9 (args : Array Value) (w : World) : (callFunc 157 args).run Tryz.prog w = .ok (.enter 157 args) w := by kernel_rfl
theorem entr_10 (args : Array Value) (w : World) : (callFunc 158 args).run Tryz.prog w = .ok (.enter 158 args) w := by kernel_rfl
theorem entr_11 (args : Array Value) (w : World) : (callFunc 159 args).run Tryz.prog w = .ok (.enter 159 args) w := by kernel_rfl
theorem entr_12 (args : Array Value) (w : World) : (callFunc 160 args).run Tryz.prog w = .ok (.enter 160 args) w := by kernel_rfl
theorem entr_13 (args : Array Value) (w : World) : (callFunc 161 args).run Tryz.prog w = .ok (.enter 161 args) w := by kernel_rfl
theorem insOk_1 (r a b n pl ch : Int) (w : World) : Calls Tryz.prog 115 #[.agg #[.int .i64 1, .int .i64 r, .int .i64 a, .int .i64 b, .int .i64 n], .int .i64 pl, .int .i64 ch] w fun e w' => e = .returned (.bool (Plain.insB 1 r a b n pl ch)) ∧ Below w.heap.size w w' := by
 by_cases heq : a = 0 ∧ b = 0
 ·obtain ⟨rfl, rfl⟩ := heq
  refine (insOk_same 1 r 0 0 n pl ch 160 (.agg #[.int .i64 r, .int .i64 n]) 149 (Plain.regB r && Plain.numB n) w (fun w => placeOf_1 r 0 0 n w) (fun w => mth_1 _ w) entr_1 (fun w => ins_1 r n w) (fun w => placeOk_1 r n pl ch w)).mono ?_
  rintro e w' ⟨rfl, hb⟩
  exact ⟨by rw [Plain.insB_1]; simp, hb⟩
 ·refine (insOk_other 1 r a b n r 0 0 n pl ch 160 (.agg #[.int .i64 r, .int .i64 n]) 149 w (fun h => heq (by omega)) (fun w => placeOf_1 r a b n w) (fun w => mth_1 _ w) entr_1 (fun w => ins_1 r n w)).mono ?_
  rintro e w' ⟨rfl, hb⟩
  exact ⟨by rw [Plain.insB_1, decide_eq_false heq]; simp, hb⟩
theorem insOk_2 (r a b n pl ch : Int) (w : World) : Calls Tryz.prog 115 #[.agg #[.int .i64 2, .int .i64 r, .int .i64 a, .int .i64 b, .int .i64 n], .int .i64 pl, .int .i64 ch] w fun e w' => e = .returned (.bool (Plain.insB 2 r a b n pl ch)) ∧ Below w.heap.size w w' := by
 by_cases heq : n = 0
 ·subst heq
  refine (insOk_same 2 r a b 0 pl ch 162 (.agg #[.int .i64 r, .int .i64 a, .int .i64 b]) 150 (Plain.areB r a b) w (fun w => placeOf_2 r a b 0 w) (fun w => mth_2 _ w) entr_2 (fun w => ins_2 r a b w) (fun w => placeOk_2 r a b pl ch w)).mono ?_
  rintro e w' ⟨rfl, hb⟩
  exact ⟨by rw [Plain.insB_2]; simp, hb⟩
 ·refine (insOk_other 2 r a b n r a b 0 pl ch 162 (.agg #[.int .i64 r, .int .i64 a, .int .i64 b]) 150 w (fun h => heq (by omega)) (fun w => placeOf_2 r a b n w) (fun w => mth_2 _ w) entr_2 (fun w => ins_2 r a b w)).mono ?_
  rintro e w' ⟨rfl, hb⟩
  exact ⟨by rw [Plain.insB_2, decide_eq_false heq]; simp, hb⟩
theorem insOk_3 (r a b n pl ch : Int) (w : World) : Calls Tryz.prog 115 #[.agg #[.int .i64 3, .int .i64 r, .int .i64 a, .int .i64 b, .int .i64 n], .int .i64 pl, .int .i64 ch] w fun e w' => e = .returned (.bool (Plain.insB 3 r a b n pl ch)) ∧ Below w.heap.size w w' := by
 by_cases heq : n = 0
 ·subst heq
  refine (insOk_same 3 r a b 0 pl ch 163 (.agg #[.int .i64 r, .int .i64 a, .int .i64 b]) 151 (Plain.areB r a b) w (fun w => placeOf_3 r a b 0 w) (fun w => mth_3 _ w) entr_3 (fun w => ins_3 r a b w) (fun w => placeOk_3 r a b pl ch w)).mono ?_
  rintro e w' ⟨rfl, hb⟩
  exact ⟨by rw [Plain.insB_3]; simp, hb⟩
 ·refine (insOk_other 3 r a b n r a b 0 pl ch 163 (.agg #[.int .i64 r, .int .i64 a, .int .i64 b]) 151 w (fun h => heq (by omega)) (fun w => placeOf_3 r a b n w) (fun w => mth_3 _ w) entr_3 (fun w => ins_3 r a b w)).mono ?_
  rintro e w' ⟨rfl, hb⟩
  exact ⟨by rw [Plain.insB_3, decide_eq_false heq]; simp, hb⟩
theorem insOk_4 (r a b n pl ch : Int) (w : World) : Calls Tryz.prog 115 #[.agg #[.int .i64 4, .int .i64 r, .int .i64 a, .int .i64 b, .int .i64 n], .int .i64 pl, .int .i64 ch] w fun e w' => e = .returned (.bool (Plain.insB 4 r a b n pl ch)) ∧ Below w.heap.size w w' := by
 by_cases heq : n = 0
 ·subst heq
  refine (insOk_same 4 r a b 0 pl ch 164 (.agg #[.int .i64 r, .int .i64 a, .int .i64 b]) 152 (Plain.areB r a b) w (fun w => placeOf_4 r a b 0 w) (fun w => mth_4 _ w) entr_4 (fun w => ins_4 r a b w) (fun w => placeOk_4 r a b pl ch w)).mono ?_
  rintro e w' ⟨rfl, hb⟩
  exact ⟨by rw [Plain.insB_4]; simp, hb⟩
 ·refine (insOk_other 4 r a b n r a b 0 pl ch 164 (.agg #[.int .i64 r, .int .i64 a, .int .i64 b]) 152 w (fun h => heq (by omega)) (fun w => placeOf_4 r a b n w) (fun w => mth_4 _ w) entr_4 (fun w => ins_4 r a b w)).mono ?_
  rintro e w' ⟨rfl, hb⟩
  exact ⟨by rw [Plain.insB_4, decide_eq_false heq]; simp, hb⟩
theorem insOk_5 (r a b n pl ch : Int) (w : World) : Calls Tryz.prog 115 #[.agg #[.int .i64 5, .int .i64 r, .int .i64 a, .int .i64 b, .int .i64 n], .int .i64 pl, .int .i64 ch] w fun e w' => e = .returned (.bool (Plain.insB 5 r a b n pl ch)) ∧ Below w.heap.size w w' := by
 by_cases heq : r = 0 ∧ b = 0
 ·obtain ⟨rfl, rfl⟩ := heq
  refine (insOk_same 5 0 a 0 n pl ch 166 (.agg #[.int .i64 a, .int .i64 n]) 153 (Plain.regB a && Plain.oneB n ch) w (fun w => placeOf_5 0 a 0 n w) (fun w => mth_5 _ w) entr_5 (fun w => ins_5 a n w) (fun w => placeOk_5 a n pl ch w)).mono ?_
  rintro e w' ⟨rfl, hb⟩
  exact ⟨by rw [Plain.insB_5]; simp, hb⟩
 ·refine (insOk_other 5 r a b n 0 a 0 n pl ch 166 (.agg #[.int .i64 a, .int .i64 n]) 153 w (fun h => heq (by omega)) (fun w => placeOf_5 r a b n w) (fun w => mth_5 _ w) entr_5 (fun w => ins_5 a n w)).mono ?_
  rintro e w' ⟨rfl, hb⟩
  exact ⟨by rw [Plain.insB_5, decide_eq_false heq]; simp, hb⟩
theorem insOk_6 (r a b n pl ch : Int) (w : World) : Calls Tryz.prog 115 #[.agg #[.int .i64 6, .int .i64 r, .int .i64 a, .int .i64 b, .int .i64 n], .int .i64 pl, .int .i64 ch] w fun e w' => e = .returned (.bool (Plain.insB 6 r a b n pl ch)) ∧ Below w.heap.size w w' := by
 by_cases heq : a = 0
 ·subst heq
  refine (insOk_same 6 r 0 b n pl ch 168 (.agg #[.int .i64 r, .int .i64 b, .int .i64 n]) 154 (Plain.takesB r b && Plain.oneB n ch) w (fun w => placeOf_6 r 0 b n w) (fun w => mth_6 _ w) entr_6 (fun w => ins_6 r b n w) (fun w => placeOk_6 r b n pl ch w)).mono ?_
  rintro e w' ⟨rfl, hb⟩
  exact ⟨by rw [Plain.insB_6]; simp, hb⟩
 ·refine (insOk_other 6 r a b n r 0 b n pl ch 168 (.agg #[.int .i64 r, .int .i64 b, .int .i64 n]) 154 w (fun h => heq (by omega)) (fun w => placeOf_6 r a b n w) (fun w => mth_6 _ w) entr_6 (fun w => ins_6 r b n w)).mono ?_
  rintro e w' ⟨rfl, hb⟩
  exact ⟨by rw [Plain.insB_6, decide_eq_false heq]; simp, hb⟩
theorem insOk_7 (r a b n pl ch : Int) (w : World) : Calls Tryz.prog 115 #[.agg #[.int .i64 7, .int .i64 r, .int .i64 a, .int .i64 b, .int .i64 n], .int .i64 pl, .int .i64 ch] w fun e w' => e = .returned (.bool (Plain.insB 7 r a b n pl ch)) ∧ Below w.heap.size w w' := by
 by_cases heq : b = 0
 ·subst heq
  refine (insOk_same 7 r a 0 n pl ch 170 (.agg #[.int .i64 r, .int .i64 a, .int .i64 n]) 155 (Plain.regB r && Plain.regB a && Plain.oneB n ch) w (fun w => placeOf_7 r a 0 n w) (fun w => mth_7 _ w) entr_7 (fun w => ins_7 r a n w) (fun w => placeOk_7 r a n pl ch w)).mono ?_
  rintro e w' ⟨rfl, hb⟩
  exact ⟨by rw [Plain.insB_7]; simp, hb⟩
 ·refine (insOk_other 7 r a b n r a 0 n pl ch 170 (.agg #[.int .i64 r, .int .i64 a, .int .i64 n]) 155 w (fun h => heq (by omega)) (fun w => placeOf_7 r a b n w) (fun w => mth_7 _ w) entr_7 (fun w => ins_7 r a n w)).mono ?_
  rintro e w' ⟨rfl, hb⟩
  exact ⟨by rw [Plain.insB_7, decide_eq_false heq]; simp, hb⟩
theorem insOk_8 (r a b n pl ch : Int) (w : World) : Calls Tryz.prog 115 #[.agg #[.int .i64 8, .int .i64 r, .int .i64 a, .int .i64 b, .int .i64 n], .int .i64 pl, .int .i64 ch] w fun e w' => e = .returned (.bool (Plain.insB 8 r a b n pl ch)) ∧ Below w.heap.size w w' := by
 by_cases heq : a = 0
 ·subst heq
  refine (insOk_same 8 r 0 b n pl ch 171 (.agg #[.int .i64 r, .int .i64 b, .int .i64 n]) 156 (Plain.takesB r b && Plain.oneB n ch) w (fun w => placeOf_8 r 0 b n w) (fun w => mth_8 _ w) entr_8 (fun w => ins_8 r b n w) (fun w => placeOk_8 r b n pl ch w)).mono ?_
  rintro e w' ⟨rfl, hb⟩
  exact ⟨by rw [Plain.insB_8]; simp, hb⟩
 ·refine (insOk_other 8 r a b n r 0 b n pl ch 171 (.agg #[.int .i64 r, .int .i64 b, .int .i64 n]) 156 w (fun h => heq (by omega)) (fun w => placeOf_8 r a b n w) (fun w => mth_8 _ w) entr_8 (fun w => ins_8 r b n w)).mono ?_
  rintro e w' ⟨rfl, hb⟩
  exact ⟨by rw [Plain.insB_8, decide_eq_false heq]; simp, hb⟩
theorem insOk_9 (r a b n pl ch : Int) (w : World) : Calls Tryz.prog 115 #[.agg #[.int .i64 9, .int .i64 r, .int .i64 a, .int .i64 b, .int .i64 n], .int .i64 pl, .int .i64 ch] w fun e w' => e = .returned (.bool (Plain.insB 9 r a b n pl ch)) ∧ Below w.heap.size w w' := by
 by_cases heq : r = 0 ∧ a = 0 ∧ b = 0
 ·obtain ⟨rfl, rfl, rfl⟩ := heq
  refine (insOk_same 9 0 0 0 n pl ch 173 (.agg #[.int .i64 n]) 157 (Plain.oneB n ch) w (fun w => placeOf_9 0 0 0 n w) (fun w => mth_9 _ w) entr_9 (fun w => ins_9 n w) (fun w => placeOk_9 n pl ch w)).mono ?_
  rintro e w' ⟨rfl, hb⟩
  exact ⟨by rw [Plain.insB_9]; simp, hb⟩
 ·refine (insOk_other 9 r a b n 0 0 0 n pl ch 173 (.agg #[.int .i64 n]) 157 w (fun h => heq (by omega)) (fun w => placeOf_9 r a b n w) (fun w => mth_9 _ w) entr_9 (fun w => ins_9 n w)).mono ?_
  rintro e w' ⟨rfl, hb⟩
  exact ⟨by rw [Plain.insB_9, decide_eq_false heq]; simp, hb⟩
theorem insOk_10 (r a b n pl ch : Int) (w : World) : Calls Tryz.prog 115 #[.agg #[.int .i64 10, .int .i64 r, .int .i64 a, .int .i64 b, .int .i64 n], .int .i64 pl, .int .i64 ch] w fun e w' => e = .returned (.bool (Plain.insB 10 r a b n pl ch)) ∧ Below w.heap.size w w' := by
 by_cases heq : r = 0 ∧ b = 0 ∧ n = 0
 ·obtain ⟨rfl, rfl, rfl⟩ := heq
  refine (insOk_same 10 0 a 0 0 pl ch 175 (.agg #[.int .i64 a]) 158 (Plain.regB a) w (fun w => placeOf_10 0 a 0 0 w) (fun w => mth_10 _ w) entr_10 (fun w => ins_10 a w) (fun w => placeOk_10 a pl ch w)).mono ?_
  rintro e w' ⟨rfl, hb⟩
  exact ⟨by rw [Plain.insB_10]; simp, hb⟩
 ·refine (insOk_other 10 r a b n 0 a 0 0 pl ch 175 (.agg #[.int .i64 a]) 158 w (fun h => heq (by omega)) (fun w => placeOf_10 r a b n w) (fun w => mth_10 _ w) entr_10 (fun w => ins_10 a w)).mono ?_
  rintro e w' ⟨rfl, hb⟩
  exact ⟨by rw [Plain.insB_10, decide_eq_false heq]; simp, hb⟩
theorem insOk_11 (r a b n pl ch : Int) (w : World) : Calls Tryz.prog 115 #[.agg #[.int .i64 11, .int .i64 r, .int .i64 a, .int .i64 b, .int .i64 n], .int .i64 pl, .int .i64 ch] w fun e w' => e = .returned (.bool (Plain.insB 11 r a b n pl ch)) ∧ Below w.heap.size w w' := by
 by_cases heq : r = 0 ∧ a = 0 ∧ b = 0
 ·obtain ⟨rfl, rfl, rfl⟩ := heq
  refine (insOk_same 11 0 0 0 n pl ch 176 (.agg #[.int .i64 n]) 159 (Plain.oneB n pl) w (fun w => placeOf_11 0 0 0 n w) (fun w => mth_11 _ w) entr_11 (fun w => ins_11 n w) (fun w => placeOk_11 n pl ch w)).mono ?_
  rintro e w' ⟨rfl, hb⟩
  exact ⟨by rw [Plain.insB_11]; simp, hb⟩
 ·refine (insOk_other 11 r a b n 0 0 0 n pl ch 176 (.agg #[.int .i64 n]) 159 w (fun h => heq (by omega)) (fun w => placeOf_11 r a b n w) (fun w => mth_11 _ w) entr_11 (fun w => ins_11 n w)).mono ?_
  rintro e w' ⟨rfl, hb⟩
  exact ⟨by rw [Plain.insB_11, decide_eq_false heq]; simp, hb⟩
theorem insOk_12 (r a b n pl ch : Int) (w : World) : Calls Tryz.prog 115 #[.agg #[.int .i64 12, .int .i64 r, .int .i64 a, .int .i64 b, .int .i64 n], .int .i64 pl, .int .i64 ch] w fun e w' => e = .returned (.bool (Plain.insB 12 r a b n pl ch)) ∧ Below w.heap.size w w' := by
 by_cases heq : r = 0 ∧ b = 0
 ·obtain ⟨rfl, rfl⟩ := heq
  refine (insOk_same 12 0 a 0 n pl ch 177 (.agg #[.int .i64 a, .int .i64 n]) 160 (Plain.regB a && Plain.oneB n pl) w (fun w => placeOf_12 0 a 0 n w) (fun w => mth_12 _ w) entr_12 (fun w => ins_12 a n w) (fun w => placeOk_12 a n pl ch w)).mono ?_
  rintro e w' ⟨rfl, hb⟩
  exact ⟨by rw [Plain.insB_12]; simp, hb⟩
 ·refine (insOk_other 12 r a b n 0 a 0 n pl ch 177 (.agg #[.int .i64 a, .int .i64 n]) 160 w (fun h => heq (by omega)) (fun w => placeOf_12 r a b n w) (fun w => mth_12 _ w) entr_12 (fun w => ins_12 a n w)).mono ?_
  rintro e w' ⟨rfl, hb⟩
  exact ⟨by rw [Plain.insB_12, decide_eq_false heq]; simp, hb⟩
theorem insOk_13 (r a b n pl ch : Int) (w : World) : Calls Tryz.prog 115 #[.agg #[.int .i64 13, .int .i64 r, .int .i64 a, .int .i64 b, .int .i64 n], .int .i64 pl, .int .i64 ch] w fun e w' => e = .returned (.bool (Plain.insB 13 r a b n pl ch)) ∧ Below w.heap.size w w' := by
 by_cases heq : r = 0 ∧ a = 0 ∧ b = 0 ∧ n = 0
 ·obtain ⟨rfl, rfl, rfl, rfl⟩ := heq
  refine (insOk_same 13 0 0 0 0 pl ch 179 (.agg #[]) 161 (true) w (fun w => placeOf_13 0 0 0 0 w) (fun w => mth_13 _ w) entr_13 (fun w => ins_13  w) (fun w => placeOk_13  pl ch w)).mono ?_
  rintro e w' ⟨rfl, hb⟩
  exact ⟨by rw [Plain.insB_13]; simp, hb⟩
 ·refine (insOk_other 13 r a b n 0 0 0 0 pl ch 179 (.agg #[]) 161 w (fun h => heq (by omega)) (fun w => placeOf_13 r a b n w) (fun w => mth_13 _ w) entr_13 (fun w => ins_13  w)).mono ?_
  rintro e w' ⟨rfl, hb⟩
  exact ⟨by rw [Plain.insB_13, decide_eq_false heq]; simp, hb⟩
theorem insOk_any (op r a b n pl ch : Int) (w : World) : Calls Tryz.prog 115 #[.agg #[.int .i64 op, .int .i64 r, .int .i64 a, .int .i64 b, .int .i64 n], .int .i64 pl, .int .i64 ch] w fun e w' => e = .returned (.bool (Plain.insB op r a b n pl ch)) ∧ Below w.heap.size w w' := by
 by_cases e1 : op = 1
 ·subst e1; exact insOk_1 r a b n pl ch w
 by_cases e2 : op = 2
 ·subst e2; exact insOk_2 r a b n pl ch w
 by_cases e3 : op = 3
 ·subst e3; exact insOk_3 r a b n pl ch w
 by_cases e4 : op = 4
 ·subst e4; exact insOk_4 r a b n pl ch w
 by_cases e5 : op = 5
 ·subst e5; exact insOk_5 r a b n pl ch w
 by_cases e6 : op = 6
 ·subst e6; exact insOk_6 r a b n pl ch w
 by_cases e7 : op = 7
 ·subst e7; exact insOk_7 r a b n pl ch w
 by_cases e8 : op = 8
 ·subst e8; exact insOk_8 r a b n pl ch w
 by_cases e9 : op = 9
 ·subst e9; exact insOk_9 r a b n pl ch w
 by_cases e10 : op = 10
 ·subst e10; exact insOk_10 r a b n pl ch w
 by_cases e11 : op = 11
 ·subst e11; exact insOk_11 r a b n pl ch w
 by_cases e12 : op = 12
 ·subst e12; exact insOk_12 r a b n pl ch w
 by_cases e13 : op = 13
 ·subst e13; exact insOk_13 r a b n pl ch w
 have h1 : (op == 1) = false := by simpa using e1
 have h2 : (op == 2) = false := by simpa using e2
 have h3 : (op == 3) = false := by simpa using e3
 have h4 : (op == 4) = false := by simpa using e4
 have h5 : (op == 5) = false := by simpa using e5
 have h6 : (op == 6) = false := by simpa using e6
 have h7 : (op == 7) = false := by simpa using e7
 have h8 : (op == 8) = false := by simpa using e8
 have h9 : (op == 9) = false := by simpa using e9
 have h10 : (op == 10) = false := by simpa using e10
 have h11 : (op == 11) = false := by simpa using e11
 have h12 : (op == 12) = false := by simpa using e12
 have h13 : (op == 13) = false := by simpa using e13
 refine (insOk_nil op r a b n pl ch w (fun w => placeOf_0 op r a b n w h1 h2 h3 h4 h5 h6 h7 h8 h9 h10 h11 h12 h13)).mono ?_
 rintro e w' ⟨rfl, hb⟩
 exact ⟨by rw [Plain.insB_0 op r a b n pl ch h1 h2 h3 h4 h5 h6 h7 h8 h9 h10 h11 h12 h13], hb⟩
end
section
set_option linter.unusedSimpArgs false
set_option linter.unusedVariables false
set_option maxRecDepth 100000
open Go.RowKit
def insX (x : I5) (pl ch : Int) : Bool := Plain.insB x.o x.r x.a x.b x.n pl ch
def lastB (l : List I5) : Bool := decide ((l.getD (l.length - 1) z5).o = 13 ∨ (l.getD (l.length - 1) z5).o = 11)
def bodyB (l : List I5) (ch : Int) : Bool := decide (∀ i, i < l.length → insX (l.getD i z5) l.length ch = true) && (decide (1 ≤ l.length ∧ l.length ≤ 24) && (Plain.chansB ch && lastB l))
theorem body_no {l : List I5} {ch : Int} {k : Nat} (hk : k < l.length) (h : insX (l.getD k z5) l.length ch = false) : bodyB l ch = false := by
 have : decide (∀ i, i < l.length → insX (l.getD i z5) l.length ch = true) = false := by
  rw [decide_eq_false_iff_not]
  intro hh
  rw [hh k hk] at h
  cases h
 unfold bodyB
 rw [this, Bool.false_and]
theorem body_all {l : List I5} {ch : Int} (h : ∀ i, i < l.length → insX (l.getD i z5) l.length ch = true) : bodyB l ch = (decide (1 ≤ l.length ∧ l.length ≤ 24) && (Plain.chansB ch && lastB l)) := by
 have : decide (∀ i, i < l.length → insX (l.getD i z5) l.length ch = true) = true := by
  rw [decide_eq_true_iff]; exact h
 unfold bodyB
 rw [this, Bool.true_and]
theorem eqIns_same (o r a b n : Int) (w : World) : Calls Tryz.prog 108 #[.agg #[.int .i64 o, .int .i64 r, .int .i64 a, .int .i64 b, .int .i64 n], .agg #[.int .i64 o, .int .i64 r, .int .i64 a, .int .i64 b, .int .i64 n]] w fun e w' => e = .returned (.bool true) ∧ Below w.heap.size w w' := by
 go_enter Tryz.func108, Tryz.ntmps108
 go_wp2
 go_ret
 exact ⟨rfl, ((Below.refl _ _).alloc (Nat.le_refl _) _).alloc (by simp) _⟩
set_option maxHeartbeats 1000000 in
theorem eqInsS_same (s s' : Option Addr) (c c' B : Nat) (l : List I5) (w : World) (h : InsB w B s l) (h' : InsB w B s' l) (hB : B ≤ w.heap.size) (hl : l.length ≤ 1048576) :
  Calls Tryz.prog 82 #[.slice s l.length c, .slice s' l.length c'] w fun e w' => e = .returned (.bool true) ∧ Below w.heap.size w w' := by
 rcases h with rfl | ⟨g, off, rfl, hg, hc⟩
 ·go_enter Tryz.func82, Tryz.ntmps82
  go_wp2
  go_loop [5] (fun i => i = .int .i64 0) (fun _ => 0)
  case atStart => rfl
  case round =>
   subst hrel
   go_wp2
   go_ret
   exact ⟨rfl, Below.refl _ _⟩
 ·rcases h' with rfl | ⟨g', off', rfl, hg', hc'⟩
  ·go_enter Tryz.func82, Tryz.ntmps82
   go_wp2
   go_loop [5] (fun i => i = .int .i64 0) (fun _ => 0)
   case atStart => rfl
   case round =>
    subst hrel
    go_wp2
    go_ret
    exact ⟨rfl, Below.refl _ _⟩
  ·have hne : ((l.length : Int) != (l.length : Int)) = false := by simp
   have HC : Hid (∀ i, i < l.length → At5 w g (off + i * 5) (l.getD i z5)) := hc
   have HC' : Hid (∀ i, i < l.length → At5 w g' (off' + i * 5) (l.getD i z5)) := hc'
   clear hc hc'
   go_enter Tryz.func82, Tryz.ntmps82
   go_wp2
   go_loopw [5] (fun i wr => ∃ k : Nat, k ≤ l.length ∧ i = .int .i64 k ∧ Below w.heap.size w wr) (fun i _ => l.length - (intOf i).toNat)
   case atStart => exact ⟨0, Nat.zero_le _, rfl, Below.refl _ _⟩
   case round =>
    obtain ⟨k, hk, rfl, hb⟩ := hrel
    have HB : Hid (Below w.heap.size w wr) := hb
    clear hb
    by_cases hlt : k < l.length
    ·obtain ⟨f0, f1, f2, f3, f4⟩ := (HC.out k hlt).keep HB.out (by omega)
     obtain ⟨f0', f1', f2', f3', f4'⟩ := (HC'.out k hlt).keep HB.out (by omega)
     generalize l.getD k z5 = x at f0 f1 f2 f3 f4 f0' f1' f2' f3' f4'
     obtain ⟨xo, xr, xa, xb, xn⟩ := x
     have b0 : (0 : Int) ≤ (k : Int) := by omega
     have b1 : (k : Int) < (l.length : Int) := by omega
     go_wp2_with fail
     first | go_region_with (go_at_call 108; refine (eqIns_same _ _ _ _ _ _).mono ?_; rintro e w1 ⟨rfl, hb1⟩) | fail
     all_goals
      have HB1 : Hid (Below wr.heap.size wr w1) := ⟨hb1.os, hb1.tape, hb1.output, hb1.size, hb1.block⟩
      have hs1 := HB.out.size
      clear hb1
      go_wp2
      go_roundw
      case rel => exact ⟨k + 1, by omega, by go_num, HB.out.trans (HB1.out.mono hs1)⟩
      case measure => simp [intOf]; omega
    ·go_wp2
     go_ret
     exact ⟨rfl, HB.out⟩
end
end Go.Proofs.YtfokbjkgdiploaaGreat
