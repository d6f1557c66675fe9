/- InsOk of the program, at every Ins, every count of places and of channels, in every world: it returns what the plain law says; it makes memory, and turns none. No condition. BodyOk of the program and of the specification, at every list of at most 1048576 places: each answers as the plain law says; and how the laws hold two such lists against each other. BodyOk of the specification, at every list of at most 1048576 places. BodyOk of the program, at every list of at most 1048576 places. -/
import Derived.Test.YtkhjhibigldcgaaGreatBG00
import Derived.Test.YtkhjhibigldcgaaGreatBLeaves
import Derived.Test.YtkhjhibigldcgaaGreatBG01
import Derived.Test.YtkhjhibigldcgaaGreatBG02
import Derived.Test.YtkhjhibigldcgaaGreatBInsGen
import Derived.Test.YtkhjhibigldcgaaGreatBSpecIns
namespace Go.Proofs.YtkhjhibigldcgaaGreat
section
set_option linter.unusedSimpArgs false
set_option linter.unusedVariables false
set_option maxRecDepth 100000
open Go.RowKit
theorem entr_1 (args:Array Value) (w:World):(callFunc 133 args).run Tryz.prog w=.ok (.enter 133 args) w:=by kernel_rfl
theorem entr_2 (args:Array Value) (w:World):(callFunc 134 args).run Tryz.prog w=.ok (.enter 134 args) w:=by kernel_rfl
theorem entr_3 (args:Array Value) (w:World):(callFunc 135 args).run Tryz.prog w=.ok (.enter 135 args) w:=by kernel_rfl
theorem entr_4 (args:Array Value) (w:World):(callFunc 136 args).run Tryz.prog w=.ok (.enter 136 args) w:=by kernel_rfl
theorem entr_5 (args:Array Value) (w:World):(callFunc 137 args).run Tryz.prog w=.ok (.enter 137 args) w:=by kernel_rfl
theorem entr_6 (args:Array Value) (w:World):(callFunc 138 args).run Tryz.prog w=.ok (.enter 138 args) w:=by kernel_rfl
theorem entr_7 (args:Array Value) (w:World):(callFunc 139 args).run Tryz.prog w=.ok (.enter 139 args) w:=by kernel_rfl
theorem entr_8 (args:Array Value) (w:World):(callFunc 140 args).run Tryz.prog w=.ok (.enter 140 args) w:=by kernel_rfl
theorem entr_9 (args:Array Value) (w:World):(callFunc 141 args).run Tryz.prog w=.ok (.enter 141 args) w:=by kernel_rfl
theorem entr_10 (args:Array Value) (w:World):(callFunc 142 args).run Tryz.prog w=.ok (.enter 142 args) w:=by kernel_rfl
theorem entr_11 (args:Array Value) (w:World):(callFunc 143 args).run Tryz.prog w=.ok (.enter 143 args) w:=by kernel_rfl
theorem entr_12 (args:Array Value) (w:World):(callFunc 144 args).run Tryz.prog w=.ok (.enter 144 args) w:=by kernel_rfl
theorem entr_13 (args:Array Value) (w:World):(callFunc 145 args).run Tryz.prog w=.ok (.enter 145 args) w:=by kernel_rfl
theorem insOk_1 (r a b n pl ch:Int) (w:World):Calls Tryz.prog 51 #[.agg #[.int .i64 1,.int .i64 r,.int .i64 a,.int .i64 b,.int .i64 n],.int .i64 pl,.int .i64 ch] w fun e w'=>e=.returned (.bool (Plain.insB 1 r a b n pl ch))∧Below w.heap.size w w':=by
 by_cases heq:a=0∧b=0
 ·obtain ⟨rfl,rfl⟩:=heq
  refine (insOk_same 1 r 0 0 n pl ch 140 (.agg #[.int .i64 r,.int .i64 n]) 133 (Plain.regB r&&Plain.numB n) w (fun w=>placeOf_1 r 0 0 n w) (fun w=>mth_1 _ w) entr_1 (fun w=>ins_1 r n w) (fun w=>placeOk_1 r n pl ch w)).mono ?_
  rintro e w' ⟨rfl,hb⟩
  exact ⟨by rw [Plain.insB_1];simp,hb⟩
 ·refine (insOk_other 1 r a b n r 0 0 n pl ch 140 (.agg #[.int .i64 r,.int .i64 n]) 133 w (fun h=>heq (by omega)) (fun w=>placeOf_1 r a b n w) (fun w=>mth_1 _ w) entr_1 (fun w=>ins_1 r n w)).mono ?_
  rintro e w' ⟨rfl,hb⟩
  exact ⟨by rw [Plain.insB_1,decide_eq_false heq];simp,hb⟩
theorem insOk_2 (r a b n pl ch:Int) (w:World):Calls Tryz.prog 51 #[.agg #[.int .i64 2,.int .i64 r,.int .i64 a,.int .i64 b,.int .i64 n],.int .i64 pl,.int .i64 ch] w fun e w'=>e=.returned (.bool (Plain.insB 2 r a b n pl ch))∧Below w.heap.size w w':=by
 by_cases heq:n=0
 ·subst heq
  refine (insOk_same 2 r a b 0 pl ch 142 (.agg #[.int .i64 r,.int .i64 a,.int .i64 b]) 134 (Plain.areB r a b) w (fun w=>placeOf_2 r a b 0 w) (fun w=>mth_2 _ w) entr_2 (fun w=>ins_2 r a b w) (fun w=>placeOk_2 r a b pl ch w)).mono ?_
  rintro e w' ⟨rfl,hb⟩
  exact ⟨by rw [Plain.insB_2];simp,hb⟩
 ·refine (insOk_other 2 r a b n r a b 0 pl ch 142 (.agg #[.int .i64 r,.int .i64 a,.int .i64 b]) 134 w (fun h=>heq (by omega)) (fun w=>placeOf_2 r a b n w) (fun w=>mth_2 _ w) entr_2 (fun w=>ins_2 r a b w)).mono ?_
  rintro e w' ⟨rfl,hb⟩
  exact ⟨by rw [Plain.insB_2,decide_eq_false heq];simp,hb⟩
theorem insOk_3 (r a b n pl ch:Int) (w:World):Calls Tryz.prog 51 #[.agg #[.int .i64 3,.int .i64 r,.int .i64 a,.int .i64 b,.int .i64 n],.int .i64 pl,.int .i64 ch] w fun e w'=>e=.returned (.bool (Plain.insB 3 r a b n pl ch))∧Below w.heap.size w w':=by
 by_cases heq:n=0
 ·subst heq
  refine (insOk_same 3 r a b 0 pl ch 143 (.agg #[.int .i64 r,.int .i64 a,.int .i64 b]) 135 (Plain.areB r a b) w (fun w=>placeOf_3 r a b 0 w) (fun w=>mth_3 _ w) entr_3 (fun w=>ins_3 r a b w) (fun w=>placeOk_3 r a b pl ch w)).mono ?_
  rintro e w' ⟨rfl,hb⟩
  exact ⟨by rw [Plain.insB_3];simp,hb⟩
 ·refine (insOk_other 3 r a b n r a b 0 pl ch 143 (.agg #[.int .i64 r,.int .i64 a,.int .i64 b]) 135 w (fun h=>heq (by omega)) (fun w=>placeOf_3 r a b n w) (fun w=>mth_3 _ w) entr_3 (fun w=>ins_3 r a b w)).mono ?_
  rintro e w' ⟨rfl,hb⟩
  exact ⟨by rw [Plain.insB_3,decide_eq_false heq];simp,hb⟩
theorem insOk_4 (r a b n pl ch:Int) (w:World):Calls Tryz.prog 51 #[.agg #[.int .i64 4,.int .i64 r,.int .i64 a,.int .i64 b,.int .i64 n],.int .i64 pl,.int .i64 ch] w fun e w'=>e=.returned (.bool (Plain.insB 4 r a b n pl ch))∧Below w.heap.size w w':=by
 by_cases heq:n=0
 ·subst heq
  refine (insOk_same 4 r a b 0 pl ch 144 (.agg #[.int .i64 r,.int .i64 a,.int .i64 b]) 136 (Plain.areB r a b) w (fun w=>placeOf_4 r a b 0 w) (fun w=>mth_4 _ w) entr_4 (fun w=>ins_4 r a b w) (fun w=>placeOk_4 r a b pl ch w)).mono ?_
  rintro e w' ⟨rfl,hb⟩
  exact ⟨by rw [Plain.insB_4];simp,hb⟩
 ·refine (insOk_other 4 r a b n r a b 0 pl ch 144 (.agg #[.int .i64 r,.int .i64 a,.int .i64 b]) 136 w (fun h=>heq (by omega)) (fun w=>placeOf_4 r a b n w) (fun w=>mth_4 _ w) entr_4 (fun w=>ins_4 r a b w)).mono ?_
  rintro e w' ⟨rfl,hb⟩
  exact ⟨by rw [Plain.insB_4,decide_eq_false heq];simp,hb⟩
theorem insOk_5 (r a b n pl ch:Int) (w:World):Calls Tryz.prog 51 #[.agg #[.int .i64 5,.int .i64 r,.int .i64 a,.int .i64 b,.int .i64 n],.int .i64 pl,.int .i64 ch] w fun e w'=>e=.returned (.bool (Plain.insB 5 r a b n pl ch))∧Below w.heap.size w w':=by
 by_cases heq:r=0∧b=0
 ·obtain ⟨rfl,rfl⟩:=heq
  refine (insOk_same 5 0 a 0 n pl ch 146 (.agg #[.int .i64 a,.int .i64 n]) 137 (Plain.regB a&&Plain.oneB n ch) w (fun w=>placeOf_5 0 a 0 n w) (fun w=>mth_5 _ w) entr_5 (fun w=>ins_5 a n w) (fun w=>placeOk_5 a n pl ch w)).mono ?_
  rintro e w' ⟨rfl,hb⟩
  exact ⟨by rw [Plain.insB_5];simp,hb⟩
 ·refine (insOk_other 5 r a b n 0 a 0 n pl ch 146 (.agg #[.int .i64 a,.int .i64 n]) 137 w (fun h=>heq (by omega)) (fun w=>placeOf_5 r a b n w) (fun w=>mth_5 _ w) entr_5 (fun w=>ins_5 a n w)).mono ?_
  rintro e w' ⟨rfl,hb⟩
  exact ⟨by rw [Plain.insB_5,decide_eq_false heq];simp,hb⟩
theorem insOk_6 (r a b n pl ch:Int) (w:World):Calls Tryz.prog 51 #[.agg #[.int .i64 6,.int .i64 r,.int .i64 a,.int .i64 b,.int .i64 n],.int .i64 pl,.int .i64 ch] w fun e w'=>e=.returned (.bool (Plain.insB 6 r a b n pl ch))∧Below w.heap.size w w':=by
 by_cases heq:a=0
 ·subst heq
  refine (insOk_same 6 r 0 b n pl ch 148 (.agg #[.int .i64 r,.int .i64 b,.int .i64 n]) 138 (Plain.takesB r b&&Plain.oneB n ch) w (fun w=>placeOf_6 r 0 b n w) (fun w=>mth_6 _ w) entr_6 (fun w=>ins_6 r b n w) (fun w=>placeOk_6 r b n pl ch w)).mono ?_
  rintro e w' ⟨rfl,hb⟩
  exact ⟨by rw [Plain.insB_6];simp,hb⟩
 ·refine (insOk_other 6 r a b n r 0 b n pl ch 148 (.agg #[.int .i64 r,.int .i64 b,.int .i64 n]) 138 w (fun h=>heq (by omega)) (fun w=>placeOf_6 r a b n w) (fun w=>mth_6 _ w) entr_6 (fun w=>ins_6 r b n w)).mono ?_
  rintro e w' ⟨rfl,hb⟩
  exact ⟨by rw [Plain.insB_6,decide_eq_false heq];simp,hb⟩
theorem insOk_7 (r a b n pl ch:Int) (w:World):Calls Tryz.prog 51 #[.agg #[.int .i64 7,.int .i64 r,.int .i64 a,.int .i64 b,.int .i64 n],.int .i64 pl,.int .i64 ch] w fun e w'=>e=.returned (.bool (Plain.insB 7 r a b n pl ch))∧Below w.heap.size w w':=by
 by_cases heq:b=0
 ·subst heq
  refine (insOk_same 7 r a 0 n pl ch 150 (.agg #[.int .i64 r,.int .i64 a,.int .i64 n]) 139 (Plain.regB r&&Plain.regB a&&Plain.oneB n ch) w (fun w=>placeOf_7 r a 0 n w) (fun w=>mth_7 _ w) entr_7 (fun w=>ins_7 r a n w) (fun w=>placeOk_7 r a n pl ch w)).mono ?_
  rintro e w' ⟨rfl,hb⟩
  exact ⟨by rw [Plain.insB_7];simp,hb⟩
 ·refine (insOk_other 7 r a b n r a 0 n pl ch 150 (.agg #[.int .i64 r,.int .i64 a,.int .i64 n]) 139 w (fun h=>heq (by omega)) (fun w=>placeOf_7 r a b n w) (fun w=>mth_7 _ w) entr_7 (fun w=>ins_7 r a n w)).mono ?_
  rintro e w' ⟨rfl,hb⟩
  exact ⟨by rw [Plain.insB_7,decide_eq_false heq];simp,hb⟩
theorem insOk_8 (r a b n pl ch:Int) (w:World):Calls Tryz.prog 51 #[.agg #[.int .i64 8,.int .i64 r,.int .i64 a,.int .i64 b,.int .i64 n],.int .i64 pl,.int .i64 ch] w fun e w'=>e=.returned (.bool (Plain.insB 8 r a b n pl ch))∧Below w.heap.size w w':=by
 by_cases heq:a=0
 ·subst heq
  refine (insOk_same 8 r 0 b n pl ch 151 (.agg #[.int .i64 r,.int .i64 b,.int .i64 n]) 140 (Plain.takesB r b&&Plain.oneB n ch) w (fun w=>placeOf_8 r 0 b n w) (fun w=>mth_8 _ w) entr_8 (fun w=>ins_8 r b n w) (fun w=>placeOk_8 r b n pl ch w)).mono ?_
  rintro e w' ⟨rfl,hb⟩
  exact ⟨by rw [Plain.insB_8];simp,hb⟩
 ·refine (insOk_other 8 r a b n r 0 b n pl ch 151 (.agg #[.int .i64 r,.int .i64 b,.int .i64 n]) 140 w (fun h=>heq (by omega)) (fun w=>placeOf_8 r a b n w) (fun w=>mth_8 _ w) entr_8 (fun w=>ins_8 r b n w)).mono ?_
  rintro e w' ⟨rfl,hb⟩
  exact ⟨by rw [Plain.insB_8,decide_eq_false heq];simp,hb⟩
theorem insOk_9 (r a b n pl ch:Int) (w:World):Calls Tryz.prog 51 #[.agg #[.int .i64 9,.int .i64 r,.int .i64 a,.int .i64 b,.int .i64 n],.int .i64 pl,.int .i64 ch] w fun e w'=>e=.returned (.bool (Plain.insB 9 r a b n pl ch))∧Below w.heap.size w w':=by
 by_cases heq:r=0∧a=0∧b=0
 ·obtain ⟨rfl,rfl,rfl⟩:=heq
  refine (insOk_same 9 0 0 0 n pl ch 153 (.agg #[.int .i64 n]) 141 (Plain.oneB n ch) w (fun w=>placeOf_9 0 0 0 n w) (fun w=>mth_9 _ w) entr_9 (fun w=>ins_9 n w) (fun w=>placeOk_9 n pl ch w)).mono ?_
  rintro e w' ⟨rfl,hb⟩
  exact ⟨by rw [Plain.insB_9];simp,hb⟩
 ·refine (insOk_other 9 r a b n 0 0 0 n pl ch 153 (.agg #[.int .i64 n]) 141 w (fun h=>heq (by omega)) (fun w=>placeOf_9 r a b n w) (fun w=>mth_9 _ w) entr_9 (fun w=>ins_9 n w)).mono ?_
  rintro e w' ⟨rfl,hb⟩
  exact ⟨by rw [Plain.insB_9,decide_eq_false heq];simp,hb⟩
theorem insOk_10 (r a b n pl ch:Int) (w:World):Calls Tryz.prog 51 #[.agg #[.int .i64 10,.int .i64 r,.int .i64 a,.int .i64 b,.int .i64 n],.int .i64 pl,.int .i64 ch] w fun e w'=>e=.returned (.bool (Plain.insB 10 r a b n pl ch))∧Below w.heap.size w w':=by
 by_cases heq:r=0∧b=0∧n=0
 ·obtain ⟨rfl,rfl,rfl⟩:=heq
  refine (insOk_same 10 0 a 0 0 pl ch 155 (.agg #[.int .i64 a]) 142 (Plain.regB a) w (fun w=>placeOf_10 0 a 0 0 w) (fun w=>mth_10 _ w) entr_10 (fun w=>ins_10 a w) (fun w=>placeOk_10 a pl ch w)).mono ?_
  rintro e w' ⟨rfl,hb⟩
  exact ⟨by rw [Plain.insB_10];simp,hb⟩
 ·refine (insOk_other 10 r a b n 0 a 0 0 pl ch 155 (.agg #[.int .i64 a]) 142 w (fun h=>heq (by omega)) (fun w=>placeOf_10 r a b n w) (fun w=>mth_10 _ w) entr_10 (fun w=>ins_10 a w)).mono ?_
  rintro e w' ⟨rfl,hb⟩
  exact ⟨by rw [Plain.insB_10,decide_eq_false heq];simp,hb⟩
theorem insOk_11 (r a b n pl ch:Int) (w:World):Calls Tryz.prog 51 #[.agg #[.int .i64 11,.int .i64 r,.int .i64 a,.int .i64 b,.int .i64 n],.int .i64 pl,.int .i64 ch] w fun e w'=>e=.returned (.bool (Plain.insB 11 r a b n pl ch))∧Below w.heap.size w w':=by
 by_cases heq:r=0∧a=0∧b=0
 ·obtain ⟨rfl,rfl,rfl⟩:=heq
  refine (insOk_same 11 0 0 0 n pl ch 156 (.agg #[.int .i64 n]) 143 (Plain.oneB n pl) w (fun w=>placeOf_11 0 0 0 n w) (fun w=>mth_11 _ w) entr_11 (fun w=>ins_11 n w) (fun w=>placeOk_11 n pl ch w)).mono ?_
  rintro e w' ⟨rfl,hb⟩
  exact ⟨by rw [Plain.insB_11];simp,hb⟩
 ·refine (insOk_other 11 r a b n 0 0 0 n pl ch 156 (.agg #[.int .i64 n]) 143 w (fun h=>heq (by omega)) (fun w=>placeOf_11 r a b n w) (fun w=>mth_11 _ w) entr_11 (fun w=>ins_11 n w)).mono ?_
  rintro e w' ⟨rfl,hb⟩
  exact ⟨by rw [Plain.insB_11,decide_eq_false heq];simp,hb⟩
theorem insOk_12 (r a b n pl ch:Int) (w:World):Calls Tryz.prog 51 #[.agg #[.int .i64 12,.int .i64 r,.int .i64 a,.int .i64 b,.int .i64 n],.int .i64 pl,.int .i64 ch] w fun e w'=>e=.returned (.bool (Plain.insB 12 r a b n pl ch))∧Below w.heap.size w w':=by
 by_cases heq:r=0∧b=0
 ·obtain ⟨rfl,rfl⟩:=heq
  refine (insOk_same 12 0 a 0 n pl ch 157 (.agg #[.int .i64 a,.int .i64 n]) 144 (Plain.regB a&&Plain.oneB n pl) w (fun w=>placeOf_12 0 a 0 n w) (fun w=>mth_12 _ w) entr_12 (fun w=>ins_12 a n w) (fun w=>placeOk_12 a n pl ch w)).mono ?_
  rintro e w' ⟨rfl,hb⟩
  exact ⟨by rw [Plain.insB_12];simp,hb⟩
 ·refine (insOk_other 12 r a b n 0 a 0 n pl ch 157 (.agg #[.int .i64 a,.int .i64 n]) 144 w (fun h=>heq (by omega)) (fun w=>placeOf_12 r a b n w) (fun w=>mth_12 _ w) entr_12 (fun w=>ins_12 a n w)).mono ?_
  rintro e w' ⟨rfl,hb⟩
  exact ⟨by rw [Plain.insB_12,decide_eq_false heq];simp,hb⟩
theorem insOk_13 (r a b n pl ch:Int) (w:World):Calls Tryz.prog 51 #[.agg #[.int .i64 13,.int .i64 r,.int .i64 a,.int .i64 b,.int .i64 n],.int .i64 pl,.int .i64 ch] w fun e w'=>e=.returned (.bool (Plain.insB 13 r a b n pl ch))∧Below w.heap.size w w':=by
 by_cases heq:r=0∧a=0∧b=0∧n=0
 ·obtain ⟨rfl,rfl,rfl,rfl⟩:=heq
  refine (insOk_same 13 0 0 0 0 pl ch 159 (.agg #[]) 145 (true) w (fun w=>placeOf_13 0 0 0 0 w) (fun w=>mth_13 _ w) entr_13 (fun w=>ins_13 w) (fun w=>placeOk_13 pl ch w)).mono ?_
  rintro e w' ⟨rfl,hb⟩
  exact ⟨by rw [Plain.insB_13];simp,hb⟩
 ·refine (insOk_other 13 r a b n 0 0 0 0 pl ch 159 (.agg #[]) 145 w (fun h=>heq (by omega)) (fun w=>placeOf_13 r a b n w) (fun w=>mth_13 _ w) entr_13 (fun w=>ins_13 w)).mono ?_
  rintro e w' ⟨rfl,hb⟩
  exact ⟨by rw [Plain.insB_13,decide_eq_false heq];simp,hb⟩
theorem insOk_any (op r a b n pl ch:Int) (w:World):Calls Tryz.prog 51 #[.agg #[.int .i64 op,.int .i64 r,.int .i64 a,.int .i64 b,.int .i64 n],.int .i64 pl,.int .i64 ch] w fun e w'=>e=.returned (.bool (Plain.insB op r a b n pl ch))∧Below w.heap.size w w':=by
 by_cases e1:op=1
 ·subst e1;exact insOk_1 r a b n pl ch w
 by_cases e2:op=2
 ·subst e2;exact insOk_2 r a b n pl ch w
 by_cases e3:op=3
 ·subst e3;exact insOk_3 r a b n pl ch w
 by_cases e4:op=4
 ·subst e4;exact insOk_4 r a b n pl ch w
 by_cases e5:op=5
 ·subst e5;exact insOk_5 r a b n pl ch w
 by_cases e6:op=6
 ·subst e6;exact insOk_6 r a b n pl ch w
 by_cases e7:op=7
 ·subst e7;exact insOk_7 r a b n pl ch w
 by_cases e8:op=8
 ·subst e8;exact insOk_8 r a b n pl ch w
 by_cases e9:op=9
 ·subst e9;exact insOk_9 r a b n pl ch w
 by_cases e10:op=10
 ·subst e10;exact insOk_10 r a b n pl ch w
 by_cases e11:op=11
 ·subst e11;exact insOk_11 r a b n pl ch w
 by_cases e12:op=12
 ·subst e12;exact insOk_12 r a b n pl ch w
 by_cases e13:op=13
 ·subst e13;exact insOk_13 r a b n pl ch w
 have h1:(op==1)=false:=by simpa using e1
 have h2:(op==2)=false:=by simpa using e2
 have h3:(op==3)=false:=by simpa using e3
 have h4:(op==4)=false:=by simpa using e4
 have h5:(op==5)=false:=by simpa using e5
 have h6:(op==6)=false:=by simpa using e6
 have h7:(op==7)=false:=by simpa using e7
 have h8:(op==8)=false:=by simpa using e8
 have h9:(op==9)=false:=by simpa using e9
 have h10:(op==10)=false:=by simpa using e10
 have h11:(op==11)=false:=by simpa using e11
 have h12:(op==12)=false:=by simpa using e12
 have h13:(op==13)=false:=by simpa using e13
 refine (insOk_nil op r a b n pl ch w (fun w=>placeOf_0 op r a b n w h1 h2 h3 h4 h5 h6 h7 h8 h9 h10 h11 h12 h13)).mono ?_
 rintro e w' ⟨rfl,hb⟩
 exact ⟨by rw [Plain.insB_0 op r a b n pl ch h1 h2 h3 h4 h5 h6 h7 h8 h9 h10 h11 h12 h13],hb⟩
end
section
set_option linter.unusedSimpArgs false
set_option linter.unusedVariables false
set_option maxRecDepth 100000
open Go.RowKit
def insX (x:I5) (pl ch:Int):Bool:=Plain.insB x.o x.r x.a x.b x.n pl ch
def lastB (l:List I5):Bool:=decide ((l.getD (l.length - 1) z5).o=13∨(l.getD (l.length - 1) z5).o=11)
def bodyB (l:List I5) (ch:Int):Bool:=decide (∀ i,i < l.length→insX (l.getD i z5) l.length ch=true)&&(decide (1≤l.length∧l.length≤24)&&(Plain.chansB ch&&lastB l))
theorem body_no {l:List I5} {ch:Int} {k:Nat} (hk:k < l.length) (h:insX (l.getD k z5) l.length ch=false):bodyB l ch=false:=by
 have:decide (∀ i,i < l.length→insX (l.getD i z5) l.length ch=true)=false:=by
  rw [decide_eq_false_iff_not]
  intro hh
  rw [hh k hk] at h
  cases h
 unfold bodyB
 rw [this,Bool.false_and]
theorem body_all {l:List I5} {ch:Int} (h:∀ i,i < l.length→insX (l.getD i z5) l.length ch=true):bodyB l ch=(decide (1≤l.length∧l.length≤24)&&(Plain.chansB ch&&lastB l)):=by
 have:decide (∀ i,i < l.length→insX (l.getD i z5) l.length ch=true)=true:=by
  rw [decide_eq_true_iff];exact h
 unfold bodyB
 rw [this,Bool.true_and]
end
section
set_option linter.unusedSimpArgs false
set_option linter.unusedVariables false
set_option maxRecDepth 100000
open Go.RowKit
theorem body_short {l:List I5} {ch:Int} (h:Plain.inB (l.length:Int) 1 24=false):bodyB l ch=false:=by
 have:decide (1≤l.length∧l.length≤24)=false:=by
  rw [decide_eq_false_iff_not]
  simp [Plain.inB] at h
  omega
 unfold bodyB
 rw [this]
 simp
theorem body_chans {l:List I5} {ch:Int} (h:Plain.inB ch 0 3=false):bodyB l ch=false:=by
 have:Plain.chansB ch=false:=h
 unfold bodyB
 rw [this]
 simp
set_option maxRecDepth 100000 in
set_option maxHeartbeats 1000000 in
theorem specBody_some (g off c B : Nat) (l : List I5) (ch : Int) (w : World) (hg : g < B) (hc : ∀ i, i < l.length → At5 w g (off + i * 5) (l.getD i z5)) (hB : B ≤ w.heap.size) (hl : l.length ≤ 1048576) :
  Calls Tryz.prog 34 #[.slice (some ⟨g,off,none⟩) l.length c,.int .i64 ch] w fun e w'=>e=.returned (.bool (bodyB l ch))∧Below w.heap.size w w':=by
 have HC:Hid (∀ i,i < l.length→At5 w g (off+i * 5) (l.getD i z5)):=hc
 clear hc
 go_enter Tryz.func34,Tryz.ntmps34
 go_wp2
 go_loopw [6] (fun i wr=>∃ k:Nat,k≤l.length∧i=.int .i64 k∧Below w.heap.size w wr∧(∀ i,i < k→insX (l.getD i z5) l.length ch=true)) (fun i _=>l.length - (intOf i).toNat)
 case atStart=>exact ⟨0,Nat.zero_le _,rfl,Below.refl _ _,fun i hi=>absurd hi (Nat.not_lt_zero _)⟩
 case round=>
  obtain ⟨k,hk,rfl,hb,hd⟩:=hrel
  have HB:Hid (Below w.heap.size w wr):=hb
  have HD:Hid (∀ i,i < k→insX (l.getD i z5) l.length ch=true):=hd
  clear hb hd
  by_cases hlt:k < l.length
  ·obtain ⟨f0,f1,f2,f3,f4⟩:=(HC.out k hlt).keep HB.out (by omega)
   cases hv:insX (l.getD k z5) l.length ch
   ·have F:Hid (bodyB l ch=false):=body_no hlt hv
    generalize l.getD k z5=x at f0 f1 f2 f3 f4 hv
    obtain ⟨xo,xr,xa,xb,xn⟩:=x
    have V:Hid (Plain.insB xo xr xa xb xn l.length ch=false):=hv
    clear hv
    have b0:(0:Int)≤(k:Int):=by omega
    have b1:(k:Int) < (l.length:Int):=by omega
    go_wp2_with fail
    refine (specInsOk_any _ _ _ _ _ _ _ _).mono ?_
    rintro e w1 ⟨rfl,hb1⟩
    rw [V.out]
    have hs1:=HB.out.size
    go_wp2
    go_ret
    exact ⟨by rw [F.out];rfl,HB.out.trans (hb1.mono hs1)⟩
   ·have HV:Hid (insX (l.getD k z5) l.length ch=true):=hv
    generalize l.getD k z5=x at f0 f1 f2 f3 f4 hv
    obtain ⟨xo,xr,xa,xb,xn⟩:=x
    have V:Hid (Plain.insB xo xr xa xb xn l.length ch=true):=hv
    clear hv
    have b0:(0:Int)≤(k:Int):=by omega
    have b1:(k:Int) < (l.length:Int):=by omega
    go_wp2_with fail
    refine (specInsOk_any _ _ _ _ _ _ _ _).mono ?_
    rintro e w1 ⟨rfl,hb1⟩
    rw [V.out]
    have hs1:=HB.out.size
    have HB1:Hid (Below wr.heap.size wr w1):=hb1
    clear hb1
    go_wp2
    go_roundw
    case rel=>
     refine ⟨k+1,by omega,by go_num,HB.out.trans (HB1.out.mono hs1),?_⟩
     intro i hi
     by_cases e:i=k
     ·subst e;exact HV.out
     ·exact HD.out i (by omega)
    case measure=>simp [intOf];omega
  ·have:k=l.length:=by omega
   subst this
   cases h1:Plain.inB (l.length:Int) 1 24
   ·have F:Hid (bodyB l ch=false):=body_short h1
    go_wp2_with (go_at_call 13;refine (l1In_any _ _ _ _).mono ?_;rintro e w' ⟨rfl,rfl⟩)
    go_ret
    exact ⟨by rw [F.out];rfl,HB.out⟩
   ·cases h2:Plain.inB ch 0 3
    ·have F:Hid (bodyB l ch=false):=body_chans h2
     go_wp2_with (go_at_call 13;refine (l1In_any _ _ _ _).mono ?_;rintro e w' ⟨rfl,rfl⟩)
     go_ret
     exact ⟨by rw [F.out];rfl,HB.out⟩
    ·have hlen:1≤l.length∧l.length≤24:=by simp [Plain.inB] at h1;omega
     have F:Hid (bodyB l ch=lastB l):=by
      show _=_
      rw [body_all HD.out,decide_eq_true hlen,(show Plain.chansB ch=true from h2)]
      simp
     obtain ⟨f0,-⟩:=(HC.out (l.length - 1) (by omega)).keep HB.out (by omega)
     generalize hx:(l.getD (l.length - 1) z5).o=x at f0
     have FX:Hid (lastB l=decide (x=13∨x=11)):=by show _=_;unfold lastB;rw [hx]
     clear hx
     have b0:(1:Int)≤(l.length:Int):=by omega
     have b1:(l.length:Int) - 1 < (l.length:Int):=by omega
     go_wp2_with (go_at_call 13;refine (l1In_any _ _ _ _).mono ?_;rintro e w' ⟨rfl,rfl⟩)
     all_goals
      go_ret
      refine ⟨ret_bool ?_,HB.out⟩
      rw [F.out,FX.out,Bool.eq_iff_iff]
      simp [*]
theorem specBody_any (s : Option Addr) (c B : Nat) (l : List I5) (ch : Int) (w : World) (h : InsB w B s l) (hB : B ≤ w.heap.size) (hl : l.length ≤ 1048576) :
  Calls Tryz.prog 34 #[.slice s l.length c,.int .i64 ch] w fun e w'=>e=.returned (.bool (bodyB l ch))∧Below w.heap.size w w':=by
 rcases h with rfl | ⟨g,off,rfl,hg,hc⟩
 ·have h1:Plain.inB ((0:Nat):Int) 1 24=false:=by decide
  have h2:Plain.inB 0 1 24=false:=by decide
  have F:Hid (bodyB [] ch=false):=body_short (l:=[]) h1
  clear h1
  go_enter Tryz.func34,Tryz.ntmps34
  go_wp2
  go_loop [6] (fun i=>i=.int .i64 0) (fun _=>0)
  case atStart=>rfl
  case round=>
   subst hrel
   go_wp2_with (go_at_call 13;refine (l1In_any _ _ _ _).mono ?_;rintro e w' ⟨rfl,rfl⟩)
   go_ret
   exact ⟨by rw [F.out];rfl,Below.refl _ _⟩
 ·exact specBody_some g off c B l ch w hg hc hB hl
end
section
set_option linter.unusedSimpArgs false
set_option linter.unusedVariables false
set_option maxRecDepth 100000
open Go.RowKit
theorem endsBody_any (o r a b n:Int) (w:World):Calls Tryz.prog 52 #[.agg #[.int .i64 o,.int .i64 r,.int .i64 a,.int .i64 b,.int .i64 n]] w fun e w'=>e=.returned (.bool (decide (o=13∨o=11)))∧Below w.heap.size w w':=by
 by_cases h1:o=13
 ·subst h1
  go_enter Tryz.func52,Tryz.ntmps52
  go_wp2
  go_ret
  exact ⟨rfl,(Below.refl _ _).alloc (Nat.le_refl _) _⟩
 ·have h2:(o==13)=false:=by simp [h1]
  go_enter Tryz.func52,Tryz.ntmps52
  go_wp2
  go_ret
  exact ⟨ret_bool (by rw [Bool.eq_iff_iff];simp [h1]),(Below.refl _ _).alloc (Nat.le_refl _) _⟩
set_option maxRecDepth 100000 in
set_option maxHeartbeats 1000000 in
theorem implBody_some (g off c B : Nat) (l : List I5) (ch : Int) (w : World) (hg : g < B) (hc : ∀ i, i < l.length → At5 w g (off + i * 5) (l.getD i z5)) (hB : B ≤ w.heap.size) (h1 : Plain.chansB ch = true) (hl1 : 1 ≤ l.length) (hl : l.length ≤ 24) :
  Calls Tryz.prog 38 #[.slice (some ⟨g,off,none⟩) l.length c,.int .i64 ch] w fun e w'=>e=.returned (.bool (bodyB l ch))∧Below w.heap.size w w':=by
 have HC:Hid (∀ i,i < l.length→At5 w g (off+i * 5) (l.getD i z5)):=hc
 clear hc
 have q1:¬ (l.length:Int) < 1:=by omega
 have q2:¬ 24 < (l.length:Int):=by omega
 go_enter Tryz.func38,Tryz.ntmps38
 go_wp2_with (go_at_call 49;refine (areChans_is _ true _ h1).mono ?_;rintro e w' ⟨rfl,hw⟩;have hw':=hw.symm;clear hw;subst hw')
 go_loopw [22] (fun i wr=>∃ k:Nat,k≤l.length∧i=.int .i64 k∧Below w.heap.size w wr∧(∀ i,i < k→insX (l.getD i z5) l.length ch=true)) (fun i _=>l.length - (intOf i).toNat)
 case atStart=>exact ⟨0,Nat.zero_le _,rfl,Below.refl _ _,fun i hi=>absurd hi (Nat.not_lt_zero _)⟩
 case round=>
  obtain ⟨k,hk,rfl,hb,hd⟩:=hrel
  have HB:Hid (Below w.heap.size w wr):=hb
  have HD:Hid (∀ i,i < k→insX (l.getD i z5) l.length ch=true):=hd
  clear hb hd
  by_cases hlt:k < l.length
  ·obtain ⟨f0,f1,f2,f3,f4⟩:=(HC.out k hlt).keep HB.out (by omega)
   cases hv:insX (l.getD k z5) l.length ch
   ·have F:Hid (bodyB l ch=false):=body_no hlt hv
    generalize l.getD k z5=x at f0 f1 f2 f3 f4 hv
    obtain ⟨xo,xr,xa,xb,xn⟩:=x
    have V:Hid (Plain.insB xo xr xa xb xn l.length ch=false):=hv
    clear hv
    have b0:(0:Int)≤(k:Int):=by omega
    have b1:(k:Int) < (l.length:Int):=by omega
    go_wp2_with fail
    refine (insOk_any _ _ _ _ _ _ _ _).mono ?_
    rintro e w1 ⟨rfl,hb1⟩
    rw [V.out]
    have hs1:=HB.out.size
    go_wp2
    go_ret
    exact ⟨by rw [F.out];rfl,(HB.out.alloc hs1 _).trans (hb1.mono (by simp;omega))⟩
   ·have HV:Hid (insX (l.getD k z5) l.length ch=true):=hv
    generalize l.getD k z5=x at f0 f1 f2 f3 f4 hv
    obtain ⟨xo,xr,xa,xb,xn⟩:=x
    have V:Hid (Plain.insB xo xr xa xb xn l.length ch=true):=hv
    clear hv
    have b0:(0:Int)≤(k:Int):=by omega
    have b1:(k:Int) < (l.length:Int):=by omega
    go_wp2_with fail
    refine (insOk_any _ _ _ _ _ _ _ _).mono ?_
    rintro e w1 ⟨rfl,hb1⟩
    rw [V.out]
    have hs1:=HB.out.size
    have HB1:Hid (Below w.heap.size w w1):=(HB.out.alloc hs1 _).trans (hb1.mono (by simp;omega))
    clear hb1
    go_wp2
    go_roundw
    case rel=>
     refine ⟨k+1,by omega,by go_num,HB1.out,?_⟩
     intro i hi
     by_cases e:i=k
     ·subst e;exact HV.out
     ·exact HD.out i (by omega)
    case measure=>simp [intOf];omega
  ·have:k=l.length:=by omega
   subst this
   have F:Hid (bodyB l ch=lastB l):=by
    show _=_
    rw [body_all HD.out,decide_eq_true ⟨hl1,hl⟩,h1]
    simp
   obtain ⟨f0,f1,f2,f3,f4⟩:=(HC.out (l.length - 1) (by omega)).keep HB.out (by omega)
   generalize hx:l.getD (l.length - 1) z5=x at f0 f1 f2 f3 f4
   have FX:Hid (lastB l=decide (x.o=13∨x.o=11)):=by show _=_;unfold lastB;rw [hx]
   clear hx
   obtain ⟨xo,xr,xa,xb,xn⟩:=x
   have b0:(1:Int)≤(l.length:Int):=by omega
   have b1:(l.length:Int) - 1 < (l.length:Int):=by omega
   go_wp2_with fail
   refine (endsBody_any _ _ _ _ _ _).mono ?_
   rintro e w1 ⟨rfl,hb1⟩
   have hs1:=HB.out.size
   go_wp2
   go_ret
   exact ⟨ret_bool (by rw [F.out,FX.out];simp),HB.out.trans (hb1.mono hs1)⟩
set_option maxRecDepth 100000 in
theorem implBody_bad (s : Option Addr) (n c : Nat) (ch : Int) (w : World) (hn : n ≤ 1048576) (h : Plain.chansB ch = false ∨ n < 1 ∨ 24 < n) :
  Calls Tryz.prog 38 #[.slice s n c,.int .i64 ch] w fun e w'=>e=.returned (.bool false)∧w'=w:=by
 cases h1:Plain.chansB ch
 ·go_enter Tryz.func38,Tryz.ntmps38
  go_wp2_with (go_at_call 49;refine (areChans_is _ false _ h1).mono ?_;rintro e w' ⟨rfl,rfl⟩)
  go_ret
  exact ⟨rfl,rfl⟩
 ·have h':n < 1∨24 < n:=by
   rcases h with h | h
   ·rw [h1] at h;cases h
   ·exact h
  clear h
  by_cases h2:n < 1
  ·have q1:(n:Int) < 1:=by omega
   clear h' h2
   go_enter Tryz.func38,Tryz.ntmps38
   go_wp2_with (go_at_call 49;refine (areChans_is _ true _ h1).mono ?_;rintro e w' ⟨rfl,rfl⟩)
   go_ret
   exact ⟨rfl,rfl⟩
  ·have q1:¬ (n:Int) < 1:=by omega
   have q2:24 < (n:Int):=by omega
   clear h' h2
   go_enter Tryz.func38,Tryz.ntmps38
   go_wp2_with (go_at_call 49;refine (areChans_is _ true _ h1).mono ?_;rintro e w' ⟨rfl,rfl⟩)
   go_ret
   exact ⟨rfl,rfl⟩
theorem implBody_any (s : Option Addr) (c B : Nat) (l : List I5) (ch : Int) (w : World) (h : InsB w B s l) (hB : B ≤ w.heap.size) (hl : l.length ≤ 1048576) :
  Calls Tryz.prog 38 #[.slice s l.length c,.int .i64 ch] w fun e w'=>e=.returned (.bool (bodyB l ch))∧Below w.heap.size w w':=by
 by_cases hd:Plain.chansB ch=true∧1≤l.length∧l.length≤24
 ·obtain ⟨h1,h2,h3⟩:=hd
  rcases h with rfl | ⟨g,off,rfl,hg,hc⟩
  ·simp at h2
  ·exact implBody_some g off c B l ch w hg hc hB h1 h2 h3
 ·have hd':Plain.chansB ch=false∨l.length < 1∨24 < l.length:=by
   cases hq:Plain.chansB ch
   ·exact .inl rfl
   ·right
    have:¬ (1≤l.length∧l.length≤24):=fun hh=>hd ⟨hq,hh⟩
    omega
  have F:bodyB l ch=false:=by
   rcases hd' with h | h
   ·exact body_chans h
   ·refine body_short ?_
    simp [Plain.inB]
    omega
  rw [F]
  refine (implBody_bad s l.length c ch w hl hd').mono ?_
  rintro e w' ⟨rfl,rfl⟩
  exact ⟨rfl,Below.refl _ _⟩
end
end Go.Proofs.YtkhjhibigldcgaaGreat
