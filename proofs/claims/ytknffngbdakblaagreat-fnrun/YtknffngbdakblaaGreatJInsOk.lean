/- InsOk of the program, at every Ins, every count of places and of channels, in every world: it returns what the plain law says; it makes memory, and turns none. No condition. -/
import Derived.Test.YtknffngbdakblaaGreatJG00
import Derived.Test.YtknffngbdakblaaGreatJLeaves
import Derived.Test.YtknffngbdakblaaGreatJG01
import Derived.Test.YtknffngbdakblaaGreatJPlaces
import Derived.Test.YtknffngbdakblaaGreatJPlain2
import Derived.Test.YtknffngbdakblaaGreatJInsGen
namespace Go.Proofs.YtknffngbdakblaaGreat
set_option linter.unusedSimpArgs false
set_option linter.unusedVariables false
set_option maxRecDepth 100000
open Go.RowKit
theorem entr_1 (args:Array Value) (w:World):(callFunc 124 args).run Tryz.prog w=.ok (.enter 124 args) w:=by kernel_rfl
theorem entr_2 (args:Array Value) (w:World):(callFunc 125 args).run Tryz.prog w=.ok (.enter 125 args) w:=by kernel_rfl
theorem entr_3 (args:Array Value) (w:World):(callFunc 126 args).run Tryz.prog w=.ok (.enter 126 args) w:=by kernel_rfl
theorem entr_4 (args:Array Value) (w:World):(callFunc 127 args).run Tryz.prog w=.ok (.enter 127 args) w:=by kernel_rfl
theorem entr_5 (args:Array Value) (w:World):(callFunc 128 args).run Tryz.prog w=.ok (.enter 128 args) w:=by kernel_rfl
theorem entr_6 (args:Array Value) (w:World):(callFunc 129 args).run Tryz.prog w=.ok (.enter 129 args) w:=by kernel_rfl
theorem entr_7 (args:Array Value) (w:World):(callFunc 130 args).run Tryz.prog w=.ok (.enter 130 args) w:=by kernel_rfl
theorem entr_8 (args:Array Value) (w:World):(callFunc 131 args).run Tryz.prog w=.ok (.enter 131 args) w:=by kernel_rfl
theorem entr_9 (args:Array Value) (w:World):(callFunc 132 args).run Tryz.prog w=.ok (.enter 132 args) w:=by kernel_rfl
theorem entr_10 (args:Array Value) (w:World):(callFunc 133 args).run Tryz.prog w=.ok (.enter 133 args) w:=by kernel_rfl
theorem entr_11 (args:Array Value) (w:World):(callFunc 134 args).run Tryz.prog w=.ok (.enter 134 args) w:=by kernel_rfl
theorem entr_12 (args:Array Value) (w:World):(callFunc 135 args).run Tryz.prog w=.ok (.enter 135 args) w:=by kernel_rfl
theorem entr_13 (args:Array Value) (w:World):(callFunc 136 args).run Tryz.prog w=.ok (.enter 136 args) w:=by kernel_rfl
theorem insOk_1 (r a b n pl ch:Int) (w:World):Calls Tryz.prog 85 #[.agg #[.int .i64 1,.int .i64 r,.int .i64 a,.int .i64 b,.int .i64 n],.int .i64 pl,.int .i64 ch] w fun e w'=>e=.returned (.bool (Plain.insB 1 r a b n pl ch))∧Below w.heap.size w w':=by
 by_cases heq:a=0∧b=0
 ·obtain ⟨rfl,rfl⟩:=heq
  refine (insOk_same 1 r 0 0 n pl ch 132 (.agg #[.int .i64 r,.int .i64 n]) 124 (Plain.regB r&&Plain.numB n) w (fun w=>placeOf_1 r 0 0 n w) (fun w=>mth_1 _ w) entr_1 (fun w=>ins_1 r n w) (fun w=>placeOk_1 r n pl ch w)).mono ?_
  rintro e w' ⟨rfl,hb⟩
  exact ⟨by rw [Plain.insB_1];simp,hb⟩
 ·refine (insOk_other 1 r a b n r 0 0 n pl ch 132 (.agg #[.int .i64 r,.int .i64 n]) 124 w (fun h=>heq (by omega)) (fun w=>placeOf_1 r a b n w) (fun w=>mth_1 _ w) entr_1 (fun w=>ins_1 r n w)).mono ?_
  rintro e w' ⟨rfl,hb⟩
  exact ⟨by rw [Plain.insB_1,decide_eq_false heq];simp,hb⟩
theorem insOk_2 (r a b n pl ch:Int) (w:World):Calls Tryz.prog 85 #[.agg #[.int .i64 2,.int .i64 r,.int .i64 a,.int .i64 b,.int .i64 n],.int .i64 pl,.int .i64 ch] w fun e w'=>e=.returned (.bool (Plain.insB 2 r a b n pl ch))∧Below w.heap.size w w':=by
 by_cases heq:n=0
 ·subst heq
  refine (insOk_same 2 r a b 0 pl ch 134 (.agg #[.int .i64 r,.int .i64 a,.int .i64 b]) 125 (Plain.areB r a b) w (fun w=>placeOf_2 r a b 0 w) (fun w=>mth_2 _ w) entr_2 (fun w=>ins_2 r a b w) (fun w=>placeOk_2 r a b pl ch w)).mono ?_
  rintro e w' ⟨rfl,hb⟩
  exact ⟨by rw [Plain.insB_2];simp,hb⟩
 ·refine (insOk_other 2 r a b n r a b 0 pl ch 134 (.agg #[.int .i64 r,.int .i64 a,.int .i64 b]) 125 w (fun h=>heq (by omega)) (fun w=>placeOf_2 r a b n w) (fun w=>mth_2 _ w) entr_2 (fun w=>ins_2 r a b w)).mono ?_
  rintro e w' ⟨rfl,hb⟩
  exact ⟨by rw [Plain.insB_2,decide_eq_false heq];simp,hb⟩
theorem insOk_3 (r a b n pl ch:Int) (w:World):Calls Tryz.prog 85 #[.agg #[.int .i64 3,.int .i64 r,.int .i64 a,.int .i64 b,.int .i64 n],.int .i64 pl,.int .i64 ch] w fun e w'=>e=.returned (.bool (Plain.insB 3 r a b n pl ch))∧Below w.heap.size w w':=by
 by_cases heq:n=0
 ·subst heq
  refine (insOk_same 3 r a b 0 pl ch 135 (.agg #[.int .i64 r,.int .i64 a,.int .i64 b]) 126 (Plain.areB r a b) w (fun w=>placeOf_3 r a b 0 w) (fun w=>mth_3 _ w) entr_3 (fun w=>ins_3 r a b w) (fun w=>placeOk_3 r a b pl ch w)).mono ?_
  rintro e w' ⟨rfl,hb⟩
  exact ⟨by rw [Plain.insB_3];simp,hb⟩
 ·refine (insOk_other 3 r a b n r a b 0 pl ch 135 (.agg #[.int .i64 r,.int .i64 a,.int .i64 b]) 126 w (fun h=>heq (by omega)) (fun w=>placeOf_3 r a b n w) (fun w=>mth_3 _ w) entr_3 (fun w=>ins_3 r a b w)).mono ?_
  rintro e w' ⟨rfl,hb⟩
  exact ⟨by rw [Plain.insB_3,decide_eq_false heq];simp,hb⟩
theorem insOk_4 (r a b n pl ch:Int) (w:World):Calls Tryz.prog 85 #[.agg #[.int .i64 4,.int .i64 r,.int .i64 a,.int .i64 b,.int .i64 n],.int .i64 pl,.int .i64 ch] w fun e w'=>e=.returned (.bool (Plain.insB 4 r a b n pl ch))∧Below w.heap.size w w':=by
 by_cases heq:n=0
 ·subst heq
  refine (insOk_same 4 r a b 0 pl ch 136 (.agg #[.int .i64 r,.int .i64 a,.int .i64 b]) 127 (Plain.areB r a b) w (fun w=>placeOf_4 r a b 0 w) (fun w=>mth_4 _ w) entr_4 (fun w=>ins_4 r a b w) (fun w=>placeOk_4 r a b pl ch w)).mono ?_
  rintro e w' ⟨rfl,hb⟩
  exact ⟨by rw [Plain.insB_4];simp,hb⟩
 ·refine (insOk_other 4 r a b n r a b 0 pl ch 136 (.agg #[.int .i64 r,.int .i64 a,.int .i64 b]) 127 w (fun h=>heq (by omega)) (fun w=>placeOf_4 r a b n w) (fun w=>mth_4 _ w) entr_4 (fun w=>ins_4 r a b w)).mono ?_
  rintro e w' ⟨rfl,hb⟩
  exact ⟨by rw [Plain.insB_4,decide_eq_false heq];simp,hb⟩
theorem insOk_5 (r a b n pl ch:Int) (w:World):Calls Tryz.prog 85 #[.agg #[.int .i64 5,.int .i64 r,.int .i64 a,.int .i64 b,.int .i64 n],.int .i64 pl,.int .i64 ch] w fun e w'=>e=.returned (.bool (Plain.insB 5 r a b n pl ch))∧Below w.heap.size w w':=by
 by_cases heq:r=0∧b=0
 ·obtain ⟨rfl,rfl⟩:=heq
  refine (insOk_same 5 0 a 0 n pl ch 138 (.agg #[.int .i64 a,.int .i64 n]) 128 (Plain.regB a&&Plain.oneB n ch) w (fun w=>placeOf_5 0 a 0 n w) (fun w=>mth_5 _ w) entr_5 (fun w=>ins_5 a n w) (fun w=>placeOk_5 a n pl ch w)).mono ?_
  rintro e w' ⟨rfl,hb⟩
  exact ⟨by rw [Plain.insB_5];simp,hb⟩
 ·refine (insOk_other 5 r a b n 0 a 0 n pl ch 138 (.agg #[.int .i64 a,.int .i64 n]) 128 w (fun h=>heq (by omega)) (fun w=>placeOf_5 r a b n w) (fun w=>mth_5 _ w) entr_5 (fun w=>ins_5 a n w)).mono ?_
  rintro e w' ⟨rfl,hb⟩
  exact ⟨by rw [Plain.insB_5,decide_eq_false heq];simp,hb⟩
theorem insOk_6 (r a b n pl ch:Int) (w:World):Calls Tryz.prog 85 #[.agg #[.int .i64 6,.int .i64 r,.int .i64 a,.int .i64 b,.int .i64 n],.int .i64 pl,.int .i64 ch] w fun e w'=>e=.returned (.bool (Plain.insB 6 r a b n pl ch))∧Below w.heap.size w w':=by
 by_cases heq:a=0
 ·subst heq
  refine (insOk_same 6 r 0 b n pl ch 140 (.agg #[.int .i64 r,.int .i64 b,.int .i64 n]) 129 (Plain.takesB r b&&Plain.oneB n ch) w (fun w=>placeOf_6 r 0 b n w) (fun w=>mth_6 _ w) entr_6 (fun w=>ins_6 r b n w) (fun w=>placeOk_6 r b n pl ch w)).mono ?_
  rintro e w' ⟨rfl,hb⟩
  exact ⟨by rw [Plain.insB_6];simp,hb⟩
 ·refine (insOk_other 6 r a b n r 0 b n pl ch 140 (.agg #[.int .i64 r,.int .i64 b,.int .i64 n]) 129 w (fun h=>heq (by omega)) (fun w=>placeOf_6 r a b n w) (fun w=>mth_6 _ w) entr_6 (fun w=>ins_6 r b n w)).mono ?_
  rintro e w' ⟨rfl,hb⟩
  exact ⟨by rw [Plain.insB_6,decide_eq_false heq];simp,hb⟩
theorem insOk_7 (r a b n pl ch:Int) (w:World):Calls Tryz.prog 85 #[.agg #[.int .i64 7,.int .i64 r,.int .i64 a,.int .i64 b,.int .i64 n],.int .i64 pl,.int .i64 ch] w fun e w'=>e=.returned (.bool (Plain.insB 7 r a b n pl ch))∧Below w.heap.size w w':=by
 by_cases heq:b=0
 ·subst heq
  refine (insOk_same 7 r a 0 n pl ch 142 (.agg #[.int .i64 r,.int .i64 a,.int .i64 n]) 130 (Plain.regB r&&Plain.regB a&&Plain.oneB n ch) w (fun w=>placeOf_7 r a 0 n w) (fun w=>mth_7 _ w) entr_7 (fun w=>ins_7 r a n w) (fun w=>placeOk_7 r a n pl ch w)).mono ?_
  rintro e w' ⟨rfl,hb⟩
  exact ⟨by rw [Plain.insB_7];simp,hb⟩
 ·refine (insOk_other 7 r a b n r a 0 n pl ch 142 (.agg #[.int .i64 r,.int .i64 a,.int .i64 n]) 130 w (fun h=>heq (by omega)) (fun w=>placeOf_7 r a b n w) (fun w=>mth_7 _ w) entr_7 (fun w=>ins_7 r a n w)).mono ?_
  rintro e w' ⟨rfl,hb⟩
  exact ⟨by rw [Plain.insB_7,decide_eq_false heq];simp,hb⟩
theorem insOk_8 (r a b n pl ch:Int) (w:World):Calls Tryz.prog 85 #[.agg #[.int .i64 8,.int .i64 r,.int .i64 a,.int .i64 b,.int .i64 n],.int .i64 pl,.int .i64 ch] w fun e w'=>e=.returned (.bool (Plain.insB 8 r a b n pl ch))∧Below w.heap.size w w':=by
 by_cases heq:a=0
 ·subst heq
  refine (insOk_same 8 r 0 b n pl ch 143 (.agg #[.int .i64 r,.int .i64 b,.int .i64 n]) 131 (Plain.takesB r b&&Plain.oneB n ch) w (fun w=>placeOf_8 r 0 b n w) (fun w=>mth_8 _ w) entr_8 (fun w=>ins_8 r b n w) (fun w=>placeOk_8 r b n pl ch w)).mono ?_
  rintro e w' ⟨rfl,hb⟩
  exact ⟨by rw [Plain.insB_8];simp,hb⟩
 ·refine (insOk_other 8 r a b n r 0 b n pl ch 143 (.agg #[.int .i64 r,.int .i64 b,.int .i64 n]) 131 w (fun h=>heq (by omega)) (fun w=>placeOf_8 r a b n w) (fun w=>mth_8 _ w) entr_8 (fun w=>ins_8 r b n w)).mono ?_
  rintro e w' ⟨rfl,hb⟩
  exact ⟨by rw [Plain.insB_8,decide_eq_false heq];simp,hb⟩
theorem insOk_9 (r a b n pl ch:Int) (w:World):Calls Tryz.prog 85 #[.agg #[.int .i64 9,.int .i64 r,.int .i64 a,.int .i64 b,.int .i64 n],.int .i64 pl,.int .i64 ch] w fun e w'=>e=.returned (.bool (Plain.insB 9 r a b n pl ch))∧Below w.heap.size w w':=by
 by_cases heq:r=0∧a=0∧b=0
 ·obtain ⟨rfl,rfl,rfl⟩:=heq
  refine (insOk_same 9 0 0 0 n pl ch 145 (.agg #[.int .i64 n]) 132 (Plain.oneB n ch) w (fun w=>placeOf_9 0 0 0 n w) (fun w=>mth_9 _ w) entr_9 (fun w=>ins_9 n w) (fun w=>placeOk_9 n pl ch w)).mono ?_
  rintro e w' ⟨rfl,hb⟩
  exact ⟨by rw [Plain.insB_9];simp,hb⟩
 ·refine (insOk_other 9 r a b n 0 0 0 n pl ch 145 (.agg #[.int .i64 n]) 132 w (fun h=>heq (by omega)) (fun w=>placeOf_9 r a b n w) (fun w=>mth_9 _ w) entr_9 (fun w=>ins_9 n w)).mono ?_
  rintro e w' ⟨rfl,hb⟩
  exact ⟨by rw [Plain.insB_9,decide_eq_false heq];simp,hb⟩
theorem insOk_10 (r a b n pl ch:Int) (w:World):Calls Tryz.prog 85 #[.agg #[.int .i64 10,.int .i64 r,.int .i64 a,.int .i64 b,.int .i64 n],.int .i64 pl,.int .i64 ch] w fun e w'=>e=.returned (.bool (Plain.insB 10 r a b n pl ch))∧Below w.heap.size w w':=by
 by_cases heq:r=0∧b=0∧n=0
 ·obtain ⟨rfl,rfl,rfl⟩:=heq
  refine (insOk_same 10 0 a 0 0 pl ch 147 (.agg #[.int .i64 a]) 133 (Plain.regB a) w (fun w=>placeOf_10 0 a 0 0 w) (fun w=>mth_10 _ w) entr_10 (fun w=>ins_10 a w) (fun w=>placeOk_10 a pl ch w)).mono ?_
  rintro e w' ⟨rfl,hb⟩
  exact ⟨by rw [Plain.insB_10];simp,hb⟩
 ·refine (insOk_other 10 r a b n 0 a 0 0 pl ch 147 (.agg #[.int .i64 a]) 133 w (fun h=>heq (by omega)) (fun w=>placeOf_10 r a b n w) (fun w=>mth_10 _ w) entr_10 (fun w=>ins_10 a w)).mono ?_
  rintro e w' ⟨rfl,hb⟩
  exact ⟨by rw [Plain.insB_10,decide_eq_false heq];simp,hb⟩
theorem insOk_11 (r a b n pl ch:Int) (w:World):Calls Tryz.prog 85 #[.agg #[.int .i64 11,.int .i64 r,.int .i64 a,.int .i64 b,.int .i64 n],.int .i64 pl,.int .i64 ch] w fun e w'=>e=.returned (.bool (Plain.insB 11 r a b n pl ch))∧Below w.heap.size w w':=by
 by_cases heq:r=0∧a=0∧b=0
 ·obtain ⟨rfl,rfl,rfl⟩:=heq
  refine (insOk_same 11 0 0 0 n pl ch 148 (.agg #[.int .i64 n]) 134 (Plain.oneB n pl) w (fun w=>placeOf_11 0 0 0 n w) (fun w=>mth_11 _ w) entr_11 (fun w=>ins_11 n w) (fun w=>placeOk_11 n pl ch w)).mono ?_
  rintro e w' ⟨rfl,hb⟩
  exact ⟨by rw [Plain.insB_11];simp,hb⟩
 ·refine (insOk_other 11 r a b n 0 0 0 n pl ch 148 (.agg #[.int .i64 n]) 134 w (fun h=>heq (by omega)) (fun w=>placeOf_11 r a b n w) (fun w=>mth_11 _ w) entr_11 (fun w=>ins_11 n w)).mono ?_
  rintro e w' ⟨rfl,hb⟩
  exact ⟨by rw [Plain.insB_11,decide_eq_false heq];simp,hb⟩
theorem insOk_12 (r a b n pl ch:Int) (w:World):Calls Tryz.prog 85 #[.agg #[.int .i64 12,.int .i64 r,.int .i64 a,.int .i64 b,.int .i64 n],.int .i64 pl,.int .i64 ch] w fun e w'=>e=.returned (.bool (Plain.insB 12 r a b n pl ch))∧Below w.heap.size w w':=by
 by_cases heq:r=0∧b=0
 ·obtain ⟨rfl,rfl⟩:=heq
  refine (insOk_same 12 0 a 0 n pl ch 149 (.agg #[.int .i64 a,.int .i64 n]) 135 (Plain.regB a&&Plain.oneB n pl) w (fun w=>placeOf_12 0 a 0 n w) (fun w=>mth_12 _ w) entr_12 (fun w=>ins_12 a n w) (fun w=>placeOk_12 a n pl ch w)).mono ?_
  rintro e w' ⟨rfl,hb⟩
  exact ⟨by rw [Plain.insB_12];simp,hb⟩
 ·refine (insOk_other 12 r a b n 0 a 0 n pl ch 149 (.agg #[.int .i64 a,.int .i64 n]) 135 w (fun h=>heq (by omega)) (fun w=>placeOf_12 r a b n w) (fun w=>mth_12 _ w) entr_12 (fun w=>ins_12 a n w)).mono ?_
  rintro e w' ⟨rfl,hb⟩
  exact ⟨by rw [Plain.insB_12,decide_eq_false heq];simp,hb⟩
theorem insOk_13 (r a b n pl ch:Int) (w:World):Calls Tryz.prog 85 #[.agg #[.int .i64 13,.int .i64 r,.int .i64 a,.int .i64 b,.int .i64 n],.int .i64 pl,.int .i64 ch] w fun e w'=>e=.returned (.bool (Plain.insB 13 r a b n pl ch))∧Below w.heap.size w w':=by
 by_cases heq:r=0∧a=0∧b=0∧n=0
 ·obtain ⟨rfl,rfl,rfl,rfl⟩:=heq
  refine (insOk_same 13 0 0 0 0 pl ch 151 (.agg #[]) 136 (true) w (fun w=>placeOf_13 0 0 0 0 w) (fun w=>mth_13 _ w) entr_13 (fun w=>ins_13 w) (fun w=>placeOk_13 pl ch w)).mono ?_
  rintro e w' ⟨rfl,hb⟩
  exact ⟨by rw [Plain.insB_13];simp,hb⟩
 ·refine (insOk_other 13 r a b n 0 0 0 0 pl ch 151 (.agg #[]) 136 w (fun h=>heq (by omega)) (fun w=>placeOf_13 r a b n w) (fun w=>mth_13 _ w) entr_13 (fun w=>ins_13 w)).mono ?_
  rintro e w' ⟨rfl,hb⟩
  exact ⟨by rw [Plain.insB_13,decide_eq_false heq];simp,hb⟩
theorem insOk_any (op r a b n pl ch:Int) (w:World):Calls Tryz.prog 85 #[.agg #[.int .i64 op,.int .i64 r,.int .i64 a,.int .i64 b,.int .i64 n],.int .i64 pl,.int .i64 ch] w fun e w'=>e=.returned (.bool (Plain.insB op r a b n pl ch))∧Below w.heap.size w w':=by
 by_cases e1:op=1
 ·subst e1;exact insOk_1 r a b n pl ch w
 by_cases e2:op=2
 ·subst e2;exact insOk_2 r a b n pl ch w
 by_cases e3:op=3
 ·subst e3;exact insOk_3 r a b n pl ch w
 by_cases e4:op=4
 ·subst e4;exact insOk_4 r a b n pl ch w
 by_cases e5:op=5
 ·subst e5;exact insOk_5 r a b n pl ch w
 by_cases e6:op=6
 ·subst e6;exact insOk_6 r a b n pl ch w
 by_cases e7:op=7
 ·subst e7;exact insOk_7 r a b n pl ch w
 by_cases e8:op=8
 ·subst e8;exact insOk_8 r a b n pl ch w
 by_cases e9:op=9
 ·subst e9;exact insOk_9 r a b n pl ch w
 by_cases e10:op=10
 ·subst e10;exact insOk_10 r a b n pl ch w
 by_cases e11:op=11
 ·subst e11;exact insOk_11 r a b n pl ch w
 by_cases e12:op=12
 ·subst e12;exact insOk_12 r a b n pl ch w
 by_cases e13:op=13
 ·subst e13;exact insOk_13 r a b n pl ch w
 have h1:(op==1)=false:=by simpa using e1
 have h2:(op==2)=false:=by simpa using e2
 have h3:(op==3)=false:=by simpa using e3
 have h4:(op==4)=false:=by simpa using e4
 have h5:(op==5)=false:=by simpa using e5
 have h6:(op==6)=false:=by simpa using e6
 have h7:(op==7)=false:=by simpa using e7
 have h8:(op==8)=false:=by simpa using e8
 have h9:(op==9)=false:=by simpa using e9
 have h10:(op==10)=false:=by simpa using e10
 have h11:(op==11)=false:=by simpa using e11
 have h12:(op==12)=false:=by simpa using e12
 have h13:(op==13)=false:=by simpa using e13
 refine (insOk_nil op r a b n pl ch w (fun w=>placeOf_0 op r a b n w h1 h2 h3 h4 h5 h6 h7 h8 h9 h10 h11 h12 h13)).mono ?_
 rintro e w' ⟨rfl,hb⟩
 exact ⟨by rw [Plain.insB_0 op r a b n pl ch h1 h2 h3 h4 h5 h6 h7 h8 h9 h10 h11 h12 h13],hb⟩
end Go.Proofs.YtknffngbdakblaaGreat
