/- StepOk of the specification (package spec), at every step and every count of places, in every world: it returns what the plain law says; it makes memory, and turns none. No condition. -/
import Derived.Test.YtkhjhibigldcgaaLG00
import Derived.Test.YtkhjhibigldcgaaLSpecIns
import Derived.Test.YtkhjhibigldcgaaLG05
namespace Go.Proofs.Ytkhjhibigldcgaa
set_option linter.unusedSimpArgs false
set_option linter.unusedVariables false
set_option maxRecDepth 100000
open Go.RowKit
theorem l7Reg_any (x:Int) (w:World):Calls Try.prog 90 #[.int .i64 x] w fun e w'=>e=.returned (.bool (Plain.inB x 0 7))∧w'=w:=by
 go_enter Try.func90,Try.ntmps90
 go_wp2_with (go_at_call 21;refine (l1In_any _ _ _ _).mono ?_;rintro e w' ⟨rfl,rfl⟩)
 go_ret
 exact ⟨rfl,rfl⟩
theorem l7Reg_is (x:Int) (v:Bool) (w:World) (h:Plain.inB x 0 7=v):Calls Try.prog 90 #[.int .i64 x] w fun e w'=>e=.returned (.bool v)∧w'=w:=by
 subst h
 exact l7Reg_any x w
theorem l1In_is (x lo hi:Int) (v:Bool) (w:World) (h:Plain.inB x lo hi=v):Calls Try.prog 21 #[.int .i64 x,.int .i64 lo,.int .i64 hi] w fun e w'=>e=.returned (.bool v)∧w'=w:=by
 subst h
 exact l1In_any x lo hi w
set_option maxRecDepth 100000 in
set_option maxHeartbeats 1000000 in
theorem specBadR_x (op r a b n pl:Int) (w:World) (o5:(op==5)=false) (o6:(op==6)=false) (o7:(op==7)=false) (h1:Plain.inB r 0 7=false):Calls Try.prog 84 #[.agg #[.int .i64 op,.int .i64 r,.int .i64 a,.int .i64 b,.int .i64 n],.int .i64 pl] w fun e w'=>e=.returned (.bool false)∧Below w.heap.size w w':=by
 go_enter Try.func84,Try.ntmps84
 go_wp2_with (go_at_call 90;(first | refine (l7Reg_is _ _ _ h1).mono ?_);rintro e w' ⟨rfl,rfl⟩)
 all_goals go_ret
 all_goals exact ⟨rfl,(Below.refl _ _).alloc (Nat.le_refl _) _⟩
set_option maxRecDepth 100000 in
set_option maxHeartbeats 1000000 in
theorem specBadB_x (op r a b n pl:Int) (w:World) (o5:(op==5)=false) (o6:(op==6)=false) (o7:(op==7)=false) (h1:Plain.inB r 0 7=true) (h2:Plain.inB b 0 7=false):Calls Try.prog 84 #[.agg #[.int .i64 op,.int .i64 r,.int .i64 a,.int .i64 b,.int .i64 n],.int .i64 pl] w fun e w'=>e=.returned (.bool false)∧Below w.heap.size w w':=by
 go_enter Try.func84,Try.ntmps84
 go_wp2_with (go_at_call 90;(first | refine (l7Reg_is _ _ _ h1).mono ?_ | refine (l7Reg_is _ _ _ h2).mono ?_);rintro e w' ⟨rfl,rfl⟩)
 all_goals go_ret
 all_goals exact ⟨rfl,(Below.refl _ _).alloc (Nat.le_refl _) _⟩
set_option maxRecDepth 100000 in
set_option maxHeartbeats 1000000 in
theorem specBadA_x (op r a b n pl:Int) (w:World) (o5:(op==5)=false) (o6:(op==6)=false) (o7:(op==7)=false) (h1:Plain.inB r 0 7=true) (h2:Plain.inB b 0 7=true) (h3:Plain.inB a 0 7=false):Calls Try.prog 84 #[.agg #[.int .i64 op,.int .i64 r,.int .i64 a,.int .i64 b,.int .i64 n],.int .i64 pl] w fun e w'=>e=.returned (.bool false)∧Below w.heap.size w w':=by
 go_enter Try.func84,Try.ntmps84
 go_wp2_with (go_at_call 90;(first | refine (l7Reg_is _ _ _ h1).mono ?_ | refine (l7Reg_is _ _ _ h2).mono ?_ | refine (l7Reg_is _ _ _ h3).mono ?_);rintro e w' ⟨rfl,rfl⟩)
 all_goals go_ret
 all_goals exact ⟨rfl,(Below.refl _ _).alloc (Nat.le_refl _) _⟩
set_option maxRecDepth 100000 in
set_option maxHeartbeats 1000000 in
theorem specBadR_5 (r a b n pl:Int) (w:World) (h1:Plain.inB r 0 7=false):Calls Try.prog 84 #[.agg #[.int .i64 5,.int .i64 r,.int .i64 a,.int .i64 b,.int .i64 n],.int .i64 pl] w fun e w'=>e=.returned (.bool false)∧Below w.heap.size w w':=by
 go_enter Try.func84,Try.ntmps84
 go_wp2_with (go_at_call 90;(first | refine (l7Reg_is _ _ _ h1).mono ?_);rintro e w' ⟨rfl,rfl⟩)
 all_goals go_ret
 all_goals exact ⟨rfl,(Below.refl _ _).alloc (Nat.le_refl _) _⟩
set_option maxRecDepth 100000 in
set_option maxHeartbeats 1000000 in
theorem specBadB_5 (r a b n pl:Int) (w:World) (h1:Plain.inB r 0 7=true) (h2:Plain.inB b 0 7=false):Calls Try.prog 84 #[.agg #[.int .i64 5,.int .i64 r,.int .i64 a,.int .i64 b,.int .i64 n],.int .i64 pl] w fun e w'=>e=.returned (.bool false)∧Below w.heap.size w w':=by
 go_enter Try.func84,Try.ntmps84
 go_wp2_with (go_at_call 90;(first | refine (l7Reg_is _ _ _ h1).mono ?_ | refine (l7Reg_is _ _ _ h2).mono ?_);rintro e w' ⟨rfl,rfl⟩)
 all_goals go_ret
 all_goals exact ⟨rfl,(Below.refl _ _).alloc (Nat.le_refl _) _⟩
set_option maxRecDepth 100000 in
set_option maxHeartbeats 1000000 in
theorem specBadA_5 (r a b n pl:Int) (w:World) (h1:Plain.inB r 0 7=true) (h2:Plain.inB b 0 7=true) (h3:Plain.inB a 0 7=false) (h4:(a != -1)=true):Calls Try.prog 84 #[.agg #[.int .i64 5,.int .i64 r,.int .i64 a,.int .i64 b,.int .i64 n],.int .i64 pl] w fun e w'=>e=.returned (.bool false)∧Below w.heap.size w w':=by
 go_enter Try.func84,Try.ntmps84
 go_wp2_with (go_at_call 90;(first | refine (l7Reg_is _ _ _ h1).mono ?_ | refine (l7Reg_is _ _ _ h2).mono ?_ | refine (l7Reg_is _ _ _ h3).mono ?_);rintro e w' ⟨rfl,rfl⟩)
 all_goals go_ret
 all_goals exact ⟨rfl,(Below.refl _ _).alloc (Nat.le_refl _) _⟩
set_option maxRecDepth 100000 in
set_option maxHeartbeats 1000000 in
theorem specBadR_6 (r a b n pl:Int) (w:World) (h1:Plain.inB r 0 7=false):Calls Try.prog 84 #[.agg #[.int .i64 6,.int .i64 r,.int .i64 a,.int .i64 b,.int .i64 n],.int .i64 pl] w fun e w'=>e=.returned (.bool false)∧Below w.heap.size w w':=by
 go_enter Try.func84,Try.ntmps84
 go_wp2_with (go_at_call 90;(first | refine (l7Reg_is _ _ _ h1).mono ?_);rintro e w' ⟨rfl,rfl⟩)
 all_goals go_ret
 all_goals exact ⟨rfl,(Below.refl _ _).alloc (Nat.le_refl _) _⟩
set_option maxRecDepth 100000 in
set_option maxHeartbeats 1000000 in
theorem specBadB_6 (r a b n pl:Int) (w:World) (h1:Plain.inB r 0 7=true) (h2:Plain.inB b 0 7=false):Calls Try.prog 84 #[.agg #[.int .i64 6,.int .i64 r,.int .i64 a,.int .i64 b,.int .i64 n],.int .i64 pl] w fun e w'=>e=.returned (.bool false)∧Below w.heap.size w w':=by
 go_enter Try.func84,Try.ntmps84
 go_wp2_with (go_at_call 90;(first | refine (l7Reg_is _ _ _ h1).mono ?_ | refine (l7Reg_is _ _ _ h2).mono ?_);rintro e w' ⟨rfl,rfl⟩)
 all_goals go_ret
 all_goals exact ⟨rfl,(Below.refl _ _).alloc (Nat.le_refl _) _⟩
set_option maxRecDepth 100000 in
set_option maxHeartbeats 1000000 in
theorem specBadA_6 (r a b n pl:Int) (w:World) (h1:Plain.inB r 0 7=true) (h2:Plain.inB b 0 7=true) (h3:Plain.inB a 0 7=false) (h4:(a != -1)=true):Calls Try.prog 84 #[.agg #[.int .i64 6,.int .i64 r,.int .i64 a,.int .i64 b,.int .i64 n],.int .i64 pl] w fun e w'=>e=.returned (.bool false)∧Below w.heap.size w w':=by
 go_enter Try.func84,Try.ntmps84
 go_wp2_with (go_at_call 90;(first | refine (l7Reg_is _ _ _ h1).mono ?_ | refine (l7Reg_is _ _ _ h2).mono ?_ | refine (l7Reg_is _ _ _ h3).mono ?_);rintro e w' ⟨rfl,rfl⟩)
 all_goals go_ret
 all_goals exact ⟨rfl,(Below.refl _ _).alloc (Nat.le_refl _) _⟩
set_option maxRecDepth 100000 in
set_option maxHeartbeats 1000000 in
theorem specBadR_7 (r a b n pl:Int) (w:World) (h1:Plain.inB r 0 7=false):Calls Try.prog 84 #[.agg #[.int .i64 7,.int .i64 r,.int .i64 a,.int .i64 b,.int .i64 n],.int .i64 pl] w fun e w'=>e=.returned (.bool false)∧Below w.heap.size w w':=by
 go_enter Try.func84,Try.ntmps84
 go_wp2_with (go_at_call 90;(first | refine (l7Reg_is _ _ _ h1).mono ?_);rintro e w' ⟨rfl,rfl⟩)
 all_goals go_ret
 all_goals exact ⟨rfl,(Below.refl _ _).alloc (Nat.le_refl _) _⟩
set_option maxRecDepth 100000 in
set_option maxHeartbeats 1000000 in
theorem specBadB_7 (r a b n pl:Int) (w:World) (h1:Plain.inB r 0 7=true) (h2:Plain.inB b 0 7=false):Calls Try.prog 84 #[.agg #[.int .i64 7,.int .i64 r,.int .i64 a,.int .i64 b,.int .i64 n],.int .i64 pl] w fun e w'=>e=.returned (.bool false)∧Below w.heap.size w w':=by
 go_enter Try.func84,Try.ntmps84
 go_wp2_with (go_at_call 90;(first | refine (l7Reg_is _ _ _ h1).mono ?_ | refine (l7Reg_is _ _ _ h2).mono ?_);rintro e w' ⟨rfl,rfl⟩)
 all_goals go_ret
 all_goals exact ⟨rfl,(Below.refl _ _).alloc (Nat.le_refl _) _⟩
set_option maxRecDepth 100000 in
set_option maxHeartbeats 1000000 in
theorem specBadA_7 (r a b n pl:Int) (w:World) (h1:Plain.inB r 0 7=true) (h2:Plain.inB b 0 7=true) (h3:Plain.inB a 0 7=false) (h4:(a != -1)=true):Calls Try.prog 84 #[.agg #[.int .i64 7,.int .i64 r,.int .i64 a,.int .i64 b,.int .i64 n],.int .i64 pl] w fun e w'=>e=.returned (.bool false)∧Below w.heap.size w w':=by
 go_enter Try.func84,Try.ntmps84
 go_wp2_with (go_at_call 90;(first | refine (l7Reg_is _ _ _ h1).mono ?_ | refine (l7Reg_is _ _ _ h2).mono ?_ | refine (l7Reg_is _ _ _ h3).mono ?_);rintro e w' ⟨rfl,rfl⟩)
 all_goals go_ret
 all_goals exact ⟨rfl,(Below.refl _ _).alloc (Nat.le_refl _) _⟩
end Go.Proofs.Ytkhjhibigldcgaa
