/- The leaves of chapter 7: what each small function of the program answers, for every argument, in every world; which step has what its op names alone. No condition. -/
import Derived.Test.YtlbeploopclegaaGreatQG00
import Derived.Test.YtlbeploopclegaaGreatChecked
import Derived.WalkKit
import Derived.KernelRfl
import Derived.WalkSpells
import Derived.WalkLawsBesides
namespace Go.Proofs.YtlbeploopclegaaGreat
set_option linter.unusedSimpArgs false
set_option linter.unusedVariables false
set_option maxRecDepth 100000
open Go.RowKit
theorem ret_bool {x y:Bool} (h:x=y):Ending.returned (.bool x)=Ending.returned (.bool y):=by rw [h]
theorem isNum_any (n:Int) (w:World):Calls Tryz.prog 149 #[.int .i64 n] w fun e w'=>e=.returned (.bool (Plain.numB n))∧w'=w:=by
 by_cases h0: -1000000000≤n<;>by_cases h1:n≤1000000000
 all_goals
  go_enter Tryz.func149,Tryz.ntmps149
  go_wp2
  go_ret
  exact ⟨by simp [Plain.numB];omega,rfl⟩
theorem isOneOf_any (n c:Int) (w:World):Calls Tryz.prog 31 #[.int .i64 n,.int .i64 c] w fun e w'=>e=.returned (.bool (Plain.oneB n c))∧w'=w:=by
 by_cases h0:0≤n<;>by_cases h1:n < c
 all_goals
  go_enter Tryz.func31,Tryz.ntmps31
  go_wp2
  go_ret
  exact ⟨by simp [Plain.oneB];omega,rfl⟩
theorem isOneOf_is (n c:Int) (v:Bool) (w:World) (h:Plain.oneB n c=v):Calls Tryz.prog 31 #[.int .i64 n,.int .i64 c] w fun e w'=>e=.returned (.bool v)∧w'=w:=by
 subst h
 exact isOneOf_any n c w
theorem isCoreReg_any (r:Int) (w:World):Calls Tryz.prog 147 #[.int .i64 r] w fun e w'=>e=.returned (.bool (Plain.oneB r 8))∧w'=w:=by
 go_enter Tryz.func147,Tryz.ntmps147
 go_wp2_with (go_at_call 31;refine (isOneOf_any _ _ _).mono ?_;rintro e w' ⟨rfl,rfl⟩)
 go_ret
 exact ⟨rfl,rfl⟩
theorem isCoreReg_is (r:Int) (v:Bool) (w:World) (h:Plain.oneB r 8=v):Calls Tryz.prog 147 #[.int .i64 r] w fun e w'=>e=.returned (.bool v)∧w'=w:=by
 subst h
 exact isCoreReg_any r w
theorem mayLackA_any (op:Int) (w:World):Calls Tryz.prog 148 #[.int .i64 op] w fun e w'=>e=.returned (.bool (Plain.memB op))∧w'=w:=by
 by_cases h0:op=5
 ·subst h0
  go_enter Tryz.func148,Tryz.ntmps148
  go_wp2
  go_ret
  exact ⟨rfl,rfl⟩
 by_cases h1:op=6
 ·subst h1
  go_enter Tryz.func148,Tryz.ntmps148
  go_wp2
  go_ret
  exact ⟨rfl,rfl⟩
 go_enter Tryz.func148,Tryz.ntmps148
 go_wp2
 go_ret
 exact ⟨ret_bool (by rw [Bool.eq_iff_iff];simp [Plain.memB,h0,h1]),rfl⟩
theorem mayLackA_is (op:Int) (v:Bool) (w:World) (h:Plain.memB op=v):Calls Tryz.prog 148 #[.int .i64 op] w fun e w'=>e=.returned (.bool v)∧w'=w:=by
 subst h
 exact mayLackA_any op w
set_option maxRecDepth 100000 in
set_option maxHeartbeats 1000000 in
theorem regs_any (op r a b n:Int) (w:World):Calls Tryz.prog 132 #[.agg #[.int .i64 op,.int .i64 r,.int .i64 a,.int .i64 b,.int .i64 n]] w fun e w'=>e=.returned (.bool (Plain.regsB op r a b))∧Below w.heap.size w w':=by
 cases ha:Plain.oneB a 8
 ·by_cases hn:a=-1
  ·subst hn
   cases hm:Plain.memB op
   ·go_enter Tryz.func132,Tryz.ntmps132
    go_wp2_with (first | (go_at_call 147;(first | refine (isCoreReg_is _ _ _ ha).mono ?_ | refine (isCoreReg_is _ _ _ hr).mono ?_ | refine (isCoreReg_any _ _).mono ?_);rintro e w' ⟨rfl,rfl⟩) | (go_at_call 148;refine (mayLackA_is _ _ _ hm).mono ?_;rintro e w' ⟨rfl,rfl⟩))
    go_ret
    exact ⟨ret_bool (by rw [Bool.eq_iff_iff];simp_all [Plain.regsB]),by first | exact (Below.refl _ _).alloc (Nat.le_refl _) _ | exact ((Below.refl _ _).alloc (Nat.le_refl _) _).alloc (by simp) _⟩
   cases hr:Plain.oneB r 8
   ·go_enter Tryz.func132,Tryz.ntmps132
    go_wp2_with (first | (go_at_call 147;(first | refine (isCoreReg_is _ _ _ ha).mono ?_ | refine (isCoreReg_is _ _ _ hr).mono ?_ | refine (isCoreReg_any _ _).mono ?_);rintro e w' ⟨rfl,rfl⟩) | (go_at_call 148;refine (mayLackA_is _ _ _ hm).mono ?_;rintro e w' ⟨rfl,rfl⟩))
    go_ret
    exact ⟨ret_bool (by rw [Bool.eq_iff_iff];simp_all [Plain.regsB]),by first | exact (Below.refl _ _).alloc (Nat.le_refl _) _ | exact ((Below.refl _ _).alloc (Nat.le_refl _) _).alloc (by simp) _⟩
   ·go_enter Tryz.func132,Tryz.ntmps132
    go_wp2_with (first | (go_at_call 147;(first | refine (isCoreReg_is _ _ _ ha).mono ?_ | refine (isCoreReg_is _ _ _ hr).mono ?_ | refine (isCoreReg_any _ _).mono ?_);rintro e w' ⟨rfl,rfl⟩) | (go_at_call 148;refine (mayLackA_is _ _ _ hm).mono ?_;rintro e w' ⟨rfl,rfl⟩))
    go_ret
    exact ⟨ret_bool (by rw [Bool.eq_iff_iff];simp_all [Plain.regsB]),by first | exact (Below.refl _ _).alloc (Nat.le_refl _) _ | exact ((Below.refl _ _).alloc (Nat.le_refl _) _).alloc (by simp) _⟩
  ·cases hm:Plain.memB op
   ·go_enter Tryz.func132,Tryz.ntmps132
    go_wp2_with (first | (go_at_call 147;(first | refine (isCoreReg_is _ _ _ ha).mono ?_ | refine (isCoreReg_is _ _ _ hr).mono ?_ | refine (isCoreReg_any _ _).mono ?_);rintro e w' ⟨rfl,rfl⟩) | (go_at_call 148;refine (mayLackA_is _ _ _ hm).mono ?_;rintro e w' ⟨rfl,rfl⟩))
    go_ret
    exact ⟨ret_bool (by rw [Bool.eq_iff_iff];simp_all [Plain.regsB]),by first | exact (Below.refl _ _).alloc (Nat.le_refl _) _ | exact ((Below.refl _ _).alloc (Nat.le_refl _) _).alloc (by simp) _⟩
   ·go_enter Tryz.func132,Tryz.ntmps132
    go_wp2_with (first | (go_at_call 147;(first | refine (isCoreReg_is _ _ _ ha).mono ?_ | refine (isCoreReg_is _ _ _ hr).mono ?_ | refine (isCoreReg_any _ _).mono ?_);rintro e w' ⟨rfl,rfl⟩) | (go_at_call 148;refine (mayLackA_is _ _ _ hm).mono ?_;rintro e w' ⟨rfl,rfl⟩))
    go_ret
    exact ⟨ret_bool (by rw [Bool.eq_iff_iff];simp_all [Plain.regsB]),by first | exact (Below.refl _ _).alloc (Nat.le_refl _) _ | exact ((Below.refl _ _).alloc (Nat.le_refl _) _).alloc (by simp) _⟩
 ·cases hm:Plain.memB op
  all_goals cases hr:Plain.oneB r 8
  all_goals
   go_enter Tryz.func132,Tryz.ntmps132
   go_wp2_with (first | (go_at_call 147;(first | refine (isCoreReg_is _ _ _ ha).mono ?_ | refine (isCoreReg_is _ _ _ hr).mono ?_ | refine (isCoreReg_any _ _).mono ?_);rintro e w' ⟨rfl,rfl⟩) | (go_at_call 148;refine (mayLackA_is _ _ _ hm).mono ?_;rintro e w' ⟨rfl,rfl⟩))
   go_ret
   exact ⟨ret_bool (by rw [Bool.eq_iff_iff];simp_all [Plain.regsB]),by first | exact (Below.refl _ _).alloc (Nat.le_refl _) _ | exact ((Below.refl _ _).alloc (Nat.le_refl _) _).alloc (by simp) _⟩
theorem num_1 (r a b n pl:Int) (w:World):Calls Tryz.prog 133 #[.agg #[.int .i64 1,.int .i64 r,.int .i64 a,.int .i64 b,.int .i64 n],.int .i64 pl] w fun e w'=>e=.returned (.bool (Plain.nB 1 n pl))∧Below w.heap.size w w':=by
 go_enter Tryz.func133,Tryz.ntmps133
 go_wp2_with (first | (go_at_call 149;refine (isNum_any _ _).mono ?_;rintro e w' ⟨rfl,rfl⟩) | (go_at_call 31;refine (isOneOf_any _ _ _).mono ?_;rintro e w' ⟨rfl,rfl⟩))
 go_ret
 exact ⟨rfl,(Below.refl _ _).alloc (Nat.le_refl _) _⟩
theorem num_2 (r a b n pl:Int) (w:World):Calls Tryz.prog 133 #[.agg #[.int .i64 2,.int .i64 r,.int .i64 a,.int .i64 b,.int .i64 n],.int .i64 pl] w fun e w'=>e=.returned (.bool (Plain.nB 2 n pl))∧Below w.heap.size w w':=by
 go_enter Tryz.func133,Tryz.ntmps133
 go_wp2_with (first | (go_at_call 149;refine (isNum_any _ _).mono ?_;rintro e w' ⟨rfl,rfl⟩) | (go_at_call 31;refine (isOneOf_any _ _ _).mono ?_;rintro e w' ⟨rfl,rfl⟩))
 go_ret
 exact ⟨rfl,(Below.refl _ _).alloc (Nat.le_refl _) _⟩
theorem num_3 (r a b n pl:Int) (w:World):Calls Tryz.prog 133 #[.agg #[.int .i64 3,.int .i64 r,.int .i64 a,.int .i64 b,.int .i64 n],.int .i64 pl] w fun e w'=>e=.returned (.bool (Plain.nB 3 n pl))∧Below w.heap.size w w':=by
 go_enter Tryz.func133,Tryz.ntmps133
 go_wp2_with (first | (go_at_call 149;refine (isNum_any _ _).mono ?_;rintro e w' ⟨rfl,rfl⟩) | (go_at_call 31;refine (isOneOf_any _ _ _).mono ?_;rintro e w' ⟨rfl,rfl⟩))
 go_ret
 exact ⟨rfl,(Below.refl _ _).alloc (Nat.le_refl _) _⟩
theorem num_4 (r a b n pl:Int) (w:World):Calls Tryz.prog 133 #[.agg #[.int .i64 4,.int .i64 r,.int .i64 a,.int .i64 b,.int .i64 n],.int .i64 pl] w fun e w'=>e=.returned (.bool (Plain.nB 4 n pl))∧Below w.heap.size w w':=by
 go_enter Tryz.func133,Tryz.ntmps133
 go_wp2_with (first | (go_at_call 149;refine (isNum_any _ _).mono ?_;rintro e w' ⟨rfl,rfl⟩) | (go_at_call 31;refine (isOneOf_any _ _ _).mono ?_;rintro e w' ⟨rfl,rfl⟩))
 go_ret
 exact ⟨rfl,(Below.refl _ _).alloc (Nat.le_refl _) _⟩
theorem num_5 (r a b n pl:Int) (w:World):Calls Tryz.prog 133 #[.agg #[.int .i64 5,.int .i64 r,.int .i64 a,.int .i64 b,.int .i64 n],.int .i64 pl] w fun e w'=>e=.returned (.bool (Plain.nB 5 n pl))∧Below w.heap.size w w':=by
 go_enter Tryz.func133,Tryz.ntmps133
 go_wp2_with (first | (go_at_call 149;refine (isNum_any _ _).mono ?_;rintro e w' ⟨rfl,rfl⟩) | (go_at_call 31;refine (isOneOf_any _ _ _).mono ?_;rintro e w' ⟨rfl,rfl⟩))
 go_ret
 exact ⟨rfl,(Below.refl _ _).alloc (Nat.le_refl _) _⟩
theorem num_6 (r a b n pl:Int) (w:World):Calls Tryz.prog 133 #[.agg #[.int .i64 6,.int .i64 r,.int .i64 a,.int .i64 b,.int .i64 n],.int .i64 pl] w fun e w'=>e=.returned (.bool (Plain.nB 6 n pl))∧Below w.heap.size w w':=by
 go_enter Tryz.func133,Tryz.ntmps133
 go_wp2_with (first | (go_at_call 149;refine (isNum_any _ _).mono ?_;rintro e w' ⟨rfl,rfl⟩) | (go_at_call 31;refine (isOneOf_any _ _ _).mono ?_;rintro e w' ⟨rfl,rfl⟩))
 go_ret
 exact ⟨rfl,(Below.refl _ _).alloc (Nat.le_refl _) _⟩
theorem num_7 (r a b n pl:Int) (w:World):Calls Tryz.prog 133 #[.agg #[.int .i64 7,.int .i64 r,.int .i64 a,.int .i64 b,.int .i64 n],.int .i64 pl] w fun e w'=>e=.returned (.bool (Plain.nB 7 n pl))∧Below w.heap.size w w':=by
 go_enter Tryz.func133,Tryz.ntmps133
 go_wp2_with (first | (go_at_call 149;refine (isNum_any _ _).mono ?_;rintro e w' ⟨rfl,rfl⟩) | (go_at_call 31;refine (isOneOf_any _ _ _).mono ?_;rintro e w' ⟨rfl,rfl⟩))
 go_ret
 exact ⟨rfl,(Below.refl _ _).alloc (Nat.le_refl _) _⟩
theorem num_8 (r a b n pl:Int) (w:World):Calls Tryz.prog 133 #[.agg #[.int .i64 8,.int .i64 r,.int .i64 a,.int .i64 b,.int .i64 n],.int .i64 pl] w fun e w'=>e=.returned (.bool (Plain.nB 8 n pl))∧Below w.heap.size w w':=by
 go_enter Tryz.func133,Tryz.ntmps133
 go_wp2_with (first | (go_at_call 149;refine (isNum_any _ _).mono ?_;rintro e w' ⟨rfl,rfl⟩) | (go_at_call 31;refine (isOneOf_any _ _ _).mono ?_;rintro e w' ⟨rfl,rfl⟩))
 go_ret
 exact ⟨rfl,(Below.refl _ _).alloc (Nat.le_refl _) _⟩
theorem num_9 (r a b n pl:Int) (w:World):Calls Tryz.prog 133 #[.agg #[.int .i64 9,.int .i64 r,.int .i64 a,.int .i64 b,.int .i64 n],.int .i64 pl] w fun e w'=>e=.returned (.bool (Plain.nB 9 n pl))∧Below w.heap.size w w':=by
 go_enter Tryz.func133,Tryz.ntmps133
 go_wp2_with (first | (go_at_call 149;refine (isNum_any _ _).mono ?_;rintro e w' ⟨rfl,rfl⟩) | (go_at_call 31;refine (isOneOf_any _ _ _).mono ?_;rintro e w' ⟨rfl,rfl⟩))
 go_ret
 exact ⟨rfl,(Below.refl _ _).alloc (Nat.le_refl _) _⟩
theorem num_10 (r a b n pl:Int) (w:World):Calls Tryz.prog 133 #[.agg #[.int .i64 10,.int .i64 r,.int .i64 a,.int .i64 b,.int .i64 n],.int .i64 pl] w fun e w'=>e=.returned (.bool (Plain.nB 10 n pl))∧Below w.heap.size w w':=by
 go_enter Tryz.func133,Tryz.ntmps133
 go_wp2_with (first | (go_at_call 149;refine (isNum_any _ _).mono ?_;rintro e w' ⟨rfl,rfl⟩) | (go_at_call 31;refine (isOneOf_any _ _ _).mono ?_;rintro e w' ⟨rfl,rfl⟩))
 go_ret
 exact ⟨rfl,(Below.refl _ _).alloc (Nat.le_refl _) _⟩
theorem num_11 (r a b n pl:Int) (w:World):Calls Tryz.prog 133 #[.agg #[.int .i64 11,.int .i64 r,.int .i64 a,.int .i64 b,.int .i64 n],.int .i64 pl] w fun e w'=>e=.returned (.bool (Plain.nB 11 n pl))∧Below w.heap.size w w':=by
 go_enter Tryz.func133,Tryz.ntmps133
 go_wp2_with (first | (go_at_call 149;refine (isNum_any _ _).mono ?_;rintro e w' ⟨rfl,rfl⟩) | (go_at_call 31;refine (isOneOf_any _ _ _).mono ?_;rintro e w' ⟨rfl,rfl⟩))
 go_ret
 exact ⟨rfl,(Below.refl _ _).alloc (Nat.le_refl _) _⟩
theorem num_12 (r a b n pl:Int) (w:World):Calls Tryz.prog 133 #[.agg #[.int .i64 12,.int .i64 r,.int .i64 a,.int .i64 b,.int .i64 n],.int .i64 pl] w fun e w'=>e=.returned (.bool (Plain.nB 12 n pl))∧Below w.heap.size w w':=by
 go_enter Tryz.func133,Tryz.ntmps133
 go_wp2_with (first | (go_at_call 149;refine (isNum_any _ _).mono ?_;rintro e w' ⟨rfl,rfl⟩) | (go_at_call 31;refine (isOneOf_any _ _ _).mono ?_;rintro e w' ⟨rfl,rfl⟩))
 go_ret
 exact ⟨rfl,(Below.refl _ _).alloc (Nat.le_refl _) _⟩
theorem num_13 (r a b n pl:Int) (w:World):Calls Tryz.prog 133 #[.agg #[.int .i64 13,.int .i64 r,.int .i64 a,.int .i64 b,.int .i64 n],.int .i64 pl] w fun e w'=>e=.returned (.bool (Plain.nB 13 n pl))∧Below w.heap.size w w':=by
 go_enter Tryz.func133,Tryz.ntmps133
 go_wp2_with (first | (go_at_call 149;refine (isNum_any _ _).mono ?_;rintro e w' ⟨rfl,rfl⟩) | (go_at_call 31;refine (isOneOf_any _ _ _).mono ?_;rintro e w' ⟨rfl,rfl⟩))
 go_ret
 exact ⟨rfl,(Below.refl _ _).alloc (Nat.le_refl _) _⟩
theorem named_1 (r a b n:Int) (w:World):Calls Tryz.prog 131 #[.agg #[.int .i64 1,.int .i64 r,.int .i64 a,.int .i64 b,.int .i64 n]] w fun e w'=>e=.returned (.agg #[.int .i64 1,.int .i64 r,.int .i64 0,.int .i64 0,.int .i64 n])∧Below w.heap.size w w':=by
 go_enter Tryz.func131,Tryz.ntmps131
 go_wp2
 exact bodyPost_ret (v:=.agg #[.int .i64 1,.int .i64 r,.int .i64 0,.int .i64 0,.int .i64 n]) (by simp [results,Tryz.results131,go_sem]) rfl ⟨rfl,((Below.refl _ _).alloc (Nat.le_refl _) _).alloc (by simp) _⟩
theorem named_2 (r a b n:Int) (w:World):Calls Tryz.prog 131 #[.agg #[.int .i64 2,.int .i64 r,.int .i64 a,.int .i64 b,.int .i64 n]] w fun e w'=>e=.returned (.agg #[.int .i64 2,.int .i64 r,.int .i64 a,.int .i64 b,.int .i64 0])∧Below w.heap.size w w':=by
 go_enter Tryz.func131,Tryz.ntmps131
 go_wp2
 exact bodyPost_ret (v:=.agg #[.int .i64 2,.int .i64 r,.int .i64 a,.int .i64 b,.int .i64 0]) (by simp [results,Tryz.results131,go_sem]) rfl ⟨rfl,((Below.refl _ _).alloc (Nat.le_refl _) _).alloc (by simp) _⟩
theorem named_3 (r a b n:Int) (w:World):Calls Tryz.prog 131 #[.agg #[.int .i64 3,.int .i64 r,.int .i64 a,.int .i64 b,.int .i64 n]] w fun e w'=>e=.returned (.agg #[.int .i64 3,.int .i64 r,.int .i64 a,.int .i64 b,.int .i64 0])∧Below w.heap.size w w':=by
 go_enter Tryz.func131,Tryz.ntmps131
 go_wp2
 exact bodyPost_ret (v:=.agg #[.int .i64 3,.int .i64 r,.int .i64 a,.int .i64 b,.int .i64 0]) (by simp [results,Tryz.results131,go_sem]) rfl ⟨rfl,((Below.refl _ _).alloc (Nat.le_refl _) _).alloc (by simp) _⟩
theorem named_4 (r a b n:Int) (w:World):Calls Tryz.prog 131 #[.agg #[.int .i64 4,.int .i64 r,.int .i64 a,.int .i64 b,.int .i64 n]] w fun e w'=>e=.returned (.agg #[.int .i64 4,.int .i64 r,.int .i64 a,.int .i64 b,.int .i64 0])∧Below w.heap.size w w':=by
 go_enter Tryz.func131,Tryz.ntmps131
 go_wp2
 exact bodyPost_ret (v:=.agg #[.int .i64 4,.int .i64 r,.int .i64 a,.int .i64 b,.int .i64 0]) (by simp [results,Tryz.results131,go_sem]) rfl ⟨rfl,((Below.refl _ _).alloc (Nat.le_refl _) _).alloc (by simp) _⟩
theorem named_5 (r a b n:Int) (w:World):Calls Tryz.prog 131 #[.agg #[.int .i64 5,.int .i64 r,.int .i64 a,.int .i64 b,.int .i64 n]] w fun e w'=>e=.returned (.agg #[.int .i64 5,.int .i64 r,.int .i64 a,.int .i64 0,.int .i64 n])∧Below w.heap.size w w':=by
 go_enter Tryz.func131,Tryz.ntmps131
 go_wp2
 exact bodyPost_ret (v:=.agg #[.int .i64 5,.int .i64 r,.int .i64 a,.int .i64 0,.int .i64 n]) (by simp [results,Tryz.results131,go_sem]) rfl ⟨rfl,((Below.refl _ _).alloc (Nat.le_refl _) _).alloc (by simp) _⟩
theorem named_6 (r a b n:Int) (w:World):Calls Tryz.prog 131 #[.agg #[.int .i64 6,.int .i64 r,.int .i64 a,.int .i64 b,.int .i64 n]] w fun e w'=>e=.returned (.agg #[.int .i64 6,.int .i64 0,.int .i64 a,.int .i64 b,.int .i64 n])∧Below w.heap.size w w':=by
 go_enter Tryz.func131,Tryz.ntmps131
 go_wp2
 exact bodyPost_ret (v:=.agg #[.int .i64 6,.int .i64 0,.int .i64 a,.int .i64 b,.int .i64 n]) (by simp [results,Tryz.results131,go_sem]) rfl ⟨rfl,((Below.refl _ _).alloc (Nat.le_refl _) _).alloc (by simp) _⟩
theorem named_7 (r a b n:Int) (w:World):Calls Tryz.prog 131 #[.agg #[.int .i64 7,.int .i64 r,.int .i64 a,.int .i64 b,.int .i64 n]] w fun e w'=>e=.returned (.agg #[.int .i64 7,.int .i64 0,.int .i64 a,.int .i64 b,.int .i64 n])∧Below w.heap.size w w':=by
 go_enter Tryz.func131,Tryz.ntmps131
 go_wp2
 exact bodyPost_ret (v:=.agg #[.int .i64 7,.int .i64 0,.int .i64 a,.int .i64 b,.int .i64 n]) (by simp [results,Tryz.results131,go_sem]) rfl ⟨rfl,((Below.refl _ _).alloc (Nat.le_refl _) _).alloc (by simp) _⟩
theorem named_8 (r a b n:Int) (w:World):Calls Tryz.prog 131 #[.agg #[.int .i64 8,.int .i64 r,.int .i64 a,.int .i64 b,.int .i64 n]] w fun e w'=>e=.returned (.agg #[.int .i64 8,.int .i64 r,.int .i64 0,.int .i64 b,.int .i64 n])∧Below w.heap.size w w':=by
 go_enter Tryz.func131,Tryz.ntmps131
 go_wp2
 exact bodyPost_ret (v:=.agg #[.int .i64 8,.int .i64 r,.int .i64 0,.int .i64 b,.int .i64 n]) (by simp [results,Tryz.results131,go_sem]) rfl ⟨rfl,((Below.refl _ _).alloc (Nat.le_refl _) _).alloc (by simp) _⟩
theorem named_9 (r a b n:Int) (w:World):Calls Tryz.prog 131 #[.agg #[.int .i64 9,.int .i64 r,.int .i64 a,.int .i64 b,.int .i64 n]] w fun e w'=>e=.returned (.agg #[.int .i64 9,.int .i64 0,.int .i64 a,.int .i64 0,.int .i64 0])∧Below w.heap.size w w':=by
 go_enter Tryz.func131,Tryz.ntmps131
 go_wp2
 exact bodyPost_ret (v:=.agg #[.int .i64 9,.int .i64 0,.int .i64 a,.int .i64 0,.int .i64 0]) (by simp [results,Tryz.results131,go_sem]) rfl ⟨rfl,((Below.refl _ _).alloc (Nat.le_refl _) _).alloc (by simp) _⟩
theorem named_10 (r a b n:Int) (w:World):Calls Tryz.prog 131 #[.agg #[.int .i64 10,.int .i64 r,.int .i64 a,.int .i64 b,.int .i64 n]] w fun e w'=>e=.returned (.agg #[.int .i64 10,.int .i64 0,.int .i64 0,.int .i64 0,.int .i64 n])∧Below w.heap.size w w':=by
 go_enter Tryz.func131,Tryz.ntmps131
 go_wp2
 exact bodyPost_ret (v:=.agg #[.int .i64 10,.int .i64 0,.int .i64 0,.int .i64 0,.int .i64 n]) (by simp [results,Tryz.results131,go_sem]) rfl ⟨rfl,((Below.refl _ _).alloc (Nat.le_refl _) _).alloc (by simp) _⟩
theorem named_11 (r a b n:Int) (w:World):Calls Tryz.prog 131 #[.agg #[.int .i64 11,.int .i64 r,.int .i64 a,.int .i64 b,.int .i64 n]] w fun e w'=>e=.returned (.agg #[.int .i64 11,.int .i64 0,.int .i64 a,.int .i64 0,.int .i64 n])∧Below w.heap.size w w':=by
 go_enter Tryz.func131,Tryz.ntmps131
 go_wp2
 exact bodyPost_ret (v:=.agg #[.int .i64 11,.int .i64 0,.int .i64 a,.int .i64 0,.int .i64 n]) (by simp [results,Tryz.results131,go_sem]) rfl ⟨rfl,((Below.refl _ _).alloc (Nat.le_refl _) _).alloc (by simp) _⟩
theorem named_12 (r a b n:Int) (w:World):Calls Tryz.prog 131 #[.agg #[.int .i64 12,.int .i64 r,.int .i64 a,.int .i64 b,.int .i64 n]] w fun e w'=>e=.returned (.agg #[.int .i64 12,.int .i64 0,.int .i64 0,.int .i64 0,.int .i64 0])∧Below w.heap.size w w':=by
 go_enter Tryz.func131,Tryz.ntmps131
 go_wp2
 exact bodyPost_ret (v:=.agg #[.int .i64 12,.int .i64 0,.int .i64 0,.int .i64 0,.int .i64 0]) (by simp [results,Tryz.results131,go_sem]) rfl ⟨rfl,((Below.refl _ _).alloc (Nat.le_refl _) _).alloc (by simp) _⟩
theorem named_13 (r a b n:Int) (w:World):Calls Tryz.prog 131 #[.agg #[.int .i64 13,.int .i64 r,.int .i64 a,.int .i64 b,.int .i64 n]] w fun e w'=>e=.returned (.agg #[.int .i64 13,.int .i64 0,.int .i64 0,.int .i64 0,.int .i64 0])∧Below w.heap.size w w':=by
 go_enter Tryz.func131,Tryz.ntmps131
 go_wp2
 exact bodyPost_ret (v:=.agg #[.int .i64 13,.int .i64 0,.int .i64 0,.int .i64 0,.int .i64 0]) (by simp [results,Tryz.results131,go_sem]) rfl ⟨rfl,((Below.refl _ _).alloc (Nat.le_refl _) _).alloc (by simp) _⟩
set_option maxRecDepth 100000 in
theorem named_0 (op r a b n:Int) (w:World) (h1:(op==1)=false) (h2:(op==2)=false) (h3:(op==3)=false) (h4:(op==4)=false) (h5:(op==5)=false) (h6:(op==6)=false) (h7:(op==7)=false) (h8:(op==8)=false) (h9:(op==9)=false) (h10:(op==10)=false) (h11:(op==11)=false) (h12:(op==12)=false) (h13:(op==13)=false):Calls Tryz.prog 131 #[.agg #[.int .i64 op,.int .i64 r,.int .i64 a,.int .i64 b,.int .i64 n]] w fun e w'=>e=.returned (.agg #[.int .i64 0,.int .i64 0,.int .i64 0,.int .i64 0,.int .i64 0])∧Below w.heap.size w w':=by
 go_enter Tryz.func131,Tryz.ntmps131
 go_wp2
 exact bodyPost_ret (v:=.agg #[.int .i64 0,.int .i64 0,.int .i64 0,.int .i64 0,.int .i64 0]) (by simp [results,Tryz.results131,go_sem]) rfl ⟨rfl,((Below.refl _ _).alloc (Nat.le_refl _) _).alloc (by simp) _⟩
end Go.Proofs.YtlbeploopclegaaGreat
