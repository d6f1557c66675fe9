/- StepOk of the specification: some kinds of steps. No condition. StepOk of the specification: some kinds of steps. No condition. StepOk of the specification (package spec), at every step and every count of places, in every world: it returns what the plain law says; it makes memory, and turns none. No condition. Lists of steps: when code is right; the laws' counting and comparing of lists. Conditions: lists of at most 1048576 steps where they are compared. -/
import Derived.Test.YtepfpbcjklaenaaGreatJG00
import Derived.Test.YtepfpbcjklaenaaGreatJG06
import Derived.Test.YtepfpbcjklaenaaGreatJG01
import Derived.Test.YtepfpbcjklaenaaGreatJG05
import Derived.Deep.RegionHeld3
namespace Go.Proofs.YtepfpbcjklaenaaGreat
section
set_option linter.unusedSimpArgs false
set_option linter.unusedVariables false
set_option maxRecDepth 100000
open Go.RowKit
set_option maxRecDepth 100000 in
set_option maxHeartbeats 2000000 in
theorem specGood_7 (r a b n pl:Int) (w:World) (h1:Plain.inB r 0 7=true) (h2:Plain.inB b 0 7=true) (h3:Plain.inB a 0 7=true):Calls Tryz.prog 81 #[.agg #[.int .i64 7,.int .i64 r,.int .i64 a,.int .i64 b,.int .i64 n],.int .i64 pl] w fun e w'=>e=.returned (.bool (Plain.stepB 7 r a b n pl))∧Below w.heap.size w w':=by
 cases hc:Plain.inB n 0 23
 rotate_left
 have hn0:0≤n:=(by simpa [Plain.inB] using hc:0≤n∧n≤23).1
 rotate_left
 by_cases hn0:0≤n
 all_goals
  go_enter Tryz.func81,Tryz.ntmps81
  go_wp2_with (first | (go_at_call 99;(first | refine (l7Reg_is _ _ _ h1).mono ?_ | refine (l7Reg_is _ _ _ h2).mono ?_ | refine (l7Reg_is _ _ _ h3).mono ?_);rintro e w' ⟨rfl,rfl⟩) | (go_at_call 24;(first | refine (l1In_is _ _ _ _ _ hc).mono ?_ | refine (l1In_any _ _ _ _).mono ?_);rintro e w' ⟨rfl,rfl⟩))
 all_goals go_ret
 all_goals refine ⟨ret_bool ?_,by first | exact (Below.refl _ _).alloc (Nat.le_refl _) _ | exact ((Below.refl _ _).alloc (Nat.le_refl _) _).alloc (by simp) _ | exact Below.drew ((Below.refl _ _).alloc (Nat.le_refl _) _)⟩
 all_goals (rw [Bool.eq_iff_iff];simp_all [Plain.stepB,Plain.inB];try omega)
set_option maxRecDepth 100000 in
set_option maxHeartbeats 2000000 in
theorem specGood_7m (r b n pl:Int) (w:World) (h1:Plain.inB r 0 7=true) (h2:Plain.inB b 0 7=true):Calls Tryz.prog 81 #[.agg #[.int .i64 7,.int .i64 r,.int .i64 (-1),.int .i64 b,.int .i64 n],.int .i64 pl] w fun e w'=>e=.returned (.bool (Plain.stepB 7 r (-1) b n pl))∧Below w.heap.size w w':=by
 have h3:Plain.inB (-1) 0 7=false:=by decide
 cases hc:Plain.inB n 0 23
 rotate_left
 have hn0:0≤n:=(by simpa [Plain.inB] using hc:0≤n∧n≤23).1
 rotate_left
 by_cases hn0:0≤n
 all_goals
  go_enter Tryz.func81,Tryz.ntmps81
  go_wp2_with (first | (go_at_call 99;(first | refine (l7Reg_is _ _ _ h1).mono ?_ | refine (l7Reg_is _ _ _ h2).mono ?_ | refine (l7Reg_is _ _ _ h3).mono ?_);rintro e w' ⟨rfl,rfl⟩) | (go_at_call 24;(first | refine (l1In_is _ _ _ _ _ hc).mono ?_ | refine (l1In_any _ _ _ _).mono ?_);rintro e w' ⟨rfl,rfl⟩))
 all_goals go_ret
 all_goals refine ⟨ret_bool ?_,by first | exact (Below.refl _ _).alloc (Nat.le_refl _) _ | exact ((Below.refl _ _).alloc (Nat.le_refl _) _).alloc (by simp) _ | exact Below.drew ((Below.refl _ _).alloc (Nat.le_refl _) _)⟩
 all_goals (rw [Bool.eq_iff_iff];simp_all [Plain.stepB,Plain.inB];try omega)
set_option maxRecDepth 100000 in
set_option maxHeartbeats 2000000 in
theorem specGood_8 (r a b n pl:Int) (w:World) (h1:Plain.inB r 0 7=true) (h2:Plain.inB b 0 7=true) (h3:Plain.inB a 0 7=true):Calls Tryz.prog 81 #[.agg #[.int .i64 8,.int .i64 r,.int .i64 a,.int .i64 b,.int .i64 n],.int .i64 pl] w fun e w'=>e=.returned (.bool (Plain.stepB 8 r a b n pl))∧Below w.heap.size w w':=by
 cases hc:Plain.inB n 0 23
 rotate_left
 have hn0:0≤n:=(by simpa [Plain.inB] using hc:0≤n∧n≤23).1
 rotate_left
 by_cases hn0:0≤n
 all_goals
  go_enter Tryz.func81,Tryz.ntmps81
  go_wp2_with (first | (go_at_call 99;(first | refine (l7Reg_is _ _ _ h1).mono ?_ | refine (l7Reg_is _ _ _ h2).mono ?_ | refine (l7Reg_is _ _ _ h3).mono ?_);rintro e w' ⟨rfl,rfl⟩) | (go_at_call 24;(first | refine (l1In_is _ _ _ _ _ hc).mono ?_ | refine (l1In_any _ _ _ _).mono ?_);rintro e w' ⟨rfl,rfl⟩))
 all_goals go_ret
 all_goals refine ⟨ret_bool ?_,by first | exact (Below.refl _ _).alloc (Nat.le_refl _) _ | exact ((Below.refl _ _).alloc (Nat.le_refl _) _).alloc (by simp) _ | exact Below.drew ((Below.refl _ _).alloc (Nat.le_refl _) _)⟩
 all_goals (rw [Bool.eq_iff_iff];simp_all [Plain.stepB,Plain.inB];try omega)
set_option maxRecDepth 100000 in
set_option maxHeartbeats 2000000 in
theorem specGood_9 (r a b n pl:Int) (w:World) (h1:Plain.inB r 0 7=true) (h2:Plain.inB b 0 7=true) (h3:Plain.inB a 0 7=true):Calls Tryz.prog 81 #[.agg #[.int .i64 9,.int .i64 r,.int .i64 a,.int .i64 b,.int .i64 n],.int .i64 pl] w fun e w'=>e=.returned (.bool (Plain.stepB 9 r a b n pl))∧Below w.heap.size w w':=by
 by_cases hn0:0≤n
 all_goals
  go_enter Tryz.func81,Tryz.ntmps81
  go_wp2_with (first | (go_at_call 99;(first | refine (l7Reg_is _ _ _ h1).mono ?_ | refine (l7Reg_is _ _ _ h2).mono ?_ | refine (l7Reg_is _ _ _ h3).mono ?_);rintro e w' ⟨rfl,rfl⟩) | (go_at_call 24;(first | refine (l1In_is _ _ _ _ _ hc).mono ?_ | refine (l1In_any _ _ _ _).mono ?_);rintro e w' ⟨rfl,rfl⟩))
 all_goals go_ret
 all_goals refine ⟨ret_bool ?_,by first | exact (Below.refl _ _).alloc (Nat.le_refl _) _ | exact ((Below.refl _ _).alloc (Nat.le_refl _) _).alloc (by simp) _ | exact Below.drew ((Below.refl _ _).alloc (Nat.le_refl _) _)⟩
 all_goals (rw [Bool.eq_iff_iff];simp_all [Plain.stepB,Plain.inB];try omega)
end
section
set_option linter.unusedSimpArgs false
set_option linter.unusedVariables false
set_option maxRecDepth 100000
open Go.RowKit
set_option maxRecDepth 100000 in
set_option maxHeartbeats 2000000 in
theorem specGood_10 (r a b n pl:Int) (w:World) (h1:Plain.inB r 0 7=true) (h2:Plain.inB b 0 7=true) (h3:Plain.inB a 0 7=true):Calls Tryz.prog 81 #[.agg #[.int .i64 10,.int .i64 r,.int .i64 a,.int .i64 b,.int .i64 n],.int .i64 pl] w fun e w'=>e=.returned (.bool (Plain.stepB 10 r a b n pl))∧Below w.heap.size w w':=by
 by_cases hn0:0≤n
 by_cases hn1:n < pl
 all_goals
  go_enter Tryz.func81,Tryz.ntmps81
  go_wp2_with (first | (go_at_call 99;(first | refine (l7Reg_is _ _ _ h1).mono ?_ | refine (l7Reg_is _ _ _ h2).mono ?_ | refine (l7Reg_is _ _ _ h3).mono ?_);rintro e w' ⟨rfl,rfl⟩) | (go_at_call 24;(first | refine (l1In_is _ _ _ _ _ hc).mono ?_ | refine (l1In_any _ _ _ _).mono ?_);rintro e w' ⟨rfl,rfl⟩))
 all_goals go_ret
 all_goals refine ⟨ret_bool ?_,by first | exact (Below.refl _ _).alloc (Nat.le_refl _) _ | exact ((Below.refl _ _).alloc (Nat.le_refl _) _).alloc (by simp) _ | exact Below.drew ((Below.refl _ _).alloc (Nat.le_refl _) _)⟩
 all_goals (rw [Bool.eq_iff_iff];simp_all [Plain.stepB,Plain.inB];try omega)
set_option maxRecDepth 100000 in
set_option maxHeartbeats 2000000 in
theorem specGood_11 (r a b n pl:Int) (w:World) (h1:Plain.inB r 0 7=true) (h2:Plain.inB b 0 7=true) (h3:Plain.inB a 0 7=true):Calls Tryz.prog 81 #[.agg #[.int .i64 11,.int .i64 r,.int .i64 a,.int .i64 b,.int .i64 n],.int .i64 pl] w fun e w'=>e=.returned (.bool (Plain.stepB 11 r a b n pl))∧Below w.heap.size w w':=by
 by_cases hn0:0≤n
 by_cases hn1:n < pl
 all_goals
  go_enter Tryz.func81,Tryz.ntmps81
  go_wp2_with (first | (go_at_call 99;(first | refine (l7Reg_is _ _ _ h1).mono ?_ | refine (l7Reg_is _ _ _ h2).mono ?_ | refine (l7Reg_is _ _ _ h3).mono ?_);rintro e w' ⟨rfl,rfl⟩) | (go_at_call 24;(first | refine (l1In_is _ _ _ _ _ hc).mono ?_ | refine (l1In_any _ _ _ _).mono ?_);rintro e w' ⟨rfl,rfl⟩))
 all_goals go_ret
 all_goals refine ⟨ret_bool ?_,by first | exact (Below.refl _ _).alloc (Nat.le_refl _) _ | exact ((Below.refl _ _).alloc (Nat.le_refl _) _).alloc (by simp) _ | exact Below.drew ((Below.refl _ _).alloc (Nat.le_refl _) _)⟩
 all_goals (rw [Bool.eq_iff_iff];simp_all [Plain.stepB,Plain.inB];try omega)
set_option maxRecDepth 100000 in
set_option maxHeartbeats 2000000 in
theorem specGood_12 (r a b n pl:Int) (w:World) (h1:Plain.inB r 0 7=true) (h2:Plain.inB b 0 7=true) (h3:Plain.inB a 0 7=true):Calls Tryz.prog 81 #[.agg #[.int .i64 12,.int .i64 r,.int .i64 a,.int .i64 b,.int .i64 n],.int .i64 pl] w fun e w'=>e=.returned (.bool (Plain.stepB 12 r a b n pl))∧Below w.heap.size w w':=by
 have e2:=fun w=>eqStep_run 12 r a b n 12 0 0 0 0 w
 by_cases hn0:0≤n
 all_goals
  go_enter Tryz.func81,Tryz.ntmps81
  go_wp2_with (first | (go_at_call 99;(first | refine (l7Reg_is _ _ _ h1).mono ?_ | refine (l7Reg_is _ _ _ h2).mono ?_ | refine (l7Reg_is _ _ _ h3).mono ?_);rintro e w' ⟨rfl,rfl⟩) | (go_at_call 24;(first | refine (l1In_is _ _ _ _ _ hc).mono ?_ | refine (l1In_any _ _ _ _).mono ?_);rintro e w' ⟨rfl,rfl⟩))
 all_goals go_ret
 all_goals refine ⟨ret_bool ?_,by first | exact (Below.refl _ _).alloc (Nat.le_refl _) _ | exact ((Below.refl _ _).alloc (Nat.le_refl _) _).alloc (by simp) _ | exact Below.drew ((Below.refl _ _).alloc (Nat.le_refl _) _)⟩
 all_goals (rw [Bool.eq_iff_iff];simp_all [Plain.stepB,Plain.inB];try omega)
set_option maxRecDepth 100000 in
set_option maxHeartbeats 2000000 in
theorem specGood_13 (r a b n pl:Int) (w:World) (h1:Plain.inB r 0 7=true) (h2:Plain.inB b 0 7=true) (h3:Plain.inB a 0 7=true):Calls Tryz.prog 81 #[.agg #[.int .i64 13,.int .i64 r,.int .i64 a,.int .i64 b,.int .i64 n],.int .i64 pl] w fun e w'=>e=.returned (.bool (Plain.stepB 13 r a b n pl))∧Below w.heap.size w w':=by
 have e2:=fun w=>eqStep_run 13 r a b n 13 0 0 0 0 w
 by_cases hn0:0≤n
 all_goals
  go_enter Tryz.func81,Tryz.ntmps81
  go_wp2_with (first | (go_at_call 99;(first | refine (l7Reg_is _ _ _ h1).mono ?_ | refine (l7Reg_is _ _ _ h2).mono ?_ | refine (l7Reg_is _ _ _ h3).mono ?_);rintro e w' ⟨rfl,rfl⟩) | (go_at_call 24;(first | refine (l1In_is _ _ _ _ _ hc).mono ?_ | refine (l1In_any _ _ _ _).mono ?_);rintro e w' ⟨rfl,rfl⟩))
 all_goals go_ret
 all_goals refine ⟨ret_bool ?_,by first | exact (Below.refl _ _).alloc (Nat.le_refl _) _ | exact ((Below.refl _ _).alloc (Nat.le_refl _) _).alloc (by simp) _ | exact Below.drew ((Below.refl _ _).alloc (Nat.le_refl _) _)⟩
 all_goals (rw [Bool.eq_iff_iff];simp_all [Plain.stepB,Plain.inB];try omega)
set_option maxRecDepth 100000 in
set_option maxHeartbeats 2000000 in
theorem specGood_0 (op r a b n pl:Int) (w:World) (o1:(op==1)=false) (o2:(op==2)=false) (o3:(op==3)=false) (o4:(op==4)=false) (o5:(op==5)=false) (o6:(op==6)=false) (o7:(op==7)=false) (o8:(op==8)=false) (o9:(op==9)=false) (o10:(op==10)=false) (o11:(op==11)=false) (o12:(op==12)=false) (o13:(op==13)=false) (h1:Plain.inB r 0 7=true) (h2:Plain.inB b 0 7=true) (h3:Plain.inB a 0 7=true):Calls Tryz.prog 81 #[.agg #[.int .i64 op,.int .i64 r,.int .i64 a,.int .i64 b,.int .i64 n],.int .i64 pl] w fun e w'=>e=.returned (.bool (Plain.stepB op r a b n pl))∧Below w.heap.size w w':=by
 by_cases hn0:0≤n
 all_goals
  go_enter Tryz.func81,Tryz.ntmps81
  go_wp2_with (first | (go_at_call 99;(first | refine (l7Reg_is _ _ _ h1).mono ?_ | refine (l7Reg_is _ _ _ h2).mono ?_ | refine (l7Reg_is _ _ _ h3).mono ?_);rintro e w' ⟨rfl,rfl⟩) | (go_at_call 24;(first | refine (l1In_is _ _ _ _ _ hc).mono ?_ | refine (l1In_any _ _ _ _).mono ?_);rintro e w' ⟨rfl,rfl⟩))
 all_goals go_ret
 all_goals refine ⟨ret_bool ?_,by first | exact (Below.refl _ _).alloc (Nat.le_refl _) _ | exact ((Below.refl _ _).alloc (Nat.le_refl _) _).alloc (by simp) _ | exact Below.drew ((Below.refl _ _).alloc (Nat.le_refl _) _)⟩
 all_goals (rw [Bool.eq_iff_iff];simp_all [Plain.stepB,Plain.inB];try omega)
end
section
set_option linter.unusedSimpArgs false
set_option linter.unusedVariables false
set_option maxRecDepth 100000
open Go.RowKit
theorem specStepOk_any (op r a b n pl:Int) (w:World):Calls Tryz.prog 81 #[.agg #[.int .i64 op,.int .i64 r,.int .i64 a,.int .i64 b,.int .i64 n],.int .i64 pl] w fun e w'=>e=.returned (.bool (Plain.stepB op r a b n pl))∧Below w.heap.size w w':=by
 have no:∀ {e:Ending} {w':World},Plain.stepB op r a b n pl=false→e=.returned (.bool false)∧Below w.heap.size w w'→e=.returned (.bool (Plain.stepB op r a b n pl))∧Below w.heap.size w w':=fun h h'=>by rw [h];exact h'
 by_cases e5:op=5
 ·subst e5
  cases h1:Plain.inB r 0 7
  ·exact (specBadR_5 r a b n pl w h1).mono fun e w' h=>no (by simp [Plain.inB] at h1;simp [Plain.stepB];omega) h
  cases h2:Plain.inB b 0 7
  ·exact (specBadB_5 r a b n pl w h1 h2).mono fun e w' h=>no (by simp [Plain.inB] at h2;simp [Plain.stepB];omega) h
  cases h3:Plain.inB a 0 7
  ·by_cases h4:a=-1
   ·subst h4
    exact specGood_5m r b n pl w h1 h2
   ·exact (specBadA_5 r a b n pl w h1 h2 h3 (by simpa using h4)).mono fun e w' h=>no (by simp [Plain.inB] at h3;simp [Plain.stepB];omega) h
  ·exact specGood_5 r a b n pl w h1 h2 h3
 by_cases e6:op=6
 ·subst e6
  cases h1:Plain.inB r 0 7
  ·exact (specBadR_6 r a b n pl w h1).mono fun e w' h=>no (by simp [Plain.inB] at h1;simp [Plain.stepB];omega) h
  cases h2:Plain.inB b 0 7
  ·exact (specBadB_6 r a b n pl w h1 h2).mono fun e w' h=>no (by simp [Plain.inB] at h2;simp [Plain.stepB];omega) h
  cases h3:Plain.inB a 0 7
  ·by_cases h4:a=-1
   ·subst h4
    exact specGood_6m r b n pl w h1 h2
   ·exact (specBadA_6 r a b n pl w h1 h2 h3 (by simpa using h4)).mono fun e w' h=>no (by simp [Plain.inB] at h3;simp [Plain.stepB];omega) h
  ·exact specGood_6 r a b n pl w h1 h2 h3
 by_cases e7:op=7
 ·subst e7
  cases h1:Plain.inB r 0 7
  ·exact (specBadR_7 r a b n pl w h1).mono fun e w' h=>no (by simp [Plain.inB] at h1;simp [Plain.stepB];omega) h
  cases h2:Plain.inB b 0 7
  ·exact (specBadB_7 r a b n pl w h1 h2).mono fun e w' h=>no (by simp [Plain.inB] at h2;simp [Plain.stepB];omega) h
  cases h3:Plain.inB a 0 7
  ·by_cases h4:a=-1
   ·subst h4
    exact specGood_7m r b n pl w h1 h2
   ·exact (specBadA_7 r a b n pl w h1 h2 h3 (by simpa using h4)).mono fun e w' h=>no (by simp [Plain.inB] at h3;simp [Plain.stepB];omega) h
  ·exact specGood_7 r a b n pl w h1 h2 h3
 have o5:(op==5)=false:=by simpa using e5
 have o6:(op==6)=false:=by simpa using e6
 have o7:(op==7)=false:=by simpa using e7
 cases h1:Plain.inB r 0 7
 ·exact (specBadR_x op r a b n pl w o5 o6 o7 h1).mono fun e w' h=>no (by simp [Plain.inB] at h1;simp [Plain.stepB];omega) h
 cases h2:Plain.inB b 0 7
 ·exact (specBadB_x op r a b n pl w o5 o6 o7 h1 h2).mono fun e w' h=>no (by simp [Plain.inB] at h2;simp [Plain.stepB];omega) h
 cases h3:Plain.inB a 0 7
 ·exact (specBadA_x op r a b n pl w o5 o6 o7 h1 h2 h3).mono fun e w' h=>no (by simp [Plain.inB] at h3;simp [Plain.stepB];omega) h
 by_cases e1:op=1
 ·subst e1;exact specGood_1 r a b n pl w h1 h2 h3
 by_cases e2:op=2
 ·subst e2;exact specGood_2 r a b n pl w h1 h2 h3
 by_cases e3:op=3
 ·subst e3;exact specGood_3 r a b n pl w h1 h2 h3
 by_cases e4:op=4
 ·subst e4;exact specGood_4 r a b n pl w h1 h2 h3
 by_cases e8:op=8
 ·subst e8;exact specGood_8 r a b n pl w h1 h2 h3
 by_cases e9:op=9
 ·subst e9;exact specGood_9 r a b n pl w h1 h2 h3
 by_cases e10:op=10
 ·subst e10;exact specGood_10 r a b n pl w h1 h2 h3
 by_cases e11:op=11
 ·subst e11;exact specGood_11 r a b n pl w h1 h2 h3
 by_cases e12:op=12
 ·subst e12;exact specGood_12 r a b n pl w h1 h2 h3
 by_cases e13:op=13
 ·subst e13;exact specGood_13 r a b n pl w h1 h2 h3
 exact specGood_0 op r a b n pl w (by simpa using e1) (by simpa using e2) (by simpa using e3) (by simpa using e4) (by simpa using e5) (by simpa using e6) (by simpa using e7) (by simpa using e8) (by simpa using e9) (by simpa using e10) (by simpa using e11) (by simpa using e12) (by simpa using e13) h1 h2 h3
end
section
set_option linter.unusedSimpArgs false
set_option linter.unusedVariables false
set_option maxRecDepth 100000
open Go.RowKit
def stX (x:I5) (pl:Int):Bool:=Plain.stepB x.o x.r x.a x.b x.n pl
def lastB (l:List I5):Bool:=Plain.endB (l.getD (l.length - 1) z5).o
def codeB (l:List I5):Bool:=decide (∀ i,i < l.length→stX (l.getD i z5) l.length=true)&&(decide (1≤l.length∧l.length≤800)&&lastB l)
theorem code_no {l:List I5} {k:Nat} (hk:k < l.length) (h:stX (l.getD k z5) l.length=false):codeB l=false:=by
 have:decide (∀ i,i < l.length→stX (l.getD i z5) l.length=true)=false:=by
  rw [decide_eq_false_iff_not]
  intro H
  rw [H k hk] at h
  cases h
 unfold codeB
 rw [this]
 rfl
theorem code_all {l:List I5} (h:∀ i,i < l.length→stX (l.getD i z5) l.length=true):codeB l=(decide (1≤l.length∧l.length≤800)&&lastB l):=by
 unfold codeB
 rw [decide_eq_true h]
 simp
theorem code_short {l:List I5} (h:Plain.inB (l.length:Int) 1 800=false):codeB l=false:=by
 have:decide (1≤l.length∧l.length≤800)=false:=by
  rw [decide_eq_false_iff_not]
  simp [Plain.inB] at h
  omega
 unfold codeB
 rw [this]
 simp
set_option maxHeartbeats 1000000 in
theorem eqStepS_same (s s' : Option Addr) (c c' B : Nat) (l : List I5) (w : World) (h : InsB w B s l) (h' : InsB w B s' l) (hB : B ≤ w.heap.size) (hl : l.length ≤ 1048576) :
  Calls Tryz.prog 71 #[.slice s l.length c,.slice s' l.length c'] w fun e w'=>e=.returned (.bool true)∧Below w.heap.size w w':=by
 rcases h with rfl | ⟨g,off,rfl,hg,hc⟩
 ·go_enter Tryz.func71,Tryz.ntmps71
  go_wp2
  go_loop [5] (fun i=>i=.int .i64 0) (fun _=>0)
  case atStart=>rfl
  case round=>
   subst hrel
   go_wp2
   go_ret
   exact ⟨rfl,Below.refl _ _⟩
 ·rcases h' with rfl | ⟨g',off',rfl,hg',hc'⟩
  ·go_enter Tryz.func71,Tryz.ntmps71
   go_wp2
   go_loop [5] (fun i=>i=.int .i64 0) (fun _=>0)
   case atStart=>rfl
   case round=>
    subst hrel
    go_wp2
    go_ret
    exact ⟨rfl,Below.refl _ _⟩
  ·have hne:((l.length:Int) !=(l.length:Int))=false:=by simp
   have HC:Hid (∀ i,i < l.length→At5 w g (off+i * 5) (l.getD i z5)):=hc
   have HC':Hid (∀ i,i < l.length→At5 w g' (off'+i * 5) (l.getD i z5)):=hc'
   clear hc hc'
   go_enter Tryz.func71,Tryz.ntmps71
   go_wp2
   go_loopw [5] (fun i wr=>∃ k:Nat,k≤l.length∧i=.int .i64 k∧Below w.heap.size w wr) (fun i _=>l.length - (intOf i).toNat)
   case atStart=>exact ⟨0,Nat.zero_le _,rfl,Below.refl _ _⟩
   case round=>
    obtain ⟨k,hk,rfl,hb⟩:=hrel
    have HB:Hid (Below w.heap.size w wr):=hb
    clear hb
    by_cases hlt:k < l.length
    ·obtain ⟨f0,f1,f2,f3,f4⟩:=(HC.out k hlt).keep HB.out (by omega)
     obtain ⟨f0',f1',f2',f3',f4'⟩:=(HC'.out k hlt).keep HB.out (by omega)
     generalize l.getD k z5=x at f0 f1 f2 f3 f4 f0' f1' f2' f3' f4'
     obtain ⟨xo,xr,xa,xb,xn⟩:=x
     have b0:(0:Int)≤(k:Int):=by omega
     have b1:(k:Int) < (l.length:Int):=by omega
     go_wp2_with fail
     first | go_region_with (go_at_call 94;refine (eqStep_same _ _ _ _ _ _).mono ?_;rintro e w1 ⟨rfl,hb1⟩) | fail
     all_goals
      have HB1:Hid (Below wr.heap.size wr w1):=⟨hb1.os,hb1.tape,hb1.output,hb1.size,hb1.block⟩
      have hs1:=HB.out.size
      clear hb1
      go_wp2
      go_roundw
      case rel=>exact ⟨k+1,by omega,by go_num,HB.out.trans (HB1.out.mono hs1)⟩
      case measure=>simp [intOf];omega
    ·go_wp2
     go_ret
     exact ⟨rfl,HB.out⟩
end
end Go.Proofs.YtepfpbcjklaenaaGreat
