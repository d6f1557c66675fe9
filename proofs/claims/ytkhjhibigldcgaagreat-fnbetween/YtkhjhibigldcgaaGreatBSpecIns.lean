/- InsOk of the specification (package spec), at every Ins, every count of places and of channels, in every world: it returns what the plain law says; it makes memory, and turns none. No condition. -/
import Derived.Test.YtkhjhibigldcgaaGreatBG00
import Derived.Test.YtkhjhibigldcgaaGreatChecked
import Derived.WalkKit
import Derived.KernelRfl
import Derived.WalkSpells
import Derived.WalkLawsBesides
namespace Go.Proofs.YtkhjhibigldcgaaGreat
set_option linter.unusedSimpArgs false
set_option linter.unusedVariables false
set_option maxRecDepth 100000
open Go.RowKit
theorem ret_bool {x y:Bool} (h:x=y):Ending.returned (.bool x)=Ending.returned (.bool y):=by rw [h]
theorem l1In_any (x lo hi:Int) (w:World):Calls Tryz.prog 13 #[.int .i64 x,.int .i64 lo,.int .i64 hi] w fun e w'=>e=.returned (.bool (Plain.inB x lo hi))∧w'=w:=by
 by_cases h:lo≤x<;>by_cases h':x≤hi
 all_goals
  go_enter Tryz.func13,Tryz.ntmps13
  go_wp2
  go_ret
  exact ⟨by simp [Plain.inB];omega,rfl⟩
set_option maxRecDepth 100000 in
theorem specBad (op r a b n pl ch:Int) (w:World) (h:(Plain.inB r 0 3&&(Plain.inB a 0 3&&(Plain.inB b 0 3&&Plain.inB ch 0 3)))=false):Calls Tryz.prog 47 #[.agg #[.int .i64 op,.int .i64 r,.int .i64 a,.int .i64 b,.int .i64 n],.int .i64 pl,.int .i64 ch] w fun e w'=>e=.returned (.bool false)∧Below w.heap.size w w':=by
 cases h1:Plain.inB r 0 3
 ·clear h
  go_enter Tryz.func47,Tryz.ntmps47
  go_wp2_with (go_at_call 13;refine (l1In_any _ _ _ _).mono ?_;rintro e w' ⟨rfl,rfl⟩)
  go_ret
  exact ⟨rfl,(Below.refl _ _).alloc (Nat.le_refl _) _⟩
 cases h2:Plain.inB a 0 3
 ·clear h
  go_enter Tryz.func47,Tryz.ntmps47
  go_wp2_with (go_at_call 13;refine (l1In_any _ _ _ _).mono ?_;rintro e w' ⟨rfl,rfl⟩)
  go_ret
  exact ⟨rfl,(Below.refl _ _).alloc (Nat.le_refl _) _⟩
 cases h3:Plain.inB b 0 3
 ·clear h
  go_enter Tryz.func47,Tryz.ntmps47
  go_wp2_with (go_at_call 13;refine (l1In_any _ _ _ _).mono ?_;rintro e w' ⟨rfl,rfl⟩)
  go_ret
  exact ⟨rfl,(Below.refl _ _).alloc (Nat.le_refl _) _⟩
 cases h4:Plain.inB ch 0 3
 ·clear h
  go_enter Tryz.func47,Tryz.ntmps47
  go_wp2_with (go_at_call 13;refine (l1In_any _ _ _ _).mono ?_;rintro e w' ⟨rfl,rfl⟩)
  go_ret
  exact ⟨rfl,(Below.refl _ _).alloc (Nat.le_refl _) _⟩
 simp [h1,h2,h3,h4] at h
set_option maxRecDepth 100000 in
theorem specGood_1 (r a b n pl ch:Int) (w:World) (h1:Plain.inB r 0 3=true) (h2:Plain.inB a 0 3=true) (h3:Plain.inB b 0 3=true) (h4:Plain.inB ch 0 3=true) (hc:0≤ch) (hc':ch≤3):Calls Tryz.prog 47 #[.agg #[.int .i64 1,.int .i64 r,.int .i64 a,.int .i64 b,.int .i64 n],.int .i64 pl,.int .i64 ch] w fun e w'=>e=.returned (.bool (Plain.insB 1 r a b n pl ch))∧Below w.heap.size w w':=by
 go_enter Tryz.func47,Tryz.ntmps47
 go_wp2_with (go_at_call 13;refine (l1In_any _ _ _ _).mono ?_;rintro e w' ⟨rfl,rfl⟩)
 all_goals go_ret
 all_goals refine ⟨ret_bool ?_,by first | exact (Below.refl _ _).alloc (Nat.le_refl _) _ | exact ((Below.refl _ _).alloc (Nat.le_refl _) _).alloc (by simp) _⟩
 all_goals (rw [Bool.eq_iff_iff];simp_all [Plain.insB,Plain.inB];try omega)
set_option maxRecDepth 100000 in
theorem specGood_2 (r a b n pl ch:Int) (w:World) (h1:Plain.inB r 0 3=true) (h2:Plain.inB a 0 3=true) (h3:Plain.inB b 0 3=true) (h4:Plain.inB ch 0 3=true) (hc:0≤ch) (hc':ch≤3):Calls Tryz.prog 47 #[.agg #[.int .i64 2,.int .i64 r,.int .i64 a,.int .i64 b,.int .i64 n],.int .i64 pl,.int .i64 ch] w fun e w'=>e=.returned (.bool (Plain.insB 2 r a b n pl ch))∧Below w.heap.size w w':=by
 go_enter Tryz.func47,Tryz.ntmps47
 go_wp2_with (go_at_call 13;refine (l1In_any _ _ _ _).mono ?_;rintro e w' ⟨rfl,rfl⟩)
 all_goals go_ret
 all_goals refine ⟨ret_bool ?_,by first | exact (Below.refl _ _).alloc (Nat.le_refl _) _ | exact ((Below.refl _ _).alloc (Nat.le_refl _) _).alloc (by simp) _⟩
 all_goals (rw [Bool.eq_iff_iff];simp_all [Plain.insB,Plain.inB];try omega)
set_option maxRecDepth 100000 in
theorem specGood_3 (r a b n pl ch:Int) (w:World) (h1:Plain.inB r 0 3=true) (h2:Plain.inB a 0 3=true) (h3:Plain.inB b 0 3=true) (h4:Plain.inB ch 0 3=true) (hc:0≤ch) (hc':ch≤3):Calls Tryz.prog 47 #[.agg #[.int .i64 3,.int .i64 r,.int .i64 a,.int .i64 b,.int .i64 n],.int .i64 pl,.int .i64 ch] w fun e w'=>e=.returned (.bool (Plain.insB 3 r a b n pl ch))∧Below w.heap.size w w':=by
 go_enter Tryz.func47,Tryz.ntmps47
 go_wp2_with (go_at_call 13;refine (l1In_any _ _ _ _).mono ?_;rintro e w' ⟨rfl,rfl⟩)
 all_goals go_ret
 all_goals refine ⟨ret_bool ?_,by first | exact (Below.refl _ _).alloc (Nat.le_refl _) _ | exact ((Below.refl _ _).alloc (Nat.le_refl _) _).alloc (by simp) _⟩
 all_goals (rw [Bool.eq_iff_iff];simp_all [Plain.insB,Plain.inB];try omega)
set_option maxRecDepth 100000 in
theorem specGood_4 (r a b n pl ch:Int) (w:World) (h1:Plain.inB r 0 3=true) (h2:Plain.inB a 0 3=true) (h3:Plain.inB b 0 3=true) (h4:Plain.inB ch 0 3=true) (hc:0≤ch) (hc':ch≤3):Calls Tryz.prog 47 #[.agg #[.int .i64 4,.int .i64 r,.int .i64 a,.int .i64 b,.int .i64 n],.int .i64 pl,.int .i64 ch] w fun e w'=>e=.returned (.bool (Plain.insB 4 r a b n pl ch))∧Below w.heap.size w w':=by
 go_enter Tryz.func47,Tryz.ntmps47
 go_wp2_with (go_at_call 13;refine (l1In_any _ _ _ _).mono ?_;rintro e w' ⟨rfl,rfl⟩)
 all_goals go_ret
 all_goals refine ⟨ret_bool ?_,by first | exact (Below.refl _ _).alloc (Nat.le_refl _) _ | exact ((Below.refl _ _).alloc (Nat.le_refl _) _).alloc (by simp) _⟩
 all_goals (rw [Bool.eq_iff_iff];simp_all [Plain.insB,Plain.inB];try omega)
set_option maxRecDepth 100000 in
theorem specGood_5 (r a b n pl ch:Int) (w:World) (h1:Plain.inB r 0 3=true) (h2:Plain.inB a 0 3=true) (h3:Plain.inB b 0 3=true) (h4:Plain.inB ch 0 3=true) (hc:0≤ch) (hc':ch≤3):Calls Tryz.prog 47 #[.agg #[.int .i64 5,.int .i64 r,.int .i64 a,.int .i64 b,.int .i64 n],.int .i64 pl,.int .i64 ch] w fun e w'=>e=.returned (.bool (Plain.insB 5 r a b n pl ch))∧Below w.heap.size w w':=by
 go_enter Tryz.func47,Tryz.ntmps47
 go_wp2_with (go_at_call 13;refine (l1In_any _ _ _ _).mono ?_;rintro e w' ⟨rfl,rfl⟩)
 all_goals go_ret
 all_goals refine ⟨ret_bool ?_,by first | exact (Below.refl _ _).alloc (Nat.le_refl _) _ | exact ((Below.refl _ _).alloc (Nat.le_refl _) _).alloc (by simp) _⟩
 all_goals (rw [Bool.eq_iff_iff];simp_all [Plain.insB,Plain.inB];try omega)
set_option maxRecDepth 100000 in
theorem specGood_6 (r a b n pl ch:Int) (w:World) (h1:Plain.inB r 0 3=true) (h2:Plain.inB a 0 3=true) (h3:Plain.inB b 0 3=true) (h4:Plain.inB ch 0 3=true) (hc:0≤ch) (hc':ch≤3):Calls Tryz.prog 47 #[.agg #[.int .i64 6,.int .i64 r,.int .i64 a,.int .i64 b,.int .i64 n],.int .i64 pl,.int .i64 ch] w fun e w'=>e=.returned (.bool (Plain.insB 6 r a b n pl ch))∧Below w.heap.size w w':=by
 go_enter Tryz.func47,Tryz.ntmps47
 go_wp2_with (go_at_call 13;refine (l1In_any _ _ _ _).mono ?_;rintro e w' ⟨rfl,rfl⟩)
 all_goals go_ret
 all_goals refine ⟨ret_bool ?_,by first | exact (Below.refl _ _).alloc (Nat.le_refl _) _ | exact ((Below.refl _ _).alloc (Nat.le_refl _) _).alloc (by simp) _⟩
 all_goals (rw [Bool.eq_iff_iff];simp_all [Plain.insB,Plain.inB];try omega)
set_option maxRecDepth 100000 in
theorem specGood_7 (r a b n pl ch:Int) (w:World) (h1:Plain.inB r 0 3=true) (h2:Plain.inB a 0 3=true) (h3:Plain.inB b 0 3=true) (h4:Plain.inB ch 0 3=true) (hc:0≤ch) (hc':ch≤3):Calls Tryz.prog 47 #[.agg #[.int .i64 7,.int .i64 r,.int .i64 a,.int .i64 b,.int .i64 n],.int .i64 pl,.int .i64 ch] w fun e w'=>e=.returned (.bool (Plain.insB 7 r a b n pl ch))∧Below w.heap.size w w':=by
 go_enter Tryz.func47,Tryz.ntmps47
 go_wp2_with (go_at_call 13;refine (l1In_any _ _ _ _).mono ?_;rintro e w' ⟨rfl,rfl⟩)
 all_goals go_ret
 all_goals refine ⟨ret_bool ?_,by first | exact (Below.refl _ _).alloc (Nat.le_refl _) _ | exact ((Below.refl _ _).alloc (Nat.le_refl _) _).alloc (by simp) _⟩
 all_goals (rw [Bool.eq_iff_iff];simp_all [Plain.insB,Plain.inB];try omega)
set_option maxRecDepth 100000 in
theorem specGood_8 (r a b n pl ch:Int) (w:World) (h1:Plain.inB r 0 3=true) (h2:Plain.inB a 0 3=true) (h3:Plain.inB b 0 3=true) (h4:Plain.inB ch 0 3=true) (hc:0≤ch) (hc':ch≤3):Calls Tryz.prog 47 #[.agg #[.int .i64 8,.int .i64 r,.int .i64 a,.int .i64 b,.int .i64 n],.int .i64 pl,.int .i64 ch] w fun e w'=>e=.returned (.bool (Plain.insB 8 r a b n pl ch))∧Below w.heap.size w w':=by
 go_enter Tryz.func47,Tryz.ntmps47
 go_wp2_with (go_at_call 13;refine (l1In_any _ _ _ _).mono ?_;rintro e w' ⟨rfl,rfl⟩)
 all_goals go_ret
 all_goals refine ⟨ret_bool ?_,by first | exact (Below.refl _ _).alloc (Nat.le_refl _) _ | exact ((Below.refl _ _).alloc (Nat.le_refl _) _).alloc (by simp) _⟩
 all_goals (rw [Bool.eq_iff_iff];simp_all [Plain.insB,Plain.inB];try omega)
set_option maxRecDepth 100000 in
theorem specGood_9 (r a b n pl ch:Int) (w:World) (h1:Plain.inB r 0 3=true) (h2:Plain.inB a 0 3=true) (h3:Plain.inB b 0 3=true) (h4:Plain.inB ch 0 3=true) (hc:0≤ch) (hc':ch≤3):Calls Tryz.prog 47 #[.agg #[.int .i64 9,.int .i64 r,.int .i64 a,.int .i64 b,.int .i64 n],.int .i64 pl,.int .i64 ch] w fun e w'=>e=.returned (.bool (Plain.insB 9 r a b n pl ch))∧Below w.heap.size w w':=by
 go_enter Tryz.func47,Tryz.ntmps47
 go_wp2_with (go_at_call 13;refine (l1In_any _ _ _ _).mono ?_;rintro e w' ⟨rfl,rfl⟩)
 all_goals go_ret
 all_goals refine ⟨ret_bool ?_,by first | exact (Below.refl _ _).alloc (Nat.le_refl _) _ | exact ((Below.refl _ _).alloc (Nat.le_refl _) _).alloc (by simp) _⟩
 all_goals (rw [Bool.eq_iff_iff];simp_all [Plain.insB,Plain.inB];try omega)
set_option maxRecDepth 100000 in
theorem specGood_10 (r a b n pl ch:Int) (w:World) (h1:Plain.inB r 0 3=true) (h2:Plain.inB a 0 3=true) (h3:Plain.inB b 0 3=true) (h4:Plain.inB ch 0 3=true) (hc:0≤ch) (hc':ch≤3):Calls Tryz.prog 47 #[.agg #[.int .i64 10,.int .i64 r,.int .i64 a,.int .i64 b,.int .i64 n],.int .i64 pl,.int .i64 ch] w fun e w'=>e=.returned (.bool (Plain.insB 10 r a b n pl ch))∧Below w.heap.size w w':=by
 go_enter Tryz.func47,Tryz.ntmps47
 go_wp2_with (go_at_call 13;refine (l1In_any _ _ _ _).mono ?_;rintro e w' ⟨rfl,rfl⟩)
 all_goals go_ret
 all_goals refine ⟨ret_bool ?_,by first | exact (Below.refl _ _).alloc (Nat.le_refl _) _ | exact ((Below.refl _ _).alloc (Nat.le_refl _) _).alloc (by simp) _⟩
 all_goals (rw [Bool.eq_iff_iff];simp_all [Plain.insB,Plain.inB];try omega)
set_option maxRecDepth 100000 in
theorem specGood_11 (r a b n pl ch:Int) (w:World) (h1:Plain.inB r 0 3=true) (h2:Plain.inB a 0 3=true) (h3:Plain.inB b 0 3=true) (h4:Plain.inB ch 0 3=true) (hc:0≤ch) (hc':ch≤3):Calls Tryz.prog 47 #[.agg #[.int .i64 11,.int .i64 r,.int .i64 a,.int .i64 b,.int .i64 n],.int .i64 pl,.int .i64 ch] w fun e w'=>e=.returned (.bool (Plain.insB 11 r a b n pl ch))∧Below w.heap.size w w':=by
 go_enter Tryz.func47,Tryz.ntmps47
 go_wp2_with (go_at_call 13;refine (l1In_any _ _ _ _).mono ?_;rintro e w' ⟨rfl,rfl⟩)
 all_goals go_ret
 all_goals refine ⟨ret_bool ?_,by first | exact (Below.refl _ _).alloc (Nat.le_refl _) _ | exact ((Below.refl _ _).alloc (Nat.le_refl _) _).alloc (by simp) _⟩
 all_goals (rw [Bool.eq_iff_iff];simp_all [Plain.insB,Plain.inB];try omega)
set_option maxRecDepth 100000 in
theorem specGood_12 (r a b n pl ch:Int) (w:World) (h1:Plain.inB r 0 3=true) (h2:Plain.inB a 0 3=true) (h3:Plain.inB b 0 3=true) (h4:Plain.inB ch 0 3=true) (hc:0≤ch) (hc':ch≤3):Calls Tryz.prog 47 #[.agg #[.int .i64 12,.int .i64 r,.int .i64 a,.int .i64 b,.int .i64 n],.int .i64 pl,.int .i64 ch] w fun e w'=>e=.returned (.bool (Plain.insB 12 r a b n pl ch))∧Below w.heap.size w w':=by
 go_enter Tryz.func47,Tryz.ntmps47
 go_wp2_with (go_at_call 13;refine (l1In_any _ _ _ _).mono ?_;rintro e w' ⟨rfl,rfl⟩)
 all_goals go_ret
 all_goals refine ⟨ret_bool ?_,by first | exact (Below.refl _ _).alloc (Nat.le_refl _) _ | exact ((Below.refl _ _).alloc (Nat.le_refl _) _).alloc (by simp) _⟩
 all_goals (rw [Bool.eq_iff_iff];simp_all [Plain.insB,Plain.inB];try omega)
set_option maxRecDepth 100000 in
theorem specGood_13 (r a b n pl ch:Int) (w:World) (h1:Plain.inB r 0 3=true) (h2:Plain.inB a 0 3=true) (h3:Plain.inB b 0 3=true) (h4:Plain.inB ch 0 3=true) (hc:0≤ch) (hc':ch≤3):Calls Tryz.prog 47 #[.agg #[.int .i64 13,.int .i64 r,.int .i64 a,.int .i64 b,.int .i64 n],.int .i64 pl,.int .i64 ch] w fun e w'=>e=.returned (.bool (Plain.insB 13 r a b n pl ch))∧Below w.heap.size w w':=by
 go_enter Tryz.func47,Tryz.ntmps47
 go_wp2_with (go_at_call 13;refine (l1In_any _ _ _ _).mono ?_;rintro e w' ⟨rfl,rfl⟩)
 all_goals go_ret
 all_goals refine ⟨ret_bool ?_,by first | exact (Below.refl _ _).alloc (Nat.le_refl _) _ | exact ((Below.refl _ _).alloc (Nat.le_refl _) _).alloc (by simp) _⟩
 all_goals (rw [Bool.eq_iff_iff];simp_all [Plain.insB,Plain.inB];try omega)
set_option maxRecDepth 100000 in
theorem specGood_0 (op r a b n pl ch:Int) (w:World) (h1:Plain.inB r 0 3=true) (h2:Plain.inB a 0 3=true) (h3:Plain.inB b 0 3=true) (h4:Plain.inB ch 0 3=true) (hc:0≤ch) (hc':ch≤3) (h1:(op==1)=false) (h2:(op==2)=false) (h3:(op==3)=false) (h4:(op==4)=false) (h5:(op==5)=false) (h6:(op==6)=false) (h7:(op==7)=false) (h8:(op==8)=false) (h9:(op==9)=false) (h10:(op==10)=false) (h11:(op==11)=false) (h12:(op==12)=false) (h13:(op==13)=false):Calls Tryz.prog 47 #[.agg #[.int .i64 op,.int .i64 r,.int .i64 a,.int .i64 b,.int .i64 n],.int .i64 pl,.int .i64 ch] w fun e w'=>e=.returned (.bool (Plain.insB op r a b n pl ch))∧Below w.heap.size w w':=by
 go_enter Tryz.func47,Tryz.ntmps47
 go_wp2_with (go_at_call 13;refine (l1In_any _ _ _ _).mono ?_;rintro e w' ⟨rfl,rfl⟩)
 all_goals go_ret
 all_goals refine ⟨ret_bool ?_,by first | exact (Below.refl _ _).alloc (Nat.le_refl _) _ | exact ((Below.refl _ _).alloc (Nat.le_refl _) _).alloc (by simp) _⟩
 all_goals (rw [Bool.eq_iff_iff];simp_all [Plain.insB,Plain.inB];try omega)
theorem specInsOk_any (op r a b n pl ch:Int) (w:World):Calls Tryz.prog 47 #[.agg #[.int .i64 op,.int .i64 r,.int .i64 a,.int .i64 b,.int .i64 n],.int .i64 pl,.int .i64 ch] w fun e w'=>e=.returned (.bool (Plain.insB op r a b n pl ch))∧Below w.heap.size w w':=by
 cases h:(Plain.inB r 0 3&&(Plain.inB a 0 3&&(Plain.inB b 0 3&&Plain.inB ch 0 3)))
 ·refine (specBad op r a b n pl ch w h).mono ?_
  rintro e w' ⟨rfl,hb⟩
  exact ⟨ret_bool (by simp [Plain.inB] at h;simp [Plain.insB];omega),hb⟩
 simp only [Bool.and_eq_true] at h
 obtain ⟨h1,h2,h3,h4⟩:=h
 have hc:0≤ch∧ch≤3:=by simpa [Plain.inB] using h4
 by_cases e1:op=1
 ·subst e1;exact specGood_1 r a b n pl ch w h1 h2 h3 h4 hc.1 hc.2
 by_cases e2:op=2
 ·subst e2;exact specGood_2 r a b n pl ch w h1 h2 h3 h4 hc.1 hc.2
 by_cases e3:op=3
 ·subst e3;exact specGood_3 r a b n pl ch w h1 h2 h3 h4 hc.1 hc.2
 by_cases e4:op=4
 ·subst e4;exact specGood_4 r a b n pl ch w h1 h2 h3 h4 hc.1 hc.2
 by_cases e5:op=5
 ·subst e5;exact specGood_5 r a b n pl ch w h1 h2 h3 h4 hc.1 hc.2
 by_cases e6:op=6
 ·subst e6;exact specGood_6 r a b n pl ch w h1 h2 h3 h4 hc.1 hc.2
 by_cases e7:op=7
 ·subst e7;exact specGood_7 r a b n pl ch w h1 h2 h3 h4 hc.1 hc.2
 by_cases e8:op=8
 ·subst e8;exact specGood_8 r a b n pl ch w h1 h2 h3 h4 hc.1 hc.2
 by_cases e9:op=9
 ·subst e9;exact specGood_9 r a b n pl ch w h1 h2 h3 h4 hc.1 hc.2
 by_cases e10:op=10
 ·subst e10;exact specGood_10 r a b n pl ch w h1 h2 h3 h4 hc.1 hc.2
 by_cases e11:op=11
 ·subst e11;exact specGood_11 r a b n pl ch w h1 h2 h3 h4 hc.1 hc.2
 by_cases e12:op=12
 ·subst e12;exact specGood_12 r a b n pl ch w h1 h2 h3 h4 hc.1 hc.2
 by_cases e13:op=13
 ·subst e13;exact specGood_13 r a b n pl ch w h1 h2 h3 h4 hc.1 hc.2
 have t1:(op==1)=false:=by simpa using e1
 have t2:(op==2)=false:=by simpa using e2
 have t3:(op==3)=false:=by simpa using e3
 have t4:(op==4)=false:=by simpa using e4
 have t5:(op==5)=false:=by simpa using e5
 have t6:(op==6)=false:=by simpa using e6
 have t7:(op==7)=false:=by simpa using e7
 have t8:(op==8)=false:=by simpa using e8
 have t9:(op==9)=false:=by simpa using e9
 have t10:(op==10)=false:=by simpa using e10
 have t11:(op==11)=false:=by simpa using e11
 have t12:(op==12)=false:=by simpa using e12
 have t13:(op==13)=false:=by simpa using e13
 exact specGood_0 op r a b n pl ch w h1 h2 h3 h4 hc.1 hc.2 t1 t2 t3 t4 t5 t6 t7 t8 t9 t10 t11 t12 t13
end Go.Proofs.YtkhjhibigldcgaaGreat
