/- StepOk of the program, at every step and every count of places, in every world: it returns what the plain law says; it makes memory, and turns none. No condition. -/
import Derived.Test.YtlbeploopclegaaGreatQG00
import Derived.Test.YtlbeploopclegaaGreatQC7Leaf
namespace Go.Proofs.YtlbeploopclegaaGreat
set_option linter.unusedSimpArgs false
set_option linter.unusedVariables false
set_option maxRecDepth 100000
open Go.RowKit
theorem eqStep_run (o r a b n o' r' a' b' n':Int) (w:World):(binOp .eql 141 (.agg #[.int .i64 o,.int .i64 r,.int .i64 a,.int .i64 b,.int .i64 n]) (.agg #[.int .i64 o',.int .i64 r',.int .i64 a',.int .i64 b',.int .i64 n'])).run Tryz.prog w=.ok (.bool (decide (o=o'∧r=r'∧a=a'∧b=b'∧n=n'))) w:=by
 simp [go_sem]
 by_cases h1:o=o'<;>by_cases h2:r=r'<;>by_cases h3:a=a'<;>by_cases h4:b=b'<;>by_cases h5:n=n'<;>simp [h1,h2,h3,h4,h5]
theorem neqStep_run (o r a b n o' r' a' b' n':Int) (w:World):(binOp .neq 141 (.agg #[.int .i64 o,.int .i64 r,.int .i64 a,.int .i64 b,.int .i64 n]) (.agg #[.int .i64 o',.int .i64 r',.int .i64 a',.int .i64 b',.int .i64 n'])).run Tryz.prog w=.ok (.bool (!decide (o=o'∧r=r'∧a=a'∧b=b'∧n=n'))) w:=by
 simp [go_sem]
 by_cases h1:o=o'<;>by_cases h2:r=r'<;>by_cases h3:a=a'<;>by_cases h4:b=b'<;>by_cases h5:n=n'<;>simp [h1,h2,h3,h4,h5]
theorem box5 {w W:World} {v0 v1 v2 v3 v4:Value} {T:TypeId} (hW:w.alloc (.cells #[v0,v1,v2,v3,v4] T)=W):Below w.heap.size w W∧w.heap.size < W.heap.size∧W.cell? ⟨w.heap.size,0,none⟩=some v0∧W.cell? ⟨w.heap.size,1,none⟩=some v1∧W.cell? ⟨w.heap.size,2,none⟩=some v2∧W.cell? ⟨w.heap.size,3,none⟩=some v3∧W.cell? ⟨w.heap.size,4,none⟩=some v4:=by
 subst hW
 exact ⟨(Below.refl _ _).alloc (Nat.le_refl _) _,by simp,by simp [go_sem],by simp [go_sem],by simp [go_sem],by simp [go_sem],by simp [go_sem]⟩
set_option maxRecDepth 100000 in
set_option maxHeartbeats 1000000 in
theorem stepOk_zero (op r a b n pl:Int) (w:World) (hz:Hid (op=0∧r=0∧a=0∧b=0∧n=0)):Calls Tryz.prog 111 #[.agg #[.int .i64 op,.int .i64 r,.int .i64 a,.int .i64 b,.int .i64 n],.int .i64 pl] w fun e w'=>e=.returned (.bool (false))∧Below w.heap.size w w':=by
 have e1:=fun w=>neqStep_run op r a b n 0 0 0 0 0 w
 rw [decide_eq_true hz.out,Bool.not_true] at e1
 go_enter Tryz.func111,Tryz.ntmps111
 go_wp2_with fail
 obtain ⟨W,hW⟩:∃ W,w.alloc (.cells #[.int .i64 op,.int .i64 r,.int .i64 a,.int .i64 b,.int .i64 n] 141)=W:=⟨_,rfl⟩
 obtain ⟨ka,z0,x0,x1,x2,x3,x4⟩:=box5 hW
 rw [hW]
 clear hW
 have K:Hid (Below w.heap.size w W):=ka
 clear ka
 have hne:=ext_ne W
 have u0:=Ext.fit x0 z0
 have u1:=Ext.fit x1 z0
 have u2:=Ext.fit x2 z0
 have u3:=Ext.fit x3 z0
 have u4:=Ext.fit x4 z0
 refine regionExt W (by kernel_rfl) (by kernel_rfl) ?_
 repeat (go_big_quiet_step (fail))
 refine wpQuiet_nil ?_
 rintro w3 ⟨X3,rfl⟩
 have HB1:Hid (Below W.heap.size W X3.w):=X3.b
 clear u0 u1 u2 u3 u4 hne x0 x1 x2 x3 x4
 go_wp2
 go_ret
 exact ⟨rfl,K.out.trans (HB1.out.mono (by omega))⟩
set_option maxRecDepth 100000 in
set_option maxHeartbeats 1000000 in
theorem stepOk_ne (op r a b n pl o' r' a' b' n':Int) (w:World) (hz:Hid (¬ (op=0∧r=0∧a=0∧b=0∧n=0))) (hq:Hid (¬ (op=o'∧r=r'∧a=a'∧b=b'∧n=n'))) (hn:Hid (∀ w,Calls Tryz.prog 131 #[.agg #[.int .i64 op,.int .i64 r,.int .i64 a,.int .i64 b,.int .i64 n]] w fun e w'=>e=.returned (.agg #[.int .i64 o',.int .i64 r',.int .i64 a',.int .i64 b',.int .i64 n'])∧Below w.heap.size w w')):Calls Tryz.prog 111 #[.agg #[.int .i64 op,.int .i64 r,.int .i64 a,.int .i64 b,.int .i64 n],.int .i64 pl] w fun e w'=>e=.returned (.bool (false))∧Below w.heap.size w w':=by
 have e1:=fun w=>neqStep_run op r a b n 0 0 0 0 0 w
 rw [decide_eq_false hz.out,Bool.not_false] at e1
 have e2:=fun w=>eqStep_run op r a b n o' r' a' b' n' w
 rw [decide_eq_false hq.out] at e2
 go_enter Tryz.func111,Tryz.ntmps111
 go_wp2_with fail
 obtain ⟨W,hW⟩:∃ W,w.alloc (.cells #[.int .i64 op,.int .i64 r,.int .i64 a,.int .i64 b,.int .i64 n] 141)=W:=⟨_,rfl⟩
 obtain ⟨ka,z0,x0,x1,x2,x3,x4⟩:=box5 hW
 rw [hW]
 clear hW
 have K:Hid (Below w.heap.size w W):=ka
 clear ka
 have hne:=ext_ne W
 have u0:=Ext.fit x0 z0
 have u1:=Ext.fit x1 z0
 have u2:=Ext.fit x2 z0
 have u3:=Ext.fit x3 z0
 have u4:=Ext.fit x4 z0
 refine regionExt W (by kernel_rfl) (by kernel_rfl) ?_
 repeat (go_big_quiet_step ((rename_i X;go_at_call 131;refine (hn.out _).mono ?_;rintro e w3 ⟨rfl,hb3⟩;exact ⟨rfl,X.on hb3⟩)))
 refine wpQuiet_nil ?_
 rintro w3 ⟨X3,rfl⟩
 have HB1:Hid (Below W.heap.size W X3.w):=X3.b
 clear u0 u1 u2 u3 u4 hne x0 x1 x2 x3 x4
 go_wp2
 go_ret
 exact ⟨rfl,K.out.trans (HB1.out.mono (by omega))⟩
set_option maxRecDepth 100000 in
set_option maxHeartbeats 1000000 in
theorem stepOk_regs (op r a b n pl:Int) (w:World) (hz:Hid (¬ (op=0∧r=0∧a=0∧b=0∧n=0))) (hn:Hid (∀ w,Calls Tryz.prog 131 #[.agg #[.int .i64 op,.int .i64 r,.int .i64 a,.int .i64 b,.int .i64 n]] w fun e w'=>e=.returned (.agg #[.int .i64 op,.int .i64 r,.int .i64 a,.int .i64 b,.int .i64 n])∧Below w.heap.size w w')) (hg:Hid (∀ w,Calls Tryz.prog 132 #[.agg #[.int .i64 op,.int .i64 r,.int .i64 a,.int .i64 b,.int .i64 n]] w fun e w'=>e=.returned (.bool false)∧Below w.heap.size w w')):Calls Tryz.prog 111 #[.agg #[.int .i64 op,.int .i64 r,.int .i64 a,.int .i64 b,.int .i64 n],.int .i64 pl] w fun e w'=>e=.returned (.bool (false))∧Below w.heap.size w w':=by
 have e1:=fun w=>neqStep_run op r a b n 0 0 0 0 0 w
 rw [decide_eq_false hz.out,Bool.not_false] at e1
 have e2:=fun w=>eqStep_run op r a b n op r a b n w
 rw [decide_eq_true ⟨rfl,rfl,rfl,rfl,rfl⟩] at e2
 go_enter Tryz.func111,Tryz.ntmps111
 go_wp2_with fail
 obtain ⟨W,hW⟩:∃ W,w.alloc (.cells #[.int .i64 op,.int .i64 r,.int .i64 a,.int .i64 b,.int .i64 n] 141)=W:=⟨_,rfl⟩
 obtain ⟨ka,z0,x0,x1,x2,x3,x4⟩:=box5 hW
 rw [hW]
 clear hW
 have K:Hid (Below w.heap.size w W):=ka
 clear ka
 have hne:=ext_ne W
 have u0:=Ext.fit x0 z0
 have u1:=Ext.fit x1 z0
 have u2:=Ext.fit x2 z0
 have u3:=Ext.fit x3 z0
 have u4:=Ext.fit x4 z0
 refine regionExt W (by kernel_rfl) (by kernel_rfl) ?_
 repeat (go_big_quiet_step (first | (rename_i X;go_at_call 131;refine (hn.out _).mono ?_;rintro e w3 ⟨rfl,hb3⟩;exact ⟨rfl,X.on hb3⟩) | (rename_i X;go_at_call 132;refine (hg.out _).mono ?_;rintro e w3 ⟨rfl,hb3⟩;exact ⟨rfl,X.on hb3⟩)))
 refine wpQuiet_nil ?_
 rintro w3 ⟨X3,rfl⟩
 have HB1:Hid (Below W.heap.size W X3.w):=X3.b
 clear u0 u1 u2 u3 u4 hne x0 x1 x2 x3 x4
 go_wp2
 go_ret
 exact ⟨rfl,K.out.trans (HB1.out.mono (by omega))⟩
set_option maxRecDepth 100000 in
set_option maxHeartbeats 1000000 in
theorem stepOk_num (op r a b n pl:Int) (q:Bool) (w:World) (hz:Hid (¬ (op=0∧r=0∧a=0∧b=0∧n=0))) (hn:Hid (∀ w,Calls Tryz.prog 131 #[.agg #[.int .i64 op,.int .i64 r,.int .i64 a,.int .i64 b,.int .i64 n]] w fun e w'=>e=.returned (.agg #[.int .i64 op,.int .i64 r,.int .i64 a,.int .i64 b,.int .i64 n])∧Below w.heap.size w w')) (hg:Hid (∀ w,Calls Tryz.prog 132 #[.agg #[.int .i64 op,.int .i64 r,.int .i64 a,.int .i64 b,.int .i64 n]] w fun e w'=>e=.returned (.bool true)∧Below w.heap.size w w')) (hu:Hid (∀ w,Calls Tryz.prog 133 #[.agg #[.int .i64 op,.int .i64 r,.int .i64 a,.int .i64 b,.int .i64 n],.int .i64 pl] w fun e w'=>e=.returned (.bool q)∧Below w.heap.size w w')):Calls Tryz.prog 111 #[.agg #[.int .i64 op,.int .i64 r,.int .i64 a,.int .i64 b,.int .i64 n],.int .i64 pl] w fun e w'=>e=.returned (.bool (q))∧Below w.heap.size w w':=by
 have e1:=fun w=>neqStep_run op r a b n 0 0 0 0 0 w
 rw [decide_eq_false hz.out,Bool.not_false] at e1
 have e2:=fun w=>eqStep_run op r a b n op r a b n w
 rw [decide_eq_true ⟨rfl,rfl,rfl,rfl,rfl⟩] at e2
 go_enter Tryz.func111,Tryz.ntmps111
 go_wp2_with fail
 obtain ⟨W,hW⟩:∃ W,w.alloc (.cells #[.int .i64 op,.int .i64 r,.int .i64 a,.int .i64 b,.int .i64 n] 141)=W:=⟨_,rfl⟩
 obtain ⟨ka,z0,x0,x1,x2,x3,x4⟩:=box5 hW
 rw [hW]
 clear hW
 have K:Hid (Below w.heap.size w W):=ka
 clear ka
 have hne:=ext_ne W
 have u0:=Ext.fit x0 z0
 have u1:=Ext.fit x1 z0
 have u2:=Ext.fit x2 z0
 have u3:=Ext.fit x3 z0
 have u4:=Ext.fit x4 z0
 refine regionExt W (by kernel_rfl) (by kernel_rfl) ?_
 repeat (go_big_quiet_step (first | (rename_i X;go_at_call 131;refine (hn.out _).mono ?_;rintro e w3 ⟨rfl,hb3⟩;exact ⟨rfl,X.on hb3⟩) | (rename_i X;go_at_call 132;refine (hg.out _).mono ?_;rintro e w3 ⟨rfl,hb3⟩;exact ⟨rfl,X.on hb3⟩) | (rename_i X;go_at_call 133;refine (hu.out _).mono ?_;rintro e w3 ⟨rfl,hb3⟩;exact ⟨rfl,X.on hb3⟩)))
 refine wpQuiet_nil ?_
 rintro w3 ⟨X3,rfl⟩
 have HB1:Hid (Below W.heap.size W X3.w):=X3.b
 clear u0 u1 u2 u3 u4 hne x0 x1 x2 x3 x4
 go_wp2
 go_ret
 exact ⟨rfl,K.out.trans (HB1.out.mono (by omega))⟩
theorem stepOk_1 (r a b n pl:Int) (w:World):Calls Tryz.prog 111 #[.agg #[.int .i64 1,.int .i64 r,.int .i64 a,.int .i64 b,.int .i64 n],.int .i64 pl] w fun e w'=>e=.returned (.bool (Plain.stepB 1 r a b n pl))∧Below w.heap.size w w':=by
 by_cases heq:a=0∧b=0
 ·obtain ⟨rfl,rfl⟩:=heq
  cases hr:Plain.regsB 1 r 0 0
  ·refine (stepOk_regs 1 r 0 0 n pl w (fun h=>absurd h.1 (by decide)) (fun w=>named_1 r 0 0 n w) (fun w=>by have h:=regs_any 1 r 0 0 n w;rw [hr] at h;exact h)).mono ?_
   rintro e w' ⟨rfl,hb⟩
   exact ⟨ret_bool (by revert hr;simp [Plain.stepB,Plain.regsB,Plain.oneB,Plain.memB];try omega),hb⟩
  ·refine (stepOk_num 1 r 0 0 n pl (Plain.nB 1 n pl) w (fun h=>absurd h.1 (by decide)) (fun w=>named_1 r 0 0 n w) (fun w=>by have h:=regs_any 1 r 0 0 n w;rw [hr] at h;exact h) (fun w=>num_1 r 0 0 n pl w)).mono ?_
   rintro e w' ⟨rfl,hb⟩
   exact ⟨ret_bool (by rw [Bool.eq_iff_iff];revert hr;simp [Plain.stepB,Plain.regsB,Plain.oneB,Plain.memB,Plain.nB,Plain.numB];try omega),hb⟩
 ·refine (stepOk_ne 1 r a b n pl 1 r 0 0 n w (fun h=>absurd h.1 (by decide)) (fun h=>heq (by omega)) (fun w=>named_1 r a b n w)).mono ?_
  rintro e w' ⟨rfl,hb⟩
  exact ⟨ret_bool (by simp [Plain.stepB];omega),hb⟩
theorem stepOk_2 (r a b n pl:Int) (w:World):Calls Tryz.prog 111 #[.agg #[.int .i64 2,.int .i64 r,.int .i64 a,.int .i64 b,.int .i64 n],.int .i64 pl] w fun e w'=>e=.returned (.bool (Plain.stepB 2 r a b n pl))∧Below w.heap.size w w':=by
 by_cases heq:n=0
 ·obtain rfl:=heq
  cases hr:Plain.regsB 2 r a b
  ·refine (stepOk_regs 2 r a b 0 pl w (fun h=>absurd h.1 (by decide)) (fun w=>named_2 r a b 0 w) (fun w=>by have h:=regs_any 2 r a b 0 w;rw [hr] at h;exact h)).mono ?_
   rintro e w' ⟨rfl,hb⟩
   exact ⟨ret_bool (by revert hr;simp [Plain.stepB,Plain.regsB,Plain.oneB,Plain.memB];try omega),hb⟩
  ·refine (stepOk_num 2 r a b 0 pl (Plain.nB 2 0 pl) w (fun h=>absurd h.1 (by decide)) (fun w=>named_2 r a b 0 w) (fun w=>by have h:=regs_any 2 r a b 0 w;rw [hr] at h;exact h) (fun w=>num_2 r a b 0 pl w)).mono ?_
   rintro e w' ⟨rfl,hb⟩
   exact ⟨ret_bool (by rw [Bool.eq_iff_iff];revert hr;simp [Plain.stepB,Plain.regsB,Plain.oneB,Plain.memB,Plain.nB,Plain.numB];try omega),hb⟩
 ·refine (stepOk_ne 2 r a b n pl 2 r a b 0 w (fun h=>absurd h.1 (by decide)) (fun h=>heq (by omega)) (fun w=>named_2 r a b n w)).mono ?_
  rintro e w' ⟨rfl,hb⟩
  exact ⟨ret_bool (by simp [Plain.stepB];omega),hb⟩
theorem stepOk_3 (r a b n pl:Int) (w:World):Calls Tryz.prog 111 #[.agg #[.int .i64 3,.int .i64 r,.int .i64 a,.int .i64 b,.int .i64 n],.int .i64 pl] w fun e w'=>e=.returned (.bool (Plain.stepB 3 r a b n pl))∧Below w.heap.size w w':=by
 by_cases heq:n=0
 ·obtain rfl:=heq
  cases hr:Plain.regsB 3 r a b
  ·refine (stepOk_regs 3 r a b 0 pl w (fun h=>absurd h.1 (by decide)) (fun w=>named_3 r a b 0 w) (fun w=>by have h:=regs_any 3 r a b 0 w;rw [hr] at h;exact h)).mono ?_
   rintro e w' ⟨rfl,hb⟩
   exact ⟨ret_bool (by revert hr;simp [Plain.stepB,Plain.regsB,Plain.oneB,Plain.memB];try omega),hb⟩
  ·refine (stepOk_num 3 r a b 0 pl (Plain.nB 3 0 pl) w (fun h=>absurd h.1 (by decide)) (fun w=>named_3 r a b 0 w) (fun w=>by have h:=regs_any 3 r a b 0 w;rw [hr] at h;exact h) (fun w=>num_3 r a b 0 pl w)).mono ?_
   rintro e w' ⟨rfl,hb⟩
   exact ⟨ret_bool (by rw [Bool.eq_iff_iff];revert hr;simp [Plain.stepB,Plain.regsB,Plain.oneB,Plain.memB,Plain.nB,Plain.numB];try omega),hb⟩
 ·refine (stepOk_ne 3 r a b n pl 3 r a b 0 w (fun h=>absurd h.1 (by decide)) (fun h=>heq (by omega)) (fun w=>named_3 r a b n w)).mono ?_
  rintro e w' ⟨rfl,hb⟩
  exact ⟨ret_bool (by simp [Plain.stepB];omega),hb⟩
theorem stepOk_4 (r a b n pl:Int) (w:World):Calls Tryz.prog 111 #[.agg #[.int .i64 4,.int .i64 r,.int .i64 a,.int .i64 b,.int .i64 n],.int .i64 pl] w fun e w'=>e=.returned (.bool (Plain.stepB 4 r a b n pl))∧Below w.heap.size w w':=by
 by_cases heq:n=0
 ·obtain rfl:=heq
  cases hr:Plain.regsB 4 r a b
  ·refine (stepOk_regs 4 r a b 0 pl w (fun h=>absurd h.1 (by decide)) (fun w=>named_4 r a b 0 w) (fun w=>by have h:=regs_any 4 r a b 0 w;rw [hr] at h;exact h)).mono ?_
   rintro e w' ⟨rfl,hb⟩
   exact ⟨ret_bool (by revert hr;simp [Plain.stepB,Plain.regsB,Plain.oneB,Plain.memB];try omega),hb⟩
  ·refine (stepOk_num 4 r a b 0 pl (Plain.nB 4 0 pl) w (fun h=>absurd h.1 (by decide)) (fun w=>named_4 r a b 0 w) (fun w=>by have h:=regs_any 4 r a b 0 w;rw [hr] at h;exact h) (fun w=>num_4 r a b 0 pl w)).mono ?_
   rintro e w' ⟨rfl,hb⟩
   exact ⟨ret_bool (by rw [Bool.eq_iff_iff];revert hr;simp [Plain.stepB,Plain.regsB,Plain.oneB,Plain.memB,Plain.nB,Plain.numB];try omega),hb⟩
 ·refine (stepOk_ne 4 r a b n pl 4 r a b 0 w (fun h=>absurd h.1 (by decide)) (fun h=>heq (by omega)) (fun w=>named_4 r a b n w)).mono ?_
  rintro e w' ⟨rfl,hb⟩
  exact ⟨ret_bool (by simp [Plain.stepB];omega),hb⟩
theorem stepOk_5 (r a b n pl:Int) (w:World):Calls Tryz.prog 111 #[.agg #[.int .i64 5,.int .i64 r,.int .i64 a,.int .i64 b,.int .i64 n],.int .i64 pl] w fun e w'=>e=.returned (.bool (Plain.stepB 5 r a b n pl))∧Below w.heap.size w w':=by
 by_cases heq:b=0
 ·obtain rfl:=heq
  cases hr:Plain.regsB 5 r a 0
  ·refine (stepOk_regs 5 r a 0 n pl w (fun h=>absurd h.1 (by decide)) (fun w=>named_5 r a 0 n w) (fun w=>by have h:=regs_any 5 r a 0 n w;rw [hr] at h;exact h)).mono ?_
   rintro e w' ⟨rfl,hb⟩
   exact ⟨ret_bool (by revert hr;simp [Plain.stepB,Plain.regsB,Plain.oneB,Plain.memB];try omega),hb⟩
  ·refine (stepOk_num 5 r a 0 n pl (Plain.nB 5 n pl) w (fun h=>absurd h.1 (by decide)) (fun w=>named_5 r a 0 n w) (fun w=>by have h:=regs_any 5 r a 0 n w;rw [hr] at h;exact h) (fun w=>num_5 r a 0 n pl w)).mono ?_
   rintro e w' ⟨rfl,hb⟩
   exact ⟨ret_bool (by rw [Bool.eq_iff_iff];revert hr;simp [Plain.stepB,Plain.regsB,Plain.oneB,Plain.memB,Plain.nB,Plain.numB];try omega),hb⟩
 ·refine (stepOk_ne 5 r a b n pl 5 r a 0 n w (fun h=>absurd h.1 (by decide)) (fun h=>heq (by omega)) (fun w=>named_5 r a b n w)).mono ?_
  rintro e w' ⟨rfl,hb⟩
  exact ⟨ret_bool (by simp [Plain.stepB];omega),hb⟩
theorem stepOk_6 (r a b n pl:Int) (w:World):Calls Tryz.prog 111 #[.agg #[.int .i64 6,.int .i64 r,.int .i64 a,.int .i64 b,.int .i64 n],.int .i64 pl] w fun e w'=>e=.returned (.bool (Plain.stepB 6 r a b n pl))∧Below w.heap.size w w':=by
 by_cases heq:r=0
 ·obtain rfl:=heq
  cases hr:Plain.regsB 6 0 a b
  ·refine (stepOk_regs 6 0 a b n pl w (fun h=>absurd h.1 (by decide)) (fun w=>named_6 0 a b n w) (fun w=>by have h:=regs_any 6 0 a b n w;rw [hr] at h;exact h)).mono ?_
   rintro e w' ⟨rfl,hb⟩
   exact ⟨ret_bool (by revert hr;simp [Plain.stepB,Plain.regsB,Plain.oneB,Plain.memB];try omega),hb⟩
  ·refine (stepOk_num 6 0 a b n pl (Plain.nB 6 n pl) w (fun h=>absurd h.1 (by decide)) (fun w=>named_6 0 a b n w) (fun w=>by have h:=regs_any 6 0 a b n w;rw [hr] at h;exact h) (fun w=>num_6 0 a b n pl w)).mono ?_
   rintro e w' ⟨rfl,hb⟩
   exact ⟨ret_bool (by rw [Bool.eq_iff_iff];revert hr;simp [Plain.stepB,Plain.regsB,Plain.oneB,Plain.memB,Plain.nB,Plain.numB];try omega),hb⟩
 ·refine (stepOk_ne 6 r a b n pl 6 0 a b n w (fun h=>absurd h.1 (by decide)) (fun h=>heq (by omega)) (fun w=>named_6 r a b n w)).mono ?_
  rintro e w' ⟨rfl,hb⟩
  exact ⟨ret_bool (by simp [Plain.stepB];omega),hb⟩
theorem stepOk_7 (r a b n pl:Int) (w:World):Calls Tryz.prog 111 #[.agg #[.int .i64 7,.int .i64 r,.int .i64 a,.int .i64 b,.int .i64 n],.int .i64 pl] w fun e w'=>e=.returned (.bool (Plain.stepB 7 r a b n pl))∧Below w.heap.size w w':=by
 by_cases heq:r=0
 ·obtain rfl:=heq
  cases hr:Plain.regsB 7 0 a b
  ·refine (stepOk_regs 7 0 a b n pl w (fun h=>absurd h.1 (by decide)) (fun w=>named_7 0 a b n w) (fun w=>by have h:=regs_any 7 0 a b n w;rw [hr] at h;exact h)).mono ?_
   rintro e w' ⟨rfl,hb⟩
   exact ⟨ret_bool (by revert hr;simp [Plain.stepB,Plain.regsB,Plain.oneB,Plain.memB];try omega),hb⟩
  ·refine (stepOk_num 7 0 a b n pl (Plain.nB 7 n pl) w (fun h=>absurd h.1 (by decide)) (fun w=>named_7 0 a b n w) (fun w=>by have h:=regs_any 7 0 a b n w;rw [hr] at h;exact h) (fun w=>num_7 0 a b n pl w)).mono ?_
   rintro e w' ⟨rfl,hb⟩
   exact ⟨ret_bool (by rw [Bool.eq_iff_iff];revert hr;simp [Plain.stepB,Plain.regsB,Plain.oneB,Plain.memB,Plain.nB,Plain.numB];try omega),hb⟩
 ·refine (stepOk_ne 7 r a b n pl 7 0 a b n w (fun h=>absurd h.1 (by decide)) (fun h=>heq (by omega)) (fun w=>named_7 r a b n w)).mono ?_
  rintro e w' ⟨rfl,hb⟩
  exact ⟨ret_bool (by simp [Plain.stepB];omega),hb⟩
theorem stepOk_8 (r a b n pl:Int) (w:World):Calls Tryz.prog 111 #[.agg #[.int .i64 8,.int .i64 r,.int .i64 a,.int .i64 b,.int .i64 n],.int .i64 pl] w fun e w'=>e=.returned (.bool (Plain.stepB 8 r a b n pl))∧Below w.heap.size w w':=by
 by_cases heq:a=0
 ·obtain rfl:=heq
  cases hr:Plain.regsB 8 r 0 b
  ·refine (stepOk_regs 8 r 0 b n pl w (fun h=>absurd h.1 (by decide)) (fun w=>named_8 r 0 b n w) (fun w=>by have h:=regs_any 8 r 0 b n w;rw [hr] at h;exact h)).mono ?_
   rintro e w' ⟨rfl,hb⟩
   exact ⟨ret_bool (by revert hr;simp [Plain.stepB,Plain.regsB,Plain.oneB,Plain.memB];try omega),hb⟩
  ·refine (stepOk_num 8 r 0 b n pl (Plain.nB 8 n pl) w (fun h=>absurd h.1 (by decide)) (fun w=>named_8 r 0 b n w) (fun w=>by have h:=regs_any 8 r 0 b n w;rw [hr] at h;exact h) (fun w=>num_8 r 0 b n pl w)).mono ?_
   rintro e w' ⟨rfl,hb⟩
   exact ⟨ret_bool (by rw [Bool.eq_iff_iff];revert hr;simp [Plain.stepB,Plain.regsB,Plain.oneB,Plain.memB,Plain.nB,Plain.numB];try omega),hb⟩
 ·refine (stepOk_ne 8 r a b n pl 8 r 0 b n w (fun h=>absurd h.1 (by decide)) (fun h=>heq (by omega)) (fun w=>named_8 r a b n w)).mono ?_
  rintro e w' ⟨rfl,hb⟩
  exact ⟨ret_bool (by simp [Plain.stepB];omega),hb⟩
theorem stepOk_9 (r a b n pl:Int) (w:World):Calls Tryz.prog 111 #[.agg #[.int .i64 9,.int .i64 r,.int .i64 a,.int .i64 b,.int .i64 n],.int .i64 pl] w fun e w'=>e=.returned (.bool (Plain.stepB 9 r a b n pl))∧Below w.heap.size w w':=by
 by_cases heq:r=0∧b=0∧n=0
 ·obtain ⟨rfl,rfl,rfl⟩:=heq
  cases hr:Plain.regsB 9 0 a 0
  ·refine (stepOk_regs 9 0 a 0 0 pl w (fun h=>absurd h.1 (by decide)) (fun w=>named_9 0 a 0 0 w) (fun w=>by have h:=regs_any 9 0 a 0 0 w;rw [hr] at h;exact h)).mono ?_
   rintro e w' ⟨rfl,hb⟩
   exact ⟨ret_bool (by revert hr;simp [Plain.stepB,Plain.regsB,Plain.oneB,Plain.memB];try omega),hb⟩
  ·refine (stepOk_num 9 0 a 0 0 pl (Plain.nB 9 0 pl) w (fun h=>absurd h.1 (by decide)) (fun w=>named_9 0 a 0 0 w) (fun w=>by have h:=regs_any 9 0 a 0 0 w;rw [hr] at h;exact h) (fun w=>num_9 0 a 0 0 pl w)).mono ?_
   rintro e w' ⟨rfl,hb⟩
   exact ⟨ret_bool (by rw [Bool.eq_iff_iff];revert hr;simp [Plain.stepB,Plain.regsB,Plain.oneB,Plain.memB,Plain.nB,Plain.numB];try omega),hb⟩
 ·refine (stepOk_ne 9 r a b n pl 9 0 a 0 0 w (fun h=>absurd h.1 (by decide)) (fun h=>heq (by omega)) (fun w=>named_9 r a b n w)).mono ?_
  rintro e w' ⟨rfl,hb⟩
  exact ⟨ret_bool (by simp [Plain.stepB];omega),hb⟩
theorem stepOk_10 (r a b n pl:Int) (w:World):Calls Tryz.prog 111 #[.agg #[.int .i64 10,.int .i64 r,.int .i64 a,.int .i64 b,.int .i64 n],.int .i64 pl] w fun e w'=>e=.returned (.bool (Plain.stepB 10 r a b n pl))∧Below w.heap.size w w':=by
 by_cases heq:r=0∧a=0∧b=0
 ·obtain ⟨rfl,rfl,rfl⟩:=heq
  cases hr:Plain.regsB 10 0 0 0
  ·refine (stepOk_regs 10 0 0 0 n pl w (fun h=>absurd h.1 (by decide)) (fun w=>named_10 0 0 0 n w) (fun w=>by have h:=regs_any 10 0 0 0 n w;rw [hr] at h;exact h)).mono ?_
   rintro e w' ⟨rfl,hb⟩
   exact ⟨ret_bool (by revert hr;simp [Plain.stepB,Plain.regsB,Plain.oneB,Plain.memB];try omega),hb⟩
  ·refine (stepOk_num 10 0 0 0 n pl (Plain.nB 10 n pl) w (fun h=>absurd h.1 (by decide)) (fun w=>named_10 0 0 0 n w) (fun w=>by have h:=regs_any 10 0 0 0 n w;rw [hr] at h;exact h) (fun w=>num_10 0 0 0 n pl w)).mono ?_
   rintro e w' ⟨rfl,hb⟩
   exact ⟨ret_bool (by rw [Bool.eq_iff_iff];revert hr;simp [Plain.stepB,Plain.regsB,Plain.oneB,Plain.memB,Plain.nB,Plain.numB];try omega),hb⟩
 ·refine (stepOk_ne 10 r a b n pl 10 0 0 0 n w (fun h=>absurd h.1 (by decide)) (fun h=>heq (by omega)) (fun w=>named_10 r a b n w)).mono ?_
  rintro e w' ⟨rfl,hb⟩
  exact ⟨ret_bool (by simp [Plain.stepB];omega),hb⟩
theorem stepOk_11 (r a b n pl:Int) (w:World):Calls Tryz.prog 111 #[.agg #[.int .i64 11,.int .i64 r,.int .i64 a,.int .i64 b,.int .i64 n],.int .i64 pl] w fun e w'=>e=.returned (.bool (Plain.stepB 11 r a b n pl))∧Below w.heap.size w w':=by
 by_cases heq:r=0∧b=0
 ·obtain ⟨rfl,rfl⟩:=heq
  cases hr:Plain.regsB 11 0 a 0
  ·refine (stepOk_regs 11 0 a 0 n pl w (fun h=>absurd h.1 (by decide)) (fun w=>named_11 0 a 0 n w) (fun w=>by have h:=regs_any 11 0 a 0 n w;rw [hr] at h;exact h)).mono ?_
   rintro e w' ⟨rfl,hb⟩
   exact ⟨ret_bool (by revert hr;simp [Plain.stepB,Plain.regsB,Plain.oneB,Plain.memB];try omega),hb⟩
  ·refine (stepOk_num 11 0 a 0 n pl (Plain.nB 11 n pl) w (fun h=>absurd h.1 (by decide)) (fun w=>named_11 0 a 0 n w) (fun w=>by have h:=regs_any 11 0 a 0 n w;rw [hr] at h;exact h) (fun w=>num_11 0 a 0 n pl w)).mono ?_
   rintro e w' ⟨rfl,hb⟩
   exact ⟨ret_bool (by rw [Bool.eq_iff_iff];revert hr;simp [Plain.stepB,Plain.regsB,Plain.oneB,Plain.memB,Plain.nB,Plain.numB];try omega),hb⟩
 ·refine (stepOk_ne 11 r a b n pl 11 0 a 0 n w (fun h=>absurd h.1 (by decide)) (fun h=>heq (by omega)) (fun w=>named_11 r a b n w)).mono ?_
  rintro e w' ⟨rfl,hb⟩
  exact ⟨ret_bool (by simp [Plain.stepB];omega),hb⟩
theorem stepOk_12 (r a b n pl:Int) (w:World):Calls Tryz.prog 111 #[.agg #[.int .i64 12,.int .i64 r,.int .i64 a,.int .i64 b,.int .i64 n],.int .i64 pl] w fun e w'=>e=.returned (.bool (Plain.stepB 12 r a b n pl))∧Below w.heap.size w w':=by
 by_cases heq:r=0∧a=0∧b=0∧n=0
 ·obtain ⟨rfl,rfl,rfl,rfl⟩:=heq
  cases hr:Plain.regsB 12 0 0 0
  ·refine (stepOk_regs 12 0 0 0 0 pl w (fun h=>absurd h.1 (by decide)) (fun w=>named_12 0 0 0 0 w) (fun w=>by have h:=regs_any 12 0 0 0 0 w;rw [hr] at h;exact h)).mono ?_
   rintro e w' ⟨rfl,hb⟩
   exact ⟨ret_bool (by revert hr;simp [Plain.stepB,Plain.regsB,Plain.oneB,Plain.memB];try omega),hb⟩
  ·refine (stepOk_num 12 0 0 0 0 pl (Plain.nB 12 0 pl) w (fun h=>absurd h.1 (by decide)) (fun w=>named_12 0 0 0 0 w) (fun w=>by have h:=regs_any 12 0 0 0 0 w;rw [hr] at h;exact h) (fun w=>num_12 0 0 0 0 pl w)).mono ?_
   rintro e w' ⟨rfl,hb⟩
   exact ⟨ret_bool (by rw [Bool.eq_iff_iff];revert hr;simp [Plain.stepB,Plain.regsB,Plain.oneB,Plain.memB,Plain.nB,Plain.numB];try omega),hb⟩
 ·refine (stepOk_ne 12 r a b n pl 12 0 0 0 0 w (fun h=>absurd h.1 (by decide)) (fun h=>heq (by omega)) (fun w=>named_12 r a b n w)).mono ?_
  rintro e w' ⟨rfl,hb⟩
  exact ⟨ret_bool (by simp [Plain.stepB];omega),hb⟩
theorem stepOk_13 (r a b n pl:Int) (w:World):Calls Tryz.prog 111 #[.agg #[.int .i64 13,.int .i64 r,.int .i64 a,.int .i64 b,.int .i64 n],.int .i64 pl] w fun e w'=>e=.returned (.bool (Plain.stepB 13 r a b n pl))∧Below w.heap.size w w':=by
 by_cases heq:r=0∧a=0∧b=0∧n=0
 ·obtain ⟨rfl,rfl,rfl,rfl⟩:=heq
  cases hr:Plain.regsB 13 0 0 0
  ·refine (stepOk_regs 13 0 0 0 0 pl w (fun h=>absurd h.1 (by decide)) (fun w=>named_13 0 0 0 0 w) (fun w=>by have h:=regs_any 13 0 0 0 0 w;rw [hr] at h;exact h)).mono ?_
   rintro e w' ⟨rfl,hb⟩
   exact ⟨ret_bool (by revert hr;simp [Plain.stepB,Plain.regsB,Plain.oneB,Plain.memB];try omega),hb⟩
  ·refine (stepOk_num 13 0 0 0 0 pl (Plain.nB 13 0 pl) w (fun h=>absurd h.1 (by decide)) (fun w=>named_13 0 0 0 0 w) (fun w=>by have h:=regs_any 13 0 0 0 0 w;rw [hr] at h;exact h) (fun w=>num_13 0 0 0 0 pl w)).mono ?_
   rintro e w' ⟨rfl,hb⟩
   exact ⟨ret_bool (by rw [Bool.eq_iff_iff];revert hr;simp [Plain.stepB,Plain.regsB,Plain.oneB,Plain.memB,Plain.nB,Plain.numB];try omega),hb⟩
 ·refine (stepOk_ne 13 r a b n pl 13 0 0 0 0 w (fun h=>absurd h.1 (by decide)) (fun h=>heq (by omega)) (fun w=>named_13 r a b n w)).mono ?_
  rintro e w' ⟨rfl,hb⟩
  exact ⟨ret_bool (by simp [Plain.stepB];omega),hb⟩
theorem stepOk_any (op r a b n pl:Int) (w:World):Calls Tryz.prog 111 #[.agg #[.int .i64 op,.int .i64 r,.int .i64 a,.int .i64 b,.int .i64 n],.int .i64 pl] w fun e w'=>e=.returned (.bool (Plain.stepB op r a b n pl))∧Below w.heap.size w w':=by
 by_cases e1:op=1
 ·subst e1;exact stepOk_1 r a b n pl w
 by_cases e2:op=2
 ·subst e2;exact stepOk_2 r a b n pl w
 by_cases e3:op=3
 ·subst e3;exact stepOk_3 r a b n pl w
 by_cases e4:op=4
 ·subst e4;exact stepOk_4 r a b n pl w
 by_cases e5:op=5
 ·subst e5;exact stepOk_5 r a b n pl w
 by_cases e6:op=6
 ·subst e6;exact stepOk_6 r a b n pl w
 by_cases e7:op=7
 ·subst e7;exact stepOk_7 r a b n pl w
 by_cases e8:op=8
 ·subst e8;exact stepOk_8 r a b n pl w
 by_cases e9:op=9
 ·subst e9;exact stepOk_9 r a b n pl w
 by_cases e10:op=10
 ·subst e10;exact stepOk_10 r a b n pl w
 by_cases e11:op=11
 ·subst e11;exact stepOk_11 r a b n pl w
 by_cases e12:op=12
 ·subst e12;exact stepOk_12 r a b n pl w
 by_cases e13:op=13
 ·subst e13;exact stepOk_13 r a b n pl w
 by_cases hz:op=0∧r=0∧a=0∧b=0∧n=0
 ·refine (stepOk_zero op r a b n pl w hz).mono ?_
  rintro e w' ⟨rfl,hb⟩
  exact ⟨ret_bool (by simp [Plain.stepB];omega),hb⟩
 ·refine (stepOk_ne op r a b n pl 0 0 0 0 0 w hz hz (fun w=>named_0 op r a b n w (by simpa using e1) (by simpa using e2) (by simpa using e3) (by simpa using e4) (by simpa using e5) (by simpa using e6) (by simpa using e7) (by simpa using e8) (by simpa using e9) (by simpa using e10) (by simpa using e11) (by simpa using e12) (by simpa using e13))).mono ?_
  rintro e w' ⟨rfl,hb⟩
  exact ⟨ret_bool (by simp [Plain.stepB];omega),hb⟩
end Go.Proofs.YtlbeploopclegaaGreat
