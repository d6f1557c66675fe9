/- Store and Swap's last step, in the program and in the specification. Conditions: what is right. The plain side of chapter 7: when a step of a core is right, and its word: functions of integers alone. No condition. The leaves of chapter 7: what each small function of the program answers, for every argument, in every world; which step has what its op names alone. No condition. laws.toStep hands its Step on, field by field, in new memory. No condition. Lists of steps as they lie in memory, and how the laws copy them. Conditions: lists of at most 1048576 steps. laws.eqStep says yes of a step and itself; it makes memory, and turns none. No condition. StepOk of the program, at every step and every count of places, in every world: it returns what the plain law says; it makes memory, and turns none. No condition. StepOk of the specification (package spec), at every step and every count of places, in every world: it returns what the plain law says; it makes memory, and turns none. No condition. -/
import Derived.Test.YtkhjhibigldcgaaGreatBG00
import Derived.Test.YtkhjhibigldcgaaGreatBG08
import Derived.Test.YtkhjhibigldcgaaGreatBG07
import Derived.Test.YtkhjhibigldcgaaGreatBG04
import Derived.WalkKit
import Derived.Test.YtkhjhibigldcgaaGreatBSpecIns
import Derived.Test.YtkhjhibigldcgaaGreatBLeaves
import Derived.Test.YtkhjhibigldcgaaGreatChecked
import Derived.KernelRfl
import Derived.WalkSpells
import Derived.WalkLawsBesides
import Derived.Test.YtkhjhibigldcgaaGreatBG01
import Derived.Laws.MakeOwn
import Derived.Deep.QuietTactic
import Derived.BigQuiet
namespace Go.Proofs.YtkhjhibigldcgaaGreat
section
set_option linter.unusedSimpArgs false
set_option linter.unusedVariables false
set_option maxRecDepth 100000
open Go.RowKit
def toldL (l:List Int) (k n:Nat) (b:Bool):List Int:=if b=true then l.set k (n:Int) else (List.replicate 24 (0:Int)).set k (n:Int)
theorem OW.far {w X:World} {B g:Nat} {v:Value} {S:List RS} {m:List (List WD)} (h:OW w B v S m) (hne:∀ (i:Nat) (r:RS),S[i]? =some r→0 < r.vs.length) (hv:v.ownBlock≠some g) (hsep:∀ a∈mAs S,a.block≠g) (hk:∀ b,b < w.heap.size→b≠g→X.heap[b]? =w.heap[b]?) (hs:w.heap.size≤X.heap.size):OW X B v S m:=by
 refine ⟨h.n,ownKeep' h.row (fun b e=>hk b (World.ownsRow.lt h.row _ e).2 (fun e'=>hv (by rw [e,e']))),fun i r l hr hl=>?_,h.d⟩
 have q:=h.r i r l hr hl
 refine q.kept (fun b e=>hk b (World.ownsRow.lt q.own _ e).2 (fun e'=>?_)) (fun a ha=>hk _ (q.blk ha).2 ?_) hs
 ·obtain ⟨g1,cap1,f1,-⟩:=World.ownsRow.form q.own (hne i r hr)
  have s1:r.s=some ⟨g1,0,none⟩:=by unfold RS.val at f1;injection f1 with f1
  have b1:g1=b:=by unfold RS.val at e;rw [s1] at e;injection e
  exact hsep ⟨g1,0,none⟩ (mem_mAs.2 ⟨r,List.mem_of_getElem? hr,mem_rAs.2 (.inl ⟨0,hne i r hr,by rw [s1];rfl⟩)⟩) (by show g1=g;omega)
 ·obtain ⟨x',hx',hax⟩:=mem_vsA.1 ha
  exact hsep a (mem_mAs.2 ⟨r,List.mem_of_getElem? hr,mem_rAs.2 (.inr ⟨x',hx',hax⟩)⟩)
theorem OW.outNe {w:World} {B gO n c:Nat} {S:List RS} {m:List (List WD)} (h:OW w B (.slice (some ⟨gO,0,none⟩) n c) S m) {k:Nat} {r:RS} {l:List WD} (hk:S[k]? =some r) (hl:m[k]? =some l) {b:Nat} (e:r.val.ownBlock=some b):b≠gO:=fun e'=>by
 subst e'
 obtain ⟨cs,c1⟩:=(h.r k r l hk hl).blkT e
 obtain ⟨cs',ocs⟩:=rows_blkT h.row (k:=b) rfl
 rw [c1] at ocs
 injection ocs with ocs
 injection ocs with _ ocs
 exact absurd ocs (by decide)
end
section
set_option linter.unusedSimpArgs false
set_option linter.unusedVariables false
set_option maxRecDepth 100000
namespace Plain
def stepB (op r a b n pl:Int):Bool:=
 decide (0≤r∧r≤7∧0≤b∧b≤7∧a≤7∧(0≤a∨(a=-1∧(op=5∨op=6∨op=7)))∧
  ((op=1∧ -1000000000≤n∧n≤1000000000∧a=0∧b=0)
   ∨((op=2∨op=3∨op=4)∧n=0)
   ∨(op=5∧0≤n∧n≤23∧b=0)
   ∨((op=6∨op=7)∧0≤n∧n≤23∧r=0)
   ∨(op=8∧0≤n∧n≤23∧a=0)
   ∨(op=9∧r=0∧b=0∧n=0)
   ∨(op=10∧0≤n∧n < pl∧r=0∧a=0∧b=0)
   ∨(op=11∧0≤n∧n < pl∧r=0∧b=0)
   ∨((op=12∨op=13)∧r=0∧a=0∧b=0∧n=0)))
def memB (op:Int):Bool:=decide (op=5∨op=6∨op=7)
def endB (op:Int):Bool:=decide (op=10∨op=12∨op=13)
end Plain
end
section
set_option linter.unusedSimpArgs false
set_option linter.unusedVariables false
set_option maxRecDepth 100000
open Go.RowKit
theorem isOneOf_is (n c:Int) (v:Bool) (w:World) (h:Plain.oneB n c=v):Calls Tryz.prog 12 #[.int .i64 n,.int .i64 c] w fun e w'=>e=.returned (.bool v)∧w'=w:=by
 subst h
 exact isOneOf_any n c w
end
section
set_option linter.unusedSimpArgs false
set_option linter.unusedVariables false
set_option maxRecDepth 100000
open Go.RowKit
end
section
set_option linter.unusedSimpArgs false
set_option linter.unusedVariables false
set_option maxRecDepth 100000
open Go.RowKit
end
section
set_option linter.unusedSimpArgs false
set_option linter.unusedVariables false
set_option maxRecDepth 100000
open Go.RowKit
end
section
set_option linter.unusedSimpArgs false
set_option linter.unusedVariables false
set_option maxRecDepth 100000
open Go.RowKit
theorem eqStep_run (o r a b n o' r' a' b' n':Int) (w:World):(binOp .eql 65 (.agg #[.int .i64 o,.int .i64 r,.int .i64 a,.int .i64 b,.int .i64 n]) (.agg #[.int .i64 o',.int .i64 r',.int .i64 a',.int .i64 b',.int .i64 n'])).run Tryz.prog w=.ok (.bool (decide (o=o'∧r=r'∧a=a'∧b=b'∧n=n'))) w:=by
 simp [go_sem]
 by_cases h1:o=o'<;>by_cases h2:r=r'<;>by_cases h3:a=a'<;>by_cases h4:b=b'<;>by_cases h5:n=n'<;>simp [h1,h2,h3,h4,h5]
end
section
set_option linter.unusedSimpArgs false
set_option linter.unusedVariables false
set_option maxRecDepth 100000
open Go.RowKit
theorem l7Reg_any (x:Int) (w:World):Calls Tryz.prog 85 #[.int .i64 x] w fun e w'=>e=.returned (.bool (Plain.inB x 0 7))∧w'=w:=by
 go_enter Tryz.func85,Tryz.ntmps85
 go_wp2_with (go_at_call 13;refine (l1In_any _ _ _ _).mono ?_;rintro e w' ⟨rfl,rfl⟩)
 go_ret
 exact ⟨rfl,rfl⟩
theorem l7Reg_is (x:Int) (v:Bool) (w:World) (h:Plain.inB x 0 7=v):Calls Tryz.prog 85 #[.int .i64 x] w fun e w'=>e=.returned (.bool v)∧w'=w:=by
 subst h
 exact l7Reg_any x w
theorem l1In_is (x lo hi:Int) (v:Bool) (w:World) (h:Plain.inB x lo hi=v):Calls Tryz.prog 13 #[.int .i64 x,.int .i64 lo,.int .i64 hi] w fun e w'=>e=.returned (.bool v)∧w'=w:=by
 subst h
 exact l1In_any x lo hi w
set_option maxRecDepth 100000 in
set_option maxHeartbeats 1000000 in
theorem specBadR_x (op r a b n pl:Int) (w:World) (o5:(op==5)=false) (o6:(op==6)=false) (o7:(op==7)=false) (h1:Plain.inB r 0 7=false):Calls Tryz.prog 59 #[.agg #[.int .i64 op,.int .i64 r,.int .i64 a,.int .i64 b,.int .i64 n],.int .i64 pl] w fun e w'=>e=.returned (.bool false)∧Below w.heap.size w w':=by
 go_enter Tryz.func59,Tryz.ntmps59
 go_wp2_with (go_at_call 85;(first | refine (l7Reg_is _ _ _ h1).mono ?_);rintro e w' ⟨rfl,rfl⟩)
 all_goals go_ret
 all_goals exact ⟨rfl,(Below.refl _ _).alloc (Nat.le_refl _) _⟩
set_option maxRecDepth 100000 in
set_option maxHeartbeats 1000000 in
theorem specBadB_x (op r a b n pl:Int) (w:World) (o5:(op==5)=false) (o6:(op==6)=false) (o7:(op==7)=false) (h1:Plain.inB r 0 7=true) (h2:Plain.inB b 0 7=false):Calls Tryz.prog 59 #[.agg #[.int .i64 op,.int .i64 r,.int .i64 a,.int .i64 b,.int .i64 n],.int .i64 pl] w fun e w'=>e=.returned (.bool false)∧Below w.heap.size w w':=by
 go_enter Tryz.func59,Tryz.ntmps59
 go_wp2_with (go_at_call 85;(first | refine (l7Reg_is _ _ _ h1).mono ?_ | refine (l7Reg_is _ _ _ h2).mono ?_);rintro e w' ⟨rfl,rfl⟩)
 all_goals go_ret
 all_goals exact ⟨rfl,(Below.refl _ _).alloc (Nat.le_refl _) _⟩
set_option maxRecDepth 100000 in
set_option maxHeartbeats 1000000 in
theorem specBadA_x (op r a b n pl:Int) (w:World) (o5:(op==5)=false) (o6:(op==6)=false) (o7:(op==7)=false) (h1:Plain.inB r 0 7=true) (h2:Plain.inB b 0 7=true) (h3:Plain.inB a 0 7=false):Calls Tryz.prog 59 #[.agg #[.int .i64 op,.int .i64 r,.int .i64 a,.int .i64 b,.int .i64 n],.int .i64 pl] w fun e w'=>e=.returned (.bool false)∧Below w.heap.size w w':=by
 go_enter Tryz.func59,Tryz.ntmps59
 go_wp2_with (go_at_call 85;(first | refine (l7Reg_is _ _ _ h1).mono ?_ | refine (l7Reg_is _ _ _ h2).mono ?_ | refine (l7Reg_is _ _ _ h3).mono ?_);rintro e w' ⟨rfl,rfl⟩)
 all_goals go_ret
 all_goals exact ⟨rfl,(Below.refl _ _).alloc (Nat.le_refl _) _⟩
set_option maxRecDepth 100000 in
set_option maxHeartbeats 1000000 in
theorem specBadR_5 (r a b n pl:Int) (w:World) (h1:Plain.inB r 0 7=false):Calls Tryz.prog 59 #[.agg #[.int .i64 5,.int .i64 r,.int .i64 a,.int .i64 b,.int .i64 n],.int .i64 pl] w fun e w'=>e=.returned (.bool false)∧Below w.heap.size w w':=by
 go_enter Tryz.func59,Tryz.ntmps59
 go_wp2_with (go_at_call 85;(first | refine (l7Reg_is _ _ _ h1).mono ?_);rintro e w' ⟨rfl,rfl⟩)
 all_goals go_ret
 all_goals exact ⟨rfl,(Below.refl _ _).alloc (Nat.le_refl _) _⟩
set_option maxRecDepth 100000 in
set_option maxHeartbeats 1000000 in
theorem specBadB_5 (r a b n pl:Int) (w:World) (h1:Plain.inB r 0 7=true) (h2:Plain.inB b 0 7=false):Calls Tryz.prog 59 #[.agg #[.int .i64 5,.int .i64 r,.int .i64 a,.int .i64 b,.int .i64 n],.int .i64 pl] w fun e w'=>e=.returned (.bool false)∧Below w.heap.size w w':=by
 go_enter Tryz.func59,Tryz.ntmps59
 go_wp2_with (go_at_call 85;(first | refine (l7Reg_is _ _ _ h1).mono ?_ | refine (l7Reg_is _ _ _ h2).mono ?_);rintro e w' ⟨rfl,rfl⟩)
 all_goals go_ret
 all_goals exact ⟨rfl,(Below.refl _ _).alloc (Nat.le_refl _) _⟩
set_option maxRecDepth 100000 in
set_option maxHeartbeats 1000000 in
theorem specBadA_5 (r a b n pl:Int) (w:World) (h1:Plain.inB r 0 7=true) (h2:Plain.inB b 0 7=true) (h3:Plain.inB a 0 7=false) (h4:(a != -1)=true):Calls Tryz.prog 59 #[.agg #[.int .i64 5,.int .i64 r,.int .i64 a,.int .i64 b,.int .i64 n],.int .i64 pl] w fun e w'=>e=.returned (.bool false)∧Below w.heap.size w w':=by
 go_enter Tryz.func59,Tryz.ntmps59
 go_wp2_with (go_at_call 85;(first | refine (l7Reg_is _ _ _ h1).mono ?_ | refine (l7Reg_is _ _ _ h2).mono ?_ | refine (l7Reg_is _ _ _ h3).mono ?_);rintro e w' ⟨rfl,rfl⟩)
 all_goals go_ret
 all_goals exact ⟨rfl,(Below.refl _ _).alloc (Nat.le_refl _) _⟩
set_option maxRecDepth 100000 in
set_option maxHeartbeats 1000000 in
theorem specBadR_6 (r a b n pl:Int) (w:World) (h1:Plain.inB r 0 7=false):Calls Tryz.prog 59 #[.agg #[.int .i64 6,.int .i64 r,.int .i64 a,.int .i64 b,.int .i64 n],.int .i64 pl] w fun e w'=>e=.returned (.bool false)∧Below w.heap.size w w':=by
 go_enter Tryz.func59,Tryz.ntmps59
 go_wp2_with (go_at_call 85;(first | refine (l7Reg_is _ _ _ h1).mono ?_);rintro e w' ⟨rfl,rfl⟩)
 all_goals go_ret
 all_goals exact ⟨rfl,(Below.refl _ _).alloc (Nat.le_refl _) _⟩
set_option maxRecDepth 100000 in
set_option maxHeartbeats 1000000 in
theorem specBadB_6 (r a b n pl:Int) (w:World) (h1:Plain.inB r 0 7=true) (h2:Plain.inB b 0 7=false):Calls Tryz.prog 59 #[.agg #[.int .i64 6,.int .i64 r,.int .i64 a,.int .i64 b,.int .i64 n],.int .i64 pl] w fun e w'=>e=.returned (.bool false)∧Below w.heap.size w w':=by
 go_enter Tryz.func59,Tryz.ntmps59
 go_wp2_with (go_at_call 85;(first | refine (l7Reg_is _ _ _ h1).mono ?_ | refine (l7Reg_is _ _ _ h2).mono ?_);rintro e w' ⟨rfl,rfl⟩)
 all_goals go_ret
 all_goals exact ⟨rfl,(Below.refl _ _).alloc (Nat.le_refl _) _⟩
set_option maxRecDepth 100000 in
set_option maxHeartbeats 1000000 in
theorem specBadA_6 (r a b n pl:Int) (w:World) (h1:Plain.inB r 0 7=true) (h2:Plain.inB b 0 7=true) (h3:Plain.inB a 0 7=false) (h4:(a != -1)=true):Calls Tryz.prog 59 #[.agg #[.int .i64 6,.int .i64 r,.int .i64 a,.int .i64 b,.int .i64 n],.int .i64 pl] w fun e w'=>e=.returned (.bool false)∧Below w.heap.size w w':=by
 go_enter Tryz.func59,Tryz.ntmps59
 go_wp2_with (go_at_call 85;(first | refine (l7Reg_is _ _ _ h1).mono ?_ | refine (l7Reg_is _ _ _ h2).mono ?_ | refine (l7Reg_is _ _ _ h3).mono ?_);rintro e w' ⟨rfl,rfl⟩)
 all_goals go_ret
 all_goals exact ⟨rfl,(Below.refl _ _).alloc (Nat.le_refl _) _⟩
set_option maxRecDepth 100000 in
set_option maxHeartbeats 1000000 in
theorem specBadR_7 (r a b n pl:Int) (w:World) (h1:Plain.inB r 0 7=false):Calls Tryz.prog 59 #[.agg #[.int .i64 7,.int .i64 r,.int .i64 a,.int .i64 b,.int .i64 n],.int .i64 pl] w fun e w'=>e=.returned (.bool false)∧Below w.heap.size w w':=by
 go_enter Tryz.func59,Tryz.ntmps59
 go_wp2_with (go_at_call 85;(first | refine (l7Reg_is _ _ _ h1).mono ?_);rintro e w' ⟨rfl,rfl⟩)
 all_goals go_ret
 all_goals exact ⟨rfl,(Below.refl _ _).alloc (Nat.le_refl _) _⟩
set_option maxRecDepth 100000 in
set_option maxHeartbeats 1000000 in
theorem specBadB_7 (r a b n pl:Int) (w:World) (h1:Plain.inB r 0 7=true) (h2:Plain.inB b 0 7=false):Calls Tryz.prog 59 #[.agg #[.int .i64 7,.int .i64 r,.int .i64 a,.int .i64 b,.int .i64 n],.int .i64 pl] w fun e w'=>e=.returned (.bool false)∧Below w.heap.size w w':=by
 go_enter Tryz.func59,Tryz.ntmps59
 go_wp2_with (go_at_call 85;(first | refine (l7Reg_is _ _ _ h1).mono ?_ | refine (l7Reg_is _ _ _ h2).mono ?_);rintro e w' ⟨rfl,rfl⟩)
 all_goals go_ret
 all_goals exact ⟨rfl,(Below.refl _ _).alloc (Nat.le_refl _) _⟩
set_option maxRecDepth 100000 in
set_option maxHeartbeats 1000000 in
theorem specBadA_7 (r a b n pl:Int) (w:World) (h1:Plain.inB r 0 7=true) (h2:Plain.inB b 0 7=true) (h3:Plain.inB a 0 7=false) (h4:(a != -1)=true):Calls Tryz.prog 59 #[.agg #[.int .i64 7,.int .i64 r,.int .i64 a,.int .i64 b,.int .i64 n],.int .i64 pl] w fun e w'=>e=.returned (.bool false)∧Below w.heap.size w w':=by
 go_enter Tryz.func59,Tryz.ntmps59
 go_wp2_with (go_at_call 85;(first | refine (l7Reg_is _ _ _ h1).mono ?_ | refine (l7Reg_is _ _ _ h2).mono ?_ | refine (l7Reg_is _ _ _ h3).mono ?_);rintro e w' ⟨rfl,rfl⟩)
 all_goals go_ret
 all_goals exact ⟨rfl,(Below.refl _ _).alloc (Nat.le_refl _) _⟩
end
end Go.Proofs.YtkhjhibigldcgaaGreat
