/- BodyOk of the program and of the specification, at every list of at most 1048576 places: each answers as the plain law says; and how the laws hold two such lists against each other. -/
import Derived.Test.YtknffngbdakblaaGreatJG00
import Derived.Test.YtknffngbdakblaaGreatJG01
import Derived.Test.YtknffngbdakblaaGreatJInsOk
import Derived.Test.YtknffngbdakblaaGreatJSpecIns
namespace Go.Proofs.YtknffngbdakblaaGreat
set_option linter.unusedSimpArgs false
set_option linter.unusedVariables false
set_option maxRecDepth 100000
open Go.RowKit
def insX (x:I5) (pl ch:Int):Bool:=Plain.insB x.o x.r x.a x.b x.n pl ch
def lastB (l:List I5):Bool:=decide ((l.getD (l.length - 1) z5).o=13∨(l.getD (l.length - 1) z5).o=11)
def bodyB (l:List I5) (ch:Int):Bool:=decide (∀ i,i < l.length→insX (l.getD i z5) l.length ch=true)&&(decide (1≤l.length∧l.length≤24)&&(Plain.chansB ch&&lastB l))
theorem body_no {l:List I5} {ch:Int} {k:Nat} (hk:k < l.length) (h:insX (l.getD k z5) l.length ch=false):bodyB l ch=false:=by
 have:decide (∀ i,i < l.length→insX (l.getD i z5) l.length ch=true)=false:=by
  rw [decide_eq_false_iff_not]
  intro hh
  rw [hh k hk] at h
  cases h
 unfold bodyB
 rw [this,Bool.false_and]
theorem body_all {l:List I5} {ch:Int} (h:∀ i,i < l.length→insX (l.getD i z5) l.length ch=true):bodyB l ch=(decide (1≤l.length∧l.length≤24)&&(Plain.chansB ch&&lastB l)):=by
 have:decide (∀ i,i < l.length→insX (l.getD i z5) l.length ch=true)=true:=by
  rw [decide_eq_true_iff];exact h
 unfold bodyB
 rw [this,Bool.true_and]
end Go.Proofs.YtknffngbdakblaaGreat
