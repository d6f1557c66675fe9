/- Lists of steps: when code is right; the laws' counting and comparing of lists. Conditions: lists of at most 1048576 steps where they are compared. -/
import Derived.Test.YtfgikjipkfggbaaGreatDoorQuietC
import Derived.Test.YtfgikjipkfggbaaGreatDoorC7Plain
import Derived.Test.YtfgikjipkfggbaaGreatDoorStepLists
import Derived.Deep.RegionHeld3
import Derived.Test.YtfgikjipkfggbaaGreatDoorC7Spec
namespace Go.Proofs.YtfgikjipkfggbaaGreatDoor
set_option linter.unusedSimpArgs false
set_option linter.unusedVariables false
set_option maxRecDepth 100000
open Go.RowKit

def stX (x : I5) (pl : Int) : Bool := Plain.stepB x.o x.r x.a x.b x.n pl
def lastB (l : List I5) : Bool := Plain.endB (l.getD (l.length - 1) z5).o
def codeB (l : List I5) : Bool := decide (∀ i, i < l.length → stX (l.getD i z5) l.length = true) && (decide (1 ≤ l.length ∧ l.length ≤ 800) && lastB l)

theorem code_no {l : List I5} {k : Nat} (hk : k < l.length) (h : stX (l.getD k z5) l.length = false) : codeB l = false := by
  have : decide (∀ i, i < l.length → stX (l.getD i z5) l.length = true) = false := by
    rw [decide_eq_false_iff_not]
    intro H
    rw [H k hk] at h
    cases h
  unfold codeB
  rw [this]
  rfl
theorem code_all {l : List I5} (h : ∀ i, i < l.length → stX (l.getD i z5) l.length = true) : codeB l = (decide (1 ≤ l.length ∧ l.length ≤ 800) && lastB l) := by
  unfold codeB
  rw [decide_eq_true h]
  simp
theorem code_short {l : List I5} (h : Plain.inB (l.length : Int) 1 800 = false) : codeB l = false := by
  have : decide (1 ≤ l.length ∧ l.length ≤ 800) = false := by
    rw [decide_eq_false_iff_not]
    simp [Plain.inB] at h
    omega
  unfold codeB
  rw [this]
  simp

end Go.Proofs.YtfgikjipkfggbaaGreatDoor
