/- StepOk of the specification (package spec), at every step and every count of places, in every world: it returns what the plain law says; it makes memory, and turns none. No condition. -/
import Derived.Test.YtfgikjipkfggbaaGreatDoorQuietC
import Derived.Test.YtfgikjipkfggbaaGreatDoorC7SpA
import Derived.Test.YtfgikjipkfggbaaGreatDoorC7Plain
import Derived.Test.YtfgikjipkfggbaaGreatDoorC7SpB
import Derived.Test.YtfgikjipkfggbaaGreatDoorC7SpC
import Derived.Test.YtfgikjipkfggbaaGreatDoorC7SpD
import Derived.Test.YtfgikjipkfggbaaGreatDoorC7SpE
namespace Go.Proofs.YtfgikjipkfggbaaGreatDoor
set_option linter.unusedSimpArgs false
set_option linter.unusedVariables false
set_option maxRecDepth 100000
open Go.RowKit

theorem specStepOk_any (op r a b n pl : Int) (w : World) : Calls Tryz.prog 34 #[.agg #[.int .i64 op, .int .i64 r, .int .i64 a, .int .i64 b, .int .i64 n], .int .i64 pl] w fun e w' => e = .returned (.bool (Plain.stepB op r a b n pl)) ∧ Below w.heap.size w w' := by
  have no : ∀ {e : Ending} {w' : World}, Plain.stepB op r a b n pl = false → e = .returned (.bool false) ∧ Below w.heap.size w w' → e = .returned (.bool (Plain.stepB op r a b n pl)) ∧ Below w.heap.size w w' := fun h h' => by rw [h]; exact h'
  by_cases e5 : op = 5
  · subst e5
    cases h1 : Plain.inB r 0 7
    · exact (specBadR_5 r a b n pl w h1).mono fun e w' h => no (by simp [Plain.inB] at h1; simp [Plain.stepB]; omega) h
    cases h2 : Plain.inB b 0 7
    · exact (specBadB_5 r a b n pl w h1 h2).mono fun e w' h => no (by simp [Plain.inB] at h2; simp [Plain.stepB]; omega) h
    cases h3 : Plain.inB a 0 7
    · by_cases h4 : a = -1
      · subst h4
        exact specGood_5m r b n pl w h1 h2
      · exact (specBadA_5 r a b n pl w h1 h2 h3 (by simpa using h4)).mono fun e w' h => no (by simp [Plain.inB] at h3; simp [Plain.stepB]; omega) h
    · exact specGood_5 r a b n pl w h1 h2 h3
  by_cases e6 : op = 6
  · subst e6
    cases h1 : Plain.inB r 0 7
    · exact (specBadR_6 r a b n pl w h1).mono fun e w' h => no (by simp [Plain.inB] at h1; simp [Plain.stepB]; omega) h
    cases h2 : Plain.inB b 0 7
    · exact (specBadB_6 r a b n pl w h1 h2).mono fun e w' h => no (by simp [Plain.inB] at h2; simp [Plain.stepB]; omega) h
    cases h3 : Plain.inB a 0 7
    · by_cases h4 : a = -1
      · subst h4
        exact specGood_6m r b n pl w h1 h2
      · exact (specBadA_6 r a b n pl w h1 h2 h3 (by simpa using h4)).mono fun e w' h => no (by simp [Plain.inB] at h3; simp [Plain.stepB]; omega) h
    · exact specGood_6 r a b n pl w h1 h2 h3
  by_cases e7 : op = 7
  · subst e7
    cases h1 : Plain.inB r 0 7
    · exact (specBadR_7 r a b n pl w h1).mono fun e w' h => no (by simp [Plain.inB] at h1; simp [Plain.stepB]; omega) h
    cases h2 : Plain.inB b 0 7
    · exact (specBadB_7 r a b n pl w h1 h2).mono fun e w' h => no (by simp [Plain.inB] at h2; simp [Plain.stepB]; omega) h
    cases h3 : Plain.inB a 0 7
    · by_cases h4 : a = -1
      · subst h4
        exact specGood_7m r b n pl w h1 h2
      · exact (specBadA_7 r a b n pl w h1 h2 h3 (by simpa using h4)).mono fun e w' h => no (by simp [Plain.inB] at h3; simp [Plain.stepB]; omega) h
    · exact specGood_7 r a b n pl w h1 h2 h3
  have o5 : (op == 5) = false := by simpa using e5
  have o6 : (op == 6) = false := by simpa using e6
  have o7 : (op == 7) = false := by simpa using e7
  cases h1 : Plain.inB r 0 7
  · exact (specBadR_x op r a b n pl w o5 o6 o7 h1).mono fun e w' h => no (by simp [Plain.inB] at h1; simp [Plain.stepB]; omega) h
  cases h2 : Plain.inB b 0 7
  · exact (specBadB_x op r a b n pl w o5 o6 o7 h1 h2).mono fun e w' h => no (by simp [Plain.inB] at h2; simp [Plain.stepB]; omega) h
  cases h3 : Plain.inB a 0 7
  · exact (specBadA_x op r a b n pl w o5 o6 o7 h1 h2 h3).mono fun e w' h => no (by simp [Plain.inB] at h3; simp [Plain.stepB]; omega) h
  by_cases e1 : op = 1
  · subst e1; exact specGood_1 r a b n pl w h1 h2 h3
  by_cases e2 : op = 2
  · subst e2; exact specGood_2 r a b n pl w h1 h2 h3
  by_cases e3 : op = 3
  · subst e3; exact specGood_3 r a b n pl w h1 h2 h3
  by_cases e4 : op = 4
  · subst e4; exact specGood_4 r a b n pl w h1 h2 h3
  by_cases e8 : op = 8
  · subst e8; exact specGood_8 r a b n pl w h1 h2 h3
  by_cases e9 : op = 9
  · subst e9; exact specGood_9 r a b n pl w h1 h2 h3
  by_cases e10 : op = 10
  · subst e10; exact specGood_10 r a b n pl w h1 h2 h3
  by_cases e11 : op = 11
  · subst e11; exact specGood_11 r a b n pl w h1 h2 h3
  by_cases e12 : op = 12
  · subst e12; exact specGood_12 r a b n pl w h1 h2 h3
  by_cases e13 : op = 13
  · subst e13; exact specGood_13 r a b n pl w h1 h2 h3
  exact specGood_0 op r a b n pl w (by simpa using e1) (by simpa using e2) (by simpa using e3) (by simpa using e4) (by simpa using e5) (by simpa using e6) (by simpa using e7) (by simpa using e8) (by simpa using e9) (by simpa using e10) (by simpa using e11) (by simpa using e12) (by simpa using e13) h1 h2 h3

theorem specStepOk_is (op r a b n pl : Int) (v : Bool) (w : World) (h : Plain.stepB op r a b n pl = v) : Calls Tryz.prog 34 #[.agg #[.int .i64 op, .int .i64 r, .int .i64 a, .int .i64 b, .int .i64 n], .int .i64 pl] w fun e w' => e = .returned (.bool v) ∧ Below w.heap.size w w' := by
  subst h
  exact specStepOk_any op r a b n pl w


end Go.Proofs.YtfgikjipkfggbaaGreatDoor
