/- What FnTexts asks of the texts: which are empty, and how many ends of lines there are. No condition. -/
import Derived.Test.YtfgikjipkfggbaaGreatDoorQuietC
import Derived.Test.YtfgikjipkfggbaaGreatDoorT16W
import Derived.Test.YtfgikjipkfggbaaGreatDoorT16Tr
import Derived.Test.YtfgikjipkfggbaaGreatDoorT16St
import Derived.Test.YtfgikjipkfggbaaGreatDoorT16Pure
import Derived.Test.YtfgikjipkfggbaaGreatDoorT16Ch
import Derived.Test.YtfgikjipkfggbaaGreatDoorStepLists
import Derived.Test.YtfgikjipkfggbaaGreatDoorSrcDefs
import Derived.Test.YtfgikjipkfggbaaGreatDoorDigits
import Derived.Test.YtfgikjipkfggbaaGreatDoorChA
import Derived.Test.YtfgikjipkfggbaaGreatDoorC7Plain
import Derived.Test.YtfgikjipkfggbaaGreatDoorT16Co
import Derived.Test.YtfgikjipkfggbaaGreatDoorT16ChS
namespace Go.Proofs.YtfgikjipkfggbaaGreatDoor
set_option linter.unusedSimpArgs false
set_option linter.unusedVariables false
set_option maxRecDepth 100000
open Go.RowKit

theorem stT_ne (o r a b n : Int) : (stT o r a b n = []) ↔ Plain.stepB o r a b n 800 = false := by
  unfold stT
  by_cases h : Plain.stepB o r a b n 800 = true
  · rw [if_pos h]
    have hs := stOk_of h
    have : ∀ i : Fin 13, maW (i.val + 1) ≠ [] := by decide
    have h1 := this ⟨(o.toNat - 1), by have := hs.o1; have := hs.o2; omega⟩
    have e : o.toNat - 1 + 1 = o.toNat := by have := hs.o1; omega
    simp only [e] at h1
    simp [h, h1]
  · rw [if_neg h]
    simpa using h
theorem chT_ne (cap : Int) (l : List Int) (cl : Bool) : (chT cap l cl = []) ↔ okC cap l.length = false := by
  unfold chT
  by_cases h : okC cap l.length = true
  · rw [if_pos h]
    simp [h, chanT]
  · rw [if_neg h]
    simpa using h
theorem trT_ne (l : List ND) : trT l ≠ [] := by
  unfold trT
  split
  · simp
  · rename_i h
    exact ntT_ne h
/- ends of lines -/
def No10 (l : List UInt8) : Prop := ∀ c ∈ l, c ≠ 10
theorem No10.app {x y : List UInt8} (h : No10 x) (k : No10 y) : No10 (x ++ y) := fun c hc => by
  rcases List.mem_append.1 hc with h' | h'
  · exact h c h'
  · exact k c h'
theorem No10.cons {a : UInt8} {y : List UInt8} (h : a ≠ 10) (k : No10 y) : No10 (a :: y) := fun c hc => by
  rcases List.mem_cons.1 hc with h' | h'
  · rw [h']; exact h
  · exact k c h'
theorem no10_nil : No10 [] := fun c hc => by cases hc
theorem dig_ne (k : Nat) (h : k < 10) : UInt8.ofNat (48 + k) ≠ 10 := by
  have : ∀ i : Fin 10, UInt8.ofNat (48 + i.val) ≠ 10 := by decide
  exact this ⟨k, h⟩
theorem no10_mag (u : Nat) : No10 (magD u) := by
  induction u using Nat.strongRecOn with
  | ind u ih =>
    by_cases h : u = 0
    · subst h; exact no10_nil
    · rw [magD_step h]
      exact (ih (u / 10) (by omega)).app (No10.cons (dig_ne _ (by omega)) no10_nil)
theorem no10_itoa (n : Int) : No10 (Lib.itoa n) := by
  rcases Int.lt_trichotomy n 0 with h | h | h
  · rw [itoa_below h]; exact No10.cons (by decide) (no10_mag _)
  · subst h; rw [Lib.itoa]; simp [Lib.decDigits]; exact No10.cons (by decide) no10_nil
  · rw [itoa_pos h]; exact no10_mag _
theorem no10_cell (o a n : Int) : No10 (cellT o a n) := by
  unfold cellT
  refine ((No10.cons (by decide) no10_nil).app (no10_itoa _)).app ?_ |>.app (No10.cons (by decide) no10_nil)
  split
  · exact (No10.cons (by decide) no10_nil).app (No10.cons (by decide) (no10_itoa _))
  · exact no10_nil
theorem no10_prt (o r a b n : Int) (c : UInt8) : No10 (prtT o r a b n c) := by
  unfold prtT
  split
  · exact No10.cons (by decide) (no10_itoa _)
  · split
    · exact No10.cons (by decide) (no10_itoa _)
    · split
      · exact No10.cons (by decide) (no10_itoa _)
      · split
        · exact no10_cell _ _ _
        · exact no10_itoa _
theorem no10_lts (o r a b n : Int) : ∀ l, No10 (ltsT o r a b n l)
  | [] => no10_nil
  | c :: l => by
    have := no10_lts o r a b n l
    exact (No10.cons (by decide) (no10_prt o r a b n c)).app this
theorem no10_st (o r a b n : Int) : No10 (stT o r a b n) := by
  unfold stT
  split
  · refine No10.app ?_ (no10_lts _ _ _ _ _ _)
    by_cases h : o.toNat < 14
    · have : ∀ i : Fin 14, No10 (maW i.val) := by unfold No10; decide
      exact this ⟨_, h⟩
    · unfold maW
      rw [List.getD_eq_getElem?_getD, List.getElem?_eq_none (by simp [maWords]; omega)]
      exact no10_nil
  · exact no10_nil
theorem count_no {l : List UInt8} (h : No10 l) : l.count 10 = 0 := List.count_eq_zero.2 fun hc => h 10 hc rfl
theorem count_code : ∀ l : List I5, ((l.map lnT).flatten).count 10 = l.length
  | [] => rfl
  | x :: l => by
    have := count_code l
    simp only [List.map_cons, List.flatten_cons, List.count_append, List.length_cons, this]
    have h : (lnT x).count 10 = 1 := by
      unfold lnT
      rw [List.count_append, count_no (no10_st _ _ _ _ _)]
      rfl
    omega

end Go.Proofs.YtfgikjipkfggbaaGreatDoor
