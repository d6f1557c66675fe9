/- The lines of a program's text, and that the text is these lines with an end behind each. -/
import Derived.Test.YtajblippcnidiaaGreatDoorPText
namespace Go.Proofs.YtajblippcnidiaaGreatDoor
set_option linter.unusedSimpArgs false
set_option linter.unusedVariables false
set_option maxRecDepth 100000
open Go.RowKit

def linesB (l : List (List I5)) : List (List UInt8) := l.flatMap fun b => [98, 111, 100, 121] :: b.map lineX
theorem linesB_take {l : List (List I5)} {k : Nat} (h : k < l.length) : linesB (l.take (k + 1)) = linesB (l.take k) ++ ([98, 111, 100, 121] :: (l.getD k []).map lineX) := by
  have e : l.take (k + 1) = l.take k ++ [l.getD k []] := by
    rw [List.take_add_one, List.getD_eq_getElem?_getD, List.getElem?_eq_getElem h]
    rfl
  rw [e]
  simp only [linesB, List.flatMap_append, List.flatMap_cons, List.flatMap_nil, List.append_nil]
theorem linesB_le {l : List (List I5)} (h : ∀ b ∈ l, b.length ≤ 24) : (linesB l).length ≤ 25 * l.length := by
  induction l with
  | nil => simp [linesB]
  | cons b l ih =>
    have h1 := h b (by simp)
    have h2 := ih fun u hu => h u (by simp [hu])
    simp [linesB] at h2 ⊢
    omega
theorem map_take {l : List I5} {k : Nat} (h : k < l.length) : (l.take (k + 1)).map lineX = (l.take k).map lineX ++ [lineX (l.getD k z5)] := by
  have e : l.take (k + 1) = l.take k ++ [l.getD k z5] := by
    rw [List.take_add_one, List.getD_eq_getElem?_getD, List.getElem?_eq_getElem h]
    rfl
  rw [e]
  simp
/- what strings.Join makes of the lines, and a byte 10 behind -/
def endsL (ls : List (List UInt8)) : List UInt8 := ls.flatMap fun l => l ++ [10]
theorem ends_bods (l : List (List I5)) : endsL (linesB l) = bodsT l := by
  induction l with
  | nil => rfl
  | cons b l ih =>
    have e : linesB (b :: l) = ([98, 111, 100, 121] :: b.map lineX) ++ linesB l := by simp [linesB]
    have e2 : ∀ xs ys : List (List UInt8), endsL (xs ++ ys) = endsL xs ++ endsL ys := fun xs ys => by simp [endsL]
    rw [e, e2, ih]
    have e3 : endsL ([98, 111, 100, 121] :: b.map lineX) = bodyT b := by
      have : ∀ b : List I5, endsL (b.map lineX) = insT b := fun b => by
        induction b with
        | nil => rfl
        | cons x b ih => simp [endsL, insT, lineE] at ih ⊢; exact ih
      have e4 : endsL ([98, 111, 100, 121] :: b.map lineX) = [98, 111, 100, 121] ++ [10] ++ endsL (b.map lineX) := by simp [endsL]
      rw [e4, this]
      simp [bodyT]
    rw [e3]
    simp [bodsT]
theorem prog_lines {p : PD} (h : progB p = true) : endsL (capsL p.caps :: linesB p.bods) = progT p := by
  have e : endsL (capsL p.caps :: linesB p.bods) = capsL p.caps ++ [10] ++ endsL (linesB p.bods) := by simp [endsL]
  rw [e, ends_bods]
  unfold progT
  rw [if_pos h]

end Go.Proofs.YtajblippcnidiaaGreatDoor
