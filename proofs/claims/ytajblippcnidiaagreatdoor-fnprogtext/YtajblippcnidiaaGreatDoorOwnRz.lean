/- Rows of a call's own, read as a program's lists. -/
import Derived.Test.YtajblippcnidiaaGreatDoorBodOwn
import Derived.Test.YtajblippcnidiaaGreatDoorProgOk2a
namespace Go.Proofs.YtajblippcnidiaaGreatDoor
set_option linter.unusedSimpArgs false
set_option linter.unusedVariables false
set_option maxRecDepth 100000
open Go.RowKit

theorem OwnN.ints {w : World} {base : Nat} {v : Value} {l : List Int} (h : OwnN w base v l) : ∃ s c, v = .slice s l.length c ∧ IntsR w base w.heap.size s l := by
  rcases Nat.eq_zero_or_pos l.length with h0 | hpos
  · rcases h.2 with ⟨h1, h2⟩ | ⟨g, cap, cur, a, -⟩
    · exact ⟨none, 0, by rw [h1, h2], .inl (List.length_eq_zero_iff.1 h0)⟩
    · exact ⟨_, _, a, .inl (List.length_eq_zero_iff.1 h0)⟩
  · obtain ⟨g, cap, rfl, -⟩ := World.ownsRow.form h hpos
    have hlt := World.ownsRow.lt h g rfl
    refine ⟨_, _, rfl, .inr ⟨g, 0, rfl, hlt.1, hlt.2, fun i hi => ?_⟩⟩
    rw [Nat.zero_add, World.ownsRow.cellAt h i (by omega), List.getElem?_map, List.getD_eq_getElem?_getD, List.getElem?_eq_getElem hi]
    rfl
theorem OwnP.ins {w : World} {base : Nat} {v : Value} {l : List I5} (h : OwnP w base v l) : ∃ s c, v = .slice s l.length c ∧ InsR w base w.heap.size s l := by
  rcases Nat.eq_zero_or_pos l.length with h0 | hpos
  · rcases h.2 with ⟨h1, h2⟩ | ⟨g, cap, cur, a, -⟩
    · exact ⟨none, 0, by rw [h1, h2], .inl (List.length_eq_zero_iff.1 h0)⟩
    · exact ⟨_, _, a, .inl (List.length_eq_zero_iff.1 h0)⟩
  · obtain ⟨g, cap, rfl, -⟩ := World.ownsRow.form h hpos
    have hlt := World.ownsRow.lt h g rfl
    refine ⟨_, _, rfl, .inr ⟨g, 0, rfl, hlt.1, hlt.2, fun i hi => ?_⟩⟩
    have hc : ∀ j, j < 5 → w.cell? ⟨g, i * 5 + j, none⟩ = (cellsP (l.getD i z5))[j]? := fun j hj => by
      rw [World.ownsRow.cellAt h (i * 5 + j) (by omega)]
      exact flatP_at l i j hi hj
    rw [Nat.zero_add]
    exact ⟨hc 0 (by omega), hc 1 (by omega), hc 2 (by omega), hc 3 (by omega), hc 4 (by omega)⟩
theorem OwnB.bods {w : World} {base : Nat} {v : Value} {l : List (List I5)} (h : OwnB w base v l) : ∃ s c, v = .slice s l.length c ∧ BodsR w base w.heap.size s l := by
  obtain ⟨xs, h1, h2, -⟩ := h
  rcases Nat.eq_zero_or_pos l.length with h0 | hpos
  · rcases h1.2 with ⟨h1, h2⟩ | ⟨g, cap, cur, a, -⟩
    · exact ⟨none, 0, by rw [h1, h2], .inl (List.length_eq_zero_iff.1 h0)⟩
    · exact ⟨_, _, a, .inl (List.length_eq_zero_iff.1 h0)⟩
  · obtain ⟨g, cap, rfl, -⟩ := World.ownsRow.form h1 hpos
    have hlt := World.ownsRow.lt h1 g rfl
    have hxl : xs.length = l.length := by have := h1.1; omega
    refine ⟨_, _, rfl, .inr ⟨g, 0, rfl, hlt.1, hlt.2, fun i hi => ?_⟩⟩
    obtain ⟨s, c, e, hi'⟩ := OwnP.ins (h2 i hi)
    refine ⟨s, c, ?_, hi'⟩
    rw [Nat.zero_add, World.ownsRow.cellAt h1 i (by omega), ← e, List.getD_eq_getElem?_getD, List.getElem?_eq_getElem (by omega)]
    rfl
theorem OwnB.prog {w : World} {base : Nat} {v v' : Value} {p : PD} (h : OwnN w base v p.caps) (h' : OwnB w base v' p.bods) : ∃ s c s' c', v = .slice s p.caps.length c ∧ v' = .slice s' p.bods.length c' ∧ ProgR w base w.heap.size s s' p := by
  obtain ⟨s, c, e, a⟩ := h.ints
  obtain ⟨s', c', e', a'⟩ := h'.bods
  exact ⟨s, c, s', c', e, e', a, a'⟩

end Go.Proofs.YtajblippcnidiaaGreatDoor
