/- Rows of numbers that a call has made: how they lie, what keeps them, and append of one number, and of three noughts. Conditions: fewer than 2^40 numbers. -/
import Derived.Test.YtplncjlcejaabaaJLists
import Derived.Test.YtplncjlcejaabaaChecked
import Derived.WalkKit
import Derived.KernelRfl
import Derived.WalkSpells
import Derived.WalkLawsBesides
import Derived.Below
import Derived.Laws.OwnMore
import Derived.Deep.AppendLies
namespace Go.Proofs.Ytplncjlcejaabaa
set_option linter.unusedSimpArgs false
set_option linter.unusedVariables false
set_option maxRecDepth 100000
open Go.RowKit
def OwnN (w : World) (base : Nat) (v : Value) (ls : List Int) : Prop := w.ownsRow base 3 1 v ls.length (ls.map (Value.int .i64))
theorem infoInt : ∃ i, Try.prog.info? 3 = some i ∧ i.zero = some (.int .i64 0) ∧ i.size = 1 ∧ i.bytes = 8 := ⟨_, rfl, rfl, rfl, rfl⟩
theorem OwnN.keep {w w' : World} {base : Nat} {v : Value} {ls : List Int} (h : OwnN w base v ls) (hb : ∀ k, base ≤ k → k < w.heap.size → w'.heap[k]? = w.heap[k]?) : OwnN w' base v ls := by
 obtain ⟨h1, h2⟩ := h
 refine ⟨h1, ?_⟩
 rcases h2 with h2 | ⟨g, cap, cur, a, b, c, d⟩
 ·exact .inl h2
 ·have hlt : g < w.heap.size := (Array.getElem?_eq_some_iff.1 c).1
  exact .inr ⟨g, cap, cur, a, b, (hb g b hlt).trans c, d⟩
theorem OwnN.alloc {w : World} {base : Nat} {v : Value} {ls : List Int} (h : OwnN w base v ls) (o : Obj) : OwnN (w.alloc o) base v ls := h.keep fun k _ hk => Below.heap_alloc _ _ _ hk
theorem OwnN.cell {w : World} {base g cap : Nat} {ls : List Int} (h : OwnN w base (.slice (some ⟨g, 0, none⟩) ls.length cap) ls) {i : Nat} (hi : i < ls.length) : w.cell? ⟨g, i, none⟩ = some (.int .i64 (ls.getD i 0)) := by
 rw [World.ownsRow.cellAt h i (by omega)]
 simp [List.getD_eq_getElem?_getD, List.getElem?_eq_getElem hi]
theorem OwnN.sl {w : World} {base : Nat} {v : Value} {ls : List Int} (h : OwnN w base v ls) : ∃ s cap, v = .slice s ls.length cap := by
 rcases h.2 with ⟨h1, h2⟩ | ⟨g, cap, cur, a, -⟩
 ·exact ⟨none, 0, by rw [h1, h2]⟩
 ·exact ⟨_, _, a⟩
end Go.Proofs.Ytplncjlcejaabaa
