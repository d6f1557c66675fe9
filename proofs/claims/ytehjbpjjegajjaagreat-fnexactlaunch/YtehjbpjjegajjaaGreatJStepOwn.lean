/- Rows of rows of steps that a call has made: marked, and looked at again. Conditions: as with rows of rows of places. -/
import Derived.Test.YtehjbpjjegajjaaGreatJG00
import Derived.Test.YtehjbpjjegajjaaGreatJG01
import Derived.Test.YtehjbpjjegajjaaGreatJG02
import Derived.Test.YtehjbpjjegajjaaGreatJMarkAll
import Derived.Test.YtehjbpjjegajjaaGreatJG12
import Derived.Deep.RegionWith
namespace Go.Proofs.YtehjbpjjegajjaaGreat
set_option linter.unusedSimpArgs false
set_option linter.unusedVariables false
set_option maxRecDepth 100000
open Go.RowKit
def OwnP6 (w : World) (base : Nat) (v : Value) (b : List I5) : Prop := w.ownsRow base 97 5 v b.length (flatP b)
def OwnB6 (w : World) (base : Nat) (v : Value) (bs : List (List I5)) : Prop :=
 ∃ xs : List Value, w.ownsRow base 69 1 v bs.length xs ∧ (∀ i, i < bs.length → OwnP6 w base (xs.getD i undef) (bs.getD i [])) ∧ ∀ i j k, i < bs.length → j < bs.length → i ≠ j → (xs.getD i undef).ownBlock = some k → (xs.getD j undef).ownBlock ≠ some k
theorem infoB6 : ∃ i, Tryz.prog.info? 69 = some i ∧ i.zero = some (.slice none 0 0) ∧ i.size = 1 ∧ i.bytes = 24 := ⟨_, rfl, rfl, rfl, rfl⟩
theorem OwnB6.keep {w w' : World} {base : Nat} {v : Value} {bs : List (List I5)} (h : OwnB6 w base v bs) (hb : ∀ k, base ≤ k → k < w.heap.size → w'.heap[k]? = w.heap[k]?) : OwnB6 w' base v bs := by
 obtain ⟨xs, h1, h2, h3⟩ := h
 exact ⟨xs, ownKeep h1 (fun k hk => hb k (World.ownsRow.lt h1 _ hk).1 (World.ownsRow.lt h1 _ hk).2), fun i hi => ownKeep (h2 i hi) (fun k hk => hb k (World.ownsRow.lt (h2 i hi) _ hk).1 (World.ownsRow.lt (h2 i hi) _ hk).2), h3⟩
theorem OwnB6.below {w w' : World} {base : Nat} {v : Value} {bs : List (List I5)} (h : OwnB6 w base v bs) (hb : Below w.heap.size w w') : OwnB6 w' base v bs := h.keep fun k _ hk => hb.block k hk
theorem OwnB6.nil (w : World) (base : Nat) : OwnB6 w base (.slice none 0 0) [] := ⟨[], World.ownsRow_nil _ _ _ _, fun i hi => absurd hi (Nat.not_lt_zero _), fun i j k hi => absurd hi (Nat.not_lt_zero _)⟩
theorem OwnB6.low {w : World} {b b' : Nat} {v : Value} {bs : List (List I5)} (h : OwnB6 w b v bs) (hb : b' ≤ b) : OwnB6 w b' v bs := by
 obtain ⟨xs, h1, h2, h3⟩ := h
 exact ⟨xs, ownLow h1 hb, fun i hi => ownLow (h2 i hi) hb, h3⟩
/- append of an empty row: what it makes of the rows -/
theorem OwnB6.grow {w w' : World} {base g cap : Nat} {v u : Value} {bs : List (List I5)} {xs : List Value} (h1 : w.ownsRow base 69 1 v bs.length xs) (h2 : ∀ i, i < bs.length → OwnP6 w base (xs.getD i undef) (bs.getD i []))
  (h3 : ∀ i j k, i < bs.length → j < bs.length → i ≠ j → (xs.getD i undef).ownBlock = some k → (xs.getD j undef).ownBlock ≠ some k) (hu : u.ownBlock = none ∨ ∃ k, u.ownBlock = some k ∧ w.heap.size ≤ k)
  (q1 : w'.ownsRow base 69 1 (.slice (some ⟨g, 0, none⟩) (bs.length + 1) cap) (bs.length + 1) (xs ++ [u])) (hk : ∀ k, base ≤ k → k < w.heap.size → v.ownBlock ≠ some k → w'.heap[k]? = w.heap[k]?) {b : List I5} (hP : OwnP6 w' base u b) :
  OwnB6 w' base (.slice (some ⟨g, 0, none⟩) (bs.length + 1) cap) (bs ++ [b]) := by
 have hxl : xs.length = bs.length := by have := h1.1; omega
 refine ⟨xs ++ [u], by rw [List.length_append]; exact q1, ?_, ?_⟩
 ·intro i hi
  rw [getD_snoc, getD_snoc, hxl]
  by_cases e : i < bs.length
  ·rw [if_pos e, if_pos e]
   exact ownKeep (h2 i e) (fun k hk' => hk k (World.ownsRow.lt (h2 i e) _ hk').1 (World.ownsRow.lt (h2 i e) _ hk').2 (ownType (h2 i e) h1 (by decide) hk'))
  ·have : i = bs.length := by simp at hi; omega
   rw [if_neg e, if_pos this, if_neg e, if_pos this]
   exact hP
 ·intro i j k hi hj hne
  simp only [List.length_append, List.length_cons, List.length_nil] at hi hj
  rw [getD_snoc, getD_snoc, hxl]
  by_cases e : i < bs.length <;> by_cases e' : j < bs.length
  ·rw [if_pos e, if_pos e']; exact h3 i j k e e' hne
  ·rw [if_pos e, if_neg e', if_pos (by omega)]
   intro hk' hk''
   have := (World.ownsRow.lt (h2 i e) _ hk').2
   rcases hu with hu | ⟨k', hu, hk2⟩
   ·rw [hu] at hk''; cases hk''
   ·rw [hu] at hk''; injection hk'' with hk''; omega
  ·rw [if_neg e, if_pos (by omega), if_pos e']
   intro hk' hk''
   have := (World.ownsRow.lt (h2 j e') _ hk'').2
   rcases hu with hu | ⟨k', hu, hk2⟩
   ·rw [hu] at hk'; cases hk'
   ·rw [hu] at hk'; injection hk' with hk'; omega
  ·omega
theorem OwnP6.ins {w : World} {base : Nat} {v : Value} {l : List I5} (h : OwnP6 w base v l) : ∃ s c, v = .slice s l.length c ∧ InsR w base w.heap.size s l := by
 rcases Nat.eq_zero_or_pos l.length with h0 | hpos
 ·rcases h.2 with ⟨h1, h2⟩ | ⟨g, cap, cur, a, -⟩
  ·exact ⟨none, 0, by rw [h1, h2], .inl (List.length_eq_zero_iff.1 h0)⟩
  ·exact ⟨_, _, a, .inl (List.length_eq_zero_iff.1 h0)⟩
 ·obtain ⟨g, cap, rfl, -⟩ := World.ownsRow.form h hpos
  have hlt := World.ownsRow.lt h g rfl
  refine ⟨_, _, rfl, .inr ⟨g, 0, rfl, hlt.1, hlt.2, fun i hi => ?_⟩⟩
  have hc : ∀ j, j < 5 → w.cell? ⟨g, i * 5 + j, none⟩ = (cellsP (l.getD i z5))[j]? := fun j hj => by
   rw [World.ownsRow.cellAt h (i * 5 + j) (by omega)]
   exact flatP_at l i j hi hj
  rw [Nat.zero_add]
  exact ⟨hc 0 (by omega), hc 1 (by omega), hc 2 (by omega), hc 3 (by omega), hc 4 (by omega)⟩
theorem OwnB6.bods {w : World} {base : Nat} {v : Value} {l : List (List I5)} (h : OwnB6 w base v l) : ∃ s c, v = .slice s l.length c ∧ BodsR w base w.heap.size s l := by
 obtain ⟨xs, h1, h2, -⟩ := h
 rcases Nat.eq_zero_or_pos l.length with h0 | hpos
 ·rcases h1.2 with ⟨h1, h2⟩ | ⟨g, cap, cur, a, -⟩
  ·exact ⟨none, 0, by rw [h1, h2], .inl (List.length_eq_zero_iff.1 h0)⟩
  ·exact ⟨_, _, a, .inl (List.length_eq_zero_iff.1 h0)⟩
 ·obtain ⟨g, cap, rfl, -⟩ := World.ownsRow.form h1 hpos
  have hlt := World.ownsRow.lt h1 g rfl
  have hxl : xs.length = l.length := by have := h1.1; omega
  refine ⟨_, _, rfl, .inr ⟨g, 0, rfl, hlt.1, hlt.2, fun i hi => ?_⟩⟩
  obtain ⟨s, c, e, hi'⟩ := OwnP6.ins (h2 i hi)
  refine ⟨s, c, ?_, hi'⟩
  rw [Nat.zero_add, World.ownsRow.cellAt h1 i (by omega), ← e, List.getD_eq_getElem?_getD, List.getElem?_eq_getElem (by omega)]
  rfl
end Go.Proofs.YtehjbpjjegajjaaGreat
