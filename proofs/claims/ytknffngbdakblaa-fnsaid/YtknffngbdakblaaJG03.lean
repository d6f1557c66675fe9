/- Rows of integers that a call has made, written over with running numbers and looked at again. Conditions: at most 2^20 + 1 integers. Rows of threads and of channels that a call has made, written over with running numbers and looked at again. Conditions: the numbers stay below 10^15. Rows of notes that a call has made, written over with running numbers. Conditions: the numbers stay below 10^15. A source that a call has made, written over with running numbers. Conditions: the numbers stay below 10^15. -/
import Derived.Test.YtknffngbdakblaaJG00
import Derived.Test.YtknffngbdakblaaJG01
namespace Go.Proofs.Ytknffngbdakblaa
section
set_option linter.unusedSimpArgs false
set_option linter.unusedVariables false
set_option maxRecDepth 100000
open Go.RowKit
end
section
set_option linter.unusedSimpArgs false
set_option linter.unusedVariables false
set_option maxRecDepth 100000
open Go.RowKit
end
section
set_option linter.unusedSimpArgs false
set_option linter.unusedVariables false
set_option maxRecDepth 100000
open Go.RowKit
end
section
set_option linter.unusedSimpArgs false
set_option linter.unusedVariables false
set_option maxRecDepth 100000
open Go.RowKit
theorem OwnQ.keepB {w w' : World} {base : Nat} {e : TypeId} {v : Value} {L : List (Rec × Value)} (h : OwnQ w base e v L) (h1 : ∀ k, v.ownBlock = some k → w'.heap[k]? = w.heap[k]?) (h2 : ∀ (i : Nat) (x : Rec × Value), L[i]? = some x → ∀ k, x.2.ownBlock = some k → w'.heap[k]? = w.heap[k]?) : OwnQ w' base e v L :=
 ⟨ownKeep' h.row h1, fun i x hx => ownKeep' (h.inn i x hx) (h2 i x hx), h.sep⟩
def HitQ (v : Value) (L : List (Rec × Value)) (k : Nat) : Prop := v.ownBlock = some k ∨ ∃ (i : Nat) (x : Rec × Value), L[i]? = some x ∧ x.2.ownBlock = some k
def HitS (v1 v2 v3 : Value) (L1 L2 : List (Rec × Value)) (k : Nat) : Prop := HitQ v1 L1 k ∨ HitQ v2 L2 k ∨ v3.ownBlock = some k
theorem OwnQ.hit {w : World} {base : Nat} {e : TypeId} {v : Value} {L : List (Rec × Value)} (h : OwnQ w base e v L) {k : Nat} (hk : HitQ v L k) : base ≤ k ∧ k < w.heap.size := by
 rcases hk with hk | ⟨i, x, hx, hk⟩
 ·exact World.ownsRow.lt h.row _ hk
 ·exact World.ownsRow.lt (h.inn i x hx) _ hk
theorem OwnS.hit {w : World} {base : Nat} {v1 v2 v3 : Value} {L1 L2 : List (Rec × Value)} {d : SD} (h : OwnS w base v1 v2 v3 L1 L2 d) {k : Nat} (hk : HitS v1 v2 v3 L1 L2 k) : base ≤ k ∧ k < w.heap.size := by
 rcases hk with hk | hk | hk
 ·exact h.t.hit hk
 ·exact h.c.hit hk
 ·exact World.ownsRow.lt h.n _ hk
theorem OwnS.l1 {w : World} {base : Nat} {v1 v2 v3 : Value} {L1 L2 : List (Rec × Value)} {d : SD} (h : OwnS w base v1 v2 v3 L1 L2 d) : L1.length = d.ths.length := by have := congrArg List.length h.e1; simpa using this
theorem OwnS.l2 {w : World} {base : Nat} {v1 v2 v3 : Value} {L1 L2 : List (Rec × Value)} {d : SD} (h : OwnS w base v1 v2 v3 L1 L2 d) : L2.length = d.chs.length := by have := congrArg List.length h.e2; simpa using this
theorem OwnS.at1 {w : World} {base : Nat} {v1 v2 v3 : Value} {L1 L2 : List (Rec × Value)} {d : SD} (h : OwnS w base v1 v2 v3 L1 L2 d) {i : Nat} {x : Rec × Value} (hx : L1[i]? = some x) : ∃ t, d.ths[i]? = some t ∧ x.1 = t.rec3 := by
 have e := congrArg (fun l => l[i]?) h.e1
 simp only [List.getElem?_map, hx, Option.map_some] at e
 obtain ⟨t, ht, e'⟩ := Option.map_eq_some_iff.1 e.symm
 exact ⟨t, ht, e'.symm⟩
theorem OwnS.at2 {w : World} {base : Nat} {v1 v2 v3 : Value} {L1 L2 : List (Rec × Value)} {d : SD} (h : OwnS w base v1 v2 v3 L1 L2 d) {i : Nat} {x : Rec × Value} (hx : L2[i]? = some x) : ∃ t, d.chs[i]? = some t ∧ x.1 = t.rec3 := by
 have e := congrArg (fun l => l[i]?) h.e2
 simp only [List.getElem?_map, hx, Option.map_some] at e
 obtain ⟨t, ht, e'⟩ := Option.map_eq_some_iff.1 e.symm
 exact ⟨t, ht, e'.symm⟩
end
end Go.Proofs.Ytknffngbdakblaa
