/- What a walk through a law carries from call to call: boxes, rows and sources between two blocks, and what a call that writes over a source leaves. Conditions: none of its own. -/
import Derived.Test.YteefnjngcnebpaaGreatJG00
import Derived.Test.YteefnjngcnebpaaGreatJG01
namespace Go.Proofs.YteefnjngcnebpaaGreat
set_option linter.unusedSimpArgs false
set_option linter.unusedVariables false
set_option maxRecDepth 100000
open Go.RowKit
structure Bo2 (G : Nat) (W : World) (a b : Value) : Prop where
 c0 : W.cell? ⟨G, 0, none⟩ = some a
 c1 : W.cell? ⟨G, 1, none⟩ = some b
theorem Bo2.new (w : World) (a b : Value) (T : TypeId) : ∃ W, w.alloc (.cells #[a, b] T) = W ∧ Bo2 w.heap.size W a b ∧ Below w.heap.size w W ∧ W.heap.size = w.heap.size + 1 :=
 ⟨_, rfl, ⟨by simp [go_sem], by simp [go_sem]⟩, (Below.refl _ _).alloc (Nat.le_refl _) _, by simp⟩
theorem Bo2.keep {G : Nat} {W W' : World} {a b : Value} (h : Bo2 G W a b) (hk : Keep G (G + 1) W W') : Bo2 G W' a b := ⟨(hk.cell (p := ⟨G, 0, none⟩) (Nat.le_refl _) (Nat.lt_succ_self _)).trans h.c0, (hk.cell (p := ⟨G, 1, none⟩) (Nat.le_refl _) (Nat.lt_succ_self _)).trans h.c1⟩
structure Bo3 (G : Nat) (W : World) (a b c : Value) : Prop where
 c0 : W.cell? ⟨G, 0, none⟩ = some a
 c1 : W.cell? ⟨G, 1, none⟩ = some b
 c2 : W.cell? ⟨G, 2, none⟩ = some c
theorem Bo3.new (w : World) (a b c : Value) (T : TypeId) : ∃ W, w.alloc (.cells #[a, b, c] T) = W ∧ Bo3 w.heap.size W a b c ∧ Below w.heap.size w W ∧ W.heap.size = w.heap.size + 1 :=
 ⟨_, rfl, ⟨by simp [go_sem], by simp [go_sem], by simp [go_sem]⟩, (Below.refl _ _).alloc (Nat.le_refl _) _, by simp⟩
theorem Bo3.keep {G : Nat} {W W' : World} {a b c : Value} (h : Bo3 G W a b c) (hk : Keep G (G + 1) W W') : Bo3 G W' a b c := ⟨(hk.cell (p := ⟨G, 0, none⟩) (Nat.le_refl _) (Nat.lt_succ_self _)).trans h.c0, (hk.cell (p := ⟨G, 1, none⟩) (Nat.le_refl _) (Nat.lt_succ_self _)).trans h.c1, (hk.cell (p := ⟨G, 2, none⟩) (Nat.le_refl _) (Nat.lt_succ_self _)).trans h.c2⟩
theorem OwnS.keepB {w w' : World} {lo : Nat} {v1 v2 v3 : Value} {L1 L2 : List (Rec × Value)} {d : SD} (h : OwnS w lo v1 v2 v3 L1 L2 d) (hk : ∀ k, HitS v1 v2 v3 L1 L2 k → w'.heap[k]? = w.heap[k]?) : OwnS w' lo v1 v2 v3 L1 L2 d :=
 ⟨h.e1, h.e2, h.t.keepB (fun k e => hk k (.inl (.inl e))) (fun i x hx k e => hk k (.inl (.inr ⟨i, x, hx, e⟩))), h.c.keepB (fun k e => hk k (.inr (.inl (.inl e)))) (fun i x hx k e => hk k (.inr (.inl (.inr ⟨i, x, hx, e⟩)))), ownKeep' h.n (fun k e => hk k (.inr (.inr e))), h.sep⟩
end Go.Proofs.YteefnjngcnebpaaGreat
