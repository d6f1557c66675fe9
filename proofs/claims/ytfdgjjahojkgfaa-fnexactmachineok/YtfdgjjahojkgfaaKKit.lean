/- Boxes of four cells that a law keeps. No condition. -/
import Derived.Test.YtfdgjjahojkgfaaKMach
namespace Go.Proofs.Ytfdgjjahojkgfaa
set_option linter.unusedSimpArgs false
set_option linter.unusedVariables false
set_option maxRecDepth 100000
open Go.RowKit

structure Bo4 (G : Nat) (W : World) (a b c d : Value) : Prop where
  c0 : W.cell? ⟨G, 0, none⟩ = some a
  c1 : W.cell? ⟨G, 1, none⟩ = some b
  c2 : W.cell? ⟨G, 2, none⟩ = some c
  c3 : W.cell? ⟨G, 3, none⟩ = some d
theorem Bo4.new (w : World) (a b c d : Value) (T : TypeId) : ∃ W, w.alloc (.cells #[a, b, c, d] T) = W ∧ Bo4 w.heap.size W a b c d ∧ Below w.heap.size w W ∧ W.heap.size = w.heap.size + 1 :=
  ⟨_, rfl, ⟨by simp [go_sem], by simp [go_sem], by simp [go_sem], by simp [go_sem]⟩, (Below.refl _ _).alloc (Nat.le_refl _) _, by simp⟩
theorem Bo4.keep {G : Nat} {W W' : World} {a b c d : Value} (h : Bo4 G W a b c d) (hk : Keep G (G + 1) W W') : Bo4 G W' a b c d := ⟨(hk.cell (p := ⟨G, 0, none⟩) (Nat.le_refl _) (Nat.lt_succ_self _)).trans h.c0, (hk.cell (p := ⟨G, 1, none⟩) (Nat.le_refl _) (Nat.lt_succ_self _)).trans h.c1, (hk.cell (p := ⟨G, 2, none⟩) (Nat.le_refl _) (Nat.lt_succ_self _)).trans h.c2, (hk.cell (p := ⟨G, 3, none⟩) (Nat.le_refl _) (Nat.lt_succ_self _)).trans h.c3⟩

end Go.Proofs.Ytfdgjjahojkgfaa
