/- DrawInsOk and DrawBodyOk: what they draw lies in new memory; nothing that was there is turned. Conditions: the bytes lie in memory as the reading says. -/
import Derived.Test.YteddmadbegpecaaGreatDrawB
namespace Go.Proofs.YteddmadbegpecaaGreat
set_option linter.unusedSimpArgs false
set_option linter.unusedVariables false
set_option maxRecDepth 100000
open Go.RowKit Go.Deep

theorem Bytes.mono {w : World} {p p' n : Nat} {s : Option Addr} (h : Bytes w p s n) (hp : p ≤ p') : Bytes w p' s n := by
  rcases h with h | ⟨g, o, hs, hg, hc⟩
  · exact .inl h
  · exact .inr ⟨g, o, hs, by omega, hc⟩
theorem OwnI.form {w : World} {base n : Nat} {v : Value} (h : OwnI w base v n) (hn : 0 < n) : ∃ g cap, v = .slice (some ⟨g, 0, none⟩) n cap ∧ base ≤ g ∧ g < w.heap.size := by
  obtain ⟨xs, h1, -⟩ := h
  exact h1.form hn
theorem OwnI.mono {w : World} {base base' n : Nat} {v : Value} (h : OwnI w base v n) (hb : base' ≤ base) : OwnI w base' v n := by
  obtain ⟨xs, ⟨h1, h2⟩, h3⟩ := h
  refine ⟨xs, ⟨h1, ?_⟩, h3⟩
  rcases h2 with h2 | ⟨g, cap, cur, hv, hb', hr⟩
  · exact .inl h2
  · exact .inr ⟨g, cap, cur, hv, by omega, hr⟩
def set5o (w : World) (g k : Nat) (z0 z1 z2 z3 z4 : Int) : World := ((((w.setCell ⟨g, k, none⟩ (.int .i64 z0)).setCell ⟨g, k + 1, none⟩ (.int .i64 z1)).setCell ⟨g, k + 2, none⟩ (.int .i64 z2)).setCell ⟨g, k + 3, none⟩ (.int .i64 z3)).setCell ⟨g, k + 4, none⟩ (.int .i64 z4)
theorem OwnI.set5o {w : World} {base n g k : Nat} {v : Value} (h : OwnI w base v n) (z0 z1 z2 z3 z4 : Int) : OwnI (set5o w g k z0 z1 z2 z3 z4) base v n := ((((h.set z0).set z1).set z2).set z3).set z4
theorem CB.set5o {w : World} {p n c g k : Nat} {s : Option Addr} (h : CB w p s n c) (hg : p < g) (z0 z1 z2 z3 z4 : Int) : CB (set5o w g k z0 z1 z2 z3 z4) p s n c := ((((h.set hg).set hg).set hg).set hg).set hg
theorem but_set5o {w0 w : World} {p g k : Nat} (h : But p w0 w) (hg : w0.heap.size ≤ g) (z0 z1 z2 z3 z4 : Int) : But p w0 (set5o w g k z0 z1 z2 z3 z4) := by
  have b : Below w0.heap.size w (set5o w g k z0 z1 z2 z3 z4) := (((((Below.refl _ _).setCell (p := ⟨g, k, none⟩) hg _).setCell (p := ⟨g, k + 1, none⟩) hg _).setCell (p := ⟨g, k + 2, none⟩) hg _).setCell (p := ⟨g, k + 3, none⟩) hg _).setCell (p := ⟨g, k + 4, none⟩) hg _
  exact ⟨b.os.trans h.os, b.tape.trans h.tape, b.output.trans h.output, Nat.le_trans h.size b.size, fun k hk hp => (b.block k hk).trans (h.block k hk hp)⟩
theorem OwnI.at {w : World} {base n g cap k : Nat} (h : OwnI w base (.slice (some ⟨g, 0, none⟩) n cap) n) (hk : k < n) : ∃ z0 z1 z2 z3 z4 : Int, w.cell? ⟨g, k * 5, none⟩ = some (.int .i64 z0) ∧ w.cell? ⟨g, k * 5 + 1, none⟩ = some (.int .i64 z1) ∧ w.cell? ⟨g, k * 5 + 2, none⟩ = some (.int .i64 z2) ∧ w.cell? ⟨g, k * 5 + 3, none⟩ = some (.int .i64 z3) ∧ w.cell? ⟨g, k * 5 + 4, none⟩ = some (.int .i64 z4) ∧ (∀ j, j < 5 → w.frozen? ⟨g, k * 5 + j, none⟩ = false) := by
  obtain ⟨xs, h1, h2⟩ := h
  have C : ∀ j, j < 5 → ∃ z : Int, w.cell? ⟨g, k * 5 + j, none⟩ = some (.int .i64 z) := fun j hj => by
    obtain ⟨u, h3, h4, -⟩ := own_cell (k := k * 5 + j) h1 (by omega)
    obtain ⟨z, rfl⟩ := h2 u h4
    exact ⟨z, h3⟩
  obtain ⟨z0, c0⟩ := C 0 (by omega)
  obtain ⟨z1, c1⟩ := C 1 (by omega)
  obtain ⟨z2, c2⟩ := C 2 (by omega)
  obtain ⟨z3, c3⟩ := C 3 (by omega)
  obtain ⟨z4, c4⟩ := C 4 (by omega)
  exact ⟨z0, z1, z2, z3, z4, c0, c1, c2, c3, c4, fun j hj => (own_cell (k := k * 5 + j) h1 (by omega)).choose_spec.2.2.1⟩
def lenOf : Value → Nat | .slice _ n _ => n | _ => 0

end Go.Proofs.YteddmadbegpecaaGreat
