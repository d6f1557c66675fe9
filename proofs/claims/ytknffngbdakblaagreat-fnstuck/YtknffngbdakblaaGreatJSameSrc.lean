/- The laws' sameSource of two sources that read alike, and within. Conditions: the sources lie in memory as the reading says. -/
import Derived.Test.YtknffngbdakblaaGreatJG00
import Derived.Test.YtknffngbdakblaaGreatJG14
import Derived.Test.YtknffngbdakblaaGreatJG05
import Derived.Test.YtknffngbdakblaaGreatJG02
import Derived.Test.YtknffngbdakblaaGreatJG19
namespace Go.Proofs.YtknffngbdakblaaGreat
set_option linter.unusedSimpArgs false
set_option linter.unusedVariables false
set_option maxRecDepth 100000
open Go.RowKit
theorem NtsR.at {w wr : World} {lo hi : Nat} {s : Option Addr} {l : List ND} (h : NtsR w lo hi s l) (hB : hi ≤ w.heap.size) (hb : Below w.heap.size w wr) {k : Nat} {t : ND} (hk : l[k]? = some t) : ∃ g o, s = some ⟨g, o, none⟩ ∧ g < w.heap.size ∧ wr.cell? ⟨g, o + k * 2, none⟩ = some (.int .i64 t.who) ∧ wr.cell? ⟨g, o + k * 2 + 1, none⟩ = some (.int .i64 t.v) := by
 rcases h with h | ⟨g, o, hs, h1, h2, hc⟩
 ·subst h; simp at hk
 ·have cc : ∀ j, wr.cell? ⟨g, j, none⟩ = w.cell? ⟨g, j, none⟩ := fun j => hb.cell (p := ⟨g, j, none⟩) (by show g < _; omega)
  exact ⟨g, o, hs, by omega, (cc _).trans (hc k t hk).1, (cc _).trans (hc k t hk).2⟩
theorem RecsR.thd {w wr : World} {lo hi : Nat} {s : Option Addr} {l : List TD} (h : RecsR w lo hi s (l.map TD.rec3)) (hB : hi ≤ w.heap.size) (hb : Below w.heap.size w wr) {k : Nat} {t : TD} (hk : l[k]? = some t) : ∃ g o s' c', s = some ⟨g, o, none⟩ ∧ g < w.heap.size ∧ wr.cell? ⟨g, o + k * 3, none⟩ = some (.int .i64 t.pc) ∧ wr.cell? ⟨g, o + k * 3 + 1, none⟩ = some (.slice s' t.regs.length c') ∧ wr.cell? ⟨g, o + k * 3 + 2, none⟩ = some (.int .i64 t.st) ∧ IntsR wr lo hi s' t.regs := by
 rcases h with h | ⟨g, o, hs, h1, h2, hc⟩
 ·have : l = [] := by simpa using h
  subst this
  simp at hk
 ·obtain ⟨s', c', q1, q2, q3, q4⟩ := hc k t.rec3 (by rw [List.getElem?_map, hk]; rfl)
  have cc : ∀ j, wr.cell? ⟨g, j, none⟩ = w.cell? ⟨g, j, none⟩ := fun j => hb.cell (p := ⟨g, j, none⟩) (by show g < _; omega)
  exact ⟨g, o, s', c', hs, by omega, (cc _).trans q1, (cc _).trans q2, (cc _).trans q3, q4.keep (Keep.of_below hb hB)⟩
end Go.Proofs.YtknffngbdakblaaGreat
