/- A box of three cells that may be written. No condition. -/
import Derived.Test.YtplncjlcejaabaaJLists
import Derived.Test.YtplncjlcejaabaaJN9Ring
import Derived.Test.YtplncjlcejaabaaJN9Row
namespace Go.Proofs.Ytplncjlcejaabaa
set_option linter.unusedSimpArgs false
set_option linter.unusedVariables false
set_option maxRecDepth 100000
open Go.RowKit
structure X3 (w : World) (g : Nat) (a b c : Value) : Prop where
 lt : g < w.heap.size
 c0 : w.cell? ⟨g, 0, none⟩ = some a
 c1 : w.cell? ⟨g, 1, none⟩ = some b
 c2 : w.cell? ⟨g, 2, none⟩ = some c
 fz : ∀ j, w.frozen? ⟨g, j, none⟩ = false
theorem X3.keep {w w' : World} {g : Nat} {a b c : Value} (h : X3 w g a b c) (hb : w'.heap[g]? = w.heap[g]?) (hs : w.heap.size ≤ w'.heap.size) : X3 w' g a b c :=
 ⟨Nat.lt_of_lt_of_le h.lt hs, (World.cell?_of_block (w := w) hb).trans h.c0, (World.cell?_of_block (w := w) hb).trans h.c1, (World.cell?_of_block (w := w) hb).trans h.c2, fun j => (World.frozen?_of_block (w := w) hb).trans (h.fz j)⟩
theorem X3.below {w w' : World} {B g : Nat} {a b c : Value} (h : X3 w g a b c) (hb : Below B w w') (hB : g < B) : X3 w' g a b c := h.keep (hb.block g hB) hb.size
theorem X3.set1 {w : World} {g : Nat} {a b c : Value} (h : X3 w g a b c) (v : Value) : X3 (w.setCell ⟨g, 1, none⟩ v) g a v c := ⟨by simpa using h.lt, (cOff (by omega)).trans h.c0, cAt h.c1, (cOff (by omega)).trans h.c2, fun j => fSet (h.fz j)⟩
theorem X3.new (w : World) (a b c : Value) (T : TypeId) : X3 (w.alloc (.cells #[a, b, c] T)) w.heap.size a b c := ⟨by simp, by simp [go_sem], by simp [go_sem], by simp [go_sem], fun j => by simp [go_sem]⟩
end Go.Proofs.Ytplncjlcejaabaa
