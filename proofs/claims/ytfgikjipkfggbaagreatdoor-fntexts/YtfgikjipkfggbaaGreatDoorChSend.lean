/- Chapter 3: ChanSend of the program and of the specification. Conditions: lists of at most 2^30 numbers. -/
import Derived.Test.YtfgikjipkfggbaaGreatDoorQuietC
import Derived.Test.YtfgikjipkfggbaaGreatDoorOwnN
import Derived.Test.YtfgikjipkfggbaaGreatDoorChDefs
import Derived.Test.YtfgikjipkfggbaaGreatDoorChA
namespace Go.Proofs.YtfgikjipkfggbaaGreatDoor
set_option linter.unusedSimpArgs false
set_option linter.unusedVariables false
set_option maxRecDepth 100000
open Go.RowKit

def sendL (cap : Int) (l : List Int) (cl : Bool) (v : Int) : List Int := if okC cap l.length = true ∧ cl = false ∧ (l.length : Int) < cap then l ++ [v] else l
def sendK (cap : Int) (l : List Int) (cl : Bool) : Int := if okC cap l.length = true ∧ cl = false then (if (l.length : Int) < cap then 0 else 1) else 2
def SendPost (cap : Int) (l : List Int) (cl : Bool) (v : Int) (w : World) (e : Ending) (w' : World) : Prop :=
  ∃ u, e = .returned (.tuple #[.agg #[.int .i64 cap, u, .bool cl], .int .i64 (sendK cap l cl)]) ∧ OwnN w' w.heap.size u (sendL cap l cl v) ∧ Below w.heap.size w w' ∧ w.heap.size < w'.heap.size

theorem okC_range {cap : Int} {n : Nat} (h : okC cap n = true) : 1 ≤ cap ∧ cap ≤ 4 ∧ (n : Int) ≤ cap := by simpa [okC] using h

theorem send_no {cap : Int} {l : List Int} {cl : Bool} {v : Int} (h : ¬ (okC cap l.length = true ∧ cl = false)) : sendL cap l cl v = l ∧ sendK cap l cl = 2 :=
  ⟨if_neg (fun g => h ⟨g.1, g.2.1⟩), if_neg h⟩
theorem send_full {cap : Int} {l : List Int} {cl : Bool} {v : Int} (h : okC cap l.length = true ∧ cl = false) (hn : ¬ (l.length : Int) < cap) : sendL cap l cl v = l ∧ sendK cap l cl = 1 :=
  ⟨if_neg (fun g => hn g.2.2), by unfold sendK; rw [if_pos h, if_neg hn]⟩
theorem send_more {cap : Int} {l : List Int} {cl : Bool} {v : Int} (h : okC cap l.length = true ∧ cl = false) (hn : (l.length : Int) < cap) : sendL cap l cl v = l ++ [v] ∧ sendK cap l cl = 0 :=
  ⟨if_pos ⟨h.1, h.2, hn⟩, by unfold sendK; rw [if_pos h, if_pos hn]⟩
/- what is answered as it was -/
theorem send_same {cap : Int} {l : List Int} {cl : Bool} {v k : Int} {w : World} {e : Ending} {w' : World} (h : sendL cap l cl v = l ∧ sendK cap l cl = k) (u : Value)
    (h1 : e = .returned (.tuple #[.agg #[.int .i64 cap, u, .bool cl], .int .i64 k])) (h2 : OwnN w' w.heap.size u l) (h3 : Below w.heap.size w w') (h4 : w.heap.size < w'.heap.size) : SendPost cap l cl v w e w' :=
  ⟨u, by rw [h.2]; exact h1, by rw [h.1]; exact h2, h3, h4⟩

theorem res_own {w1 : World} {base B : Nat} {u : Value} {l : List Int} (h : OwnN w1 base u l) (hb : B + 2 ≤ base) (x y z : Value) : OwnN (((w1.setCell ⟨B + 1, 0, none⟩ x).setCell ⟨B + 1, 1, none⟩ y).setCell ⟨B + 1, 2, none⟩ z) B u l :=
  OwnN.low (((h.set (a := ⟨B + 1, 0, none⟩) (by simp; omega) _).set (a := ⟨B + 1, 1, none⟩) (by simp; omega) _).set (a := ⟨B + 1, 2, none⟩) (by simp; omega) _) (by omega)
theorem res_below {w w1 : World} (h : Below w.heap.size w w1) (x y z : Value) : Below w.heap.size w (((w1.setCell ⟨w.heap.size + 1, 0, none⟩ x).setCell ⟨w.heap.size + 1, 1, none⟩ y).setCell ⟨w.heap.size + 1, 2, none⟩ z) :=
  ((h.setCell (p := ⟨w.heap.size + 1, 0, none⟩) (by simp) _).setCell (p := ⟨w.heap.size + 1, 1, none⟩) (by simp) _).setCell (p := ⟨w.heap.size + 1, 2, none⟩) (by simp) _

/- a channel of the call's own, in a block -/
structure Box1 (G : Nat) (W : World) (v0 v1 v2 : Value) : Prop where
  c0 : W.cell? ⟨G, 0, none⟩ = some v0
  c1 : W.cell? ⟨G, 1, none⟩ = some v1
  c2 : W.cell? ⟨G, 2, none⟩ = some v2
  f : ∀ j, W.frozen? ⟨G, j, none⟩ = false
  z : G < W.heap.size
theorem Box1.keep {G : Nat} {W w1 : World} {v0 v1 v2 : Value} (h : Box1 G W v0 v1 v2) (hb : w1.heap[G]? = W.heap[G]?) (hs : W.heap.size ≤ w1.heap.size) : Box1 G w1 v0 v1 v2 :=
  ⟨(World.cell?_of_block (w := W) (a := ⟨G, 0, none⟩) hb).trans h.c0, (World.cell?_of_block (w := W) (a := ⟨G, 1, none⟩) hb).trans h.c1, (World.cell?_of_block (w := W) (a := ⟨G, 2, none⟩) hb).trans h.c2, fun j => (World.frozen?_of_block (w := W) (a := ⟨G, j, none⟩) hb).trans (h.f j), by have := h.z; omega⟩
theorem box1 (X : World) (v0 v1 v2 : Value) (T : TypeId) : ∃ Y, X.alloc (.cells #[v0, v1, v2] T) = Y ∧ Box1 X.heap.size Y v0 v1 v2 ∧ Below X.heap.size X Y ∧ Y.heap.size = X.heap.size + 1 :=
  ⟨_, rfl, ⟨by simp [go_sem], by simp [go_sem], by simp [go_sem], fun j => by simp [go_sem], by simp⟩, (Below.refl _ _).alloc (Nat.le_refl _) _, by simp⟩

end Go.Proofs.YtfgikjipkfggbaaGreatDoor
