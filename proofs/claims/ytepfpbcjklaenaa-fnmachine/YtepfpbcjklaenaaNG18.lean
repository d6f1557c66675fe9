/- Three cores under one lock: in rounds they come to their end. No condition. MachineRun of the program, whatever the machine and the picks. Conditions: the machine is of at most 2^20 cells, late is a number of 64 bits. -/
import Derived.Test.YtepfpbcjklaenaaNG00
import Derived.Test.YtepfpbcjklaenaaNG02
import Derived.Test.YtepfpbcjklaenaaNG06
import Derived.Test.YtepfpbcjklaenaaNG17
import Derived.Test.YtepfpbcjklaenaaNG01
import Derived.Test.YtepfpbcjklaenaaNG16
import Derived.Test.YtepfpbcjklaenaaNG08
import Derived.Test.YtepfpbcjklaenaaNG10
import Derived.Test.YtepfpbcjklaenaaNKOkB
import Derived.Test.YtepfpbcjklaenaaNG09
namespace Go.Proofs.Ytepfpbcjklaenaa
section
set_option linter.unusedSimpArgs false
set_option linter.unusedVariables false
set_option maxRecDepth 100000
open Go.RowKit
end
section
set_option linter.unusedSimpArgs false
set_option linter.unusedVariables false
set_option maxRecDepth 100000
open Go.RowKit
theorem hidN {p : Prop} (h : p) : Hid p := h
/- the argument's box and the answer's -/
structure Bc2 (V : World) (z : Nat) (m0 m1 m2 m3 : Value) : Prop where
 m0 : V.cell? ⟨z, 0, none⟩ = some m0
 m1 : V.cell? ⟨z, 1, none⟩ = some m1
 m2 : V.cell? ⟨z, 2, none⟩ = some m2
 m3 : V.cell? ⟨z, 3, none⟩ = some m3
 a0 : V.cell? ⟨z + 1, 0, none⟩ = some (.slice none 0 0)
 a1 : V.cell? ⟨z + 1, 1, none⟩ = some (.slice none 0 0)
 a2 : V.cell? ⟨z + 1, 2, none⟩ = some (.slice none 0 0)
 a3 : V.cell? ⟨z + 1, 3, none⟩ = some (.slice none 0 0)
 fa : ∀ j, V.frozen? ⟨z + 1, j, none⟩ = false
 z : z + 1 < V.heap.size
theorem Bc2.below {V V' : World} {z : Nat} {m0 m1 m2 m3 : Value} (h : Bc2 V z m0 m1 m2 m3) {n : Nat} (hb : Below n V V') (hn : z + 1 < n) : Bc2 V' z m0 m1 m2 m3 := by
 have c : ∀ j, V'.cell? ⟨z, j, none⟩ = V.cell? ⟨z, j, none⟩ := fun j => hb.cell (p := ⟨z, j, none⟩) (by show z < n; omega)
 have c' : ∀ j, V'.cell? ⟨z + 1, j, none⟩ = V.cell? ⟨z + 1, j, none⟩ := fun j => hb.cell (p := ⟨z + 1, j, none⟩) hn
 exact ⟨(c 0).trans h.m0, (c 1).trans h.m1, (c 2).trans h.m2, (c 3).trans h.m3, (c' 0).trans h.a0, (c' 1).trans h.a1, (c' 2).trans h.a2, (c' 3).trans h.a3, fun j => (hb.frozen (p := ⟨z + 1, j, none⟩) hn).trans (h.fa j), by have := h.z; have := hb.size; omega⟩
theorem bc2_new {w W : World} {m0 m1 m2 m3 : Value} {T0 T2 : TypeId} (hW : (w.alloc (.cells #[m0, m1, m2, m3] T0)).alloc (.cells #[.slice none 0 0, .slice none 0 0, .slice none 0 0, .slice none 0 0] T2) = W) : Bc2 W w.heap.size m0 m1 m2 m3 ∧ Below w.heap.size w W := by
 subst hW
 exact ⟨⟨by simp [go_sem], by simp [go_sem], by simp [go_sem], by simp [go_sem], by simp [go_sem], by simp [go_sem], by simp [go_sem], by simp [go_sem], fun j => by simp [go_sem], by simp⟩, ((Below.refl _ _).alloc (Nat.le_refl _) _).alloc (by simp) _⟩
/- the answer put into its box -/
theorem Bc2.put {V : World} {z : Nat} {m0 m1 m2 m3 a b c d : Value} (h : Bc2 V z m0 m1 m2 m3) : ∃ Z, (((V.setCell ⟨z + 1, 0, none⟩ a).setCell ⟨z + 1, 1, none⟩ b).setCell ⟨z + 1, 2, none⟩ c).setCell ⟨z + 1, 3, none⟩ d = Z ∧ Z.cell? ⟨z + 1, 0, none⟩ = some a ∧ Z.cell? ⟨z + 1, 1, none⟩ = some b ∧ Z.cell? ⟨z + 1, 2, none⟩ = some c ∧ Z.cell? ⟨z + 1, 3, none⟩ = some d ∧ (∀ q, q ≠ z + 1 → Z.heap[q]? = V.heap[q]?) ∧ Z.heap.size = V.heap.size ∧ ∀ (B : Nat) (A : World), Below B A V → B ≤ z + 1 → Below B A Z := by
 refine ⟨_, rfl, ?_, ?_, ?_, ?_, fun q hq => ?_, ?_, fun B A hb hz => ?_⟩
 ·simp [go_sem, h.a0, h.a1, h.a2, h.a3]
 ·simp [go_sem, h.a0, h.a1, h.a2, h.a3]
 ·simp [go_sem, h.a0, h.a1, h.a2, h.a3]
 ·simp [go_sem, h.a0, h.a1, h.a2, h.a3]
 ·exact (Below.heap_setCell _ ⟨z + 1, _, none⟩ _ q hq).trans ((Below.heap_setCell _ ⟨z + 1, _, none⟩ _ q hq).trans ((Below.heap_setCell _ ⟨z + 1, _, none⟩ _ q hq).trans (Below.heap_setCell _ ⟨z + 1, _, none⟩ _ q hq)))
 ·simp
 ·exact (((hb.setCell (p := ⟨z + 1, _, none⟩) hz _).setCell (p := ⟨z + 1, _, none⟩) hz _).setCell (p := ⟨z + 1, _, none⟩) hz _).setCell (p := ⟨z + 1, _, none⟩) hz _
end
end Go.Proofs.Ytepfpbcjklaenaa
