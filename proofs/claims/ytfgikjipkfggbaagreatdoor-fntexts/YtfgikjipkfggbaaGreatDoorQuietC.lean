/- A region that draws its order, whose operations only read and whose callees only make new memory: one walk, in the order of the text. No condition. -/
import Derived.Test.YtfgikjipkfggbaaGreatDoorChecked
import Derived.WalkKit
import Derived.KernelRfl
import Derived.Below
import Derived.Deep.QuietTactic
import Derived.BigQuiet
namespace Go.Proofs.YtfgikjipkfggbaaGreatDoor
set_option linter.unusedSimpArgs false
set_option linter.unusedVariables false
set_option maxRecDepth 100000
open Go.RowKit

/- a world that has all that W has, and perhaps more -/
structure Ext (W : World) where
  w : World
  b : Below W.heap.size W w
theorem ext_ne (W : World) : Nonempty (Ext W) := ⟨⟨W, Below.refl _ _⟩⟩
theorem regionExt {P : Program} {id : Nat} {Q : Exit → Act → World → Prop} {a : Act} (W : World) {l : List Oper} (hm : P.follows .mixedOrders = true) (hB : Region.lexB .any l.toArray = true)
    (h : wpQuiet P l.toArray (fun w' => ∃ x : Ext W, w' = x.w) (fun a' => ∀ w', (∃ x : Ext W, w' = x.w) → Q .normal a' w') l a) : (Code.region id l.toArray true).wp P Q a W :=
  wp_region_quiet (C := fun w' => ∃ x : Ext W, w' = x.w) hm hB ⟨⟨{ W with drawn := W.drawn + 1 }, ⟨rfl, rfl, rfl, Nat.le_refl _, fun _ _ => rfl⟩⟩, rfl⟩ (by simpa using h)
theorem Ext.fit {W : World} {b o : Nat} {v : Value} (h : W.cell? ⟨b, o, none⟩ = some v) (hb : b < W.heap.size) : ∀ x : Ext W, x.w.cell? ⟨b, o, none⟩ = some v := fun x => (x.b.cell (p := ⟨b, o, none⟩) hb).trans h
theorem Ext.lt {W : World} {b : Nat} (hb : b < W.heap.size) : ∀ x : Ext W, b < x.w.heap.size := fun x => Nat.lt_of_lt_of_le hb x.b.size
theorem Ext.on {W : World} (X : Ext W) {w3 : World} (h : Below X.w.heap.size X.w w3) : ∃ y : Ext W, w3 = y.w := ⟨⟨w3, X.b.trans (h.mono X.b.size)⟩, rfl⟩


end Go.Proofs.YtfgikjipkfggbaaGreatDoor
