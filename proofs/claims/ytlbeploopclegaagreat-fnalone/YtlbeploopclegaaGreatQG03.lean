/- How great memories are counted. No condition but the lists' own bounds. How great machines are counted. No condition but the lists' own bounds. -/
import Derived.Test.YtlbeploopclegaaGreatQG00
import Derived.Test.YtlbeploopclegaaGreatQG01
import Derived.Test.YtlbeploopclegaaGreatQG02
namespace Go.Proofs.YtlbeploopclegaaGreat
section
set_option linter.unusedSimpArgs false
set_option linter.unusedVariables false
set_option maxRecDepth 100000
open Go.RowKit
end
section
set_option linter.unusedSimpArgs false
set_option linter.unusedVariables false
set_option maxRecDepth 100000
open Go.RowKit
structure B4 (w:World) (b:Nat) (v0 v1 v2 v3:Value):Prop where
 z:b < w.heap.size
 c0:w.cell? ⟨b,0,none⟩=some v0
 c1:w.cell? ⟨b,1,none⟩=some v1
 c2:w.cell? ⟨b,2,none⟩=some v2
 c3:w.cell? ⟨b,3,none⟩=some v3
theorem B4.keep {w w':World} {b:Nat} {v0 v1 v2 v3:Value} (h:B4 w b v0 v1 v2 v3) {B:Nat} (hb:Below B w w') (hB:b < B):B4 w' b v0 v1 v2 v3:=
 ⟨Nat.lt_of_lt_of_le h.z hb.size,(hb.cell (p:=⟨b,0,none⟩) hB).trans h.c0,(hb.cell (p:=⟨b,1,none⟩) hB).trans h.c1,(hb.cell (p:=⟨b,2,none⟩) hB).trans h.c2,(hb.cell (p:=⟨b,3,none⟩) hB).trans h.c3⟩
theorem B4.new (w:World) (v0 v1 v2 v3:Value) (T:TypeId):∃ W,w.alloc (.cells #[v0,v1,v2,v3] T)=W∧B4 W w.heap.size v0 v1 v2 v3∧Below w.heap.size w W∧w.heap.size < W.heap.size:=by
 refine ⟨_,rfl,⟨?_,?_,?_,?_,?_⟩,(Below.refl _ _).alloc (Nat.le_refl _) _,?_⟩<;>simp [go_sem]
end
end Go.Proofs.YtlbeploopclegaaGreat
