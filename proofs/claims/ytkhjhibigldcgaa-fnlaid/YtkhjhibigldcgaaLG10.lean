/- Cores copied by the specification. Conditions: their rows of at most 1048576. A machine copied by the specification. Conditions: it is counted. -/
import Derived.Test.YtkhjhibigldcgaaLG00
import Derived.Test.YtkhjhibigldcgaaLG06
import Derived.Test.YtkhjhibigldcgaaLG02
import Derived.Test.YtkhjhibigldcgaaLG04
import Derived.Test.YtkhjhibigldcgaaLG03
import Derived.Test.YtkhjhibigldcgaaLG01
import Derived.Deep.RegionHeld3
import Derived.Deep.DeepCutAuto
namespace Go.Proofs.Ytkhjhibigldcgaa
section
set_option linter.unusedSimpArgs false
set_option linter.unusedVariables false
set_option maxRecDepth 100000
open Go.RowKit
end
section
set_option linter.unusedSimpArgs false
set_option linter.unusedVariables false
set_option maxRecDepth 100000
open Go.RowKit
def BoxAt (X:World):Option Nat→Prop
 | none=>True
 | some p=>X4 X p (.slice none 0 0) (.slice none 0 0) (.slice none 0 0) (.slice none 0 0)∧BxT X p
theorem boxSome {X:World} {p:Nat} (h:BoxAt X (some p)):X4 X p (.slice none 0 0) (.slice none 0 0) (.slice none 0 0) (.slice none 0 0)∧BxT X p:=h
theorem BoxAt.keep {X Y:World} {p:Option Nat} (h:BoxAt X p) (hb:Below X.heap.size X Y):BoxAt Y p:=by
 cases p with
 | none=>trivial
 | some p=>exact bx_keep h hb h.1.x.z
theorem boxN0 (X:World):BoxAt (X.alloc (.cells #[.slice none 0 0,.slice none 0 0,.slice none 0 0,.slice none 0 0] 72)) (some X.heap.size):=X4.zero X _ _ _ _
end
end Go.Proofs.Ytkhjhibigldcgaa
