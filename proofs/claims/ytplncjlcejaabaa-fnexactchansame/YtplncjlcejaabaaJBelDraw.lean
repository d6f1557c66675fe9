/- A world that has only drawn since. No condition. -/
import Derived.Test.YtplncjlcejaabaaJLists
namespace Go.Proofs.Ytplncjlcejaabaa
set_option linter.unusedSimpArgs false
set_option linter.unusedVariables false
set_option maxRecDepth 100000
open Go.RowKit
theorem below_draw {B : Nat} {w w' : World} (h : Below B w w') (m : Nat) : Below B w (w'.drewN m) := ⟨h.os, h.tape, h.output, h.size, h.block⟩
end Go.Proofs.Ytplncjlcejaabaa
