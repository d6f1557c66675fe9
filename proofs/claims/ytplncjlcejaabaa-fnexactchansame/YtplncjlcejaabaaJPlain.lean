/- The plain side of chapter 1: when a place is right, which registers it takes and sets: functions of integers alone. No condition. -/
import Derived.Test.YtplncjlcejaabaaJLists
import Derived.WalkKit
namespace Go.Proofs.Ytplncjlcejaabaa
set_option linter.unusedSimpArgs false
set_option linter.unusedVariables false
set_option maxRecDepth 100000
namespace Plain
def oneB (n c : Int) : Bool := decide (0 ≤ n ∧ n < c)
end Plain
end Go.Proofs.Ytplncjlcejaabaa
