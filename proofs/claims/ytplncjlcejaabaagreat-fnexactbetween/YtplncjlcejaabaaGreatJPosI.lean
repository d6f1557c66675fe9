/- A row of integers that is not empty lies somewhere. No condition. -/
import Derived.Test.YtplncjlcejaabaaGreatJIntRows
namespace Go.Proofs.YtplncjlcejaabaaGreat
set_option linter.unusedSimpArgs false
set_option linter.unusedVariables false
set_option maxRecDepth 100000
open Go.RowKit
end Go.Proofs.YtplncjlcejaabaaGreat
