/- A region that draws its order, whose first operations only read and whose others come one behind the other: one walk of the first ones, in the order of the text, and then the others. No condition. -/
import Derived.Test.YtplncjlcejaabaaGreatJQuietC
namespace Go.Proofs.YtplncjlcejaabaaGreat
set_option linter.unusedSimpArgs false
set_option linter.unusedVariables false
set_option maxRecDepth 100000
open Go.RowKit
end Go.Proofs.YtplncjlcejaabaaGreat
