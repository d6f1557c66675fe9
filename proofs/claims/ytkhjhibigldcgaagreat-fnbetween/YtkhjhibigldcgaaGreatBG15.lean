/- Lists of places as they lie in memory. No condition. When a body is right: the plain law. No condition. -/
import Derived.Test.YtkhjhibigldcgaaGreatBG00
import Derived.Test.YtkhjhibigldcgaaGreatBG01
import Derived.Test.YtkhjhibigldcgaaGreatBG03
import Derived.Test.YtkhjhibigldcgaaGreatBSpecIns
namespace Go.Proofs.YtkhjhibigldcgaaGreat
section
set_option linter.unusedSimpArgs false
set_option linter.unusedVariables false
set_option maxRecDepth 100000
open Go.RowKit
end
section
set_option linter.unusedSimpArgs false
set_option linter.unusedVariables false
set_option maxRecDepth 100000
open Go.RowKit
end
end Go.Proofs.YtkhjhibigldcgaaGreat
