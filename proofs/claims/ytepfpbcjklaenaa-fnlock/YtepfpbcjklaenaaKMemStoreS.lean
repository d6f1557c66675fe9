/- Store's last step in the specification: l6Store. Conditions: what is right. -/
import Derived.Test.YtepfpbcjklaenaaKG00
import Derived.Test.YtepfpbcjklaenaaKG02
import Derived.Test.YtepfpbcjklaenaaKG03
import Derived.Test.YtepfpbcjklaenaaKMemDupS
import Derived.Test.YtepfpbcjklaenaaKMemStore
namespace Go.Proofs.Ytepfpbcjklaenaa
set_option linter.unusedSimpArgs false
set_option linter.unusedVariables false
set_option maxRecDepth 100000
open Go.RowKit
end Go.Proofs.Ytepfpbcjklaenaa
