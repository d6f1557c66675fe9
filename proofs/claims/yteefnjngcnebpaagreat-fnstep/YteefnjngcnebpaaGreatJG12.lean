/- Lists of places as they lie in memory. No condition. When a body is right: the plain law. No condition. -/
import Derived.Test.YteefnjngcnebpaaGreatJG00
import Derived.Test.YteefnjngcnebpaaGreatJG01
import Derived.Test.YteefnjngcnebpaaGreatJG04
import Derived.Test.YteefnjngcnebpaaGreatJSpecIns
namespace Go.Proofs.YteefnjngcnebpaaGreat
section
set_option linter.unusedSimpArgs false
set_option linter.unusedVariables false
set_option maxRecDepth 100000
open Go.RowKit
end
section
set_option linter.unusedSimpArgs false
set_option linter.unusedVariables false
set_option maxRecDepth 100000
open Go.RowKit
end
end Go.Proofs.YteefnjngcnebpaaGreat
