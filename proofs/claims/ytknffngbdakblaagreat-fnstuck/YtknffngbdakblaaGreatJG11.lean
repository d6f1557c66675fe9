/- Lists of places as they lie in memory. No condition. When a body is right: the plain law. No condition. -/
import Derived.Test.YtknffngbdakblaaGreatJG00
import Derived.Test.YtknffngbdakblaaGreatJG01
import Derived.Test.YtknffngbdakblaaGreatJG04
import Derived.Test.YtknffngbdakblaaGreatJSpecIns
namespace Go.Proofs.YtknffngbdakblaaGreat
section
set_option linter.unusedSimpArgs false
set_option linter.unusedVariables false
set_option maxRecDepth 100000
open Go.RowKit
end
section
set_option linter.unusedSimpArgs false
set_option linter.unusedVariables false
set_option maxRecDepth 100000
open Go.RowKit
end
end Go.Proofs.YtknffngbdakblaaGreat
