/- Lists of places as they lie in memory. No condition. When a body is right: the plain law. No condition. -/
import Derived.Test.YtknffngbdakblaaJG00
import Derived.Test.YtknffngbdakblaaJG02
import Derived.Test.YtknffngbdakblaaJG06
import Derived.Test.YtknffngbdakblaaJSpecIns
namespace Go.Proofs.Ytknffngbdakblaa
section
set_option linter.unusedSimpArgs false
set_option linter.unusedVariables false
set_option maxRecDepth 100000
open Go.RowKit
end
section
set_option linter.unusedSimpArgs false
set_option linter.unusedVariables false
set_option maxRecDepth 100000
open Go.RowKit
end
end Go.Proofs.Ytknffngbdakblaa
