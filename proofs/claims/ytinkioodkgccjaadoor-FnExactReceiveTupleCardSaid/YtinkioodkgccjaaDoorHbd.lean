/- Texts of the proof, put together: Wc. No conditions. -/
import Derived.Test.YtinkioodkgccjaaDoorHay
import Derived.Test.YtinkioodkgccjaaDoorHbc
import Derived.Deep.RegionHeld3

/- A sign binds another letter, where it would capture a name: in the program. -/
namespace Go.Proofs.YtinkioodkgccjaaDoor.T1
open Go.RowKit
set_option maxRecDepth 100000
set_option linter.unusedVariables false

end Go.Proofs.YtinkioodkgccjaaDoor.T1
