/- Texts of the proof, put together: Pp. No conditions. -/
import Derived.Test.YtinkioodkgccjaaDoorHbb
import Derived.Test.YtinkioodkgccjaaDoorHbh
import Derived.Deep.RegionWith

/- A process with other parts; with another process at a path: in the specification. -/
namespace Go.Proofs.YtinkioodkgccjaaDoor.T1
open Go.RowKit
set_option maxRecDepth 100000
set_option linter.unusedVariables false

end Go.Proofs.YtinkioodkgccjaaDoor.T1
