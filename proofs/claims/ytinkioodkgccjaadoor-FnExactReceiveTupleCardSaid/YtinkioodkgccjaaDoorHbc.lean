/- Texts of the proof, put together: Us. No conditions. -/
import Derived.Test.YtinkioodkgccjaaDoorHal
import Derived.Deep.RegionWith

/- The names in a sign that it does not bind, changed; another name that it binds. -/
namespace Go.Proofs.YtinkioodkgccjaaDoor.T1
open Go.RowKit
set_option maxRecDepth 100000
set_option linter.unusedVariables false

end Go.Proofs.YtinkioodkgccjaaDoor.T1
