/- Texts of the proof, put together: Us, Wc. No conditions. -/
import Derived.Test.YtohaddhjnghcpaaDoorHaj
import Derived.Test.YtohaddhjnghcpaaDoorHaw
import Derived.Deep.RegionWith
import Derived.Deep.RegionHeld3

/- The names in a sign that it does not bind, changed; another name that it binds. -/
namespace Go.Proofs.YtohaddhjnghcpaaDoor.T1
open Go.RowKit
set_option maxRecDepth 100000
set_option linter.unusedVariables false

end Go.Proofs.YtohaddhjnghcpaaDoor.T1

/- A sign binds another letter, where it would capture a name: in the program. -/
namespace Go.Proofs.YtohaddhjnghcpaaDoor.T1
open Go.RowKit
set_option maxRecDepth 100000
set_option linter.unusedVariables false

end Go.Proofs.YtohaddhjnghcpaaDoor.T1
