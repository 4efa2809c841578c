/- Texts of the proof, put together: Hc, Pp. No conditions. -/
import Derived.Test.YtohaddhjnghcpaaHah
import Derived.Test.YtohaddhjnghcpaaHbc
import Derived.Deep.RegionWith

/- Cells of one block, read and set. Plain lemmas. -/
namespace Go.Proofs.Ytohaddhjnghcpaa.T1
open Go.RowKit

end Go.Proofs.Ytohaddhjnghcpaa.T1

/- A process with other parts; with another process at a path: in the specification. -/
namespace Go.Proofs.Ytohaddhjnghcpaa.T1
open Go.RowKit
set_option maxRecDepth 100000
set_option linter.unusedVariables false

end Go.Proofs.Ytohaddhjnghcpaa.T1
