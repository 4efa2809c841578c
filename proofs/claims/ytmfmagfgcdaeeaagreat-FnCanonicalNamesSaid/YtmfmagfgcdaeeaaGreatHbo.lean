/- Texts of the proof, put together: Ow. No conditions. -/
import Derived.Test.YtmfmagfgcdaeeaaGreatHbk
import Derived.Test.YtmfmagfgcdaeeaaGreatHbn

/- A level written: in the specification. -/
namespace Go.Proofs.YtmfmagfgcdaeeaaGreat.T1
open Go.RowKit
set_option maxRecDepth 100000
set_option linter.unusedVariables false
set_option linter.unusedSimpArgs false

end Go.Proofs.YtmfmagfgcdaeeaaGreat.T1
