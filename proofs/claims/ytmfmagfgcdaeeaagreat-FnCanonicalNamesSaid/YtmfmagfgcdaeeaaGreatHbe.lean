/- Texts of the proof, put together: Nl. No conditions. -/
import Derived.Test.YtmfmagfgcdaeeaaGreatHaz
import Derived.Deep.DeepCutAuto

/- A process peeled, in the specification; the parts of a sum that are no sums. -/
namespace Go.Proofs.YtmfmagfgcdaeeaaGreat.T1
open Go.RowKit
set_option maxRecDepth 100000
set_option linter.unusedVariables false
set_option linter.unusedSimpArgs false

end Go.Proofs.YtmfmagfgcdaeeaaGreat.T1
