/- Free names and names that are bound, in the specification. -/
import Derived.Test.YtpabmidjfpabdaaTf
import Derived.Deep.RegionHeld3
namespace Go.Proofs.Ytpabmidjfpabdaa.T1
open Go.RowKit
set_option maxRecDepth 100000
set_option linter.unusedVariables false

end Go.Proofs.Ytpabmidjfpabdaa.T1
