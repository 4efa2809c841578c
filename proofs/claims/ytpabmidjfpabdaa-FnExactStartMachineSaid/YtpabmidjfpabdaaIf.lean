/- Free names and names that are bound, in the program. -/
import Derived.Test.YtpabmidjfpabdaaSet
import Derived.Test.YtpabmidjfpabdaaTg
import Derived.Test.YtpabmidjfpabdaaVisit
namespace Go.Proofs.Ytpabmidjfpabdaa.T1
open Go.RowKit
set_option maxRecDepth 100000
set_option linter.unusedVariables false

end Go.Proofs.Ytpabmidjfpabdaa.T1
