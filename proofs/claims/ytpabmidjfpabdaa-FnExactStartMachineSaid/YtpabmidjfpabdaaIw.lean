/- Is a name free, by a set of letters; a text that is one name, or none: both sides. -/
import Derived.Test.YtpabmidjfpabdaaTf
import Derived.Test.YtpabmidjfpabdaaIf
import Derived.Test.YtpabmidjfpabdaaImplA
namespace Go.Proofs.Ytpabmidjfpabdaa.T1
open Go.RowKit
set_option maxRecDepth 100000
set_option linter.unusedVariables false
set_option linter.unusedSimpArgs false

end Go.Proofs.Ytpabmidjfpabdaa.T1
