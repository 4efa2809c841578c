/- Another process in place of the subterm at a path, in the program. -/
import Derived.Test.YtpabmidjfpabdaaPa
import Derived.Test.YtpabmidjfpabdaaTx
import Derived.Test.YtpabmidjfpabdaaTa
import Derived.Test.YtpabmidjfpabdaaNm
import Derived.Test.YtpabmidjfpabdaaBb
namespace Go.Proofs.Ytpabmidjfpabdaa.T1
open Go.RowKit
set_option maxRecDepth 100000
set_option linter.unusedVariables false

end Go.Proofs.Ytpabmidjfpabdaa.T1
