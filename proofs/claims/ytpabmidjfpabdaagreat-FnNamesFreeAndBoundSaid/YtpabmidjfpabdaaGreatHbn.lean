/- Texts of the proof, put together: Sn, Sq. No conditions. -/
import Derived.Test.YtpabmidjfpabdaaGreatHad
import Derived.Test.YtpabmidjfpabdaaGreatHaw
import Derived.Test.YtpabmidjfpabdaaGreatHbf

/- The names of a sign that it does not bind: in the specification. -/
namespace Go.Proofs.YtpabmidjfpabdaaGreat.T1
open Go.RowKit
set_option maxRecDepth 100000
set_option linter.unusedVariables false
set_option linter.unusedSimpArgs false

end Go.Proofs.YtpabmidjfpabdaaGreat.T1

/- Names at the same place; the names of a sign: in the specification. -/
namespace Go.Proofs.YtpabmidjfpabdaaGreat.T1
open Go.RowKit
set_option maxRecDepth 100000
set_option linter.unusedVariables false
set_option linter.unusedSimpArgs false

end Go.Proofs.YtpabmidjfpabdaaGreat.T1
