/- Sets of letters, a bit for each. -/
import Derived.Test.YtpabmidjfpabdaaWr
import Derived.Laws.Bits64
import Derived.Laws.BitsAllLaws
import Derived.Laws.BitsLemmas
namespace Go.Proofs.Ytpabmidjfpabdaa.T1
open Go.RowKit
set_option maxRecDepth 100000

end Go.Proofs.Ytpabmidjfpabdaa.T1
