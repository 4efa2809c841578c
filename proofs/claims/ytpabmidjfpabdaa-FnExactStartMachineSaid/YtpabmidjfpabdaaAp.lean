/- A row of one's own with another one behind it. -/
import Derived.Test.YtpabmidjfpabdaaMem
import Derived.Maps.AppendAt
import Derived.Laws.AppendOwnNone
import Derived.Laws.AppendOwn
namespace Go.Proofs.Ytpabmidjfpabdaa.T1
open Go.RowKit

end Go.Proofs.Ytpabmidjfpabdaa.T1
