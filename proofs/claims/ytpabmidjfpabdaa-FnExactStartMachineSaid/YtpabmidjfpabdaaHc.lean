/- Cells of one block, read and set. Plain lemmas. -/
import Derived.Test.YtpabmidjfpabdaaMem
namespace Go.Proofs.Ytpabmidjfpabdaa.T1
open Go.RowKit

end Go.Proofs.Ytpabmidjfpabdaa.T1
