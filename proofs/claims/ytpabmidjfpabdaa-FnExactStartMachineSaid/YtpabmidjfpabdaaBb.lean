/- Lists of bytes as texts; where a range over a text stands. -/
import Derived.Test.YtpabmidjfpabdaaGood
import Derived.Test.YtpabmidjfpabdaaNm
import Derived.Lib.OthersKept
import Derived.Deep.LoopGhost
namespace Go.Proofs.Ytpabmidjfpabdaa.T1
open Go.RowKit
set_option maxRecDepth 100000

/-- A list of bytes as a text. -/
def B (l : List UInt8) : ByteArray := ⟨l.toArray⟩
end Go.Proofs.Ytpabmidjfpabdaa.T1
