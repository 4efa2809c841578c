/- Names in order, free and bound names of a tree: plain lemmas. -/
import Derived.Test.YtpabmidjfpabdaaPure
namespace Go.Proofs.Ytpabmidjfpabdaa.T1

/-- A text of one byte. -/
def one (k : UInt8) : ByteArray := ⟨#[k]⟩
namespace Tm
end Tm
end Go.Proofs.Ytpabmidjfpabdaa.T1
