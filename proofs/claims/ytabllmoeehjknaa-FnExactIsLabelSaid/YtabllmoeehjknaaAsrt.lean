/- Closed facts: which dynamic type a type switch meets. -/
import Derived.Test.YtabllmoeehjknaaProg
import Derived.KernelRfl
import Derived.WalkKit
namespace Go.Proofs.Ytabllmoeehjknaa.T1
end Go.Proofs.Ytabllmoeehjknaa.T1
