/- A process with other parts; with another process at a path: in the specification. -/
import Derived.Test.YtpabmidjfpabdaaRq
import Derived.Test.YtpabmidjfpabdaaHc
import Derived.Deep.RegionWith
namespace Go.Proofs.Ytpabmidjfpabdaa.T1
open Go.RowKit
set_option maxRecDepth 100000
set_option linter.unusedVariables false

theorem Try.infoS : (Try.prog.info? 9).map (fun i => (i.zero, i.size, i.bytes)) = some (some (.string ⟨#[]⟩), 1, 16) := by kernel_rfl
end Go.Proofs.Ytpabmidjfpabdaa.T1
