/- Texts of the proof, put together: Rf. No conditions. -/
import Derived.Test.YtinkioodkgccjaaDoorHac

/- A free name renamed: what it leaves free, and that the number of steps does not matter: plain lemmas. -/
namespace Go.Proofs.YtinkioodkgccjaaDoor.T1
set_option linter.unusedVariables false

/-- A free name renamed. -/
def R (t : Tm) (o m : UInt8) : Tm := ren t.size t o m
section
variable {o m : UInt8}
end

end Go.Proofs.YtinkioodkgccjaaDoor.T1
