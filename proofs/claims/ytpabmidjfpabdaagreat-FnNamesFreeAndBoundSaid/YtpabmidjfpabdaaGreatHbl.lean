/- Texts of the proof, put together: No, Ni. No conditions. -/
import Derived.Test.YtpabmidjfpabdaaGreatHbk

/- Congruence, plain: the program's way to a normal form (orders that come next, texts compared one by one) makes the same. -/
namespace Go.Proofs.YtpabmidjfpabdaaGreat.T1
set_option linter.unusedVariables false

-- the order of texts
end Go.Proofs.YtpabmidjfpabdaaGreat.T1

/- Congruence, plain: THE NORMAL FORM OF THE SPECIFICATION AND THAT OF THE PROGRAM ARE THE SAME. -/
namespace Go.Proofs.YtpabmidjfpabdaaGreat.T1
set_option linter.unusedVariables false

/-- The names that bound ones get while a normal form is made. -/
def marksN : List UInt8 := (List.range 133).map fun i => UInt8.ofNat (123 + i)
theorem marksN_len : marksN.length = 133 := by unfold marksN; simp
end Go.Proofs.YtpabmidjfpabdaaGreat.T1
