/- Texts of the proof, put together: Al. No conditions. -/
import Derived.Test.YtajgncapgeiniaaGreatHau

/- Processes alike by names: plain lemmas. -/
namespace Go.Proofs.YtajgncapgeiniaaGreat.T1
set_option linter.unusedVariables false

/-- Marks, each once, none of them a letter. -/
structure Mk (ms ns : List UInt8) : Prop where
  nd : (ms ++ ns).Nodup
  hi : ∀ z ∈ ms ++ ns, 123 ≤ z.toNat
end Go.Proofs.YtajgncapgeiniaaGreat.T1
