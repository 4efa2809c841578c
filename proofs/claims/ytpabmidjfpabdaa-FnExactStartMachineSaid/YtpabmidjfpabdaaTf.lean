/- Names in the specification: letters put into texts, taken out of them; free names and those that are bound. -/
import Derived.Test.YtpabmidjfpabdaaGood
import Derived.Test.YtpabmidjfpabdaaNm
import Derived.Test.YtpabmidjfpabdaaBb
import Derived.Laws.IdiomStrings
import Derived.Laws.RangeAny
namespace Go.Proofs.Ytpabmidjfpabdaa.T1
open Go.RowKit
set_option maxRecDepth 100000
set_option linter.unusedVariables false

theorem conv1 (k : UInt8) (w : World) : (convert 45 9 (.slice (some ⟨w.heap.size, 0, none⟩) 1 1)).run Try.prog (w.alloc (.cells #[.int .u8 (k.toNat : Int)] 5)) = .ok (.string (one k)) (w.alloc (.cells #[.int .u8 (k.toNat : Int)] 5)) :=
  run_convert_bytes_back _ 45 9 5 _ 1 [k] Try.underlying45 Try.underlying5 Try.underlying9 (fun j hj => by
    have : j = 0 := by simp at hj; omega
    subst this
    rw [show (⟨w.heap.size, 0, none⟩ : Addr).add 0 = ⟨w.heap.size, 0, none⟩ from rfl, World.cell?_alloc_new]; rfl)
end Go.Proofs.Ytpabmidjfpabdaa.T1
