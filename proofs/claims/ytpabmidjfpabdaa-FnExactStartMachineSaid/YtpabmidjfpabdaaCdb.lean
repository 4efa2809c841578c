/- A failure that is raised, and the door that recovers it, in the program. No conditions. -/
import Derived.Test.YtpabmidjfpabdaaEnc
import Derived.Test.YtpabmidjfpabdaaAp
import Derived.Lib.Hide
import Derived.WalkKit
import Derived.Defers
import Derived.Recover
namespace Go.Proofs.Ytpabmidjfpabdaa.T1
open Go.RowKit
set_option maxRecDepth 100000
set_option linter.unusedVariables false
set_option linter.unusedSimpArgs false

/-- A failure goes up. -/
def failed : Ending := .panicked [{ v := .iface 39 (.agg #[]), recovered := false }]

theorem ensure_yes (w : World) : Calls Try.prog 32 #[.bool true] w fun e w' => e = .returned (.tuple #[]) ∧ w = w' := by
  go_enter Try.func32, Try.ntmps32
  go_wp2_with fail
  go_end0
  exact ⟨rfl, rfl⟩
theorem ensure_no (w : World) : Calls Try.prog 32 #[.bool false] w fun e w' => e = failed ∧ w = w' := by
  go_enter Try.func32, Try.ntmps32
  go_wp2_with fail
  exact ⟨rfl, rfl, rfl⟩

@[go_sem] theorem ta_fail_yes (w : World) : (Instr.typeAssert (.iface 39 (.agg #[])) 20 39 true).run Try.prog w = .ok (.tuple #[.agg #[], .bool true]) w := by kernel_rfl
@[go_sem] theorem ta_fail_nil (w : World) : (Instr.typeAssert .nilIface 20 39 true).run Try.prog w = .ok (.tuple #[.agg #[], .bool false]) w := by kernel_rfl
end Go.Proofs.Ytpabmidjfpabdaa.T1