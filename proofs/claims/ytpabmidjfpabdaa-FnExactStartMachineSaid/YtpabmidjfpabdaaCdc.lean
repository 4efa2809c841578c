/- Names and processes that are read behind the door; a text that is built there. No conditions. -/
import Derived.Test.YtpabmidjfpabdaaCdb
import Derived.Test.YtpabmidjfpabdaaIw
import Derived.Test.YtpabmidjfpabdaaPq
import Derived.Test.YtpabmidjfpabdaaRq
namespace Go.Proofs.Ytpabmidjfpabdaa.T1
open Go.RowKit
set_option maxRecDepth 100000
set_option linter.unusedVariables false
set_option linter.unusedSimpArgs false

set_option maxHeartbeats 1000000 in
theorem pi_yes (k : ByteArray) (T : TypeId) (V : Value) (HR : ∀ w, Calls Try.prog 39 #[.string k] w fun e w' => e = .returned (.tuple #[.iface T V, .bool true]) ∧ Below w.heap.size w w') (w : World) :
    Calls Try.prog 31 #[.string k] w fun e w' => e = .returned (.iface T V) ∧ Below w.heap.size w w' := by
  have H := Lib.hid HR
  clear HR
  go_enter Try.func31, Try.ntmps31
  go_wp2_with fail
  with_reducible refine (H.out _).mono ?_
  rintro e w1 ⟨rfl, b1⟩
  go_wp2_with fail
  with_reducible refine (ensure_yes _).mono ?_
  rintro e w2 ⟨rfl, rfl⟩
  go_wp2_with fail
  go_ret
  exact ⟨rfl, b1⟩
set_option maxHeartbeats 1000000 in
theorem pi_no (k : ByteArray) (HR : ∀ w, Calls Try.prog 39 #[.string k] w fun e w' => e = .returned (.tuple #[.nilIface, .bool false]) ∧ Below w.heap.size w w') (w : World) :
    Calls Try.prog 31 #[.string k] w fun e w' => e = failed ∧ Below w.heap.size w w' := by
  have H := Lib.hid HR
  clear HR
  go_enter Try.func31, Try.ntmps31
  go_wp2_with fail
  with_reducible refine (H.out _).mono ?_
  rintro e w1 ⟨rfl, b1⟩
  go_wp2_with fail
  with_reducible refine (ensure_no _).mono ?_
  rintro e w2 ⟨rfl, rfl⟩
  exact ⟨rfl, rfl, b1⟩

/-- What is told of a tree that is built. -/
def codedV (t : Tm) : Value := .tuple #[.string (if okT t then S t else ⟨#[]⟩), .bool (okT t)]
theorem codedV_no {t : Tm} (h : t.ok nmL = false) : codedV t = .tuple #[.string ⟨#[]⟩, .bool false] := by
  have : okT t = false := by simp [okT, h]
  simp [codedV, this]
end Go.Proofs.Ytpabmidjfpabdaa.T1
