/- The specification's readers of a text: names, small letters, the end of the process that begins at a place. -/
import Derived.Test.YtabllmoeehjknaaProg
import Derived.Test.YtabllmoeehjknaaPureB
import Derived.WalkKit
import Derived.WalkLawsBesides
import Derived.WalkSpells
import Derived.LoopTactic
import Derived.Lib.Hide
import Derived.BigQuiet
import Derived.Deep.QuietTactic
import Derived.Outline
import Derived.Deep.Light
namespace Go.Proofs.Ytabllmoeehjknaa.T1
open Go.RowKit
set_option maxRecDepth 100000

theorem ret_int {k : IntKind} {a b : Int} (h : a = b) : Ending.returned (.int k a) = .returned (.int k b) := by rw [h]
theorem ret_bool {a b : Bool} (h : a = b) : Ending.returned (.bool a) = .returned (.bool b) := by rw [h]

/-- Is a byte neither a great letter nor beyond the letters? -/
def smB (c : UInt8) : Bool := !((decide (65 ≤ c.toNat) && decide (c.toNat ≤ 90)) || decide (128 ≤ c.toNat))

def allSm (s : ByteArray) : Bool := s.data.toList.all smB

theorem take_snoc (s : ByteArray) (k : Nat) (h : k < s.size) : s.data.toList.take (k + 1) = s.data.toList.take k ++ [s[k]] := by
  rw [List.take_succ_eq_append_getElem (by simpa using h)]; rfl
theorem all_snoc (s : ByteArray) (k : Nat) (h : k < s.size) (h0 : (s.data.toList.take k).all smB = true) (h1 : smB s[k] = true) : (s.data.toList.take (k + 1)).all smB = true := by
  rw [take_snoc s k h, List.all_append, h0]; simp [h1]
theorem all_not (s : ByteArray) (k : Nat) (h : k < s.size) (h1 : smB s[k] = false) : allSm s = false := by
  unfold allSm
  rw [List.all_eq_false]
  exact ⟨s[k], by show s.data[k] ∈ _; simp, by simp [h1]⟩

end Go.Proofs.Ytabllmoeehjknaa.T1
