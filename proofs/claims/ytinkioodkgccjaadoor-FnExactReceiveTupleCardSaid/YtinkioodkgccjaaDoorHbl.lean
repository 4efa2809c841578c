/- Texts of the proof, put together: In. No conditions. -/
import Derived.Test.YtinkioodkgccjaaDoorHat
import Derived.Lib.OthersKept
import Derived.Deep.LoopGhost

/- Is a byte in a text, in the specification. -/
namespace Go.Proofs.YtinkioodkgccjaaDoor.T1
open Go.RowKit
set_option maxRecDepth 100000

/-- Is a byte among those of a text? -/
def inB (s : ByteArray) (c : Int) : Bool := s.data.toList.any fun x => (x.toNat : Int) == c
theorem inB_yes (s : ByteArray) (c : Int) (k : Nat) (h : k < s.size) (h1 : (s[k].toNat : Int) = c) : inB s c = true := by
  unfold inB
  rw [List.any_eq_true]
  exact ⟨s[k], by show s.data[k] ∈ _; simp, by simp [h1]⟩
theorem inB_no (s : ByteArray) (c : Int) (h : (s.data.toList.take s.size).any (fun x => (x.toNat : Int) == c) = false) : inB s c = false := by
  rw [List.take_of_length_le (by simp)] at h
  exact h

set_option maxHeartbeats 400000 in
theorem tmIn_any (s : ByteArray) (c : Int) (w : World) (hs : s.size ≤ 100000000) :
    Calls Tryd.prog 20 #[.string s, .int .u8 c] w fun e w' => e = .returned (.bool (inB s c)) ∧ w = w' := by
  go_enter Tryd.func20, Tryd.ntmps20
  go_wp2_with fail
  go_loop [5] (fun i => ∃ k : Nat, k ≤ s.size ∧ i = .int .i64 k ∧ Hid ((s.data.toList.take k).any (fun x => (x.toNat : Int) == c) = false)) (fun i => s.size - (intOf i).toNat)
  case atStart => exact ⟨0, Nat.zero_le _, rfl, by simp [Hid]⟩
  case round =>
    obtain ⟨k, hk, rfl, H⟩ := hrel
    by_cases hlt : k < s.size
    · by_cases hc : (s[k].toNat : Int) = c
      · have hT : Hid (inB s c = true) := inB_yes s c k hlt hc
        have b1 : ((s[k].toNat : Int) == c) = true := by simp [hc]
        clear hc
        go_wp2_with fail
        go_ret
        exact ⟨by rw [hT.out]; rfl, rfl⟩
      · have b1 : ((s[k].toNat : Int) == c) = false := by simp [hc]
        have hT : Hid ((s.data.toList.take (k + 1)).any (fun x => (x.toNat : Int) == c) = false) := by
          have h0 := H.out
          rw [take_snoc s k hlt, List.any_append, h0]; simp [Hid, hc]
        clear hc
        go_wp2_with fail
        go_round
        case rel => exact ⟨k + 1, by omega, by go_num, hT⟩
        case measure => simp [intOf]; omega
    · have hT : Hid (inB s c = false) := inB_no s c (by have := H.out; rw [show k = s.size by omega] at this; exact this)
      go_wp2_with fail
      go_ret
      exact ⟨by rw [hT.out]; rfl, rfl⟩

end Go.Proofs.YtinkioodkgccjaaDoor.T1
