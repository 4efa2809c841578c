/- Is a byte in a text; is a text one of the kinds. -/
import Derived.Test.YtpahhlcfbmmocaaCk
import Derived.Test.YtpahhlcfbmmocaaIn
import Derived.Lib.OthersKept
import Derived.Deep.LoopGhost
namespace Go.Proofs.Ytpahhlcfbmmocaa.T1
open Go.RowKit
set_option maxRecDepth 100000

/-- All kinds. -/
def K9 : ByteArray := ⟨#[48, 33, 63, 126, 43, 38, 35, 61, 42]⟩
theorem enc_one (c : UInt8) (h : c.toNat < 128) : Utf8.encode (c.toNat : Int) = one c := by
  have hv : Utf8.valid (c.toNat : Int) = true := by unfold Utf8.valid; simp; omega
  unfold Utf8.encode
  simp only [hv, if_true, Int.toNat_natCast, h]
  simp [one]

/-- Is a text one of the kinds? -/
def isK9 (s : ByteArray) : Bool := K9.data.toList.any fun c => (one c).toList == s.toList
theorem K9_lt (k : Nat) (h : k < K9.size) : (K9[k]'h).toNat < 128 := by
  have : ∀ c ∈ K9.data.toList, c.toNat < 128 := by decide
  exact this _ (by show K9.data[k] ∈ _; simp)
theorem isK9_yes (s : ByteArray) (k : Nat) (h : k < K9.size) (h1 : ((one (K9[k]'h)).toList == s.toList) = true) : isK9 s = true := by
  unfold isK9; rw [List.any_eq_true]
  exact ⟨K9[k]'h, by show K9.data[k] ∈ _; simp, h1⟩

set_option maxHeartbeats 1000000 in
theorem isKind_any (s : ByteArray) (w : World) : Calls Try.prog 52 #[.string s] w fun e w' => e = .returned (.bool (isK9 s)) ∧ Below w.heap.size w w' := by
  go_enter Try.func52, Try.ntmps52
  go_wp2_with fail
  go_loopw [4] (fun _ wr => ∃ pos : Nat, Hid (wr.heap[w.heap.size]? = some (.stringIter K9 pos)) ∧ pos ≤ K9.size ∧ Below w.heap.size w wr ∧ Hid ((K9.data.toList.take pos).any (fun c => (one c).toList == s.toList) = false)) (fun _ wr => K9.size - wr.iterPos w.heap.size)
  case atStart => exact ⟨0, World.iter_heap w K9 0, Nat.zero_le _, (Below.refl _ _).alloc (Nat.le_refl _) _, by simp [Hid]⟩
  case round =>
    obtain ⟨pos, hit, hple, hbw, H⟩ := hrel
    have hpos0 := Lib.hid (iterPos_of' hit.out)
    by_cases hp : pos < K9.size
    · obtain ⟨c, hc⟩ : ∃ c : UInt8, c = K9[pos]'hp := ⟨_, rfl⟩
      have hlt : c.toNat < 128 := by rw [hc]; exact K9_lt pos hp
      have hnx : ∀ ty, (Instr.next (.pointer (some ⟨w.heap.size, 0, none⟩)) true ty).run Try.prog wr = .ok (.tuple #[.bool true, .int .i64 (pos : Int), .int .i32 (c.toNat : Int)]) (wr.iterAt w.heap.size K9 (pos + 1)) := fun ty => by
        rw [hc]; exact Lib.run_next_ascii_at wr w.heap.size K9 pos ty hit.out hp (K9_lt pos hp)
      have hit2 := Lib.hid (Lib.iterAt_heap wr w.heap.size K9 pos (pos + 1) hit.out)
      have hbw2 := Lib.below_iterAt hbw (k := w.heap.size) (Nat.le_refl _) K9 (pos + 1)
      have henc := enc_one c hlt
      have HC := Lib.hid hc
      clear hc
      obtain ⟨W1, hW1⟩ : ∃ W1, W1 = wr.iterAt w.heap.size K9 (pos + 1) := ⟨_, rfl⟩
      rw [← hW1] at hnx hit2 hbw2
      clear hW1
      cases hq : ((one c).toList == s.toList) with
      | true =>
        have hT : Hid (isK9 s = true) := isK9_yes s pos hp (by rw [← HC.out]; exact hq)
        go_wp2_with fail
        go_ret
        exact ⟨by rw [hT.out]; rfl, hbw2⟩
      | false =>
        have hT : Hid ((K9.data.toList.take (pos + 1)).any (fun c => (one c).toList == s.toList) = false) := by
          have h0 := H.out
          rw [take_snoc K9 pos hp, List.any_append, h0, ← HC.out]; simp [Hid, hq]
        go_wp2_with fail
        go_roundw
        case rel => exact ⟨pos + 1, hit2, by omega, hbw2, hT⟩
        case measure => rw [iterPos_of' hit2.out, hpos0.out]; omega
    · have hnx : ∀ ty, (Instr.next (.pointer (some ⟨w.heap.size, 0, none⟩)) true ty).run Try.prog wr = .ok (.tuple #[.bool false]) wr := fun ty => Lib.run_next_end_at wr w.heap.size K9 pos ty hit.out hp
      have hT : Hid (isK9 s = false) := by
        have := H.out
        rw [List.take_of_length_le (by simp; omega)] at this
        exact this
      go_wp2_with fail
      go_ret
      exact ⟨by rw [hT.out]; rfl, hbw⟩

end Go.Proofs.Ytpahhlcfbmmocaa.T1
