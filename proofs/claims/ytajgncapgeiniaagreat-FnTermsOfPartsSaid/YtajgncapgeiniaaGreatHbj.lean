/- Texts of the proof, put together: In, Ik. No conditions. -/
import Derived.Test.YtajgncapgeiniaaGreatHaq
import Derived.Test.YtajgncapgeiniaaGreatHbi
import Derived.Lib.OthersKept
import Derived.Deep.LoopGhost

/- Is a byte in a text, in the specification. -/
namespace Go.Proofs.YtajgncapgeiniaaGreat.T1
open Go.RowKit
set_option maxRecDepth 100000

/-- Is a byte among those of a text? -/
def inB (s : ByteArray) (c : Int) : Bool := s.data.toList.any fun x => (x.toNat : Int) == c
theorem inB_yes (s : ByteArray) (c : Int) (k : Nat) (h : k < s.size) (h1 : (s[k].toNat : Int) = c) : inB s c = true := by
  unfold inB
  rw [List.any_eq_true]
  exact ⟨s[k], by show s.data[k] ∈ _; simp, by simp [h1]⟩
theorem inB_no (s : ByteArray) (c : Int) (h : (s.data.toList.take s.size).any (fun x => (x.toNat : Int) == c) = false) : inB s c = false := by
  rw [List.take_of_length_le (by simp)] at h
  exact h

set_option maxHeartbeats 400000 in
theorem tmIn_any (s : ByteArray) (c : Int) (w : World) (hs : s.size ≤ 100000000) :
    Calls Tryz.prog 71 #[.string s, .int .u8 c] w fun e w' => e = .returned (.bool (inB s c)) ∧ w = w' := by
  go_enter Tryz.func71, Tryz.ntmps71
  go_wp2_with fail
  go_loop [5] (fun i => ∃ k : Nat, k ≤ s.size ∧ i = .int .i64 k ∧ Hid ((s.data.toList.take k).any (fun x => (x.toNat : Int) == c) = false)) (fun i => s.size - (intOf i).toNat)
  case atStart => exact ⟨0, Nat.zero_le _, rfl, by simp [Hid]⟩
  case round =>
    obtain ⟨k, hk, rfl, H⟩ := hrel
    by_cases hlt : k < s.size
    · by_cases hc : (s[k].toNat : Int) = c
      · have hT : Hid (inB s c = true) := inB_yes s c k hlt hc
        have b1 : ((s[k].toNat : Int) == c) = true := by simp [hc]
        clear hc
        go_wp2_with fail
        go_ret
        exact ⟨by rw [hT.out]; rfl, rfl⟩
      · have b1 : ((s[k].toNat : Int) == c) = false := by simp [hc]
        have hT : Hid ((s.data.toList.take (k + 1)).any (fun x => (x.toNat : Int) == c) = false) := by
          have h0 := H.out
          rw [take_snoc s k hlt, List.any_append, h0]; simp [Hid, hc]
        clear hc
        go_wp2_with fail
        go_round
        case rel => exact ⟨k + 1, by omega, by go_num, hT⟩
        case measure => simp [intOf]; omega
    · have hT : Hid (inB s c = false) := inB_no s c (by have := H.out; rw [show k = s.size by omega] at this; exact this)
      go_wp2_with fail
      go_ret
      exact ⟨by rw [hT.out]; rfl, rfl⟩

end Go.Proofs.YtajgncapgeiniaaGreat.T1

/- Is a byte in a text; is a text one of the kinds. -/
namespace Go.Proofs.YtajgncapgeiniaaGreat.T1
open Go.RowKit
set_option maxRecDepth 100000

/-- All kinds. -/
def K9 : ByteArray := ⟨#[48, 33, 63, 126, 43, 38, 35, 61, 42]⟩
theorem enc_one (c : UInt8) (h : c.toNat < 128) : Utf8.encode (c.toNat : Int) = one c := by
  have hv : Utf8.valid (c.toNat : Int) = true := by unfold Utf8.valid; simp; omega
  unfold Utf8.encode
  simp only [hv, if_true, Int.toNat_natCast, h]
  simp [one]

/-- Is a text one of the kinds? -/
def isK9 (s : ByteArray) : Bool := K9.data.toList.any fun c => (one c).toList == s.toList
theorem K9_lt (k : Nat) (h : k < K9.size) : (K9[k]'h).toNat < 128 := by
  have : ∀ c ∈ K9.data.toList, c.toNat < 128 := by decide
  exact this _ (by show K9.data[k] ∈ _; simp)
theorem isK9_yes (s : ByteArray) (k : Nat) (h : k < K9.size) (h1 : ((one (K9[k]'h)).toList == s.toList) = true) : isK9 s = true := by
  unfold isK9; rw [List.any_eq_true]
  exact ⟨K9[k]'h, by show K9.data[k] ∈ _; simp, h1⟩

set_option maxHeartbeats 1000000 in
theorem isKind_any (s : ByteArray) (w : World) : Calls Tryz.prog 61 #[.string s] w fun e w' => e = .returned (.bool (isK9 s)) ∧ Below w.heap.size w w' := by
  go_enter Tryz.func61, Tryz.ntmps61
  go_wp2_with fail
  go_loopw [4] (fun _ wr => ∃ pos : Nat, Hid (wr.heap[w.heap.size]? = some (.stringIter K9 pos)) ∧ pos ≤ K9.size ∧ Below w.heap.size w wr ∧ Hid ((K9.data.toList.take pos).any (fun c => (one c).toList == s.toList) = false)) (fun _ wr => K9.size - wr.iterPos w.heap.size)
  case atStart => exact ⟨0, World.iter_heap w K9 0, Nat.zero_le _, (Below.refl _ _).alloc (Nat.le_refl _) _, by simp [Hid]⟩
  case round =>
    obtain ⟨pos, hit, hple, hbw, H⟩ := hrel
    have hpos0 := Lib.hid (iterPos_of' hit.out)
    by_cases hp : pos < K9.size
    · obtain ⟨c, hc⟩ : ∃ c : UInt8, c = K9[pos]'hp := ⟨_, rfl⟩
      have hlt : c.toNat < 128 := by rw [hc]; exact K9_lt pos hp
      have hnx : ∀ ty, (Instr.next (.pointer (some ⟨w.heap.size, 0, none⟩)) true ty).run Tryz.prog wr = .ok (.tuple #[.bool true, .int .i64 (pos : Int), .int .i32 (c.toNat : Int)]) (wr.iterAt w.heap.size K9 (pos + 1)) := fun ty => by
        rw [hc]; exact Lib.run_next_ascii_at wr w.heap.size K9 pos ty hit.out hp (K9_lt pos hp)
      have hit2 := Lib.hid (Lib.iterAt_heap wr w.heap.size K9 pos (pos + 1) hit.out)
      have hbw2 := Lib.below_iterAt hbw (k := w.heap.size) (Nat.le_refl _) K9 (pos + 1)
      have henc := enc_one c hlt
      have HC := Lib.hid hc
      clear hc
      obtain ⟨W1, hW1⟩ : ∃ W1, W1 = wr.iterAt w.heap.size K9 (pos + 1) := ⟨_, rfl⟩
      rw [← hW1] at hnx hit2 hbw2
      clear hW1
      cases hq : ((one c).toList == s.toList) with
      | true =>
        have hT : Hid (isK9 s = true) := isK9_yes s pos hp (by rw [← HC.out]; exact hq)
        go_wp2_with fail
        go_ret
        exact ⟨by rw [hT.out]; rfl, hbw2⟩
      | false =>
        have hT : Hid ((K9.data.toList.take (pos + 1)).any (fun c => (one c).toList == s.toList) = false) := by
          have h0 := H.out
          rw [take_snoc K9 pos hp, List.any_append, h0, ← HC.out]; simp [Hid, hq]
        go_wp2_with fail
        go_roundw
        case rel => exact ⟨pos + 1, hit2, by omega, hbw2, hT⟩
        case measure => rw [iterPos_of' hit2.out, hpos0.out]; omega
    · have hnx : ∀ ty, (Instr.next (.pointer (some ⟨w.heap.size, 0, none⟩)) true ty).run Tryz.prog wr = .ok (.tuple #[.bool false]) wr := fun ty => Lib.run_next_end_at wr w.heap.size K9 pos ty hit.out hp
      have hT : Hid (isK9 s = false) := by
        have := H.out
        rw [List.take_of_length_le (by simp; omega)] at this
        exact this
      go_wp2_with fail
      go_ret
      exact ⟨by rw [hT.out]; rfl, hbw⟩

end Go.Proofs.YtajgncapgeiniaaGreat.T1
