/- Texts of the proof, put together: In, Fr. No conditions. -/
import Derived.Test.YtohaddhjnghcpaaDoorHaq
import Derived.Test.YtohaddhjnghcpaaDoorHar
import Derived.Test.YtohaddhjnghcpaaDoorHau
import Derived.Lib.OthersKept
import Derived.Deep.LoopGhost
import Derived.Laws.IdiomStrings
import Derived.Laws.RangeAny

/- Is a byte in a text, in the specification. -/
namespace Go.Proofs.YtohaddhjnghcpaaDoor.T1
open Go.RowKit
set_option maxRecDepth 100000

/-- Is a byte among those of a text? -/
def inB (s : ByteArray) (c : Int) : Bool := s.data.toList.any fun x => (x.toNat : Int) == c
theorem inB_yes (s : ByteArray) (c : Int) (k : Nat) (h : k < s.size) (h1 : (s[k].toNat : Int) = c) : inB s c = true := by
  unfold inB
  rw [List.any_eq_true]
  exact ⟨s[k], by show s.data[k] ∈ _; simp, by simp [h1]⟩
theorem inB_no (s : ByteArray) (c : Int) (h : (s.data.toList.take s.size).any (fun x => (x.toNat : Int) == c) = false) : inB s c = false := by
  rw [List.take_of_length_le (by simp)] at h
  exact h

set_option maxHeartbeats 400000 in
theorem tmIn_any (s : ByteArray) (c : Int) (w : World) (hs : s.size ≤ 100000000) :
    Calls Tryd.prog 20 #[.string s, .int .u8 c] w fun e w' => e = .returned (.bool (inB s c)) ∧ w = w' := by
  go_enter Tryd.func20, Tryd.ntmps20
  go_wp2_with fail
  go_loop [5] (fun i => ∃ k : Nat, k ≤ s.size ∧ i = .int .i64 k ∧ Hid ((s.data.toList.take k).any (fun x => (x.toNat : Int) == c) = false)) (fun i => s.size - (intOf i).toNat)
  case atStart => exact ⟨0, Nat.zero_le _, rfl, by simp [Hid]⟩
  case round =>
    obtain ⟨k, hk, rfl, H⟩ := hrel
    by_cases hlt : k < s.size
    · by_cases hc : (s[k].toNat : Int) = c
      · have hT : Hid (inB s c = true) := inB_yes s c k hlt hc
        have b1 : ((s[k].toNat : Int) == c) = true := by simp [hc]
        clear hc
        go_wp2_with fail
        go_ret
        exact ⟨by rw [hT.out]; rfl, rfl⟩
      · have b1 : ((s[k].toNat : Int) == c) = false := by simp [hc]
        have hT : Hid ((s.data.toList.take (k + 1)).any (fun x => (x.toNat : Int) == c) = false) := by
          have h0 := H.out
          rw [take_snoc s k hlt, List.any_append, h0]; simp [Hid, hc]
        clear hc
        go_wp2_with fail
        go_round
        case rel => exact ⟨k + 1, by omega, by go_num, hT⟩
        case measure => simp [intOf]; omega
    · have hT : Hid (inB s c = false) := inB_no s c (by have := H.out; rw [show k = s.size by omega] at this; exact this)
      go_wp2_with fail
      go_ret
      exact ⟨by rw [hT.out]; rfl, rfl⟩

end Go.Proofs.YtohaddhjnghcpaaDoor.T1

/- The first letter that is not in a text, in the specification and in the program. -/
namespace Go.Proofs.YtohaddhjnghcpaaDoor.T1
open Go.RowKit
set_option maxRecDepth 100000

def inL (s : ByteArray) (i : Nat) : Bool := inB s ((97 + i : Nat) : Int)
/-- Which letter is the first that is missing? -/
def FirstAt (s : ByteArray) (k : Nat) : Prop := k < 26 ∧ (∀ i, i < k → inL s i = true) ∧ inL s k = false
theorem inB_of (s : ByteArray) (c : UInt8) : inB s (c.toNat : Int) = decide (c ∈ s.data.toList) := by
  rw [Bool.eq_iff_iff, decide_eq_true_iff]
  unfold inB
  rw [List.any_eq_true]
  constructor
  · rintro ⟨x, hx, h⟩
    have : x = c := u8_ext (by have := eq_of_beq h; omega)
    rw [← this]; exact hx
  · intro h; exact ⟨c, h, by simp⟩
theorem inB_lit (s : ByteArray) (n : Nat) (h : n < 256) : inB s ((n : Nat) : Int) = decide (UInt8.ofNat n ∈ s.data.toList) := by
  have := inB_of s (UInt8.ofNat n)
  rw [UInt8.toNat_ofNat', Nat.mod_eq_of_lt (by omega)] at this
  exact this
theorem ofNat_int (n : Nat) (h : n < 256) : ((UInt8.ofNat n).toNat : Int) = (n : Int) := by rw [UInt8.toNat_ofNat', Nat.mod_eq_of_lt (by omega)]
set_option maxHeartbeats 2000000 in
theorem tmFresh_exact (s : ByteArray) (hs : s.size ≤ 100000000) (w : World) : Calls Tryd.prog 32 #[.string s] w fun e w' => e = .returned (.int .u8 ((fresh s.data.toList).toNat : Int)) ∧ w = w' := by
  have HI := Lib.hid (fun c w => tmIn_any s c w hs)
  go_enter Tryd.func32, Tryd.ntmps32
  go_wp2_with fail
  go_loop [3] (fun c => ∃ k : Nat, k ≤ 26 ∧ c = .int .u8 ((97 + k : Nat) : Int) ∧ Hid (∀ i, i < k → inL s i = true)) (fun c => 200 - (intOf c).toNat)
  case atStart => exact ⟨0, Nat.zero_le _, rfl, fun i h => by omega⟩
  case round =>
    obtain ⟨k, hk, rfl, H⟩ := hrel
    by_cases hlt : k < 26
    · cases hb : inL s k with
      | true =>
        have HC : Hid (∀ w, Calls Tryd.prog 20 #[.string s, .int .u8 (97 + (k : Int))] w fun e w' => e = .returned (.bool true) ∧ w = w') := fun w => by
          have := HI.out ((97 + k : Nat) : Int) w
          rw [show inB s ((97 + k : Nat) : Int) = true from hb] at this
          push_cast at this; exact this
        have H' : Hid (∀ i, i < k + 1 → inL s i = true) := fun i hi => by
          rcases Nat.lt_or_ge i k with h' | h'
          · exact H.out i h'
          · rw [show i = k by omega]; exact hb
        clear hb
        go_wp2_with fail
        refine (HC.out _).mono ?_
        rintro e w' ⟨rfl, rfl⟩
        go_wp2_with fail
        go_round
        case rel => exact ⟨k + 1, by omega, by push_cast; rfl, H'⟩
        case measure => simp [intOf]; omega
      | false =>
        have HC : Hid (∀ w, Calls Tryd.prog 20 #[.string s, .int .u8 (97 + (k : Int))] w fun e w' => e = .returned (.bool false) ∧ w = w') := fun w => by
          have := HI.out ((97 + k : Nat) : Int) w
          rw [show inB s ((97 + k : Nat) : Int) = false from hb] at this
          push_cast at this; exact this
        have HF : Hid (FirstAt s k) := ⟨hlt, H.out, hb⟩
        clear hb
        go_wp2_with fail
        refine (HC.out _).mono ?_
        rintro e w' ⟨rfl, rfl⟩
        go_wp2_with fail
        go_ret
        exact ⟨ret_int (by rw [fresh_low s.data.toList k HF.out.1 (fun i hi => by have := HF.out.2.1 i hi; rw [inL, inB_lit s _ (by have := HF.out.1; omega), decide_eq_true_iff] at this; exact this) (by have := HF.out.2.2; rw [inL, inB_lit s _ (by have := HF.out.1; omega), decide_eq_false_iff_not] at this; exact this), ofNat_int _ (by have := HF.out.1; omega)]; push_cast; rfl), rfl⟩
    · obtain rfl : k = 26 := by omega
      go_wp2_with fail
      go_loop [4] (fun c => ∃ j : Nat, j ≤ 63 ∧ c = .int .u8 ((128 + j : Nat) : Int) ∧ Hid (∀ i, i < j → inB s ((128 + i : Nat) : Int) = true)) (fun c => 200 - (intOf c).toNat)
      case atStart => exact ⟨0, Nat.zero_le _, rfl, fun i h => by omega⟩
      case round =>
        obtain ⟨j, hj, rfl, HJ⟩ := hrel
        by_cases hlt2 : j < 63
        · have HC : Hid (∀ w, Calls Tryd.prog 20 #[.string s, .int .u8 (128 + (j : Int))] w fun e w' => e = .returned (.bool (inB s ((128 + j : Nat) : Int))) ∧ w = w') := fun w => by
            have := HI.out ((128 + j : Nat) : Int) w
            push_cast at this ⊢; exact this
          cases hb : inB s ((128 + j : Nat) : Int) with
          | true =>
            have HJ' : Hid (∀ i, i < j + 1 → inB s ((128 + i : Nat) : Int) = true) := fun i hi => by
              rcases Nat.lt_or_ge i j with h' | h'
              · exact HJ.out i h'
              · rw [show i = j by omega]; exact hb
            rw [hb] at HC
            clear hb
            go_wp2_with fail
            refine (HC.out _).mono ?_
            rintro e w' ⟨rfl, rfl⟩
            go_wp2_with fail
            go_round
            case rel => exact ⟨j + 1, by omega, by push_cast; rfl, HJ'⟩
            case measure => simp [intOf]; omega
          | false =>
            have HB := Lib.hid hb
            rw [hb] at HC
            clear hb
            go_wp2_with fail
            refine (HC.out _).mono ?_
            rintro e w' ⟨rfl, rfl⟩
            go_wp2_with fail
            go_ret
            exact ⟨ret_int (by rw [fresh_high s.data.toList j hlt2 (fun i hi => by have := H.out i hi; rw [inL, inB_lit s _ (by omega), decide_eq_true_iff] at this; exact this) (fun i hi => by have := HJ.out i hi; rw [inB_lit s _ (by omega), decide_eq_true_iff] at this; exact this) (by have := HB.out; rw [inB_lit s _ (by omega), decide_eq_false_iff_not] at this; exact this), ofNat_int _ (by omega)]; push_cast; rfl), rfl⟩
        · obtain rfl : j = 63 := by omega
          go_wp2_with fail
          go_ret
          exact ⟨ret_int (by rw [fresh_last s.data.toList (fun i hi => by have := H.out i hi; rw [inL, inB_lit s _ (by omega), decide_eq_true_iff] at this; exact this) (fun i hi => by have := HJ.out i hi; rw [inB_lit s _ (by omega), decide_eq_true_iff] at this; exact this)]; rfl), rfl⟩

end Go.Proofs.YtohaddhjnghcpaaDoor.T1
