/- Texts of the proof, put together: Fr. No conditions. -/
import Derived.Test.YtinkioodkgccjaaDoorHac
import Derived.Test.YtinkioodkgccjaaDoorHav
import Derived.Test.YtinkioodkgccjaaDoorHbl
import Derived.Laws.IdiomStrings
import Derived.Laws.RangeAny

/- The first letter that is not in a text, in the specification and in the program. -/
namespace Go.Proofs.YtinkioodkgccjaaDoor.T1
open Go.RowKit
set_option maxRecDepth 100000

def inL (s : ByteArray) (i : Nat) : Bool := inB s ((97 + i : Nat) : Int)
/-- Which letter is the first that is missing? -/
def FirstAt (s : ByteArray) (k : Nat) : Prop := k < 26 ∧ (∀ i, i < k → inL s i = true) ∧ inL s k = false
theorem inB_of (s : ByteArray) (c : UInt8) : inB s (c.toNat : Int) = decide (c ∈ s.data.toList) := by
  rw [Bool.eq_iff_iff, decide_eq_true_iff]
  unfold inB
  rw [List.any_eq_true]
  constructor
  · rintro ⟨x, hx, h⟩
    have : x = c := u8_ext (by have := eq_of_beq h; omega)
    rw [← this]; exact hx
  · intro h; exact ⟨c, h, by simp⟩
theorem inB_lit (s : ByteArray) (n : Nat) (h : n < 256) : inB s ((n : Nat) : Int) = decide (UInt8.ofNat n ∈ s.data.toList) := by
  have := inB_of s (UInt8.ofNat n)
  rw [UInt8.toNat_ofNat', Nat.mod_eq_of_lt (by omega)] at this
  exact this
theorem ofNat_int (n : Nat) (h : n < 256) : ((UInt8.ofNat n).toNat : Int) = (n : Int) := by rw [UInt8.toNat_ofNat', Nat.mod_eq_of_lt (by omega)]
set_option maxHeartbeats 2000000 in
theorem tmFresh_exact (s : ByteArray) (hs : s.size ≤ 100000000) (w : World) : Calls Tryd.prog 30 #[.string s] w fun e w' => e = .returned (.int .u8 ((fresh s.data.toList).toNat : Int)) ∧ w = w' := by
  have HI := Lib.hid (fun c w => tmIn_any s c w hs)
  go_enter Tryd.func30, Tryd.ntmps30
  go_wp2_with fail
  go_loop [3] (fun c => ∃ k : Nat, k ≤ 26 ∧ c = .int .u8 ((97 + k : Nat) : Int) ∧ Hid (∀ i, i < k → inL s i = true)) (fun c => 200 - (intOf c).toNat)
  case atStart => exact ⟨0, Nat.zero_le _, rfl, fun i h => by omega⟩
  case round =>
    obtain ⟨k, hk, rfl, H⟩ := hrel
    by_cases hlt : k < 26
    · cases hb : inL s k with
      | true =>
        have HC : Hid (∀ w, Calls Tryd.prog 20 #[.string s, .int .u8 (97 + (k : Int))] w fun e w' => e = .returned (.bool true) ∧ w = w') := fun w => by
          have := HI.out ((97 + k : Nat) : Int) w
          rw [show inB s ((97 + k : Nat) : Int) = true from hb] at this
          push_cast at this; exact this
        have H' : Hid (∀ i, i < k + 1 → inL s i = true) := fun i hi => by
          rcases Nat.lt_or_ge i k with h' | h'
          · exact H.out i h'
          · rw [show i = k by omega]; exact hb
        clear hb
        go_wp2_with fail
        refine (HC.out _).mono ?_
        rintro e w' ⟨rfl, rfl⟩
        go_wp2_with fail
        go_round
        case rel => exact ⟨k + 1, by omega, by push_cast; rfl, H'⟩
        case measure => simp [intOf]; omega
      | false =>
        have HC : Hid (∀ w, Calls Tryd.prog 20 #[.string s, .int .u8 (97 + (k : Int))] w fun e w' => e = .returned (.bool false) ∧ w = w') := fun w => by
          have := HI.out ((97 + k : Nat) : Int) w
          rw [show inB s ((97 + k : Nat) : Int) = false from hb] at this
          push_cast at this; exact this
        have HF : Hid (FirstAt s k) := ⟨hlt, H.out, hb⟩
        clear hb
        go_wp2_with fail
        refine (HC.out _).mono ?_
        rintro e w' ⟨rfl, rfl⟩
        go_wp2_with fail
        go_ret
        exact ⟨ret_int (by rw [fresh_low s.data.toList k HF.out.1 (fun i hi => by have := HF.out.2.1 i hi; rw [inL, inB_lit s _ (by have := HF.out.1; omega), decide_eq_true_iff] at this; exact this) (by have := HF.out.2.2; rw [inL, inB_lit s _ (by have := HF.out.1; omega), decide_eq_false_iff_not] at this; exact this), ofNat_int _ (by have := HF.out.1; omega)]; push_cast; rfl), rfl⟩
    · obtain rfl : k = 26 := by omega
      go_wp2_with fail
      go_loop [4] (fun c => ∃ j : Nat, j ≤ 63 ∧ c = .int .u8 ((128 + j : Nat) : Int) ∧ Hid (∀ i, i < j → inB s ((128 + i : Nat) : Int) = true)) (fun c => 200 - (intOf c).toNat)
      case atStart => exact ⟨0, Nat.zero_le _, rfl, fun i h => by omega⟩
      case round =>
        obtain ⟨j, hj, rfl, HJ⟩ := hrel
        by_cases hlt2 : j < 63
        · have HC : Hid (∀ w, Calls Tryd.prog 20 #[.string s, .int .u8 (128 + (j : Int))] w fun e w' => e = .returned (.bool (inB s ((128 + j : Nat) : Int))) ∧ w = w') := fun w => by
            have := HI.out ((128 + j : Nat) : Int) w
            push_cast at this ⊢; exact this
          cases hb : inB s ((128 + j : Nat) : Int) with
          | true =>
            have HJ' : Hid (∀ i, i < j + 1 → inB s ((128 + i : Nat) : Int) = true) := fun i hi => by
              rcases Nat.lt_or_ge i j with h' | h'
              · exact HJ.out i h'
              · rw [show i = j by omega]; exact hb
            rw [hb] at HC
            clear hb
            go_wp2_with fail
            refine (HC.out _).mono ?_
            rintro e w' ⟨rfl, rfl⟩
            go_wp2_with fail
            go_round
            case rel => exact ⟨j + 1, by omega, by push_cast; rfl, HJ'⟩
            case measure => simp [intOf]; omega
          | false =>
            have HB := Lib.hid hb
            rw [hb] at HC
            clear hb
            go_wp2_with fail
            refine (HC.out _).mono ?_
            rintro e w' ⟨rfl, rfl⟩
            go_wp2_with fail
            go_ret
            exact ⟨ret_int (by rw [fresh_high s.data.toList j hlt2 (fun i hi => by have := H.out i hi; rw [inL, inB_lit s _ (by omega), decide_eq_true_iff] at this; exact this) (fun i hi => by have := HJ.out i hi; rw [inB_lit s _ (by omega), decide_eq_true_iff] at this; exact this) (by have := HB.out; rw [inB_lit s _ (by omega), decide_eq_false_iff_not] at this; exact this), ofNat_int _ (by omega)]; push_cast; rfl), rfl⟩
        · obtain rfl : j = 63 := by omega
          go_wp2_with fail
          go_ret
          exact ⟨ret_int (by rw [fresh_last s.data.toList (fun i hi => by have := H.out i hi; rw [inL, inB_lit s _ (by omega), decide_eq_true_iff] at this; exact this) (fun i hi => by have := HJ.out i hi; rw [inB_lit s _ (by omega), decide_eq_true_iff] at this; exact this)]; rfl), rfl⟩

end Go.Proofs.YtinkioodkgccjaaDoor.T1
