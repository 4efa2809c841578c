/- Texts of the proof, put together: Set, Fr. No conditions. -/
import Derived.Test.YtmfmagfgcdaeeaaGreatHai
import Derived.Test.YtmfmagfgcdaeeaaGreatHaj
import Derived.Test.YtmfmagfgcdaeeaaGreatHak
import Derived.Laws.Bits64
import Derived.Laws.BitsAllLaws
import Derived.Laws.BitsLemmas
import Derived.Laws.IdiomStrings
import Derived.Laws.RangeAny

/- Sets of letters, a bit for each. -/
namespace Go.Proofs.YtmfmagfgcdaeeaaGreat.T1
open Go.RowKit
set_option maxRecDepth 100000

theorem u32_keep : ∀ n : Int, 0 ≤ n → n < 2 ^ 32 → IntKind.u32.wrap n = n := by
  intro n h0 h1
  rw [IntKind.wrap_u32]; omega
theorem or32 (a b : Nat) (ha : a < 2 ^ 32) (hb : b < 2 ^ 32) : bits .or .u32 (a : Int) (b : Int) = ((a ||| b : Nat) : Int) := (bits_nat .u32 32 (by decide) u32_keep a b ha hb).2
theorem and32 (a b : Nat) (ha : a < 2 ^ 32) (hb : b < 2 ^ 32) : bits .and .u32 (a : Int) (b : Int) = ((a &&& b : Nat) : Int) := (bits_nat .u32 32 (by decide) u32_keep a b ha hb).1
theorem pow32 (c : Nat) (h2 : c ≤ 122) : ((2 : Int) ^ (c - 97) % 4294967296) = ((2 ^ (c - 97) : Nat) : Int) := by
  have h : 2 ^ (c - 97) < 4294967296 := by
    have : 2 ^ (c - 97) ≤ 2 ^ 25 := Nat.pow_le_pow_right (by decide) (by omega)
    omega
  have e : (2 : Int) ^ (c - 97) = ((2 ^ (c - 97) : Nat) : Int) := by rw [Int.natCast_pow]; rfl
  rw [e]
  generalize 2 ^ (c - 97) = m at h ⊢
  omega
theorem pow_lt32 (c : Nat) (h2 : c ≤ 122) : 2 ^ (c - 97) < 2 ^ 32 := Nat.pow_lt_pow_right (by decide) (by omega)

set_option maxHeartbeats 400000 in
theorem with_any (n c : Nat) (hn : n < 2 ^ 32) (h1 : 97 ≤ c) (h2 : c ≤ 122) (w : World) :
    Calls Tryz.prog 132 #[.int .u32 (n : Int), .int .u8 (c : Int)] w fun e w' => e = .returned (.int .u32 ((n ||| 2 ^ (c - 97) : Nat) : Int)) ∧ w = w' := by
  have HB : Hid (bits .or .u32 (n : Int) ((2 : Int) ^ (c - 97) % 4294967296) = ((n ||| 2 ^ (c - 97) : Nat) : Int)) := by
    show _ = _
    rw [pow32 c h2, or32 n _ hn (pow_lt32 c h2)]
  have b1 : (97 : Int) ≤ (c : Int) := by omega
  have b2 : (c : Int) ≤ 122 := by omega
  clear hn
  go_enter Tryz.func132, Tryz.ntmps132
  go_wp2_with fail
  go_ret
  exact ⟨ret_int HB.out, rfl⟩

theorem has_bit (n k : Nat) : (((n &&& 2 ^ k : Nat) : Int) != 0) = n.testBit k := by
  cases h : n.testBit k with
  | false =>
    have : n &&& 2 ^ k = 0 := by
      apply Nat.eq_of_testBit_eq
      intro i
      rw [Nat.testBit_and, Nat.testBit_two_pow, Nat.zero_testBit]
      by_cases hi : k = i
      · subst hi; rw [h]; rfl
      · simp [hi]
    rw [this]; rfl
  | true =>
    have : n &&& 2 ^ k ≠ 0 := by
      intro h0
      have h1 := congrArg (fun x => Nat.testBit x k) h0
      simp [Nat.testBit_and, h] at h1
    simp; omega
set_option maxHeartbeats 400000 in
theorem has_any (n c : Nat) (hn : n < 2 ^ 32) (h1 : 97 ≤ c) (h2 : c ≤ 122) (w : World) :
    Calls Tryz.prog 133 #[.int .u32 (n : Int), .int .u8 (c : Int)] w fun e w' => e = .returned (.bool (n.testBit (c - 97))) ∧ w = w' := by
  have HW := with_any 0 c (by decide) h1 h2
  rw [Nat.zero_or] at HW
  have HW2 : Hid (∀ w, Calls Tryz.prog 132 #[.int .u32 0, .int .u8 (c : Int)] w fun e w' => e = .returned (.int .u32 ((2 ^ (c - 97) : Nat) : Int)) ∧ w = w') := HW
  have HB : Hid ((bits .and .u32 (n : Int) ((2 ^ (c - 97) : Nat) : Int) != 0) = n.testBit (c - 97)) := by
    show _ = _
    rw [and32 n _ hn (pow_lt32 c h2), has_bit]
  obtain ⟨m, hm⟩ : ∃ m, m = 2 ^ (c - 97) := ⟨_, rfl⟩
  rw [← hm] at HW2 HB
  clear hn HW hm
  go_enter Tryz.func133, Tryz.ntmps133
  go_wp2_with fail
  refine (HW2.out _).mono ?_
  rintro e w' ⟨rfl, rfl⟩
  go_wp2_with fail
  go_ret
  exact ⟨by rw [← HB.out]; rfl, rfl⟩

/-- The letters among the first k whose bits are set. -/
def lets (n k : Nat) : List UInt8 := ((List.range k).filter fun i => n.testBit i).map fun i => UInt8.ofNat (97 + i)
theorem lets_succ (n k : Nat) : lets n (k + 1) = lets n k ++ (if n.testBit k then [UInt8.ofNat (97 + k)] else []) := by
  unfold lets
  rw [List.range_succ, List.filter_append, List.map_append]
  cases h : n.testBit k <;> simp [h]
theorem lets_len (n k : Nat) : (lets n k).length ≤ k := by
  unfold lets
  rw [List.length_map]
  have := List.length_filter_le (fun i => n.testBit i) (List.range k)
  simpa using this

set_option maxHeartbeats 2000000 in
theorem letters_any (n : Nat) (hn : n < 2 ^ 32) (w : World) :
    Calls Tryz.prog 73 #[.int .u32 (n : Int)] w fun e w' => ∃ v, e = .returned v ∧ w'.ownsRow w.heap.size 5 1 v (lets n 26).length ((lets n 26).map ub) ∧ Below w.heap.size w w' := by
  have HH : Hid (∀ (c : Nat) (_ : 97 ≤ c) (_ : c ≤ 122) (w : World), Calls Tryz.prog 133 #[.int .u32 (n : Int), .int .u8 (c : Int)] w fun e w' => e = .returned (.bool (n.testBit (c - 97))) ∧ w = w') := fun c h1 h2 w => has_any n c hn h1 h2 w
  clear hn
  obtain ⟨i0, hi, hz0, hz1, hz2⟩ := info_parts Tryz.infoU8
  go_enter Tryz.func73, Tryz.ntmps73
  go_wp2_with fail
  go_loopw [3, 4] (fun v c wr => ∃ k : Nat, k ≤ 26 ∧ c = .int .u8 ((97 + k : Nat) : Int) ∧ Hid (wr.ownsRow w.heap.size 5 1 v (lets n k).length ((lets n k).map ub)) ∧ Below w.heap.size w wr) (fun _ c _ => 200 - (intOf c).toNat)
  case atStart => exact ⟨0, Nat.zero_le _, rfl, World.ownsRow_nil _ _ _ _, Below.refl _ _⟩
  case round =>
    obtain ⟨k, hk, rfl, hown, hbw⟩ := hrel
    by_cases hlt : k < 26
    · have HC := HH.out (97 + k) (by omega) (by omega)
      have hll := lets_len n k
      have hsz := hbw.size
      cases hb : n.testBit k with
      | true =>
        rw [show 97 + k - 97 = k by omega, hb] at HC
        have HC2 : Hid (∀ w, Calls Tryz.prog 133 #[.int .u32 (n : Int), .int .u8 (97 + (k : Int))] w fun e w' => e = .returned (.bool true) ∧ w = w') := fun w => by
          have := HC w; push_cast at this; exact this
        have hls : Hid (lets n (k + 1) = lets n k ++ [UInt8.ofNat (97 + k)]) := by show _ = _; rw [lets_succ, hb]; rfl
        have hc8 : Hid (((UInt8.ofNat (97 + k)).toNat : Int) = 97 + (k : Int)) := by
          show _ = _
          rw [UInt8.toNat_ofNat']; omega
        clear HC hb
        go_wp2_with fail
        refine (HC2.out _).mono ?_
        rintro e w' ⟨rfl, rfl⟩
        go_wp2_with (at_builtin; refine wpList_append_own _ rfl (.tmp 12) (.tmp 14) 22 rfl w.heap.size 5 i0 (.int .u8 0) 1 1 Tryz.underlying22 hi hz0 hz1 hz2 rfl (by decide) _ _ _ rfl (hown.out.alloc _) ⟨wr.heap.size, 0, none⟩ 1 1 [.int .u8 (97 + (k : Int))] rfl rfl (cell_row wr [.int .u8 (97 + (k : Int))] 5) (fun u hu => by simp at hu; subst hu; rfl) ?c2 ?c3 ?c4 ?_)
        case c2 => unfold maxLen; omega
        case c3 => omega
        case c4 => simp; omega
        intro v1 w1 hown1 hgrow1 _
        have hbw1 : Below w.heap.size w w1 := Below.grown (hbw.alloc hsz _) hgrow1 (by simp; omega) (fun j hj => by
          rcases hown.out.2 with ⟨rfl, _⟩ | ⟨g, cap, cur, rfl, h1, _⟩
          · simp [Value.ownBlock] at hj
          · simp [Value.ownBlock] at hj; omega)
        have HO : Hid (w1.ownsRow w.heap.size 5 1 v1 (lets n (k + 1)).length ((lets n (k + 1)).map ub)) := by
          rw [hls.out, List.map_append, List.length_append]
          show w1.ownsRow w.heap.size 5 1 v1 ((lets n k).length + 1) ((lets n k).map ub ++ [ub (UInt8.ofNat (97 + k))])
          rw [show ub (UInt8.ofNat (97 + k)) = .int .u8 (97 + (k : Int)) from by unfold ub; rw [hc8.out]]
          exact hown1
        clear hown1 hgrow1
        go_wp2_with fail
        go_roundw
        case rel => exact ⟨k + 1, by omega, by push_cast; rfl, HO, hbw1⟩
        case measure => simp [intOf]; omega
      | false =>
        rw [show 97 + k - 97 = k by omega, hb] at HC
        have HC2 : Hid (∀ w, Calls Tryz.prog 133 #[.int .u32 (n : Int), .int .u8 (97 + (k : Int))] w fun e w' => e = .returned (.bool false) ∧ w = w') := fun w => by
          have := HC w; push_cast at this; exact this
        have hls : Hid (lets n (k + 1) = lets n k) := by show _ = _; rw [lets_succ, hb]; simp
        clear HC hb
        go_wp2_with fail
        refine (HC2.out _).mono ?_
        rintro e w' ⟨rfl, rfl⟩
        go_wp2_with fail
        go_roundw
        case rel => exact ⟨k + 1, by omega, by push_cast; rfl, by rw [hls.out]; exact hown, hbw⟩
        case measure => simp [intOf]; omega
    · obtain rfl : k = 26 := by omega
      go_wp2_with fail
      go_ret
      exact ⟨_, rfl, hown.out, hbw⟩

theorem xor32 (a b : Nat) (ha : a < 2 ^ 32) (hb : b < 2 ^ 32) : bits .xor .u32 (a : Int) (b : Int) = ((a ^^^ b : Nat) : Int) := by
  have hx : a ^^^ b < 2 ^ 32 := Nat.xor_lt_two_pow ha hb
  have h1 : (BitVec.ofInt 32 (a : Int)).toNat = a := by
    rw [BitVec.ofInt_natCast, BitVec.toNat_ofNat]; exact Nat.mod_eq_of_lt ha
  have h2 : (BitVec.ofInt 32 (b : Int)).toNat = b := by
    rw [BitVec.ofInt_natCast, BitVec.toNat_ofNat]; exact Nat.mod_eq_of_lt hb
  show IntKind.u32.wrap ((BitVec.ofInt 32 (a : Int) ^^^ BitVec.ofInt 32 (b : Int)).toNat : Int) = _
  rw [BitVec.toNat_xor, h1, h2, IntKind.wrap_u32]
  omega
/-- All bits turned. -/
def flip32 (n : Nat) : Nat := (2 ^ 32 - 1) ^^^ n
theorem flip_lt (n : Nat) (hn : n < 2 ^ 32) : flip32 n < 2 ^ 32 := Nat.xor_lt_two_pow (by decide) hn
theorem flip_bit (n k : Nat) (hk : k < 32) : (flip32 n).testBit k = !n.testBit k := by
  unfold flip32
  rw [Nat.testBit_xor, Nat.testBit_two_pow_sub_one]
  simp [hk]
set_option maxHeartbeats 400000 in
theorem others_any (n : Nat) (hn : n < 2 ^ 32) (w : World) :
    Calls Tryz.prog 61 #[.int .u32 (n : Int)] w fun e w' => ∃ v, e = .returned v ∧ w'.ownsRow w.heap.size 5 1 v (lets (flip32 n) 26).length ((lets (flip32 n) 26).map ub) ∧ Below w.heap.size w w' := by
  have HL := letters_any (flip32 n) (flip_lt n hn)
  rw [show ((flip32 n : Nat) : Int) = bits .xor .u32 IntKind.u32.max (n : Int) from (xor32 (2 ^ 32 - 1) n (by decide) hn).symm] at HL
  obtain ⟨L, hL⟩ : ∃ L, L = lets (flip32 n) 26 := ⟨_, rfl⟩
  rw [← hL] at HL ⊢
  have H := Lib.hid HL
  clear HL hL hn
  go_enter Tryz.func61, Tryz.ntmps61
  go_wp2_with fail
  refine (H.out _).mono ?_
  rintro e w1 ⟨v, rfl, ho, bl⟩
  have HO := Lib.hid ho
  clear ho
  go_wp2_with fail
  go_ret
  exact ⟨_, rfl, HO.out, bl⟩

end Go.Proofs.YtmfmagfgcdaeeaaGreat.T1

/- The first letter that is not in a text, in the specification and in the program. -/
namespace Go.Proofs.YtmfmagfgcdaeeaaGreat.T1
open Go.RowKit
set_option maxRecDepth 100000

def inL (s : ByteArray) (i : Nat) : Bool := inB s ((97 + i : Nat) : Int)
/-- Which letter is the first that is missing? -/
def FirstAt (s : ByteArray) (k : Nat) : Prop := k < 26 ∧ (∀ i, i < k → inL s i = true) ∧ inL s k = false
theorem inB_of (s : ByteArray) (c : UInt8) : inB s (c.toNat : Int) = decide (c ∈ s.data.toList) := by
  rw [Bool.eq_iff_iff, decide_eq_true_iff]
  unfold inB
  rw [List.any_eq_true]
  constructor
  · rintro ⟨x, hx, h⟩
    have : x = c := u8_ext (by have := eq_of_beq h; omega)
    rw [← this]; exact hx
  · intro h; exact ⟨c, h, by simp⟩
theorem inB_lit (s : ByteArray) (n : Nat) (h : n < 256) : inB s ((n : Nat) : Int) = decide (UInt8.ofNat n ∈ s.data.toList) := by
  have := inB_of s (UInt8.ofNat n)
  rw [UInt8.toNat_ofNat', Nat.mod_eq_of_lt (by omega)] at this
  exact this
theorem ofNat_int (n : Nat) (h : n < 256) : ((UInt8.ofNat n).toNat : Int) = (n : Int) := by rw [UInt8.toNat_ofNat', Nat.mod_eq_of_lt (by omega)]
set_option maxHeartbeats 2000000 in
theorem tmFresh_exact (s : ByteArray) (hs : s.size ≤ 100000000) (w : World) : Calls Tryz.prog 125 #[.string s] w fun e w' => e = .returned (.int .u8 ((fresh s.data.toList).toNat : Int)) ∧ w = w' := by
  have HI := Lib.hid (fun c w => tmIn_any s c w hs)
  go_enter Tryz.func125, Tryz.ntmps125
  go_wp2_with fail
  go_loop [3] (fun c => ∃ k : Nat, k ≤ 26 ∧ c = .int .u8 ((97 + k : Nat) : Int) ∧ Hid (∀ i, i < k → inL s i = true)) (fun c => 200 - (intOf c).toNat)
  case atStart => exact ⟨0, Nat.zero_le _, rfl, fun i h => by omega⟩
  case round =>
    obtain ⟨k, hk, rfl, H⟩ := hrel
    by_cases hlt : k < 26
    · cases hb : inL s k with
      | true =>
        have HC : Hid (∀ w, Calls Tryz.prog 69 #[.string s, .int .u8 (97 + (k : Int))] w fun e w' => e = .returned (.bool true) ∧ w = w') := fun w => by
          have := HI.out ((97 + k : Nat) : Int) w
          rw [show inB s ((97 + k : Nat) : Int) = true from hb] at this
          push_cast at this; exact this
        have H' : Hid (∀ i, i < k + 1 → inL s i = true) := fun i hi => by
          rcases Nat.lt_or_ge i k with h' | h'
          · exact H.out i h'
          · rw [show i = k by omega]; exact hb
        clear hb
        go_wp2_with fail
        refine (HC.out _).mono ?_
        rintro e w' ⟨rfl, rfl⟩
        go_wp2_with fail
        go_round
        case rel => exact ⟨k + 1, by omega, by push_cast; rfl, H'⟩
        case measure => simp [intOf]; omega
      | false =>
        have HC : Hid (∀ w, Calls Tryz.prog 69 #[.string s, .int .u8 (97 + (k : Int))] w fun e w' => e = .returned (.bool false) ∧ w = w') := fun w => by
          have := HI.out ((97 + k : Nat) : Int) w
          rw [show inB s ((97 + k : Nat) : Int) = false from hb] at this
          push_cast at this; exact this
        have HF : Hid (FirstAt s k) := ⟨hlt, H.out, hb⟩
        clear hb
        go_wp2_with fail
        refine (HC.out _).mono ?_
        rintro e w' ⟨rfl, rfl⟩
        go_wp2_with fail
        go_ret
        exact ⟨ret_int (by rw [fresh_low s.data.toList k HF.out.1 (fun i hi => by have := HF.out.2.1 i hi; rw [inL, inB_lit s _ (by have := HF.out.1; omega), decide_eq_true_iff] at this; exact this) (by have := HF.out.2.2; rw [inL, inB_lit s _ (by have := HF.out.1; omega), decide_eq_false_iff_not] at this; exact this), ofNat_int _ (by have := HF.out.1; omega)]; push_cast; rfl), rfl⟩
    · obtain rfl : k = 26 := by omega
      go_wp2_with fail
      go_loop [4] (fun c => ∃ j : Nat, j ≤ 63 ∧ c = .int .u8 ((128 + j : Nat) : Int) ∧ Hid (∀ i, i < j → inB s ((128 + i : Nat) : Int) = true)) (fun c => 200 - (intOf c).toNat)
      case atStart => exact ⟨0, Nat.zero_le _, rfl, fun i h => by omega⟩
      case round =>
        obtain ⟨j, hj, rfl, HJ⟩ := hrel
        by_cases hlt2 : j < 63
        · have HC : Hid (∀ w, Calls Tryz.prog 69 #[.string s, .int .u8 (128 + (j : Int))] w fun e w' => e = .returned (.bool (inB s ((128 + j : Nat) : Int))) ∧ w = w') := fun w => by
            have := HI.out ((128 + j : Nat) : Int) w
            push_cast at this ⊢; exact this
          cases hb : inB s ((128 + j : Nat) : Int) with
          | true =>
            have HJ' : Hid (∀ i, i < j + 1 → inB s ((128 + i : Nat) : Int) = true) := fun i hi => by
              rcases Nat.lt_or_ge i j with h' | h'
              · exact HJ.out i h'
              · rw [show i = j by omega]; exact hb
            rw [hb] at HC
            clear hb
            go_wp2_with fail
            refine (HC.out _).mono ?_
            rintro e w' ⟨rfl, rfl⟩
            go_wp2_with fail
            go_round
            case rel => exact ⟨j + 1, by omega, by push_cast; rfl, HJ'⟩
            case measure => simp [intOf]; omega
          | false =>
            have HB := Lib.hid hb
            rw [hb] at HC
            clear hb
            go_wp2_with fail
            refine (HC.out _).mono ?_
            rintro e w' ⟨rfl, rfl⟩
            go_wp2_with fail
            go_ret
            exact ⟨ret_int (by rw [fresh_high s.data.toList j hlt2 (fun i hi => by have := H.out i hi; rw [inL, inB_lit s _ (by omega), decide_eq_true_iff] at this; exact this) (fun i hi => by have := HJ.out i hi; rw [inB_lit s _ (by omega), decide_eq_true_iff] at this; exact this) (by have := HB.out; rw [inB_lit s _ (by omega), decide_eq_false_iff_not] at this; exact this), ofNat_int _ (by omega)]; push_cast; rfl), rfl⟩
        · obtain rfl : j = 63 := by omega
          go_wp2_with fail
          go_ret
          exact ⟨ret_int (by rw [fresh_last s.data.toList (fun i hi => by have := H.out i hi; rw [inL, inB_lit s _ (by omega), decide_eq_true_iff] at this; exact this) (fun i hi => by have := HJ.out i hi; rw [inB_lit s _ (by omega), decide_eq_true_iff] at this; exact this)]; rfl), rfl⟩

end Go.Proofs.YtmfmagfgcdaeeaaGreat.T1
