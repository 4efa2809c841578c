/- Sets of letters, a bit for each. -/
import Derived.Test.YtdfelpahacmdpabWr
import Derived.Laws.Bits64
import Derived.Laws.BitsAllLaws
import Derived.Laws.BitsLemmas
namespace Go.Proofs.Ytdfelpahacmdpab.T1
open Go.RowKit
set_option maxRecDepth 100000

theorem u32_keep : ∀ n : Int, 0 ≤ n → n < 2 ^ 32 → IntKind.u32.wrap n = n := by
  intro n h0 h1
  rw [IntKind.wrap_u32]; omega
theorem or32 (a b : Nat) (ha : a < 2 ^ 32) (hb : b < 2 ^ 32) : bits .or .u32 (a : Int) (b : Int) = ((a ||| b : Nat) : Int) := (bits_nat .u32 32 (by decide) u32_keep a b ha hb).2
theorem and32 (a b : Nat) (ha : a < 2 ^ 32) (hb : b < 2 ^ 32) : bits .and .u32 (a : Int) (b : Int) = ((a &&& b : Nat) : Int) := (bits_nat .u32 32 (by decide) u32_keep a b ha hb).1
theorem pow32 (c : Nat) (h2 : c ≤ 122) : ((2 : Int) ^ (c - 97) % 4294967296) = ((2 ^ (c - 97) : Nat) : Int) := by
  have h : 2 ^ (c - 97) < 4294967296 := by
    have : 2 ^ (c - 97) ≤ 2 ^ 25 := Nat.pow_le_pow_right (by decide) (by omega)
    omega
  have e : (2 : Int) ^ (c - 97) = ((2 ^ (c - 97) : Nat) : Int) := by rw [Int.natCast_pow]; rfl
  rw [e]
  generalize 2 ^ (c - 97) = m at h ⊢
  omega
theorem pow_lt32 (c : Nat) (h2 : c ≤ 122) : 2 ^ (c - 97) < 2 ^ 32 := Nat.pow_lt_pow_right (by decide) (by omega)

set_option maxHeartbeats 400000 in
theorem with_any (n c : Nat) (hn : n < 2 ^ 32) (h1 : 97 ≤ c) (h2 : c ≤ 122) (w : World) :
    Calls Try.prog 49 #[.int .u32 (n : Int), .int .u8 (c : Int)] w fun e w' => e = .returned (.int .u32 ((n ||| 2 ^ (c - 97) : Nat) : Int)) ∧ w = w' := by
  have HB : Hid (bits .or .u32 (n : Int) ((2 : Int) ^ (c - 97) % 4294967296) = ((n ||| 2 ^ (c - 97) : Nat) : Int)) := by
    show _ = _
    rw [pow32 c h2, or32 n _ hn (pow_lt32 c h2)]
  have b1 : (97 : Int) ≤ (c : Int) := by omega
  have b2 : (c : Int) ≤ 122 := by omega
  clear hn
  go_enter Try.func49, Try.ntmps49
  go_wp2_with fail
  go_ret
  exact ⟨ret_int HB.out, rfl⟩

theorem has_bit (n k : Nat) : (((n &&& 2 ^ k : Nat) : Int) != 0) = n.testBit k := by
  cases h : n.testBit k with
  | false =>
    have : n &&& 2 ^ k = 0 := by
      apply Nat.eq_of_testBit_eq
      intro i
      rw [Nat.testBit_and, Nat.testBit_two_pow, Nat.zero_testBit]
      by_cases hi : k = i
      · subst hi; rw [h]; rfl
      · simp [hi]
    rw [this]; rfl
  | true =>
    have : n &&& 2 ^ k ≠ 0 := by
      intro h0
      have h1 := congrArg (fun x => Nat.testBit x k) h0
      simp [Nat.testBit_and, h] at h1
    simp; omega
set_option maxHeartbeats 400000 in
theorem has_any (n c : Nat) (hn : n < 2 ^ 32) (h1 : 97 ≤ c) (h2 : c ≤ 122) (w : World) :
    Calls Try.prog 30 #[.int .u32 (n : Int), .int .u8 (c : Int)] w fun e w' => e = .returned (.bool (n.testBit (c - 97))) ∧ w = w' := by
  have HW := with_any 0 c (by decide) h1 h2
  rw [Nat.zero_or] at HW
  have HW2 : Hid (∀ w, Calls Try.prog 49 #[.int .u32 0, .int .u8 (c : Int)] w fun e w' => e = .returned (.int .u32 ((2 ^ (c - 97) : Nat) : Int)) ∧ w = w') := HW
  have HB : Hid ((bits .and .u32 (n : Int) ((2 ^ (c - 97) : Nat) : Int) != 0) = n.testBit (c - 97)) := by
    show _ = _
    rw [and32 n _ hn (pow_lt32 c h2), has_bit]
  obtain ⟨m, hm⟩ : ∃ m, m = 2 ^ (c - 97) := ⟨_, rfl⟩
  rw [← hm] at HW2 HB
  clear hn HW hm
  go_enter Try.func30, Try.ntmps30
  go_wp2_with fail
  refine (HW2.out _).mono ?_
  rintro e w' ⟨rfl, rfl⟩
  go_wp2_with fail
  go_ret
  exact ⟨by rw [← HB.out]; rfl, rfl⟩

/-- The letters among the first k whose bits are set. -/
def lets (n k : Nat) : List UInt8 := ((List.range k).filter fun i => n.testBit i).map fun i => UInt8.ofNat (97 + i)
theorem lets_succ (n k : Nat) : lets n (k + 1) = lets n k ++ (if n.testBit k then [UInt8.ofNat (97 + k)] else []) := by
  unfold lets
  rw [List.range_succ, List.filter_append, List.map_append]
  cases h : n.testBit k <;> simp [h]
theorem lets_len (n k : Nat) : (lets n k).length ≤ k := by
  unfold lets
  rw [List.length_map]
  have := List.length_filter_le (fun i => n.testBit i) (List.range k)
  simpa using this

theorem xor32 (a b : Nat) (ha : a < 2 ^ 32) (hb : b < 2 ^ 32) : bits .xor .u32 (a : Int) (b : Int) = ((a ^^^ b : Nat) : Int) := by
  have hx : a ^^^ b < 2 ^ 32 := Nat.xor_lt_two_pow ha hb
  have h1 : (BitVec.ofInt 32 (a : Int)).toNat = a := by
    rw [BitVec.ofInt_natCast, BitVec.toNat_ofNat]; exact Nat.mod_eq_of_lt ha
  have h2 : (BitVec.ofInt 32 (b : Int)).toNat = b := by
    rw [BitVec.ofInt_natCast, BitVec.toNat_ofNat]; exact Nat.mod_eq_of_lt hb
  show IntKind.u32.wrap ((BitVec.ofInt 32 (a : Int) ^^^ BitVec.ofInt 32 (b : Int)).toNat : Int) = _
  rw [BitVec.toNat_xor, h1, h2, IntKind.wrap_u32]
  omega
/-- All bits turned. -/
def flip32 (n : Nat) : Nat := (2 ^ 32 - 1) ^^^ n
theorem flip_lt (n : Nat) (hn : n < 2 ^ 32) : flip32 n < 2 ^ 32 := Nat.xor_lt_two_pow (by decide) hn
theorem flip_bit (n k : Nat) (hk : k < 32) : (flip32 n).testBit k = !n.testBit k := by
  unfold flip32
  rw [Nat.testBit_xor, Nat.testBit_two_pow_sub_one]
  simp [hk]
end Go.Proofs.Ytdfelpahacmdpab.T1
