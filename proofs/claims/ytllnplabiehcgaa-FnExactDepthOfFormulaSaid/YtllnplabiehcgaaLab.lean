/- Labels: what a text tells, on both sides. -/
import Derived.Test.YtllnplabiehcgaaImplA
import Derived.Test.YtllnplabiehcgaaBb
import Derived.Lib.Hide
import Derived.WalkKit
import Derived.ProofKit
import Derived.ChangeOld
import Derived.Below
import Derived.Laws.Rows
namespace Go.Proofs.Ytllnplabiehcgaa.T1
open Go.RowKit
set_option maxRecDepth 100000
set_option linter.unusedVariables false
theorem nmL_iff' (c : UInt8) : nmL c = true ↔ 97 ≤ c.toNat ∧ c.toNat ≤ 122 := by simp [nmL]
theorem get_list' (s : ByteArray) (k : Nat) (h : k < s.size) : s.data.toList[k]'(by simpa using h) = s[k]'h := by simp [ByteArray.getElem_eq_getElem_data]
namespace Lab
theorem nm_lo {c : UInt8} (h : nmL c = false) : ((c.toNat : Nat) : Int) < 97 ∨ 122 < ((c.toNat : Nat) : Int) := by
  rcases Nat.lt_or_ge c.toNat 97 with h1 | h1
  · exact .inl (by omega)
  · rcases Nat.lt_or_ge 122 c.toNat with h2 | h2
    · exact .inr (by omega)
    · have := (nmL_iff' c).2 ⟨h1, h2⟩; rw [h] at this; cases this
set_option maxHeartbeats 1000000 in
theorem one_len (X : ByteArray) (hq : ((X.size : Int) == 1) = false) (hq2 : ((X.size : Int) != 1) = true) (w : World) : Calls Try.prog 20 #[.string X] w fun e w' => e = .returned (.bool false) ∧ Below w.heap.size w w' := by
  go_enter Try.func20, Try.ntmps20
  go_wp2_with fail
  go_ret
  exact ⟨rfl, Below.refl _ _⟩
set_option maxHeartbeats 1000000 in
theorem one_lo (X : ByteArray) (h0 : 0 < X.size) (hq : ((X.size : Int) == 1) = true) (h1 : ((X[0]'h0).toNat : Int) < 97) (w : World) : Calls Try.prog 20 #[.string X] w fun e w' => e = .returned (.bool false) ∧ Below w.heap.size w w' := by
  skip
  go_enter Try.func20, Try.ntmps20
  go_wp2_with fail
  all_goals go_ret
  all_goals exact ⟨rfl, Below.refl _ _⟩
set_option maxHeartbeats 1000000 in
theorem one_hi (X : ByteArray) (h0 : 0 < X.size) (hq : ((X.size : Int) == 1) = true) (h1 : 122 < ((X[0]'h0).toNat : Int)) (w : World) : Calls Try.prog 20 #[.string X] w fun e w' => e = .returned (.bool false) ∧ Below w.heap.size w w' := by
  have hd : decide (((X[0]'h0).toNat : Int) ≤ 122) = false := decide_eq_false (by omega)
  go_enter Try.func20, Try.ntmps20
  go_wp2_with fail
  all_goals go_ret
  all_goals exact ⟨rfl, Below.refl _ _⟩
set_option maxHeartbeats 1000000 in
theorem one_yes (X : ByteArray) (h0 : 0 < X.size) (hq : ((X.size : Int) == 1) = true) (h1 : 97 ≤ ((X[0]'h0).toNat : Int)) (h2 : ((X[0]'h0).toNat : Int) ≤ 122) (w : World) : Calls Try.prog 20 #[.string X] w fun e w' => e = .returned (.bool true) ∧ Below w.heap.size w w' := by
  skip
  go_enter Try.func20, Try.ntmps20
  go_wp2_with fail
  all_goals go_ret
  all_goals exact ⟨rfl, Below.refl _ _⟩
set_option maxHeartbeats 1000000 in
theorem rn_len (X : ByteArray) (hq : ((X.size : Int) == 1) = false) (hq2 : ((X.size : Int) != 1) = true) (w : World) : Calls Try.prog 22 #[.string X] w fun e w' => e = .returned (.tuple #[.int .u8 0, .bool false]) ∧ Below w.heap.size w w' := by
  go_enter Try.func22, Try.ntmps22
  go_wp2_with fail
  go_ret2
  exact ⟨rfl, Below.refl _ _⟩
set_option maxHeartbeats 1000000 in
theorem rn_no (X : ByteArray) (h0 : 0 < X.size) (hq : ((X.size : Int) != 1) = false) (HL : ∀ w, Calls Try.prog 24 #[.int .i32 ((X[0]'h0).toNat : Int)] w fun e w' => e = .returned (.bool false) ∧ w = w') (w : World) : Calls Try.prog 22 #[.string X] w fun e w' => e = .returned (.tuple #[.int .u8 0, .bool false]) ∧ Below w.heap.size w w' := by
  have H := Lib.hid HL
  have hby : (X[0]'h0).toNat < 256 := (X[0]'h0).toNat_lt
  clear HL
  go_enter Try.func22, Try.ntmps22
  go_wp2_with fail
  refine (H.out _).mono ?_
  rintro e w1 ⟨rfl, rfl⟩
  go_wp2_with fail
  go_ret2
  exact ⟨rfl, Below.refl _ _⟩
set_option maxHeartbeats 1000000 in
theorem rn_yes (X : ByteArray) (h0 : 0 < X.size) (hq : ((X.size : Int) != 1) = false) (HL : ∀ w, Calls Try.prog 24 #[.int .i32 ((X[0]'h0).toNat : Int)] w fun e w' => e = .returned (.bool true) ∧ w = w') (w : World) : Calls Try.prog 22 #[.string X] w fun e w' => e = .returned (.tuple #[.int .u8 ((X[0]'h0).toNat : Int), .bool true]) ∧ Below w.heap.size w w' := by
  have H := Lib.hid HL
  have hby : (X[0]'h0).toNat < 256 := (X[0]'h0).toNat_lt
  clear HL
  go_enter Try.func22, Try.ntmps22
  go_wp2_with fail
  refine (H.out _).mono ?_
  rintro e w1 ⟨rfl, rfl⟩
  go_wp2_with fail
  go_ret2
  exact ⟨rfl, Below.refl _ _⟩

/-- A text that is one name, or none. -/
theorem one_or (k : ByteArray) : (∃ c, nmL c = true ∧ k = B [c] ∧ (∀ w, Calls Try.prog 20 #[.string k] w fun e w' => e = .returned (.bool true) ∧ Below w.heap.size w w') ∧ (∀ w, Calls Try.prog 22 #[.string k] w fun e w' => e = .returned (.tuple #[.int .u8 (c.toNat : Int), .bool true]) ∧ Below w.heap.size w w')) ∨ ((∀ w, Calls Try.prog 20 #[.string k] w fun e w' => e = .returned (.bool false) ∧ Below w.heap.size w w') ∧ (∀ w, Calls Try.prog 22 #[.string k] w fun e w' => e = .returned (.tuple #[.int .u8 0, .bool false]) ∧ Below w.heap.size w w')) := by
  by_cases h1 : k.size = 1
  · have h0 : 0 < k.size := by omega
    have hq : ((k.size : Int) == 1) = true := by rw [h1]; rfl
    have hq2 : ((k.size : Int) != 1) = false := by rw [h1]; rfl
    have hL := isLetter_any (k[0]'h0)
    cases hc : nmL (k[0]'h0) with
    | true =>
      rw [hc] at hL
      have h2 := (nmL_iff' _).1 hc
      refine .inl ⟨k[0]'h0, hc, ?_, one_yes k h0 hq (by omega) (by omega), rn_yes k h0 hq2 hL⟩
      apply B_eq
      have hl : k.data.toList.length = 1 := by simp; exact h1
      have hg := get_list' k 0 h0
      match hk : k.data.toList, hl with
      | [x], _ => simp [hk] at hg; rw [hg]
    | false =>
      rw [hc] at hL
      refine .inr ⟨?_, rn_no k h0 hq2 hL⟩
      rcases nm_lo hc with h | h
      · exact one_lo k h0 hq h
      · exact one_hi k h0 hq h
  · have hq : ((k.size : Int) == 1) = false := by rw [beq_eq_false_iff_ne]; omega
    exact .inr ⟨one_len k hq (by rw [bne, hq]; rfl), rn_len k hq (by rw [bne, hq]; rfl)⟩
set_option maxHeartbeats 1000000 in
theorem sl_tau (s : ByteArray) (h : (s.toList == [126]) = true) (w : World) : Calls Try.prog 16 #[.string s] w fun e w' => e = .returned (.bool true) ∧ Below w.heap.size w w' := by
  go_enter Try.func16, Try.ntmps16
  go_wp2_with fail
  go_ret
  exact ⟨rfl, Below.refl _ _⟩
set_option maxHeartbeats 1000000 in
theorem sl_other (s : ByteArray) (hm : s.size ≤ 9223372036854775807) (hn : (s.toList == [126]) = false) (h4 : ((s.size : Int) == 4) = false) (h3 : ((s.size : Int) == 3) = false) (w : World) : Calls Try.prog 16 #[.string s] w fun e w' => e = .returned (.bool false) ∧ Below w.heap.size w w' := by
  go_enter Try.func16, Try.ntmps16
  go_wp2_with fail
  go_ret
  exact ⟨rfl, Below.refl _ _⟩
set_option maxHeartbeats 1000000 in
theorem sl_4n (s : ByteArray) (hs : s.size = 4) (hn : (s.toList == [126]) = false) (hM : ((s.extract 1 3).toList == [33, 35]) = false) (w : World) : Calls Try.prog 16 #[.string s] w fun e w' => e = .returned (.bool false) ∧ Below w.heap.size w w' := by
  go_enter Try.func16, Try.ntmps16
  go_wp2_with fail
  go_ret
  exact ⟨rfl, Below.refl _ _⟩
set_option maxHeartbeats 1000000 in
theorem sl_4f (s : ByteArray) (hs : s.size = 4) (hn : (s.toList == [126]) = false) (hM : ((s.extract 1 3).toList == [33, 35]) = true) (H1 : ∀ w, Calls Try.prog 20 #[.string (s.extract 0 1)] w fun e w' => e = .returned (.bool false) ∧ Below w.heap.size w w') (w : World) : Calls Try.prog 16 #[.string s] w fun e w' => e = .returned (.bool false) ∧ Below w.heap.size w w' := by
  have G1 := Lib.hid H1
  clear H1
  go_enter Try.func16, Try.ntmps16
  go_wp2_with fail
  refine (G1.out _).mono ?_
  rintro e w1 ⟨rfl, b1⟩
  go_wp2_with fail
  go_ret
  exact ⟨rfl, b1⟩
set_option maxHeartbeats 1000000 in
theorem sl_4t (s : ByteArray) (b : Bool) (hs : s.size = 4) (hn : (s.toList == [126]) = false) (hM : ((s.extract 1 3).toList == [33, 35]) = true) (H1 : ∀ w, Calls Try.prog 20 #[.string (s.extract 0 1)] w fun e w' => e = .returned (.bool true) ∧ Below w.heap.size w w') (H2 : ∀ w, Calls Try.prog 20 #[.string (s.extract 3 s.size)] w fun e w' => e = .returned (.bool b) ∧ Below w.heap.size w w') (w : World) : Calls Try.prog 16 #[.string s] w fun e w' => e = .returned (.bool b) ∧ Below w.heap.size w w' := by
  rw [hs] at H2
  have G1 := Lib.hid H1
  have G2 := Lib.hid H2
  clear H1 H2
  go_enter Try.func16, Try.ntmps16
  go_wp2_with fail
  refine (G1.out _).mono ?_
  rintro e w1 ⟨rfl, b1⟩
  go_wp2_with fail
  refine (G2.out _).mono ?_
  rintro e w2 ⟨rfl, b2⟩
  go_wp2_with fail
  go_ret
  exact ⟨rfl, below_trans b1 b2 b1.size⟩
set_option maxHeartbeats 1000000 in
theorem sl_3n (s : ByteArray) (h1 : 1 < s.size) (hs : s.size = 3) (hn : (s.toList == [126]) = false) (hM : (((s[1]'h1).toNat : Int) == 33) = false) (hM2 : (((s[1]'h1).toNat : Int) == 63) = false) (w : World) : Calls Try.prog 16 #[.string s] w fun e w' => e = .returned (.bool false) ∧ Below w.heap.size w w' := by
  go_enter Try.func16, Try.ntmps16
  go_wp2_with fail
  go_ret
  exact ⟨rfl, Below.refl _ _⟩
set_option maxHeartbeats 1000000 in
theorem sl_3of (s : ByteArray) (h1 : 1 < s.size) (hs : s.size = 3) (hn : (s.toList == [126]) = false) (hM : (((s[1]'h1).toNat : Int) == 33) = true) (H1 : ∀ w, Calls Try.prog 20 #[.string (s.extract 0 1)] w fun e w' => e = .returned (.bool false) ∧ Below w.heap.size w w') (w : World) : Calls Try.prog 16 #[.string s] w fun e w' => e = .returned (.bool false) ∧ Below w.heap.size w w' := by
  have G1 := Lib.hid H1
  clear H1
  go_enter Try.func16, Try.ntmps16
  go_wp2_with fail
  refine (G1.out _).mono ?_
  rintro e w1 ⟨rfl, b1⟩
  go_wp2_with fail
  go_ret
  exact ⟨rfl, b1⟩
set_option maxHeartbeats 1000000 in
theorem sl_3ot (s : ByteArray) (b : Bool) (h1 : 1 < s.size) (hs : s.size = 3) (hn : (s.toList == [126]) = false) (hM : (((s[1]'h1).toNat : Int) == 33) = true) (H1 : ∀ w, Calls Try.prog 20 #[.string (s.extract 0 1)] w fun e w' => e = .returned (.bool true) ∧ Below w.heap.size w w') (H2 : ∀ w, Calls Try.prog 20 #[.string (s.extract 2 s.size)] w fun e w' => e = .returned (.bool b) ∧ Below w.heap.size w w') (w : World) : Calls Try.prog 16 #[.string s] w fun e w' => e = .returned (.bool b) ∧ Below w.heap.size w w' := by
  rw [hs] at H2
  have G1 := Lib.hid H1
  have G2 := Lib.hid H2
  clear H1 H2
  go_enter Try.func16, Try.ntmps16
  go_wp2_with fail
  refine (G1.out _).mono ?_
  rintro e w1 ⟨rfl, b1⟩
  go_wp2_with fail
  refine (G2.out _).mono ?_
  rintro e w2 ⟨rfl, b2⟩
  go_wp2_with fail
  go_ret
  exact ⟨rfl, below_trans b1 b2 b1.size⟩
set_option maxHeartbeats 1000000 in
theorem sl_3if (s : ByteArray) (h1 : 1 < s.size) (hs : s.size = 3) (hn : (s.toList == [126]) = false) (hM0 : (((s[1]'h1).toNat : Int) == 33) = false) (hM : (((s[1]'h1).toNat : Int) == 63) = true) (H1 : ∀ w, Calls Try.prog 20 #[.string (s.extract 0 1)] w fun e w' => e = .returned (.bool false) ∧ Below w.heap.size w w') (w : World) : Calls Try.prog 16 #[.string s] w fun e w' => e = .returned (.bool false) ∧ Below w.heap.size w w' := by
  have G1 := Lib.hid H1
  clear H1
  go_enter Try.func16, Try.ntmps16
  go_wp2_with fail
  refine (G1.out _).mono ?_
  rintro e w1 ⟨rfl, b1⟩
  go_wp2_with fail
  go_ret
  exact ⟨rfl, b1⟩
set_option maxHeartbeats 1000000 in
theorem sl_3it (s : ByteArray) (b : Bool) (h1 : 1 < s.size) (hs : s.size = 3) (hn : (s.toList == [126]) = false) (hM0 : (((s[1]'h1).toNat : Int) == 33) = false) (hM : (((s[1]'h1).toNat : Int) == 63) = true) (H1 : ∀ w, Calls Try.prog 20 #[.string (s.extract 0 1)] w fun e w' => e = .returned (.bool true) ∧ Below w.heap.size w w') (H2 : ∀ w, Calls Try.prog 20 #[.string (s.extract 2 s.size)] w fun e w' => e = .returned (.bool b) ∧ Below w.heap.size w w') (w : World) : Calls Try.prog 16 #[.string s] w fun e w' => e = .returned (.bool b) ∧ Below w.heap.size w w' := by
  rw [hs] at H2
  have G1 := Lib.hid H1
  have G2 := Lib.hid H2
  clear H1 H2
  go_enter Try.func16, Try.ntmps16
  go_wp2_with fail
  refine (G1.out _).mono ?_
  rintro e w1 ⟨rfl, b1⟩
  go_wp2_with fail
  refine (G2.out _).mono ?_
  rintro e w2 ⟨rfl, b2⟩
  go_wp2_with fail
  go_ret
  exact ⟨rfl, below_trans b1 b2 b1.size⟩
set_option maxHeartbeats 1000000 in
theorem ra_tau (s : ByteArray) (h : (s.toList == [126]) = true) (w : World) : Calls Try.prog 19 #[.string s] w fun e w' => e = .returned (.tuple #[.iface 55 (.agg #[]), .bool true]) ∧ Below w.heap.size w w' := by
  go_enter Try.func19, Try.ntmps19
  go_wp2_with fail
  go_ret2
  exact ⟨rfl, Below.refl _ _⟩
set_option maxHeartbeats 1000000 in
theorem ra_short (s : ByteArray) (hn : (s.toList == [126]) = false) (h3 : s.size < 3) (w : World) : Calls Try.prog 19 #[.string s] w fun e w' => e = .returned (.tuple #[.nilIface, .bool false]) ∧ Below w.heap.size w w' := by
  go_enter Try.func19, Try.ntmps19
  go_wp2_with fail
  go_ret2
  exact ⟨rfl, Below.refl _ _⟩
set_option maxHeartbeats 1000000 in
theorem ra_n1 (s : ByteArray) (a1 a2 : Int) (y : Bool) (hm : s.size ≤ 9223372036854775807) (hn : (s.toList == [126]) = false) (h3 : 3 ≤ s.size)  (H1 : ∀ w, Calls Try.prog 22 #[.string (s.extract 0 1)] w fun e w' => e = .returned (.tuple #[.int .u8 a1, .bool false]) ∧ Below w.heap.size w w') (H2 : ∀ w, Calls Try.prog 22 #[.string (s.extract (s.size - 1) s.size)] w fun e w' => e = .returned (.tuple #[.int .u8 a2, .bool y]) ∧ Below w.heap.size w w') (w : World) : Calls Try.prog 19 #[.string s] w fun e w' => e = .returned (.tuple #[.nilIface, .bool false]) ∧ Below w.heap.size w w' := by
  have G1 := Lib.hid H1
  have G2 := Lib.hid H2
  clear H1 H2
  go_enter Try.func19, Try.ntmps19
  go_wp2_with fail
  refine (G1.out _).mono ?_
  rintro e w1 ⟨rfl, b1⟩
  go_wp2_with fail
  refine (G2.out _).mono ?_
  rintro e w2 ⟨rfl, b2⟩
  go_wp2_with fail
  go_ret2
  exact ⟨rfl, below_trans b1 b2 b1.size⟩
set_option maxHeartbeats 1000000 in
theorem ra_n2 (s : ByteArray) (a1 a2 : Int) (hm : s.size ≤ 9223372036854775807) (hn : (s.toList == [126]) = false) (h3 : 3 ≤ s.size)  (H1 : ∀ w, Calls Try.prog 22 #[.string (s.extract 0 1)] w fun e w' => e = .returned (.tuple #[.int .u8 a1, .bool true]) ∧ Below w.heap.size w w') (H2 : ∀ w, Calls Try.prog 22 #[.string (s.extract (s.size - 1) s.size)] w fun e w' => e = .returned (.tuple #[.int .u8 a2, .bool false]) ∧ Below w.heap.size w w') (w : World) : Calls Try.prog 19 #[.string s] w fun e w' => e = .returned (.tuple #[.nilIface, .bool false]) ∧ Below w.heap.size w w' := by
  have G1 := Lib.hid H1
  have G2 := Lib.hid H2
  clear H1 H2
  go_enter Try.func19, Try.ntmps19
  go_wp2_with fail
  refine (G1.out _).mono ?_
  rintro e w1 ⟨rfl, b1⟩
  go_wp2_with fail
  refine (G2.out _).mono ?_
  rintro e w2 ⟨rfl, b2⟩
  go_wp2_with fail
  go_ret2
  exact ⟨rfl, below_trans b1 b2 b1.size⟩
set_option maxHeartbeats 1000000 in
theorem ra_out (s : ByteArray) (a1 a2 : Int) (hm : s.size ≤ 9223372036854775807) (hn : (s.toList == [126]) = false) (h3 : 3 ≤ s.size) (hM : ((s.extract 1 (s.size - 1)).toList == [33]) = true) (H1 : ∀ w, Calls Try.prog 22 #[.string (s.extract 0 1)] w fun e w' => e = .returned (.tuple #[.int .u8 a1, .bool true]) ∧ Below w.heap.size w w') (H2 : ∀ w, Calls Try.prog 22 #[.string (s.extract (s.size - 1) s.size)] w fun e w' => e = .returned (.tuple #[.int .u8 a2, .bool true]) ∧ Below w.heap.size w w') (w : World) : Calls Try.prog 19 #[.string s] w fun e w' => e = .returned (.tuple #[.iface 61 (.agg #[.int .u8 a1, .int .u8 a2]), .bool true]) ∧ Below w.heap.size w w' := by
  have G1 := Lib.hid H1
  have G2 := Lib.hid H2
  clear H1 H2
  go_enter Try.func19, Try.ntmps19
  go_wp2_with fail
  refine (G1.out _).mono ?_
  rintro e w1 ⟨rfl, b1⟩
  go_wp2_with fail
  refine (G2.out _).mono ?_
  rintro e w2 ⟨rfl, b2⟩
  go_wp2_with fail
  go_ret2
  exact ⟨rfl, below_trans b1 b2 b1.size⟩
set_option maxHeartbeats 1000000 in
theorem ra_own (s : ByteArray) (a1 a2 : Int) (hm : s.size ≤ 9223372036854775807) (hn : (s.toList == [126]) = false) (h3 : 3 ≤ s.size) (hM0 : ((s.extract 1 (s.size - 1)).toList == [33]) = false) (hM : ((s.extract 1 (s.size - 1)).toList == [33, 35]) = true) (H1 : ∀ w, Calls Try.prog 22 #[.string (s.extract 0 1)] w fun e w' => e = .returned (.tuple #[.int .u8 a1, .bool true]) ∧ Below w.heap.size w w') (H2 : ∀ w, Calls Try.prog 22 #[.string (s.extract (s.size - 1) s.size)] w fun e w' => e = .returned (.tuple #[.int .u8 a2, .bool true]) ∧ Below w.heap.size w w') (w : World) : Calls Try.prog 19 #[.string s] w fun e w' => e = .returned (.tuple #[.iface 62 (.agg #[.int .u8 a1, .int .u8 a2]), .bool true]) ∧ Below w.heap.size w w' := by
  have G1 := Lib.hid H1
  have G2 := Lib.hid H2
  clear H1 H2
  go_enter Try.func19, Try.ntmps19
  go_wp2_with fail
  refine (G1.out _).mono ?_
  rintro e w1 ⟨rfl, b1⟩
  go_wp2_with fail
  refine (G2.out _).mono ?_
  rintro e w2 ⟨rfl, b2⟩
  go_wp2_with fail
  go_ret2
  exact ⟨rfl, below_trans b1 b2 b1.size⟩
set_option maxHeartbeats 1000000 in
theorem ra_inp (s : ByteArray) (a1 a2 : Int) (hm : s.size ≤ 9223372036854775807) (hn : (s.toList == [126]) = false) (h3 : 3 ≤ s.size) (hM0 : ((s.extract 1 (s.size - 1)).toList == [33]) = false) (hM1 : ((s.extract 1 (s.size - 1)).toList == [33, 35]) = false) (hM : ((s.extract 1 (s.size - 1)).toList == [63]) = true) (H1 : ∀ w, Calls Try.prog 22 #[.string (s.extract 0 1)] w fun e w' => e = .returned (.tuple #[.int .u8 a1, .bool true]) ∧ Below w.heap.size w w') (H2 : ∀ w, Calls Try.prog 22 #[.string (s.extract (s.size - 1) s.size)] w fun e w' => e = .returned (.tuple #[.int .u8 a2, .bool true]) ∧ Below w.heap.size w w') (w : World) : Calls Try.prog 19 #[.string s] w fun e w' => e = .returned (.tuple #[.iface 63 (.agg #[.int .u8 a1, .int .u8 a2]), .bool true]) ∧ Below w.heap.size w w' := by
  have G1 := Lib.hid H1
  have G2 := Lib.hid H2
  clear H1 H2
  go_enter Try.func19, Try.ntmps19
  go_wp2_with fail
  refine (G1.out _).mono ?_
  rintro e w1 ⟨rfl, b1⟩
  go_wp2_with fail
  refine (G2.out _).mono ?_
  rintro e w2 ⟨rfl, b2⟩
  go_wp2_with fail
  go_ret2
  exact ⟨rfl, below_trans b1 b2 b1.size⟩
set_option maxHeartbeats 1000000 in
theorem ra_non (s : ByteArray) (a1 a2 : Int) (hm : s.size ≤ 9223372036854775807) (hn : (s.toList == [126]) = false) (h3 : 3 ≤ s.size) (hM0 : ((s.extract 1 (s.size - 1)).toList == [33]) = false) (hM1 : ((s.extract 1 (s.size - 1)).toList == [33, 35]) = false) (hM : ((s.extract 1 (s.size - 1)).toList == [63]) = false) (H1 : ∀ w, Calls Try.prog 22 #[.string (s.extract 0 1)] w fun e w' => e = .returned (.tuple #[.int .u8 a1, .bool true]) ∧ Below w.heap.size w w') (H2 : ∀ w, Calls Try.prog 22 #[.string (s.extract (s.size - 1) s.size)] w fun e w' => e = .returned (.tuple #[.int .u8 a2, .bool true]) ∧ Below w.heap.size w w') (w : World) : Calls Try.prog 19 #[.string s] w fun e w' => e = .returned (.tuple #[.nilIface, .bool false]) ∧ Below w.heap.size w w' := by
  have G1 := Lib.hid H1
  have G2 := Lib.hid H2
  clear H1 H2
  go_enter Try.func19, Try.ntmps19
  go_wp2_with fail
  refine (G1.out _).mono ?_
  rintro e w1 ⟨rfl, b1⟩
  go_wp2_with fail
  refine (G2.out _).mono ?_
  rintro e w2 ⟨rfl, b2⟩
  go_wp2_with fail
  go_ret2
  exact ⟨rfl, below_trans b1 b2 b1.size⟩
@[go_sem] theorem tac_inner_output (v : Value) (w : World) : (Instr.typeAssert (.iface 55 v) 50 61 true).run Try.prog w = .ok (.tuple #[.agg #[.int .u8 0, .int .u8 0], .bool false]) w := by kernel_rfl
@[go_sem] theorem tac_inner_ownOutput (v : Value) (w : World) : (Instr.typeAssert (.iface 55 v) 50 62 true).run Try.prog w = .ok (.tuple #[.agg #[.int .u8 0, .int .u8 0], .bool false]) w := by kernel_rfl
@[go_sem] theorem tac_inner_input (v : Value) (w : World) : (Instr.typeAssert (.iface 55 v) 50 63 true).run Try.prog w = .ok (.tuple #[.agg #[.int .u8 0, .int .u8 0], .bool false]) w := by kernel_rfl
@[go_sem] theorem tac_output_output (v : Value) (w : World) : (Instr.typeAssert (.iface 61 v) 50 61 true).run Try.prog w = .ok (.tuple #[v, .bool true]) w := by kernel_rfl
@[go_sem] theorem tac_output_ownOutput (v : Value) (w : World) : (Instr.typeAssert (.iface 61 v) 50 62 true).run Try.prog w = .ok (.tuple #[.agg #[.int .u8 0, .int .u8 0], .bool false]) w := by kernel_rfl
@[go_sem] theorem tac_output_input (v : Value) (w : World) : (Instr.typeAssert (.iface 61 v) 50 63 true).run Try.prog w = .ok (.tuple #[.agg #[.int .u8 0, .int .u8 0], .bool false]) w := by kernel_rfl
@[go_sem] theorem tac_ownOutput_output (v : Value) (w : World) : (Instr.typeAssert (.iface 62 v) 50 61 true).run Try.prog w = .ok (.tuple #[.agg #[.int .u8 0, .int .u8 0], .bool false]) w := by kernel_rfl
@[go_sem] theorem tac_ownOutput_ownOutput (v : Value) (w : World) : (Instr.typeAssert (.iface 62 v) 50 62 true).run Try.prog w = .ok (.tuple #[v, .bool true]) w := by kernel_rfl
@[go_sem] theorem tac_ownOutput_input (v : Value) (w : World) : (Instr.typeAssert (.iface 62 v) 50 63 true).run Try.prog w = .ok (.tuple #[.agg #[.int .u8 0, .int .u8 0], .bool false]) w := by kernel_rfl
@[go_sem] theorem tac_input_output (v : Value) (w : World) : (Instr.typeAssert (.iface 63 v) 50 61 true).run Try.prog w = .ok (.tuple #[.agg #[.int .u8 0, .int .u8 0], .bool false]) w := by kernel_rfl
@[go_sem] theorem tac_input_ownOutput (v : Value) (w : World) : (Instr.typeAssert (.iface 63 v) 50 62 true).run Try.prog w = .ok (.tuple #[.agg #[.int .u8 0, .int .u8 0], .bool false]) w := by kernel_rfl
@[go_sem] theorem tac_input_input (v : Value) (w : World) : (Instr.typeAssert (.iface 63 v) 50 63 true).run Try.prog w = .ok (.tuple #[v, .bool true]) w := by kernel_rfl
theorem results_cell_tmp {fn : Func} {p u : Tmp} {ty : TypeId} (P : Program) (h : fn.results = #[.cell p ty, .tmp u]) (tmps : Array Value) (w : World) (g : Nat) (t : TypeId) (cs : Array Value) (fr : Nat × Nat) (d : TypeDesc)
    (hp : tmps.getD p undef = .pointer (some ⟨g, 0, none⟩)) (hg : w.heap[g]? = some (.cells cs t fr))
    (hu : P.underlying ty = some d) (hd : (match (generalizing := false) d with | .struct _ | .array _ _ => true | _ => false) = true) (hi : (P.info? ty).map (·.size) = some cs.size) :
    (results fn tmps).run P w = .ok (.tuple #[.agg cs, tmps.getD u undef]) w := by
  have hp' : tmps[p]?.getD undef = .pointer (some ⟨g, 0, none⟩) := by simpa using hp
  have hl := run_loadVar_row w g t ty cs fr d hg hu (by cases d <;> first | exact hd | rfl) hi
  simp [results, h, hp', asAddr, hl]
theorem below_setRow {B g : Nat} {u v : World} {cs : Array Value} (h : Below B u v) (hg : B ≤ g) (hB : B ≤ v.heap.size) : Below B u (v.setRow g cs) :=
  h.trans ⟨rfl, rfl, rfl, by simp, fun i hi => setRow_other v g i cs (by omega)⟩
theorem two_at (w : World) (o o' : Obj) : ((w.alloc o).alloc o').heap[w.heap.size]? = some o := by
  show ((w.heap.push o).push o')[w.heap.size]? = some o
  simp [Array.getElem?_push]
theorem two_be (w : World) (o o' : Obj) : Below w.heap.size w ((w.alloc o).alloc o') := ((Below.refl _ _).alloc (Nat.le_refl _) o).alloc (by simp) o'
theorem enc_b (c : UInt8) (h : c.toNat < 128) : Utf8.encode (c.toNat : Int) = B [c] := by
  have hv : Utf8.valid (c.toNat : Int) = true := by unfold Utf8.valid; simp; omega
  unfold Utf8.encode
  simp only [hv, if_true, Int.toNat_natCast, h]
  simp [B]
theorem len_l (s : ByteArray) : s.data.toList.length = s.size := by simp
theorem l3 {l : List UInt8} (h : l.length = 3) : ∃ x y z, l = [x, y, z] := by
  match l, h with
  | [x, y, z], _ => exact ⟨x, y, z, rfl⟩
theorem l4 {l : List UInt8} (h : l.length = 4) : ∃ x y z u, l = [x, y, z, u] := by
  match l, h with
  | [x, y, z, u], _ => exact ⟨x, y, z, u, rfl⟩
theorem ext_l (s : ByteArray) (i j : Nat) : (s.extract i j).toList = (s.data.toList.drop i).take (j - i) := by
  rw [ByteArray.toList_eq]
  simp [ByteArray.data_extract]
theorem m3 (s : ByteArray) (h4 : s.size = 3) (h1 : 1 < s.size) (c : UInt8) (k : Nat) (hk : c.toNat = k) : ((s.extract 1 (s.size - 1)).toList == [c]) = (((s[1]'h1).toNat : Int) == (k : Int)) := by
  obtain ⟨x, y, z, hd⟩ := l3 ((len_l s).trans h4)
  have hy : s[1]'h1 = y := by have := get_list' s 1 h1; rw [← this]; simp [hd]
  rw [ext_l, hd, show s.size - 1 - 1 = 1 by omega, hy]
  show ([y] == [c]) = _
  by_cases hc : y = c
  · subst hc; rw [hk]; simp
  · have : ¬ (y.toNat : Int) = (k : Int) := fun h => hc (UInt8.toNat_inj.1 (by omega))
    have e1 : ((y.toNat : Int) == (k : Int)) = false := by rw [beq_eq_false_iff_ne]; exact this
    rw [e1]; simp [hc]
def No (s : ByteArray) : Prop := (∀ w, Calls Try.prog 16 #[.string s] w fun e w' => e = .returned (.bool false) ∧ Below w.heap.size w w') ∧ (∀ w, Calls Try.prog 19 #[.string s] w fun e w' => e = .returned (.tuple #[.nilIface, .bool false]) ∧ Below w.heap.size w w')
theorem nm128 {c : UInt8} (h : nmL c = true) : c.toNat < 128 := by have := (nmL_iff' c).1 h; omega
end Lab
end Go.Proofs.Ytllnplabiehcgaa.T1
