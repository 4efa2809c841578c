/- Texts of the proof, put together: Iw. No conditions. -/
import Derived.Test.YtohaddhjnghcpaaHam
import Derived.Test.YtohaddhjnghcpaaHat
import Derived.Test.YtohaddhjnghcpaaHba

/- Is a name free, by a set of letters; a text that is one name, or none: both sides. -/
namespace Go.Proofs.Ytohaddhjnghcpaa.T1
open Go.RowKit
set_option maxRecDepth 100000
set_option linter.unusedVariables false
set_option linter.unusedSimpArgs false

theorem nm_lo {c : UInt8} (h : nmL c = false) : ((c.toNat : Nat) : Int) < 97 ∨ 122 < ((c.toNat : Nat) : Int) := by
  rcases Nat.lt_or_ge c.toNat 97 with h1 | h1
  · exact .inl (by omega)
  · rcases Nat.lt_or_ge 122 c.toNat with h2 | h2
    · exact .inr (by omega)
    · have := (nmL_iff c).2 ⟨h1, h2⟩; rw [h] at this; cases this
set_option maxHeartbeats 1000000 in
theorem one_len (X : ByteArray) (hq : ((X.size : Int) == 1) = false) (hq2 : ((X.size : Int) != 1) = true) (w : World) : Calls Try.prog 30 #[.string X] w fun e w' => e = .returned (.bool false) ∧ Below w.heap.size w w' := by
  go_enter Try.func30, Try.ntmps30
  go_wp2_with fail
  go_ret
  exact ⟨rfl, Below.refl _ _⟩
set_option maxHeartbeats 1000000 in
theorem one_lo (X : ByteArray) (h0 : 0 < X.size) (hq : ((X.size : Int) == 1) = true) (h1 : ((X[0]'h0).toNat : Int) < 97) (w : World) : Calls Try.prog 30 #[.string X] w fun e w' => e = .returned (.bool false) ∧ Below w.heap.size w w' := by
  skip
  go_enter Try.func30, Try.ntmps30
  go_wp2_with fail
  all_goals go_ret
  all_goals exact ⟨rfl, Below.refl _ _⟩
set_option maxHeartbeats 1000000 in
theorem one_hi (X : ByteArray) (h0 : 0 < X.size) (hq : ((X.size : Int) == 1) = true) (h1 : 122 < ((X[0]'h0).toNat : Int)) (w : World) : Calls Try.prog 30 #[.string X] w fun e w' => e = .returned (.bool false) ∧ Below w.heap.size w w' := by
  have hd : decide (((X[0]'h0).toNat : Int) ≤ 122) = false := decide_eq_false (by omega)
  go_enter Try.func30, Try.ntmps30
  go_wp2_with fail
  all_goals go_ret
  all_goals exact ⟨rfl, Below.refl _ _⟩
set_option maxHeartbeats 1000000 in
theorem one_yes (X : ByteArray) (h0 : 0 < X.size) (hq : ((X.size : Int) == 1) = true) (h1 : 97 ≤ ((X[0]'h0).toNat : Int)) (h2 : ((X[0]'h0).toNat : Int) ≤ 122) (w : World) : Calls Try.prog 30 #[.string X] w fun e w' => e = .returned (.bool true) ∧ Below w.heap.size w w' := by
  skip
  go_enter Try.func30, Try.ntmps30
  go_wp2_with fail
  all_goals go_ret
  all_goals exact ⟨rfl, Below.refl _ _⟩
set_option maxHeartbeats 1000000 in
theorem rn_len (X : ByteArray) (hq : ((X.size : Int) == 1) = false) (hq2 : ((X.size : Int) != 1) = true) (w : World) : Calls Try.prog 67 #[.string X] w fun e w' => e = .returned (.tuple #[.int .u8 0, .bool false]) ∧ Below w.heap.size w w' := by
  go_enter Try.func67, Try.ntmps67
  go_wp2_with fail
  go_ret2
  exact ⟨rfl, Below.refl _ _⟩
set_option maxHeartbeats 1000000 in
theorem rn_no (X : ByteArray) (h0 : 0 < X.size) (hq : ((X.size : Int) != 1) = false) (HL : ∀ w, Calls Try.prog 92 #[.int .i32 ((X[0]'h0).toNat : Int)] w fun e w' => e = .returned (.bool false) ∧ w = w') (w : World) : Calls Try.prog 67 #[.string X] w fun e w' => e = .returned (.tuple #[.int .u8 0, .bool false]) ∧ Below w.heap.size w w' := by
  have H := Lib.hid HL
  have hby : (X[0]'h0).toNat < 256 := (X[0]'h0).toNat_lt
  clear HL
  go_enter Try.func67, Try.ntmps67
  go_wp2_with fail
  refine (H.out _).mono ?_
  rintro e w1 ⟨rfl, rfl⟩
  go_wp2_with fail
  go_ret2
  exact ⟨rfl, Below.refl _ _⟩
set_option maxHeartbeats 1000000 in
theorem rn_yes (X : ByteArray) (h0 : 0 < X.size) (hq : ((X.size : Int) != 1) = false) (HL : ∀ w, Calls Try.prog 92 #[.int .i32 ((X[0]'h0).toNat : Int)] w fun e w' => e = .returned (.bool true) ∧ w = w') (w : World) : Calls Try.prog 67 #[.string X] w fun e w' => e = .returned (.tuple #[.int .u8 ((X[0]'h0).toNat : Int), .bool true]) ∧ Below w.heap.size w w' := by
  have H := Lib.hid HL
  have hby : (X[0]'h0).toNat < 256 := (X[0]'h0).toNat_lt
  clear HL
  go_enter Try.func67, Try.ntmps67
  go_wp2_with fail
  refine (H.out _).mono ?_
  rintro e w1 ⟨rfl, rfl⟩
  go_wp2_with fail
  go_ret2
  exact ⟨rfl, Below.refl _ _⟩

/-- A text that is one name, or none. -/
theorem one_or (k : ByteArray) : (∃ c, nmL c = true ∧ k = B [c] ∧ (∀ w, Calls Try.prog 30 #[.string k] w fun e w' => e = .returned (.bool true) ∧ Below w.heap.size w w') ∧ (∀ w, Calls Try.prog 67 #[.string k] w fun e w' => e = .returned (.tuple #[.int .u8 (c.toNat : Int), .bool true]) ∧ Below w.heap.size w w')) ∨ ((∀ w, Calls Try.prog 30 #[.string k] w fun e w' => e = .returned (.bool false) ∧ Below w.heap.size w w') ∧ (∀ w, Calls Try.prog 67 #[.string k] w fun e w' => e = .returned (.tuple #[.int .u8 0, .bool false]) ∧ Below w.heap.size w w')) := by
  by_cases h1 : k.size = 1
  · have h0 : 0 < k.size := by omega
    have hq : ((k.size : Int) == 1) = true := by rw [h1]; rfl
    have hq2 : ((k.size : Int) != 1) = false := by rw [h1]; rfl
    have hL := isLetter_any (k[0]'h0)
    cases hc : nmL (k[0]'h0) with
    | true =>
      rw [hc] at hL
      have h2 := (nmL_iff _).1 hc
      refine .inl ⟨k[0]'h0, hc, ?_, one_yes k h0 hq (by omega) (by omega), rn_yes k h0 hq2 hL⟩
      apply B_eq
      have hl : k.data.toList.length = 1 := by simp; exact h1
      have hg := get_list k 0 h0
      match hk : k.data.toList, hl with
      | [x], _ => simp [hk] at hg; rw [hg]
    | false =>
      rw [hc] at hL
      refine .inr ⟨?_, rn_no k h0 hq2 hL⟩
      rcases nm_lo hc with h | h
      · exact one_lo k h0 hq h
      · exact one_hi k h0 hq h
  · have hq : ((k.size : Int) == 1) = false := by rw [beq_eq_false_iff_ne]; omega
    exact .inr ⟨one_len k hq (by rw [bne, hq]; rfl), rn_len k hq (by rw [bne, hq]; rfl)⟩
end Go.Proofs.Ytohaddhjnghcpaa.T1
