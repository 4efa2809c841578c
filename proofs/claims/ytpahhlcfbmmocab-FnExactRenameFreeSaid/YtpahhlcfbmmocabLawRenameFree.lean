/- For every input the law FnExactRenameFree returns true, and each text reads behind the call as it read before. No conditions. -/
import Derived.Test.YtpahhlcfbmmocabRows
import Derived.Test.YtpahhlcfbmmocabTz
import Derived.Test.YtpahhlcfbmmocabRx
import Derived.WalkKit
import Derived.ProofKit
import Derived.OpenShut
import Derived.ShutString
import Derived.ChangeOld
import Derived.Below
namespace Go.Proofs.Ytpahhlcfbmmocab
namespace LawRenameFree
open Go.ChangeShapes Go.WideShapes Go.ChangeAt Go.RowKit Go.Proofs.Ytpahhlcfbmmocab.T1
open Go.ChangeMaps (open_string shut_string)
set_option linter.unusedVariables false

theorem own : ownKnob Try.prog.godebug = none := by kernel_rfl
theorem laidOut : laidOutB Try.prog = true := by kernel_rfl


theorem blw {u v w : World} (h : Below u.heap.size u v) (k : Below v.heap.size v w) : Below u.heap.size u w := below_trans h k h.size
theorem nm_lo {c : UInt8} (h : nmL c = false) : ((c.toNat : Nat) : Int) < 97 ∨ 122 < ((c.toNat : Nat) : Int) := by
  rcases Nat.lt_or_ge c.toNat 97 with h1 | h1
  · exact .inl (by omega)
  · rcases Nat.lt_or_ge 122 c.toNat with h2 | h2
    · exact .inr (by omega)
    · have := (nmL_iff c).2 ⟨h1, h2⟩; rw [h] at this; cases this
set_option maxHeartbeats 1000000 in
theorem one_len (X : ByteArray) (hq : ((X.size : Int) == 1) = false) (hq2 : ((X.size : Int) != 1) = true) (w : World) : Calls Try.prog 40 #[.string X] w fun e w' => e = .returned (.bool false) ∧ Below w.heap.size w w' := by
  go_enter Try.func40, Try.ntmps40
  go_wp2_with fail
  go_ret
  exact ⟨rfl, Below.refl _ _⟩
set_option maxHeartbeats 1000000 in
theorem one_lo (X : ByteArray) (h0 : 0 < X.size) (hq : ((X.size : Int) == 1) = true) (h1 : ((X[0]'h0).toNat : Int) < 97) (w : World) : Calls Try.prog 40 #[.string X] w fun e w' => e = .returned (.bool false) ∧ Below w.heap.size w w' := by
  skip
  go_enter Try.func40, Try.ntmps40
  go_wp2_with fail
  all_goals go_ret
  all_goals exact ⟨rfl, Below.refl _ _⟩
set_option maxHeartbeats 1000000 in
theorem one_hi (X : ByteArray) (h0 : 0 < X.size) (hq : ((X.size : Int) == 1) = true) (h1 : 122 < ((X[0]'h0).toNat : Int)) (w : World) : Calls Try.prog 40 #[.string X] w fun e w' => e = .returned (.bool false) ∧ Below w.heap.size w w' := by
  have hd : decide (((X[0]'h0).toNat : Int) ≤ 122) = false := decide_eq_false (by omega)
  go_enter Try.func40, Try.ntmps40
  go_wp2_with fail
  all_goals go_ret
  all_goals exact ⟨rfl, Below.refl _ _⟩
set_option maxHeartbeats 1000000 in
theorem one_yes (X : ByteArray) (h0 : 0 < X.size) (hq : ((X.size : Int) == 1) = true) (h1 : 97 ≤ ((X[0]'h0).toNat : Int)) (h2 : ((X[0]'h0).toNat : Int) ≤ 122) (w : World) : Calls Try.prog 40 #[.string X] w fun e w' => e = .returned (.bool true) ∧ Below w.heap.size w w' := by
  skip
  go_enter Try.func40, Try.ntmps40
  go_wp2_with fail
  all_goals go_ret
  all_goals exact ⟨rfl, Below.refl _ _⟩
set_option maxHeartbeats 1000000 in
theorem rn_len (X : ByteArray) (hq : ((X.size : Int) == 1) = false) (hq2 : ((X.size : Int) != 1) = true) (w : World) : Calls Try.prog 43 #[.string X] w fun e w' => e = .returned (.tuple #[.int .u8 0, .bool false]) ∧ Below w.heap.size w w' := by
  go_enter Try.func43, Try.ntmps43
  go_wp2_with fail
  go_ret2
  exact ⟨rfl, Below.refl _ _⟩
set_option maxHeartbeats 1000000 in
theorem rn_no (X : ByteArray) (h0 : 0 < X.size) (hq : ((X.size : Int) != 1) = false) (HL : ∀ w, Calls Try.prog 37 #[.int .i32 ((X[0]'h0).toNat : Int)] w fun e w' => e = .returned (.bool false) ∧ w = w') (w : World) : Calls Try.prog 43 #[.string X] w fun e w' => e = .returned (.tuple #[.int .u8 0, .bool false]) ∧ Below w.heap.size w w' := by
  have H := Lib.hid HL
  have hby : (X[0]'h0).toNat < 256 := (X[0]'h0).toNat_lt
  clear HL
  go_enter Try.func43, Try.ntmps43
  go_wp2_with fail
  refine (H.out _).mono ?_
  rintro e w1 ⟨rfl, rfl⟩
  go_wp2_with fail
  go_ret2
  exact ⟨rfl, Below.refl _ _⟩
set_option maxHeartbeats 1000000 in
theorem rn_yes (X : ByteArray) (h0 : 0 < X.size) (hq : ((X.size : Int) != 1) = false) (HL : ∀ w, Calls Try.prog 37 #[.int .i32 ((X[0]'h0).toNat : Int)] w fun e w' => e = .returned (.bool true) ∧ w = w') (w : World) : Calls Try.prog 43 #[.string X] w fun e w' => e = .returned (.tuple #[.int .u8 ((X[0]'h0).toNat : Int), .bool true]) ∧ Below w.heap.size w w' := by
  have H := Lib.hid HL
  have hby : (X[0]'h0).toNat < 256 := (X[0]'h0).toNat_lt
  clear HL
  go_enter Try.func43, Try.ntmps43
  go_wp2_with fail
  refine (H.out _).mono ?_
  rintro e w1 ⟨rfl, rfl⟩
  go_wp2_with fail
  go_ret2
  exact ⟨rfl, Below.refl _ _⟩

/-- A text that is one name, or none. -/
theorem one_or (k : ByteArray) : (∃ c, nmL c = true ∧ k = B [c] ∧ (∀ w, Calls Try.prog 40 #[.string k] w fun e w' => e = .returned (.bool true) ∧ Below w.heap.size w w') ∧ (∀ w, Calls Try.prog 43 #[.string k] w fun e w' => e = .returned (.tuple #[.int .u8 (c.toNat : Int), .bool true]) ∧ Below w.heap.size w w')) ∨ ((∀ w, Calls Try.prog 40 #[.string k] w fun e w' => e = .returned (.bool false) ∧ Below w.heap.size w w') ∧ (∀ w, Calls Try.prog 43 #[.string k] w fun e w' => e = .returned (.tuple #[.int .u8 0, .bool false]) ∧ Below w.heap.size w w')) := by
  by_cases h1 : k.size = 1
  · have h0 : 0 < k.size := by omega
    have hq : ((k.size : Int) == 1) = true := by rw [h1]; rfl
    have hq2 : ((k.size : Int) != 1) = false := by rw [h1]; rfl
    have hL := isLetter_any (k[0]'h0)
    cases hc : nmL (k[0]'h0) with
    | true =>
      rw [hc] at hL
      have h2 := (nmL_iff _).1 hc
      refine .inl ⟨k[0]'h0, hc, ?_, one_yes k h0 hq (by omega) (by omega), rn_yes k h0 hq2 hL⟩
      apply B_eq
      have hl : k.data.toList.length = 1 := by simp; exact h1
      have hg := get_list k 0 h0
      match hk : k.data.toList, hl with
      | [x], _ => simp [hk] at hg; rw [hg]
    | false =>
      rw [hc] at hL
      refine .inr ⟨?_, rn_no k h0 hq2 hL⟩
      rcases nm_lo hc with h | h
      · exact one_lo k h0 hq h
      · exact one_hi k h0 hq h
  · have hq : ((k.size : Int) == 1) = false := by rw [beq_eq_false_iff_ne]; omega
    exact .inr ⟨one_len k hq (by rw [bne, hq]; rfl), rn_len k hq (by rw [bne, hq]; rfl)⟩
set_option maxHeartbeats 1000000 in
theorem s_n1 (s k q : ByteArray)  (G1 : ∀ w, Calls Try.prog 30 #[.string s] w fun e w' => e = .returned (.bool false) ∧ Below w.heap.size w w') (w : World) : Calls Try.prog 16 #[.string s, .string k, .string q] w fun e w' => e = .returned (.tuple #[.string ⟨#[]⟩, .bool false]) ∧ Below w.heap.size w w' := by
  have G1' := Lib.hid G1
  clear G1
  go_enter Try.func16, Try.ntmps16
  go_wp2_with fail
  refine (G1'.out _).mono ?_
  rintro e w1 ⟨rfl, b1⟩
  go_wp2_with fail
  go_ret2
  exact ⟨rfl, b1⟩
set_option maxHeartbeats 1000000 in
theorem s_n2 (s k q : ByteArray)  (G1 : ∀ w, Calls Try.prog 30 #[.string s] w fun e w' => e = .returned (.bool true) ∧ Below w.heap.size w w') (O1 : ∀ w, Calls Try.prog 40 #[.string k] w fun e w' => e = .returned (.bool false) ∧ Below w.heap.size w w') (w : World) : Calls Try.prog 16 #[.string s, .string k, .string q] w fun e w' => e = .returned (.tuple #[.string ⟨#[]⟩, .bool false]) ∧ Below w.heap.size w w' := by
  have G1' := Lib.hid G1
  have O1' := Lib.hid O1
  clear G1 O1
  go_enter Try.func16, Try.ntmps16
  go_wp2_with fail
  refine (G1'.out _).mono ?_
  rintro e w1 ⟨rfl, b1⟩
  go_wp2_with fail
  refine (O1'.out _).mono ?_
  rintro e w2 ⟨rfl, b2⟩
  have bl2 := blw b1 b2
  go_wp2_with fail
  go_ret2
  exact ⟨rfl, bl2⟩
set_option maxHeartbeats 1000000 in
theorem s_n3 (s k q : ByteArray)  (G1 : ∀ w, Calls Try.prog 30 #[.string s] w fun e w' => e = .returned (.bool true) ∧ Below w.heap.size w w') (O1 : ∀ w, Calls Try.prog 40 #[.string k] w fun e w' => e = .returned (.bool true) ∧ Below w.heap.size w w') (O2 : ∀ w, Calls Try.prog 40 #[.string q] w fun e w' => e = .returned (.bool false) ∧ Below w.heap.size w w') (w : World) : Calls Try.prog 16 #[.string s, .string k, .string q] w fun e w' => e = .returned (.tuple #[.string ⟨#[]⟩, .bool false]) ∧ Below w.heap.size w w' := by
  have G1' := Lib.hid G1
  have O1' := Lib.hid O1
  have O2' := Lib.hid O2
  clear G1 O1 O2
  go_enter Try.func16, Try.ntmps16
  go_wp2_with fail
  refine (G1'.out _).mono ?_
  rintro e w1 ⟨rfl, b1⟩
  go_wp2_with fail
  refine (O1'.out _).mono ?_
  rintro e w2 ⟨rfl, b2⟩
  have bl2 := blw b1 b2
  go_wp2_with fail
  refine (O2'.out _).mono ?_
  rintro e w3 ⟨rfl, b3⟩
  have bl3 := blw bl2 b3
  go_wp2_with fail
  go_ret2
  exact ⟨rfl, bl3⟩
set_option maxHeartbeats 1000000 in
theorem s_yes (s k q : ByteArray) (hk : 0 < k.size) (hq : 0 < q.size) (R Y : ByteArray) (y : Bool) (G1 : ∀ w, Calls Try.prog 30 #[.string s] w fun e w' => e = .returned (.bool true) ∧ Below w.heap.size w w') (O1 : ∀ w, Calls Try.prog 40 #[.string k] w fun e w' => e = .returned (.bool true) ∧ Below w.heap.size w w') (O2 : ∀ w, Calls Try.prog 40 #[.string q] w fun e w' => e = .returned (.bool true) ∧ Below w.heap.size w w') (HR : ∀ w, Calls Try.prog 42 #[.string s, .int .u8 ((k[0]'hk).toNat : Int), .int .u8 ((q[0]'hq).toNat : Int)] w fun e w' => e = .returned (.string R) ∧ Below w.heap.size w w') (HI : ∀ w, Calls Try.prog 41 #[.string R] w fun e w' => e = .returned (.tuple #[.string Y, .bool y]) ∧ Below w.heap.size w w') (w : World) : Calls Try.prog 16 #[.string s, .string k, .string q] w fun e w' => e = .returned (.tuple #[.string Y, .bool y]) ∧ Below w.heap.size w w' := by
  have G1' := Lib.hid G1
  have O1' := Lib.hid O1
  have O2' := Lib.hid O2
  have HR' := Lib.hid HR
  have HI' := Lib.hid HI
  clear G1 O1 O2 HR HI
  go_enter Try.func16, Try.ntmps16
  go_wp2_with fail
  refine (G1'.out _).mono ?_
  rintro e w1 ⟨rfl, b1⟩
  go_wp2_with fail
  refine (O1'.out _).mono ?_
  rintro e w2 ⟨rfl, b2⟩
  have bl2 := blw b1 b2
  go_wp2_with fail
  refine (O2'.out _).mono ?_
  rintro e w3 ⟨rfl, b3⟩
  have bl3 := blw bl2 b3
  go_wp2_with fail
  go_region_with (first | (go_at_call 42; refine (HR'.out _).mono ?_; rintro e w4 ⟨rfl, b4⟩; have bl4 := blw bl3.drew b4) | (go_at_call 41; refine (HI'.out _).mono ?_; rintro e w5 ⟨rfl, b5⟩; have bl5 := blw bl4 b5))
  all_goals
    go_wp2_with fail
    go_ret2
    exact ⟨rfl, bl5⟩
set_option maxHeartbeats 1000000 in
theorem i_n1 (s k q : ByteArray) (a1 a2 : Int) (b1 b2 : Bool) (G1 : ∀ w, Calls Try.prog 33 #[.string s] w fun e w' => e = .returned (.tuple #[.nilIface, .bool false]) ∧ Below w.heap.size w w') (O1 : ∀ w, Calls Try.prog 43 #[.string k] w fun e w' => e = .returned (.tuple #[.int .u8 a1, .bool b1]) ∧ Below w.heap.size w w') (O2 : ∀ w, Calls Try.prog 43 #[.string q] w fun e w' => e = .returned (.tuple #[.int .u8 a2, .bool b2]) ∧ Below w.heap.size w w') (w : World) : Calls Try.prog 17 #[.string s, .string k, .string q] w fun e w' => e = .returned (.tuple #[.string ⟨#[]⟩, .bool false]) ∧ Below w.heap.size w w' := by
  have G1' := Lib.hid G1
  have O1' := Lib.hid O1
  have O2' := Lib.hid O2
  clear G1 O1 O2
  go_enter Try.func17, Try.ntmps17
  go_wp2_with fail
  refine (G1'.out _).mono ?_
  rintro e w1 ⟨rfl, b1⟩
  go_wp2_with fail
  refine (O1'.out _).mono ?_
  rintro e w2 ⟨rfl, b2⟩
  have bl2 := blw b1 b2
  go_wp2_with fail
  refine (O2'.out _).mono ?_
  rintro e w3 ⟨rfl, b3⟩
  have bl3 := blw bl2 b3
  go_wp2_with fail
  go_ret2
  exact ⟨rfl, bl3⟩
set_option maxHeartbeats 1000000 in
theorem i_n2 (s k q : ByteArray) (T1 : TypeId) (V1 : Value) (a1 a2 : Int) (b2 : Bool) (G1 : ∀ w, Calls Try.prog 33 #[.string s] w fun e w' => e = .returned (.tuple #[.iface T1 V1, .bool true]) ∧ Below w.heap.size w w') (O1 : ∀ w, Calls Try.prog 43 #[.string k] w fun e w' => e = .returned (.tuple #[.int .u8 a1, .bool false]) ∧ Below w.heap.size w w') (O2 : ∀ w, Calls Try.prog 43 #[.string q] w fun e w' => e = .returned (.tuple #[.int .u8 a2, .bool b2]) ∧ Below w.heap.size w w') (w : World) : Calls Try.prog 17 #[.string s, .string k, .string q] w fun e w' => e = .returned (.tuple #[.string ⟨#[]⟩, .bool false]) ∧ Below w.heap.size w w' := by
  have G1' := Lib.hid G1
  have O1' := Lib.hid O1
  have O2' := Lib.hid O2
  clear G1 O1 O2
  go_enter Try.func17, Try.ntmps17
  go_wp2_with fail
  refine (G1'.out _).mono ?_
  rintro e w1 ⟨rfl, b1⟩
  go_wp2_with fail
  refine (O1'.out _).mono ?_
  rintro e w2 ⟨rfl, b2⟩
  have bl2 := blw b1 b2
  go_wp2_with fail
  refine (O2'.out _).mono ?_
  rintro e w3 ⟨rfl, b3⟩
  have bl3 := blw bl2 b3
  go_wp2_with fail
  go_ret2
  exact ⟨rfl, bl3⟩
set_option maxHeartbeats 1000000 in
theorem i_n3 (s k q : ByteArray) (T1 : TypeId) (V1 : Value) (a1 a2 : Int) (G1 : ∀ w, Calls Try.prog 33 #[.string s] w fun e w' => e = .returned (.tuple #[.iface T1 V1, .bool true]) ∧ Below w.heap.size w w') (O1 : ∀ w, Calls Try.prog 43 #[.string k] w fun e w' => e = .returned (.tuple #[.int .u8 a1, .bool true]) ∧ Below w.heap.size w w') (O2 : ∀ w, Calls Try.prog 43 #[.string q] w fun e w' => e = .returned (.tuple #[.int .u8 a2, .bool false]) ∧ Below w.heap.size w w') (w : World) : Calls Try.prog 17 #[.string s, .string k, .string q] w fun e w' => e = .returned (.tuple #[.string ⟨#[]⟩, .bool false]) ∧ Below w.heap.size w w' := by
  have G1' := Lib.hid G1
  have O1' := Lib.hid O1
  have O2' := Lib.hid O2
  clear G1 O1 O2
  go_enter Try.func17, Try.ntmps17
  go_wp2_with fail
  refine (G1'.out _).mono ?_
  rintro e w1 ⟨rfl, b1⟩
  go_wp2_with fail
  refine (O1'.out _).mono ?_
  rintro e w2 ⟨rfl, b2⟩
  have bl2 := blw b1 b2
  go_wp2_with fail
  refine (O2'.out _).mono ?_
  rintro e w3 ⟨rfl, b3⟩
  have bl3 := blw bl2 b3
  go_wp2_with fail
  go_ret2
  exact ⟨rfl, bl3⟩
set_option maxHeartbeats 1000000 in
theorem i_n4 (s k q : ByteArray) (T1 : TypeId) (V1 : Value) (a1 a2 : Int) (G1 : ∀ w, Calls Try.prog 33 #[.string s] w fun e w' => e = .returned (.tuple #[.iface T1 V1, .bool true]) ∧ Below w.heap.size w w') (O1 : ∀ w, Calls Try.prog 43 #[.string k] w fun e w' => e = .returned (.tuple #[.int .u8 a1, .bool true]) ∧ Below w.heap.size w w') (O2 : ∀ w, Calls Try.prog 43 #[.string q] w fun e w' => e = .returned (.tuple #[.int .u8 a2, .bool true]) ∧ Below w.heap.size w w') (HA : ∀ w, Calls Try.prog 44 #[.iface T1 V1, .int .u8 a1, .int .u8 a2] w fun e w' => e = .returned (.tuple #[.nilIface, .bool false]) ∧ Below w.heap.size w w') (w : World) : Calls Try.prog 17 #[.string s, .string k, .string q] w fun e w' => e = .returned (.tuple #[.string ⟨#[]⟩, .bool false]) ∧ Below w.heap.size w w' := by
  have G1' := Lib.hid G1
  have O1' := Lib.hid O1
  have O2' := Lib.hid O2
  have HA' := Lib.hid HA
  clear G1 O1 O2 HA
  go_enter Try.func17, Try.ntmps17
  go_wp2_with fail
  refine (G1'.out _).mono ?_
  rintro e w1 ⟨rfl, b1⟩
  go_wp2_with fail
  refine (O1'.out _).mono ?_
  rintro e w2 ⟨rfl, b2⟩
  have bl2 := blw b1 b2
  go_wp2_with fail
  refine (O2'.out _).mono ?_
  rintro e w3 ⟨rfl, b3⟩
  have bl3 := blw bl2 b3
  go_wp2_with fail
  refine (HA'.out _).mono ?_
  rintro e w4 ⟨rfl, b4⟩
  have bl4 := blw bl3 b4
  go_wp2_with fail
  go_ret2
  exact ⟨rfl, bl4⟩
set_option maxHeartbeats 1000000 in
theorem i_yes (s k q : ByteArray) (T1 T3 : TypeId) (V1 V3 : Value) (a1 a2 : Int) (Y : ByteArray) (y : Bool) (G1 : ∀ w, Calls Try.prog 33 #[.string s] w fun e w' => e = .returned (.tuple #[.iface T1 V1, .bool true]) ∧ Below w.heap.size w w') (O1 : ∀ w, Calls Try.prog 43 #[.string k] w fun e w' => e = .returned (.tuple #[.int .u8 a1, .bool true]) ∧ Below w.heap.size w w') (O2 : ∀ w, Calls Try.prog 43 #[.string q] w fun e w' => e = .returned (.tuple #[.int .u8 a2, .bool true]) ∧ Below w.heap.size w w') (HA : ∀ w, Calls Try.prog 44 #[.iface T1 V1, .int .u8 a1, .int .u8 a2] w fun e w' => e = .returned (.tuple #[.iface T3 V3, .bool true]) ∧ Below w.heap.size w w') (HI : ∀ w, Calls Try.prog 45 #[.iface T3 V3] w fun e w' => e = .returned (.tuple #[.string Y, .bool y]) ∧ Below w.heap.size w w') (w : World) : Calls Try.prog 17 #[.string s, .string k, .string q] w fun e w' => e = .returned (.tuple #[.string Y, .bool y]) ∧ Below w.heap.size w w' := by
  have G1' := Lib.hid G1
  have O1' := Lib.hid O1
  have O2' := Lib.hid O2
  have HA' := Lib.hid HA
  have HI' := Lib.hid HI
  clear G1 O1 O2 HA HI
  go_enter Try.func17, Try.ntmps17
  go_wp2_with fail
  refine (G1'.out _).mono ?_
  rintro e w1 ⟨rfl, b1⟩
  go_wp2_with fail
  refine (O1'.out _).mono ?_
  rintro e w2 ⟨rfl, b2⟩
  have bl2 := blw b1 b2
  go_wp2_with fail
  refine (O2'.out _).mono ?_
  rintro e w3 ⟨rfl, b3⟩
  have bl3 := blw bl2 b3
  go_wp2_with fail
  refine (HA'.out _).mono ?_
  rintro e w4 ⟨rfl, b4⟩
  have bl4 := blw bl3 b4
  go_wp2_with fail
  refine (HI'.out _).mono ?_
  rintro e w5 ⟨rfl, b5⟩
  have bl5 := blw bl4 b5
  go_wp2_with fail
  go_ret2
  exact ⟨rfl, bl5⟩

theorem out_if (b : Bool) (X Y : ByteArray) : (if b = true then (.tuple #[.string X, .bool true] : Value) else .tuple #[.string Y, .bool false]) = .tuple #[.string (if b then X else Y), .bool b] := by cases b <;> rfl
theorem both (s k q : ByteArray) (hm : s.size ≤ 9223372036854775807) : ∃ (n : ByteArray) (b : Bool), (∀ w, Calls Try.prog 16 #[.string s, .string k, .string q] w fun e w' => e = .returned (.tuple #[.string n, .bool b]) ∧ Below w.heap.size w w') ∧ (∀ w, Calls Try.prog 17 #[.string s, .string k, .string q] w fun e w' => e = .returned (.tuple #[.string n, .bool b]) ∧ Below w.heap.size w w') := by
  have rn : ∀ k : ByteArray, ∃ (a : Int) (b : Bool), ∀ w, Calls Try.prog 43 #[.string k] w fun e w' => e = .returned (.tuple #[.int .u8 a, .bool b]) ∧ Below w.heap.size w w' := fun k => by
    rcases one_or k with ⟨c, _, _, _, h⟩ | ⟨_, h⟩
    · exact ⟨_, _, h⟩
    · exact ⟨_, _, h⟩
  cases hg : good s.data.toList with
  | none =>
    obtain ⟨a1, b1, r1⟩ := rn k
    obtain ⟨a2, b2, r2⟩ := rn q
    exact ⟨_, _, s_n1 s k q (fun w => tmGood_none hg w hm), i_n1 s k q _ _ _ _ (fun w => parse_none hg w hm) r1 r2⟩
  | some t =>
    have h1 := fun w => tmGood_some hg w hm
    have h2 := fun w => parse_some hg w hm
    obtain ⟨es, hL, hE, h300, h60⟩ := good_S hg
    rcases one_or k with ⟨o, ho, ek, o1, o2⟩ | ⟨o1, o2⟩
    · rcases one_or q with ⟨m, hmn, eq, m1, m2⟩ | ⟨m1, m2⟩
      · have hk : 0 < k.size := by rw [ek, B_size]; simp
        have hq : 0 < q.size := by rw [eq, B_size]; simp
        have ek0 : k[0]'hk = o := by subst ek; rfl
        have eq0 : q[0]'hq = m := by subst eq; rfl
        have hE2 := R_okE o m hE (by rw [nmE_iff]; exact .inl ((nmL_iff m).1 hmn))
        have hT := tmRename_any t.size t o m (Nat.le_refl _) hE (by omega) (by rw [nmE_iff]; exact .inl ((nmL_iff m).1 hmn))
        rw [← es, ← ek0, ← eq0] at hT
        have hI := fun w => tmIf_any (R t o m) hE2 (by rw [R_len]; omega) w
        have hRf := renameFree_any t.size t o m (Nat.le_refl _) hL ho hmn
        rw [ek0, eq0] at hT
        refine ⟨if okT (R t o m) then S (R t o m) else ⟨#[]⟩, okT (R t o m), s_yes s k q hk hq _ _ _ h1 o1 m1 (by rw [ek0, eq0]; exact hT) (fun w => by rw [← out_if]; exact hI w), ?_⟩
        by_cases hok : (R t o m).ok nmL = true
        · have hr : renO t o m = some (R t o m) := by unfold renO; rw [if_pos hok]
          rw [hr] at hRf
          have hokT : okT (R t o m) = true := (okT_iff _).2 ⟨hok, by rw [R_len]; exact h300, by rw [R_size]; exact h60⟩
          have hX := fun w => processText_any (R t o m) (by rw [R_len]; omega) (by rw [R_size]; omega) w
          rw [hokT]
          refine i_yes s k q _ _ _ _ _ _ _ _ h2 o2 m2 (sub_some hRf) (fun w => (hX w).mono fun e w' h => ?_)
          rcases h with ⟨⟨_, _, rfl⟩ | ⟨g, rfl⟩, b⟩
          · exact ⟨rfl, b⟩
          · exact absurd ⟨by rw [R_len]; exact h300, by rw [R_size]; exact h60⟩ g
        · have hr : renO t o m = none := by unfold renO; rw [if_neg hok]
          rw [hr] at hRf
          have hokT : okT (R t o m) = false := by
            cases h : okT (R t o m) with
            | false => rfl
            | true => exact absurd ((okT_iff _).1 h).1 hok
          rw [hokT]
          exact i_n4 s k q _ _ _ _ h2 o2 m2 (sub_none hRf)
      · exact ⟨_, _, s_n3 s k q h1 o1 m1, i_n3 s k q _ _ _ _ h2 o2 m2⟩
    · obtain ⟨a2, b2, r2⟩ := rn q
      exact ⟨_, _, s_n2 s k q h1 o1, i_n2 s k q _ _ _ _ _ h2 o2 r2⟩
set_option maxHeartbeats 1000000 in
theorem walk (a0 a1 a2 : ByteArray) (w0 : a0.size ≤ maxLen) (w1 : a1.size ≤ maxLen) (w2 : a2.size ≤ maxLen) (w : World) : Calls Try.prog 5 #[.string a0, .string a1, .string a2] w fun e w' => e = .returned (.bool true) ∧ Below w.heap.size w w' := by
  unfold maxLen at w0 w1 w2
  by_cases hl : 1048576 < a0.size
  · go_enter Try.func5, Try.ntmps5
    go_wp2_with fail
    go_ret
    exact ⟨rfl, Below.refl _ _⟩
  · by_cases hl2 : 1048576 < a1.size
    · go_enter Try.func5, Try.ntmps5
      go_wp2_with fail
      go_ret
      exact ⟨rfl, Below.refl _ _⟩
    · by_cases hl3 : 1048576 < a2.size
      · go_enter Try.func5, Try.ntmps5
        go_wp2_with fail
        go_ret
        exact ⟨rfl, Below.refl _ _⟩
      · obtain ⟨n, b, hs, hi⟩ := both a0 a1 a2 w0
        have H1 := Lib.hid hs
        have H2 := Lib.hid hi
        clear hs hi
        go_enter Try.func5, Try.ntmps5
        go_wp2_with fail
        refine (H1.out _).mono ?_
        rintro e w2 ⟨rfl, b1⟩
        go_wp2_with fail
        refine (H2.out _).mono ?_
        rintro e w3 ⟨rfl, b2⟩
        go_wp2_with fail
        go_ret
        exact ⟨rfl, below_trans b1 b2 b1.size⟩


set_option maxRecDepth 100000 in
theorem lifted (os : Os) (started : os.Started) (H : Type) (enc : TypeId × Value → H) :
    ReturnsInHanded {} Try.checked os 5 .any (Rows.fnExactRenameFreeSpec.pre6 enc Try.prog Try.f5 Rows.fnExactRenameFreeRow.domain false) (Rows.fnExactRenameFreeSpec.post enc Try.prog Try.f5 false true false false) := by
  refine returnsInHanded_of_change (C := Try.checked) own started (by kernel_rfl) Try.func5
    (ChangeSpec.witness6 (enc := enc) (C := Try.checked) false ⟨#[], #[.string ByteArray.empty, .string ByteArray.empty, .string ByteArray.empty], []⟩ 8 (by kernel_rfl) (by kernel_rfl) (by kernel_rfl) (by kernel_rfl)) ?_
  intro W base args ds gs before hval0 hW hcnd _
  have hval : ∀ (j : Nat) t v, Try.f5.params[j]? = some t → args[j]? = some v → Value.okWide Try.prog W .any base t v := hval0
  have hW' := hW
  obtain ⟨p, q, hA0, hV, rfl, hfz, hnd⟩ := hW
  have hA : DataW.TrodAll enc Try.prog W 0 (fun _ => true) true Try.f5.params.toList args.toList ds p := hA0
  rw [Try.params5] at hA hval
  obtain ⟨v0, vs0, d0, ds0, p0, q0, hargs, rfl, rfl, h0, r0⟩ := trodAll_cons hA
  obtain ⟨v1, vs1, d1, ds1, p1, q1, rfl, rfl, rfl, h1, r1⟩ := trodAll_cons r0
  obtain ⟨v2, vs2, d2, ds2, p2, q2, rfl, rfl, rfl, h2, r2⟩ := trodAll_cons r1
  obtain ⟨rfl, rfl, rfl⟩ := trodAll_nil r2
  obtain rfl : args = #[v0, v1, v2] := by cases args; simp_all
  obtain ⟨rfl, rfl⟩ := trodVars_none hV
  obtain ⟨a0, rfl, rfl, rfl, w0⟩ := open_string Try.underlying9 (hval 0 9 v0 rfl rfl) h0
  obtain ⟨a1, rfl, rfl, rfl, w1⟩ := open_string Try.underlying9 (hval 1 9 v1 rfl rfl) h1
  obtain ⟨a2, rfl, rfl, rfl, w2⟩ := open_string Try.underlying9 (hval 2 9 v2 rfl rfl) h2
  clear hA0 hval0
  simp only [List.append_nil] at hW'
  refine (walk a0 a1 a2 w0 w1 w2 W).mono fun e W' ⟨he, bel⟩ => ?_
  subst he
  exact ⟨_, rfl, _, _, _, [], [], [], hW', trodAll_mk1 (shut_bool Try.underlying4 _), (trodAll_cons_mk (shut_string Try.underlying9 w0) (trodAll_cons_mk (shut_string Try.underlying9 w1) (trodAll_cons_mk (shut_string Try.underlying9 w2) trodAll_mk0))), rfl, bel.frame _, fun h => by cases h⟩

theorem over : Rows.fnExactRenameFreeRow.holds Try.pinned (OpenSpec.ofChange Rows.fnExactRenameFreeSpec) :=
  OpenClaim.holds_of_wide 5 Try.f5 rfl rfl rfl rfl rfl rfl rfl ⟨rfl, rfl, rfl, rfl, rfl⟩ rfl rfl rfl rfl rfl (by kernel_rfl) Try.func5 (by kernel_rfl)
    (of_decide_eq_true (by kernel_rfl)) (by unfold Func.isWrapper; first | (rw [if_pos (by decide +kernel)]; kernel_rfl) | (rw [if_neg (by decide +kernel)]; exact ⟨rfl, rfl⟩))
    (fun os started H enc _ => lifted os started H enc)
end LawRenameFree

theorem fnExactRenameFree_holds : Rows.FnExactRenameFreeSaid := LawRenameFree.over
#print axioms fnExactRenameFree_holds
end Go.Proofs.Ytpahhlcfbmmocab
