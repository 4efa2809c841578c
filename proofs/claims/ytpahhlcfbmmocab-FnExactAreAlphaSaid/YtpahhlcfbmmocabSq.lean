/- Names at the same place; the names of a sign: in the specification. -/
import Derived.Test.YtpahhlcfbmmocabAl
import Derived.Test.YtpahhlcfbmmocabTg
import Derived.Test.YtpahhlcfbmmocabSn
namespace Go.Proofs.Ytpahhlcfbmmocab.T1
open Go.RowKit
set_option maxRecDepth 100000
set_option linter.unusedVariables false
set_option linter.unusedSimpArgs false

theorem sp_beq (a b : UInt8) : (((a.toNat : Nat) : Int) == ((b.toNat : Nat) : Int)) = decide (a = b) := by
  rw [Bool.eq_iff_iff, decide_eq_true_iff, beq_iff_eq]
  exact ⟨fun h => u8_ext (by omega), fun h => by rw [h]⟩
theorem sameP_at (a b : UInt8) (l r : List UInt8) (k : Nat) (h1 : k < l.length) (h2 : k < r.length) : sameP a b (l.drop k) (r.drop k) = if l[k] = a ∨ r[k] = b then decide (l[k] = a) && decide (r[k] = b) else sameP a b (l.drop (k + 1)) (r.drop (k + 1)) := by
  rw [List.drop_eq_getElem_cons h1, List.drop_eq_getElem_cons h2]; rfl
theorem sameP_end (a b : UInt8) (l r : List UInt8) (k : Nat) (h1 : l.length ≤ k) : sameP a b (l.drop k) (r.drop k) = decide (a = b) := by
  rw [List.drop_of_length_le h1]
  cases r.drop k <;> rfl
set_option maxHeartbeats 2000000 in
theorem samePlace_any (a b : UInt8) (X Y : ByteArray) (hs : X.size = Y.size) (hX : X.size ≤ 100000) (w : World) :
    Calls Try.prog 90 #[.int .u8 (a.toNat : Int), .int .u8 (b.toNat : Int), .string X, .string Y] w fun e w' => e = .returned (.bool (sameP a b X.data.toList Y.data.toList)) ∧ w = w' := by
  obtain ⟨A, hA⟩ : ∃ A, A = ((a.toNat : Nat) : Int) := ⟨_, rfl⟩
  obtain ⟨D, hD⟩ : ∃ D, D = ((b.toNat : Nat) : Int) := ⟨_, rfl⟩
  rw [← hA, ← hD]
  have HA := Lib.hid hA
  have HD := Lib.hid hD
  have HS := Lib.hid hs
  have hl1 : X.data.toList.length = X.size := by simp
  have hl2 : Y.data.toList.length = Y.size := by simp
  have HL1 := Lib.hid hl1
  have HL2 := Lib.hid hl2
  have hXY : X.size ≤ Y.size := by omega
  clear hA hD hs hl1 hl2
  go_enter Try.func90, Try.ntmps90
  go_wp2_with fail
  go_loop [9] (fun v => ∃ k : Nat, k ≤ X.size ∧ v = .int .i64 (k : Int) ∧ Hid (sameP a b (X.data.toList.drop k) (Y.data.toList.drop k) = sameP a b X.data.toList Y.data.toList)) (fun v => X.size - (intOf v).toNat)
  case atStart => exact ⟨0, Nat.zero_le _, rfl, rfl⟩
  case round =>
    obtain ⟨k, hk, rfl, H⟩ := hrel
    by_cases hlt : k < X.size
    · have hlt2 : k < Y.size := by omega
      have e1 : X.data.toList[k]'(by rw [HL1.out]; exact hlt) = X[k]'hlt := get_list X k hlt
      have e2 : Y.data.toList[k]'(by rw [HL2.out]; exact hlt2) = Y[k]'hlt2 := get_list Y k hlt2
      have hat := sameP_at a b X.data.toList Y.data.toList k (by rw [HL1.out]; exact hlt) (by rw [HL2.out]; exact hlt2)
      rw [e1, e2, H.out] at hat
      have q1 : (((X[k]'hlt).toNat : Int) == A) = decide (X[k]'hlt = a) := by rw [HA.out, sp_beq]
      have q2 : (((Y[k]'hlt2).toNat : Int) == D) = decide (Y[k]'hlt2 = b) := by rw [HD.out, sp_beq]
      by_cases d1 : X[k]'hlt = a
      · have hr : Hid (sameP a b X.data.toList Y.data.toList = decide (Y[k]'hlt2 = b)) := by show _ = _; rw [hat, if_pos (.inl d1), decide_eq_true d1, Bool.true_and]
        rw [decide_eq_true d1] at q1
        by_cases d2 : Y[k]'hlt2 = b
        · rw [decide_eq_true d2] at q2
          have hr2 : Hid (sameP a b X.data.toList Y.data.toList = true) := hr.out.trans (decide_eq_true d2)
          clear d1 d2 e1 e2 hat hr
          go_wp2_with fail
          go_ret
          exact ⟨by rw [hr2.out]; rfl, rfl⟩
        · rw [decide_eq_false d2] at q2
          have hr2 : Hid (sameP a b X.data.toList Y.data.toList = false) := hr.out.trans (decide_eq_false d2)
          clear d1 d2 e1 e2 hat hr
          go_wp2_with fail
          go_ret
          exact ⟨by rw [hr2.out]; rfl, rfl⟩
      · rw [decide_eq_false d1] at q1
        by_cases d2 : Y[k]'hlt2 = b
        · rw [decide_eq_true d2] at q2
          have hr2 : Hid (sameP a b X.data.toList Y.data.toList = false) := by show _ = _; rw [hat, if_pos (.inr d2), decide_eq_false d1, Bool.false_and]
          clear d1 d2 e1 e2 hat
          go_wp2_with fail
          go_ret
          exact ⟨by rw [hr2.out]; rfl, rfl⟩
        · rw [decide_eq_false d2] at q2
          have hn : Hid (sameP a b (X.data.toList.drop (k + 1)) (Y.data.toList.drop (k + 1)) = sameP a b X.data.toList Y.data.toList) := by show _ = _; rw [hat, if_neg (by simp [d1, d2])]
          clear d1 d2 e1 e2 hat
          go_wp2_with fail
          go_round
          case rel => exact ⟨k + 1, by omega, by go_num, hn⟩
          case measure => simp [intOf]; omega
    · have hr2 : Hid (sameP a b X.data.toList Y.data.toList = decide (a = b)) := by show _ = _; rw [← H.out, sameP_end _ _ _ _ _ (by rw [HL1.out]; omega)]
      have q : (A == D) = decide (a = b) := by rw [HA.out, HD.out, sp_beq]
      have Hq := Lib.hid q
      clear q
      go_wp2_with fail
      go_ret
      exact ⟨by rw [hr2.out, ← Hq.out]; rfl, rfl⟩

end Go.Proofs.Ytpahhlcfbmmocab.T1
