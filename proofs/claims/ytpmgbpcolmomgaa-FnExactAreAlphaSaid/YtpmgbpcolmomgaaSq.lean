/- Names at the same place; the names of a sign: in the specification. -/
import Derived.Test.YtpmgbpcolmomgaaAl
import Derived.Test.YtpmgbpcolmomgaaTg
import Derived.Test.YtpmgbpcolmomgaaUs
namespace Go.Proofs.Ytpmgbpcolmomgaa.T1
open Go.RowKit
set_option maxRecDepth 100000
set_option linter.unusedVariables false
set_option linter.unusedSimpArgs false

theorem sp_beq (a b : UInt8) : (((a.toNat : Nat) : Int) == ((b.toNat : Nat) : Int)) = decide (a = b) := by
  rw [Bool.eq_iff_iff, decide_eq_true_iff, beq_iff_eq]
  exact ⟨fun h => u8_ext (by omega), fun h => by rw [h]⟩
theorem sameP_at (a b : UInt8) (l r : List UInt8) (k : Nat) (h1 : k < l.length) (h2 : k < r.length) : sameP a b (l.drop k) (r.drop k) = if l[k] = a ∨ r[k] = b then decide (l[k] = a) && decide (r[k] = b) else sameP a b (l.drop (k + 1)) (r.drop (k + 1)) := by
  rw [List.drop_eq_getElem_cons h1, List.drop_eq_getElem_cons h2]; rfl
theorem sameP_end (a b : UInt8) (l r : List UInt8) (k : Nat) (h1 : l.length ≤ k) : sameP a b (l.drop k) (r.drop k) = decide (a = b) := by
  rw [List.drop_of_length_le h1]
  cases r.drop k <;> rfl
set_option maxHeartbeats 2000000 in
theorem samePlace_any (a b : UInt8) (X Y : ByteArray) (hs : X.size = Y.size) (hX : X.size ≤ 100000) (w : World) :
    Calls Try.prog 80 #[.int .u8 (a.toNat : Int), .int .u8 (b.toNat : Int), .string X, .string Y] w fun e w' => e = .returned (.bool (sameP a b X.data.toList Y.data.toList)) ∧ w = w' := by
  obtain ⟨A, hA⟩ : ∃ A, A = ((a.toNat : Nat) : Int) := ⟨_, rfl⟩
  obtain ⟨D, hD⟩ : ∃ D, D = ((b.toNat : Nat) : Int) := ⟨_, rfl⟩
  rw [← hA, ← hD]
  have HA := Lib.hid hA
  have HD := Lib.hid hD
  have HS := Lib.hid hs
  have hl1 : X.data.toList.length = X.size := by simp
  have hl2 : Y.data.toList.length = Y.size := by simp
  have HL1 := Lib.hid hl1
  have HL2 := Lib.hid hl2
  have hXY : X.size ≤ Y.size := by omega
  clear hA hD hs hl1 hl2
  go_enter Try.func80, Try.ntmps80
  go_wp2_with fail
  go_loop [9] (fun v => ∃ k : Nat, k ≤ X.size ∧ v = .int .i64 (k : Int) ∧ Hid (sameP a b (X.data.toList.drop k) (Y.data.toList.drop k) = sameP a b X.data.toList Y.data.toList)) (fun v => X.size - (intOf v).toNat)
  case atStart => exact ⟨0, Nat.zero_le _, rfl, rfl⟩
  case round =>
    obtain ⟨k, hk, rfl, H⟩ := hrel
    by_cases hlt : k < X.size
    · have hlt2 : k < Y.size := by omega
      have e1 : X.data.toList[k]'(by rw [HL1.out]; exact hlt) = X[k]'hlt := get_list X k hlt
      have e2 : Y.data.toList[k]'(by rw [HL2.out]; exact hlt2) = Y[k]'hlt2 := get_list Y k hlt2
      have hat := sameP_at a b X.data.toList Y.data.toList k (by rw [HL1.out]; exact hlt) (by rw [HL2.out]; exact hlt2)
      rw [e1, e2, H.out] at hat
      have q1 : (((X[k]'hlt).toNat : Int) == A) = decide (X[k]'hlt = a) := by rw [HA.out, sp_beq]
      have q2 : (((Y[k]'hlt2).toNat : Int) == D) = decide (Y[k]'hlt2 = b) := by rw [HD.out, sp_beq]
      by_cases d1 : X[k]'hlt = a
      · have hr : Hid (sameP a b X.data.toList Y.data.toList = decide (Y[k]'hlt2 = b)) := by show _ = _; rw [hat, if_pos (.inl d1), decide_eq_true d1, Bool.true_and]
        rw [decide_eq_true d1] at q1
        by_cases d2 : Y[k]'hlt2 = b
        · rw [decide_eq_true d2] at q2
          have hr2 : Hid (sameP a b X.data.toList Y.data.toList = true) := hr.out.trans (decide_eq_true d2)
          clear d1 d2 e1 e2 hat hr
          go_wp2_with fail
          go_ret
          exact ⟨by rw [hr2.out]; rfl, rfl⟩
        · rw [decide_eq_false d2] at q2
          have hr2 : Hid (sameP a b X.data.toList Y.data.toList = false) := hr.out.trans (decide_eq_false d2)
          clear d1 d2 e1 e2 hat hr
          go_wp2_with fail
          go_ret
          exact ⟨by rw [hr2.out]; rfl, rfl⟩
      · rw [decide_eq_false d1] at q1
        by_cases d2 : Y[k]'hlt2 = b
        · rw [decide_eq_true d2] at q2
          have hr2 : Hid (sameP a b X.data.toList Y.data.toList = false) := by show _ = _; rw [hat, if_pos (.inr d2), decide_eq_false d1, Bool.false_and]
          clear d1 d2 e1 e2 hat
          go_wp2_with fail
          go_ret
          exact ⟨by rw [hr2.out]; rfl, rfl⟩
        · rw [decide_eq_false d2] at q2
          have hn : Hid (sameP a b (X.data.toList.drop (k + 1)) (Y.data.toList.drop (k + 1)) = sameP a b X.data.toList Y.data.toList) := by show _ = _; rw [hat, if_neg (by simp [d1, d2])]
          clear d1 d2 e1 e2 hat
          go_wp2_with fail
          go_round
          case rel => exact ⟨k + 1, by omega, by go_num, hn⟩
          case measure => simp [intOf]; omega
    · have hr2 : Hid (sameP a b X.data.toList Y.data.toList = decide (a = b)) := by show _ = _; rw [← H.out, sameP_end _ _ _ _ _ (by rw [HL1.out]; omega)]
      have q : (A == D) = decide (a = b) := by rw [HA.out, HD.out, sp_beq]
      have Hq := Lib.hid q
      clear q
      go_wp2_with fail
      go_ret
      exact ⟨by rw [hr2.out, ← Hq.out]; rfl, rfl⟩
set_option maxHeartbeats 1000000 in
theorem nm_two33 (s : ByteArray) (hs : 4 ≤ s.size) (hs3 : s.size ≤ 300) (HK : ∀ w, Calls Try.prog 63 #[.string s] w fun e w' => e = .returned (.int .u8 33) ∧ w = w') (w : World) : Calls Try.prog 79 #[.string s] w fun e w' => e = .returned (.string (s.extract 0 1 ++ s.extract 2 3)) ∧ Below w.heap.size w w' := by
  have H := Lib.hid HK
  clear HK
  go_enter Try.func79, Try.ntmps79
  go_wp2_with fail
  refine (H.out _).mono ?_
  rintro e w1 ⟨rfl, rfl⟩
  go_wp2_with fail
  go_quiet (fail)
  go_wp2_with fail
  go_ret
  exact ⟨rfl, below_drewN' (Below.refl _ _) _⟩
set_option maxHeartbeats 1000000 in
theorem nm_two61 (s : ByteArray) (hs : 4 ≤ s.size) (hs3 : s.size ≤ 300) (HK : ∀ w, Calls Try.prog 63 #[.string s] w fun e w' => e = .returned (.int .u8 61) ∧ w = w') (w : World) : Calls Try.prog 79 #[.string s] w fun e w' => e = .returned (.string (s.extract 1 2 ++ s.extract 3 4)) ∧ Below w.heap.size w w' := by
  have H := Lib.hid HK
  clear HK
  go_enter Try.func79, Try.ntmps79
  go_wp2_with fail
  refine (H.out _).mono ?_
  rintro e w1 ⟨rfl, rfl⟩
  go_wp2_with fail
  go_quiet (fail)
  go_wp2_with fail
  go_ret
  exact ⟨rfl, below_drewN' (Below.refl _ _) _⟩
set_option maxHeartbeats 1000000 in
theorem nm_one (s : ByteArray) (hs : 4 ≤ s.size) (hs3 : s.size ≤ 300) (HK : ∀ w, Calls Try.prog 63 #[.string s] w fun e w' => e = .returned (.int .u8 63) ∧ w = w') (w : World) : Calls Try.prog 79 #[.string s] w fun e w' => e = .returned (.string (s.extract 0 1)) ∧ Below w.heap.size w w' := by
  have H := Lib.hid HK
  clear HK
  go_enter Try.func79, Try.ntmps79
  go_wp2_with fail
  refine (H.out _).mono ?_
  rintro e w1 ⟨rfl, rfl⟩
  go_wp2_with fail
  go_ret
  exact ⟨rfl, Below.refl _ _⟩
set_option maxHeartbeats 1000000 in
theorem nm_no (s : ByteArray) (kd : Int) (b0 : (kd == 33) = false) (b1 : (kd == 63) = false) (b2 : (kd == 61) = false) (HK : ∀ w, Calls Try.prog 63 #[.string s] w fun e w' => e = .returned (.int .u8 kd) ∧ w = w') (w : World) : Calls Try.prog 79 #[.string s] w fun e w' => e = .returned (.string ⟨#[]⟩) ∧ Below w.heap.size w w' := by
  have H := Lib.hid HK
  clear HK
  go_enter Try.func79, Try.ntmps79
  go_wp2_with fail
  refine (H.out _).mono ?_
  rintro e w1 ⟨rfl, rfl⟩
  go_wp2_with fail
  go_ret
  exact ⟨rfl, Below.refl _ _⟩
theorem ext_one (t : Tm) (i : Nat) (h : i < t.pr.length) : (S t).extract i (i + 1) = B [t.pr[i]] := by
  apply B_eq
  rw [ByteArray.data_extract, Array.toList_extract, S_list, List.extract_eq_take_drop, show i + 1 - i = 1 by omega, List.drop_eq_getElem_cons h]
  rfl
theorem B_app (l m : List UInt8) : B l ++ B m = B (l ++ m) := by
  apply B_eq
  rw [ByteArray.data_append, Array.toList_append, B_list, B_list]
theorem tmNames_any (t : Tm) (ho : t.ok nmE = true) (hl : t.pr.length ≤ 300) (w : World) : Calls Try.prog 79 #[.string (S t)] w fun e w' => e = .returned (.string (B t.used)) ∧ Below w.heap.size w w' := by
  have HK := tmKind_any t ho hl
  have hs3 : (S t).size ≤ 300 := by rw [S_size]; exact hl
  cases t with
  | snd a b p =>
    have h := nm_two33 _ (by rw [S_size]; simp [Tm.pr]) hs3 HK w
    rw [ext_one _ 0 (by simp [Tm.pr]), ext_one _ 2 (by simp [Tm.pr]), B_app] at h
    exact h
  | mat a b p =>
    have h := nm_two61 _ (by rw [S_size]; simp [Tm.pr]) hs3 HK w
    rw [ext_one _ 1 (by simp [Tm.pr]), ext_one _ 3 (by simp [Tm.pr]), B_app] at h
    exact h
  | rcv a x p =>
    have h := nm_one _ (by rw [S_size]; simp [Tm.pr]) hs3 HK w
    rw [ext_one _ 0 (by simp [Tm.pr])] at h
    exact h
  | nil => exact nm_no _ 48 (by decide) (by decide) (by decide) HK w
  | tau p => exact nm_no _ 126 (by decide) (by decide) (by decide) HK w
  | sum p q => exact nm_no _ 43 (by decide) (by decide) (by decide) HK w
  | par p q => exact nm_no _ 38 (by decide) (by decide) (by decide) HK w
  | own x p => exact nm_no _ 35 (by decide) (by decide) (by decide) HK w
  | rep p => exact nm_no _ 42 (by decide) (by decide) (by decide) HK w

end Go.Proofs.Ytpmgbpcolmomgaa.T1
