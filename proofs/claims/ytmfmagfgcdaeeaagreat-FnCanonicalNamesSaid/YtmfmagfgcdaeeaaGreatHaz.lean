/- Texts of the proof, put together: Sn, Sq, Aq, Ns, Nu. No conditions. -/
import Derived.Test.YtmfmagfgcdaeeaaGreatHai
import Derived.Test.YtmfmagfgcdaeeaaGreatHam
import Derived.Test.YtmfmagfgcdaeeaaGreatHao
import Derived.Test.YtmfmagfgcdaeeaaGreatHaq
import Derived.Test.YtmfmagfgcdaeeaaGreatHay

/- The names of a sign that it does not bind: in the specification. -/
namespace Go.Proofs.YtmfmagfgcdaeeaaGreat.T1
open Go.RowKit
set_option maxRecDepth 100000
set_option linter.unusedVariables false
set_option linter.unusedSimpArgs false

set_option maxHeartbeats 1000000 in
theorem nm_two33 (s : ByteArray) (hs : 4 ≤ s.size) (hs3 : s.size ≤ 700) (HK : ∀ w, Calls Tryz.prog 100 #[.string s] w fun e w' => e = .returned (.int .u8 33) ∧ w = w') (w : World) : Calls Tryz.prog 138 #[.string s] w fun e w' => e = .returned (.string (s.extract 0 1 ++ s.extract 2 3)) ∧ Below w.heap.size w w' := by
  have H := Lib.hid HK
  clear HK
  go_enter Tryz.func138, Tryz.ntmps138
  go_wp2_with fail
  refine (H.out _).mono ?_
  rintro e w1 ⟨rfl, rfl⟩
  go_wp2_with fail
  go_quiet (fail)
  go_wp2_with fail
  go_ret
  exact ⟨rfl, below_drewN' (Below.refl _ _) _⟩
set_option maxHeartbeats 1000000 in
theorem nm_two61 (s : ByteArray) (hs : 4 ≤ s.size) (hs3 : s.size ≤ 700) (HK : ∀ w, Calls Tryz.prog 100 #[.string s] w fun e w' => e = .returned (.int .u8 61) ∧ w = w') (w : World) : Calls Tryz.prog 138 #[.string s] w fun e w' => e = .returned (.string (s.extract 1 2 ++ s.extract 3 4)) ∧ Below w.heap.size w w' := by
  have H := Lib.hid HK
  clear HK
  go_enter Tryz.func138, Tryz.ntmps138
  go_wp2_with fail
  refine (H.out _).mono ?_
  rintro e w1 ⟨rfl, rfl⟩
  go_wp2_with fail
  go_quiet (fail)
  go_wp2_with fail
  go_ret
  exact ⟨rfl, below_drewN' (Below.refl _ _) _⟩
set_option maxHeartbeats 1000000 in
theorem nm_one (s : ByteArray) (hs : 4 ≤ s.size) (hs3 : s.size ≤ 700) (HK : ∀ w, Calls Tryz.prog 100 #[.string s] w fun e w' => e = .returned (.int .u8 63) ∧ w = w') (w : World) : Calls Tryz.prog 138 #[.string s] w fun e w' => e = .returned (.string (s.extract 0 1)) ∧ Below w.heap.size w w' := by
  have H := Lib.hid HK
  clear HK
  go_enter Tryz.func138, Tryz.ntmps138
  go_wp2_with fail
  refine (H.out _).mono ?_
  rintro e w1 ⟨rfl, rfl⟩
  go_wp2_with fail
  go_ret
  exact ⟨rfl, Below.refl _ _⟩
set_option maxHeartbeats 1000000 in
theorem nm_no (s : ByteArray) (kd : Int) (b0 : (kd == 33) = false) (b1 : (kd == 63) = false) (b2 : (kd == 61) = false) (HK : ∀ w, Calls Tryz.prog 100 #[.string s] w fun e w' => e = .returned (.int .u8 kd) ∧ w = w') (w : World) : Calls Tryz.prog 138 #[.string s] w fun e w' => e = .returned (.string ⟨#[]⟩) ∧ Below w.heap.size w w' := by
  have H := Lib.hid HK
  clear HK
  go_enter Tryz.func138, Tryz.ntmps138
  go_wp2_with fail
  refine (H.out _).mono ?_
  rintro e w1 ⟨rfl, rfl⟩
  go_wp2_with fail
  go_ret
  exact ⟨rfl, Below.refl _ _⟩
theorem ext_one (t : Tm) (i : Nat) (h : i < t.pr.length) : (S t).extract i (i + 1) = B [t.pr[i]] := by
  apply B_eq
  rw [ByteArray.data_extract, Array.toList_extract, S_list, List.extract_eq_take_drop, show i + 1 - i = 1 by omega, List.drop_eq_getElem_cons h]
  rfl
theorem tmNames_any (t : Tm) (ho : t.ok nmE = true) (hl : t.pr.length ≤ 700) (w : World) : Calls Tryz.prog 138 #[.string (S t)] w fun e w' => e = .returned (.string (B t.used)) ∧ Below w.heap.size w w' := by
  have HK := tmKind_any t ho hl
  have hs3 : (S t).size ≤ 700 := by rw [S_size]; exact hl
  cases t with
  | snd a b p =>
    have h := nm_two33 _ (by rw [S_size]; simp [Tm.pr]) hs3 HK w
    rw [ext_one _ 0 (by simp [Tm.pr]), ext_one _ 2 (by simp [Tm.pr]), B_app] at h
    exact h
  | mat a b p =>
    have h := nm_two61 _ (by rw [S_size]; simp [Tm.pr]) hs3 HK w
    rw [ext_one _ 1 (by simp [Tm.pr]), ext_one _ 3 (by simp [Tm.pr]), B_app] at h
    exact h
  | rcv a x p =>
    have h := nm_one _ (by rw [S_size]; simp [Tm.pr]) hs3 HK w
    rw [ext_one _ 0 (by simp [Tm.pr])] at h
    exact h
  | nil => exact nm_no _ 48 (by decide) (by decide) (by decide) HK w
  | tau p => exact nm_no _ 126 (by decide) (by decide) (by decide) HK w
  | sum p q => exact nm_no _ 43 (by decide) (by decide) (by decide) HK w
  | par p q => exact nm_no _ 38 (by decide) (by decide) (by decide) HK w
  | own x p => exact nm_no _ 35 (by decide) (by decide) (by decide) HK w
  | rep p => exact nm_no _ 42 (by decide) (by decide) (by decide) HK w

end Go.Proofs.YtmfmagfgcdaeeaaGreat.T1

/- Names at the same place; the names of a sign: in the specification. -/
namespace Go.Proofs.YtmfmagfgcdaeeaaGreat.T1
open Go.RowKit
set_option maxRecDepth 100000
set_option linter.unusedVariables false
set_option linter.unusedSimpArgs false

theorem sp_beq (a b : UInt8) : (((a.toNat : Nat) : Int) == ((b.toNat : Nat) : Int)) = decide (a = b) := by
  rw [Bool.eq_iff_iff, decide_eq_true_iff, beq_iff_eq]
  exact ⟨fun h => u8_ext (by omega), fun h => by rw [h]⟩
theorem sameP_at (a b : UInt8) (l r : List UInt8) (k : Nat) (h1 : k < l.length) (h2 : k < r.length) : sameP a b (l.drop k) (r.drop k) = if l[k] = a ∨ r[k] = b then decide (l[k] = a) && decide (r[k] = b) else sameP a b (l.drop (k + 1)) (r.drop (k + 1)) := by
  rw [List.drop_eq_getElem_cons h1, List.drop_eq_getElem_cons h2]; rfl
theorem sameP_end (a b : UInt8) (l r : List UInt8) (k : Nat) (h1 : l.length ≤ k) : sameP a b (l.drop k) (r.drop k) = decide (a = b) := by
  rw [List.drop_of_length_le h1]
  cases r.drop k <;> rfl
set_option maxHeartbeats 2000000 in
theorem samePlace_any (a b : UInt8) (X Y : ByteArray) (hs : X.size = Y.size) (hX : X.size ≤ 100000) (w : World) :
    Calls Tryz.prog 139 #[.int .u8 (a.toNat : Int), .int .u8 (b.toNat : Int), .string X, .string Y] w fun e w' => e = .returned (.bool (sameP a b X.data.toList Y.data.toList)) ∧ w = w' := by
  obtain ⟨A, hA⟩ : ∃ A, A = ((a.toNat : Nat) : Int) := ⟨_, rfl⟩
  obtain ⟨D, hD⟩ : ∃ D, D = ((b.toNat : Nat) : Int) := ⟨_, rfl⟩
  rw [← hA, ← hD]
  have HA := Lib.hid hA
  have HD := Lib.hid hD
  have HS := Lib.hid hs
  have hl1 : X.data.toList.length = X.size := by simp
  have hl2 : Y.data.toList.length = Y.size := by simp
  have HL1 := Lib.hid hl1
  have HL2 := Lib.hid hl2
  have hXY : X.size ≤ Y.size := by omega
  clear hA hD hs hl1 hl2
  go_enter Tryz.func139, Tryz.ntmps139
  go_wp2_with fail
  go_loop [9] (fun v => ∃ k : Nat, k ≤ X.size ∧ v = .int .i64 (k : Int) ∧ Hid (sameP a b (X.data.toList.drop k) (Y.data.toList.drop k) = sameP a b X.data.toList Y.data.toList)) (fun v => X.size - (intOf v).toNat)
  case atStart => exact ⟨0, Nat.zero_le _, rfl, rfl⟩
  case round =>
    obtain ⟨k, hk, rfl, H⟩ := hrel
    by_cases hlt : k < X.size
    · have hlt2 : k < Y.size := by omega
      have e1 : X.data.toList[k]'(by rw [HL1.out]; exact hlt) = X[k]'hlt := get_list X k hlt
      have e2 : Y.data.toList[k]'(by rw [HL2.out]; exact hlt2) = Y[k]'hlt2 := get_list Y k hlt2
      have hat := sameP_at a b X.data.toList Y.data.toList k (by rw [HL1.out]; exact hlt) (by rw [HL2.out]; exact hlt2)
      rw [e1, e2, H.out] at hat
      have q1 : (((X[k]'hlt).toNat : Int) == A) = decide (X[k]'hlt = a) := by rw [HA.out, sp_beq]
      have q2 : (((Y[k]'hlt2).toNat : Int) == D) = decide (Y[k]'hlt2 = b) := by rw [HD.out, sp_beq]
      by_cases d1 : X[k]'hlt = a
      · have hr : Hid (sameP a b X.data.toList Y.data.toList = decide (Y[k]'hlt2 = b)) := by show _ = _; rw [hat, if_pos (.inl d1), decide_eq_true d1, Bool.true_and]
        rw [decide_eq_true d1] at q1
        by_cases d2 : Y[k]'hlt2 = b
        · rw [decide_eq_true d2] at q2
          have hr2 : Hid (sameP a b X.data.toList Y.data.toList = true) := hr.out.trans (decide_eq_true d2)
          clear d1 d2 e1 e2 hat hr
          go_wp2_with fail
          go_ret
          exact ⟨by rw [hr2.out]; rfl, rfl⟩
        · rw [decide_eq_false d2] at q2
          have hr2 : Hid (sameP a b X.data.toList Y.data.toList = false) := hr.out.trans (decide_eq_false d2)
          clear d1 d2 e1 e2 hat hr
          go_wp2_with fail
          go_ret
          exact ⟨by rw [hr2.out]; rfl, rfl⟩
      · rw [decide_eq_false d1] at q1
        by_cases d2 : Y[k]'hlt2 = b
        · rw [decide_eq_true d2] at q2
          have hr2 : Hid (sameP a b X.data.toList Y.data.toList = false) := by show _ = _; rw [hat, if_pos (.inr d2), decide_eq_false d1, Bool.false_and]
          clear d1 d2 e1 e2 hat
          go_wp2_with fail
          go_ret
          exact ⟨by rw [hr2.out]; rfl, rfl⟩
        · rw [decide_eq_false d2] at q2
          have hn : Hid (sameP a b (X.data.toList.drop (k + 1)) (Y.data.toList.drop (k + 1)) = sameP a b X.data.toList Y.data.toList) := by show _ = _; rw [hat, if_neg (by simp [d1, d2])]
          clear d1 d2 e1 e2 hat
          go_wp2_with fail
          go_round
          case rel => exact ⟨k + 1, by omega, by go_num, hn⟩
          case measure => simp [intOf]; omega
    · have hr2 : Hid (sameP a b X.data.toList Y.data.toList = decide (a = b)) := by show _ = _; rw [← H.out, sameP_end _ _ _ _ _ (by rw [HL1.out]; omega)]
      have q : (A == D) = decide (a = b) := by rw [HA.out, HD.out, sp_beq]
      have Hq := Lib.hid q
      clear q
      go_wp2_with fail
      go_ret
      exact ⟨by rw [hr2.out, ← Hq.out]; rfl, rfl⟩

end Go.Proofs.YtmfmagfgcdaeeaaGreat.T1

/- Alike by names, in the specification: the ways through. -/
namespace Go.Proofs.YtmfmagfgcdaeeaaGreat.T1
open Go.RowKit
set_option maxRecDepth 100000
set_option linter.unusedVariables false
set_option linter.unusedSimpArgs false

theorem bl_go {u v w : World} (h : Below u.heap.size u v) (k : Below v.heap.size v w) : Below u.heap.size u w := below_trans h k h.size
theorem conv1o (k : UInt8) (w : World) (o : Obj) : (convert 22 9 (.slice (some ⟨w.heap.size + 1, 0, none⟩) 1 1)).run Tryz.prog ((w.alloc o).alloc (.cells #[.int .u8 (k.toNat : Int)] 5)) = .ok (.string (one k)) ((w.alloc o).alloc (.cells #[.int .u8 (k.toNat : Int)] 5)) := by
  have h := conv1 k (w.alloc o)
  rw [show (w.alloc o).heap.size = w.heap.size + 1 by simp] at h
  exact h
theorem below_go2 {u v : World} (h : Below u.heap.size u v) {o : Obj} : Below u.heap.size u (v.alloc o) := h.alloc h.size o
set_option maxHeartbeats 1000000 in
theorem al_kind (s t L M : ByteArray) (k1 k2 : Int) (hk : (k1 != k2) = true) (HK1 : ∀ w, Calls Tryz.prog 100 #[.string s] w fun e w' => e = .returned (.int .u8 k1) ∧ w = w') (HK2 : ∀ w, Calls Tryz.prog 100 #[.string t] w fun e w' => e = .returned (.int .u8 k2) ∧ w = w') (w : World) :
    Calls Tryz.prog 77 #[.string s, .string t, .string L, .string M] w fun e w' => e = .returned (.bool false) ∧ Below w.heap.size w w' := by
  have H1 := Lib.hid HK1
  have H2 := Lib.hid HK2
  clear HK1 HK2
  go_enter Tryz.func77, Tryz.ntmps77
  go_wp2_with fail
  refine (H1.out _).mono ?_
  rintro e w1 ⟨rfl, rfl⟩
  go_wp2_with fail
  refine (H2.out _).mono ?_
  rintro e w2 ⟨rfl, rfl⟩
  go_wp2_with fail
  go_ret
  exact ⟨rfl, Below.refl _ _⟩
set_option maxHeartbeats 2000000 in
theorem al_nil (s t L M A D : ByteArray) (k : Int) (hk : (k != k) = false) (hn : ¬ 0 < A.size)
    (HK1 : ∀ w, Calls Tryz.prog 100 #[.string s] w fun e w' => e = .returned (.int .u8 k) ∧ w = w') (HK2 : ∀ w, Calls Tryz.prog 100 #[.string t] w fun e w' => e = .returned (.int .u8 k) ∧ w = w') (HN1 : ∀ w, Calls Tryz.prog 138 #[.string s] w fun e w' => e = .returned (.string A) ∧ Below w.heap.size w w') (HN2 : ∀ w, Calls Tryz.prog 138 #[.string t] w fun e w' => e = .returned (.string D) ∧ Below w.heap.size w w') (HB1 : ∀ w, Calls Tryz.prog 124 #[.string s] w fun e w' => e = .returned (.tuple #[.int .u8 0, .bool false]) ∧ w = w') (HP2 : ∀ w, Calls Tryz.prog 101 #[.string t] w fun e w' => e = .returned (.slice none 0 0) ∧ Below w.heap.size w w') (HP1 : ∀ w, Calls Tryz.prog 101 #[.string s] w fun e w' => e = .returned (.slice none 0 0) ∧ Below w.heap.size w w') (w : World) :
    Calls Tryz.prog 77 #[.string s, .string t, .string L, .string M] w fun e w' => e = .returned (.bool true) ∧ Below w.heap.size w w' := by
  have HK1' := Lib.hid HK1
  have HK2' := Lib.hid HK2
  have HN1' := Lib.hid HN1
  have HN2' := Lib.hid HN2
  have HB1' := Lib.hid HB1
  have HP2' := Lib.hid HP2
  have HP1' := Lib.hid HP1
  clear HK1 HK2 HN1 HN2 HB1 HP2 HP1
  go_enter Tryz.func77, Tryz.ntmps77
  go_wp2_with fail
  refine (HK1'.out _).mono ?_
  rintro e w1 ⟨rfl, rfl⟩
  go_wp2_with fail
  refine (HK2'.out _).mono ?_
  rintro e w2 ⟨rfl, rfl⟩
  go_wp2_with fail
  refine (HN1'.out _).mono ?_
  rintro e w3 ⟨rfl, b3⟩
  go_wp2_with fail
  refine (HN2'.out _).mono ?_
  rintro e w4 ⟨rfl, b4⟩
  have bl := bl_go b3 b4
  clear b3 b4
  go_wp2_with fail
  refine wp_loop_rounds 1 ?_
  rw [rounds_succ]
  go_wp2_with fail
  refine (HB1'.out _).mono ?_
  rintro e w5 ⟨rfl, rfl⟩
  go_wp2_with fail
  refine (HP2'.out _).mono ?_
  rintro e w7 ⟨rfl, b7⟩
  replace bl := bl_go bl b7
  go_wp2_with fail
  refine (HP1'.out _).mono ?_
  rintro e w8 ⟨rfl, b8⟩
  replace bl := bl_go bl b8
  go_wp2_with fail
  refine wp_loop_rounds 1 ?_
  rw [rounds_succ]
  go_wp2_with fail
  go_ret
  exact ⟨rfl, bl⟩
set_option maxHeartbeats 2000000 in
theorem al_twoF (s t L M A D : ByteArray) (k : Int) (hk : (k != k) = false) (h0 : 0 < A.size) (g0 : 0 < D.size) (h1 : 1 < A.size) (g1 : 1 < D.size) (hn : ¬ 2 < A.size)
    (HK1 : ∀ w, Calls Tryz.prog 100 #[.string s] w fun e w' => e = .returned (.int .u8 k) ∧ w = w') (HK2 : ∀ w, Calls Tryz.prog 100 #[.string t] w fun e w' => e = .returned (.int .u8 k) ∧ w = w') (HN1 : ∀ w, Calls Tryz.prog 138 #[.string s] w fun e w' => e = .returned (.string A) ∧ Below w.heap.size w w') (HN2 : ∀ w, Calls Tryz.prog 138 #[.string t] w fun e w' => e = .returned (.string D) ∧ Below w.heap.size w w') (HS0 : ∀ w, Calls Tryz.prog 139 #[.int .u8 ((A[0]'h0).toNat : Int), .int .u8 ((D[0]'g0).toNat : Int), .string L, .string M] w fun e w' => e = .returned (.bool false) ∧ w = w') (w : World) :
    Calls Tryz.prog 77 #[.string s, .string t, .string L, .string M] w fun e w' => e = .returned (.bool false) ∧ Below w.heap.size w w' := by
  have HK1' := Lib.hid HK1
  have HK2' := Lib.hid HK2
  have HN1' := Lib.hid HN1
  have HN2' := Lib.hid HN2
  have HS0' := Lib.hid HS0
  clear HK1 HK2 HN1 HN2 HS0
  have gi1 : (1 : Int) < (D.size : Int) := by omega
  go_enter Tryz.func77, Tryz.ntmps77
  go_wp2_with fail
  refine (HK1'.out _).mono ?_
  rintro e w1 ⟨rfl, rfl⟩
  go_wp2_with fail
  refine (HK2'.out _).mono ?_
  rintro e w2 ⟨rfl, rfl⟩
  go_wp2_with fail
  refine (HN1'.out _).mono ?_
  rintro e w3 ⟨rfl, b3⟩
  go_wp2_with fail
  refine (HN2'.out _).mono ?_
  rintro e w4 ⟨rfl, b4⟩
  have bl := bl_go b3 b4
  clear b3 b4
  go_wp2_with fail
  refine wp_loop_rounds 3 ?_
  rw [rounds_succ]
  go_wp2_with fail
  go_quiet ((go_at_call 139; exact Calls.quiet_of_same ((HS0'.out _).mono fun _ _ hh => ⟨hh.1, hh.2.symm⟩)))
  obtain ⟨W0, hW0⟩ : ∃ W, W = World.drewN w4 nq := ⟨_, rfl⟩
  rw [← hW0]
  replace bl : Below w.heap.size w W0 := by rw [hW0]; exact below_drewN' bl _
  clear hW0
  go_wp2_with fail
  go_ret
  exact ⟨rfl, bl⟩
set_option maxHeartbeats 2000000 in
theorem al_twoTF (s t L M A D : ByteArray) (k : Int) (hk : (k != k) = false) (h0 : 0 < A.size) (g0 : 0 < D.size) (h1 : 1 < A.size) (g1 : 1 < D.size) (hn : ¬ 2 < A.size)
    (HK1 : ∀ w, Calls Tryz.prog 100 #[.string s] w fun e w' => e = .returned (.int .u8 k) ∧ w = w') (HK2 : ∀ w, Calls Tryz.prog 100 #[.string t] w fun e w' => e = .returned (.int .u8 k) ∧ w = w') (HN1 : ∀ w, Calls Tryz.prog 138 #[.string s] w fun e w' => e = .returned (.string A) ∧ Below w.heap.size w w') (HN2 : ∀ w, Calls Tryz.prog 138 #[.string t] w fun e w' => e = .returned (.string D) ∧ Below w.heap.size w w') (HS0 : ∀ w, Calls Tryz.prog 139 #[.int .u8 ((A[0]'h0).toNat : Int), .int .u8 ((D[0]'g0).toNat : Int), .string L, .string M] w fun e w' => e = .returned (.bool true) ∧ w = w') (HS1 : ∀ w, Calls Tryz.prog 139 #[.int .u8 ((A[1]'h1).toNat : Int), .int .u8 ((D[1]'g1).toNat : Int), .string L, .string M] w fun e w' => e = .returned (.bool false) ∧ w = w') (w : World) :
    Calls Tryz.prog 77 #[.string s, .string t, .string L, .string M] w fun e w' => e = .returned (.bool false) ∧ Below w.heap.size w w' := by
  have HK1' := Lib.hid HK1
  have HK2' := Lib.hid HK2
  have HN1' := Lib.hid HN1
  have HN2' := Lib.hid HN2
  have HS0' := Lib.hid HS0
  have HS1' := Lib.hid HS1
  clear HK1 HK2 HN1 HN2 HS0 HS1
  have gi1 : (1 : Int) < (D.size : Int) := by omega
  go_enter Tryz.func77, Tryz.ntmps77
  go_wp2_with fail
  refine (HK1'.out _).mono ?_
  rintro e w1 ⟨rfl, rfl⟩
  go_wp2_with fail
  refine (HK2'.out _).mono ?_
  rintro e w2 ⟨rfl, rfl⟩
  go_wp2_with fail
  refine (HN1'.out _).mono ?_
  rintro e w3 ⟨rfl, b3⟩
  go_wp2_with fail
  refine (HN2'.out _).mono ?_
  rintro e w4 ⟨rfl, b4⟩
  have bl := bl_go b3 b4
  clear b3 b4
  go_wp2_with fail
  refine wp_loop_rounds 3 ?_
  rw [rounds_succ]
  go_wp2_with fail
  go_quiet ((go_at_call 139; exact Calls.quiet_of_same ((HS0'.out _).mono fun _ _ hh => ⟨hh.1, hh.2.symm⟩)))
  obtain ⟨W0, hW0⟩ : ∃ W, W = World.drewN w4 nq := ⟨_, rfl⟩
  rw [← hW0]
  replace bl : Below w.heap.size w W0 := by rw [hW0]; exact below_drewN' bl _
  clear hW0
  go_wp2_with fail
  rw [rounds_succ]
  go_wp2_with fail
  go_quiet ((go_at_call 139; exact Calls.quiet_of_same ((HS1'.out _).mono fun _ _ hh => ⟨hh.1, hh.2.symm⟩)))
  obtain ⟨W1, hW1⟩ : ∃ W, W = World.drewN W0 nq := ⟨_, rfl⟩
  rw [← hW1]
  replace bl : Below w.heap.size w W1 := by rw [hW1]; exact below_drewN' bl _
  clear hW1
  go_wp2_with fail
  go_ret
  exact ⟨rfl, bl⟩
set_option maxHeartbeats 2000000 in
theorem al_twoN (s t L M A D : ByteArray) (k : Int) (hk : (k != k) = false) (h0 : 0 < A.size) (g0 : 0 < D.size) (h1 : 1 < A.size) (g1 : 1 < D.size) (hn : ¬ 2 < A.size) (u v : ByteArray)
    (HK1 : ∀ w, Calls Tryz.prog 100 #[.string s] w fun e w' => e = .returned (.int .u8 k) ∧ w = w') (HK2 : ∀ w, Calls Tryz.prog 100 #[.string t] w fun e w' => e = .returned (.int .u8 k) ∧ w = w') (HN1 : ∀ w, Calls Tryz.prog 138 #[.string s] w fun e w' => e = .returned (.string A) ∧ Below w.heap.size w w') (HN2 : ∀ w, Calls Tryz.prog 138 #[.string t] w fun e w' => e = .returned (.string D) ∧ Below w.heap.size w w') (HS0 : ∀ w, Calls Tryz.prog 139 #[.int .u8 ((A[0]'h0).toNat : Int), .int .u8 ((D[0]'g0).toNat : Int), .string L, .string M] w fun e w' => e = .returned (.bool true) ∧ w = w') (HS1 : ∀ w, Calls Tryz.prog 139 #[.int .u8 ((A[1]'h1).toNat : Int), .int .u8 ((D[1]'g1).toNat : Int), .string L, .string M] w fun e w' => e = .returned (.bool true) ∧ w = w') (HB1 : ∀ w, Calls Tryz.prog 124 #[.string s] w fun e w' => e = .returned (.tuple #[.int .u8 0, .bool false]) ∧ w = w') (HP2 : ∀ w, Calls Tryz.prog 101 #[.string t] w fun e w' => ∃ b, e = .returned (.slice (some ⟨b, 0, none⟩) 1 1) ∧ w.heap.size ≤ b ∧ w'.heap[b]? = some (.cells #[.string v] 9 (0, 0)) ∧ Below w.heap.size w w') (HP1 : ∀ w, Calls Tryz.prog 101 #[.string s] w fun e w' => ∃ b, e = .returned (.slice (some ⟨b, 0, none⟩) 1 1) ∧ w.heap.size ≤ b ∧ w'.heap[b]? = some (.cells #[.string u] 9 (0, 0)) ∧ Below w.heap.size w w') (IH0 : ∀ w, Calls Tryz.prog 77 #[.string u, .string v, .string L, .string M] w fun e w' => e = .returned (.bool false) ∧ Below w.heap.size w w') (w : World) :
    Calls Tryz.prog 77 #[.string s, .string t, .string L, .string M] w fun e w' => e = .returned (.bool false) ∧ Below w.heap.size w w' := by
  have HK1' := Lib.hid HK1
  have HK2' := Lib.hid HK2
  have HN1' := Lib.hid HN1
  have HN2' := Lib.hid HN2
  have HS0' := Lib.hid HS0
  have HS1' := Lib.hid HS1
  have HB1' := Lib.hid HB1
  have HP2' := Lib.hid HP2
  have HP1' := Lib.hid HP1
  have IH0' := Lib.hid IH0
  clear HK1 HK2 HN1 HN2 HS0 HS1 HB1 HP2 HP1 IH0
  have gi1 : (1 : Int) < (D.size : Int) := by omega
  go_enter Tryz.func77, Tryz.ntmps77
  go_wp2_with fail
  refine (HK1'.out _).mono ?_
  rintro e w1 ⟨rfl, rfl⟩
  go_wp2_with fail
  refine (HK2'.out _).mono ?_
  rintro e w2 ⟨rfl, rfl⟩
  go_wp2_with fail
  refine (HN1'.out _).mono ?_
  rintro e w3 ⟨rfl, b3⟩
  go_wp2_with fail
  refine (HN2'.out _).mono ?_
  rintro e w4 ⟨rfl, b4⟩
  have bl := bl_go b3 b4
  clear b3 b4
  go_wp2_with fail
  refine wp_loop_rounds 3 ?_
  rw [rounds_succ]
  go_wp2_with fail
  go_quiet ((go_at_call 139; exact Calls.quiet_of_same ((HS0'.out _).mono fun _ _ hh => ⟨hh.1, hh.2.symm⟩)))
  obtain ⟨W0, hW0⟩ : ∃ W, W = World.drewN w4 nq := ⟨_, rfl⟩
  rw [← hW0]
  replace bl : Below w.heap.size w W0 := by rw [hW0]; exact below_drewN' bl _
  clear hW0
  go_wp2_with fail
  rw [rounds_succ]
  go_wp2_with fail
  go_quiet ((go_at_call 139; exact Calls.quiet_of_same ((HS1'.out _).mono fun _ _ hh => ⟨hh.1, hh.2.symm⟩)))
  obtain ⟨W1, hW1⟩ : ∃ W, W = World.drewN W0 nq := ⟨_, rfl⟩
  rw [← hW1]
  replace bl : Below w.heap.size w W1 := by rw [hW1]; exact below_drewN' bl _
  clear hW1
  go_wp2_with fail
  rw [rounds_succ]
  go_wp2_with fail
  refine (HB1'.out _).mono ?_
  rintro e w5 ⟨rfl, rfl⟩
  go_wp2_with fail
  refine (HP2'.out _).mono ?_
  rintro e w7 ⟨b2, rfl, hb2, hh2, b7⟩
  replace bl := bl_go bl b7
  have G2 := Lib.hid hh2
  clear hh2 b7 hb2
  go_wp2_with fail
  refine (HP1'.out _).mono ?_
  rintro e w8 ⟨b1, rfl, hb1, hh1, b8⟩
  replace bl := bl_go bl b8
  have g2 := (b8.block b2 (lt_of_block G2.out)).trans G2.out
  have d0 := cellOf1 g2
  have e0 := cellOf1 hh1
  have J2 := Lib.hid g2
  have J1 := Lib.hid hh1
  clear g2 hh1 b8 hb1 G2
  go_wp2_with fail
  refine wp_loop_rounds 2 ?_
  rw [rounds_succ]
  go_wp2_with fail
  refine (IH0'.out _).mono ?_
  rintro e w9 ⟨rfl, b9⟩
  replace bl := bl_go bl b9
  go_wp2_with fail
  go_ret
  exact ⟨rfl, bl⟩
set_option maxHeartbeats 2000000 in
theorem al_twoY (s t L M A D : ByteArray) (k : Int) (hk : (k != k) = false) (h0 : 0 < A.size) (g0 : 0 < D.size) (h1 : 1 < A.size) (g1 : 1 < D.size) (hn : ¬ 2 < A.size) (u v : ByteArray)
    (HK1 : ∀ w, Calls Tryz.prog 100 #[.string s] w fun e w' => e = .returned (.int .u8 k) ∧ w = w') (HK2 : ∀ w, Calls Tryz.prog 100 #[.string t] w fun e w' => e = .returned (.int .u8 k) ∧ w = w') (HN1 : ∀ w, Calls Tryz.prog 138 #[.string s] w fun e w' => e = .returned (.string A) ∧ Below w.heap.size w w') (HN2 : ∀ w, Calls Tryz.prog 138 #[.string t] w fun e w' => e = .returned (.string D) ∧ Below w.heap.size w w') (HS0 : ∀ w, Calls Tryz.prog 139 #[.int .u8 ((A[0]'h0).toNat : Int), .int .u8 ((D[0]'g0).toNat : Int), .string L, .string M] w fun e w' => e = .returned (.bool true) ∧ w = w') (HS1 : ∀ w, Calls Tryz.prog 139 #[.int .u8 ((A[1]'h1).toNat : Int), .int .u8 ((D[1]'g1).toNat : Int), .string L, .string M] w fun e w' => e = .returned (.bool true) ∧ w = w') (HB1 : ∀ w, Calls Tryz.prog 124 #[.string s] w fun e w' => e = .returned (.tuple #[.int .u8 0, .bool false]) ∧ w = w') (HP2 : ∀ w, Calls Tryz.prog 101 #[.string t] w fun e w' => ∃ b, e = .returned (.slice (some ⟨b, 0, none⟩) 1 1) ∧ w.heap.size ≤ b ∧ w'.heap[b]? = some (.cells #[.string v] 9 (0, 0)) ∧ Below w.heap.size w w') (HP1 : ∀ w, Calls Tryz.prog 101 #[.string s] w fun e w' => ∃ b, e = .returned (.slice (some ⟨b, 0, none⟩) 1 1) ∧ w.heap.size ≤ b ∧ w'.heap[b]? = some (.cells #[.string u] 9 (0, 0)) ∧ Below w.heap.size w w') (IH0 : ∀ w, Calls Tryz.prog 77 #[.string u, .string v, .string L, .string M] w fun e w' => e = .returned (.bool true) ∧ Below w.heap.size w w') (w : World) :
    Calls Tryz.prog 77 #[.string s, .string t, .string L, .string M] w fun e w' => e = .returned (.bool true) ∧ Below w.heap.size w w' := by
  have HK1' := Lib.hid HK1
  have HK2' := Lib.hid HK2
  have HN1' := Lib.hid HN1
  have HN2' := Lib.hid HN2
  have HS0' := Lib.hid HS0
  have HS1' := Lib.hid HS1
  have HB1' := Lib.hid HB1
  have HP2' := Lib.hid HP2
  have HP1' := Lib.hid HP1
  have IH0' := Lib.hid IH0
  clear HK1 HK2 HN1 HN2 HS0 HS1 HB1 HP2 HP1 IH0
  have gi1 : (1 : Int) < (D.size : Int) := by omega
  go_enter Tryz.func77, Tryz.ntmps77
  go_wp2_with fail
  refine (HK1'.out _).mono ?_
  rintro e w1 ⟨rfl, rfl⟩
  go_wp2_with fail
  refine (HK2'.out _).mono ?_
  rintro e w2 ⟨rfl, rfl⟩
  go_wp2_with fail
  refine (HN1'.out _).mono ?_
  rintro e w3 ⟨rfl, b3⟩
  go_wp2_with fail
  refine (HN2'.out _).mono ?_
  rintro e w4 ⟨rfl, b4⟩
  have bl := bl_go b3 b4
  clear b3 b4
  go_wp2_with fail
  refine wp_loop_rounds 3 ?_
  rw [rounds_succ]
  go_wp2_with fail
  go_quiet ((go_at_call 139; exact Calls.quiet_of_same ((HS0'.out _).mono fun _ _ hh => ⟨hh.1, hh.2.symm⟩)))
  obtain ⟨W0, hW0⟩ : ∃ W, W = World.drewN w4 nq := ⟨_, rfl⟩
  rw [← hW0]
  replace bl : Below w.heap.size w W0 := by rw [hW0]; exact below_drewN' bl _
  clear hW0
  go_wp2_with fail
  rw [rounds_succ]
  go_wp2_with fail
  go_quiet ((go_at_call 139; exact Calls.quiet_of_same ((HS1'.out _).mono fun _ _ hh => ⟨hh.1, hh.2.symm⟩)))
  obtain ⟨W1, hW1⟩ : ∃ W, W = World.drewN W0 nq := ⟨_, rfl⟩
  rw [← hW1]
  replace bl : Below w.heap.size w W1 := by rw [hW1]; exact below_drewN' bl _
  clear hW1
  go_wp2_with fail
  rw [rounds_succ]
  go_wp2_with fail
  refine (HB1'.out _).mono ?_
  rintro e w5 ⟨rfl, rfl⟩
  go_wp2_with fail
  refine (HP2'.out _).mono ?_
  rintro e w7 ⟨b2, rfl, hb2, hh2, b7⟩
  replace bl := bl_go bl b7
  have G2 := Lib.hid hh2
  clear hh2 b7 hb2
  go_wp2_with fail
  refine (HP1'.out _).mono ?_
  rintro e w8 ⟨b1, rfl, hb1, hh1, b8⟩
  replace bl := bl_go bl b8
  have g2 := (b8.block b2 (lt_of_block G2.out)).trans G2.out
  have d0 := cellOf1 g2
  have e0 := cellOf1 hh1
  have J2 := Lib.hid g2
  have J1 := Lib.hid hh1
  clear g2 hh1 b8 hb1 G2
  go_wp2_with fail
  refine wp_loop_rounds 2 ?_
  rw [rounds_succ]
  go_wp2_with fail
  refine (IH0'.out _).mono ?_
  rintro e w9 ⟨rfl, b9⟩
  replace bl := bl_go bl b9
  go_wp2_with fail
  rw [rounds_succ]
  go_wp2_with fail
  go_ret
  exact ⟨rfl, bl⟩
set_option maxHeartbeats 2000000 in
theorem al_rcvF (s t L M A D : ByteArray) (k : Int) (hk : (k != k) = false) (h0 : 0 < A.size) (g0 : 0 < D.size) (hn : ¬ 1 < A.size)
    (HK1 : ∀ w, Calls Tryz.prog 100 #[.string s] w fun e w' => e = .returned (.int .u8 k) ∧ w = w') (HK2 : ∀ w, Calls Tryz.prog 100 #[.string t] w fun e w' => e = .returned (.int .u8 k) ∧ w = w') (HN1 : ∀ w, Calls Tryz.prog 138 #[.string s] w fun e w' => e = .returned (.string A) ∧ Below w.heap.size w w') (HN2 : ∀ w, Calls Tryz.prog 138 #[.string t] w fun e w' => e = .returned (.string D) ∧ Below w.heap.size w w') (HS0 : ∀ w, Calls Tryz.prog 139 #[.int .u8 ((A[0]'h0).toNat : Int), .int .u8 ((D[0]'g0).toNat : Int), .string L, .string M] w fun e w' => e = .returned (.bool false) ∧ w = w') (w : World) :
    Calls Tryz.prog 77 #[.string s, .string t, .string L, .string M] w fun e w' => e = .returned (.bool false) ∧ Below w.heap.size w w' := by
  have HK1' := Lib.hid HK1
  have HK2' := Lib.hid HK2
  have HN1' := Lib.hid HN1
  have HN2' := Lib.hid HN2
  have HS0' := Lib.hid HS0
  clear HK1 HK2 HN1 HN2 HS0
  go_enter Tryz.func77, Tryz.ntmps77
  go_wp2_with fail
  refine (HK1'.out _).mono ?_
  rintro e w1 ⟨rfl, rfl⟩
  go_wp2_with fail
  refine (HK2'.out _).mono ?_
  rintro e w2 ⟨rfl, rfl⟩
  go_wp2_with fail
  refine (HN1'.out _).mono ?_
  rintro e w3 ⟨rfl, b3⟩
  go_wp2_with fail
  refine (HN2'.out _).mono ?_
  rintro e w4 ⟨rfl, b4⟩
  have bl := bl_go b3 b4
  clear b3 b4
  go_wp2_with fail
  refine wp_loop_rounds 2 ?_
  rw [rounds_succ]
  go_wp2_with fail
  go_quiet ((go_at_call 139; exact Calls.quiet_of_same ((HS0'.out _).mono fun _ _ hh => ⟨hh.1, hh.2.symm⟩)))
  obtain ⟨W0, hW0⟩ : ∃ W, W = World.drewN w4 nq := ⟨_, rfl⟩
  rw [← hW0]
  replace bl : Below w.heap.size w W0 := by rw [hW0]; exact below_drewN' bl _
  clear hW0
  go_wp2_with fail
  go_ret
  exact ⟨rfl, bl⟩
set_option maxHeartbeats 2000000 in
theorem al_rcvN (s t L M A D : ByteArray) (k : Int) (hk : (k != k) = false) (h0 : 0 < A.size) (g0 : 0 < D.size) (hn : ¬ 1 < A.size) (x y : UInt8) (L2 M2 : ByteArray) (hL2 : L2 = one x ++ L) (hM2 : M2 = one y ++ M) (hLs : L.size ≤ 100000) (hMs : M.size ≤ 100000) (u v : ByteArray)
    (HK1 : ∀ w, Calls Tryz.prog 100 #[.string s] w fun e w' => e = .returned (.int .u8 k) ∧ w = w') (HK2 : ∀ w, Calls Tryz.prog 100 #[.string t] w fun e w' => e = .returned (.int .u8 k) ∧ w = w') (HN1 : ∀ w, Calls Tryz.prog 138 #[.string s] w fun e w' => e = .returned (.string A) ∧ Below w.heap.size w w') (HN2 : ∀ w, Calls Tryz.prog 138 #[.string t] w fun e w' => e = .returned (.string D) ∧ Below w.heap.size w w') (HS0 : ∀ w, Calls Tryz.prog 139 #[.int .u8 ((A[0]'h0).toNat : Int), .int .u8 ((D[0]'g0).toNat : Int), .string L, .string M] w fun e w' => e = .returned (.bool true) ∧ w = w') (HB1 : ∀ w, Calls Tryz.prog 124 #[.string s] w fun e w' => e = .returned (.tuple #[.int .u8 (x.toNat : Int), .bool true]) ∧ w = w') (HB2 : ∀ w, Calls Tryz.prog 124 #[.string t] w fun e w' => e = .returned (.tuple #[.int .u8 (y.toNat : Int), .bool true]) ∧ w = w') (HP2 : ∀ w, Calls Tryz.prog 101 #[.string t] w fun e w' => ∃ b, e = .returned (.slice (some ⟨b, 0, none⟩) 1 1) ∧ w.heap.size ≤ b ∧ w'.heap[b]? = some (.cells #[.string v] 9 (0, 0)) ∧ Below w.heap.size w w') (HP1 : ∀ w, Calls Tryz.prog 101 #[.string s] w fun e w' => ∃ b, e = .returned (.slice (some ⟨b, 0, none⟩) 1 1) ∧ w.heap.size ≤ b ∧ w'.heap[b]? = some (.cells #[.string u] 9 (0, 0)) ∧ Below w.heap.size w w') (IH0 : ∀ w, Calls Tryz.prog 77 #[.string u, .string v, .string L2, .string M2] w fun e w' => e = .returned (.bool false) ∧ Below w.heap.size w w') (w : World) :
    Calls Tryz.prog 77 #[.string s, .string t, .string L, .string M] w fun e w' => e = .returned (.bool false) ∧ Below w.heap.size w w' := by
  have HK1' := Lib.hid HK1
  have HK2' := Lib.hid HK2
  have HN1' := Lib.hid HN1
  have HN2' := Lib.hid HN2
  have HS0' := Lib.hid HS0
  have HB1' := Lib.hid HB1
  have HB2' := Lib.hid HB2
  have HP2' := Lib.hid HP2
  have HP1' := Lib.hid HP1
  have IH0' := Lib.hid IH0
  clear HK1 HK2 HN1 HN2 HS0 HB1 HB2 HP2 HP1 IH0
  have hc1 := conv1 x
  have hc2 := conv1o y
  have HL2 := Lib.hid hL2
  have HM2 := Lib.hid hM2
  have o1 : (one x).size = 1 := rfl
  have o2 : (one y).size = 1 := rfl
  obtain ⟨X1, hX1⟩ : ∃ X, X = one x := ⟨_, rfl⟩
  obtain ⟨Y1, hY1⟩ : ∃ X, X = one y := ⟨_, rfl⟩
  rw [← hX1] at hc1 hL2 o1
  rw [← hY1] at hc2 hM2 o2
  subst hL2 hM2
  have os1 : X1.size ≤ 1 := by omega
  have os2 : Y1.size ≤ 1 := by omega
  clear hX1 hY1 HL2 HM2 o1 o2
  go_enter Tryz.func77, Tryz.ntmps77
  go_wp2_with fail
  refine (HK1'.out _).mono ?_
  rintro e w1 ⟨rfl, rfl⟩
  go_wp2_with fail
  refine (HK2'.out _).mono ?_
  rintro e w2 ⟨rfl, rfl⟩
  go_wp2_with fail
  refine (HN1'.out _).mono ?_
  rintro e w3 ⟨rfl, b3⟩
  go_wp2_with fail
  refine (HN2'.out _).mono ?_
  rintro e w4 ⟨rfl, b4⟩
  have bl := bl_go b3 b4
  clear b3 b4
  go_wp2_with fail
  refine wp_loop_rounds 2 ?_
  rw [rounds_succ]
  go_wp2_with fail
  go_quiet ((go_at_call 139; exact Calls.quiet_of_same ((HS0'.out _).mono fun _ _ hh => ⟨hh.1, hh.2.symm⟩)))
  obtain ⟨W0, hW0⟩ : ∃ W, W = World.drewN w4 nq := ⟨_, rfl⟩
  rw [← hW0]
  replace bl : Below w.heap.size w W0 := by rw [hW0]; exact below_drewN' bl _
  clear hW0
  go_wp2_with fail
  rw [rounds_succ]
  go_wp2_with fail
  refine (HB1'.out _).mono ?_
  rintro e w5 ⟨rfl, rfl⟩
  go_wp2_with fail
  refine (HB2'.out _).mono ?_
  rintro e w6 ⟨rfl, rfl⟩
  go_wp2_with fail
  refine (HP2'.out _).mono ?_
  rintro e w7 ⟨b2, rfl, hb2, hh2, b7⟩
  replace bl := bl_go (below_go2 (below_go2 bl)) b7
  have G2 := Lib.hid hh2
  clear hh2 b7 hb2
  go_wp2_with fail
  refine (HP1'.out _).mono ?_
  rintro e w8 ⟨b1, rfl, hb1, hh1, b8⟩
  replace bl := bl_go bl b8
  have g2 := (b8.block b2 (lt_of_block G2.out)).trans G2.out
  have d0 := cellOf1 g2
  have e0 := cellOf1 hh1
  have J2 := Lib.hid g2
  have J1 := Lib.hid hh1
  clear g2 hh1 b8 hb1 G2
  go_wp2_with fail
  refine wp_loop_rounds 2 ?_
  rw [rounds_succ]
  go_wp2_with fail
  refine (IH0'.out _).mono ?_
  rintro e w9 ⟨rfl, b9⟩
  replace bl := bl_go bl b9
  go_wp2_with fail
  go_ret
  exact ⟨rfl, bl⟩
set_option maxHeartbeats 2000000 in
theorem al_rcvY (s t L M A D : ByteArray) (k : Int) (hk : (k != k) = false) (h0 : 0 < A.size) (g0 : 0 < D.size) (hn : ¬ 1 < A.size) (x y : UInt8) (L2 M2 : ByteArray) (hL2 : L2 = one x ++ L) (hM2 : M2 = one y ++ M) (hLs : L.size ≤ 100000) (hMs : M.size ≤ 100000) (u v : ByteArray)
    (HK1 : ∀ w, Calls Tryz.prog 100 #[.string s] w fun e w' => e = .returned (.int .u8 k) ∧ w = w') (HK2 : ∀ w, Calls Tryz.prog 100 #[.string t] w fun e w' => e = .returned (.int .u8 k) ∧ w = w') (HN1 : ∀ w, Calls Tryz.prog 138 #[.string s] w fun e w' => e = .returned (.string A) ∧ Below w.heap.size w w') (HN2 : ∀ w, Calls Tryz.prog 138 #[.string t] w fun e w' => e = .returned (.string D) ∧ Below w.heap.size w w') (HS0 : ∀ w, Calls Tryz.prog 139 #[.int .u8 ((A[0]'h0).toNat : Int), .int .u8 ((D[0]'g0).toNat : Int), .string L, .string M] w fun e w' => e = .returned (.bool true) ∧ w = w') (HB1 : ∀ w, Calls Tryz.prog 124 #[.string s] w fun e w' => e = .returned (.tuple #[.int .u8 (x.toNat : Int), .bool true]) ∧ w = w') (HB2 : ∀ w, Calls Tryz.prog 124 #[.string t] w fun e w' => e = .returned (.tuple #[.int .u8 (y.toNat : Int), .bool true]) ∧ w = w') (HP2 : ∀ w, Calls Tryz.prog 101 #[.string t] w fun e w' => ∃ b, e = .returned (.slice (some ⟨b, 0, none⟩) 1 1) ∧ w.heap.size ≤ b ∧ w'.heap[b]? = some (.cells #[.string v] 9 (0, 0)) ∧ Below w.heap.size w w') (HP1 : ∀ w, Calls Tryz.prog 101 #[.string s] w fun e w' => ∃ b, e = .returned (.slice (some ⟨b, 0, none⟩) 1 1) ∧ w.heap.size ≤ b ∧ w'.heap[b]? = some (.cells #[.string u] 9 (0, 0)) ∧ Below w.heap.size w w') (IH0 : ∀ w, Calls Tryz.prog 77 #[.string u, .string v, .string L2, .string M2] w fun e w' => e = .returned (.bool true) ∧ Below w.heap.size w w') (w : World) :
    Calls Tryz.prog 77 #[.string s, .string t, .string L, .string M] w fun e w' => e = .returned (.bool true) ∧ Below w.heap.size w w' := by
  have HK1' := Lib.hid HK1
  have HK2' := Lib.hid HK2
  have HN1' := Lib.hid HN1
  have HN2' := Lib.hid HN2
  have HS0' := Lib.hid HS0
  have HB1' := Lib.hid HB1
  have HB2' := Lib.hid HB2
  have HP2' := Lib.hid HP2
  have HP1' := Lib.hid HP1
  have IH0' := Lib.hid IH0
  clear HK1 HK2 HN1 HN2 HS0 HB1 HB2 HP2 HP1 IH0
  have hc1 := conv1 x
  have hc2 := conv1o y
  have HL2 := Lib.hid hL2
  have HM2 := Lib.hid hM2
  have o1 : (one x).size = 1 := rfl
  have o2 : (one y).size = 1 := rfl
  obtain ⟨X1, hX1⟩ : ∃ X, X = one x := ⟨_, rfl⟩
  obtain ⟨Y1, hY1⟩ : ∃ X, X = one y := ⟨_, rfl⟩
  rw [← hX1] at hc1 hL2 o1
  rw [← hY1] at hc2 hM2 o2
  subst hL2 hM2
  have os1 : X1.size ≤ 1 := by omega
  have os2 : Y1.size ≤ 1 := by omega
  clear hX1 hY1 HL2 HM2 o1 o2
  go_enter Tryz.func77, Tryz.ntmps77
  go_wp2_with fail
  refine (HK1'.out _).mono ?_
  rintro e w1 ⟨rfl, rfl⟩
  go_wp2_with fail
  refine (HK2'.out _).mono ?_
  rintro e w2 ⟨rfl, rfl⟩
  go_wp2_with fail
  refine (HN1'.out _).mono ?_
  rintro e w3 ⟨rfl, b3⟩
  go_wp2_with fail
  refine (HN2'.out _).mono ?_
  rintro e w4 ⟨rfl, b4⟩
  have bl := bl_go b3 b4
  clear b3 b4
  go_wp2_with fail
  refine wp_loop_rounds 2 ?_
  rw [rounds_succ]
  go_wp2_with fail
  go_quiet ((go_at_call 139; exact Calls.quiet_of_same ((HS0'.out _).mono fun _ _ hh => ⟨hh.1, hh.2.symm⟩)))
  obtain ⟨W0, hW0⟩ : ∃ W, W = World.drewN w4 nq := ⟨_, rfl⟩
  rw [← hW0]
  replace bl : Below w.heap.size w W0 := by rw [hW0]; exact below_drewN' bl _
  clear hW0
  go_wp2_with fail
  rw [rounds_succ]
  go_wp2_with fail
  refine (HB1'.out _).mono ?_
  rintro e w5 ⟨rfl, rfl⟩
  go_wp2_with fail
  refine (HB2'.out _).mono ?_
  rintro e w6 ⟨rfl, rfl⟩
  go_wp2_with fail
  refine (HP2'.out _).mono ?_
  rintro e w7 ⟨b2, rfl, hb2, hh2, b7⟩
  replace bl := bl_go (below_go2 (below_go2 bl)) b7
  have G2 := Lib.hid hh2
  clear hh2 b7 hb2
  go_wp2_with fail
  refine (HP1'.out _).mono ?_
  rintro e w8 ⟨b1, rfl, hb1, hh1, b8⟩
  replace bl := bl_go bl b8
  have g2 := (b8.block b2 (lt_of_block G2.out)).trans G2.out
  have d0 := cellOf1 g2
  have e0 := cellOf1 hh1
  have J2 := Lib.hid g2
  have J1 := Lib.hid hh1
  clear g2 hh1 b8 hb1 G2
  go_wp2_with fail
  refine wp_loop_rounds 2 ?_
  rw [rounds_succ]
  go_wp2_with fail
  refine (IH0'.out _).mono ?_
  rintro e w9 ⟨rfl, b9⟩
  replace bl := bl_go bl b9
  go_wp2_with fail
  rw [rounds_succ]
  go_wp2_with fail
  go_ret
  exact ⟨rfl, bl⟩
set_option maxHeartbeats 2000000 in
theorem al_ownN (s t L M A D : ByteArray) (k : Int) (hk : (k != k) = false) (hn : ¬ 0 < A.size) (x y : UInt8) (L2 M2 : ByteArray) (hL2 : L2 = one x ++ L) (hM2 : M2 = one y ++ M) (hLs : L.size ≤ 100000) (hMs : M.size ≤ 100000) (u v : ByteArray)
    (HK1 : ∀ w, Calls Tryz.prog 100 #[.string s] w fun e w' => e = .returned (.int .u8 k) ∧ w = w') (HK2 : ∀ w, Calls Tryz.prog 100 #[.string t] w fun e w' => e = .returned (.int .u8 k) ∧ w = w') (HN1 : ∀ w, Calls Tryz.prog 138 #[.string s] w fun e w' => e = .returned (.string A) ∧ Below w.heap.size w w') (HN2 : ∀ w, Calls Tryz.prog 138 #[.string t] w fun e w' => e = .returned (.string D) ∧ Below w.heap.size w w') (HB1 : ∀ w, Calls Tryz.prog 124 #[.string s] w fun e w' => e = .returned (.tuple #[.int .u8 (x.toNat : Int), .bool true]) ∧ w = w') (HB2 : ∀ w, Calls Tryz.prog 124 #[.string t] w fun e w' => e = .returned (.tuple #[.int .u8 (y.toNat : Int), .bool true]) ∧ w = w') (HP2 : ∀ w, Calls Tryz.prog 101 #[.string t] w fun e w' => ∃ b, e = .returned (.slice (some ⟨b, 0, none⟩) 1 1) ∧ w.heap.size ≤ b ∧ w'.heap[b]? = some (.cells #[.string v] 9 (0, 0)) ∧ Below w.heap.size w w') (HP1 : ∀ w, Calls Tryz.prog 101 #[.string s] w fun e w' => ∃ b, e = .returned (.slice (some ⟨b, 0, none⟩) 1 1) ∧ w.heap.size ≤ b ∧ w'.heap[b]? = some (.cells #[.string u] 9 (0, 0)) ∧ Below w.heap.size w w') (IH0 : ∀ w, Calls Tryz.prog 77 #[.string u, .string v, .string L2, .string M2] w fun e w' => e = .returned (.bool false) ∧ Below w.heap.size w w') (w : World) :
    Calls Tryz.prog 77 #[.string s, .string t, .string L, .string M] w fun e w' => e = .returned (.bool false) ∧ Below w.heap.size w w' := by
  have HK1' := Lib.hid HK1
  have HK2' := Lib.hid HK2
  have HN1' := Lib.hid HN1
  have HN2' := Lib.hid HN2
  have HB1' := Lib.hid HB1
  have HB2' := Lib.hid HB2
  have HP2' := Lib.hid HP2
  have HP1' := Lib.hid HP1
  have IH0' := Lib.hid IH0
  clear HK1 HK2 HN1 HN2 HB1 HB2 HP2 HP1 IH0
  have hc1 := conv1 x
  have hc2 := conv1o y
  have HL2 := Lib.hid hL2
  have HM2 := Lib.hid hM2
  have o1 : (one x).size = 1 := rfl
  have o2 : (one y).size = 1 := rfl
  obtain ⟨X1, hX1⟩ : ∃ X, X = one x := ⟨_, rfl⟩
  obtain ⟨Y1, hY1⟩ : ∃ X, X = one y := ⟨_, rfl⟩
  rw [← hX1] at hc1 hL2 o1
  rw [← hY1] at hc2 hM2 o2
  subst hL2 hM2
  have os1 : X1.size ≤ 1 := by omega
  have os2 : Y1.size ≤ 1 := by omega
  clear hX1 hY1 HL2 HM2 o1 o2
  go_enter Tryz.func77, Tryz.ntmps77
  go_wp2_with fail
  refine (HK1'.out _).mono ?_
  rintro e w1 ⟨rfl, rfl⟩
  go_wp2_with fail
  refine (HK2'.out _).mono ?_
  rintro e w2 ⟨rfl, rfl⟩
  go_wp2_with fail
  refine (HN1'.out _).mono ?_
  rintro e w3 ⟨rfl, b3⟩
  go_wp2_with fail
  refine (HN2'.out _).mono ?_
  rintro e w4 ⟨rfl, b4⟩
  have bl := bl_go b3 b4
  clear b3 b4
  go_wp2_with fail
  refine wp_loop_rounds 1 ?_
  rw [rounds_succ]
  go_wp2_with fail
  refine (HB1'.out _).mono ?_
  rintro e w5 ⟨rfl, rfl⟩
  go_wp2_with fail
  refine (HB2'.out _).mono ?_
  rintro e w6 ⟨rfl, rfl⟩
  go_wp2_with fail
  refine (HP2'.out _).mono ?_
  rintro e w7 ⟨b2, rfl, hb2, hh2, b7⟩
  replace bl := bl_go (below_go2 (below_go2 bl)) b7
  have G2 := Lib.hid hh2
  clear hh2 b7 hb2
  go_wp2_with fail
  refine (HP1'.out _).mono ?_
  rintro e w8 ⟨b1, rfl, hb1, hh1, b8⟩
  replace bl := bl_go bl b8
  have g2 := (b8.block b2 (lt_of_block G2.out)).trans G2.out
  have d0 := cellOf1 g2
  have e0 := cellOf1 hh1
  have J2 := Lib.hid g2
  have J1 := Lib.hid hh1
  clear g2 hh1 b8 hb1 G2
  go_wp2_with fail
  refine wp_loop_rounds 2 ?_
  rw [rounds_succ]
  go_wp2_with fail
  refine (IH0'.out _).mono ?_
  rintro e w9 ⟨rfl, b9⟩
  replace bl := bl_go bl b9
  go_wp2_with fail
  go_ret
  exact ⟨rfl, bl⟩
set_option maxHeartbeats 2000000 in
theorem al_ownY (s t L M A D : ByteArray) (k : Int) (hk : (k != k) = false) (hn : ¬ 0 < A.size) (x y : UInt8) (L2 M2 : ByteArray) (hL2 : L2 = one x ++ L) (hM2 : M2 = one y ++ M) (hLs : L.size ≤ 100000) (hMs : M.size ≤ 100000) (u v : ByteArray)
    (HK1 : ∀ w, Calls Tryz.prog 100 #[.string s] w fun e w' => e = .returned (.int .u8 k) ∧ w = w') (HK2 : ∀ w, Calls Tryz.prog 100 #[.string t] w fun e w' => e = .returned (.int .u8 k) ∧ w = w') (HN1 : ∀ w, Calls Tryz.prog 138 #[.string s] w fun e w' => e = .returned (.string A) ∧ Below w.heap.size w w') (HN2 : ∀ w, Calls Tryz.prog 138 #[.string t] w fun e w' => e = .returned (.string D) ∧ Below w.heap.size w w') (HB1 : ∀ w, Calls Tryz.prog 124 #[.string s] w fun e w' => e = .returned (.tuple #[.int .u8 (x.toNat : Int), .bool true]) ∧ w = w') (HB2 : ∀ w, Calls Tryz.prog 124 #[.string t] w fun e w' => e = .returned (.tuple #[.int .u8 (y.toNat : Int), .bool true]) ∧ w = w') (HP2 : ∀ w, Calls Tryz.prog 101 #[.string t] w fun e w' => ∃ b, e = .returned (.slice (some ⟨b, 0, none⟩) 1 1) ∧ w.heap.size ≤ b ∧ w'.heap[b]? = some (.cells #[.string v] 9 (0, 0)) ∧ Below w.heap.size w w') (HP1 : ∀ w, Calls Tryz.prog 101 #[.string s] w fun e w' => ∃ b, e = .returned (.slice (some ⟨b, 0, none⟩) 1 1) ∧ w.heap.size ≤ b ∧ w'.heap[b]? = some (.cells #[.string u] 9 (0, 0)) ∧ Below w.heap.size w w') (IH0 : ∀ w, Calls Tryz.prog 77 #[.string u, .string v, .string L2, .string M2] w fun e w' => e = .returned (.bool true) ∧ Below w.heap.size w w') (w : World) :
    Calls Tryz.prog 77 #[.string s, .string t, .string L, .string M] w fun e w' => e = .returned (.bool true) ∧ Below w.heap.size w w' := by
  have HK1' := Lib.hid HK1
  have HK2' := Lib.hid HK2
  have HN1' := Lib.hid HN1
  have HN2' := Lib.hid HN2
  have HB1' := Lib.hid HB1
  have HB2' := Lib.hid HB2
  have HP2' := Lib.hid HP2
  have HP1' := Lib.hid HP1
  have IH0' := Lib.hid IH0
  clear HK1 HK2 HN1 HN2 HB1 HB2 HP2 HP1 IH0
  have hc1 := conv1 x
  have hc2 := conv1o y
  have HL2 := Lib.hid hL2
  have HM2 := Lib.hid hM2
  have o1 : (one x).size = 1 := rfl
  have o2 : (one y).size = 1 := rfl
  obtain ⟨X1, hX1⟩ : ∃ X, X = one x := ⟨_, rfl⟩
  obtain ⟨Y1, hY1⟩ : ∃ X, X = one y := ⟨_, rfl⟩
  rw [← hX1] at hc1 hL2 o1
  rw [← hY1] at hc2 hM2 o2
  subst hL2 hM2
  have os1 : X1.size ≤ 1 := by omega
  have os2 : Y1.size ≤ 1 := by omega
  clear hX1 hY1 HL2 HM2 o1 o2
  go_enter Tryz.func77, Tryz.ntmps77
  go_wp2_with fail
  refine (HK1'.out _).mono ?_
  rintro e w1 ⟨rfl, rfl⟩
  go_wp2_with fail
  refine (HK2'.out _).mono ?_
  rintro e w2 ⟨rfl, rfl⟩
  go_wp2_with fail
  refine (HN1'.out _).mono ?_
  rintro e w3 ⟨rfl, b3⟩
  go_wp2_with fail
  refine (HN2'.out _).mono ?_
  rintro e w4 ⟨rfl, b4⟩
  have bl := bl_go b3 b4
  clear b3 b4
  go_wp2_with fail
  refine wp_loop_rounds 1 ?_
  rw [rounds_succ]
  go_wp2_with fail
  refine (HB1'.out _).mono ?_
  rintro e w5 ⟨rfl, rfl⟩
  go_wp2_with fail
  refine (HB2'.out _).mono ?_
  rintro e w6 ⟨rfl, rfl⟩
  go_wp2_with fail
  refine (HP2'.out _).mono ?_
  rintro e w7 ⟨b2, rfl, hb2, hh2, b7⟩
  replace bl := bl_go (below_go2 (below_go2 bl)) b7
  have G2 := Lib.hid hh2
  clear hh2 b7 hb2
  go_wp2_with fail
  refine (HP1'.out _).mono ?_
  rintro e w8 ⟨b1, rfl, hb1, hh1, b8⟩
  replace bl := bl_go bl b8
  have g2 := (b8.block b2 (lt_of_block G2.out)).trans G2.out
  have d0 := cellOf1 g2
  have e0 := cellOf1 hh1
  have J2 := Lib.hid g2
  have J1 := Lib.hid hh1
  clear g2 hh1 b8 hb1 G2
  go_wp2_with fail
  refine wp_loop_rounds 2 ?_
  rw [rounds_succ]
  go_wp2_with fail
  refine (IH0'.out _).mono ?_
  rintro e w9 ⟨rfl, b9⟩
  replace bl := bl_go bl b9
  go_wp2_with fail
  rw [rounds_succ]
  go_wp2_with fail
  go_ret
  exact ⟨rfl, bl⟩
set_option maxHeartbeats 2000000 in
theorem al_tauN (s t L M A D : ByteArray) (k : Int) (hk : (k != k) = false) (hn : ¬ 0 < A.size) (u v : ByteArray)
    (HK1 : ∀ w, Calls Tryz.prog 100 #[.string s] w fun e w' => e = .returned (.int .u8 k) ∧ w = w') (HK2 : ∀ w, Calls Tryz.prog 100 #[.string t] w fun e w' => e = .returned (.int .u8 k) ∧ w = w') (HN1 : ∀ w, Calls Tryz.prog 138 #[.string s] w fun e w' => e = .returned (.string A) ∧ Below w.heap.size w w') (HN2 : ∀ w, Calls Tryz.prog 138 #[.string t] w fun e w' => e = .returned (.string D) ∧ Below w.heap.size w w') (HB1 : ∀ w, Calls Tryz.prog 124 #[.string s] w fun e w' => e = .returned (.tuple #[.int .u8 0, .bool false]) ∧ w = w') (HP2 : ∀ w, Calls Tryz.prog 101 #[.string t] w fun e w' => ∃ b, e = .returned (.slice (some ⟨b, 0, none⟩) 1 1) ∧ w.heap.size ≤ b ∧ w'.heap[b]? = some (.cells #[.string v] 9 (0, 0)) ∧ Below w.heap.size w w') (HP1 : ∀ w, Calls Tryz.prog 101 #[.string s] w fun e w' => ∃ b, e = .returned (.slice (some ⟨b, 0, none⟩) 1 1) ∧ w.heap.size ≤ b ∧ w'.heap[b]? = some (.cells #[.string u] 9 (0, 0)) ∧ Below w.heap.size w w') (IH0 : ∀ w, Calls Tryz.prog 77 #[.string u, .string v, .string L, .string M] w fun e w' => e = .returned (.bool false) ∧ Below w.heap.size w w') (w : World) :
    Calls Tryz.prog 77 #[.string s, .string t, .string L, .string M] w fun e w' => e = .returned (.bool false) ∧ Below w.heap.size w w' := by
  have HK1' := Lib.hid HK1
  have HK2' := Lib.hid HK2
  have HN1' := Lib.hid HN1
  have HN2' := Lib.hid HN2
  have HB1' := Lib.hid HB1
  have HP2' := Lib.hid HP2
  have HP1' := Lib.hid HP1
  have IH0' := Lib.hid IH0
  clear HK1 HK2 HN1 HN2 HB1 HP2 HP1 IH0
  go_enter Tryz.func77, Tryz.ntmps77
  go_wp2_with fail
  refine (HK1'.out _).mono ?_
  rintro e w1 ⟨rfl, rfl⟩
  go_wp2_with fail
  refine (HK2'.out _).mono ?_
  rintro e w2 ⟨rfl, rfl⟩
  go_wp2_with fail
  refine (HN1'.out _).mono ?_
  rintro e w3 ⟨rfl, b3⟩
  go_wp2_with fail
  refine (HN2'.out _).mono ?_
  rintro e w4 ⟨rfl, b4⟩
  have bl := bl_go b3 b4
  clear b3 b4
  go_wp2_with fail
  refine wp_loop_rounds 1 ?_
  rw [rounds_succ]
  go_wp2_with fail
  refine (HB1'.out _).mono ?_
  rintro e w5 ⟨rfl, rfl⟩
  go_wp2_with fail
  refine (HP2'.out _).mono ?_
  rintro e w7 ⟨b2, rfl, hb2, hh2, b7⟩
  replace bl := bl_go bl b7
  have G2 := Lib.hid hh2
  clear hh2 b7 hb2
  go_wp2_with fail
  refine (HP1'.out _).mono ?_
  rintro e w8 ⟨b1, rfl, hb1, hh1, b8⟩
  replace bl := bl_go bl b8
  have g2 := (b8.block b2 (lt_of_block G2.out)).trans G2.out
  have d0 := cellOf1 g2
  have e0 := cellOf1 hh1
  have J2 := Lib.hid g2
  have J1 := Lib.hid hh1
  clear g2 hh1 b8 hb1 G2
  go_wp2_with fail
  refine wp_loop_rounds 2 ?_
  rw [rounds_succ]
  go_wp2_with fail
  refine (IH0'.out _).mono ?_
  rintro e w9 ⟨rfl, b9⟩
  replace bl := bl_go bl b9
  go_wp2_with fail
  go_ret
  exact ⟨rfl, bl⟩
set_option maxHeartbeats 2000000 in
theorem al_tauY (s t L M A D : ByteArray) (k : Int) (hk : (k != k) = false) (hn : ¬ 0 < A.size) (u v : ByteArray)
    (HK1 : ∀ w, Calls Tryz.prog 100 #[.string s] w fun e w' => e = .returned (.int .u8 k) ∧ w = w') (HK2 : ∀ w, Calls Tryz.prog 100 #[.string t] w fun e w' => e = .returned (.int .u8 k) ∧ w = w') (HN1 : ∀ w, Calls Tryz.prog 138 #[.string s] w fun e w' => e = .returned (.string A) ∧ Below w.heap.size w w') (HN2 : ∀ w, Calls Tryz.prog 138 #[.string t] w fun e w' => e = .returned (.string D) ∧ Below w.heap.size w w') (HB1 : ∀ w, Calls Tryz.prog 124 #[.string s] w fun e w' => e = .returned (.tuple #[.int .u8 0, .bool false]) ∧ w = w') (HP2 : ∀ w, Calls Tryz.prog 101 #[.string t] w fun e w' => ∃ b, e = .returned (.slice (some ⟨b, 0, none⟩) 1 1) ∧ w.heap.size ≤ b ∧ w'.heap[b]? = some (.cells #[.string v] 9 (0, 0)) ∧ Below w.heap.size w w') (HP1 : ∀ w, Calls Tryz.prog 101 #[.string s] w fun e w' => ∃ b, e = .returned (.slice (some ⟨b, 0, none⟩) 1 1) ∧ w.heap.size ≤ b ∧ w'.heap[b]? = some (.cells #[.string u] 9 (0, 0)) ∧ Below w.heap.size w w') (IH0 : ∀ w, Calls Tryz.prog 77 #[.string u, .string v, .string L, .string M] w fun e w' => e = .returned (.bool true) ∧ Below w.heap.size w w') (w : World) :
    Calls Tryz.prog 77 #[.string s, .string t, .string L, .string M] w fun e w' => e = .returned (.bool true) ∧ Below w.heap.size w w' := by
  have HK1' := Lib.hid HK1
  have HK2' := Lib.hid HK2
  have HN1' := Lib.hid HN1
  have HN2' := Lib.hid HN2
  have HB1' := Lib.hid HB1
  have HP2' := Lib.hid HP2
  have HP1' := Lib.hid HP1
  have IH0' := Lib.hid IH0
  clear HK1 HK2 HN1 HN2 HB1 HP2 HP1 IH0
  go_enter Tryz.func77, Tryz.ntmps77
  go_wp2_with fail
  refine (HK1'.out _).mono ?_
  rintro e w1 ⟨rfl, rfl⟩
  go_wp2_with fail
  refine (HK2'.out _).mono ?_
  rintro e w2 ⟨rfl, rfl⟩
  go_wp2_with fail
  refine (HN1'.out _).mono ?_
  rintro e w3 ⟨rfl, b3⟩
  go_wp2_with fail
  refine (HN2'.out _).mono ?_
  rintro e w4 ⟨rfl, b4⟩
  have bl := bl_go b3 b4
  clear b3 b4
  go_wp2_with fail
  refine wp_loop_rounds 1 ?_
  rw [rounds_succ]
  go_wp2_with fail
  refine (HB1'.out _).mono ?_
  rintro e w5 ⟨rfl, rfl⟩
  go_wp2_with fail
  refine (HP2'.out _).mono ?_
  rintro e w7 ⟨b2, rfl, hb2, hh2, b7⟩
  replace bl := bl_go bl b7
  have G2 := Lib.hid hh2
  clear hh2 b7 hb2
  go_wp2_with fail
  refine (HP1'.out _).mono ?_
  rintro e w8 ⟨b1, rfl, hb1, hh1, b8⟩
  replace bl := bl_go bl b8
  have g2 := (b8.block b2 (lt_of_block G2.out)).trans G2.out
  have d0 := cellOf1 g2
  have e0 := cellOf1 hh1
  have J2 := Lib.hid g2
  have J1 := Lib.hid hh1
  clear g2 hh1 b8 hb1 G2
  go_wp2_with fail
  refine wp_loop_rounds 2 ?_
  rw [rounds_succ]
  go_wp2_with fail
  refine (IH0'.out _).mono ?_
  rintro e w9 ⟨rfl, b9⟩
  replace bl := bl_go bl b9
  go_wp2_with fail
  rw [rounds_succ]
  go_wp2_with fail
  go_ret
  exact ⟨rfl, bl⟩
set_option maxHeartbeats 2000000 in
theorem al_parN (s t L M A D : ByteArray) (k : Int) (hk : (k != k) = false) (hn : ¬ 0 < A.size) (u u2 v v2 : ByteArray)
    (HK1 : ∀ w, Calls Tryz.prog 100 #[.string s] w fun e w' => e = .returned (.int .u8 k) ∧ w = w') (HK2 : ∀ w, Calls Tryz.prog 100 #[.string t] w fun e w' => e = .returned (.int .u8 k) ∧ w = w') (HN1 : ∀ w, Calls Tryz.prog 138 #[.string s] w fun e w' => e = .returned (.string A) ∧ Below w.heap.size w w') (HN2 : ∀ w, Calls Tryz.prog 138 #[.string t] w fun e w' => e = .returned (.string D) ∧ Below w.heap.size w w') (HB1 : ∀ w, Calls Tryz.prog 124 #[.string s] w fun e w' => e = .returned (.tuple #[.int .u8 0, .bool false]) ∧ w = w') (HP2 : ∀ w, Calls Tryz.prog 101 #[.string t] w fun e w' => ∃ b, e = .returned (.slice (some ⟨b, 0, none⟩) 2 2) ∧ w.heap.size ≤ b ∧ w'.heap[b]? = some (.cells #[.string v, .string v2] 9 (0, 0)) ∧ Below w.heap.size w w') (HP1 : ∀ w, Calls Tryz.prog 101 #[.string s] w fun e w' => ∃ b, e = .returned (.slice (some ⟨b, 0, none⟩) 2 2) ∧ w.heap.size ≤ b ∧ w'.heap[b]? = some (.cells #[.string u, .string u2] 9 (0, 0)) ∧ Below w.heap.size w w') (IH0 : ∀ w, Calls Tryz.prog 77 #[.string u, .string v, .string L, .string M] w fun e w' => e = .returned (.bool false) ∧ Below w.heap.size w w') (w : World) :
    Calls Tryz.prog 77 #[.string s, .string t, .string L, .string M] w fun e w' => e = .returned (.bool false) ∧ Below w.heap.size w w' := by
  have HK1' := Lib.hid HK1
  have HK2' := Lib.hid HK2
  have HN1' := Lib.hid HN1
  have HN2' := Lib.hid HN2
  have HB1' := Lib.hid HB1
  have HP2' := Lib.hid HP2
  have HP1' := Lib.hid HP1
  have IH0' := Lib.hid IH0
  clear HK1 HK2 HN1 HN2 HB1 HP2 HP1 IH0
  go_enter Tryz.func77, Tryz.ntmps77
  go_wp2_with fail
  refine (HK1'.out _).mono ?_
  rintro e w1 ⟨rfl, rfl⟩
  go_wp2_with fail
  refine (HK2'.out _).mono ?_
  rintro e w2 ⟨rfl, rfl⟩
  go_wp2_with fail
  refine (HN1'.out _).mono ?_
  rintro e w3 ⟨rfl, b3⟩
  go_wp2_with fail
  refine (HN2'.out _).mono ?_
  rintro e w4 ⟨rfl, b4⟩
  have bl := bl_go b3 b4
  clear b3 b4
  go_wp2_with fail
  refine wp_loop_rounds 1 ?_
  rw [rounds_succ]
  go_wp2_with fail
  refine (HB1'.out _).mono ?_
  rintro e w5 ⟨rfl, rfl⟩
  go_wp2_with fail
  refine (HP2'.out _).mono ?_
  rintro e w7 ⟨b2, rfl, hb2, hh2, b7⟩
  replace bl := bl_go bl b7
  have G2 := Lib.hid hh2
  clear hh2 b7 hb2
  go_wp2_with fail
  refine (HP1'.out _).mono ?_
  rintro e w8 ⟨b1, rfl, hb1, hh1, b8⟩
  replace bl := bl_go bl b8
  have g2 := (b8.block b2 (lt_of_block G2.out)).trans G2.out
  have d0 := cellOf2a g2
  have e0 := cellOf2a hh1
  have J2 := Lib.hid g2
  have J1 := Lib.hid hh1
  clear g2 hh1 b8 hb1 G2
  go_wp2_with fail
  refine wp_loop_rounds 3 ?_
  rw [rounds_succ]
  go_wp2_with fail
  refine (IH0'.out _).mono ?_
  rintro e w9 ⟨rfl, b9⟩
  replace bl := bl_go bl b9
  go_wp2_with fail
  go_ret
  exact ⟨rfl, bl⟩
set_option maxHeartbeats 2000000 in
theorem al_parYN (s t L M A D : ByteArray) (k : Int) (hk : (k != k) = false) (hn : ¬ 0 < A.size) (u u2 v v2 : ByteArray)
    (HK1 : ∀ w, Calls Tryz.prog 100 #[.string s] w fun e w' => e = .returned (.int .u8 k) ∧ w = w') (HK2 : ∀ w, Calls Tryz.prog 100 #[.string t] w fun e w' => e = .returned (.int .u8 k) ∧ w = w') (HN1 : ∀ w, Calls Tryz.prog 138 #[.string s] w fun e w' => e = .returned (.string A) ∧ Below w.heap.size w w') (HN2 : ∀ w, Calls Tryz.prog 138 #[.string t] w fun e w' => e = .returned (.string D) ∧ Below w.heap.size w w') (HB1 : ∀ w, Calls Tryz.prog 124 #[.string s] w fun e w' => e = .returned (.tuple #[.int .u8 0, .bool false]) ∧ w = w') (HP2 : ∀ w, Calls Tryz.prog 101 #[.string t] w fun e w' => ∃ b, e = .returned (.slice (some ⟨b, 0, none⟩) 2 2) ∧ w.heap.size ≤ b ∧ w'.heap[b]? = some (.cells #[.string v, .string v2] 9 (0, 0)) ∧ Below w.heap.size w w') (HP1 : ∀ w, Calls Tryz.prog 101 #[.string s] w fun e w' => ∃ b, e = .returned (.slice (some ⟨b, 0, none⟩) 2 2) ∧ w.heap.size ≤ b ∧ w'.heap[b]? = some (.cells #[.string u, .string u2] 9 (0, 0)) ∧ Below w.heap.size w w') (IH0 : ∀ w, Calls Tryz.prog 77 #[.string u, .string v, .string L, .string M] w fun e w' => e = .returned (.bool true) ∧ Below w.heap.size w w') (IH1 : ∀ w, Calls Tryz.prog 77 #[.string u2, .string v2, .string L, .string M] w fun e w' => e = .returned (.bool false) ∧ Below w.heap.size w w') (w : World) :
    Calls Tryz.prog 77 #[.string s, .string t, .string L, .string M] w fun e w' => e = .returned (.bool false) ∧ Below w.heap.size w w' := by
  have HK1' := Lib.hid HK1
  have HK2' := Lib.hid HK2
  have HN1' := Lib.hid HN1
  have HN2' := Lib.hid HN2
  have HB1' := Lib.hid HB1
  have HP2' := Lib.hid HP2
  have HP1' := Lib.hid HP1
  have IH0' := Lib.hid IH0
  have IH1' := Lib.hid IH1
  clear HK1 HK2 HN1 HN2 HB1 HP2 HP1 IH0 IH1
  go_enter Tryz.func77, Tryz.ntmps77
  go_wp2_with fail
  refine (HK1'.out _).mono ?_
  rintro e w1 ⟨rfl, rfl⟩
  go_wp2_with fail
  refine (HK2'.out _).mono ?_
  rintro e w2 ⟨rfl, rfl⟩
  go_wp2_with fail
  refine (HN1'.out _).mono ?_
  rintro e w3 ⟨rfl, b3⟩
  go_wp2_with fail
  refine (HN2'.out _).mono ?_
  rintro e w4 ⟨rfl, b4⟩
  have bl := bl_go b3 b4
  clear b3 b4
  go_wp2_with fail
  refine wp_loop_rounds 1 ?_
  rw [rounds_succ]
  go_wp2_with fail
  refine (HB1'.out _).mono ?_
  rintro e w5 ⟨rfl, rfl⟩
  go_wp2_with fail
  refine (HP2'.out _).mono ?_
  rintro e w7 ⟨b2, rfl, hb2, hh2, b7⟩
  replace bl := bl_go bl b7
  have G2 := Lib.hid hh2
  clear hh2 b7 hb2
  go_wp2_with fail
  refine (HP1'.out _).mono ?_
  rintro e w8 ⟨b1, rfl, hb1, hh1, b8⟩
  replace bl := bl_go bl b8
  have g2 := (b8.block b2 (lt_of_block G2.out)).trans G2.out
  have d0 := cellOf2a g2
  have e0 := cellOf2a hh1
  have J2 := Lib.hid g2
  have J1 := Lib.hid hh1
  clear g2 hh1 b8 hb1 G2
  go_wp2_with fail
  refine wp_loop_rounds 3 ?_
  rw [rounds_succ]
  go_wp2_with fail
  refine (IH0'.out _).mono ?_
  rintro e w9 ⟨rfl, b9⟩
  replace bl := bl_go bl b9
  have g1 := (b9.block b1 (lt_of_block J1.out)).trans J1.out
  have g2 := (b9.block b2 (lt_of_block J2.out)).trans J2.out
  clear d0 e0
  have d1 := cellOf2b g2
  have e1 := cellOf2b g1
  clear g1 g2 b9
  go_wp2_with fail
  rw [rounds_succ]
  go_wp2_with fail
  refine (IH1'.out _).mono ?_
  rintro e w10 ⟨rfl, b10⟩
  replace bl := bl_go bl b10
  go_wp2_with fail
  go_ret
  exact ⟨rfl, bl⟩
set_option maxHeartbeats 2000000 in
theorem al_parYY (s t L M A D : ByteArray) (k : Int) (hk : (k != k) = false) (hn : ¬ 0 < A.size) (u u2 v v2 : ByteArray)
    (HK1 : ∀ w, Calls Tryz.prog 100 #[.string s] w fun e w' => e = .returned (.int .u8 k) ∧ w = w') (HK2 : ∀ w, Calls Tryz.prog 100 #[.string t] w fun e w' => e = .returned (.int .u8 k) ∧ w = w') (HN1 : ∀ w, Calls Tryz.prog 138 #[.string s] w fun e w' => e = .returned (.string A) ∧ Below w.heap.size w w') (HN2 : ∀ w, Calls Tryz.prog 138 #[.string t] w fun e w' => e = .returned (.string D) ∧ Below w.heap.size w w') (HB1 : ∀ w, Calls Tryz.prog 124 #[.string s] w fun e w' => e = .returned (.tuple #[.int .u8 0, .bool false]) ∧ w = w') (HP2 : ∀ w, Calls Tryz.prog 101 #[.string t] w fun e w' => ∃ b, e = .returned (.slice (some ⟨b, 0, none⟩) 2 2) ∧ w.heap.size ≤ b ∧ w'.heap[b]? = some (.cells #[.string v, .string v2] 9 (0, 0)) ∧ Below w.heap.size w w') (HP1 : ∀ w, Calls Tryz.prog 101 #[.string s] w fun e w' => ∃ b, e = .returned (.slice (some ⟨b, 0, none⟩) 2 2) ∧ w.heap.size ≤ b ∧ w'.heap[b]? = some (.cells #[.string u, .string u2] 9 (0, 0)) ∧ Below w.heap.size w w') (IH0 : ∀ w, Calls Tryz.prog 77 #[.string u, .string v, .string L, .string M] w fun e w' => e = .returned (.bool true) ∧ Below w.heap.size w w') (IH1 : ∀ w, Calls Tryz.prog 77 #[.string u2, .string v2, .string L, .string M] w fun e w' => e = .returned (.bool true) ∧ Below w.heap.size w w') (w : World) :
    Calls Tryz.prog 77 #[.string s, .string t, .string L, .string M] w fun e w' => e = .returned (.bool true) ∧ Below w.heap.size w w' := by
  have HK1' := Lib.hid HK1
  have HK2' := Lib.hid HK2
  have HN1' := Lib.hid HN1
  have HN2' := Lib.hid HN2
  have HB1' := Lib.hid HB1
  have HP2' := Lib.hid HP2
  have HP1' := Lib.hid HP1
  have IH0' := Lib.hid IH0
  have IH1' := Lib.hid IH1
  clear HK1 HK2 HN1 HN2 HB1 HP2 HP1 IH0 IH1
  go_enter Tryz.func77, Tryz.ntmps77
  go_wp2_with fail
  refine (HK1'.out _).mono ?_
  rintro e w1 ⟨rfl, rfl⟩
  go_wp2_with fail
  refine (HK2'.out _).mono ?_
  rintro e w2 ⟨rfl, rfl⟩
  go_wp2_with fail
  refine (HN1'.out _).mono ?_
  rintro e w3 ⟨rfl, b3⟩
  go_wp2_with fail
  refine (HN2'.out _).mono ?_
  rintro e w4 ⟨rfl, b4⟩
  have bl := bl_go b3 b4
  clear b3 b4
  go_wp2_with fail
  refine wp_loop_rounds 1 ?_
  rw [rounds_succ]
  go_wp2_with fail
  refine (HB1'.out _).mono ?_
  rintro e w5 ⟨rfl, rfl⟩
  go_wp2_with fail
  refine (HP2'.out _).mono ?_
  rintro e w7 ⟨b2, rfl, hb2, hh2, b7⟩
  replace bl := bl_go bl b7
  have G2 := Lib.hid hh2
  clear hh2 b7 hb2
  go_wp2_with fail
  refine (HP1'.out _).mono ?_
  rintro e w8 ⟨b1, rfl, hb1, hh1, b8⟩
  replace bl := bl_go bl b8
  have g2 := (b8.block b2 (lt_of_block G2.out)).trans G2.out
  have d0 := cellOf2a g2
  have e0 := cellOf2a hh1
  have J2 := Lib.hid g2
  have J1 := Lib.hid hh1
  clear g2 hh1 b8 hb1 G2
  go_wp2_with fail
  refine wp_loop_rounds 3 ?_
  rw [rounds_succ]
  go_wp2_with fail
  refine (IH0'.out _).mono ?_
  rintro e w9 ⟨rfl, b9⟩
  replace bl := bl_go bl b9
  have g1 := (b9.block b1 (lt_of_block J1.out)).trans J1.out
  have g2 := (b9.block b2 (lt_of_block J2.out)).trans J2.out
  clear d0 e0
  have d1 := cellOf2b g2
  have e1 := cellOf2b g1
  clear g1 g2 b9
  go_wp2_with fail
  rw [rounds_succ]
  go_wp2_with fail
  refine (IH1'.out _).mono ?_
  rintro e w10 ⟨rfl, b10⟩
  replace bl := bl_go bl b10
  go_wp2_with fail
  rw [rounds_succ]
  go_wp2_with fail
  go_ret
  exact ⟨rfl, bl⟩

end Go.Proofs.YtmfmagfgcdaeeaaGreat.T1

/- Matches at the front, dead parts, names that are used: in the specification. -/
namespace Go.Proofs.YtmfmagfgcdaeeaaGreat.T1
open Go.RowKit
set_option maxRecDepth 100000
set_option linter.unusedVariables false
set_option linter.unusedSimpArgs false

end Go.Proofs.YtmfmagfgcdaeeaaGreat.T1

/- Names that are used, where dead parts are left out: in the specification. -/
namespace Go.Proofs.YtmfmagfgcdaeeaaGreat.T1
open Go.RowKit
set_option maxRecDepth 100000
set_option linter.unusedVariables false
set_option linter.unusedSimpArgs false

end Go.Proofs.YtmfmagfgcdaeeaaGreat.T1
