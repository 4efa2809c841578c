/- Texts of the proof, put together: SpecA. No conditions. -/
import Derived.Test.YtmfmagfgcdaeeaaGreatHaa
import Derived.Test.YtmfmagfgcdaeeaaGreatProg
import Derived.WalkKit
import Derived.WalkLawsBesides
import Derived.WalkSpells
import Derived.LoopTactic
import Derived.Lib.Hide
import Derived.BigQuiet
import Derived.Deep.QuietTactic
import Derived.Outline
import Derived.Deep.Light

/- The specification's readers of a text: names, small letters, the end of the process that begins at a place. -/
namespace Go.Proofs.YtmfmagfgcdaeeaaGreat.T1
open Go.RowKit
set_option maxRecDepth 100000

theorem ret_int {k : IntKind} {a b : Int} (h : a = b) : Ending.returned (.int k a) = .returned (.int k b) := by rw [h]
theorem ret_bool {a b : Bool} (h : a = b) : Ending.returned (.bool a) = .returned (.bool b) := by rw [h]

set_option maxHeartbeats 400000 in
theorem tmName_any (c : UInt8) (w : World) : Calls Tryz.prog 155 #[.int .u8 (c.toNat : Int)] w fun e w' => e = .returned (.bool (nmE c)) ∧ w = w' := by
  go_enter Tryz.func155, Tryz.ntmps155
  go_wp2
  all_goals (go_ret; refine ⟨ret_bool ?_, rfl⟩; rw [Bool.eq_iff_iff]; simp [nmE]; omega)

/-- Is a byte neither a great letter nor beyond the letters? -/
def smB (c : UInt8) : Bool := !((decide (65 ≤ c.toNat) && decide (c.toNat ≤ 90)) || decide (128 ≤ c.toNat))

def allSm (s : ByteArray) : Bool := s.data.toList.all smB

theorem take_snoc (s : ByteArray) (k : Nat) (h : k < s.size) : s.data.toList.take (k + 1) = s.data.toList.take k ++ [s[k]] := by
  rw [List.take_succ_eq_append_getElem (by simpa using h)]; rfl
theorem all_snoc (s : ByteArray) (k : Nat) (h : k < s.size) (h0 : (s.data.toList.take k).all smB = true) (h1 : smB s[k] = true) : (s.data.toList.take (k + 1)).all smB = true := by
  rw [take_snoc s k h, List.all_append, h0]; simp [h1]
theorem all_not (s : ByteArray) (k : Nat) (h : k < s.size) (h1 : smB s[k] = false) : allSm s = false := by
  unfold allSm
  rw [List.all_eq_false]
  exact ⟨s[k], by show s.data[k] ∈ _; simp, by simp [h1]⟩

set_option maxHeartbeats 400000 in
theorem tmSmall_any (s : ByteArray) (w : World) (hs : s.size ≤ 300) :
    Calls Tryz.prog 121 #[.string s] w fun e w' => e = .returned (.bool (allSm s)) ∧ w = w' := by
  go_enter Tryz.func121, Tryz.ntmps121
  go_wp2
  go_loop [3] (fun i => ∃ k : Nat, k ≤ s.size ∧ i = .int .i64 k ∧ Hid ((s.data.toList.take k).all smB = true)) (fun i => s.size - (intOf i).toNat)
  case atStart => exact ⟨0, Nat.zero_le _, rfl, by simp [Hid]⟩
  case round =>
    obtain ⟨k, hk, rfl, H⟩ := hrel
    by_cases hlt : k < s.size
    · go_wp2
      all_goals first
        | (go_ret; refine ⟨ret_bool ?_, rfl⟩; rw [all_not s k hlt]; simp [smB]; omega)
        | (go_round
           case rel => exact ⟨k + 1, by omega, by go_num, all_snoc s k hlt H.out (by simp [smB]; omega)⟩
           case measure => simp [intOf]; omega)
    · go_wp2
      go_ret
      refine ⟨ret_bool ?_, rfl⟩
      have := H.out
      rw [List.take_of_length_le (by simp; omega)] at this
      exact this.symm

set_option maxHeartbeats 2000000 in
theorem tmEnd_step (s : ByteArray) (hs : s.size ≤ 700) (a : Nat) (w : World) (ha : a ≤ 710)
    (ih : ∀ (a' : Nat) (w : World), a < a' → a' ≤ 710 → Calls Tryz.prog 122 #[.string s, .int .i64 (a' : Int)] w fun e w' => e = .returned (.int .i64 (endOf nmE s a')) ∧ w = w') :
    Calls Tryz.prog 122 #[.string s, .int .i64 (a : Int)] w fun e w' => e = .returned (.int .i64 (endOf nmE s a)) ∧ w = w' := by
  by_cases hlt : a < s.size
  · -- each first byte
    by_cases h48 : s[a] = 48
    · have c0 : (s[a].toNat : Int) = 48 := by rw [h48]; rfl
      have b48 : ((s[a].toNat : Int) == 48) = true := by rw [c0]; rfl
      clear c0
      have H : Hid (s[a] = 48) := h48
      clear h48
      go_enter Tryz.func122, Tryz.ntmps122
      go_wp2_with fail
      go_ret
      exact ⟨ret_int (endOf_zero nmE_nm hlt H.out).symm, rfl⟩
    by_cases h42 : s[a] = 42
    · have c0 : (s[a].toNat : Int) = 42 := by rw [h42]; rfl
      have b48 : ((s[a].toNat : Int) == 48) = false := by rw [c0]; rfl
      have b42 : ((s[a].toNat : Int) == 42) = true := by rw [c0]; rfl
      clear c0
      have H : Hid (s[a] = 42) := h42
      clear h42
      go_enter Tryz.func122, Tryz.ntmps122
      go_wp2_with ((go_at_call 122; refine (ih (a + 1) _ (by omega) (by omega)).mono ?_; rintro e w' ⟨rfl, rfl⟩))
      go_ret
      exact ⟨ret_int (endOf_rep nmE_nm hlt H.out), rfl⟩
    by_cases h126 : s[a] = 126
    · have c0 : (s[a].toNat : Int) = 126 := by rw [h126]; rfl
      have b48 : ((s[a].toNat : Int) == 48) = false := by rw [c0]; rfl
      have b42 : ((s[a].toNat : Int) == 42) = false := by rw [c0]; rfl
      have b126 : ((s[a].toNat : Int) == 126) = true := by rw [c0]; rfl
      clear c0
      have H : Hid (s[a] = 126) := h126
      clear h126
      go_enter Tryz.func122, Tryz.ntmps122
      go_wp2_with ((go_at_call 122; refine (ih (a + 2) _ (by omega) (by omega)).mono ?_; rintro e w' ⟨rfl, rfl⟩))

      all_goals (go_ret; refine ⟨ret_int ?_, rfl⟩; try simp only [beq_iff_eq, beq_eq_false_iff_ne, ne_eq] at *)
      all_goals first
        | exact endOf_tau nmE_nm (by omega) H.out (by rw [← UInt8.toNat_inj]; simp; omega)
        | exact (endOf_tau_no nmE_nm hlt H.out (fun h1 h2 => by rw [← UInt8.toNat_inj] at h2; simp at h2; omega)).symm
    by_cases h35 : s[a] = 35
    · have c0 : (s[a].toNat : Int) = 35 := by rw [h35]; rfl
      have b48 : ((s[a].toNat : Int) == 48) = false := by rw [c0]; rfl
      have b42 : ((s[a].toNat : Int) == 42) = false := by rw [c0]; rfl
      have b126 : ((s[a].toNat : Int) == 126) = false := by rw [c0]; rfl
      have b35 : ((s[a].toNat : Int) == 35) = true := by rw [c0]; rfl
      clear c0
      have H : Hid (s[a] = 35) := h35
      clear h35
      go_enter Tryz.func122, Tryz.ntmps122
      go_wp2_with (first | (go_at_call 155; refine (tmName_any _ _).mono ?_; rintro e w' ⟨rfl, rfl⟩) | (go_at_call 122; refine (ih (a + 3) _ (by omega) (by omega)).mono ?_; rintro e w' ⟨rfl, rfl⟩))

      all_goals (go_ret; refine ⟨ret_int ?_, rfl⟩; try simp only [beq_iff_eq, beq_eq_false_iff_ne, ne_eq] at *)
      all_goals first
        | exact endOf_own nmE_nm (by omega) H.out (by assumption) (by rw [← UInt8.toNat_inj]; simp; omega)
        | exact (endOf_own_no nmE_nm hlt H.out (fun h1 h2 h3 => by rw [← UInt8.toNat_inj] at h3; simp at h3; omega)).symm
        | exact (endOf_own_no nmE_nm hlt H.out (fun h1 h2 h3 => by simp_all)).symm
    by_cases h91 : s[a] = 91
    · have c0 : (s[a].toNat : Int) = 91 := by rw [h91]; rfl
      have b48 : ((s[a].toNat : Int) == 48) = false := by rw [c0]; rfl
      have b42 : ((s[a].toNat : Int) == 42) = false := by rw [c0]; rfl
      have b126 : ((s[a].toNat : Int) == 126) = false := by rw [c0]; rfl
      have b35 : ((s[a].toNat : Int) == 35) = false := by rw [c0]; rfl
      have b91 : ((s[a].toNat : Int) == 91) = true := by rw [c0]; rfl
      clear c0
      have H : Hid (s[a] = 91) := h91
      clear h91
      go_enter Tryz.func122, Tryz.ntmps122
      go_wp2_with (first | (go_at_call 155; refine (tmName_any _ _).mono ?_; rintro e w' ⟨rfl, rfl⟩) | (go_at_call 122; refine (ih (a + 5) _ (by omega) (by omega)).mono ?_; rintro e w' ⟨rfl, rfl⟩))

      all_goals (go_ret; refine ⟨ret_int ?_, rfl⟩; try simp only [beq_iff_eq, beq_eq_false_iff_ne, ne_eq] at *)
      all_goals first
        | exact endOf_mat nmE_nm (by omega) H.out (by assumption) (by rw [← UInt8.toNat_inj]; simp; omega) (by assumption) (by rw [← UInt8.toNat_inj]; simp; omega)
        | exact (endOf_mat_no nmE_nm hlt H.out (fun h1 h2 h3 h4 h5 => by rw [← UInt8.toNat_inj] at h3 h5; simp at h3 h5; omega)).symm
        | exact (endOf_mat_no nmE_nm hlt H.out (fun h1 h2 h3 h4 h5 => by simp_all)).symm
    by_cases h40 : s[a] = 40
    · have c0 : (s[a].toNat : Int) = 40 := by rw [h40]; rfl
      have b48 : ((s[a].toNat : Int) == 48) = false := by rw [c0]; rfl
      have b42 : ((s[a].toNat : Int) == 42) = false := by rw [c0]; rfl
      have b126 : ((s[a].toNat : Int) == 126) = false := by rw [c0]; rfl
      have b35 : ((s[a].toNat : Int) == 35) = false := by rw [c0]; rfl
      have b91 : ((s[a].toNat : Int) == 91) = false := by rw [c0]; rfl
      have b40 : ((s[a].toNat : Int) == 40) = true := by rw [c0]; rfl
      clear c0
      have H : Hid (s[a] = 40) := h40
      clear h40
      rcases endOf_cases nmE nmE_nm s (a + 1) with ⟨e1, E1⟩ | ⟨t, m, hm1, hm2, e1, E1⟩
      · have I1 : Hid (Calls Tryz.prog 122 #[.string s, .int .i64 ((a : Int) + 1)] w fun e w' => e = .returned (.int .i64 (-1)) ∧ w = w') := by
          have := ih (a + 1) w (by omega) (by omega)
          rw [e1] at this
          exact this
        have HE := Lib.hid E1
        clear e1 E1 ih
        go_enter Tryz.func122, Tryz.ntmps122
        go_wp2_with fail
        refine (I1.out).mono ?_
        rintro e w' ⟨rfl, rfl⟩
        go_wp2_with fail
        go_ret
        exact ⟨ret_int (endOf_pair_no1 nmE_nm hlt H.out HE.out).symm, rfl⟩
      · have I1 : Hid (Calls Tryz.prog 122 #[.string s, .int .i64 ((a : Int) + 1)] w fun e w' => e = .returned (.int .i64 (m : Int)) ∧ w = w') := by
          have := ih (a + 1) w (by omega) (by omega)
          rw [e1] at this
          exact this
        have HE := Lib.hid E1
        clear e1 E1
        by_cases hms : m < s.size
        · by_cases h3 : s[m] = 43 ∨ s[m] = 38
          · have T : (((s[m].toNat : Int) != 43) = false) ∨ (((s[m].toNat : Int) != 43) = true ∧ ((s[m].toNat : Int) != 38) = false) := by
              rcases h3 with h | h <;> rw [h] <;> simp
            have H3 := Lib.hid h3
            clear h3
            rcases endOf_cases nmE nmE_nm s (m + 1) with ⟨e2, E2⟩ | ⟨q, n, hn1, hn2, e2, E2⟩
            · have I2 : Hid (Calls Tryz.prog 122 #[.string s, .int .i64 ((m : Int) + 1)] w fun e w' => e = .returned (.int .i64 (-1)) ∧ w = w') := by
                have := ih (m + 1) w (by omega) (by omega)
                rw [e2] at this
                exact this
              have HE2 := Lib.hid E2
              clear e2 E2 ih
              rcases T with T | ⟨T, T2⟩
              all_goals
                go_enter Tryz.func122, Tryz.ntmps122
                go_wp2_with fail
                refine (I1.out).mono ?_
                rintro e w' ⟨rfl, rfl⟩
                go_wp2_with fail
                refine (I2.out).mono ?_
                rintro e w' ⟨rfl, rfl⟩
                go_wp2_with fail
                go_ret
                exact ⟨ret_int (endOf_pair_no3 nmE_nm hlt hms H.out HE.out HE2.out).symm, rfl⟩
            · have I2 : Hid (Calls Tryz.prog 122 #[.string s, .int .i64 ((m : Int) + 1)] w fun e w' => e = .returned (.int .i64 (n : Int)) ∧ w = w') := by
                have := ih (m + 1) w (by omega) (by omega)
                rw [e2] at this
                exact this
              have HE2 := Lib.hid E2
              clear e2 E2 ih
              by_cases hns : n < s.size
              · by_cases h4 : s[n] = 41
                · have b4 : ((s[n].toNat : Int) == 41) = true := by rw [h4]; rfl
                  have H4 := Lib.hid h4
                  clear h4
                  rcases T with T | ⟨T, T2⟩
                  all_goals
                    go_enter Tryz.func122, Tryz.ntmps122
                    go_wp2_with fail
                    refine (I1.out).mono ?_
                    rintro e w' ⟨rfl, rfl⟩
                    go_wp2_with fail
                    refine (I2.out).mono ?_
                    rintro e w' ⟨rfl, rfl⟩
                    go_wp2_with fail
                    go_ret
                    exact ⟨ret_int (endOf_pair nmE_nm hlt hms hns H.out HE.out HE2.out H3.out H4.out).symm, rfl⟩
                · have b4 : ((s[n].toNat : Int) == 41) = false := by rw [beq_eq_false_iff_ne]; intro h; exact h4 (by rw [← UInt8.toNat_inj]; simp; omega)
                  have H4 := Lib.hid h4
                  clear h4
                  rcases T with T | ⟨T, T2⟩
                  all_goals
                    go_enter Tryz.func122, Tryz.ntmps122
                    go_wp2_with fail
                    refine (I1.out).mono ?_
                    rintro e w' ⟨rfl, rfl⟩
                    go_wp2_with fail
                    refine (I2.out).mono ?_
                    rintro e w' ⟨rfl, rfl⟩
                    go_wp2_with fail
                    go_ret
                    exact ⟨ret_int (endOf_pair_no4 nmE_nm hlt hms H.out HE.out HE2.out (fun _ => H4.out)).symm, rfl⟩
              · rcases T with T | ⟨T, T2⟩
                all_goals
                  go_enter Tryz.func122, Tryz.ntmps122
                  go_wp2_with fail
                  refine (I1.out).mono ?_
                  rintro e w' ⟨rfl, rfl⟩
                  go_wp2_with fail
                  refine (I2.out).mono ?_
                  rintro e w' ⟨rfl, rfl⟩
                  go_wp2_with fail
                  go_ret
                  exact ⟨ret_int (endOf_pair_no4 nmE_nm hlt hms H.out HE.out HE2.out (fun h => absurd h hns)).symm, rfl⟩
          · have T : ((s[m].toNat : Int) != 43) = true := by rw [bne_iff_ne]; intro h; exact h3 (.inl (by rw [← UInt8.toNat_inj]; simp; omega))
            have T2 : ((s[m].toNat : Int) != 38) = true := by rw [bne_iff_ne]; intro h; exact h3 (.inr (by rw [← UInt8.toNat_inj]; simp; omega))
            have H3 := Lib.hid h3
            clear h3 ih
            go_enter Tryz.func122, Tryz.ntmps122
            go_wp2_with fail
            refine (I1.out).mono ?_
            rintro e w' ⟨rfl, rfl⟩
            go_wp2_with fail
            go_ret
            exact ⟨ret_int (endOf_pair_no2 nmE_nm hlt H.out HE.out (fun _ => not_or.1 H3.out)).symm, rfl⟩
        · clear ih
          go_enter Tryz.func122, Tryz.ntmps122
          go_wp2_with fail
          refine (I1.out).mono ?_
          rintro e w' ⟨rfl, rfl⟩
          go_wp2_with fail
          go_ret
          exact ⟨ret_int (endOf_pair_no2 nmE_nm hlt H.out HE.out (fun h => absurd h hms)).symm, rfl⟩
    have b48 : ((s[a].toNat : Int) == 48) = false := by rw [beq_eq_false_iff_ne]; intro h; exact h48 (by rw [← UInt8.toNat_inj]; simp; omega)
    have b42 : ((s[a].toNat : Int) == 42) = false := by rw [beq_eq_false_iff_ne]; intro h; exact h42 (by rw [← UInt8.toNat_inj]; simp; omega)
    have b126 : ((s[a].toNat : Int) == 126) = false := by rw [beq_eq_false_iff_ne]; intro h; exact h126 (by rw [← UInt8.toNat_inj]; simp; omega)
    have b35 : ((s[a].toNat : Int) == 35) = false := by rw [beq_eq_false_iff_ne]; intro h; exact h35 (by rw [← UInt8.toNat_inj]; simp; omega)
    have b91 : ((s[a].toNat : Int) == 91) = false := by rw [beq_eq_false_iff_ne]; intro h; exact h91 (by rw [← UInt8.toNat_inj]; simp; omega)
    have b40 : ((s[a].toNat : Int) == 40) = false := by rw [beq_eq_false_iff_ne]; intro h; exact h40 (by rw [← UInt8.toNat_inj]; simp; omega)
    have H : Hid (s[a] ≠ 48 ∧ s[a] ≠ 42 ∧ s[a] ≠ 126 ∧ s[a] ≠ 35 ∧ s[a] ≠ 91 ∧ s[a] ≠ 40) := ⟨h48, h42, h126, h35, h91, h40⟩
    clear h48 h42 h126 h35 h91 h40
    go_enter Tryz.func122, Tryz.ntmps122
    go_wp2_with (first | (go_at_call 155; refine (tmName_any _ _).mono ?_; rintro e w' ⟨rfl, rfl⟩) | (go_at_call 122; refine (ih (a + 4) _ (by omega) (by omega)).mono ?_; rintro e w' ⟨rfl, rfl⟩))
    all_goals (go_ret; refine ⟨ret_int ?_, rfl⟩; try simp only [beq_iff_eq, beq_eq_false_iff_ne, ne_eq] at *)
    all_goals first
      | exact endOf_snd nmE_nm (by omega) (by assumption) (by rw [← UInt8.toNat_inj]; simp; omega) (by assumption) (by rw [← UInt8.toNat_inj]; simp; omega)
      | exact endOf_rcv nmE_nm (by omega) (by assumption) (by rw [← UInt8.toNat_inj]; simp; omega) (by assumption) (by rw [← UInt8.toNat_inj]; simp; omega)
      | exact (endOf_other nmE_nm hlt H.out.1 H.out.2.1 H.out.2.2.1 H.out.2.2.2.1 H.out.2.2.2.2.1 H.out.2.2.2.2.2 (fun k1 k2 k3 k4 k5 => by rw [← UInt8.toNat_inj] at k5; simp at k5; omega)).symm
      | exact (endOf_other nmE_nm hlt H.out.1 H.out.2.1 H.out.2.2.1 H.out.2.2.2.1 H.out.2.2.2.2.1 H.out.2.2.2.2.2 (fun k1 k2 k3 k4 k5 => by rw [← UInt8.toNat_inj, ← UInt8.toNat_inj] at k3; simp at k3; omega)).symm
      | exact (endOf_other nmE_nm hlt H.out.1 H.out.2.1 H.out.2.2.1 H.out.2.2.2.1 H.out.2.2.2.2.1 H.out.2.2.2.2.2 (fun k1 k2 k3 k4 k5 => by simp_all)).symm
  · have : s.size ≤ a := by omega
    go_enter Tryz.func122, Tryz.ntmps122
    go_wp2_with fail
    go_ret
    exact ⟨ret_int (endOf_ge nmE_nm this).symm, rfl⟩

theorem tmEnd_any (s : ByteArray) (hs : s.size ≤ 700) (k : Nat) : ∀ (a : Nat) (w : World), 710 - a ≤ k → a ≤ 710 → Calls Tryz.prog 122 #[.string s, .int .i64 (a : Int)] w fun e w' => e = .returned (.int .i64 (endOf nmE s a)) ∧ w = w' := by
  induction k with
  | zero => exact fun a w hk ha => tmEnd_step s hs a w ha (fun a' w' h1 h2 => by omega)
  | succ k ih => exact fun a w hk ha => tmEnd_step s hs a w ha (fun a' w' h1 h2 => ih a' w' (by omega) h2)

end Go.Proofs.YtmfmagfgcdaeeaaGreat.T1
