/- Texts of the proof, put together: SpecC. No conditions. -/
import Derived.Test.YtinkioodkgccjaaDoorHah
import Derived.Test.YtinkioodkgccjaaDoorHar
import Derived.LoopN

/- The specification's size of a process, and when a text is one. -/
namespace Go.Proofs.YtinkioodkgccjaaDoor.T1
open Go.RowKit
set_option maxRecDepth 100000

set_option maxHeartbeats 1000000 in
theorem tmSize0 (s : ByteArray) (HP : ∀ w, Calls Tryd.prog 46 #[.string s] w (PartsS [] w)) (w : World) :
    Calls Tryd.prog 28 #[.string s] w fun e w' => e = .returned (.int .i64 1) ∧ Below w.heap.size w w' := by
  have H := Lib.hid HP
  clear HP
  go_enter Tryd.func28, Tryd.ntmps28
  go_wp2_with fail
  refine (H.out _).mono ?_
  rintro e w1 ⟨rfl, bl⟩
  go_wp2_with fail
  refine wp_loop_rounds 1 ?_
  rw [rounds_succ]
  go_wp2_with fail
  go_ret
  exact ⟨rfl, bl⟩

set_option maxHeartbeats 1000000 in
theorem tmSize1 (s u : ByteArray) (n : Nat) (hn : n ≤ 1000) (HP : ∀ w, Calls Tryd.prog 46 #[.string s] w fun e w' => ∃ b, e = .returned (.slice (some ⟨b, 0, none⟩) 1 1) ∧ w.heap.size ≤ b ∧ w'.heap[b]? = some (.cells #[.string u] 9 (0, 0)) ∧ Below w.heap.size w w')
    (ih : ∀ w, Calls Tryd.prog 28 #[.string u] w fun e w' => e = .returned (.int .i64 (n : Int)) ∧ Below w.heap.size w w') (w : World) :
    Calls Tryd.prog 28 #[.string s] w fun e w' => e = .returned (.int .i64 (1 + (n : Int))) ∧ Below w.heap.size w w' := by
  have H := Lib.hid HP
  have IH := Lib.hid ih
  clear HP ih
  go_enter Tryd.func28, Tryd.ntmps28
  go_wp2_with fail
  refine (H.out _).mono ?_
  rintro e w1 ⟨b, rfl, hb, hh, bl⟩
  have c0 := cellOf1 hh
  clear hh
  go_wp2_with fail
  refine wp_loop_rounds 2 ?_
  rw [rounds_succ]
  go_wp2_with fail
  refine (IH.out _).mono ?_
  rintro e w2 ⟨rfl, bl2⟩
  clear c0
  go_wp2_with fail
  rw [rounds_succ]
  go_wp2_with fail
  go_ret
  exact ⟨rfl, below_trans bl bl2 bl.size⟩

set_option maxHeartbeats 1000000 in
theorem tmSize2 (s u v : ByteArray) (n m : Nat) (hn : n ≤ 1000) (hm : m ≤ 1000) (HP : ∀ w, Calls Tryd.prog 46 #[.string s] w fun e w' => ∃ b, e = .returned (.slice (some ⟨b, 0, none⟩) 2 2) ∧ w.heap.size ≤ b ∧ w'.heap[b]? = some (.cells #[.string u, .string v] 9 (0, 0)) ∧ Below w.heap.size w w')
    (ih : ∀ w, Calls Tryd.prog 28 #[.string u] w fun e w' => e = .returned (.int .i64 (n : Int)) ∧ Below w.heap.size w w') (ih2 : ∀ w, Calls Tryd.prog 28 #[.string v] w fun e w' => e = .returned (.int .i64 (m : Int)) ∧ Below w.heap.size w w') (w : World) :
    Calls Tryd.prog 28 #[.string s] w fun e w' => e = .returned (.int .i64 (1 + (n : Int) + (m : Int))) ∧ Below w.heap.size w w' := by
  have H := Lib.hid HP
  have IH := Lib.hid ih
  have IH2 := Lib.hid ih2
  clear HP ih ih2
  go_enter Tryd.func28, Tryd.ntmps28
  go_wp2_with fail
  refine (H.out _).mono ?_
  rintro e w1 ⟨b, rfl, hb, hh, bl⟩
  have c0 := cellOf2a hh
  have Hh := Lib.hid hh
  clear hh
  go_wp2_with fail
  refine wp_loop_rounds 3 ?_
  rw [rounds_succ]
  go_wp2_with fail
  refine (IH.out _).mono ?_
  rintro e w2 ⟨rfl, bl2⟩
  have h2 := (bl2.block b (lt_of_block Hh.out)).trans Hh.out
  clear c0
  have c1 := cellOf2b h2
  clear h2
  go_wp2_with fail
  rw [rounds_succ]
  go_wp2_with fail
  refine (IH2.out _).mono ?_
  rintro e w3 ⟨rfl, bl3⟩
  clear c1
  go_wp2_with fail
  rw [rounds_succ]
  go_wp2_with fail
  go_ret
  exact ⟨rfl, below_trans (below_trans bl bl2 bl.size) bl3 (Nat.le_trans bl.size bl2.size)⟩

theorem tmSize_any (t : Tm) : t.ok nmE = true → t.pr.length ≤ 700 → ∀ (w : World), Calls Tryd.prog 28 #[.string (S t)] w fun e w' => e = .returned (.int .i64 (t.size : Nat)) ∧ Below w.heap.size w w' := by
  have conv : ∀ (t : Tm) (n : Int), n = (t.size : Nat) → (∀ w, Calls Tryd.prog 28 #[.string (S t)] w fun e w' => e = .returned (.int .i64 n) ∧ Below w.heap.size w w') → ∀ w, Calls Tryd.prog 28 #[.string (S t)] w fun e w' => e = .returned (.int .i64 (t.size : Nat)) ∧ Below w.heap.size w w' := by
    intro t n h hc; rw [h] at hc; exact hc
  induction t with
  | nil => exact fun ho hl => tmSize0 _ (tmParts_any .nil ho hl)
  | snd a b p ih =>
    intro ho hl
    have hq := size_le_pr p
    have ho' := ho
    simp only [Tm.ok, Bool.and_eq_true] at ho'
    have hl' := hl
    simp only [Tm.pr, List.length_cons] at hl'
    exact conv _ _ (by simp only [Tm.size]; omega) (tmSize1 _ _ p.size (by omega) (tmParts_any (.snd a b p) ho hl) (ih ho'.2 (by omega)))
  | rcv a b p ih =>
    intro ho hl
    have hq := size_le_pr p
    have ho' := ho
    simp only [Tm.ok, Bool.and_eq_true] at ho'
    have hl' := hl
    simp only [Tm.pr, List.length_cons] at hl'
    exact conv _ _ (by simp only [Tm.size]; omega) (tmSize1 _ _ p.size (by omega) (tmParts_any (.rcv a b p) ho hl) (ih ho'.2 (by omega)))
  | mat a b p ih =>
    intro ho hl
    have hq := size_le_pr p
    have ho' := ho
    simp only [Tm.ok, Bool.and_eq_true] at ho'
    have hl' := hl
    simp only [Tm.pr, List.length_cons] at hl'
    exact conv _ _ (by simp only [Tm.size]; omega) (tmSize1 _ _ p.size (by omega) (tmParts_any (.mat a b p) ho hl) (ih ho'.2 (by omega)))
  | own x p ih =>
    intro ho hl
    have hq := size_le_pr p
    have ho' := ho
    simp only [Tm.ok, Bool.and_eq_true] at ho'
    have hl' := hl
    simp only [Tm.pr, List.length_cons] at hl'
    exact conv _ _ (by simp only [Tm.size]; omega) (tmSize1 _ _ p.size (by omega) (tmParts_any (.own x p) ho hl) (ih ho'.2 (by omega)))
  | tau p ih =>
    intro ho hl
    have hq := size_le_pr p
    have hl' := hl
    simp only [Tm.pr, List.length_cons] at hl'
    exact conv _ _ (by simp only [Tm.size]; omega) (tmSize1 _ _ p.size (by omega) (tmParts_any (.tau p) ho hl) (ih ho (by omega)))
  | rep p ih =>
    intro ho hl
    have hq := size_le_pr p
    have hl' := hl
    simp only [Tm.pr, List.length_cons] at hl'
    exact conv _ _ (by simp only [Tm.size]; omega) (tmSize1 _ _ p.size (by omega) (tmParts_any (.rep p) ho hl) (ih ho (by omega)))
  | sum p q ih ih2 =>
    intro ho hl
    have hq := size_le_pr p
    have hq2 := size_le_pr q
    have ho' := ho
    simp only [Tm.ok, Bool.and_eq_true] at ho'
    have hl' := hl
    simp only [Tm.pr, List.length_cons, List.length_append] at hl'
    exact conv _ _ (by simp only [Tm.size]; omega) (tmSize2 _ _ _ p.size q.size (by omega) (by omega) (tmParts_any (.sum p q) ho hl) (ih ho'.1 (by omega)) (ih2 ho'.2 (by omega)))
  | par p q ih ih2 =>
    intro ho hl
    have hq := size_le_pr p
    have hq2 := size_le_pr q
    have ho' := ho
    simp only [Tm.ok, Bool.and_eq_true] at ho'
    have hl' := hl
    simp only [Tm.pr, List.length_cons, List.length_append] at hl'
    exact conv _ _ (by simp only [Tm.size]; omega) (tmSize2 _ _ _ p.size q.size (by omega) (by omega) (tmParts_any (.par p q) ho hl) (ih ho'.1 (by omega)) (ih2 ho'.2 (by omega)))

/-! When a text is a process. -/
theorem ok_EL (t : Tm) (h : t.ok nmL = true) : t.ok nmE = true := by
  have k : ∀ c, nmL c = true → nmE c = true := fun c h => by simp [nmL, nmE] at h ⊢; omega
  induction t <;> simp_all [Tm.ok]
theorem ok_small (t : Tm) (h : t.ok nmE = true) (hs : t.pr.all smB = true) : t.ok nmL = true := by
  have k : ∀ c, nmE c = true → smB c = true → nmL c = true := fun c h h2 => by simp [nmL, nmE, smB] at h h2 ⊢; omega
  induction t <;> simp_all [Tm.ok, Tm.pr]
theorem small_ok (t : Tm) (h : t.ok nmL = true) : t.pr.all smB = true := by
  have k : ∀ c, nmL c = true → smB c = true := fun c h => by simp [nmL, smB] at h ⊢; omega
  induction t <;> simp_all [Tm.ok, Tm.pr, smB]
/-- Is a text a process? -/
noncomputable def goodB (s : ByteArray) : Bool := (good s.data.toList).isSome

theorem good_E {l : List UInt8} {t : Tm} (h : good l = some t) : E nmE l = some (t, []) ∧ l.all smB = true := by
  obtain ⟨_, h2, h3, _⟩ := good_out h
  exact ⟨(E_some nmE_nm).2 ⟨by rw [h2, List.append_nil], ok_EL t h3⟩, by rw [h2]; exact small_ok t h3⟩
theorem goodB_no {s : ByteArray} (h : ∀ t, good s.data.toList ≠ some t) : goodB s = false := by
  unfold goodB
  cases hg : good s.data.toList with
  | none => rfl
  | some t => exact absurd hg (h t)
theorem goodB_yes {s : ByteArray} {t : Tm} (h : good s.data.toList = some t) : goodB s = true := by unfold goodB; rw [h]; rfl
theorem S_of {s : ByteArray} {t : Tm} (h : s.data.toList = t.pr) : s = S t := by
  apply ByteArray.ext
  apply Array.ext'
  exact h

set_option maxHeartbeats 1000000 in
theorem tmGood_any (s : ByteArray) (w : World) (hmax : s.size ≤ 9223372036854775807) : Calls Tryd.prog 11 #[.string s] w fun e w' => e = .returned (.bool (goodB s)) ∧ Below w.heap.size w w' := by
  have HL : Hid (s.data.toList.length = s.size) := by simp [Hid]
  by_cases hs : s.size ≤ 300
  · have HSM := fun w => tmSmall_any s w hs
    cases hsm : allSm s with
    | false =>
      have HG : Hid (goodB s = false) := goodB_no (fun t h => by have := (good_E h).2; rw [show s.data.toList.all smB = allSm s from rfl, hsm] at this; cases this)
      rw [hsm] at HSM
      have H1 := Lib.hid HSM
      clear HSM hsm
      go_enter Tryd.func11, Tryd.ntmps11
      go_wp2_with fail
      refine (H1.out _).mono ?_
      rintro e w1 ⟨rfl, rfl⟩
      go_wp2_with fail
      go_ret
      exact ⟨by rw [HG.out]; rfl, Below.refl _ _⟩
    | true =>
      rw [hsm] at HSM
      have H1 := Lib.hid HSM
      have HS : Hid (s.data.toList.all smB = true) := hsm
      clear HSM hsm
      have HEN := fun w => tmEnd_any s (by omega) 710 0 w (by omega) (by omega)
      rcases endOf_cases nmE nmE_nm s 0 with ⟨e1, E1⟩ | ⟨t, m, hm1, hm2, e1, E1⟩
      · have HG : Hid (goodB s = false) := goodB_no (fun t h => by have := (good_E h).1; rw [List.drop_zero] at E1; rw [E1] at this; cases this)
        rw [e1] at HEN
        have H2 : Hid (∀ w, Calls Tryd.prog 27 #[.string s, .int .i64 0] w fun e w' => e = .returned (.int .i64 (-1)) ∧ w = w') := HEN
        have t1 : ((-1 : Int) == (s.size : Int)) = false := by rw [beq_eq_false_iff_ne]; omega
        clear HEN e1 E1
        go_enter Tryd.func11, Tryd.ntmps11
        go_wp2_with fail
        refine (H1.out _).mono ?_
        rintro e w1 ⟨rfl, rfl⟩
        go_wp2_with fail
        refine (H2.out _).mono ?_
        rintro e w1 ⟨rfl, rfl⟩
        go_wp2_with fail
        go_ret
        exact ⟨by rw [HG.out]; rfl, Below.refl _ _⟩
      · rw [e1] at HEN
        have H2 : Hid (∀ w, Calls Tryd.prog 27 #[.string s, .int .i64 0] w fun e w' => e = .returned (.int .i64 (m : Int)) ∧ w = w') := HEN
        rw [List.drop_zero] at E1
        clear HEN e1
        by_cases hms : m = s.size
        · rw [List.drop_of_length_le (by rw [HL.out]; omega)] at E1
          have hr := (E_some nmE_nm).1 E1
          have hl : s.data.toList = t.pr := by have := hr.1; rw [List.append_nil] at this; exact this
          have hokL := ok_small t hr.2 (by rw [← hl]; exact HS.out)
          have hlen : t.pr.length ≤ 300 := by rw [← hl, HL.out]; exact hs
          have H3 := tmSize_any t hr.2 (by omega)
          rw [← S_of hl] at H3
          have EL : E nmL s.data.toList = some (t, []) := (E_some nmL_nm).2 ⟨by rw [hl, List.append_nil], hokL⟩
          have t1 : ((m : Int) == (s.size : Int)) = true := by rw [hms]; simp
          by_cases hts : t.size ≤ 60
          · have HG : Hid (goodB s = true) := goodB_yes (good_yes (by rw [HL.out]; exact hs) EL hts)
            obtain ⟨N, hN⟩ : ∃ N, N = t.size := ⟨_, rfl⟩
            rw [← hN] at H3 hts
            have H3' := Lib.hid H3
            clear E1 hr hl hokL hlen H3 EL hms hN
            go_enter Tryd.func11, Tryd.ntmps11
            go_wp2_with fail
            refine (H1.out _).mono ?_
            rintro e w1 ⟨rfl, rfl⟩
            go_wp2_with fail
            refine (H2.out _).mono ?_
            rintro e w1 ⟨rfl, rfl⟩
            go_wp2_with fail
            refine (H3'.out _).mono ?_
            rintro e w1 ⟨rfl, bl⟩
            go_wp2_with fail
            go_ret
            exact ⟨by rw [HG.out]; exact ret_bool (a := decide ((N : Int) ≤ 60)) (by simp; omega), bl⟩
          · have HG : Hid (goodB s = false) := goodB_no (fun t' h => by rw [good_great EL (by omega)] at h; cases h)
            obtain ⟨N, hN⟩ : ∃ N, N = t.size := ⟨_, rfl⟩
            rw [← hN] at H3 hts
            have H3' := Lib.hid H3
            clear E1 hr hl hokL hlen H3 EL hms hN
            go_enter Tryd.func11, Tryd.ntmps11
            go_wp2_with fail
            refine (H1.out _).mono ?_
            rintro e w1 ⟨rfl, rfl⟩
            go_wp2_with fail
            refine (H2.out _).mono ?_
            rintro e w1 ⟨rfl, rfl⟩
            go_wp2_with fail
            refine (H3'.out _).mono ?_
            rintro e w1 ⟨rfl, bl⟩
            go_wp2_with fail
            go_ret
            exact ⟨by rw [HG.out]; exact ret_bool (a := decide ((N : Int) ≤ 60)) (by simp; omega), bl⟩
        · have HG : Hid (goodB s = false) := goodB_no (fun t' h => by
            have := (good_E h).1
            rw [E1] at this
            have h5 := congrArg (Option.map (fun x : Tm × List UInt8 => x.2.length)) this
            simp at h5
            omega)
          have t1 : ((m : Int) == (s.size : Int)) = false := by rw [beq_eq_false_iff_ne]; omega
          clear E1 hms
          go_enter Tryd.func11, Tryd.ntmps11
          go_wp2_with fail
          refine (H1.out _).mono ?_
          rintro e w1 ⟨rfl, rfl⟩
          go_wp2_with fail
          refine (H2.out _).mono ?_
          rintro e w1 ⟨rfl, rfl⟩
          go_wp2_with fail
          go_ret
          exact ⟨by rw [HG.out]; rfl, Below.refl _ _⟩
  · have HG : Hid (goodB s = false) := goodB_no (fun t h => by have := (good_out h).1; rw [HL.out] at this; omega)
    go_enter Tryd.func11, Tryd.ntmps11
    go_wp2_with fail
    go_ret
    exact ⟨by rw [HG.out]; rfl, Below.refl _ _⟩

end Go.Proofs.YtinkioodkgccjaaDoor.T1
