/- The parts of a sum, on both sides. MADE BY gen_Mf.py. -/
import Derived.Test.YtnncoaeolfckbabGreatMe
namespace Go.Proofs.YtnncoaeolfckbabGreat.T1
open Go.RowKit
set_option maxRecDepth 100000
set_option linter.unusedVariables false
set_option linter.unusedSimpArgs false

theorem kind_su2 {t : Tm} (h : ∀ p q, t ≠ .sum p q) (hE : t.ok nmE = true) : ((t.kind.toNat : Int) == 43) = false := by
  cases t <;> first | rfl | exact absurd rfl (h _ _)
theorem sumR_ne (t : Tm) : t.sumR ≠ [] := by cases t <;> (intro e; cases e)
theorem sumR_no {t : Tm} (h : ∀ p q, t ≠ .sum p q) : t.sumR = [t] := by
  cases t <;> first | rfl | exact absurd rfl (h _ _)
theorem sumR_size (t : Tm) : t.sumR.length ≤ t.size := by
  induction t with
  | sum p q ih ih2 => simp only [Tm.sumR, List.length_cons, Tm.size]; omega
  | _ => simp [Tm.sumR, Tm.size]
set_option maxHeartbeats 2000000 in
theorem sSu_a (s : ByteArray) (us : List Tm) (n1 : ∀ w, Calls Tryz.prog 11 #[.string s] w fun e w' => ∃ v', e = .returned (.tuple #[v', .bool false]) ∧ w'.ownsRow w.heap.size 9 1 v' (us).length ((us).map sv) ∧ Below w.heap.size w w') (w : World) : Calls Tryz.prog 22 #[.string s] w fun e w' => ∃ v', e = .returned (.tuple #[v', .bool false]) ∧ w'.ownsRow w.heap.size 9 1 v' (([] : List Tm)).length ((([] : List Tm)).map sv) ∧ Below w.heap.size w w' := by
  have H1 := Lib.hid n1
  clear n1
  go_enter Tryz.func22, Tryz.ntmps22
  go_wp2_with fail
  refine (H1.out _).mono ?_
  rintro e w1 ⟨v, rfl, o1, b1⟩
  obtain ⟨p, c, rfl⟩ := own_form o1
  clear o1
  go_wp2_with fail
  go_ret2
  exact ⟨_, rfl, World.ownsRow_nil _ _ _ _, b1⟩
set_option maxHeartbeats 2000000 in
theorem sSu_b (s : ByteArray) (n1 : ∀ w, Calls Tryz.prog 11 #[.string s] w fun e w' => ∃ v', e = .returned (.tuple #[v', .bool true]) ∧ w'.ownsRow w.heap.size 9 1 v' (([] : List Tm)).length ((([] : List Tm)).map sv) ∧ Below w.heap.size w w') (w : World) : Calls Tryz.prog 22 #[.string s] w fun e w' => ∃ v', e = .returned (.tuple #[v', .bool true]) ∧ w'.ownsRow w.heap.size 9 1 v' (([] : List Tm)).length ((([] : List Tm)).map sv) ∧ Below w.heap.size w w' := by
  have H1 := Lib.hid n1
  clear n1
  go_enter Tryz.func22, Tryz.ntmps22
  go_wp2_with fail
  refine (H1.out _).mono ?_
  rintro e w1 ⟨v, rfl, o1, b1⟩
  obtain ⟨p, c, rfl⟩ := own_form o1
  clear o1
  go_wp2_with fail
  go_ret2
  exact ⟨_, rfl, World.ownsRow_nil _ _ _ _, b1⟩
set_option maxHeartbeats 8000000 in
theorem sSu_c (s : ByteArray) (us : List Tm) (t : Tm) (hu0 : us[0]? = some t) (hT : ∀ w, Calls Tryz.prog 11 #[.string s] w fun e w' => ∃ v', e = .returned (.tuple #[v', .bool true]) ∧ w'.ownsRow w.heap.size 9 1 v' (us).length ((us).map sv) ∧ Below w.heap.size w w') (hE : t.ok nmE = true) (hl : t.pr.length ≤ 700) (hs : t.size ≤ 300) (w : World) :
    Calls Tryz.prog 22 #[.string s] w fun e w' => ∃ v', e = .returned (.tuple #[v', .bool true]) ∧ w'.ownsRow w.heap.size 9 1 v' (t.sumR).length ((t.sumR).map sv) ∧ Below w.heap.size w w' := by
  obtain ⟨i0, hi, hz0, hz1, hz2⟩ := info_parts Tryz.infoS
  have HT := Lib.hid hT
  have HE := Lib.hid hE
  have HL := Lib.hid hl
  have HS := Lib.hid hs
  have hps := sumR_size t
  have hl0 : 0 < us.length := by
    cases us with
    | nil => simp at hu0
    | cons _ _ => simp
  have HU0 := Lib.hid hu0
  obtain ⟨X0, hX0⟩ : ∃ X, X = S t := ⟨_, rfl⟩
  have HX0 := Lib.hid hX0
  obtain ⟨N, hN⟩ : ∃ N, N = t.sumR.length := ⟨_, rfl⟩
  have HN := Lib.hid hN
  rw [← hN] at hps ⊢
  obtain ⟨m, hm⟩ : ∃ m, m = us.length := ⟨_, rfl⟩
  rw [← hm] at HT hl0
  clear hT hE hl hN hX0 hu0 hm
  go_enter Tryz.func22, Tryz.ntmps22
  go_wp2_with fail
  refine (HT.out _).mono ?_
  rintro e w1 ⟨v, rfl, ho1, b1⟩
  obtain ⟨p0, c0', rfl⟩ := own_form ho1
  obtain ⟨g0, hpg, hg1, hg2, hg3, hcells⟩ := own_at ho1 hl0
  subst hpg
  have cX : w1.cell? ⟨g0, 0, none⟩ = some (.string X0) := by
    have := hcells 0 (sv t) (by rw [List.getElem?_map, HU0.out]; rfl)
    rw [HX0.out]; exact this
  have B1 := Lib.hid b1
  have hm0 : ((m : Int) == 0) = false := by simp; omega
  have hm1 : (0 : Int) < (m : Int) := by omega
  clear ho1 hcells hg1 hg2 hg3 b1
  go_wp2_with fail
  go_loopg [6, 7] 500 (fun g s3 s0 wr => (∃ (Y : ByteArray) (i : Nat), s0 = .string Y ∧ i + 1 ≤ N ∧ Hid (∃ (xs : List Tm) (u : Tm), Y = S u ∧ i = xs.length ∧ t.sumR = xs ++ u.sumR ∧ u.ok nmE = true ∧ u.pr.length ≤ 700 ∧ u.size ≤ g ∧ wr.ownsRow w.heap.size 9 1 s3 i (xs.map sv))) ∧ Hid (Below w.heap.size w wr))
  case atStart =>
    exact ⟨⟨X0, 0, rfl, by have := HN.out; have := sumR_ne t; have : 0 < t.sumR.length := List.length_pos_iff.2 (sumR_ne t); omega, [], t, HX0.out, rfl, rfl, HE.out, HL.out, Nat.le_trans HS.out (by omega), World.ownsRow_nil _ _ _ _⟩, B1⟩
  case round =>
    obtain ⟨⟨Y, i, rfl, hiN, hex⟩, hbl⟩ := hrel
    obtain ⟨xs, u, rfl, hix, hpx, hu, hul, hus, hown⟩ := hex.out
    have HKu := Lib.hid (tmKind_any u hu hul wr)
    have HO := Lib.hid hown
    have hsz := hbl.out.size
    clear hex
    by_cases hp : ∃ p q, u = .sum p q
    · obtain ⟨p, q, rfl⟩ := hp
      have HP := Lib.hid (tmParts_any (.sum p q) hu hul wr)
      have hk : (((Tm.sum p q).kind.toNat : Nat) : Int) = 43 := rfl
      rw [hk] at HKu
      simp only [Tm.ok, Bool.and_eq_true] at hu
      simp only [Tm.pr, List.length_append, List.length_cons, List.length_nil] at hul
      simp only [Tm.size] at hus
      have hpl : (p :: q.sumR).length ≤ t.sumR.length := by rw [hpx]; simp [Tm.sumR]
      have hiN2 : i + 2 ≤ N := by
        have := HN.out
        have h2 : t.sumR.length = xs.length + (Tm.sum p q).sumR.length := by rw [hpx, List.length_append]
        have h3 : 0 < q.sumR.length := List.length_pos_iff.2 (sumR_ne q)
        simp only [Tm.sumR, List.length_cons] at h2
        omega
      have hnew : Hid (t.sumR = (xs ++ [p]) ++ q.sumR ∧ i + 1 = (xs ++ [p]).length ∧ (xs ++ [p]).map sv = xs.map sv ++ [.string (S p)]) := ⟨by rw [hpx]; simp [Tm.sumR], by rw [hix]; simp, by simp [sv]⟩
      have hq := Lib.hid (show q.ok nmE = true ∧ q.pr.length ≤ 700 ∧ q.size ≤ gk - 1 from ⟨hu.2, by omega, by omega⟩)
      obtain ⟨U, hU⟩ : ∃ U, U = S (Tm.sum p q) := ⟨_, rfl⟩
      obtain ⟨A, hA⟩ : ∃ A, A = S p := ⟨_, rfl⟩
      obtain ⟨Bq, hB⟩ : ∃ Bq, Bq = S q := ⟨_, rfl⟩
      have HBq := Lib.hid hB
      have HP2 : Hid (Calls Tryz.prog 45 #[.string U] wr fun e w' => ∃ b, e = .returned (.slice (some ⟨b, 0, none⟩) 2 2) ∧ wr.heap.size ≤ b ∧ w'.heap[b]? = some (.cells #[.string A, .string Bq] 9 (0, 0)) ∧ Below wr.heap.size wr w') := by
        rw [hU, hA, hB]; exact HP.out
      rw [← hA] at hnew
      rw [← hU] at HKu ⊢
      have hgp : 1 ≤ gk := by omega
      clear hU hA hB HP hu hul hus hpl hk hpx hix hown
      go_wp2_with fail
      refine (HKu.out).mono ?_
      rintro e w2 ⟨rfl, rfl⟩
      go_wp2_with fail
      refine (HP2.out).mono ?_
      rintro e w3 ⟨b, rfl, hb, hh, b3⟩
      have c0 := cellOf2a hh
      have hO3 := Lib.hid (own_below2 HO.out b3)
      have hbl3 := Lib.hid (below_go hbl.out b3)
      have HH := Lib.hid hh
      have hblt := lt_of_block hh
      have hne : Hid (∀ g, u6.ownBlock = some g → g < b ∧ w.heap.size ≤ g) := fun g e => by
        have := HO.out.lt g e
        exact ⟨by omega, this.1⟩
      clear hb hh b3 hbl HO
      go_wp2_with (at_builtin; refine wpList_append_rows rfl (.tmp 30) (.tmp 34) 25 rfl w.heap.size w.heap.size 9 i0 (.string ⟨#[]⟩) 16 Tryz.underlying25 hi hz0 hz1 hz2 rfl u6 i _ rfl (hO3.out.alloc _) _ 1 [.string A] rfl (own_new1 w3 (.string A) 9 w.heap.size hbl3.out.size) (fun u hu => by simp at hu; subst hu; rfl) ?c2 ?c3 ?c4 ?_)
      case c2 => unfold maxLen; omega
      case c3 => omega
      case c4 => have := hbl3.out.size; simp; omega
      intro v4 w4 hown4 hgrow4 _
      have hb4 : w4.heap[b]? = some (.cells #[.string A, .string Bq] 9 (0, 0)) := by
        rw [hgrow4.block b (by simp; omega) (fun e => by have := hne.out b e.symm; omega)]
        exact (heap_alloc_old w3 _ hblt).trans HH.out
      have c1 := cellOf2b hb4
      have O4 : Hid (w4.ownsRow w.heap.size 9 1 v4 (i + 1) ((xs ++ [p]).map sv)) := by
        show World.ownsRow _ _ _ _ _ _ _
        rw [hnew.out.2.2]; exact hown4
      have bl4 := Lib.hid (below_grown2 (hbl3.out.alloc hbl3.out.size _) hgrow4 (fun g e => (hne.out g e).2) (by have := hbl3.out.size; simp; omega))
      clear hown4 hgrow4 hb4 hbl3 hO3 HH
      go_wp2_with fail
      go_roundg (gk - 1)
      case rel => exact ⟨⟨_, i + 1, rfl, by omega, xs ++ [p], q, HBq.out, hnew.out.2.1, hnew.out.1, hq.out.1, hq.out.2.1, hq.out.2.2, O4.out⟩, bl4⟩
      case measure => omega
    · have hno : ∀ p q, u ≠ .sum p q := fun p q e => hp ⟨p, q, e⟩
      have hk := kind_su2 hno hu
      have hpp := sumR_no hno
      have hfin : Hid (i + 1 = N ∧ t.sumR.map sv = xs.map sv ++ [.string (S u)]) := ⟨by rw [HN.out, hpx, hpp, hix]; simp, by rw [hpx, hpp]; simp [sv]⟩
      obtain ⟨kk, hkk⟩ : ∃ kk : Int, kk = (u.kind.toNat : Int) := ⟨_, rfl⟩
      rw [← hkk] at HKu hk
      obtain ⟨U, hU⟩ : ∃ U, U = S u := ⟨_, rfl⟩
      rw [← hU] at HKu hfin ⊢
      have hne : Hid (∀ g, u6.ownBlock = some g → w.heap.size ≤ g) := fun g e => (HO.out.lt g e).1
      clear hU hkk hpx hix hu hul hus hp hno hpp hown
      go_wp2_with fail
      refine (HKu.out).mono ?_
      rintro e w2 ⟨rfl, rfl⟩
      go_wp2_with (at_builtin; refine wpList_append_rows rfl (.tmp 39) (.tmp 41) 25 rfl w.heap.size w.heap.size 9 i0 (.string ⟨#[]⟩) 16 Tryz.underlying25 hi hz0 hz1 hz2 rfl u6 i _ rfl (HO.out.alloc _) _ 1 [.string U] rfl (own_new1 _ (.string U) 9 w.heap.size hsz) (fun u hu => by simp at hu; subst hu; rfl) ?c2 ?c3 ?c4 ?_)
      case c2 => unfold maxLen; omega
      case c3 => omega
      case c4 => simp; omega
      intro v4 w4 hown4 hgrow4 _
      have O4 : Hid (w4.ownsRow w.heap.size 9 1 v4 N (t.sumR.map sv)) := by
        show World.ownsRow _ _ _ _ _ _ _
        rw [hfin.out.2, ← hfin.out.1]; exact hown4
      have bl4 := Lib.hid (below_grown2 (hbl.out.alloc hsz _) hgrow4 (fun g e => hne.out g e) (by simp; omega))
      clear hown4 hgrow4
      go_wp2_with fail
      go_ret2
      exact ⟨_, rfl, O4.out, bl4.out⟩
set_option maxHeartbeats 2000000 in
theorem iSu_a (s : ByteArray) (n1 : ∀ w, Calls Tryz.prog 26 #[.string s] w fun e w' => e = .returned (.tuple #[.nilIface, .bool false]) ∧ Below w.heap.size w w') (w : World) : Calls Tryz.prog 23 #[.string s] w fun e w' => ∃ v', e = .returned (.tuple #[v', .bool false]) ∧ w'.ownsRow w.heap.size 9 1 v' (([] : List Tm)).length ((([] : List Tm)).map sv) ∧ Below w.heap.size w w' := by
  have Hn1 := Lib.hid n1
  clear n1
  go_enter Tryz.func23, Tryz.ntmps23
  go_wp2_with fail
  refine (Hn1.out _).mono ?_
  rintro e w1 ⟨rfl, c1⟩
  go_wp2_with fail
  go_ret2
  exact ⟨_, rfl, World.ownsRow_nil _ _ _ _, c1⟩
set_option maxHeartbeats 2000000 in
theorem iSu_b (s : ByteArray) (T : TypeId) (V : Value) (fs : List UInt8) (n1 : ∀ w, Calls Tryz.prog 26 #[.string s] w fun e w' => e = .returned (.tuple #[.iface T V, .bool true]) ∧ Below w.heap.size w w') (n2 : ∀ w, Calls Tryz.prog 27 #[.iface T V] w (LvlP fs [] w)) (w : World) :
    Calls Tryz.prog 23 #[.string s] w fun e w' => ∃ v', e = .returned (.tuple #[v', .bool true]) ∧ w'.ownsRow w.heap.size 9 1 v' (([] : List Tm)).length ((([] : List Tm)).map sv) ∧ Below w.heap.size w w' := by
  have H1 := Lib.hid n1
  have H2 := Lib.hid n2
  clear n1 n2
  go_enter Tryz.func23, Tryz.ntmps23
  go_wp2_with fail
  refine (H1.out _).mono ?_
  rintro e w1 ⟨rfl, b1⟩
  go_wp2_with fail
  refine (H2.out _).mono ?_
  rintro e w2 ⟨v1, v2, rfl, o1, o2, c2⟩
  have b2 := below_go b1 c2
  obtain ⟨p, c, rfl⟩ := own_form o2
  clear o1 o2 c2
  go_wp2_with fail
  go_ret2
  exact ⟨_, rfl, World.ownsRow_nil _ _ _ _, b2⟩
set_option maxHeartbeats 4000000 in
theorem iSu_c (s : ByteArray) (T : TypeId) (V : Value) (fs : List UInt8) (us ts : List Tm) (t : Tm) (hu0 : us[0]? = some t) (hts : ts.length ≤ 300) (ht : ∀ u ∈ ts, u.pr.length ≤ 900) (n1 : ∀ w, Calls Tryz.prog 26 #[.string s] w fun e w' => e = .returned (.tuple #[.iface T V, .bool true]) ∧ Below w.heap.size w w') (n2 : ∀ w, Calls Tryz.prog 27 #[.iface T V] w (LvlP fs (us.map enc) w))
    (n3 : ∀ w, Calls Tryz.prog 46 #[.iface (tyOf t) (pay t)] w (SumP (ts.map enc) w)) (w : World) :
    Calls Tryz.prog 23 #[.string s] w fun e w' => ∃ v', e = .returned (.tuple #[v', .bool true]) ∧ w'.ownsRow w.heap.size 9 1 v' (ts).length ((ts).map sv) ∧ Below w.heap.size w w' := by
  have H1 := Lib.hid n1
  have H2 := Lib.hid n2
  obtain ⟨m3, hm3⟩ : ∃ m3, m3 = ts.length := ⟨_, rfl⟩
  have H3 : Hid (∀ w, Calls Tryz.prog 46 #[.iface (tyOf t) (pay t)] w fun e w' => ∃ g cap, e = .returned (.slice (some ⟨g, 0, none⟩) m3 cap) ∧ w'.ownsRow w.heap.size 37 1 (.slice (some ⟨g, 0, none⟩) m3 cap) m3 (ts.map enc) ∧ Below w.heap.size w w') := fun w => (n3 w).mono fun e w' h => by
    unfold SumP at h
    rw [List.length_map] at h
    rw [hm3]; exact h
  have H4 := Lib.hid fun (v : Value) (b : Nat) (w' : World) (h : w'.ownsRow b 37 1 v m3 (ts.map enc)) => textsOf_any ts m3 hm3 (by omega) ht v b w' h
  have HM3 := Lib.hid hm3
  have hl0 : 0 < (us.map enc).length := by
    cases us with
    | nil => simp at hu0
    | cons _ _ => simp
  have HU0 := Lib.hid hu0
  obtain ⟨T1, hT1⟩ : ∃ T1, T1 = tyOf t := ⟨_, rfl⟩
  obtain ⟨V1, hV1⟩ : ∃ V1, V1 = pay t := ⟨_, rfl⟩
  have HE1 : Hid (enc t = .iface T1 V1) := by show _ = _; rw [hT1, hV1]; rfl
  rw [← hT1, ← hV1] at H3
  obtain ⟨m, hm⟩ : ∃ m, m = (us.map enc).length := ⟨_, rfl⟩
  rw [← hm] at hl0
  have HM := Lib.hid hm
  clear n1 n2 n3 hu0 hT1 hV1 hm hm3
  go_enter Tryz.func23, Tryz.ntmps23
  go_wp2_with fail
  refine (H1.out _).mono ?_
  rintro e w1 ⟨rfl, b1⟩
  go_wp2_with fail
  refine (H2.out _).mono ?_
  rintro e w2 ⟨v1, v2, rfl, o1, o2, c2⟩
  have b2 := below_go b1 c2
  rw [← HM.out] at o2
  obtain ⟨p0, c0', rfl⟩ := own_form o2
  obtain ⟨g0, hpg, hg1, hg2, hg3, hcells⟩ := own_at o2 hl0
  subst hpg
  have cX : w2.cell? ⟨g0, 0, none⟩ = some (.iface T1 V1) := by
    have := hcells 0 (enc t) (by rw [List.getElem?_map, HU0.out]; rfl)
    rw [← HE1.out]; exact this
  have hm0 : ((m : Int) == 0) = false := by simp; omega
  have hm1 : (0 : Int) < (m : Int) := by omega
  clear o1 o2 c2 hcells hg1 hg2 hg3
  go_wp2_with fail
  refine (H3.out _).mono ?_
  rintro e w3 ⟨g3, c3, rfl, o3, b3⟩
  have b3' := below_go b2 b3
  have H5 := H4.out _ _ _ o3
  clear o3 b3 cX
  go_wp2_with fail
  refine H5.mono ?_
  rintro e w4 ⟨v', rfl, o4, b4⟩
  rw [HM3.out] at o4
  have O := Lib.hid (own_bas2 (b2 := w.heap.size) o4 b3'.size)
  have bl := below_go b3' b4
  clear o4 b4 H5
  go_wp2_with fail
  go_ret2
  exact ⟨_, rfl, O.out, bl⟩
theorem thr_mem_ok (r : Tm) (nm : UInt8 → Bool) (h : r.ok nm = true) : ∀ t ∈ r.thrs, t.ok nm = true ∧ t.size ≤ r.size := by
  have hp : ∀ t : Tm, t.ok nm = true → ∀ u ∈ t.pars, u.ok nm = true ∧ u.size ≤ t.size := by
    intro t; induction t with
    | par p q ih ih2 =>
      intro h u hu
      simp only [Tm.ok, Bool.and_eq_true] at h
      simp only [Tm.pars, List.mem_cons] at hu
      simp only [Tm.size]
      rcases hu with rfl | hu
      · exact ⟨h.1, by omega⟩
      · have := ih2 h.2 u hu; exact ⟨this.1, by omega⟩
    | _ => intro h u hu; simp only [Tm.pars, List.mem_singleton] at hu; subst hu; exact ⟨h, Nat.le_refl _⟩
  obtain ⟨h1, h2, h3, h4⟩ := fro_ok r h
  intro t ht
  by_cases hn : r.fro.2 = .nil
  · have e : r.thrs = [] := by unfold Tm.thrs; rw [hn]
    rw [e] at ht; simp at ht
  · rw [thrs_pars hn] at ht
    have := hp _ h1 t ht
    exact ⟨this.1, by omega⟩
theorem bothSu (s : ByteArray) (hs : s.size ≤ 9223372036854775807) : ∃ (us : List Tm) (b : Bool), us.length ≤ 300 ∧ (∀ w, Calls Tryz.prog 22 #[.string s] w (fun e w' => ∃ v', e = .returned (.tuple #[v', .bool b]) ∧ w'.ownsRow w.heap.size 9 1 v' (us).length ((us).map sv) ∧ Below w.heap.size w w')) ∧ (∀ w, Calls Tryz.prog 23 #[.string s] w (fun e w' => ∃ v', e = .returned (.tuple #[v', .bool b]) ∧ w'.ownsRow w.heap.size 9 1 v' (us).length ((us).map sv) ∧ Below w.heap.size w w')) := by
  have h1 := specO s hs
  have h2 := implO s hs
  cases e : nfO s with
  | none =>
    rw [e] at h1 h2
    exact ⟨[], false, by simp, sSu_a s [] (sTh_a s ⟨#[]⟩ h1), iSu_a s h2⟩
  | some r =>
    rw [e] at h1 h2
    obtain ⟨hf, hok, h300, h60⟩ := nfO_some e
    obtain ⟨f1, f2, f3⟩ := form_lvl hf
    obtain ⟨t1, t2⟩ := thrs_len r
    have hl := levelOf_any r (by omega)
    rw [f2] at hl
    have hTh := sTh_b s (S r) r.thrs h1 (nfThreads_any r (ok_LE r hok) (by omega) (by omega))
    have hmem := thr_mem_ok r nmE (ok_LE r hok)
    cases ht : r.thrs with
    | nil =>
      rw [ht] at hl hTh
      exact ⟨[], true, by simp, sSu_b s hTh, iSu_b s _ _ _ h2 hl⟩
    | cons T us =>
      have hT : T ∈ r.thrs := by rw [ht]; simp
      obtain ⟨m1, m2⟩ := hmem T hT
      have hpl := t2 T hT
      have hfl : smds T = T.sumR := (f3 T hT).2
      rw [ht] at hl hTh
      have hsz := sumR_size T
      refine ⟨T.sumR, true, by omega, sSu_c s (T :: us) T rfl hTh m1 (by omega) (by omega), ?_⟩
      have hsu := summandsOf_any T (by omega)
      rw [hfl] at hsu
      exact iSu_c s _ _ _ (T :: us) T.sumR T rfl (by omega) (fun u hu => by rw [← hfl] at hu; have := smds_txt T u hu; omega) h2 hl hsu

end Go.Proofs.YtnncoaeolfckbabGreat.T1
