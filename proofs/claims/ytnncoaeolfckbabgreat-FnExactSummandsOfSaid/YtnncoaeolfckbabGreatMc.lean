/- The threads of a normal form: in the specification. -/
import Derived.Test.YtnncoaeolfckbabGreatMb
namespace Go.Proofs.YtnncoaeolfckbabGreat.T1
open Go.RowKit
set_option maxRecDepth 100000
set_option linter.unusedVariables false
set_option linter.unusedSimpArgs false

theorem kind_ni2 {t : Tm} (h : t ≠ .nil) (hE : t.ok nmE = true) : ((t.kind.toNat : Int) == 48) = false := by
  cases t <;> first | rfl | exact absurd rfl h
theorem kind_pa2 {t : Tm} (h : ∀ p q, t ≠ .par p q) (hE : t.ok nmE = true) : ((t.kind.toNat : Int) == 38) = false := by
  cases t <;> first | rfl | exact absurd rfl (h _ _)
theorem pars_ne (t : Tm) : t.pars ≠ [] := by cases t <;> (intro e; cases e)
theorem pars_no {t : Tm} (h : ∀ p q, t ≠ .par p q) : t.pars = [t] := by
  cases t <;> first | rfl | exact absurd rfl (h _ _)
theorem pars_size (t : Tm) : t.pars.length ≤ t.size := by
  induction t with
  | par p q ih ih2 => simp only [Tm.pars, List.length_cons, Tm.size]; omega
  | _ => simp [Tm.pars, Tm.size]
set_option maxHeartbeats 4000000 in
theorem nfThreads_nil (X Y F : ByteArray) (hF : ∀ w, Calls Tryz.prog 25 #[.string X] w fun e w' => e = .returned (.tuple #[.string F, .string Y]) ∧ w = w') (hK : ∀ w, Calls Tryz.prog 44 #[.string Y] w fun e w' => e = .returned (.int .u8 48) ∧ w = w') (w : World) :
    Calls Tryz.prog 28 #[.string X] w (TxP [] 0 w) := by
  have HF := Lib.hid hF
  have HK := Lib.hid hK
  clear hF hK
  go_enter Tryz.func28, Tryz.ntmps28
  go_wp2_with fail
  refine (HF.out _).mono ?_
  rintro e w1 ⟨rfl, rfl⟩
  go_wp2_with fail
  refine (HK.out _).mono ?_
  rintro e w1 ⟨rfl, rfl⟩
  go_wp2_with fail
  go_ret
  exact ⟨_, rfl, World.ownsRow_nil _ _ _ _, Below.refl _ _⟩
set_option maxHeartbeats 8000000 in
theorem nfThreads_some (X F : ByteArray) (t : Tm) (hF : ∀ w, Calls Tryz.prog 25 #[.string X] w fun e w' => e = .returned (.tuple #[.string F, .string (S t)]) ∧ w = w') (hn : t ≠ .nil) (hE : t.ok nmE = true) (hl : t.pr.length ≤ 700) (hs : t.size ≤ 500) (w : World) :
    Calls Tryz.prog 28 #[.string X] w (TxP t.pars t.pars.length w) := by
  obtain ⟨i0, hi, hz0, hz1, hz2⟩ := info_parts Tryz.infoS
  have HF := Lib.hid hF
  have HK := Lib.hid (tmKind_any t hE hl)
  have hk0 := kind_ni2 hn hE
  have HE := Lib.hid hE
  have HL := Lib.hid hl
  have HS := Lib.hid hs
  have hps := pars_size t
  obtain ⟨k0, hk⟩ : ∃ k0 : Int, k0 = (t.kind.toNat : Int) := ⟨_, rfl⟩
  rw [← hk] at HK hk0
  obtain ⟨X0, hX0⟩ : ∃ X, X = S t := ⟨_, rfl⟩
  have HX0 := Lib.hid hX0
  rw [← hX0] at HF HK
  obtain ⟨N, hN⟩ : ∃ N, N = t.pars.length := ⟨_, rfl⟩
  have HN := Lib.hid hN
  rw [← hN] at hps ⊢
  clear hF hE hl hk hX0 hn hN
  go_enter Tryz.func28, Tryz.ntmps28
  go_wp2_with fail
  refine (HF.out _).mono ?_
  rintro e w1 ⟨rfl, rfl⟩
  go_wp2_with fail
  refine (HK.out _).mono ?_
  rintro e w1 ⟨rfl, rfl⟩
  go_wp2_with fail
  go_loopg [0, 3] 500 (fun g s0 s3 wr => (∃ (Y : ByteArray) (i : Nat), s0 = .string Y ∧ i + 1 ≤ N ∧ Hid (∃ (xs : List Tm) (u : Tm), Y = S u ∧ i = xs.length ∧ t.pars = xs ++ u.pars ∧ u.ok nmE = true ∧ u.pr.length ≤ 700 ∧ u.size ≤ g ∧ wr.ownsRow w.heap.size 9 1 s3 i (xs.map sv))) ∧ Hid (Below w.heap.size w wr))
  case atStart =>
    exact ⟨⟨X0, 0, rfl, by have := HN.out; have := pars_ne t; have : 0 < t.pars.length := List.length_pos_iff.2 (pars_ne t); omega, [], t, HX0.out, rfl, rfl, HE.out, HL.out, HS.out, World.ownsRow_nil _ _ _ _⟩, Below.refl _ _⟩
  case round =>
    obtain ⟨⟨Y, i, rfl, hiN, hex⟩, hbl⟩ := hrel
    obtain ⟨xs, u, rfl, hix, hpx, hu, hul, hus, hown⟩ := hex.out
    have HKu := Lib.hid (tmKind_any u hu hul wr)
    have HO := Lib.hid hown
    have hsz := hbl.out.size
    clear hex
    by_cases hp : ∃ p q, u = .par p q
    · obtain ⟨p, q, rfl⟩ := hp
      have HP := Lib.hid (tmParts_any (.par p q) hu hul wr)
      have hk : (((Tm.par p q).kind.toNat : Nat) : Int) = 38 := rfl
      rw [hk] at HKu
      simp only [Tm.ok, Bool.and_eq_true] at hu
      simp only [Tm.pr, List.length_append, List.length_cons, List.length_nil] at hul
      simp only [Tm.size] at hus
      have hpl : (p :: q.pars).length ≤ t.pars.length := by rw [hpx]; simp [Tm.pars]
      have hiN2 : i + 2 ≤ N := by
        have := HN.out
        have h2 : t.pars.length = xs.length + (Tm.par p q).pars.length := by rw [hpx, List.length_append]
        have h3 : 0 < q.pars.length := List.length_pos_iff.2 (pars_ne q)
        simp only [Tm.pars, List.length_cons] at h2
        omega
      have hnew : Hid (t.pars = (xs ++ [p]) ++ q.pars ∧ i + 1 = (xs ++ [p]).length ∧ (xs ++ [p]).map sv = xs.map sv ++ [.string (S p)]) := ⟨by rw [hpx]; simp [Tm.pars], by rw [hix]; simp, by simp [sv]⟩
      have hq := Lib.hid (show q.ok nmE = true ∧ q.pr.length ≤ 700 ∧ q.size ≤ gk - 1 from ⟨hu.2, by omega, by omega⟩)
      obtain ⟨U, hU⟩ : ∃ U, U = S (Tm.par p q) := ⟨_, rfl⟩
      obtain ⟨A, hA⟩ : ∃ A, A = S p := ⟨_, rfl⟩
      obtain ⟨Bq, hB⟩ : ∃ Bq, Bq = S q := ⟨_, rfl⟩
      have HBq := Lib.hid hB
      have HP2 : Hid (Calls Tryz.prog 45 #[.string U] wr fun e w' => ∃ b, e = .returned (.slice (some ⟨b, 0, none⟩) 2 2) ∧ wr.heap.size ≤ b ∧ w'.heap[b]? = some (.cells #[.string A, .string Bq] 9 (0, 0)) ∧ Below wr.heap.size wr w') := by
        rw [hU, hA, hB]; exact HP.out
      rw [← hA] at hnew
      rw [← hU] at HKu ⊢
      have hgp : 1 ≤ gk := by omega
      clear hU hA hB HP hu hul hus hpl hk hpx hix hown
      go_wp2_with fail
      refine (HKu.out).mono ?_
      rintro e w2 ⟨rfl, rfl⟩
      go_wp2_with fail
      refine (HP2.out).mono ?_
      rintro e w3 ⟨b, rfl, hb, hh, b3⟩
      have c0 := cellOf2a hh
      have hO3 := Lib.hid (own_below2 HO.out b3)
      have hbl3 := Lib.hid (below_go hbl.out b3)
      have HH := Lib.hid hh
      have hblt := lt_of_block hh
      have hne : Hid (∀ g, u3.ownBlock = some g → g < b ∧ w.heap.size ≤ g) := fun g e => by
        have := HO.out.lt g e
        exact ⟨by omega, this.1⟩
      clear hb hh b3 hbl HO
      go_wp2_with (at_builtin; refine wpList_append_rows rfl (.tmp 18) (.tmp 22) 25 rfl w.heap.size w.heap.size 9 i0 (.string ⟨#[]⟩) 16 Tryz.underlying25 hi hz0 hz1 hz2 rfl u3 i _ rfl (hO3.out.alloc _) _ 1 [.string A] rfl (own_new1 w3 (.string A) 9 w.heap.size hbl3.out.size) (fun u hu => by simp at hu; subst hu; rfl) ?c2 ?c3 ?c4 ?_)
      case c2 => unfold maxLen; omega
      case c3 => omega
      case c4 => have := hbl3.out.size; simp; omega
      intro v4 w4 hown4 hgrow4 _
      have hb4 : w4.heap[b]? = some (.cells #[.string A, .string Bq] 9 (0, 0)) := by
        rw [hgrow4.block b (by simp; omega) (fun e => by have := hne.out b e.symm; omega)]
        exact (heap_alloc_old w3 _ hblt).trans HH.out
      have c1 := cellOf2b hb4
      have O4 : Hid (w4.ownsRow w.heap.size 9 1 v4 (i + 1) ((xs ++ [p]).map sv)) := by
        show World.ownsRow _ _ _ _ _ _ _
        rw [hnew.out.2.2]; exact hown4
      have bl4 := Lib.hid (below_grown2 (hbl3.out.alloc hbl3.out.size _) hgrow4 (fun g e => (hne.out g e).2) (by have := hbl3.out.size; simp; omega))
      clear hown4 hgrow4 hb4 hbl3 hO3 HH
      go_wp2_with fail
      go_roundg (gk - 1)
      case rel => exact ⟨⟨_, i + 1, rfl, by omega, xs ++ [p], q, HBq.out, hnew.out.2.1, hnew.out.1, hq.out.1, hq.out.2.1, hq.out.2.2, O4.out⟩, bl4⟩
      case measure => omega
    · have hno : ∀ p q, u ≠ .par p q := fun p q e => hp ⟨p, q, e⟩
      have hk := kind_pa2 hno hu
      have hpp := pars_no hno
      have hfin : Hid (i + 1 = N ∧ t.pars.map sv = xs.map sv ++ [.string (S u)]) := ⟨by rw [HN.out, hpx, hpp, hix]; simp, by rw [hpx, hpp]; simp [sv]⟩
      obtain ⟨kk, hkk⟩ : ∃ kk : Int, kk = (u.kind.toNat : Int) := ⟨_, rfl⟩
      rw [← hkk] at HKu hk
      obtain ⟨U, hU⟩ : ∃ U, U = S u := ⟨_, rfl⟩
      rw [← hU] at HKu hfin ⊢
      have hne : Hid (∀ g, u3.ownBlock = some g → w.heap.size ≤ g) := fun g e => (HO.out.lt g e).1
      clear hU hkk hpx hix hu hul hus hp hno hpp hown
      go_wp2_with fail
      refine (HKu.out).mono ?_
      rintro e w2 ⟨rfl, rfl⟩
      go_wp2_with (at_builtin; refine wpList_append_rows rfl (.tmp 27) (.tmp 29) 25 rfl w.heap.size w.heap.size 9 i0 (.string ⟨#[]⟩) 16 Tryz.underlying25 hi hz0 hz1 hz2 rfl u3 i _ rfl (HO.out.alloc _) _ 1 [.string U] rfl (own_new1 _ (.string U) 9 w.heap.size hsz) (fun u hu => by simp at hu; subst hu; rfl) ?c2 ?c3 ?c4 ?_)
      case c2 => unfold maxLen; omega
      case c3 => omega
      case c4 => simp; omega
      intro v4 w4 hown4 hgrow4 _
      have O4 : Hid (w4.ownsRow w.heap.size 9 1 v4 N (t.pars.map sv)) := by
        show World.ownsRow _ _ _ _ _ _ _
        rw [hfin.out.2, ← hfin.out.1]; exact hown4
      have bl4 := Lib.hid (below_grown2 (hbl.out.alloc hsz _) hgrow4 (fun g e => hne.out g e) (by simp; omega))
      clear hown4 hgrow4
      go_wp2_with fail
      go_ret
      exact ⟨_, rfl, O4.out, bl4.out⟩
theorem thrs_pars {t : Tm} (h : t.fro.2 ≠ .nil) : t.thrs = t.fro.2.pars := by
  unfold Tm.thrs
  cases e : t.fro.2 <;> first | rfl | exact absurd e h
theorem nfThreads_any (t : Tm) (hE : t.ok nmE = true) (hl : t.pr.length ≤ 700) (hs : t.size ≤ 500) (w : World) :
    Calls Tryz.prog 28 #[.string (S t)] w (TxP t.thrs t.thrs.length w) := by
  obtain ⟨h1, h2, h3, h4⟩ := fro_ok t hE
  by_cases hn : t.fro.2 = .nil
  · have e : t.thrs = [] := by unfold Tm.thrs; rw [hn]
    rw [e]
    have hF := nfFront_any t hE hl hs
    rw [hn] at hF
    exact nfThreads_nil (S t) (S .nil) _ hF (fun w => tmKind_any .nil rfl (by simp [Tm.pr]) w) w
  · rw [thrs_pars hn]
    exact nfThreads_some (S t) _ t.fro.2 (nfFront_any t hE hl hs) hn h1 (by omega) (by omega) w

end Go.Proofs.YtnncoaeolfckbabGreat.T1
