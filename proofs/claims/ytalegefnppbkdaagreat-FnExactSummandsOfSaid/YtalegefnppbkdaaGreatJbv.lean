/- Texts of the proof, put together: Mb, Mc, Md, Me, Mf, Rch. No conditions. -/
import Derived.Test.YtalegefnppbkdaaGreatJay
import Derived.Test.YtalegefnppbkdaaGreatJbt
import Derived.Test.YtalegefnppbkdaaGreatJbu
namespace Go.Proofs.YtalegefnppbkdaaGreat.T1
set_option maxHeartbeats 8000000
open Go.RowKit
set_option maxRecDepth 100000
set_option linter.unusedVariables false
set_option linter.unusedSimpArgs false
theorem fro_ok {nm : UInt8 → Bool} (t : Tm) (h : t.ok nm = true) : t.fro.2.ok nm = true ∧ t.fro.2.pr.length ≤ t.pr.length ∧ t.fro.2.size ≤ t.size ∧ ∀ x p, t.fro.2 ≠ .own x p := by
 induction t with
 | own x p ih =>
  simp only [Tm.ok, Bool.and_eq_true] at h
  obtain ⟨h1, h2, h3, h4⟩ := ih h.2
  exact ⟨h1, by simp only [Tm.fro, Tm.pr, List.length_append, List.length_cons]; omega, by simp only [Tm.fro, Tm.size]; omega, h4⟩
 | _ => exact ⟨h, Nat.le_refl _, Nat.le_refl _, fun _ _ e => (by cases e)⟩
theorem kind_ow2 {t : Tm} (hE : t.ok nmE = true) (h : ∀ x p, t ≠ .own x p) : ((t.kind.toNat : Int) == 35) = false := by
 cases t <;> first | rfl | exact absurd rfl (h _ _)
theorem dat_inj {a b : ByteArray} (h : a.data.toList = b.data.toList) : a = b := by
 cases a; cases b; congr; exact Array.toList_inj.1 h
theorem BL (f : List UInt8) (x : UInt8) : B f ++ B [x] = B (f ++ [x]) := by
 apply dat_inj
 show (B f ++ B [x]).data.toList = (B (f ++ [x])).data.toList
 rw [ByteArray.data_append, Array.toList_append, B_list, B_list, B_list]
theorem nfFront_any (t : Tm) (hE : t.ok nmE = true) (hl : t.pr.length ≤ 700) (hs : t.size ≤ 500) (w : World) :
  Calls Tryz.prog 52 #[.string (S t)] w fun e w' => e = .returned (.tuple #[.string (B t.fro.1), .string (S t.fro.2)]) ∧ w = w' := by
 have HE := Lib.hid hE
 have HL := Lib.hid hl
 have HS := Lib.hid hs
 clear hE hl hs
 obtain ⟨X0, hX0⟩ : ∃ X, X = S t := ⟨_, rfl⟩
 have HX0 := Lib.hid hX0
 rw [← hX0]
 clear hX0
 go_enter Tryz.func52, Tryz.ntmps52
 go_wp2_with fail
 go_loopg [0, 4] 500 (fun g s0 s4 wr => (∃ X Y : ByteArray, s0 = .string X ∧ s4 = .string Y ∧ Y.size + g ≤ 500 ∧ Hid (∃ (f : List UInt8) (u : Tm), X = S u ∧ Y = B f ∧ t.fro = (f ++ u.fro.1, u.fro.2) ∧ u.ok nmE = true ∧ u.pr.length ≤ 700 ∧ u.size ≤ g)) ∧ wr = w)
 case atStart => exact ⟨⟨X0, ⟨#[]⟩, rfl, rfl, by decide, [], t, HX0.out, rfl, rfl, HE.out, HL.out, HS.out⟩, rfl⟩
 case round =>
  obtain ⟨⟨X, Y, rfl, rfl, hY, hex⟩, rfl⟩ := hrel
  obtain ⟨f, u, rfl, eY, ef, hu, hul, hus⟩ := hex.out
  have HK := Lib.hid (tmKind_any u hu hul wr)
  by_cases ho : ∃ x p, u = .own x p
  ·obtain ⟨x, p, rfl⟩ := ho
   have e1 : (S (Tm.own x p)).extract 1 2 = B [x] := by
    refine dat_inj ?_
    rw [ByteArray.data_extract, Array.toList_extract, List.extract_eq_take_drop, S_list, B_list]; rfl
   have e2 : (S (Tm.own x p)).extract 3 (S (Tm.own x p)).size = S p := ext_pre (t := .own x p) (p := p) (pre := [35, x, 46]) rfl
   have hz : (S (Tm.own x p)).size = p.pr.length + 3 := by rw [S_size]; simp [Tm.pr]
   simp only [Tm.pr, List.length_append, List.length_cons, List.length_nil] at hul
   simp only [Tm.size] at hus
   simp only [Tm.ok, Bool.and_eq_true] at hu
   have hk : (((Tm.own x p).kind.toNat : Nat) : Int) = 35 := rfl
   rw [hk] at HK
   obtain ⟨U, hU⟩ : ∃ U, U = S (Tm.own x p) := ⟨_, rfl⟩
   rw [← hU] at HK e1 e2 hz
   have hnew : Hid (∃ (f : List UInt8) (u : Tm), U.extract 3 U.size = S u ∧ Y ++ U.extract 1 2 = B f ∧ t.fro = (f ++ u.fro.1, u.fro.2) ∧ u.ok nmE = true ∧ u.pr.length ≤ 700 ∧ u.size ≤ gk - 1) :=
    ⟨f ++ [x], p, e2, by rw [eY, e1, BL], by rw [ef]; simp [Tm.fro], hu.2, by omega, by omega⟩
   have hy1 : (Y ++ U.extract 1 2).size = Y.size + 1 := by rw [ByteArray.size_append, e1, B_size]; rfl
   have hs3 : (3 : Int) ≤ (U.size : Int) := by omega
   have hs2 : (2 : Int) ≤ (U.size : Int) := by omega
   have hsU : U.size ≤ 1000 := by omega
   clear hz
   have he12 : (U.extract 1 2).size = 1 := by rw [e1, B_size]; rfl
   have hgp : 1 ≤ gk := by omega
   rw [← hU]
   clear hU eY ef hu hul hus hk e1 e2 hex
   go_wp2_with fail
   refine (HK.out).mono ?_
   rintro e w1 ⟨rfl, rfl⟩
   go_wp2_with fail
   go_roundg (gk - 1)
   case rel => exact ⟨⟨_, _, rfl, rfl, by omega, hnew⟩, rfl⟩
   case measure => omega
  ·have hno : ∀ x p, u ≠ .own x p := fun x p e => ho ⟨x, p, e⟩
   have hk := kind_ow2 hu hno
   have hfr : u.fro = ([], u) := by cases u <;> first | rfl | exact absurd rfl (hno _ _)
   have h1 : Hid (Y = B t.fro.1) := by show _ = _; rw [ef, hfr, eY]; simp
   have h2 : Hid (S u = S t.fro.2) := by show _ = _; rw [ef, hfr]
   obtain ⟨kk, hkk⟩ : ∃ kk : Int, kk = (u.kind.toNat : Int) := ⟨_, rfl⟩
   rw [← hkk] at HK hk
   obtain ⟨U, hU⟩ : ∃ U, U = S u := ⟨_, rfl⟩
   rw [← hU] at HK h2 ⊢
   clear hU hkk eY ef hu hul hus hex ho hno hfr
   go_wp2_with fail
   refine (HK.out).mono ?_
   rintro e w1 ⟨rfl, rfl⟩
   go_wp2_with fail
   go_ret2
   exact ⟨by rw [← h1.out, ← h2.out]; rfl, rfl⟩
theorem kind_ni2 {t : Tm} (h : t ≠ .nil) (hE : t.ok nmE = true) : ((t.kind.toNat : Int) == 48) = false := by
 cases t <;> first | rfl | exact absurd rfl h
theorem kind_pa2 {t : Tm} (h : ∀ p q, t ≠ .par p q) (hE : t.ok nmE = true) : ((t.kind.toNat : Int) == 38) = false := by
 cases t <;> first | rfl | exact absurd rfl (h _ _)
theorem pars_ne (t : Tm) : t.pars ≠ [] := by cases t <;> (intro e; cases e)
theorem pars_no {t : Tm} (h : ∀ p q, t ≠ .par p q) : t.pars = [t] := by
 cases t <;> first | rfl | exact absurd rfl (h _ _)
theorem pars_size (t : Tm) : t.pars.length ≤ t.size := by
 induction t with
 | par p q ih ih2 => simp only [Tm.pars, List.length_cons, Tm.size]; omega
 | _ => simp [Tm.pars, Tm.size]
theorem nfThreads_nil (X Y F : ByteArray) (hF : ∀ w, Calls Tryz.prog 52 #[.string X] w fun e w' => e = .returned (.tuple #[.string F, .string Y]) ∧ w = w') (hK : ∀ w, Calls Tryz.prog 71 #[.string Y] w fun e w' => e = .returned (.int .u8 48) ∧ w = w') (w : World) :
  Calls Tryz.prog 55 #[.string X] w (TxP [] 0 w) := by
 have HF := Lib.hid hF
 have HK := Lib.hid hK
 clear hF hK
 go_enter Tryz.func55, Tryz.ntmps55
 go_wp2_with fail
 refine (HF.out _).mono ?_
 rintro e w1 ⟨rfl, rfl⟩
 go_wp2_with fail
 refine (HK.out _).mono ?_
 rintro e w1 ⟨rfl, rfl⟩
 go_wp2_with fail
 go_ret
 exact ⟨_, rfl, World.ownsRow_nil _ _ _ _, Below.refl _ _⟩
theorem nfThreads_some (X F : ByteArray) (t : Tm) (hF : ∀ w, Calls Tryz.prog 52 #[.string X] w fun e w' => e = .returned (.tuple #[.string F, .string (S t)]) ∧ w = w') (hn : t ≠ .nil) (hE : t.ok nmE = true) (hl : t.pr.length ≤ 700) (hs : t.size ≤ 500) (w : World) :
  Calls Tryz.prog 55 #[.string X] w (TxP t.pars t.pars.length w) := by
 obtain ⟨i0, hi, hz0, hz1, hz2⟩ := info_parts Tryz.infoS
 have HF := Lib.hid hF
 have HK := Lib.hid (tmKind_any t hE hl)
 have hk0 := kind_ni2 hn hE
 have HE := Lib.hid hE
 have HL := Lib.hid hl
 have HS := Lib.hid hs
 have hps := pars_size t
 obtain ⟨k0, hk⟩ : ∃ k0 : Int, k0 = (t.kind.toNat : Int) := ⟨_, rfl⟩
 rw [← hk] at HK hk0
 obtain ⟨X0, hX0⟩ : ∃ X, X = S t := ⟨_, rfl⟩
 have HX0 := Lib.hid hX0
 rw [← hX0] at HF HK
 obtain ⟨N, hN⟩ : ∃ N, N = t.pars.length := ⟨_, rfl⟩
 have HN := Lib.hid hN
 rw [← hN] at hps ⊢
 clear hF hE hl hk hX0 hn hN
 go_enter Tryz.func55, Tryz.ntmps55
 go_wp2_with fail
 refine (HF.out _).mono ?_
 rintro e w1 ⟨rfl, rfl⟩
 go_wp2_with fail
 refine (HK.out _).mono ?_
 rintro e w1 ⟨rfl, rfl⟩
 go_wp2_with fail
 go_loopg [0, 3] 500 (fun g s0 s3 wr => (∃ (Y : ByteArray) (i : Nat), s0 = .string Y ∧ i + 1 ≤ N ∧ Hid (∃ (xs : List Tm) (u : Tm), Y = S u ∧ i = xs.length ∧ t.pars = xs ++ u.pars ∧ u.ok nmE = true ∧ u.pr.length ≤ 700 ∧ u.size ≤ g ∧ wr.ownsRow w.heap.size 9 1 s3 i (xs.map sv))) ∧ Hid (Below w.heap.size w wr))
 case atStart =>
  exact ⟨⟨X0, 0, rfl, by have := HN.out; have := pars_ne t; have : 0 < t.pars.length := List.length_pos_iff.2 (pars_ne t); omega, [], t, HX0.out, rfl, rfl, HE.out, HL.out, HS.out, World.ownsRow_nil _ _ _ _⟩, Below.refl _ _⟩
 case round =>
  obtain ⟨⟨Y, i, rfl, hiN, hex⟩, hbl⟩ := hrel
  obtain ⟨xs, u, rfl, hix, hpx, hu, hul, hus, hown⟩ := hex.out
  have HKu := Lib.hid (tmKind_any u hu hul wr)
  have HO := Lib.hid hown
  have hsz := hbl.out.size
  clear hex
  by_cases hp : ∃ p q, u = .par p q
  ·obtain ⟨p, q, rfl⟩ := hp
   have HP := Lib.hid (tmParts_any (.par p q) hu hul wr)
   have hk : (((Tm.par p q).kind.toNat : Nat) : Int) = 38 := rfl
   rw [hk] at HKu
   simp only [Tm.ok, Bool.and_eq_true] at hu
   simp only [Tm.pr, List.length_append, List.length_cons, List.length_nil] at hul
   simp only [Tm.size] at hus
   have hpl : (p :: q.pars).length ≤ t.pars.length := by rw [hpx]; simp [Tm.pars]
   have hiN2 : i + 2 ≤ N := by
    have := HN.out
    have h2 : t.pars.length = xs.length + (Tm.par p q).pars.length := by rw [hpx, List.length_append]
    have h3 : 0 < q.pars.length := List.length_pos_iff.2 (pars_ne q)
    simp only [Tm.pars, List.length_cons] at h2
    omega
   have hnew : Hid (t.pars = (xs ++ [p]) ++ q.pars ∧ i + 1 = (xs ++ [p]).length ∧ (xs ++ [p]).map sv = xs.map sv ++ [.string (S p)]) := ⟨by rw [hpx]; simp [Tm.pars], by rw [hix]; simp, by simp [sv]⟩
   have hq := Lib.hid (show q.ok nmE = true ∧ q.pr.length ≤ 700 ∧ q.size ≤ gk - 1 from ⟨hu.2, by omega, by omega⟩)
   obtain ⟨U, hU⟩ : ∃ U, U = S (Tm.par p q) := ⟨_, rfl⟩
   obtain ⟨A, hA⟩ : ∃ A, A = S p := ⟨_, rfl⟩
   obtain ⟨Bq, hB⟩ : ∃ Bq, Bq = S q := ⟨_, rfl⟩
   have HBq := Lib.hid hB
   have HP2 : Hid (Calls Tryz.prog 72 #[.string U] wr fun e w' => ∃ b, e = .returned (.slice (some ⟨b, 0, none⟩) 2 2) ∧ wr.heap.size ≤ b ∧ w'.heap[b]? = some (.cells #[.string A, .string Bq] 9 (0, 0)) ∧ Below wr.heap.size wr w') := by
    rw [hU, hA, hB]; exact HP.out
   rw [← hA] at hnew
   rw [← hU] at HKu ⊢
   have hgp : 1 ≤ gk := by omega
   clear hU hA hB HP hu hul hus hpl hk hpx hix hown
   go_wp2_with fail
   refine (HKu.out).mono ?_
   rintro e w2 ⟨rfl, rfl⟩
   go_wp2_with fail
   refine (HP2.out).mono ?_
   rintro e w3 ⟨b, rfl, hb, hh, b3⟩
   have c0 := cellOf2a hh
   have hO3 := Lib.hid (own_below2 HO.out b3)
   have hbl3 := Lib.hid (below_go hbl.out b3)
   have HH := Lib.hid hh
   have hblt := lt_of_block hh
   have hne : Hid (∀ g, u3.ownBlock = some g → g < b ∧ w.heap.size ≤ g) := fun g e => by
    have := HO.out.lt g e
    exact ⟨by omega, this.1⟩
   clear hb hh b3 hbl HO
   go_wp2_with (at_builtin; refine wpList_append_rows rfl (.tmp 18) (.tmp 22) 29 rfl w.heap.size w.heap.size 9 i0 (.string ⟨#[]⟩) 16 Tryz.underlying29 hi hz0 hz1 hz2 rfl u3 i _ rfl (hO3.out.alloc _) _ 1 [.string A] rfl (own_new1 w3 (.string A) 9 w.heap.size hbl3.out.size) (fun u hu => by simp at hu; subst hu; rfl) ?c2 ?c3 ?c4 ?_)
   case c2 => unfold maxLen; omega
   case c3 => omega
   case c4 => have := hbl3.out.size; simp; omega
   intro v4 w4 hown4 hgrow4 _
   have hb4 : w4.heap[b]? = some (.cells #[.string A, .string Bq] 9 (0, 0)) := by
    rw [hgrow4.block b (by simp; omega) (fun e => by have := hne.out b e.symm; omega)]
    exact (heap_alloc_old w3 _ hblt).trans HH.out
   have c1 := cellOf2b hb4
   have O4 : Hid (w4.ownsRow w.heap.size 9 1 v4 (i + 1) ((xs ++ [p]).map sv)) := by
    show World.ownsRow _ _ _ _ _ _ _
    rw [hnew.out.2.2]; exact hown4
   have bl4 := Lib.hid (below_grown2 (hbl3.out.alloc hbl3.out.size _) hgrow4 (fun g e => (hne.out g e).2) (by have := hbl3.out.size; simp; omega))
   clear hown4 hgrow4 hb4 hbl3 hO3 HH
   go_wp2_with fail
   go_roundg (gk - 1)
   case rel => exact ⟨⟨_, i + 1, rfl, by omega, xs ++ [p], q, HBq.out, hnew.out.2.1, hnew.out.1, hq.out.1, hq.out.2.1, hq.out.2.2, O4.out⟩, bl4⟩
   case measure => omega
  ·have hno : ∀ p q, u ≠ .par p q := fun p q e => hp ⟨p, q, e⟩
   have hk := kind_pa2 hno hu
   have hpp := pars_no hno
   have hfin : Hid (i + 1 = N ∧ t.pars.map sv = xs.map sv ++ [.string (S u)]) := ⟨by rw [HN.out, hpx, hpp, hix]; simp, by rw [hpx, hpp]; simp [sv]⟩
   obtain ⟨kk, hkk⟩ : ∃ kk : Int, kk = (u.kind.toNat : Int) := ⟨_, rfl⟩
   rw [← hkk] at HKu hk
   obtain ⟨U, hU⟩ : ∃ U, U = S u := ⟨_, rfl⟩
   rw [← hU] at HKu hfin ⊢
   have hne : Hid (∀ g, u3.ownBlock = some g → w.heap.size ≤ g) := fun g e => (HO.out.lt g e).1
   clear hU hkk hpx hix hu hul hus hp hno hpp hown
   go_wp2_with fail
   refine (HKu.out).mono ?_
   rintro e w2 ⟨rfl, rfl⟩
   go_wp2_with (at_builtin; refine wpList_append_rows rfl (.tmp 27) (.tmp 29) 29 rfl w.heap.size w.heap.size 9 i0 (.string ⟨#[]⟩) 16 Tryz.underlying29 hi hz0 hz1 hz2 rfl u3 i _ rfl (HO.out.alloc _) _ 1 [.string U] rfl (own_new1 _ (.string U) 9 w.heap.size hsz) (fun u hu => by simp at hu; subst hu; rfl) ?c2 ?c3 ?c4 ?_)
   case c2 => unfold maxLen; omega
   case c3 => omega
   case c4 => simp; omega
   intro v4 w4 hown4 hgrow4 _
   have O4 : Hid (w4.ownsRow w.heap.size 9 1 v4 N (t.pars.map sv)) := by
    show World.ownsRow _ _ _ _ _ _ _
    rw [hfin.out.2, ← hfin.out.1]; exact hown4
   have bl4 := Lib.hid (below_grown2 (hbl.out.alloc hsz _) hgrow4 (fun g e => hne.out g e) (by simp; omega))
   clear hown4 hgrow4
   go_wp2_with fail
   go_ret
   exact ⟨_, rfl, O4.out, bl4.out⟩
theorem thrs_pars {t : Tm} (h : t.fro.2 ≠ .nil) : t.thrs = t.fro.2.pars := by
 unfold Tm.thrs
 cases e : t.fro.2 <;> first | rfl | exact absurd e h
theorem nfThreads_any (t : Tm) (hE : t.ok nmE = true) (hl : t.pr.length ≤ 700) (hs : t.size ≤ 500) (w : World) :
  Calls Tryz.prog 55 #[.string (S t)] w (TxP t.thrs t.thrs.length w) := by
 obtain ⟨h1, h2, h3, h4⟩ := fro_ok t hE
 by_cases hn : t.fro.2 = .nil
 ·have e : t.thrs = [] := by unfold Tm.thrs; rw [hn]
  rw [e]
  have hF := nfFront_any t hE hl hs
  rw [hn] at hF
  exact nfThreads_nil (S t) (S .nil) _ hF (fun w => tmKind_any .nil rfl (by simp [Tm.pr]) w) w
 ·rw [thrs_pars hn]
  exact nfThreads_some (S t) _ t.fro.2 (nfFront_any t hE hl hs) hn h1 (by omega) (by omega) w
noncomputable def nfO (s : ByteArray) : Option Tm := (good s.data.toList).bind nfI
theorem nfO_some {s : ByteArray} {r : Tm} (h : nfO s = some r) : NfForm r ∧ r.ok nmL = true ∧ r.pr.length ≤ 300 ∧ r.size ≤ 60 := by
 unfold nfO at h
 cases hg : good s.data.toList with
 | none => rw [hg] at h; cases h
 | some t =>
  rw [hg] at h
  have h' : nfI t = some r := h
  refine ⟨nfI_form h', ?_⟩
  unfold nfI at h'
  split at h'
  ·cases h'
  ·split at h'
   ·rename_i hh; cases h'; exact hh
   ·cases h'
theorem nO_no (s : ByteArray) (n1 : ∀ w, Calls Tryz.prog 50 #[.string s] w fun e w' => e = .returned (.tuple #[.nilIface, .bool false]) ∧ Below w.heap.size w w') (w : World) : Calls Tryz.prog 53 #[.string s] w fun e w' => e = .returned (.tuple #[.nilIface, .bool false]) ∧ Below w.heap.size w w' := by
 have Hn1 := Lib.hid n1
 clear n1
 go_enter Tryz.func53, Tryz.ntmps53
 go_wp2_with fail
 refine (Hn1.out _).mono ?_
 rintro e w1 ⟨rfl, c1⟩
 have b1 := c1
 go_wp2_with fail
 go_ret2
 exact ⟨rfl, b1⟩
theorem nO_yes (s : ByteArray) (T : TypeId) (V PV : Value) (b : Bool) (n1 : ∀ w, Calls Tryz.prog 50 #[.string s] w fun e w' => e = .returned (.tuple #[.iface T V, .bool true]) ∧ Below w.heap.size w w') (n2 : ∀ w, Calls Tryz.prog 85 #[.iface T V] w fun e w' => e = .returned (.tuple #[PV, .bool b]) ∧ Below w.heap.size w w') (w : World) : Calls Tryz.prog 53 #[.string s] w fun e w' => e = .returned (.tuple #[PV, .bool b]) ∧ Below w.heap.size w w' := by
 have Hn1 := Lib.hid n1
 have Hn2 := Lib.hid n2
 clear n1 n2
 go_enter Tryz.func53, Tryz.ntmps53
 go_wp2_with fail
 refine (Hn1.out _).mono ?_
 rintro e w1 ⟨rfl, c1⟩
 have b1 := c1
 go_wp2_with fail
 refine (Hn2.out _).mono ?_
 rintro e w2 ⟨rfl, c2⟩
 have b2 := below_go b1 c2
 go_wp2_with fail
 go_ret2
 exact ⟨rfl, b2⟩
theorem implO (s : ByteArray) (hm : s.size ≤ 9223372036854775807) (w : World) : Calls Tryz.prog 53 #[.string s] w fun e w' => e = .returned (.tuple #[nfV (nfO s), .bool (nfO s).isSome]) ∧ Below w.heap.size w w' := by
 unfold nfO
 cases hg : good s.data.toList with
 | none => exact nO_no s (fun w => parse_none hg w hm) w
 | some t =>
  obtain ⟨es, hL, hE, h300, h60⟩ := good_S hg
  exact nO_yes s _ _ _ _ (fun w => parse_some hg w hm) (normalForm_any t hL (by omega) (by omega)) w
theorem specO (s : ByteArray) (hm : s.size ≤ 9223372036854775807) (w : World) : Calls Tryz.prog 17 #[.string s] w (TwoS (optS (nfO s)) (nfO s).isSome w) := by
 unfold nfO
 cases hg : good s.data.toList with
 | none => exact sN_no s (fun w => tmGood_none hg w hm) w
 | some t =>
  obtain ⟨es, hL, hE, h300, h60⟩ := good_S hg
  have hf : FitT t := .inl (fit_ok t hL (by omega))
  have h1 := nfIf_any t (by omega) hf hL (by omega)
  rw [nf_same hL (by omega) hf, ← es] at h1
  exact sN_yes s _ _ (fun w => tmGood_some hg w hm) h1 w
theorem sIn (s X : ByteArray) (b : Bool) (n1 : ∀ w, Calls Tryz.prog 17 #[.string s] w fun e w' => e = .returned (.tuple #[.string X, .bool b]) ∧ Below w.heap.size w w') (w : World) : Calls Tryz.prog 32 #[.string s] w fun e w' => e = .returned (.tuple #[.bool (X.toList == [48]), .bool b]) ∧ Below w.heap.size w w' := by
 have Hn1 := Lib.hid n1
 clear n1
 go_enter Tryz.func32, Tryz.ntmps32
 go_wp2_with fail
 refine (Hn1.out _).mono ?_
 rintro e w1 ⟨rfl, c1⟩
 have b1 := c1
 go_wp2_with fail
 go_ret2
 exact ⟨rfl, b1⟩
theorem iIn_a (s : ByteArray) (n1 : ∀ w, Calls Tryz.prog 53 #[.string s] w fun e w' => e = .returned (.tuple #[.nilIface, .bool false]) ∧ Below w.heap.size w w') (w : World) : Calls Tryz.prog 33 #[.string s] w fun e w' => e = .returned (.tuple #[.bool false, .bool false]) ∧ Below w.heap.size w w' := by
 have Hn1 := Lib.hid n1
 clear n1
 go_enter Tryz.func33, Tryz.ntmps33
 go_wp2_with fail
 refine (Hn1.out _).mono ?_
 rintro e w1 ⟨rfl, c1⟩
 have b1 := c1
 go_wp2_with fail
 go_ret2
 exact ⟨rfl, b1⟩
theorem iIn_b (s : ByteArray) (T : TypeId) (V : Value) (z : Bool) (n1 : ∀ w, Calls Tryz.prog 53 #[.string s] w fun e w' => e = .returned (.tuple #[.iface T V, .bool true]) ∧ Below w.heap.size w w') (n2 : ∀ w, Calls Tryz.prog 58 #[.iface T V] w fun e w' => e = .returned (.bool z) ∧ Below w.heap.size w w') (w : World) : Calls Tryz.prog 33 #[.string s] w fun e w' => e = .returned (.tuple #[.bool z, .bool true]) ∧ Below w.heap.size w w' := by
 have Hn1 := Lib.hid n1
 have Hn2 := Lib.hid n2
 clear n1 n2
 go_enter Tryz.func33, Tryz.ntmps33
 go_wp2_with fail
 refine (Hn1.out _).mono ?_
 rintro e w1 ⟨rfl, c1⟩
 have b1 := c1
 go_wp2_with fail
 refine (Hn2.out _).mono ?_
 rintro e w2 ⟨rfl, c2⟩
 have b2 := below_go b1 c2
 go_wp2_with fail
 go_ret2
 exact ⟨rfl, b2⟩
theorem inert_text (r : Tm) : ((S r).toList == [48]) = isN r := by
 rw [Lib.toList_data, S_list]
 cases r with
 | nil => rfl
 | _ => simp [Tm.pr, isN]
theorem bothIn (s : ByteArray) (hs : s.size ≤ 9223372036854775807) : ∃ (y b : Bool), (∀ w, Calls Tryz.prog 32 #[.string s] w (fun e w' => e = .returned (.tuple #[.bool y, .bool b]) ∧ Below w.heap.size w w')) ∧ (∀ w, Calls Tryz.prog 33 #[.string s] w (fun e w' => e = .returned (.tuple #[.bool y, .bool b]) ∧ Below w.heap.size w w')) := by
 have h1 := specO s hs
 have h2 := implO s hs
 cases e : nfO s with
 | none =>
  rw [e] at h1 h2
  refine ⟨_, _, sIn s ⟨#[]⟩ false h1, ?_⟩
  have : ((⟨#[]⟩ : ByteArray).toList == [48]) = false := by rw [Lib.toList_data]; rfl
  rw [this]
  exact iIn_a s h2
 | some r =>
  rw [e] at h1 h2
  refine ⟨_, _, sIn s (S r) true h1, ?_⟩
  rw [inert_text]
  exact iIn_b s _ _ _ h2 (isNothing_any r)
theorem sFr_a (s X : ByteArray) (n1 : ∀ w, Calls Tryz.prog 17 #[.string s] w fun e w' => e = .returned (.tuple #[.string X, .bool false]) ∧ Below w.heap.size w w') (w : World) : Calls Tryz.prog 23 #[.string s] w fun e w' => e = .returned (.tuple #[.string ⟨#[]⟩, .bool false]) ∧ Below w.heap.size w w' := by
 have Hn1 := Lib.hid n1
 clear n1
 go_enter Tryz.func23, Tryz.ntmps23
 go_wp2_with fail
 refine (Hn1.out _).mono ?_
 rintro e w1 ⟨rfl, c1⟩
 have b1 := c1
 go_wp2_with fail
 go_ret2
 exact ⟨rfl, b1⟩
theorem sFr_b (s X F Y : ByteArray) (n1 : ∀ w, Calls Tryz.prog 17 #[.string s] w fun e w' => e = .returned (.tuple #[.string X, .bool true]) ∧ Below w.heap.size w w') (n2 : ∀ w, Calls Tryz.prog 52 #[.string X] w fun e w' => e = .returned (.tuple #[.string F, .string Y]) ∧ Below w.heap.size w w') (w : World) : Calls Tryz.prog 23 #[.string s] w fun e w' => e = .returned (.tuple #[.string F, .bool true]) ∧ Below w.heap.size w w' := by
 have Hn1 := Lib.hid n1
 have Hn2 := Lib.hid n2
 clear n1 n2
 go_enter Tryz.func23, Tryz.ntmps23
 go_wp2_with fail
 refine (Hn1.out _).mono ?_
 rintro e w1 ⟨rfl, c1⟩
 have b1 := c1
 go_wp2_with fail
 refine (Hn2.out _).mono ?_
 rintro e w2 ⟨rfl, c2⟩
 have b2 := below_go b1 c2
 go_wp2_with fail
 go_ret2
 exact ⟨rfl, b2⟩
theorem iFr_a (s : ByteArray) (n1 : ∀ w, Calls Tryz.prog 53 #[.string s] w fun e w' => e = .returned (.tuple #[.nilIface, .bool false]) ∧ Below w.heap.size w w') (w : World) : Calls Tryz.prog 24 #[.string s] w fun e w' => e = .returned (.tuple #[.string ⟨#[]⟩, .bool false]) ∧ Below w.heap.size w w' := by
 have Hn1 := Lib.hid n1
 clear n1
 go_enter Tryz.func24, Tryz.ntmps24
 go_wp2_with fail
 refine (Hn1.out _).mono ?_
 rintro e w1 ⟨rfl, c1⟩
 have b1 := c1
 go_wp2_with fail
 go_ret2
 exact ⟨rfl, b1⟩
theorem conv_any {w : World} {base n : Nat} {v : Value} (l : List UInt8) (hn : n = l.length) (h : w.ownsRow base 5 1 v n (l.map ub)) : (convert 44 9 v).run Tryz.prog w = .ok (.string (B l)) w := by
 by_cases h0 : 0 < l.length
 ·exact conv_row l hn h0 h
 ·have hl : l = [] := List.length_eq_zero_iff.1 (by omega)
  subst hl
  have hn0 : n = 0 := by simpa using hn
  subst hn0
  rcases h.2 with ⟨e, _⟩ | ⟨g, cap, cur, e, _⟩
  ·rw [e]; exact conv_nil w
  ·rw [e]
   exact run_convert_bytes_back w 44 9 5 ⟨g, 0, none⟩ cap [] Tryz.underlying44 Tryz.underlying5 Tryz.underlying9 fun j hj => by simp at hj
theorem iFr_b (s : ByteArray) (T : TypeId) (V : Value) (fs : List UInt8) (ts : List Value) (n1 : ∀ w, Calls Tryz.prog 53 #[.string s] w fun e w' => e = .returned (.tuple #[.iface T V, .bool true]) ∧ Below w.heap.size w w') (n2 : ∀ w, Calls Tryz.prog 54 #[.iface T V] w (LvlP fs ts w)) (w : World) :
  Calls Tryz.prog 24 #[.string s] w (fun e w' => e = .returned (.tuple #[.string (B fs), .bool true]) ∧ Below w.heap.size w w') := by
 have H1 := Lib.hid n1
 have H2 := Lib.hid n2
 obtain ⟨X, hX⟩ : ∃ X, X = B fs := ⟨_, rfl⟩
 have HV : Hid (∀ (w1 : World) (b : Nat) (v : Value), w1.ownsRow b 5 1 v fs.length (fs.map ub) → (convert 44 9 v).run Tryz.prog w1 = .ok (.string X) w1) := fun w1 b v h => by rw [hX]; exact conv_any fs rfl h
 rw [← hX]
 clear n1 n2 hX
 go_enter Tryz.func24, Tryz.ntmps24
 go_wp2_with fail
 refine (H1.out _).mono ?_
 rintro e w1 ⟨rfl, b1⟩
 go_wp2_with fail
 refine (H2.out _).mono ?_
 rintro e w2 ⟨v1, v2, rfl, o1, o2, c2⟩
 have b2 := below_go b1 c2
 have hcv := HV.out w2 _ v1 o1
 clear o1 o2 c2
 go_wp2_with fail
 go_ret2
 exact ⟨rfl, b2⟩
theorem bothFr (s : ByteArray) (hs : s.size ≤ 9223372036854775807) : ∃ (X : ByteArray) (b : Bool), (∀ w, Calls Tryz.prog 23 #[.string s] w (TwoS X b w)) ∧ (∀ w, Calls Tryz.prog 24 #[.string s] w (TwoS X b w)) := by
 have h1 := specO s hs
 have h2 := implO s hs
 cases e : nfO s with
 | none =>
  rw [e] at h1 h2
  exact ⟨_, _, sFr_a s ⟨#[]⟩ h1, iFr_a s h2⟩
 | some r =>
  rw [e] at h1 h2
  obtain ⟨hf, hok, h300, h60⟩ := nfO_some e
  obtain ⟨f1, f2, f3⟩ := form_lvl hf
  have hl := levelOf_any r (by omega)
  rw [f1] at hl
  exact ⟨_, _, sFr_b s (S r) (B r.fro.1) _ h1 (fun w => (nfFront_any r (ok_LE r hok) (by omega) (by omega) w).mono fun e w' h => ⟨h.1, by rw [← h.2]; exact Below.refl _ _⟩), iFr_b s _ _ _ _ h2 hl⟩
theorem textsOf_any (ts : List Tm) (n : Nat) (hn : n = ts.length) (hn2 : n ≤ 300) (ht : ∀ t ∈ ts, t.pr.length ≤ 900) (v : Value) (base : Nat) (w : World) (ho : w.ownsRow base 38 1 v n (ts.map enc)) :
  Calls Tryz.prog 56 #[v] w (TxP ts n w) := by
 obtain ⟨i0, hi, hz0, hz1, hz2⟩ := info_parts Tryz.infoS
 obtain ⟨p, cap, rfl⟩ := own_form ho
 have HO := Lib.hid ho
 have HF' := Lib.hid fun i (h : i < ts.length) w' => textOf_any ts[i] (ht _ (List.getElem_mem h)) w'
 have HN := Lib.hid hn
 clear ho hn ht
 go_enter Tryz.func56, Tryz.ntmps56
 go_wp2_with fail
 go_loopg [3, 8] n (fun k s3 s8 wr => (∃ i : Nat, s8 = .int .i64 (i : Int) ∧ i + k = n ∧ Hid (wr.ownsRow w.heap.size 9 1 s3 i ((ts.take i).map sv))) ∧ Hid (Below w.heap.size w wr))
 case atStart => exact ⟨⟨0, by congr 1, by omega, World.ownsRow_nil _ _ _ _⟩, Below.refl _ _⟩
 case round =>
  obtain ⟨⟨i, rfl, hik, hown⟩, hbw⟩ := hrel
  have hsz := hbw.out.size
  by_cases hlt : (i : Int) < (n : Int)
  ·have hit : i < ts.length := by rw [← HN.out]; omega
   obtain ⟨g, hpg, hg1, hg2, hg3, hcells⟩ := own_at HO.out (by omega)
   subst hpg
   have c1 : wr.cell? ⟨g, i, none⟩ = some (.iface (tyOf ts[i]) (pay ts[i])) :=
    (hbw.out.cell (p := ⟨g, i, none⟩) hg2).trans (hcells i (enc ts[i]) (by rw [List.getElem?_map, List.getElem?_eq_getElem hit]; rfl))
   obtain ⟨T, hT⟩ : ∃ T, T = tyOf ts[i] := ⟨_, rfl⟩
   obtain ⟨V, hV⟩ : ∃ V, V = pay ts[i] := ⟨_, rfl⟩
   obtain ⟨X, hX⟩ : ∃ X, X = S ts[i] := ⟨_, rfl⟩
   have HC : Hid (∀ w', Calls Tryz.prog 86 #[.iface T V] w' (StrP X w')) := by
    rw [hT, hV, hX]; exact HF'.out i hit
   rw [← hT, ← hV] at c1
   have hxs : [Value.string X] = [ts[i]].map sv := by rw [hX]; rfl
   have htk : Hid ((ts.take (i + 1)).map sv = (ts.take i).map sv ++ [.string X]) := by
    show _ = _
    rw [List.take_succ_eq_append_getElem hit, List.map_append, hxs]
   clear hT hV hX hxs hcells hg1 hit
   have hgt : 0 < n := by omega
   go_wp2_with fail
   refine (HC.out _).mono ?_
   rintro e w1 ⟨rfl, b1⟩
   have hbw1 := Lib.hid (below_go hbw.out b1)
   have hown1 := Lib.hid (own_below2 hown.out b1)
   have hsz1 := hbw1.out.size
   clear b1 c1 hbw hown
   go_wp2_with (at_builtin; refine wpList_append_rows rfl (.tmp 12) (.tmp 15) 29 rfl w.heap.size w.heap.size 9 i0 (.string ⟨#[]⟩) 16 Tryz.underlying29 hi hz0 hz1 hz2 rfl u3 i _ rfl (hown1.out.alloc _) _ 1 [.string X] rfl (own_new1 w1 (.string X) 9 w.heap.size hsz1) (fun u hu => by simp at hu; subst hu; rfl) ?c2 ?c3 ?c4 ?_)
   case c2 => unfold maxLen; omega
   case c3 => omega
   case c4 => simp; omega
   intro v3 w3 hown3 hgrow3 _
   have O3 : Hid (w3.ownsRow w.heap.size 9 1 v3 (i + 1) ((ts.take (i + 1)).map sv)) := by
    show World.ownsRow _ _ _ _ _ _ _
    rw [htk.out, List.map_take]; exact hown3
   have hol : ∀ g, u3.ownBlock = some g → w.heap.size ≤ g := fun g e => (hown1.out.lt g e).1
   have Bl3 := Lib.hid (below_grown2 (hbw1.out.alloc hsz1 _) hgrow3 (fun g e => hol g e) (by simp; omega))
   clear hown3 hgrow3 hol hbw1 hown1 htk
   go_wp2_with fail
   go_roundg (gk - 1)
   case rel => exact ⟨⟨i + 1, by congr 1, by omega, O3⟩, Bl3⟩
   case measure => omega
  ·obtain rfl : i = n := by omega
   have htk : ts.take i = ts := List.take_of_length_le (by rw [HN.out]; exact Nat.le_refl _)
   rw [htk] at hown
   clear htk
   go_wp2_with fail
   go_ret
   exact ⟨_, rfl, hown.out, hbw.out⟩
theorem sTh_a (s X : ByteArray) (n1 : ∀ w, Calls Tryz.prog 17 #[.string s] w fun e w' => e = .returned (.tuple #[.string X, .bool false]) ∧ Below w.heap.size w w') (w : World) : Calls Tryz.prog 25 #[.string s] w fun e w' => ∃ v', e = .returned (.tuple #[v', .bool false]) ∧ w'.ownsRow w.heap.size 9 1 v' (([] : List Tm)).length ((([] : List Tm)).map sv) ∧ Below w.heap.size w w' := by
 have Hn1 := Lib.hid n1
 clear n1
 go_enter Tryz.func25, Tryz.ntmps25
 go_wp2_with fail
 refine (Hn1.out _).mono ?_
 rintro e w1 ⟨rfl, c1⟩
 go_wp2_with fail
 go_ret2
 exact ⟨_, rfl, World.ownsRow_nil _ _ _ _, c1⟩
theorem iTh_a (s : ByteArray) (n1 : ∀ w, Calls Tryz.prog 53 #[.string s] w fun e w' => e = .returned (.tuple #[.nilIface, .bool false]) ∧ Below w.heap.size w w') (w : World) : Calls Tryz.prog 26 #[.string s] w fun e w' => ∃ v', e = .returned (.tuple #[v', .bool false]) ∧ w'.ownsRow w.heap.size 9 1 v' (([] : List Tm)).length ((([] : List Tm)).map sv) ∧ Below w.heap.size w w' := by
 have Hn1 := Lib.hid n1
 clear n1
 go_enter Tryz.func26, Tryz.ntmps26
 go_wp2_with fail
 refine (Hn1.out _).mono ?_
 rintro e w1 ⟨rfl, c1⟩
 go_wp2_with fail
 go_ret2
 exact ⟨_, rfl, World.ownsRow_nil _ _ _ _, c1⟩
theorem sTh_b (s X : ByteArray) (us : List Tm) (n1 : ∀ w, Calls Tryz.prog 17 #[.string s] w fun e w' => e = .returned (.tuple #[.string X, .bool true]) ∧ Below w.heap.size w w') (n2 : ∀ w, Calls Tryz.prog 55 #[.string X] w (TxP us us.length w)) (w : World) :
  Calls Tryz.prog 25 #[.string s] w fun e w' => ∃ v', e = .returned (.tuple #[v', .bool true]) ∧ w'.ownsRow w.heap.size 9 1 v' (us).length ((us).map sv) ∧ Below w.heap.size w w' := by
 have H1 := Lib.hid n1
 have H2 := Lib.hid n2
 clear n1 n2
 go_enter Tryz.func25, Tryz.ntmps25
 go_wp2_with fail
 refine (H1.out _).mono ?_
 rintro e w1 ⟨rfl, b1⟩
 go_wp2_with fail
 refine (H2.out _).mono ?_
 rintro e w2 ⟨v', rfl, o2, b2⟩
 have O := Lib.hid (own_bas2 (b2 := w.heap.size) o2 b1.size)
 have bl := below_go b1 b2
 clear o2 b2
 go_wp2_with fail
 go_ret2
 exact ⟨_, rfl, O.out, bl⟩
theorem iTh_b (s : ByteArray) (T : TypeId) (V : Value) (fs : List UInt8) (us : List Tm) (hu : us.length ≤ 300) (ht : ∀ t ∈ us, t.pr.length ≤ 900) (n1 : ∀ w, Calls Tryz.prog 53 #[.string s] w fun e w' => e = .returned (.tuple #[.iface T V, .bool true]) ∧ Below w.heap.size w w') (n2 : ∀ w, Calls Tryz.prog 54 #[.iface T V] w (LvlP fs (us.map enc) w)) (w : World) :
  Calls Tryz.prog 26 #[.string s] w fun e w' => ∃ v', e = .returned (.tuple #[v', .bool true]) ∧ w'.ownsRow w.heap.size 9 1 v' (us).length ((us).map sv) ∧ Below w.heap.size w w' := by
 have H1 := Lib.hid n1
 have H2 := Lib.hid n2
 have H3 := Lib.hid fun (v : Value) (b : Nat) (w' : World) (h : w'.ownsRow b 38 1 v (us.map enc).length (us.map enc)) => textsOf_any us (us.map enc).length (by simp) (by simpa using hu) ht v b w' h
 clear n1 n2
 go_enter Tryz.func26, Tryz.ntmps26
 go_wp2_with fail
 refine (H1.out _).mono ?_
 rintro e w1 ⟨rfl, b1⟩
 go_wp2_with fail
 refine (H2.out _).mono ?_
 rintro e w2 ⟨v1, v2, rfl, o1, o2, c2⟩
 have b2 := below_go b1 c2
 have O2 := Lib.hid o2
 clear o1 o2 c2
 go_wp2_with fail
 refine (H3.out _ _ _ O2.out).mono ?_
 rintro e w3 ⟨v', rfl, o3, b3⟩
 have O := Lib.hid (own_bas2 (b2 := w.heap.size) o3 b2.size)
 have bl := below_go b2 b3
 rw [List.length_map] at O
 clear o3 b3
 go_wp2_with fail
 go_ret2
 exact ⟨_, rfl, O.out, bl⟩
theorem thrs_len (t : Tm) : t.thrs.length ≤ t.size ∧ ∀ u ∈ t.thrs, u.pr.length ≤ t.pr.length := by
 have hp : ∀ t : Tm, ∀ u ∈ t.pars, u.pr.length ≤ t.pr.length := by
  intro t; induction t with
  | par p q ih ih2 =>
   intro u hu
   simp only [Tm.pars, List.mem_cons] at hu
   simp only [Tm.pr, List.length_append, List.length_cons]
   rcases hu with rfl | hu
   ·omega
   ·have := ih2 u hu; omega
  | _ => intro u hu; simp only [Tm.pars, List.mem_singleton] at hu; subst hu; exact Nat.le_refl _
 have hf : t.fro.2.pr.length ≤ t.pr.length ∧ t.fro.2.size ≤ t.size := by
  induction t with
  | own x p ih => simp only [Tm.fro, Tm.pr, Tm.size, List.length_append, List.length_cons]; omega
  | _ => exact ⟨Nat.le_refl _, Nat.le_refl _⟩
 by_cases hn : t.fro.2 = .nil
 ·have e : t.thrs = [] := by unfold Tm.thrs; rw [hn]
  rw [e]; simp
 ·rw [thrs_pars hn]
  refine ⟨Nat.le_trans (pars_size _) hf.2, fun u hu => Nat.le_trans (hp _ u hu) hf.1⟩
theorem bothTh (s : ByteArray) (hs : s.size ≤ 9223372036854775807) : ∃ (us : List Tm) (b : Bool), us.length ≤ 300 ∧ (∀ w, Calls Tryz.prog 25 #[.string s] w (fun e w' => ∃ v', e = .returned (.tuple #[v', .bool b]) ∧ w'.ownsRow w.heap.size 9 1 v' (us).length ((us).map sv) ∧ Below w.heap.size w w')) ∧ (∀ w, Calls Tryz.prog 26 #[.string s] w (fun e w' => ∃ v', e = .returned (.tuple #[v', .bool b]) ∧ w'.ownsRow w.heap.size 9 1 v' (us).length ((us).map sv) ∧ Below w.heap.size w w')) := by
 have h1 := specO s hs
 have h2 := implO s hs
 cases e : nfO s with
 | none =>
  rw [e] at h1 h2
  exact ⟨[], false, by simp, sTh_a s ⟨#[]⟩ h1, iTh_a s h2⟩
 | some r =>
  rw [e] at h1 h2
  obtain ⟨hf, hok, h300, h60⟩ := nfO_some e
  obtain ⟨f1, f2, f3⟩ := form_lvl hf
  obtain ⟨t1, t2⟩ := thrs_len r
  have hl := levelOf_any r (by omega)
  rw [f2] at hl
  exact ⟨r.thrs, true, by omega, sTh_b s (S r) r.thrs h1 (nfThreads_any r (ok_LE r hok) (by omega) (by omega)), iTh_b s _ _ _ r.thrs (by omega) (fun t ht => by have := t2 t ht; omega) h2 hl⟩
theorem sCt (s : ByteArray) (us : List Tm) (b : Bool) (n1 : ∀ w, Calls Tryz.prog 25 #[.string s] w (fun e w' => ∃ v', e = .returned (.tuple #[v', .bool b]) ∧ w'.ownsRow w.heap.size 9 1 v' (us).length ((us).map sv) ∧ Below w.heap.size w w')) (w : World) : Calls Tryz.prog 30 #[.string s] w fun e w' => e = .returned (.tuple #[.int .i64 (us.length : Nat), .bool b]) ∧ Below w.heap.size w w' := by
 have H1 := Lib.hid n1
 clear n1
 go_enter Tryz.func30, Tryz.ntmps30
 go_wp2_with fail
 refine (H1.out _).mono ?_
 rintro e w1 ⟨v, rfl, o1, b1⟩
 obtain ⟨p, c, rfl⟩ := own_form o1
 clear o1
 go_wp2_with fail
 go_ret2
 exact ⟨rfl, b1⟩
theorem iCt (s : ByteArray) (us : List Tm) (b : Bool) (n1 : ∀ w, Calls Tryz.prog 26 #[.string s] w (fun e w' => ∃ v', e = .returned (.tuple #[v', .bool b]) ∧ w'.ownsRow w.heap.size 9 1 v' (us).length ((us).map sv) ∧ Below w.heap.size w w')) (w : World) : Calls Tryz.prog 31 #[.string s] w fun e w' => e = .returned (.tuple #[.int .i64 (us.length : Nat), .bool b]) ∧ Below w.heap.size w w' := by
 have H1 := Lib.hid n1
 clear n1
 go_enter Tryz.func31, Tryz.ntmps31
 go_wp2_with fail
 refine (H1.out _).mono ?_
 rintro e w1 ⟨v, rfl, o1, b1⟩
 obtain ⟨p, c, rfl⟩ := own_form o1
 clear o1
 go_wp2_with fail
 go_ret2
 exact ⟨rfl, b1⟩
theorem bothCt (s : ByteArray) (hs : s.size ≤ 9223372036854775807) : ∃ (y : Int) (b : Bool), (∀ w, Calls Tryz.prog 30 #[.string s] w fun e w' => e = .returned (.tuple #[.int .i64 y, .bool b]) ∧ Below w.heap.size w w') ∧ (∀ w, Calls Tryz.prog 31 #[.string s] w fun e w' => e = .returned (.tuple #[.int .i64 y, .bool b]) ∧ Below w.heap.size w w') := by
 obtain ⟨us, b, _, h1, h2⟩ := bothTh s hs
 exact ⟨_, _, sCt s us b h1, iCt s us b h2⟩
theorem kind_su2 {t : Tm} (h : ∀ p q, t ≠ .sum p q) (hE : t.ok nmE = true) : ((t.kind.toNat : Int) == 43) = false := by
 cases t <;> first | rfl | exact absurd rfl (h _ _)
theorem sumR_ne (t : Tm) : t.sumR ≠ [] := by cases t <;> (intro e; cases e)
theorem sumR_no {t : Tm} (h : ∀ p q, t ≠ .sum p q) : t.sumR = [t] := by
 cases t <;> first | rfl | exact absurd rfl (h _ _)
theorem sumR_size (t : Tm) : t.sumR.length ≤ t.size := by
 induction t with
 | sum p q ih ih2 => simp only [Tm.sumR, List.length_cons, Tm.size]; omega
 | _ => simp [Tm.sumR, Tm.size]
theorem sSu_a (s : ByteArray) (us : List Tm) (n1 : ∀ w, Calls Tryz.prog 25 #[.string s] w fun e w' => ∃ v', e = .returned (.tuple #[v', .bool false]) ∧ w'.ownsRow w.heap.size 9 1 v' (us).length ((us).map sv) ∧ Below w.heap.size w w') (w : World) : Calls Tryz.prog 42 #[.string s] w fun e w' => ∃ v', e = .returned (.tuple #[v', .bool false]) ∧ w'.ownsRow w.heap.size 9 1 v' (([] : List Tm)).length ((([] : List Tm)).map sv) ∧ Below w.heap.size w w' := by
 have H1 := Lib.hid n1
 clear n1
 go_enter Tryz.func42, Tryz.ntmps42
 go_wp2_with fail
 refine (H1.out _).mono ?_
 rintro e w1 ⟨v, rfl, o1, b1⟩
 obtain ⟨p, c, rfl⟩ := own_form o1
 clear o1
 go_wp2_with fail
 go_ret2
 exact ⟨_, rfl, World.ownsRow_nil _ _ _ _, b1⟩
theorem sSu_b (s : ByteArray) (n1 : ∀ w, Calls Tryz.prog 25 #[.string s] w fun e w' => ∃ v', e = .returned (.tuple #[v', .bool true]) ∧ w'.ownsRow w.heap.size 9 1 v' (([] : List Tm)).length ((([] : List Tm)).map sv) ∧ Below w.heap.size w w') (w : World) : Calls Tryz.prog 42 #[.string s] w fun e w' => ∃ v', e = .returned (.tuple #[v', .bool true]) ∧ w'.ownsRow w.heap.size 9 1 v' (([] : List Tm)).length ((([] : List Tm)).map sv) ∧ Below w.heap.size w w' := by
 have H1 := Lib.hid n1
 clear n1
 go_enter Tryz.func42, Tryz.ntmps42
 go_wp2_with fail
 refine (H1.out _).mono ?_
 rintro e w1 ⟨v, rfl, o1, b1⟩
 obtain ⟨p, c, rfl⟩ := own_form o1
 clear o1
 go_wp2_with fail
 go_ret2
 exact ⟨_, rfl, World.ownsRow_nil _ _ _ _, b1⟩
theorem sSu_c (s : ByteArray) (us : List Tm) (t : Tm) (hu0 : us[0]? = some t) (hT : ∀ w, Calls Tryz.prog 25 #[.string s] w fun e w' => ∃ v', e = .returned (.tuple #[v', .bool true]) ∧ w'.ownsRow w.heap.size 9 1 v' (us).length ((us).map sv) ∧ Below w.heap.size w w') (hE : t.ok nmE = true) (hl : t.pr.length ≤ 700) (hs : t.size ≤ 300) (w : World) :
  Calls Tryz.prog 42 #[.string s] w fun e w' => ∃ v', e = .returned (.tuple #[v', .bool true]) ∧ w'.ownsRow w.heap.size 9 1 v' (t.sumR).length ((t.sumR).map sv) ∧ Below w.heap.size w w' := by
 obtain ⟨i0, hi, hz0, hz1, hz2⟩ := info_parts Tryz.infoS
 have HT := Lib.hid hT
 have HE := Lib.hid hE
 have HL := Lib.hid hl
 have HS := Lib.hid hs
 have hps := sumR_size t
 have hl0 : 0 < us.length := by
  cases us with
  | nil => simp at hu0
  | cons _ _ => simp
 have HU0 := Lib.hid hu0
 obtain ⟨X0, hX0⟩ : ∃ X, X = S t := ⟨_, rfl⟩
 have HX0 := Lib.hid hX0
 obtain ⟨N, hN⟩ : ∃ N, N = t.sumR.length := ⟨_, rfl⟩
 have HN := Lib.hid hN
 rw [← hN] at hps ⊢
 obtain ⟨m, hm⟩ : ∃ m, m = us.length := ⟨_, rfl⟩
 rw [← hm] at HT hl0
 clear hT hE hl hN hX0 hu0 hm
 go_enter Tryz.func42, Tryz.ntmps42
 go_wp2_with fail
 refine (HT.out _).mono ?_
 rintro e w1 ⟨v, rfl, ho1, b1⟩
 obtain ⟨p0, c0', rfl⟩ := own_form ho1
 obtain ⟨g0, hpg, hg1, hg2, hg3, hcells⟩ := own_at ho1 hl0
 subst hpg
 have cX : w1.cell? ⟨g0, 0, none⟩ = some (.string X0) := by
  have := hcells 0 (sv t) (by rw [List.getElem?_map, HU0.out]; rfl)
  rw [HX0.out]; exact this
 have B1 := Lib.hid b1
 have hm0 : ((m : Int) == 0) = false := by simp; omega
 have hm1 : (0 : Int) < (m : Int) := by omega
 clear ho1 hcells hg1 hg2 hg3 b1
 go_wp2_with fail
 go_loopg [6, 7] 500 (fun g s3 s0 wr => (∃ (Y : ByteArray) (i : Nat), s0 = .string Y ∧ i + 1 ≤ N ∧ Hid (∃ (xs : List Tm) (u : Tm), Y = S u ∧ i = xs.length ∧ t.sumR = xs ++ u.sumR ∧ u.ok nmE = true ∧ u.pr.length ≤ 700 ∧ u.size ≤ g ∧ wr.ownsRow w.heap.size 9 1 s3 i (xs.map sv))) ∧ Hid (Below w.heap.size w wr))
 case atStart =>
  exact ⟨⟨X0, 0, rfl, by have := HN.out; have := sumR_ne t; have : 0 < t.sumR.length := List.length_pos_iff.2 (sumR_ne t); omega, [], t, HX0.out, rfl, rfl, HE.out, HL.out, Nat.le_trans HS.out (by omega), World.ownsRow_nil _ _ _ _⟩, B1⟩
 case round =>
  obtain ⟨⟨Y, i, rfl, hiN, hex⟩, hbl⟩ := hrel
  obtain ⟨xs, u, rfl, hix, hpx, hu, hul, hus, hown⟩ := hex.out
  have HKu := Lib.hid (tmKind_any u hu hul wr)
  have HO := Lib.hid hown
  have hsz := hbl.out.size
  clear hex
  by_cases hp : ∃ p q, u = .sum p q
  ·obtain ⟨p, q, rfl⟩ := hp
   have HP := Lib.hid (tmParts_any (.sum p q) hu hul wr)
   have hk : (((Tm.sum p q).kind.toNat : Nat) : Int) = 43 := rfl
   rw [hk] at HKu
   simp only [Tm.ok, Bool.and_eq_true] at hu
   simp only [Tm.pr, List.length_append, List.length_cons, List.length_nil] at hul
   simp only [Tm.size] at hus
   have hpl : (p :: q.sumR).length ≤ t.sumR.length := by rw [hpx]; simp [Tm.sumR]
   have hiN2 : i + 2 ≤ N := by
    have := HN.out
    have h2 : t.sumR.length = xs.length + (Tm.sum p q).sumR.length := by rw [hpx, List.length_append]
    have h3 : 0 < q.sumR.length := List.length_pos_iff.2 (sumR_ne q)
    simp only [Tm.sumR, List.length_cons] at h2
    omega
   have hnew : Hid (t.sumR = (xs ++ [p]) ++ q.sumR ∧ i + 1 = (xs ++ [p]).length ∧ (xs ++ [p]).map sv = xs.map sv ++ [.string (S p)]) := ⟨by rw [hpx]; simp [Tm.sumR], by rw [hix]; simp, by simp [sv]⟩
   have hq := Lib.hid (show q.ok nmE = true ∧ q.pr.length ≤ 700 ∧ q.size ≤ gk - 1 from ⟨hu.2, by omega, by omega⟩)
   obtain ⟨U, hU⟩ : ∃ U, U = S (Tm.sum p q) := ⟨_, rfl⟩
   obtain ⟨A, hA⟩ : ∃ A, A = S p := ⟨_, rfl⟩
   obtain ⟨Bq, hB⟩ : ∃ Bq, Bq = S q := ⟨_, rfl⟩
   have HBq := Lib.hid hB
   have HP2 : Hid (Calls Tryz.prog 72 #[.string U] wr fun e w' => ∃ b, e = .returned (.slice (some ⟨b, 0, none⟩) 2 2) ∧ wr.heap.size ≤ b ∧ w'.heap[b]? = some (.cells #[.string A, .string Bq] 9 (0, 0)) ∧ Below wr.heap.size wr w') := by
    rw [hU, hA, hB]; exact HP.out
   rw [← hA] at hnew
   rw [← hU] at HKu ⊢
   have hgp : 1 ≤ gk := by omega
   clear hU hA hB HP hu hul hus hpl hk hpx hix hown
   go_wp2_with fail
   refine (HKu.out).mono ?_
   rintro e w2 ⟨rfl, rfl⟩
   go_wp2_with fail
   refine (HP2.out).mono ?_
   rintro e w3 ⟨b, rfl, hb, hh, b3⟩
   have c0 := cellOf2a hh
   have hO3 := Lib.hid (own_below2 HO.out b3)
   have hbl3 := Lib.hid (below_go hbl.out b3)
   have HH := Lib.hid hh
   have hblt := lt_of_block hh
   have hne : Hid (∀ g, u6.ownBlock = some g → g < b ∧ w.heap.size ≤ g) := fun g e => by
    have := HO.out.lt g e
    exact ⟨by omega, this.1⟩
   clear hb hh b3 hbl HO
   go_wp2_with (at_builtin; refine wpList_append_rows rfl (.tmp 30) (.tmp 34) 29 rfl w.heap.size w.heap.size 9 i0 (.string ⟨#[]⟩) 16 Tryz.underlying29 hi hz0 hz1 hz2 rfl u6 i _ rfl (hO3.out.alloc _) _ 1 [.string A] rfl (own_new1 w3 (.string A) 9 w.heap.size hbl3.out.size) (fun u hu => by simp at hu; subst hu; rfl) ?c2 ?c3 ?c4 ?_)
   case c2 => unfold maxLen; omega
   case c3 => omega
   case c4 => have := hbl3.out.size; simp; omega
   intro v4 w4 hown4 hgrow4 _
   have hb4 : w4.heap[b]? = some (.cells #[.string A, .string Bq] 9 (0, 0)) := by
    rw [hgrow4.block b (by simp; omega) (fun e => by have := hne.out b e.symm; omega)]
    exact (heap_alloc_old w3 _ hblt).trans HH.out
   have c1 := cellOf2b hb4
   have O4 : Hid (w4.ownsRow w.heap.size 9 1 v4 (i + 1) ((xs ++ [p]).map sv)) := by
    show World.ownsRow _ _ _ _ _ _ _
    rw [hnew.out.2.2]; exact hown4
   have bl4 := Lib.hid (below_grown2 (hbl3.out.alloc hbl3.out.size _) hgrow4 (fun g e => (hne.out g e).2) (by have := hbl3.out.size; simp; omega))
   clear hown4 hgrow4 hb4 hbl3 hO3 HH
   go_wp2_with fail
   go_roundg (gk - 1)
   case rel => exact ⟨⟨_, i + 1, rfl, by omega, xs ++ [p], q, HBq.out, hnew.out.2.1, hnew.out.1, hq.out.1, hq.out.2.1, hq.out.2.2, O4.out⟩, bl4⟩
   case measure => omega
  ·have hno : ∀ p q, u ≠ .sum p q := fun p q e => hp ⟨p, q, e⟩
   have hk := kind_su2 hno hu
   have hpp := sumR_no hno
   have hfin : Hid (i + 1 = N ∧ t.sumR.map sv = xs.map sv ++ [.string (S u)]) := ⟨by rw [HN.out, hpx, hpp, hix]; simp, by rw [hpx, hpp]; simp [sv]⟩
   obtain ⟨kk, hkk⟩ : ∃ kk : Int, kk = (u.kind.toNat : Int) := ⟨_, rfl⟩
   rw [← hkk] at HKu hk
   obtain ⟨U, hU⟩ : ∃ U, U = S u := ⟨_, rfl⟩
   rw [← hU] at HKu hfin ⊢
   have hne : Hid (∀ g, u6.ownBlock = some g → w.heap.size ≤ g) := fun g e => (HO.out.lt g e).1
   clear hU hkk hpx hix hu hul hus hp hno hpp hown
   go_wp2_with fail
   refine (HKu.out).mono ?_
   rintro e w2 ⟨rfl, rfl⟩
   go_wp2_with (at_builtin; refine wpList_append_rows rfl (.tmp 39) (.tmp 41) 29 rfl w.heap.size w.heap.size 9 i0 (.string ⟨#[]⟩) 16 Tryz.underlying29 hi hz0 hz1 hz2 rfl u6 i _ rfl (HO.out.alloc _) _ 1 [.string U] rfl (own_new1 _ (.string U) 9 w.heap.size hsz) (fun u hu => by simp at hu; subst hu; rfl) ?c2 ?c3 ?c4 ?_)
   case c2 => unfold maxLen; omega
   case c3 => omega
   case c4 => simp; omega
   intro v4 w4 hown4 hgrow4 _
   have O4 : Hid (w4.ownsRow w.heap.size 9 1 v4 N (t.sumR.map sv)) := by
    show World.ownsRow _ _ _ _ _ _ _
    rw [hfin.out.2, ← hfin.out.1]; exact hown4
   have bl4 := Lib.hid (below_grown2 (hbl.out.alloc hsz _) hgrow4 (fun g e => hne.out g e) (by simp; omega))
   clear hown4 hgrow4
   go_wp2_with fail
   go_ret2
   exact ⟨_, rfl, O4.out, bl4.out⟩
theorem iSu_a (s : ByteArray) (n1 : ∀ w, Calls Tryz.prog 53 #[.string s] w fun e w' => e = .returned (.tuple #[.nilIface, .bool false]) ∧ Below w.heap.size w w') (w : World) : Calls Tryz.prog 43 #[.string s] w fun e w' => ∃ v', e = .returned (.tuple #[v', .bool false]) ∧ w'.ownsRow w.heap.size 9 1 v' (([] : List Tm)).length ((([] : List Tm)).map sv) ∧ Below w.heap.size w w' := by
 have Hn1 := Lib.hid n1
 clear n1
 go_enter Tryz.func43, Tryz.ntmps43
 go_wp2_with fail
 refine (Hn1.out _).mono ?_
 rintro e w1 ⟨rfl, c1⟩
 go_wp2_with fail
 go_ret2
 exact ⟨_, rfl, World.ownsRow_nil _ _ _ _, c1⟩
theorem iSu_b (s : ByteArray) (T : TypeId) (V : Value) (fs : List UInt8) (n1 : ∀ w, Calls Tryz.prog 53 #[.string s] w fun e w' => e = .returned (.tuple #[.iface T V, .bool true]) ∧ Below w.heap.size w w') (n2 : ∀ w, Calls Tryz.prog 54 #[.iface T V] w (LvlP fs [] w)) (w : World) :
  Calls Tryz.prog 43 #[.string s] w fun e w' => ∃ v', e = .returned (.tuple #[v', .bool true]) ∧ w'.ownsRow w.heap.size 9 1 v' (([] : List Tm)).length ((([] : List Tm)).map sv) ∧ Below w.heap.size w w' := by
 have H1 := Lib.hid n1
 have H2 := Lib.hid n2
 clear n1 n2
 go_enter Tryz.func43, Tryz.ntmps43
 go_wp2_with fail
 refine (H1.out _).mono ?_
 rintro e w1 ⟨rfl, b1⟩
 go_wp2_with fail
 refine (H2.out _).mono ?_
 rintro e w2 ⟨v1, v2, rfl, o1, o2, c2⟩
 have b2 := below_go b1 c2
 obtain ⟨p, c, rfl⟩ := own_form o2
 clear o1 o2 c2
 go_wp2_with fail
 go_ret2
 exact ⟨_, rfl, World.ownsRow_nil _ _ _ _, b2⟩
theorem iSu_c (s : ByteArray) (T : TypeId) (V : Value) (fs : List UInt8) (us ts : List Tm) (t : Tm) (hu0 : us[0]? = some t) (hts : ts.length ≤ 300) (ht : ∀ u ∈ ts, u.pr.length ≤ 900) (n1 : ∀ w, Calls Tryz.prog 53 #[.string s] w fun e w' => e = .returned (.tuple #[.iface T V, .bool true]) ∧ Below w.heap.size w w') (n2 : ∀ w, Calls Tryz.prog 54 #[.iface T V] w (LvlP fs (us.map enc) w))
  (n3 : ∀ w, Calls Tryz.prog 73 #[.iface (tyOf t) (pay t)] w (SumP (ts.map enc) w)) (w : World) :
  Calls Tryz.prog 43 #[.string s] w fun e w' => ∃ v', e = .returned (.tuple #[v', .bool true]) ∧ w'.ownsRow w.heap.size 9 1 v' (ts).length ((ts).map sv) ∧ Below w.heap.size w w' := by
 have H1 := Lib.hid n1
 have H2 := Lib.hid n2
 obtain ⟨m3, hm3⟩ : ∃ m3, m3 = ts.length := ⟨_, rfl⟩
 have H3 : Hid (∀ w, Calls Tryz.prog 73 #[.iface (tyOf t) (pay t)] w fun e w' => ∃ g cap, e = .returned (.slice (some ⟨g, 0, none⟩) m3 cap) ∧ w'.ownsRow w.heap.size 38 1 (.slice (some ⟨g, 0, none⟩) m3 cap) m3 (ts.map enc) ∧ Below w.heap.size w w') := fun w => (n3 w).mono fun e w' h => by
  unfold SumP at h
  rw [List.length_map] at h
  rw [hm3]; exact h
 have H4 := Lib.hid fun (v : Value) (b : Nat) (w' : World) (h : w'.ownsRow b 38 1 v m3 (ts.map enc)) => textsOf_any ts m3 hm3 (by omega) ht v b w' h
 have HM3 := Lib.hid hm3
 have hl0 : 0 < (us.map enc).length := by
  cases us with
  | nil => simp at hu0
  | cons _ _ => simp
 have HU0 := Lib.hid hu0
 obtain ⟨T1, hT1⟩ : ∃ T1, T1 = tyOf t := ⟨_, rfl⟩
 obtain ⟨V1, hV1⟩ : ∃ V1, V1 = pay t := ⟨_, rfl⟩
 have HE1 : Hid (enc t = .iface T1 V1) := by show _ = _; rw [hT1, hV1]; rfl
 rw [← hT1, ← hV1] at H3
 obtain ⟨m, hm⟩ : ∃ m, m = (us.map enc).length := ⟨_, rfl⟩
 rw [← hm] at hl0
 have HM := Lib.hid hm
 clear n1 n2 n3 hu0 hT1 hV1 hm hm3
 go_enter Tryz.func43, Tryz.ntmps43
 go_wp2_with fail
 refine (H1.out _).mono ?_
 rintro e w1 ⟨rfl, b1⟩
 go_wp2_with fail
 refine (H2.out _).mono ?_
 rintro e w2 ⟨v1, v2, rfl, o1, o2, c2⟩
 have b2 := below_go b1 c2
 rw [← HM.out] at o2
 obtain ⟨p0, c0', rfl⟩ := own_form o2
 obtain ⟨g0, hpg, hg1, hg2, hg3, hcells⟩ := own_at o2 hl0
 subst hpg
 have cX : w2.cell? ⟨g0, 0, none⟩ = some (.iface T1 V1) := by
  have := hcells 0 (enc t) (by rw [List.getElem?_map, HU0.out]; rfl)
  rw [← HE1.out]; exact this
 have hm0 : ((m : Int) == 0) = false := by simp; omega
 have hm1 : (0 : Int) < (m : Int) := by omega
 clear o1 o2 c2 hcells hg1 hg2 hg3
 go_wp2_with fail
 refine (H3.out _).mono ?_
 rintro e w3 ⟨g3, c3, rfl, o3, b3⟩
 have b3' := below_go b2 b3
 have H5 := H4.out _ _ _ o3
 clear o3 b3 cX
 go_wp2_with fail
 refine H5.mono ?_
 rintro e w4 ⟨v', rfl, o4, b4⟩
 rw [HM3.out] at o4
 have O := Lib.hid (own_bas2 (b2 := w.heap.size) o4 b3'.size)
 have bl := below_go b3' b4
 clear o4 b4 H5
 go_wp2_with fail
 go_ret2
 exact ⟨_, rfl, O.out, bl⟩
theorem thr_mem_ok (r : Tm) (nm : UInt8 → Bool) (h : r.ok nm = true) : ∀ t ∈ r.thrs, t.ok nm = true ∧ t.size ≤ r.size := by
 have hp : ∀ t : Tm, t.ok nm = true → ∀ u ∈ t.pars, u.ok nm = true ∧ u.size ≤ t.size := by
  intro t; induction t with
  | par p q ih ih2 =>
   intro h u hu
   simp only [Tm.ok, Bool.and_eq_true] at h
   simp only [Tm.pars, List.mem_cons] at hu
   simp only [Tm.size]
   rcases hu with rfl | hu
   ·exact ⟨h.1, by omega⟩
   ·have := ih2 h.2 u hu; exact ⟨this.1, by omega⟩
  | _ => intro h u hu; simp only [Tm.pars, List.mem_singleton] at hu; subst hu; exact ⟨h, Nat.le_refl _⟩
 obtain ⟨h1, h2, h3, h4⟩ := fro_ok r h
 intro t ht
 by_cases hn : r.fro.2 = .nil
 ·have e : r.thrs = [] := by unfold Tm.thrs; rw [hn]
  rw [e] at ht; simp at ht
 ·rw [thrs_pars hn] at ht
  have := hp _ h1 t ht
  exact ⟨this.1, by omega⟩
theorem bothSu (s : ByteArray) (hs : s.size ≤ 9223372036854775807) : ∃ (us : List Tm) (b : Bool), us.length ≤ 300 ∧ (∀ w, Calls Tryz.prog 42 #[.string s] w (fun e w' => ∃ v', e = .returned (.tuple #[v', .bool b]) ∧ w'.ownsRow w.heap.size 9 1 v' (us).length ((us).map sv) ∧ Below w.heap.size w w')) ∧ (∀ w, Calls Tryz.prog 43 #[.string s] w (fun e w' => ∃ v', e = .returned (.tuple #[v', .bool b]) ∧ w'.ownsRow w.heap.size 9 1 v' (us).length ((us).map sv) ∧ Below w.heap.size w w')) := by
 have h1 := specO s hs
 have h2 := implO s hs
 cases e : nfO s with
 | none =>
  rw [e] at h1 h2
  exact ⟨[], false, by simp, sSu_a s [] (sTh_a s ⟨#[]⟩ h1), iSu_a s h2⟩
 | some r =>
  rw [e] at h1 h2
  obtain ⟨hf, hok, h300, h60⟩ := nfO_some e
  obtain ⟨f1, f2, f3⟩ := form_lvl hf
  obtain ⟨t1, t2⟩ := thrs_len r
  have hl := levelOf_any r (by omega)
  rw [f2] at hl
  have hTh := sTh_b s (S r) r.thrs h1 (nfThreads_any r (ok_LE r hok) (by omega) (by omega))
  have hmem := thr_mem_ok r nmE (ok_LE r hok)
  cases ht : r.thrs with
  | nil =>
   rw [ht] at hl hTh
   exact ⟨[], true, by simp, sSu_b s hTh, iSu_b s _ _ _ h2 hl⟩
  | cons T us =>
   have hT : T ∈ r.thrs := by rw [ht]; simp
   obtain ⟨m1, m2⟩ := hmem T hT
   have hpl := t2 T hT
   have hfl : smds T = T.sumR := (f3 T hT).2
   rw [ht] at hl hTh
   have hsz := sumR_size T
   refine ⟨T.sumR, true, by omega, sSu_c s (T :: us) T rfl hTh m1 (by omega) (by omega), ?_⟩
   have hsu := summandsOf_any T (by omega)
   rw [hfl] at hsu
   exact iSu_c s _ _ _ (T :: us) T.sumR T rfl (by omega) (fun u hu => by rw [← hfl] at hu; have := smds_txt T u hu; omega) h2 hl hsu
end Go.Proofs.YtalegefnppbkdaaGreat.T1
