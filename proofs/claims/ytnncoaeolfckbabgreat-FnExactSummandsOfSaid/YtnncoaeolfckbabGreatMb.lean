/- The front of a normal form and its threads: in the specification. -/
import Derived.Test.YtnncoaeolfckbabGreatGbv
import Derived.Test.YtnncoaeolfckbabGreatMa
namespace Go.Proofs.YtnncoaeolfckbabGreat.T1
open Go.RowKit
set_option maxRecDepth 100000
set_option linter.unusedVariables false
set_option linter.unusedSimpArgs false

theorem fro_ok {nm : UInt8 → Bool} (t : Tm) (h : t.ok nm = true) : t.fro.2.ok nm = true ∧ t.fro.2.pr.length ≤ t.pr.length ∧ t.fro.2.size ≤ t.size ∧ ∀ x p, t.fro.2 ≠ .own x p := by
  induction t with
  | own x p ih =>
    simp only [Tm.ok, Bool.and_eq_true] at h
    obtain ⟨h1, h2, h3, h4⟩ := ih h.2
    exact ⟨h1, by simp only [Tm.fro, Tm.pr, List.length_append, List.length_cons]; omega, by simp only [Tm.fro, Tm.size]; omega, h4⟩
  | _ => exact ⟨h, Nat.le_refl _, Nat.le_refl _, fun _ _ e => (by cases e)⟩
theorem kind_ow2 {t : Tm} (hE : t.ok nmE = true) (h : ∀ x p, t ≠ .own x p) : ((t.kind.toNat : Int) == 35) = false := by
  cases t <;> first | rfl | exact absurd rfl (h _ _)
theorem dat_inj {a b : ByteArray} (h : a.data.toList = b.data.toList) : a = b := by
  cases a; cases b; congr; exact Array.toList_inj.1 h
theorem BL (f : List UInt8) (x : UInt8) : B f ++ B [x] = B (f ++ [x]) := by
  apply dat_inj
  show (B f ++ B [x]).data.toList = (B (f ++ [x])).data.toList
  rw [ByteArray.data_append, Array.toList_append, B_list, B_list, B_list]
set_option maxHeartbeats 4000000 in
theorem nfFront_any (t : Tm) (hE : t.ok nmE = true) (hl : t.pr.length ≤ 700) (hs : t.size ≤ 500) (w : World) :
    Calls Tryz.prog 25 #[.string (S t)] w fun e w' => e = .returned (.tuple #[.string (B t.fro.1), .string (S t.fro.2)]) ∧ w = w' := by
  have HE := Lib.hid hE
  have HL := Lib.hid hl
  have HS := Lib.hid hs
  clear hE hl hs
  obtain ⟨X0, hX0⟩ : ∃ X, X = S t := ⟨_, rfl⟩
  have HX0 := Lib.hid hX0
  rw [← hX0]
  clear hX0
  go_enter Tryz.func25, Tryz.ntmps25
  go_wp2_with fail
  go_loopg [0, 4] 500 (fun g s0 s4 wr => (∃ X Y : ByteArray, s0 = .string X ∧ s4 = .string Y ∧ Y.size + g ≤ 500 ∧ Hid (∃ (f : List UInt8) (u : Tm), X = S u ∧ Y = B f ∧ t.fro = (f ++ u.fro.1, u.fro.2) ∧ u.ok nmE = true ∧ u.pr.length ≤ 700 ∧ u.size ≤ g)) ∧ wr = w)
  case atStart => exact ⟨⟨X0, ⟨#[]⟩, rfl, rfl, by decide, [], t, HX0.out, rfl, rfl, HE.out, HL.out, HS.out⟩, rfl⟩
  case round =>
    obtain ⟨⟨X, Y, rfl, rfl, hY, hex⟩, rfl⟩ := hrel
    obtain ⟨f, u, rfl, eY, ef, hu, hul, hus⟩ := hex.out
    have HK := Lib.hid (tmKind_any u hu hul wr)
    by_cases ho : ∃ x p, u = .own x p
    · obtain ⟨x, p, rfl⟩ := ho
      have e1 : (S (Tm.own x p)).extract 1 2 = B [x] := by
        refine dat_inj ?_
        rw [ByteArray.data_extract, Array.toList_extract, List.extract_eq_take_drop, S_list, B_list]; rfl
      have e2 : (S (Tm.own x p)).extract 3 (S (Tm.own x p)).size = S p := ext_pre (t := .own x p) (p := p) (pre := [35, x, 46]) rfl
      have hz : (S (Tm.own x p)).size = p.pr.length + 3 := by rw [S_size]; simp [Tm.pr]
      simp only [Tm.pr, List.length_append, List.length_cons, List.length_nil] at hul
      simp only [Tm.size] at hus
      simp only [Tm.ok, Bool.and_eq_true] at hu
      have hk : (((Tm.own x p).kind.toNat : Nat) : Int) = 35 := rfl
      rw [hk] at HK
      obtain ⟨U, hU⟩ : ∃ U, U = S (Tm.own x p) := ⟨_, rfl⟩
      rw [← hU] at HK e1 e2 hz
      have hnew : Hid (∃ (f : List UInt8) (u : Tm), U.extract 3 U.size = S u ∧ Y ++ U.extract 1 2 = B f ∧ t.fro = (f ++ u.fro.1, u.fro.2) ∧ u.ok nmE = true ∧ u.pr.length ≤ 700 ∧ u.size ≤ gk - 1) :=
        ⟨f ++ [x], p, e2, by rw [eY, e1, BL], by rw [ef]; simp [Tm.fro], hu.2, by omega, by omega⟩
      have hy1 : (Y ++ U.extract 1 2).size = Y.size + 1 := by rw [ByteArray.size_append, e1, B_size]; rfl
      have hs3 : (3 : Int) ≤ (U.size : Int) := by omega
      have hs2 : (2 : Int) ≤ (U.size : Int) := by omega
      have hsU : U.size ≤ 1000 := by omega
      clear hz
      have he12 : (U.extract 1 2).size = 1 := by rw [e1, B_size]; rfl
      have hgp : 1 ≤ gk := by omega
      rw [← hU]
      clear hU eY ef hu hul hus hk e1 e2 hex
      go_wp2_with fail
      refine (HK.out).mono ?_
      rintro e w1 ⟨rfl, rfl⟩
      go_wp2_with fail
      go_roundg (gk - 1)
      case rel => exact ⟨⟨_, _, rfl, rfl, by omega, hnew⟩, rfl⟩
      case measure => omega
    · have hno : ∀ x p, u ≠ .own x p := fun x p e => ho ⟨x, p, e⟩
      have hk := kind_ow2 hu hno
      have hfr : u.fro = ([], u) := by cases u <;> first | rfl | exact absurd rfl (hno _ _)
      have h1 : Hid (Y = B t.fro.1) := by show _ = _; rw [ef, hfr, eY]; simp
      have h2 : Hid (S u = S t.fro.2) := by show _ = _; rw [ef, hfr]
      obtain ⟨kk, hkk⟩ : ∃ kk : Int, kk = (u.kind.toNat : Int) := ⟨_, rfl⟩
      rw [← hkk] at HK hk
      obtain ⟨U, hU⟩ : ∃ U, U = S u := ⟨_, rfl⟩
      rw [← hU] at HK h2 ⊢
      clear hU hkk eY ef hu hul hus hex ho hno hfr
      go_wp2_with fail
      refine (HK.out).mono ?_
      rintro e w1 ⟨rfl, rfl⟩
      go_wp2_with fail
      go_ret2
      exact ⟨by rw [← h1.out, ← h2.out]; rfl, rfl⟩

end Go.Proofs.YtnncoaeolfckbabGreat.T1
