/- Alike by names, in the specification, for every two processes. -/
import Derived.Test.YtpahhlcfbmmocabAq
namespace Go.Proofs.Ytpahhlcfbmmocab.T1
open Go.RowKit
set_option maxRecDepth 100000
set_option linter.unusedVariables false
set_option linter.unusedSimpArgs false

theorem B_cons (x : UInt8) (l : List UInt8) : B (x :: l) = one x ++ B l := by
  symm; apply B_eq
  rw [ByteArray.data_append, Array.toList_append, B_list]; rfl
theorem sp_any (a b : UInt8) (l r : List UInt8) (h : l.length = r.length) (hl : l.length ≤ 1000) (w : World) : Calls Try.prog 90 #[.int .u8 (a.toNat : Int), .int .u8 (b.toNat : Int), .string (B l), .string (B r)] w fun e w' => e = .returned (.bool (sameP a b l r)) ∧ w = w' := by
  have := samePlace_any a b (B l) (B r) (by rw [B_size, B_size, h]) (by rw [B_size]; omega) w
  rw [B_list, B_list] at this
  exact this
set_option maxHeartbeats 4000000 in
theorem tmAlpha_any (t : Tm) : ∀ (u : Tm) (l r : List UInt8) (w : World), t.ok nmE = true → u.ok nmE = true → t.pr.length ≤ 700 → u.pr.length ≤ 700 → l.length = r.length → l.length + t.size ≤ 1000 →
    Calls Try.prog 55 #[.string (S t), .string (S u), .string (B l), .string (B r)] w fun e w' => e = .returned (.bool (alp t u l r)) ∧ Below w.heap.size w w' := by
  induction t with
  | nil  =>
    intro u l r w ho hu hl hlu hlr hsz
    have hK1 := tmKind_any (.nil ) ho hl
    have hK2 := tmKind_any u hu hlu
    cases u with
    | nil =>
      have hN := tmNames_any .nil ho hl
      exact al_nil _ _ _ _ _ _ 48 (by decide) (by rw [B_size]; simp [Tm.used]) hK1 hK2 hN hN (tmBinds_any .nil ho hl) (tmParts_any .nil ho hl) (tmParts_any .nil ho hl) w
    | snd c d q => exact al_kind _ _ _ _ 48 33 (by decide) hK1 hK2 w
    | rcv c y q => exact al_kind _ _ _ _ 48 63 (by decide) hK1 hK2 w
    | tau q => exact al_kind _ _ _ _ 48 126 (by decide) hK1 hK2 w
    | sum q q2 => exact al_kind _ _ _ _ 48 43 (by decide) hK1 hK2 w
    | par q q2 => exact al_kind _ _ _ _ 48 38 (by decide) hK1 hK2 w
    | own y q => exact al_kind _ _ _ _ 48 35 (by decide) hK1 hK2 w
    | mat c d q => exact al_kind _ _ _ _ 48 61 (by decide) hK1 hK2 w
    | rep q => exact al_kind _ _ _ _ 48 42 (by decide) hK1 hK2 w
  | snd a b p ih =>
    intro u l r w ho hu hl hlu hlr hsz
    have hK1 := tmKind_any (.snd a b p) ho hl
    have hK2 := tmKind_any u hu hlu
    cases u with
    | nil  => exact al_kind _ _ _ _ 33 48 (by decide) hK1 hK2 w
    | snd c d q =>
      have hN1 := tmNames_any (.snd a b p) ho hl
      have hN2 := tmNames_any (.snd c d q) hu hlu
      have hB1 := tmBinds_any (.snd a b p) ho hl
      have hB2 := tmBinds_any (.snd c d q) hu hlu
      have hP1 := tmParts_any (.snd a b p) ho hl
      have hP2 := tmParts_any (.snd c d q) hu hlu
      simp only [Tm.ok, Bool.and_eq_true] at ho hu
      simp only [Tm.pr, List.length_cons, List.length_append] at hl hlu
      simp only [Tm.size] at hsz
      simp only [alp]
      have hs0 := sp_any a c l r hlr (by omega)
      have hs1 := sp_any b d l r hlr (by omega)
      have hI := fun w => ih q l r w ho.2 hu.2 (by omega) (by omega) hlr (by omega)
      cases h0 : sameP a c l r with
      | false =>
        rw [h0] at hs0
        simp only [Bool.false_and]
        exact al_twoF _ _ _ _ _ _ 33 (by decide) (by rw [B_size]; simp [Tm.used]) (by rw [B_size]; simp [Tm.used]) (by rw [B_size]; simp [Tm.used]) (by rw [B_size]; simp [Tm.used]) (by rw [B_size]; simp [Tm.used]) hK1 hK2 hN1 hN2 hs0 w
      | true =>
        rw [h0] at hs0
        cases h1 : sameP b d l r with
        | false =>
          rw [h1] at hs1
          simp only [Bool.and_false, Bool.false_and]
          exact al_twoTF _ _ _ _ _ _ 33 (by decide) (by rw [B_size]; simp [Tm.used]) (by rw [B_size]; simp [Tm.used]) (by rw [B_size]; simp [Tm.used]) (by rw [B_size]; simp [Tm.used]) (by rw [B_size]; simp [Tm.used]) hK1 hK2 hN1 hN2 hs0 hs1 w
        | true =>
          rw [h1] at hs1
          simp only [Bool.and_true, Bool.true_and]
          cases h2 : alp p q l r with
          | false => rw [h2] at hI; exact al_twoN _ _ _ _ _ _ 33 (by decide) (by rw [B_size]; simp [Tm.used]) (by rw [B_size]; simp [Tm.used]) (by rw [B_size]; simp [Tm.used]) (by rw [B_size]; simp [Tm.used]) (by rw [B_size]; simp [Tm.used]) _ _ hK1 hK2 hN1 hN2 hs0 hs1 hB1 hP2 hP1 hI w
          | true => rw [h2] at hI; exact al_twoY _ _ _ _ _ _ 33 (by decide) (by rw [B_size]; simp [Tm.used]) (by rw [B_size]; simp [Tm.used]) (by rw [B_size]; simp [Tm.used]) (by rw [B_size]; simp [Tm.used]) (by rw [B_size]; simp [Tm.used]) _ _ hK1 hK2 hN1 hN2 hs0 hs1 hB1 hP2 hP1 hI w
    | rcv c y q => exact al_kind _ _ _ _ 33 63 (by decide) hK1 hK2 w
    | tau q => exact al_kind _ _ _ _ 33 126 (by decide) hK1 hK2 w
    | sum q q2 => exact al_kind _ _ _ _ 33 43 (by decide) hK1 hK2 w
    | par q q2 => exact al_kind _ _ _ _ 33 38 (by decide) hK1 hK2 w
    | own y q => exact al_kind _ _ _ _ 33 35 (by decide) hK1 hK2 w
    | mat c d q => exact al_kind _ _ _ _ 33 61 (by decide) hK1 hK2 w
    | rep q => exact al_kind _ _ _ _ 33 42 (by decide) hK1 hK2 w
  | rcv a x p ih =>
    intro u l r w ho hu hl hlu hlr hsz
    have hK1 := tmKind_any (.rcv a x p) ho hl
    have hK2 := tmKind_any u hu hlu
    cases u with
    | nil  => exact al_kind _ _ _ _ 63 48 (by decide) hK1 hK2 w
    | snd c d q => exact al_kind _ _ _ _ 63 33 (by decide) hK1 hK2 w
    | rcv c y q =>
      have hN1 := tmNames_any (.rcv a x p) ho hl
      have hN2 := tmNames_any (.rcv c y q) hu hlu
      have hB1 := tmBinds_any (.rcv a x p) ho hl
      have hB2 := tmBinds_any (.rcv c y q) hu hlu
      have hP1 := tmParts_any (.rcv a x p) ho hl
      have hP2 := tmParts_any (.rcv c y q) hu hlu
      simp only [Tm.ok, Bool.and_eq_true] at ho hu
      simp only [Tm.pr, List.length_cons, List.length_append] at hl hlu
      simp only [Tm.size] at hsz
      simp only [alp]
      have hs0 := sp_any a c l r hlr (by omega)
      have hI := fun w => ih q (x :: l) (y :: r) w ho.2 hu.2 (by omega) (by omega) (by simp [hlr]) (by simp only [List.length_cons]; omega)
      have hb1 : (B l).size ≤ 100000 := by rw [B_size]; omega
      have hb2 : (B r).size ≤ 100000 := by rw [B_size]; omega
      cases h0 : sameP a c l r with
      | false =>
        rw [h0] at hs0
        simp only [Bool.false_and]
        exact al_rcvF _ _ _ _ _ _ 63 (by decide) (by rw [B_size]; simp [Tm.used]) (by rw [B_size]; simp [Tm.used]) (by rw [B_size]; simp [Tm.used]) hK1 hK2 hN1 hN2 hs0 w
      | true =>
        rw [h0] at hs0
        simp only [Bool.true_and]
        cases h2 : alp p q (x :: l) (y :: r) with
        | false => rw [h2] at hI; exact al_rcvN _ _ _ _ _ _ 63 (by decide) (by rw [B_size]; simp [Tm.used]) (by rw [B_size]; simp [Tm.used]) (by rw [B_size]; simp [Tm.used]) x y _ _ (B_cons x l) (B_cons y r) hb1 hb2 _ _ hK1 hK2 hN1 hN2 hs0 hB1 hB2 hP2 hP1 hI w
        | true => rw [h2] at hI; exact al_rcvY _ _ _ _ _ _ 63 (by decide) (by rw [B_size]; simp [Tm.used]) (by rw [B_size]; simp [Tm.used]) (by rw [B_size]; simp [Tm.used]) x y _ _ (B_cons x l) (B_cons y r) hb1 hb2 _ _ hK1 hK2 hN1 hN2 hs0 hB1 hB2 hP2 hP1 hI w
    | tau q => exact al_kind _ _ _ _ 63 126 (by decide) hK1 hK2 w
    | sum q q2 => exact al_kind _ _ _ _ 63 43 (by decide) hK1 hK2 w
    | par q q2 => exact al_kind _ _ _ _ 63 38 (by decide) hK1 hK2 w
    | own y q => exact al_kind _ _ _ _ 63 35 (by decide) hK1 hK2 w
    | mat c d q => exact al_kind _ _ _ _ 63 61 (by decide) hK1 hK2 w
    | rep q => exact al_kind _ _ _ _ 63 42 (by decide) hK1 hK2 w
  | tau p ih =>
    intro u l r w ho hu hl hlu hlr hsz
    have hK1 := tmKind_any (.tau p) ho hl
    have hK2 := tmKind_any u hu hlu
    cases u with
    | nil  => exact al_kind _ _ _ _ 126 48 (by decide) hK1 hK2 w
    | snd c d q => exact al_kind _ _ _ _ 126 33 (by decide) hK1 hK2 w
    | rcv c y q => exact al_kind _ _ _ _ 126 63 (by decide) hK1 hK2 w
    | tau q =>
      have hN1 := tmNames_any (.tau p) ho hl
      have hN2 := tmNames_any (.tau q) hu hlu
      have hB1 := tmBinds_any (.tau p) ho hl
      have hB2 := tmBinds_any (.tau q) hu hlu
      have hP1 := tmParts_any (.tau p) ho hl
      have hP2 := tmParts_any (.tau q) hu hlu
      simp only [Tm.ok, Bool.and_eq_true] at ho hu
      simp only [Tm.pr, List.length_cons, List.length_append] at hl hlu
      simp only [Tm.size] at hsz
      simp only [alp]
      have hI := fun w => ih q l r w ho hu (by omega) (by omega) hlr (by omega)
      cases h2 : alp p q l r with
      | false => rw [h2] at hI; exact al_tauN _ _ _ _ _ _ 126 (by decide) (by rw [B_size]; simp [Tm.used]) _ _ hK1 hK2 hN1 hN2 hB1 hP2 hP1 hI w
      | true => rw [h2] at hI; exact al_tauY _ _ _ _ _ _ 126 (by decide) (by rw [B_size]; simp [Tm.used]) _ _ hK1 hK2 hN1 hN2 hB1 hP2 hP1 hI w
    | sum q q2 => exact al_kind _ _ _ _ 126 43 (by decide) hK1 hK2 w
    | par q q2 => exact al_kind _ _ _ _ 126 38 (by decide) hK1 hK2 w
    | own y q => exact al_kind _ _ _ _ 126 35 (by decide) hK1 hK2 w
    | mat c d q => exact al_kind _ _ _ _ 126 61 (by decide) hK1 hK2 w
    | rep q => exact al_kind _ _ _ _ 126 42 (by decide) hK1 hK2 w
  | sum p p2 ih ih2 =>
    intro u l r w ho hu hl hlu hlr hsz
    have hK1 := tmKind_any (.sum p p2) ho hl
    have hK2 := tmKind_any u hu hlu
    cases u with
    | nil  => exact al_kind _ _ _ _ 43 48 (by decide) hK1 hK2 w
    | snd c d q => exact al_kind _ _ _ _ 43 33 (by decide) hK1 hK2 w
    | rcv c y q => exact al_kind _ _ _ _ 43 63 (by decide) hK1 hK2 w
    | tau q => exact al_kind _ _ _ _ 43 126 (by decide) hK1 hK2 w
    | sum q q2 =>
      have hN1 := tmNames_any (.sum p p2) ho hl
      have hN2 := tmNames_any (.sum q q2) hu hlu
      have hB1 := tmBinds_any (.sum p p2) ho hl
      have hB2 := tmBinds_any (.sum q q2) hu hlu
      have hP1 := tmParts_any (.sum p p2) ho hl
      have hP2 := tmParts_any (.sum q q2) hu hlu
      simp only [Tm.ok, Bool.and_eq_true] at ho hu
      simp only [Tm.pr, List.length_cons, List.length_append] at hl hlu
      simp only [Tm.size] at hsz
      simp only [alp]
      have hI := fun w => ih q l r w ho.1 hu.1 (by omega) (by omega) hlr (by omega)
      have hI2 := fun w => ih2 q2 l r w ho.2 hu.2 (by omega) (by omega) hlr (by omega)
      cases h2 : alp p q l r with
      | false => rw [h2] at hI; simp only [Bool.false_and]; exact al_parN _ _ _ _ _ _ 43 (by decide) (by rw [B_size]; simp [Tm.used]) _ _ _ _ hK1 hK2 hN1 hN2 hB1 hP2 hP1 hI w
      | true =>
        rw [h2] at hI
        simp only [Bool.true_and]
        cases h3 : alp p2 q2 l r with
        | false => rw [h3] at hI2; exact al_parYN _ _ _ _ _ _ 43 (by decide) (by rw [B_size]; simp [Tm.used]) _ _ _ _ hK1 hK2 hN1 hN2 hB1 hP2 hP1 hI hI2 w
        | true => rw [h3] at hI2; exact al_parYY _ _ _ _ _ _ 43 (by decide) (by rw [B_size]; simp [Tm.used]) _ _ _ _ hK1 hK2 hN1 hN2 hB1 hP2 hP1 hI hI2 w
    | par q q2 => exact al_kind _ _ _ _ 43 38 (by decide) hK1 hK2 w
    | own y q => exact al_kind _ _ _ _ 43 35 (by decide) hK1 hK2 w
    | mat c d q => exact al_kind _ _ _ _ 43 61 (by decide) hK1 hK2 w
    | rep q => exact al_kind _ _ _ _ 43 42 (by decide) hK1 hK2 w
  | par p p2 ih ih2 =>
    intro u l r w ho hu hl hlu hlr hsz
    have hK1 := tmKind_any (.par p p2) ho hl
    have hK2 := tmKind_any u hu hlu
    cases u with
    | nil  => exact al_kind _ _ _ _ 38 48 (by decide) hK1 hK2 w
    | snd c d q => exact al_kind _ _ _ _ 38 33 (by decide) hK1 hK2 w
    | rcv c y q => exact al_kind _ _ _ _ 38 63 (by decide) hK1 hK2 w
    | tau q => exact al_kind _ _ _ _ 38 126 (by decide) hK1 hK2 w
    | sum q q2 => exact al_kind _ _ _ _ 38 43 (by decide) hK1 hK2 w
    | par q q2 =>
      have hN1 := tmNames_any (.par p p2) ho hl
      have hN2 := tmNames_any (.par q q2) hu hlu
      have hB1 := tmBinds_any (.par p p2) ho hl
      have hB2 := tmBinds_any (.par q q2) hu hlu
      have hP1 := tmParts_any (.par p p2) ho hl
      have hP2 := tmParts_any (.par q q2) hu hlu
      simp only [Tm.ok, Bool.and_eq_true] at ho hu
      simp only [Tm.pr, List.length_cons, List.length_append] at hl hlu
      simp only [Tm.size] at hsz
      simp only [alp]
      have hI := fun w => ih q l r w ho.1 hu.1 (by omega) (by omega) hlr (by omega)
      have hI2 := fun w => ih2 q2 l r w ho.2 hu.2 (by omega) (by omega) hlr (by omega)
      cases h2 : alp p q l r with
      | false => rw [h2] at hI; simp only [Bool.false_and]; exact al_parN _ _ _ _ _ _ 38 (by decide) (by rw [B_size]; simp [Tm.used]) _ _ _ _ hK1 hK2 hN1 hN2 hB1 hP2 hP1 hI w
      | true =>
        rw [h2] at hI
        simp only [Bool.true_and]
        cases h3 : alp p2 q2 l r with
        | false => rw [h3] at hI2; exact al_parYN _ _ _ _ _ _ 38 (by decide) (by rw [B_size]; simp [Tm.used]) _ _ _ _ hK1 hK2 hN1 hN2 hB1 hP2 hP1 hI hI2 w
        | true => rw [h3] at hI2; exact al_parYY _ _ _ _ _ _ 38 (by decide) (by rw [B_size]; simp [Tm.used]) _ _ _ _ hK1 hK2 hN1 hN2 hB1 hP2 hP1 hI hI2 w
    | own y q => exact al_kind _ _ _ _ 38 35 (by decide) hK1 hK2 w
    | mat c d q => exact al_kind _ _ _ _ 38 61 (by decide) hK1 hK2 w
    | rep q => exact al_kind _ _ _ _ 38 42 (by decide) hK1 hK2 w
  | own x p ih =>
    intro u l r w ho hu hl hlu hlr hsz
    have hK1 := tmKind_any (.own x p) ho hl
    have hK2 := tmKind_any u hu hlu
    cases u with
    | nil  => exact al_kind _ _ _ _ 35 48 (by decide) hK1 hK2 w
    | snd c d q => exact al_kind _ _ _ _ 35 33 (by decide) hK1 hK2 w
    | rcv c y q => exact al_kind _ _ _ _ 35 63 (by decide) hK1 hK2 w
    | tau q => exact al_kind _ _ _ _ 35 126 (by decide) hK1 hK2 w
    | sum q q2 => exact al_kind _ _ _ _ 35 43 (by decide) hK1 hK2 w
    | par q q2 => exact al_kind _ _ _ _ 35 38 (by decide) hK1 hK2 w
    | own y q =>
      have hN1 := tmNames_any (.own x p) ho hl
      have hN2 := tmNames_any (.own y q) hu hlu
      have hB1 := tmBinds_any (.own x p) ho hl
      have hB2 := tmBinds_any (.own y q) hu hlu
      have hP1 := tmParts_any (.own x p) ho hl
      have hP2 := tmParts_any (.own y q) hu hlu
      simp only [Tm.ok, Bool.and_eq_true] at ho hu
      simp only [Tm.pr, List.length_cons, List.length_append] at hl hlu
      simp only [Tm.size] at hsz
      simp only [alp]
      have hI := fun w => ih q (x :: l) (y :: r) w ho.2 hu.2 (by omega) (by omega) (by simp [hlr]) (by simp only [List.length_cons]; omega)
      have hb1 : (B l).size ≤ 100000 := by rw [B_size]; omega
      have hb2 : (B r).size ≤ 100000 := by rw [B_size]; omega
      cases h2 : alp p q (x :: l) (y :: r) with
      | false => rw [h2] at hI; exact al_ownN _ _ _ _ _ _ 35 (by decide) (by rw [B_size]; simp [Tm.used]) x y _ _ (B_cons x l) (B_cons y r) hb1 hb2 _ _ hK1 hK2 hN1 hN2 hB1 hB2 hP2 hP1 hI w
      | true => rw [h2] at hI; exact al_ownY _ _ _ _ _ _ 35 (by decide) (by rw [B_size]; simp [Tm.used]) x y _ _ (B_cons x l) (B_cons y r) hb1 hb2 _ _ hK1 hK2 hN1 hN2 hB1 hB2 hP2 hP1 hI w
    | mat c d q => exact al_kind _ _ _ _ 35 61 (by decide) hK1 hK2 w
    | rep q => exact al_kind _ _ _ _ 35 42 (by decide) hK1 hK2 w
  | mat a b p ih =>
    intro u l r w ho hu hl hlu hlr hsz
    have hK1 := tmKind_any (.mat a b p) ho hl
    have hK2 := tmKind_any u hu hlu
    cases u with
    | nil  => exact al_kind _ _ _ _ 61 48 (by decide) hK1 hK2 w
    | snd c d q => exact al_kind _ _ _ _ 61 33 (by decide) hK1 hK2 w
    | rcv c y q => exact al_kind _ _ _ _ 61 63 (by decide) hK1 hK2 w
    | tau q => exact al_kind _ _ _ _ 61 126 (by decide) hK1 hK2 w
    | sum q q2 => exact al_kind _ _ _ _ 61 43 (by decide) hK1 hK2 w
    | par q q2 => exact al_kind _ _ _ _ 61 38 (by decide) hK1 hK2 w
    | own y q => exact al_kind _ _ _ _ 61 35 (by decide) hK1 hK2 w
    | mat c d q =>
      have hN1 := tmNames_any (.mat a b p) ho hl
      have hN2 := tmNames_any (.mat c d q) hu hlu
      have hB1 := tmBinds_any (.mat a b p) ho hl
      have hB2 := tmBinds_any (.mat c d q) hu hlu
      have hP1 := tmParts_any (.mat a b p) ho hl
      have hP2 := tmParts_any (.mat c d q) hu hlu
      simp only [Tm.ok, Bool.and_eq_true] at ho hu
      simp only [Tm.pr, List.length_cons, List.length_append] at hl hlu
      simp only [Tm.size] at hsz
      simp only [alp]
      have hs0 := sp_any a c l r hlr (by omega)
      have hs1 := sp_any b d l r hlr (by omega)
      have hI := fun w => ih q l r w ho.2 hu.2 (by omega) (by omega) hlr (by omega)
      cases h0 : sameP a c l r with
      | false =>
        rw [h0] at hs0
        simp only [Bool.false_and]
        exact al_twoF _ _ _ _ _ _ 61 (by decide) (by rw [B_size]; simp [Tm.used]) (by rw [B_size]; simp [Tm.used]) (by rw [B_size]; simp [Tm.used]) (by rw [B_size]; simp [Tm.used]) (by rw [B_size]; simp [Tm.used]) hK1 hK2 hN1 hN2 hs0 w
      | true =>
        rw [h0] at hs0
        cases h1 : sameP b d l r with
        | false =>
          rw [h1] at hs1
          simp only [Bool.and_false, Bool.false_and]
          exact al_twoTF _ _ _ _ _ _ 61 (by decide) (by rw [B_size]; simp [Tm.used]) (by rw [B_size]; simp [Tm.used]) (by rw [B_size]; simp [Tm.used]) (by rw [B_size]; simp [Tm.used]) (by rw [B_size]; simp [Tm.used]) hK1 hK2 hN1 hN2 hs0 hs1 w
        | true =>
          rw [h1] at hs1
          simp only [Bool.and_true, Bool.true_and]
          cases h2 : alp p q l r with
          | false => rw [h2] at hI; exact al_twoN _ _ _ _ _ _ 61 (by decide) (by rw [B_size]; simp [Tm.used]) (by rw [B_size]; simp [Tm.used]) (by rw [B_size]; simp [Tm.used]) (by rw [B_size]; simp [Tm.used]) (by rw [B_size]; simp [Tm.used]) _ _ hK1 hK2 hN1 hN2 hs0 hs1 hB1 hP2 hP1 hI w
          | true => rw [h2] at hI; exact al_twoY _ _ _ _ _ _ 61 (by decide) (by rw [B_size]; simp [Tm.used]) (by rw [B_size]; simp [Tm.used]) (by rw [B_size]; simp [Tm.used]) (by rw [B_size]; simp [Tm.used]) (by rw [B_size]; simp [Tm.used]) _ _ hK1 hK2 hN1 hN2 hs0 hs1 hB1 hP2 hP1 hI w
    | rep q => exact al_kind _ _ _ _ 61 42 (by decide) hK1 hK2 w
  | rep p ih =>
    intro u l r w ho hu hl hlu hlr hsz
    have hK1 := tmKind_any (.rep p) ho hl
    have hK2 := tmKind_any u hu hlu
    cases u with
    | nil  => exact al_kind _ _ _ _ 42 48 (by decide) hK1 hK2 w
    | snd c d q => exact al_kind _ _ _ _ 42 33 (by decide) hK1 hK2 w
    | rcv c y q => exact al_kind _ _ _ _ 42 63 (by decide) hK1 hK2 w
    | tau q => exact al_kind _ _ _ _ 42 126 (by decide) hK1 hK2 w
    | sum q q2 => exact al_kind _ _ _ _ 42 43 (by decide) hK1 hK2 w
    | par q q2 => exact al_kind _ _ _ _ 42 38 (by decide) hK1 hK2 w
    | own y q => exact al_kind _ _ _ _ 42 35 (by decide) hK1 hK2 w
    | mat c d q => exact al_kind _ _ _ _ 42 61 (by decide) hK1 hK2 w
    | rep q =>
      have hN1 := tmNames_any (.rep p) ho hl
      have hN2 := tmNames_any (.rep q) hu hlu
      have hB1 := tmBinds_any (.rep p) ho hl
      have hB2 := tmBinds_any (.rep q) hu hlu
      have hP1 := tmParts_any (.rep p) ho hl
      have hP2 := tmParts_any (.rep q) hu hlu
      simp only [Tm.ok, Bool.and_eq_true] at ho hu
      simp only [Tm.pr, List.length_cons, List.length_append] at hl hlu
      simp only [Tm.size] at hsz
      simp only [alp]
      have hI := fun w => ih q l r w ho hu (by omega) (by omega) hlr (by omega)
      cases h2 : alp p q l r with
      | false => rw [h2] at hI; exact al_tauN _ _ _ _ _ _ 42 (by decide) (by rw [B_size]; simp [Tm.used]) _ _ hK1 hK2 hN1 hN2 hB1 hP2 hP1 hI w
      | true => rw [h2] at hI; exact al_tauY _ _ _ _ _ _ 42 (by decide) (by rw [B_size]; simp [Tm.used]) _ _ hK1 hK2 hN1 hN2 hB1 hP2 hP1 hI w

end Go.Proofs.Ytpahhlcfbmmocab.T1
