/- Canonical names in the specification, for every process. -/
import Derived.Test.YtpahhlcfbmmocabTq
import Derived.Test.YtpahhlcfbmmocabAl
namespace Go.Proofs.Ytpahhlcfbmmocab.T1
open Go.RowKit
set_option maxRecDepth 100000
set_option linter.unusedVariables false
set_option linter.unusedSimpArgs false

theorem canS_len (n : Nat) : ∀ (t : Tm) (l : List UInt8), (canS n t l).2.length ≤ max 1 l.length + t.size ∧ (canS n t l).1.pr.length = t.pr.length ∧ (canS n t l).1.size = t.size := by
  induction n with
  | zero => intro t l; exact ⟨by simp only [canS]; omega, rfl, rfl⟩
  | succ n ih =>
    intro t l
    have ha := fun c => addL_len c l
    cases t with
    | nil => simp only [canS]; exact ⟨by omega, by simp, by simp⟩
    | sum p q =>
      have h1 := ih p l; have h2 := ih q (canS n p l).2
      simp only [canS, Tm.pr, Tm.size, List.length_cons, List.length_append]; omega
    | par p q =>
      have h1 := ih p l; have h2 := ih q (canS n p l).2
      simp only [canS, Tm.pr, Tm.size, List.length_cons, List.length_append]; omega
    | rcv a x p =>
      have h1 := ih (R p x (fresh l)) (addL l (fresh l))
      have h2 := ha (fresh l)
      rw [R_size, R_len] at h1
      simp only [canS, Tm.size]
      split
      · simp [Tm.size]; omega
      · simp only [Tm.pr, Tm.size, List.length_cons]; omega
    | own x p =>
      have h1 := ih (R p x (fresh l)) (addL l (fresh l))
      have h2 := ha (fresh l)
      rw [R_size, R_len] at h1
      simp only [canS, Tm.size]
      split
      · simp [Tm.size]; omega
      · simp only [Tm.pr, Tm.size, List.length_cons]; omega
    | snd a b p => have h1 := ih p l; simp only [canS, Tm.pr, Tm.size, List.length_cons]; omega
    | mat a b p => have h1 := ih p l; simp only [canS, Tm.pr, Tm.size, List.length_cons]; omega
    | tau p => have h1 := ih p l; simp only [canS, Tm.pr, Tm.size, List.length_cons]; omega
    | rep p => have h1 := ih p l; simp only [canS, Tm.pr, Tm.size, List.length_cons]; omega

theorem canS_okE (n : Nat) : ∀ (t : Tm) (l : List UInt8), t.ok nmE = true → (canS n t l).1.ok nmE = true := by
  induction n with
  | zero => intro t l h; exact h
  | succ n ih =>
    intro t l h
    cases t <;> simp only [canS, Tm.ok, Bool.and_eq_true] at h ⊢
    case snd a b p => exact ⟨h.1, ih p l h.2⟩
    case mat a b p => exact ⟨h.1, ih p l h.2⟩
    case tau p => exact ih p l h
    case rep p => exact ih p l h
    case sum p q => exact ⟨ih p l h.1, ih q _ h.2⟩
    case par p q => exact ⟨ih p l h.1, ih q _ h.2⟩
    case rcv a x p =>
      split
      · simp only [Tm.ok, Bool.and_eq_true]; exact h
      · simp only [Tm.ok, Bool.and_eq_true]; exact ⟨⟨h.1.1, fresh_nm _⟩, ih _ _ (R_okE _ _ h.2 (fresh_nm _))⟩
    case own x p =>
      split
      · simp only [Tm.ok, Bool.and_eq_true]; exact h
      · simp only [Tm.ok, Bool.and_eq_true]; exact ⟨fresh_nm _, ih _ _ (R_okE _ _ h.2 (fresh_nm _))⟩

set_option maxHeartbeats 4000000 in
theorem tmCanonical_any (n : Nat) : ∀ (t : Tm) (l : List UInt8), t.size ≤ n → t.ok nmE = true → t.pr.length ≤ 700 → max 1 l.length + t.size ≤ 1000 → ∀ w, Calls Try.prog 46 #[.string (S t), .string (B l)] w fun e w' => e = .returned (.tuple #[.string (S (canS n t l).1), .string (B (canS n t l).2)]) ∧ Below w.heap.size w w' := by
  induction n with
  | zero => intro t l h; have := size_pos t; omega
  | succ n ih =>
    intro t l hn ht hl hll w
    have hH := tmHead_any t ht hl
    have hB := tmBinds_any t ht hl
    have hK := tmKind_any t ht hl
    have hP := tmParts_any t ht hl
    have hs3 : (S t).size ≤ 700 := by rw [S_size]; exact hl
    have hFS := fun w => tmFresh_exact (B l) (by rw [B_size]; omega) w
    rw [B_list] at hFS
    have hAd := fun w => tmAdd_any (B l) (fresh l) (by rw [B_size]; omega) w
    rw [B_list] at hAd
    cases t with
    | nil => exact cn_0 _ _ hB hP (fun v => tw_nil _ v hK) w
    | snd a b p =>
      simp only [Tm.size] at hn hll
      have ht0 := ht
      have hlp : p.pr.length ≤ (Tm.pr (.snd a b p)).length := by simp [Tm.pr]; try omega
      simp only [Tm.ok, Bool.and_eq_true] at ht
      have hC := ih p l (by omega) ht.2 (by omega) (by omega)
      have hc := canS_len n p l
      simp only [canS]
      obtain ⟨r, hr⟩ : ∃ r, r = (canS n p l).1 := ⟨_, rfl⟩
      rw [← hr] at hC hc ⊢
      exact cn_1 _ _ _ _ _ _ hB hP hC (fun g n cap w hn c0 => tmWith_1 (.snd a b p) p r rfl ht0 hl (by omega) g n cap w hn c0) w
    | mat a b p =>
      simp only [Tm.size] at hn hll
      have ht0 := ht
      have hlp : p.pr.length ≤ (Tm.pr (.mat a b p)).length := by simp [Tm.pr]; try omega
      simp only [Tm.ok, Bool.and_eq_true] at ht
      have hC := ih p l (by omega) ht.2 (by omega) (by omega)
      have hc := canS_len n p l
      simp only [canS]
      obtain ⟨r, hr⟩ : ∃ r, r = (canS n p l).1 := ⟨_, rfl⟩
      rw [← hr] at hC hc ⊢
      exact cn_1 _ _ _ _ _ _ hB hP hC (fun g n cap w hn c0 => tmWith_1 (.mat a b p) p r rfl ht0 hl (by omega) g n cap w hn c0) w
    | tau p =>
      simp only [Tm.size] at hn hll
      have ht0 := ht
      have hlp : p.pr.length ≤ (Tm.pr (.tau p)).length := by simp [Tm.pr]; try omega
      simp only [Tm.ok, Bool.and_eq_true] at ht
      have hC := ih p l (by omega) ht (by omega) (by omega)
      have hc := canS_len n p l
      simp only [canS]
      obtain ⟨r, hr⟩ : ∃ r, r = (canS n p l).1 := ⟨_, rfl⟩
      rw [← hr] at hC hc ⊢
      exact cn_1 _ _ _ _ _ _ hB hP hC (fun g n cap w hn c0 => tmWith_1 (.tau p) p r rfl ht0 hl (by omega) g n cap w hn c0) w
    | rep p =>
      simp only [Tm.size] at hn hll
      have ht0 := ht
      have hlp : p.pr.length ≤ (Tm.pr (.rep p)).length := by simp [Tm.pr]; try omega
      simp only [Tm.ok, Bool.and_eq_true] at ht
      have hC := ih p l (by omega) ht (by omega) (by omega)
      have hc := canS_len n p l
      simp only [canS]
      obtain ⟨r, hr⟩ : ∃ r, r = (canS n p l).1 := ⟨_, rfl⟩
      rw [← hr] at hC hc ⊢
      exact cn_1 _ _ _ _ _ _ hB hP hC (fun g n cap w hn c0 => tmWith_1 (.rep p) p r rfl ht0 hl (by omega) g n cap w hn c0) w
    | sum p q =>
      simp only [Tm.size] at hn hll
      have ht0 := ht
      have hlp : p.pr.length + q.pr.length ≤ (Tm.pr (.sum p q)).length := by simp [Tm.pr]; omega
      simp only [Tm.ok, Bool.and_eq_true] at ht
      have hc := canS_len n p l
      have hC := ih p l (by omega) ht.1 (by omega) (by omega)
      have hC2 := ih q (canS n p l).2 (by omega) ht.2 (by omega) (by omega)
      have hc2 := canS_len n q (canS n p l).2
      simp only [canS]
      obtain ⟨r2, hr2⟩ : ∃ r, r = (canS n q (canS n p l).2).1 := ⟨_, rfl⟩
      rw [← hr2] at hC2 hc2 ⊢
      obtain ⟨r, hr⟩ : ∃ r, r = (canS n p l).1 := ⟨_, rfl⟩
      rw [← hr] at hC hc ⊢
      exact cn_2 _ _ _ _ _ _ _ _ _ hB hP hC hC2 (fun g n cap w hn c0 c1 => tmWith_2 (.sum p q) p q r r2 rfl ht0 hl (by omega) (by omega) g n cap w hn c0 c1) w
    | par p q =>
      simp only [Tm.size] at hn hll
      have ht0 := ht
      have hlp : p.pr.length + q.pr.length ≤ (Tm.pr (.par p q)).length := by simp [Tm.pr]; omega
      simp only [Tm.ok, Bool.and_eq_true] at ht
      have hc := canS_len n p l
      have hC := ih p l (by omega) ht.1 (by omega) (by omega)
      have hC2 := ih q (canS n p l).2 (by omega) ht.2 (by omega) (by omega)
      have hc2 := canS_len n q (canS n p l).2
      simp only [canS]
      obtain ⟨r2, hr2⟩ : ∃ r, r = (canS n q (canS n p l).2).1 := ⟨_, rfl⟩
      rw [← hr2] at hC2 hc2 ⊢
      obtain ⟨r, hr⟩ : ∃ r, r = (canS n p l).1 := ⟨_, rfl⟩
      rw [← hr] at hC hc ⊢
      exact cn_2 _ _ _ _ _ _ _ _ _ hB hP hC hC2 (fun g n cap w hn c0 c1 => tmWith_2 (.par p q) p q r r2 rfl ht0 hl (by omega) (by omega) g n cap w hn c0 c1) w
    | rcv a x p =>
      simp only [Tm.size] at hn hll
      have hlp : p.pr.length + 4 = (Tm.pr (.rcv a x p)).length := by simp [Tm.pr]
      simp only [Tm.ok, Bool.and_eq_true] at ht
      simp only [canS]
      by_cases hbig : 122 < (fresh l).toNat
      · rw [if_pos hbig]
        exact cb_no _ _ x _ (by omega) hB hFS w
      · rw [if_neg hbig]
        have hx' : (S (.rcv a x p)).extract 4 (S (.rcv a x p)).size = S p := S_sub (.rcv a x p) p rfl
        have hR := tmRename_any p.size p x (fresh l) (Nat.le_refl _) ht.2 (by omega) (fresh_nm _)
        rw [← hx'] at hR
        have hal := addL_len (fresh l) l
        have hC := ih (R p x (fresh l)) (addL l (fresh l)) (by rw [R_size]; omega) (R_okE _ _ ht.2 (fresh_nm _)) (by rw [R_len]; omega) (by rw [R_size]; omega)
        have hc := canS_len n (R p x (fresh l)) (addL l (fresh l))
        rw [R_len] at hc
        obtain ⟨y, hy⟩ : ∃ y, y = fresh l := ⟨_, rfl⟩
        rw [← hy] at hR hC hc hFS hAd hbig ⊢
        obtain ⟨r, hr⟩ : ∃ r, r = (canS n (R p x y) (addL l y)).1 := ⟨_, rfl⟩
        rw [← hr] at hC hc ⊢
        have := cb_R (S (.rcv a x p)) (B l) (B [a, 63, y, 46]) _ _ (S r) _ a x y (by rw [S_size]; omega) (by rw [S_size]; omega) hs3 (by omega) (head_l (.rcv a x p) 4 _ rfl) rfl hB hFS hH hR hAd hC hK w
        rw [B_S _ _ (.rcv a y r) rfl] at this
        exact this
    | own x p =>
      simp only [Tm.size] at hn hll
      have hlp : p.pr.length + 3 = (Tm.pr (.own x p)).length := by simp [Tm.pr]
      simp only [Tm.ok, Bool.and_eq_true] at ht
      simp only [canS]
      by_cases hbig : 122 < (fresh l).toNat
      · rw [if_pos hbig]
        exact cb_no _ _ x _ (by omega) hB hFS w
      · rw [if_neg hbig]
        have hx' : (S (.own x p)).extract 3 (S (.own x p)).size = S p := S_sub (.own x p) p rfl
        have hR := tmRename_any p.size p x (fresh l) (Nat.le_refl _) ht.2 (by omega) (fresh_nm _)
        rw [← hx'] at hR
        have hal := addL_len (fresh l) l
        have hC := ih (R p x (fresh l)) (addL l (fresh l)) (by rw [R_size]; omega) (R_okE _ _ ht.2 (fresh_nm _)) (by rw [R_len]; omega) (by rw [R_size]; omega)
        have hc := canS_len n (R p x (fresh l)) (addL l (fresh l))
        rw [R_len] at hc
        obtain ⟨y, hy⟩ : ∃ y, y = fresh l := ⟨_, rfl⟩
        rw [← hy] at hR hC hc hFS hAd hbig ⊢
        obtain ⟨r, hr⟩ : ∃ r, r = (canS n (R p x y) (addL l y)).1 := ⟨_, rfl⟩
        rw [← hr] at hC hc ⊢
        have := cb_O (S (.own x p)) (B l) (B [35, y, 46]) _ _ (S r) _ x y (by rw [S_size]; omega) (by rw [S_size]; omega) hs3 (by omega) (head_l (.own x p) 3 _ rfl) rfl hB hFS hH hR hAd hC hK w
        rw [B_S _ _ (.own y r) rfl] at this
        exact this

end Go.Proofs.Ytpahhlcfbmmocab.T1
