/- Texts of the proof, put together: Rf, Np, Nq. No conditions. -/
import Derived.Test.YtpabmidjfpabdaaGreatHab

/- A free name renamed: what it leaves free, and that the number of steps does not matter: plain lemmas. -/
namespace Go.Proofs.YtpabmidjfpabdaaGreat.T1
set_option linter.unusedVariables false

theorem mf_snd (a b : UInt8) (p : Tm) (z : UInt8) : z ∈ (Tm.snd a b p).free ↔ z = a ∨ z = b ∨ z ∈ p.free := by
  simp only [Tm.free, mem_addL, mem_bothL]; grind
theorem mf_rcv (a x : UInt8) (p : Tm) (z : UInt8) : z ∈ (Tm.rcv a x p).free ↔ z = a ∨ (z ∈ p.free ∧ z ≠ x) := by
  simp only [Tm.free, mem_addL, mem_bothL, mem_lessL]; grind
theorem mf_tau (p : Tm) (z : UInt8) : z ∈ (Tm.tau p).free ↔ z ∈ p.free := by
  simp only [Tm.free, mem_bothL]; grind
theorem mf_sum (p q : Tm) (z : UInt8) : z ∈ (Tm.sum p q).free ↔ z ∈ p.free ∨ z ∈ q.free := by
  simp only [Tm.free, mem_bothL]; grind
theorem mf_par (p q : Tm) (z : UInt8) : z ∈ (Tm.par p q).free ↔ z ∈ p.free ∨ z ∈ q.free := by
  simp only [Tm.free, mem_bothL]; grind
theorem mf_own (x : UInt8) (p : Tm) (z : UInt8) : z ∈ (Tm.own x p).free ↔ z ∈ p.free ∧ z ≠ x := by
  simp only [Tm.free, mem_bothL, mem_lessL]; grind
theorem mf_mat (a b : UInt8) (p : Tm) (z : UInt8) : z ∈ (Tm.mat a b p).free ↔ z = a ∨ z = b ∨ z ∈ p.free := by
  simp only [Tm.free, mem_addL, mem_bothL]; grind
theorem mf_rep (p : Tm) (z : UInt8) : z ∈ (Tm.rep p).free ↔ z ∈ p.free := by
  simp only [Tm.free, mem_bothL]; grind
theorem ren_fuel (n : Nat) : ∀ (k : Nat) (t : Tm) (o m : UInt8), t.size ≤ n → t.size ≤ k → ren n t o m = ren k t o m := by
  induction n with
  | zero => intro k t o m h; have := size_pos t; omega
  | succ n ih =>
    intro k t o m hn hk
    cases k with
    | zero => have := size_pos t; omega
    | succ k =>
      have hb : ∀ p x, p.size ≤ n → p.size ≤ k → renB n p x o m = renB k p x o m := by
        intro p x h1 h2
        unfold renB
        split <;> split
        · exact ih _ _ _ _ h1 h2
        · rfl
        · rw [ih k p x _ h1 h2]
          exact ih _ _ _ _ (by rw [(ren_len _ _ _ _).2]; exact h1) (by rw [(ren_len _ _ _ _).2]; exact h2)
        · exact ih _ _ _ _ h1 h2
      unfold ren
      split
      · rfl
      · cases t with
        | nil => rfl
        | snd a b p => simp only [Tm.size] at hn hk; simp only [ih k p o m (by omega) (by omega)]
        | rcv a x p => simp only [Tm.size] at hn hk; have h := hb p x (by omega) (by omega); unfold renB at h; simp only [h]
        | tau p => simp only [Tm.size] at hn hk; simp only [ih k p o m (by omega) (by omega)]
        | sum p q => simp only [Tm.size] at hn hk; simp only [ih k p o m (by omega) (by omega), ih k q o m (by omega) (by omega)]
        | par p q => simp only [Tm.size] at hn hk; simp only [ih k p o m (by omega) (by omega), ih k q o m (by omega) (by omega)]
        | own x p => simp only [Tm.size] at hn hk; have h := hb p x (by omega) (by omega); unfold renB at h; simp only [h]
        | mat a b p => simp only [Tm.size] at hn hk; simp only [ih k p o m (by omega) (by omega)]
        | rep p => simp only [Tm.size] at hn hk; simp only [ih k p o m (by omega) (by omega)]

/-- A free name renamed. -/
def R (t : Tm) (o m : UInt8) : Tm := ren t.size t o m
theorem R_size (t : Tm) (o m : UInt8) : (R t o m).size = t.size := (ren_len _ _ _ _).2
theorem R_len (t : Tm) (o m : UInt8) : (R t o m).pr.length = t.pr.length := (ren_len _ _ _ _).1
theorem ren_R {n : Nat} {t : Tm} (h : t.size ≤ n) (o m : UInt8) : ren n t o m = R t o m := ren_fuel _ _ _ _ _ h (Nat.le_refl _)
theorem R_same (t : Tm) (o m : UInt8) (h : o = m ∨ o ∉ t.free) : R t o m = t := ren_same _ _ _ _ h
/-- The part of a sign that binds, renamed. -/
def RB (p : Tm) (x o m : UInt8) : Tm := if capX p x o m = o then (if x = m ∧ o ∈ p.free then R p x (capX p x o m) else p) else R (if x = m ∧ o ∈ p.free then R p x (capX p x o m) else p) o m
theorem renB_RB {n : Nat} {p : Tm} (h : p.size ≤ n) (x o m : UInt8) : renB n p x o m = RB p x o m := by
  unfold renB RB
  split <;> split
  · rw [ren_R h]
  · rfl
  · rw [ren_R h, ren_R (by rw [R_size]; exact h)]
  · rw [ren_R h]
section
variable {o m : UInt8}
theorem R_snd {a b : UInt8} {p : Tm} (h : ¬ (o = m ∨ o ∉ (Tm.snd a b p).free)) : R (.snd a b p) o m = .snd (sw a o m) (sw b o m) (R p o m) := by
  show ren (p.size + 1) _ _ _ = _
  unfold ren; rw [if_neg h]; simp only [ren_R (Nat.le_refl p.size)]
theorem R_mat {a b : UInt8} {p : Tm} (h : ¬ (o = m ∨ o ∉ (Tm.mat a b p).free)) : R (.mat a b p) o m = .mat (sw a o m) (sw b o m) (R p o m) := by
  show ren (p.size + 1) _ _ _ = _
  unfold ren; rw [if_neg h]; simp only [ren_R (Nat.le_refl p.size)]
theorem R_rcv {a x : UInt8} {p : Tm} (h : ¬ (o = m ∨ o ∉ (Tm.rcv a x p).free)) : R (.rcv a x p) o m = .rcv (sw a o m) (capX p x o m) (RB p x o m) := by
  show ren (p.size + 1) _ _ _ = _
  rw [← renB_RB (Nat.le_refl p.size)]
  unfold ren renB; rw [if_neg h]
theorem R_own {x : UInt8} {p : Tm} (h : ¬ (o = m ∨ o ∉ (Tm.own x p).free)) : R (.own x p) o m = .own (capX p x o m) (RB p x o m) := by
  show ren (p.size + 1) _ _ _ = _
  rw [← renB_RB (Nat.le_refl p.size)]
  unfold ren renB; rw [if_neg h]
theorem R_tau {p : Tm} (h : ¬ (o = m ∨ o ∉ (Tm.tau p).free)) : R (.tau p) o m = .tau (R p o m) := by
  show ren (p.size + 1) _ _ _ = _
  unfold ren; rw [if_neg h]; simp only [ren_R (Nat.le_refl p.size)]
theorem R_rep {p : Tm} (h : ¬ (o = m ∨ o ∉ (Tm.rep p).free)) : R (.rep p) o m = .rep (R p o m) := by
  show ren (p.size + 1) _ _ _ = _
  unfold ren; rw [if_neg h]; simp only [ren_R (Nat.le_refl p.size)]
theorem R_sum {p q : Tm} (h : ¬ (o = m ∨ o ∉ (Tm.sum p q).free)) : R (.sum p q) o m = .sum (R p o m) (R q o m) := by
  show ren (p.size + q.size + 1) _ _ _ = _
  unfold ren; rw [if_neg h]; simp only [ren_R (Nat.le_add_right p.size q.size), ren_R (Nat.le_add_left q.size p.size)]
theorem R_par {p q : Tm} (h : ¬ (o = m ∨ o ∉ (Tm.par p q).free)) : R (.par p q) o m = .par (R p o m) (R q o m) := by
  show ren (p.size + q.size + 1) _ _ _ = _
  unfold ren; rw [if_neg h]; simp only [ren_R (Nat.le_add_right p.size q.size), ren_R (Nat.le_add_left q.size p.size)]
end

theorem R_bnd (n : Nat) : ∀ (t : Tm) (o m : UInt8), t.size ≤ n → (R t o m).bnd.length = t.bnd.length := by
  induction n with
  | zero => intro t o m h; have := size_pos t; omega
  | succ n ih =>
    intro t o m hn
    by_cases h : o = m ∨ o ∉ t.free
    · rw [R_same _ _ _ h]
    · have hb : ∀ p x, p.size ≤ n → (RB p x o m).bnd.length = p.bnd.length := by
        intro p x h1
        unfold RB
        split <;> split
        · exact ih _ _ _ h1
        · rfl
        · rw [ih _ _ _ (by rw [R_size]; exact h1)]; exact ih _ _ _ h1
        · exact ih _ _ _ h1
      cases t with
      | nil => exact absurd (.inr (by simp [Tm.free])) h
      | snd a b p => simp only [Tm.size] at hn; rw [R_snd h]; exact ih _ _ _ (by omega)
      | rcv a x p => simp only [Tm.size] at hn; rw [R_rcv h]; simp only [Tm.bnd, List.length_cons]; rw [hb p x (by omega)]
      | tau p => simp only [Tm.size] at hn; rw [R_tau h]; exact ih _ _ _ (by omega)
      | sum p q => simp only [Tm.size] at hn; rw [R_sum h]; simp only [Tm.bnd, List.length_append]; rw [ih p _ _ (by omega), ih q _ _ (by omega)]
      | par p q => simp only [Tm.size] at hn; rw [R_par h]; simp only [Tm.bnd, List.length_append]; rw [ih p _ _ (by omega), ih q _ _ (by omega)]
      | own x p => simp only [Tm.size] at hn; rw [R_own h]; simp only [Tm.bnd, List.length_cons]; rw [hb p x (by omega)]
      | mat a b p => simp only [Tm.size] at hn; rw [R_mat h]; exact ih _ _ _ (by omega)
      | rep p => simp only [Tm.size] at hn; rw [R_rep h]; exact ih _ _ _ (by omega)

/-- How deep signs that bind lie within each other. -/
def Tm.bdp : Tm → Nat
  | .nil => 0
  | .snd _ _ p => p.bdp
  | .rcv _ _ p => p.bdp + 1
  | .tau p => p.bdp
  | .sum p q => max p.bdp q.bdp
  | .par p q => max p.bdp q.bdp
  | .own _ p => p.bdp + 1
  | .mat _ _ p => p.bdp
  | .rep p => p.bdp
theorem bdp_bnd (t : Tm) : t.bdp ≤ t.bnd.length := by
  induction t <;> simp only [Tm.bdp, Tm.bnd, List.length_append, List.length_cons, List.length_nil] <;> omega
theorem R_bdp (n : Nat) : ∀ (t : Tm) (o m : UInt8), t.size ≤ n → (R t o m).bdp = t.bdp := by
  induction n with
  | zero => intro t o m h; have := size_pos t; omega
  | succ n ih =>
    intro t o m hn
    by_cases h : o = m ∨ o ∉ t.free
    · rw [R_same _ _ _ h]
    · have hb : ∀ p x, p.size ≤ n → (RB p x o m).bdp = p.bdp := by
        intro p x h1
        unfold RB
        split <;> split
        · exact ih _ _ _ h1
        · rfl
        · rw [ih _ _ _ (by rw [R_size]; exact h1)]; exact ih _ _ _ h1
        · exact ih _ _ _ h1
      cases t with
      | nil => exact absurd (.inr (by simp [Tm.free])) h
      | snd a b p => simp only [Tm.size] at hn; rw [R_snd h]; exact ih _ _ _ (by omega)
      | rcv a x p => simp only [Tm.size] at hn; rw [R_rcv h]; simp only [Tm.bdp]; rw [hb p x (by omega)]
      | tau p => simp only [Tm.size] at hn; rw [R_tau h]; exact ih _ _ _ (by omega)
      | sum p q => simp only [Tm.size] at hn; rw [R_sum h]; simp only [Tm.bdp]; rw [ih p _ _ (by omega), ih q _ _ (by omega)]
      | par p q => simp only [Tm.size] at hn; rw [R_par h]; simp only [Tm.bdp]; rw [ih p _ _ (by omega), ih q _ _ (by omega)]
      | own x p => simp only [Tm.size] at hn; rw [R_own h]; simp only [Tm.bdp]; rw [hb p x (by omega)]
      | mat a b p => simp only [Tm.size] at hn; rw [R_mat h]; exact ih _ _ _ (by omega)
      | rep p => simp only [Tm.size] at hn; rw [R_rep h]; exact ih _ _ _ (by omega)

theorem srt_sub : ∀ {m l : List UInt8}, Srt l → Srt m → (∀ z ∈ l, z ∈ m) → l.length ≤ m.length := by
  intro m
  induction m with
  | nil => intro l _ _ h; cases l with
    | nil => simp
    | cons a l => exact absurd (h a (by simp)) (by simp)
  | cons b m ih =>
    intro l hl hm h
    cases l with
    | nil => simp
    | cons a l =>
      have hl' := List.pairwise_cons.1 hl
      have hm' := List.pairwise_cons.1 hm
      by_cases e : a = b
      · subst e
        have := ih hl'.2 hm'.2 fun z hz => by
          rcases List.mem_cons.1 (h z (List.mem_cons_of_mem _ hz)) with h1 | h1
          · have := hl'.1 z hz; rw [h1, u8_lt] at this; omega
          · exact h1
        simp; exact this
      · have ha : a ∈ m := by
          rcases List.mem_cons.1 (h a (by simp)) with h1 | h1
          · exact absurd h1 e
          · exact h1
        have hba := hm'.1 a ha
        have := ih hl hm'.2 fun z hz => by
          rcases List.mem_cons.1 (h z hz) with h1 | h1
          · rcases List.mem_cons.1 hz with h2 | h2
            · exact absurd (h2 ▸ h1) e
            · have h3 := hl'.1 z h2
              rw [h1] at h3
              rw [u8_lt] at h3 hba; omega
          · exact h1
        simp only [List.length_cons] at this ⊢; omega
theorem addL_len (c : UInt8) : ∀ (l : List UInt8), (addL l c).length ≤ l.length + 1 := by
  intro l
  induction l with
  | nil => simp [addL]
  | cons d l ih => unfold addL; split <;> (try split) <;> simp only [List.length_cons] <;> omega
/-- There is room for one more name at each sign that binds. -/
def Roomy (t : Tm) (o m : UInt8) : Prop := (bothL t.free [o, m]).length + t.bdp ≤ 88
theorem mem_two (l : List UInt8) (o m z : UInt8) : z ∈ bothL l [o, m] ↔ z ∈ l ∨ z = o ∨ z = m := by rw [mem_bothL]; simp
theorem roomy_of {t p : Tm} {o m o' m' : UInt8} (y : UInt8) (h : Roomy t o m) (hb : p.bdp + 1 ≤ t.bdp) (hs : ∀ z, z ∈ p.free ∨ z = o' ∨ z = m' → z ∈ t.free ∨ z = o ∨ z = m ∨ z = y) : Roomy p o' m' := by
  unfold Roomy at h ⊢
  have h1 := srt_sub (l := bothL p.free [o', m']) (m := addL (bothL t.free [o, m]) y) (srt_bothL _ (srt_free p)) (srt_addL (srt_bothL _ (srt_free t)) y) (fun z hz => by
    rw [mem_addL, mem_two]
    have := hs z ((mem_two _ _ _ _).1 hz)
    grind)
  have h2 := addL_len y (bothL t.free [o, m])
  omega
theorem roomy_sub {t p : Tm} {o m o' m' : UInt8} (h : Roomy t o m) (hb : p.bdp ≤ t.bdp) (hs : ∀ z, z ∈ p.free ∨ z = o' ∨ z = m' → z ∈ t.free ∨ z = o ∨ z = m) : Roomy p o' m' := by
  unfold Roomy at h ⊢
  have h1 := srt_sub (l := bothL p.free [o', m']) (m := bothL t.free [o, m]) (srt_bothL _ (srt_free p)) (srt_bothL _ (srt_free t)) (fun z hz => by
    rw [mem_two]
    exact hs z ((mem_two _ _ _ _).1 hz))
  omega
def allL : List UInt8 := (List.range 26).map (fun i => UInt8.ofNat (97 + i)) ++ (List.range 63).map (fun i => UInt8.ofNat (128 + i))
theorem allL_srt : Srt allL := by unfold Srt allL; decide +kernel
theorem fresh_new {s : List UInt8} (hs : Srt s) (hl : s.length ≤ 88) : fresh s ∉ s := by
  rcases fresh_cases s with ⟨k, h1, _, h3, h4⟩ | ⟨h0, ⟨k, h1, _, h3, h4⟩ | ⟨h1, h4⟩⟩
  · rw [h4]; exact h3
  · rw [h4]; exact h3
  · have := srt_sub allL_srt hs (fun z hz => by
      unfold allL at hz
      rcases List.mem_append.1 hz with h | h
      · obtain ⟨i, hi, rfl⟩ := List.mem_map.1 h; exact h0 i (List.mem_range.1 hi)
      · obtain ⟨i, hi, rfl⟩ := List.mem_map.1 h; exact h1 i (List.mem_range.1 hi))
    have h2 : allL.length = 89 := by unfold allL; decide +kernel
    omega
/-- A sign that captures: the new name is none of those that matter. -/
theorem cap_new {p t : Tm} {x o m : UInt8} (hr : Roomy t o m) (hb : p.bdp + 1 ≤ t.bdp) (hs : ∀ z, z ∈ p.free → z = x ∨ z ∈ t.free) (hc : x = m ∧ o ∈ p.free) :
    capX p x o m ∉ p.free ∧ capX p x o m ≠ o ∧ capX p x o m ≠ m := by
  unfold capX
  rw [if_pos hc]
  have h := fresh_new (s := bothL p.free [o, m]) (srt_bothL _ (srt_free p)) (by
    unfold Roomy at hr
    have h1 := srt_sub (l := bothL p.free [o, m]) (m := bothL t.free [o, m]) (srt_bothL _ (srt_free p)) (srt_bothL _ (srt_free t)) (fun z hz => by
      rw [mem_two] at hz ⊢
      have := hs z
      grind)
    omega)
  rw [mem_two] at h
  grind

theorem R_free (n : Nat) : ∀ (t : Tm) (o m : UInt8), t.size ≤ n → Roomy t o m → o ≠ m → ∀ z, z ∈ (R t o m).free ↔ (z ∈ t.free ∧ z ≠ o) ∨ (z = m ∧ o ∈ t.free) := by
  induction n with
  | zero => intro t o m h; have := size_pos t; omega
  | succ n ih =>
    intro t o m hn hr hne z
    by_cases h : o = m ∨ o ∉ t.free
    · rw [R_same _ _ _ h]; grind
    · have hof : o ∈ t.free := by grind
      -- the part of a sign that binds: what is free behind it, the bound one apart
      have hb : ∀ (p : Tm) (x : UInt8), p.size ≤ n → p.bdp + 1 ≤ t.bdp → (∀ z, z ∈ p.free → z = x ∨ z ∈ t.free) → ∀ z, (z ∈ (RB p x o m).free ∧ z ≠ capX p x o m) ↔ (z ∈ p.free ∧ z ≠ x ∧ z ≠ o) ∨ (z = m ∧ o ∈ p.free ∧ o ≠ x) := by
        intro p x hp hbl hs z
        unfold RB
        by_cases hc : x = m ∧ o ∈ p.free
        · obtain ⟨y1, y2, y3⟩ := cap_new hr hbl hs hc
          rw [if_neg y2, if_pos hc]
          have r1 : Roomy p x (capX p x o m) := roomy_of (capX p x o m) hr hbl (fun z hz => by have := hs z; grind)
          have f1 := ih p x (capX p x o m) hp r1 (fun e => y3 (e.symm.trans hc.1))
          have r2 : Roomy (R p x (capX p x o m)) o m := roomy_of (capX p x o m) hr (by rw [R_bdp _ _ _ _ (Nat.le_refl _)]; exact hbl) (fun z hz => by have := hs z; have := f1 z; grind)
          have f2 := ih (R p x (capX p x o m)) o m (by rw [R_size]; exact hp) r2 hne z
          have g1 := f1 z
          have g2 := f1 o
          grind
        · have hx : capX p x o m = x := by unfold capX; rw [if_neg hc]
          rw [hx, if_neg hc]
          by_cases ho : x = o
          · rw [if_pos ho]; grind
          · rw [if_neg ho]
            have r1 : Roomy p o m := roomy_of x hr hbl (fun z hz => by have := hs z; grind)
            have f1 := ih p o m hp r1 hne z
            grind
      cases t with
      | nil => simp [Tm.free] at hof
      | snd a b p =>
        simp only [Tm.size] at hn
        have f := ih p o m (by omega) (roomy_sub hr (Nat.le_refl _) (fun z hz => by rw [mf_snd]; grind)) hne z
        rw [R_snd h, mf_snd, mf_snd]; rw [mf_snd] at hof; unfold sw; rw [f]; grind [mf_snd]
      | mat a b p =>
        simp only [Tm.size] at hn
        have f := ih p o m (by omega) (roomy_sub hr (Nat.le_refl _) (fun z hz => by rw [mf_mat]; grind)) hne z
        rw [R_mat h, mf_mat, mf_mat]; rw [mf_mat] at hof; unfold sw; rw [f]; grind [mf_mat]
      | rcv a x p =>
        simp only [Tm.size] at hn
        have f := hb p x (by omega) (by simp only [Tm.bdp]; try omega) (fun z hz => by rw [mf_rcv]; grind) z
        rw [R_rcv h, mf_rcv, mf_rcv, f]; rw [mf_rcv] at hof; unfold sw; grind [mf_rcv]
      | own x p =>
        simp only [Tm.size] at hn
        have f := hb p x (by omega) (by simp only [Tm.bdp]; try omega) (fun z hz => by rw [mf_own]; grind) z
        rw [R_own h, mf_own, mf_own, f]; rw [mf_own] at hof; grind [mf_own]
      | tau p =>
        simp only [Tm.size] at hn
        have f := ih p o m (by omega) (roomy_sub hr (Nat.le_refl _) (fun z hz => by rw [mf_tau]; grind)) hne z
        rw [R_tau h, mf_tau, mf_tau, f]; grind [mf_tau]
      | rep p =>
        simp only [Tm.size] at hn
        have f := ih p o m (by omega) (roomy_sub hr (Nat.le_refl _) (fun z hz => by rw [mf_rep]; grind)) hne z
        rw [R_rep h, mf_rep, mf_rep, f]; grind [mf_rep]
      | sum p q =>
        simp only [Tm.size] at hn
        have f := ih p o m (by omega) (roomy_sub hr (by simp only [Tm.bdp]; try omega) (fun z hz => by rw [mf_sum]; grind)) hne z
        have g := ih q o m (by omega) (roomy_sub hr (by simp only [Tm.bdp]; try omega) (fun z hz => by rw [mf_sum]; grind)) hne z
        rw [R_sum h, mf_sum, mf_sum, f, g]; grind [mf_sum]
      | par p q =>
        simp only [Tm.size] at hn
        have f := ih p o m (by omega) (roomy_sub hr (by simp only [Tm.bdp]; try omega) (fun z hz => by rw [mf_par]; grind)) hne z
        have g := ih q o m (by omega) (roomy_sub hr (by simp only [Tm.bdp]; try omega) (fun z hz => by rw [mf_par]; grind)) hne z
        rw [R_par h, mf_par, mf_par, f, g]; grind [mf_par]

end Go.Proofs.YtpabmidjfpabdaaGreat.T1

/- Congruence, plain: matches at the front, dead parts, names that are used, a process peeled. -/
namespace Go.Proofs.YtpabmidjfpabdaaGreat.T1
set_option linter.unusedVariables false

/-- Congruent to 0. -/
def Tm.dead : Tm → Bool
  | .nil => true
  | .snd _ _ _ => false
  | .rcv _ _ _ => false
  | .tau _ => false
  | .sum p q => p.dead && q.dead
  | .par p q => p.dead && q.dead
  | .own _ p => p.dead
  | .mat _ _ p => p.dead
  | .rep p => p.dead
/-- The free names where dead parts are left out. -/
def Tm.usd : Tm → List UInt8
  | .nil => []
  | .snd a b p => addL (addL (bothL [] p.usd) a) b
  | .rcv a x p => addL (lessL (bothL [] p.usd) x) a
  | .tau p => bothL [] p.usd
  | .sum p q => if p.dead && q.dead then [] else bothL (bothL [] p.usd) q.usd
  | .par p q => if p.dead && q.dead then [] else bothL (bothL [] p.usd) q.usd
  | .own x p => if p.dead then [] else lessL (bothL [] p.usd) x
  | .mat a b p => if a = b then p.usd else if p.dead then [] else addL (addL (bothL [] p.usd) a) b
  | .rep p => if p.dead then [] else bothL [] p.usd
end Go.Proofs.YtpabmidjfpabdaaGreat.T1

/- Congruence, plain: a process and a simplified one that are the same but for names; what a renaming does to it. -/
namespace Go.Proofs.YtpabmidjfpabdaaGreat.T1
set_option linter.unusedVariables false

/-- Two names that are bound at the same place, beside others that belong together. -/
def bdE (E : UInt8 → UInt8 → Prop) (x x' : UInt8) : UInt8 → UInt8 → Prop := fun u v => (u = x ∧ v = x') ∨ (u ≠ x ∧ v ≠ x' ∧ E u v)
/-- A process and what is left of it without dead parts, names of its own that are not used and matches of a name with itself; names belong together as told. -/
def Sm : Tm → (UInt8 → UInt8 → Prop) → Tm → Prop
  | .nil, _, s => s = .nil
  | .snd a b p, E, s => ∃ a' b' p', s = .snd a' b' p' ∧ E a a' ∧ E b b' ∧ Sm p E p'
  | .rcv a x p, E, s => ∃ a' x' p', s = .rcv a' x' p' ∧ E a a' ∧ Sm p (bdE E x x') p'
  | .tau p, E, s => ∃ p', s = .tau p' ∧ Sm p E p'
  | .sum p q, E, s => if p.dead then Sm q E s else if q.dead then Sm p E s else ∃ p' q', s = .sum p' q' ∧ Sm p E p' ∧ Sm q E q'
  | .par p q, E, s => if p.dead then Sm q E s else if q.dead then Sm p E s else ∃ p' q', s = .par p' q' ∧ Sm p E p' ∧ Sm q E q'
  | .own x p, E, s => if x ∈ p.usd then ∃ x' p', s = .own x' p' ∧ Sm p (bdE E x x') p' else Sm p E s
  | .mat a b p, E, s => if a = b then Sm p E s else if p.dead then s = .nil else ∃ a' b' p', s = .mat a' b' p' ∧ E a a' ∧ E b b' ∧ Sm p E p'
  | .rep p, E, s => if p.dead then s = .nil else ∃ p', s = .rep p' ∧ Sm p E p'

end Go.Proofs.YtpabmidjfpabdaaGreat.T1
