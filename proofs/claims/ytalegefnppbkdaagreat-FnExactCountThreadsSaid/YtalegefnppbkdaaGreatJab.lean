/- Texts of the proof, put together: Rf, Np, Nq. No conditions. -/
import Derived.Test.YtalegefnppbkdaaGreatJaa
namespace Go.Proofs.YtalegefnppbkdaaGreat.T1
set_option linter.unusedVariables false
theorem mf_snd (a b : UInt8) (p : Tm) (z : UInt8) : z ∈ (Tm.snd a b p).free ↔ z = a ∨ z = b ∨ z ∈ p.free := by
 simp only [Tm.free, mem_addL, mem_bothL]; grind
theorem mf_rcv (a x : UInt8) (p : Tm) (z : UInt8) : z ∈ (Tm.rcv a x p).free ↔ z = a ∨ (z ∈ p.free ∧ z ≠ x) := by
 simp only [Tm.free, mem_addL, mem_bothL, mem_lessL]; grind
theorem mf_tau (p : Tm) (z : UInt8) : z ∈ (Tm.tau p).free ↔ z ∈ p.free := by
 simp only [Tm.free, mem_bothL]; grind
theorem mf_sum (p q : Tm) (z : UInt8) : z ∈ (Tm.sum p q).free ↔ z ∈ p.free ∨ z ∈ q.free := by
 simp only [Tm.free, mem_bothL]; grind
theorem mf_par (p q : Tm) (z : UInt8) : z ∈ (Tm.par p q).free ↔ z ∈ p.free ∨ z ∈ q.free := by
 simp only [Tm.free, mem_bothL]; grind
theorem mf_own (x : UInt8) (p : Tm) (z : UInt8) : z ∈ (Tm.own x p).free ↔ z ∈ p.free ∧ z ≠ x := by
 simp only [Tm.free, mem_bothL, mem_lessL]; grind
theorem mf_mat (a b : UInt8) (p : Tm) (z : UInt8) : z ∈ (Tm.mat a b p).free ↔ z = a ∨ z = b ∨ z ∈ p.free := by
 simp only [Tm.free, mem_addL, mem_bothL]; grind
theorem mf_rep (p : Tm) (z : UInt8) : z ∈ (Tm.rep p).free ↔ z ∈ p.free := by
 simp only [Tm.free, mem_bothL]; grind
theorem ren_fuel (n : Nat) : ∀ (k : Nat) (t : Tm) (o m : UInt8), t.size ≤ n → t.size ≤ k → ren n t o m = ren k t o m := by
 induction n with
 | zero => intro k t o m h; have := size_pos t; omega
 | succ n ih =>
  intro k t o m hn hk
  cases k with
  | zero => have := size_pos t; omega
  | succ k =>
   have hb : ∀ p x, p.size ≤ n → p.size ≤ k → renB n p x o m = renB k p x o m := by
    intro p x h1 h2
    unfold renB
    split <;> split
    ·exact ih _ _ _ _ h1 h2
    ·rfl
    ·rw [ih k p x _ h1 h2]
     exact ih _ _ _ _ (by rw [(ren_len _ _ _ _).2]; exact h1) (by rw [(ren_len _ _ _ _).2]; exact h2)
    ·exact ih _ _ _ _ h1 h2
   unfold ren
   split
   ·rfl
   ·cases t with
    | nil => rfl
    | snd a b p => simp only [Tm.size] at hn hk; simp only [ih k p o m (by omega) (by omega)]
    | rcv a x p => simp only [Tm.size] at hn hk; have h := hb p x (by omega) (by omega); unfold renB at h; simp only [h]
    | tau p => simp only [Tm.size] at hn hk; simp only [ih k p o m (by omega) (by omega)]
    | sum p q => simp only [Tm.size] at hn hk; simp only [ih k p o m (by omega) (by omega), ih k q o m (by omega) (by omega)]
    | par p q => simp only [Tm.size] at hn hk; simp only [ih k p o m (by omega) (by omega), ih k q o m (by omega) (by omega)]
    | own x p => simp only [Tm.size] at hn hk; have h := hb p x (by omega) (by omega); unfold renB at h; simp only [h]
    | mat a b p => simp only [Tm.size] at hn hk; simp only [ih k p o m (by omega) (by omega)]
    | rep p => simp only [Tm.size] at hn hk; simp only [ih k p o m (by omega) (by omega)]
def R (t : Tm) (o m : UInt8) : Tm := ren t.size t o m
theorem R_size (t : Tm) (o m : UInt8) : (R t o m).size = t.size := (ren_len _ _ _ _).2
theorem R_len (t : Tm) (o m : UInt8) : (R t o m).pr.length = t.pr.length := (ren_len _ _ _ _).1
theorem ren_R {n : Nat} {t : Tm} (h : t.size ≤ n) (o m : UInt8) : ren n t o m = R t o m := ren_fuel _ _ _ _ _ h (Nat.le_refl _)
theorem R_same (t : Tm) (o m : UInt8) (h : o = m ∨ o ∉ t.free) : R t o m = t := ren_same _ _ _ _ h
def RB (p : Tm) (x o m : UInt8) : Tm := if capX p x o m = o then (if x = m ∧ o ∈ p.free then R p x (capX p x o m) else p) else R (if x = m ∧ o ∈ p.free then R p x (capX p x o m) else p) o m
theorem renB_RB {n : Nat} {p : Tm} (h : p.size ≤ n) (x o m : UInt8) : renB n p x o m = RB p x o m := by
 unfold renB RB
 split <;> split
 ·rw [ren_R h]
 ·rfl
 ·rw [ren_R h, ren_R (by rw [R_size]; exact h)]
 ·rw [ren_R h]
section
variable {o m : UInt8}
theorem R_snd {a b : UInt8} {p : Tm} (h : ¬ (o = m ∨ o ∉ (Tm.snd a b p).free)) : R (.snd a b p) o m = .snd (sw a o m) (sw b o m) (R p o m) := by
 show ren (p.size + 1) _ _ _ = _
 unfold ren; rw [if_neg h]; simp only [ren_R (Nat.le_refl p.size)]
theorem R_mat {a b : UInt8} {p : Tm} (h : ¬ (o = m ∨ o ∉ (Tm.mat a b p).free)) : R (.mat a b p) o m = .mat (sw a o m) (sw b o m) (R p o m) := by
 show ren (p.size + 1) _ _ _ = _
 unfold ren; rw [if_neg h]; simp only [ren_R (Nat.le_refl p.size)]
theorem R_rcv {a x : UInt8} {p : Tm} (h : ¬ (o = m ∨ o ∉ (Tm.rcv a x p).free)) : R (.rcv a x p) o m = .rcv (sw a o m) (capX p x o m) (RB p x o m) := by
 show ren (p.size + 1) _ _ _ = _
 rw [← renB_RB (Nat.le_refl p.size)]
 unfold ren renB; rw [if_neg h]
theorem R_own {x : UInt8} {p : Tm} (h : ¬ (o = m ∨ o ∉ (Tm.own x p).free)) : R (.own x p) o m = .own (capX p x o m) (RB p x o m) := by
 show ren (p.size + 1) _ _ _ = _
 rw [← renB_RB (Nat.le_refl p.size)]
 unfold ren renB; rw [if_neg h]
theorem R_tau {p : Tm} (h : ¬ (o = m ∨ o ∉ (Tm.tau p).free)) : R (.tau p) o m = .tau (R p o m) := by
 show ren (p.size + 1) _ _ _ = _
 unfold ren; rw [if_neg h]; simp only [ren_R (Nat.le_refl p.size)]
theorem R_rep {p : Tm} (h : ¬ (o = m ∨ o ∉ (Tm.rep p).free)) : R (.rep p) o m = .rep (R p o m) := by
 show ren (p.size + 1) _ _ _ = _
 unfold ren; rw [if_neg h]; simp only [ren_R (Nat.le_refl p.size)]
theorem R_sum {p q : Tm} (h : ¬ (o = m ∨ o ∉ (Tm.sum p q).free)) : R (.sum p q) o m = .sum (R p o m) (R q o m) := by
 show ren (p.size + q.size + 1) _ _ _ = _
 unfold ren; rw [if_neg h]; simp only [ren_R (Nat.le_add_right p.size q.size), ren_R (Nat.le_add_left q.size p.size)]
theorem R_par {p q : Tm} (h : ¬ (o = m ∨ o ∉ (Tm.par p q).free)) : R (.par p q) o m = .par (R p o m) (R q o m) := by
 show ren (p.size + q.size + 1) _ _ _ = _
 unfold ren; rw [if_neg h]; simp only [ren_R (Nat.le_add_right p.size q.size), ren_R (Nat.le_add_left q.size p.size)]
end
def Tm.bdp : Tm → Nat
 | .nil => 0
 | .snd _ _ p => p.bdp
 | .rcv _ _ p => p.bdp + 1
 | .tau p => p.bdp
 | .sum p q => max p.bdp q.bdp
 | .par p q => max p.bdp q.bdp
 | .own _ p => p.bdp + 1
 | .mat _ _ p => p.bdp
 | .rep p => p.bdp
theorem bdp_bnd (t : Tm) : t.bdp ≤ t.bnd.length := by
 induction t <;> simp only [Tm.bdp, Tm.bnd, List.length_append, List.length_cons, List.length_nil] <;> omega
theorem R_bdp (n : Nat) : ∀ (t : Tm) (o m : UInt8), t.size ≤ n → (R t o m).bdp = t.bdp := by
 induction n with
 | zero => intro t o m h; have := size_pos t; omega
 | succ n ih =>
  intro t o m hn
  by_cases h : o = m ∨ o ∉ t.free
  ·rw [R_same _ _ _ h]
  ·have hb : ∀ p x, p.size ≤ n → (RB p x o m).bdp = p.bdp := by
    intro p x h1
    unfold RB
    split <;> split
    ·exact ih _ _ _ h1
    ·rfl
    ·rw [ih _ _ _ (by rw [R_size]; exact h1)]; exact ih _ _ _ h1
    ·exact ih _ _ _ h1
   cases t with
   | nil => exact absurd (.inr (by simp [Tm.free])) h
   | snd a b p => simp only [Tm.size] at hn; rw [R_snd h]; exact ih _ _ _ (by omega)
   | rcv a x p => simp only [Tm.size] at hn; rw [R_rcv h]; simp only [Tm.bdp]; rw [hb p x (by omega)]
   | tau p => simp only [Tm.size] at hn; rw [R_tau h]; exact ih _ _ _ (by omega)
   | sum p q => simp only [Tm.size] at hn; rw [R_sum h]; simp only [Tm.bdp]; rw [ih p _ _ (by omega), ih q _ _ (by omega)]
   | par p q => simp only [Tm.size] at hn; rw [R_par h]; simp only [Tm.bdp]; rw [ih p _ _ (by omega), ih q _ _ (by omega)]
   | own x p => simp only [Tm.size] at hn; rw [R_own h]; simp only [Tm.bdp]; rw [hb p x (by omega)]
   | mat a b p => simp only [Tm.size] at hn; rw [R_mat h]; exact ih _ _ _ (by omega)
   | rep p => simp only [Tm.size] at hn; rw [R_rep h]; exact ih _ _ _ (by omega)
theorem srt_sub : ∀ {m l : List UInt8}, Srt l → Srt m → (∀ z ∈ l, z ∈ m) → l.length ≤ m.length := by
 intro m
 induction m with
 | nil => intro l _ _ h; cases l with
  | nil => simp
  | cons a l => exact absurd (h a (by simp)) (by simp)
 | cons b m ih =>
  intro l hl hm h
  cases l with
  | nil => simp
  | cons a l =>
   have hl' := List.pairwise_cons.1 hl
   have hm' := List.pairwise_cons.1 hm
   by_cases e : a = b
   ·subst e
    have := ih hl'.2 hm'.2 fun z hz => by
     rcases List.mem_cons.1 (h z (List.mem_cons_of_mem _ hz)) with h1 | h1
     ·have := hl'.1 z hz; rw [h1, u8_lt] at this; omega
     ·exact h1
    simp; exact this
   ·have ha : a ∈ m := by
     rcases List.mem_cons.1 (h a (by simp)) with h1 | h1
     ·exact absurd h1 e
     ·exact h1
    have hba := hm'.1 a ha
    have := ih hl hm'.2 fun z hz => by
     rcases List.mem_cons.1 (h z hz) with h1 | h1
     ·rcases List.mem_cons.1 hz with h2 | h2
      ·exact absurd (h2 ▸ h1) e
      ·have h3 := hl'.1 z h2
       rw [h1] at h3
       rw [u8_lt] at h3 hba; omega
     ·exact h1
    simp only [List.length_cons] at this ⊢; omega
theorem addL_len (c : UInt8) : ∀ (l : List UInt8), (addL l c).length ≤ l.length + 1 := by
 intro l
 induction l with
 | nil => simp [addL]
 | cons d l ih => unfold addL; split <;> (try split) <;> simp only [List.length_cons] <;> omega
def Roomy (t : Tm) (o m : UInt8) : Prop := (bothL t.free [o, m]).length + t.bdp ≤ 88
theorem mem_two (l : List UInt8) (o m z : UInt8) : z ∈ bothL l [o, m] ↔ z ∈ l ∨ z = o ∨ z = m := by rw [mem_bothL]; simp
theorem roomy_of {t p : Tm} {o m o' m' : UInt8} (y : UInt8) (h : Roomy t o m) (hb : p.bdp + 1 ≤ t.bdp) (hs : ∀ z, z ∈ p.free ∨ z = o' ∨ z = m' → z ∈ t.free ∨ z = o ∨ z = m ∨ z = y) : Roomy p o' m' := by
 unfold Roomy at h ⊢
 have h1 := srt_sub (l := bothL p.free [o', m']) (m := addL (bothL t.free [o, m]) y) (srt_bothL _ (srt_free p)) (srt_addL (srt_bothL _ (srt_free t)) y) (fun z hz => by
  rw [mem_addL, mem_two]
  have := hs z ((mem_two _ _ _ _).1 hz)
  grind)
 have h2 := addL_len y (bothL t.free [o, m])
 omega
theorem roomy_sub {t p : Tm} {o m o' m' : UInt8} (h : Roomy t o m) (hb : p.bdp ≤ t.bdp) (hs : ∀ z, z ∈ p.free ∨ z = o' ∨ z = m' → z ∈ t.free ∨ z = o ∨ z = m) : Roomy p o' m' := by
 unfold Roomy at h ⊢
 have h1 := srt_sub (l := bothL p.free [o', m']) (m := bothL t.free [o, m]) (srt_bothL _ (srt_free p)) (srt_bothL _ (srt_free t)) (fun z hz => by
  rw [mem_two]
  exact hs z ((mem_two _ _ _ _).1 hz))
 omega
def allL : List UInt8 := (List.range 26).map (fun i => UInt8.ofNat (97 + i)) ++ (List.range 63).map (fun i => UInt8.ofNat (128 + i))
theorem allL_srt : Srt allL := by unfold Srt allL; decide +kernel
theorem fresh_new {s : List UInt8} (hs : Srt s) (hl : s.length ≤ 88) : fresh s ∉ s := by
 rcases fresh_cases s with ⟨k, h1, _, h3, h4⟩ | ⟨h0, ⟨k, h1, _, h3, h4⟩ | ⟨h1, h4⟩⟩
 ·rw [h4]; exact h3
 ·rw [h4]; exact h3
 ·have := srt_sub allL_srt hs (fun z hz => by
   unfold allL at hz
   rcases List.mem_append.1 hz with h | h
   ·obtain ⟨i, hi, rfl⟩ := List.mem_map.1 h; exact h0 i (List.mem_range.1 hi)
   ·obtain ⟨i, hi, rfl⟩ := List.mem_map.1 h; exact h1 i (List.mem_range.1 hi))
  have h2 : allL.length = 89 := by unfold allL; decide +kernel
  omega
theorem cap_new {p t : Tm} {x o m : UInt8} (hr : Roomy t o m) (hb : p.bdp + 1 ≤ t.bdp) (hs : ∀ z, z ∈ p.free → z = x ∨ z ∈ t.free) (hc : x = m ∧ o ∈ p.free) :
  capX p x o m ∉ p.free ∧ capX p x o m ≠ o ∧ capX p x o m ≠ m := by
 unfold capX
 rw [if_pos hc]
 have h := fresh_new (s := bothL p.free [o, m]) (srt_bothL _ (srt_free p)) (by
  unfold Roomy at hr
  have h1 := srt_sub (l := bothL p.free [o, m]) (m := bothL t.free [o, m]) (srt_bothL _ (srt_free p)) (srt_bothL _ (srt_free t)) (fun z hz => by
   rw [mem_two] at hz ⊢
   have := hs z
   grind)
  omega)
 rw [mem_two] at h
 grind
theorem R_free (n : Nat) : ∀ (t : Tm) (o m : UInt8), t.size ≤ n → Roomy t o m → o ≠ m → ∀ z, z ∈ (R t o m).free ↔ (z ∈ t.free ∧ z ≠ o) ∨ (z = m ∧ o ∈ t.free) := by
 induction n with
 | zero => intro t o m h; have := size_pos t; omega
 | succ n ih =>
  intro t o m hn hr hne z
  by_cases h : o = m ∨ o ∉ t.free
  ·rw [R_same _ _ _ h]; grind
  ·have hof : o ∈ t.free := by grind
   -- the part of a sign that binds: what is free behind it, the bound one apart
   have hb : ∀ (p : Tm) (x : UInt8), p.size ≤ n → p.bdp + 1 ≤ t.bdp → (∀ z, z ∈ p.free → z = x ∨ z ∈ t.free) → ∀ z, (z ∈ (RB p x o m).free ∧ z ≠ capX p x o m) ↔ (z ∈ p.free ∧ z ≠ x ∧ z ≠ o) ∨ (z = m ∧ o ∈ p.free ∧ o ≠ x) := by
    intro p x hp hbl hs z
    unfold RB
    by_cases hc : x = m ∧ o ∈ p.free
    ·obtain ⟨y1, y2, y3⟩ := cap_new hr hbl hs hc
     rw [if_neg y2, if_pos hc]
     have r1 : Roomy p x (capX p x o m) := roomy_of (capX p x o m) hr hbl (fun z hz => by have := hs z; grind)
     have f1 := ih p x (capX p x o m) hp r1 (fun e => y3 (e.symm.trans hc.1))
     have r2 : Roomy (R p x (capX p x o m)) o m := roomy_of (capX p x o m) hr (by rw [R_bdp _ _ _ _ (Nat.le_refl _)]; exact hbl) (fun z hz => by have := hs z; have := f1 z; grind)
     have f2 := ih (R p x (capX p x o m)) o m (by rw [R_size]; exact hp) r2 hne z
     have g1 := f1 z
     have g2 := f1 o
     grind
    ·have hx : capX p x o m = x := by unfold capX; rw [if_neg hc]
     rw [hx, if_neg hc]
     by_cases ho : x = o
     ·rw [if_pos ho]; grind
     ·rw [if_neg ho]
      have r1 : Roomy p o m := roomy_of x hr hbl (fun z hz => by have := hs z; grind)
      have f1 := ih p o m hp r1 hne z
      grind
   cases t with
   | nil => simp [Tm.free] at hof
   | snd a b p =>
    simp only [Tm.size] at hn
    have f := ih p o m (by omega) (roomy_sub hr (Nat.le_refl _) (fun z hz => by rw [mf_snd]; grind)) hne z
    rw [R_snd h, mf_snd, mf_snd]; rw [mf_snd] at hof; unfold sw; rw [f]; grind [mf_snd]
   | mat a b p =>
    simp only [Tm.size] at hn
    have f := ih p o m (by omega) (roomy_sub hr (Nat.le_refl _) (fun z hz => by rw [mf_mat]; grind)) hne z
    rw [R_mat h, mf_mat, mf_mat]; rw [mf_mat] at hof; unfold sw; rw [f]; grind [mf_mat]
   | rcv a x p =>
    simp only [Tm.size] at hn
    have f := hb p x (by omega) (by simp only [Tm.bdp]; try omega) (fun z hz => by rw [mf_rcv]; grind) z
    rw [R_rcv h, mf_rcv, mf_rcv, f]; rw [mf_rcv] at hof; unfold sw; grind [mf_rcv]
   | own x p =>
    simp only [Tm.size] at hn
    have f := hb p x (by omega) (by simp only [Tm.bdp]; try omega) (fun z hz => by rw [mf_own]; grind) z
    rw [R_own h, mf_own, mf_own, f]; rw [mf_own] at hof; grind [mf_own]
   | tau p =>
    simp only [Tm.size] at hn
    have f := ih p o m (by omega) (roomy_sub hr (Nat.le_refl _) (fun z hz => by rw [mf_tau]; grind)) hne z
    rw [R_tau h, mf_tau, mf_tau, f]; grind [mf_tau]
   | rep p =>
    simp only [Tm.size] at hn
    have f := ih p o m (by omega) (roomy_sub hr (Nat.le_refl _) (fun z hz => by rw [mf_rep]; grind)) hne z
    rw [R_rep h, mf_rep, mf_rep, f]; grind [mf_rep]
   | sum p q =>
    simp only [Tm.size] at hn
    have f := ih p o m (by omega) (roomy_sub hr (by simp only [Tm.bdp]; try omega) (fun z hz => by rw [mf_sum]; grind)) hne z
    have g := ih q o m (by omega) (roomy_sub hr (by simp only [Tm.bdp]; try omega) (fun z hz => by rw [mf_sum]; grind)) hne z
    rw [R_sum h, mf_sum, mf_sum, f, g]; grind [mf_sum]
   | par p q =>
    simp only [Tm.size] at hn
    have f := ih p o m (by omega) (roomy_sub hr (by simp only [Tm.bdp]; try omega) (fun z hz => by rw [mf_par]; grind)) hne z
    have g := ih q o m (by omega) (roomy_sub hr (by simp only [Tm.bdp]; try omega) (fun z hz => by rw [mf_par]; grind)) hne z
    rw [R_par h, mf_par, mf_par, f, g]; grind [mf_par]
def Tm.strip : Tm → Tm
 | .mat a b p => if a = b then p.strip else .mat a b p
 | t => t
def Tm.dead : Tm → Bool
 | .nil => true
 | .snd _ _ _ => false
 | .rcv _ _ _ => false
 | .tau _ => false
 | .sum p q => p.dead && q.dead
 | .par p q => p.dead && q.dead
 | .own _ p => p.dead
 | .mat _ _ p => p.dead
 | .rep p => p.dead
def Tm.usd : Tm → List UInt8
 | .nil => []
 | .snd a b p => addL (addL (bothL [] p.usd) a) b
 | .rcv a x p => addL (lessL (bothL [] p.usd) x) a
 | .tau p => bothL [] p.usd
 | .sum p q => if p.dead && q.dead then [] else bothL (bothL [] p.usd) q.usd
 | .par p q => if p.dead && q.dead then [] else bothL (bothL [] p.usd) q.usd
 | .own x p => if p.dead then [] else lessL (bothL [] p.usd) x
 | .mat a b p => if a = b then p.usd else if p.dead then [] else addL (addL (bothL [] p.usd) a) b
 | .rep p => if p.dead then [] else bothL [] p.usd
def Tm.peel : Tm → Tm
 | .mat a b p => if a = b then p.peel else .mat a b p
 | .sum p q => if p.dead then q.peel else if q.dead then p.peel else .sum p q
 | .par p q => if p.dead then q.peel else if q.dead then p.peel else .par p q
 | .own x p => if x ∈ p.usd then .own x p else p.peel
 | t => t
theorem strip_dead (t : Tm) : t.strip.dead = t.dead := by
 induction t with
 | mat a b p ih => unfold Tm.strip; split; (rw [ih]; rfl); rfl
 | _ => rfl
theorem strip_sub (t : Tm) : (∀ nm, t.ok nm = true → t.strip.ok nm = true) ∧ t.strip.pr.length ≤ t.pr.length ∧ t.strip.size ≤ t.size ∧ t.strip.bnd.length ≤ t.bnd.length ∧ (∀ z, z ∈ t.strip.free → z ∈ t.free) := by
 induction t with
 | mat a b p ih =>
  unfold Tm.strip
  split
  ·refine ⟨fun nm h => ih.1 nm (by simp only [Tm.ok, Bool.and_eq_true] at h; exact h.2), ?_, ?_, ?_, ?_⟩
   ·simp only [Tm.pr, List.length_cons]; omega
   ·simp only [Tm.size]; omega
   ·exact ih.2.2.2.1
   ·intro z hz; rw [mf_mat]; exact .inr (.inr (ih.2.2.2.2 z hz))
  ·exact ⟨fun _ h => h, Nat.le_refl _, Nat.le_refl _, Nat.le_refl _, fun _ h => h⟩
 | _ => exact ⟨fun _ h => h, Nat.le_refl _, Nat.le_refl _, Nat.le_refl _, fun _ h => h⟩
theorem strip_usd (t : Tm) : t.strip.usd = t.usd := by
 induction t with
 | mat a b p ih =>
  unfold Tm.strip
  split
  ·rename_i h; rw [ih]; simp only [Tm.usd]; rw [if_pos h]
  ·rfl
 | _ => rfl
theorem strip_no (t : Tm) : ∀ a p, t.strip ≠ .mat a a p := by
 induction t with
 | mat a b p ih =>
  intro c q
  unfold Tm.strip
  split
  ·exact ih c q
  ·rename_i h; intro e; injection e with e1 e2 e3; exact h (e1.trans e2.symm)
 | _ => intro c q e; cases e
theorem srt_usd (t : Tm) : Srt t.usd := by
 induction t with
 | nil => exact srt_nil
 | snd a b p ih => exact srt_addL (srt_addL (srt_bothL _ srt_nil) a) b
 | rcv a x p ih => exact srt_addL (srt_lessL (srt_bothL _ srt_nil) x) a
 | tau p ih => exact srt_bothL _ srt_nil
 | sum p q ih ih2 => unfold Tm.usd; split; exact srt_nil; exact srt_bothL _ (srt_bothL _ srt_nil)
 | par p q ih ih2 => unfold Tm.usd; split; exact srt_nil; exact srt_bothL _ (srt_bothL _ srt_nil)
 | own x p ih => unfold Tm.usd; split; exact srt_nil; exact srt_lessL (srt_bothL _ srt_nil) x
 | mat a b p ih => unfold Tm.usd; split; exact ih; split; exact srt_nil; exact srt_addL (srt_addL (srt_bothL _ srt_nil) a) b
 | rep p ih => unfold Tm.usd; split; exact srt_nil; exact srt_bothL _ srt_nil
theorem peel_strip (t : Tm) : t.strip.peel = t.peel := by
 induction t with
 | mat a b p ih =>
  unfold Tm.strip
  split
  ·rename_i h; rw [ih]; simp only [Tm.peel]; rw [if_pos h]
  ·rfl
 | _ => rfl
theorem peel_sub (t : Tm) : (∀ nm, t.ok nm = true → t.peel.ok nm = true) ∧ t.peel.pr.length ≤ t.pr.length ∧ t.peel.size ≤ t.size ∧ t.peel.bnd.length ≤ t.bnd.length := by
 induction t with
 | mat a b p ih =>
  unfold Tm.peel
  split
  ·exact ⟨fun nm h => ih.1 nm (by simp only [Tm.ok, Bool.and_eq_true] at h; exact h.2), by simp only [Tm.pr, List.length_cons]; omega, by simp only [Tm.size]; omega, by simp only [Tm.bnd]; omega⟩
  ·exact ⟨fun _ h => h, Nat.le_refl _, Nat.le_refl _, Nat.le_refl _⟩
 | sum p q ih ih2 =>
  unfold Tm.peel
  split
  ·exact ⟨fun nm h => ih2.1 nm (by simp only [Tm.ok, Bool.and_eq_true] at h; exact h.2), by simp only [Tm.pr, List.length_cons, List.length_append]; omega, by simp only [Tm.size]; omega, by simp only [Tm.bnd, List.length_append]; omega⟩
  ·split
   ·exact ⟨fun nm h => ih.1 nm (by simp only [Tm.ok, Bool.and_eq_true] at h; exact h.1), by simp only [Tm.pr, List.length_cons, List.length_append]; omega, by simp only [Tm.size]; omega, by simp only [Tm.bnd, List.length_append]; omega⟩
   ·exact ⟨fun _ h => h, Nat.le_refl _, Nat.le_refl _, Nat.le_refl _⟩
 | par p q ih ih2 =>
  unfold Tm.peel
  split
  ·exact ⟨fun nm h => ih2.1 nm (by simp only [Tm.ok, Bool.and_eq_true] at h; exact h.2), by simp only [Tm.pr, List.length_cons, List.length_append]; omega, by simp only [Tm.size]; omega, by simp only [Tm.bnd, List.length_append]; omega⟩
  ·split
   ·exact ⟨fun nm h => ih.1 nm (by simp only [Tm.ok, Bool.and_eq_true] at h; exact h.1), by simp only [Tm.pr, List.length_cons, List.length_append]; omega, by simp only [Tm.size]; omega, by simp only [Tm.bnd, List.length_append]; omega⟩
   ·exact ⟨fun _ h => h, Nat.le_refl _, Nat.le_refl _, Nat.le_refl _⟩
 | own x p ih =>
  unfold Tm.peel
  split
  ·exact ⟨fun _ h => h, Nat.le_refl _, Nat.le_refl _, Nat.le_refl _⟩
  ·exact ⟨fun nm h => ih.1 nm (by simp only [Tm.ok, Bool.and_eq_true] at h; exact h.2), by simp only [Tm.pr, List.length_cons]; omega, by simp only [Tm.size]; omega, by simp only [Tm.bnd, List.length_cons]; omega⟩
 | _ => exact ⟨fun _ h => h, Nat.le_refl _, Nat.le_refl _, Nat.le_refl _⟩
def Tm.sums : Nat → Tm → List Tm
 | 0, _ => []
 | n + 1, t => match t.peel with
  | .sum p q => Tm.sums n p ++ Tm.sums n q
  | u => if u.dead then [] else [u]
def joinR (c : Tm → Tm → Tm) : List Tm → Tm
 | [] => .nil
 | [t] => t
 | t :: ts => c t (joinR c ts)
theorem dead_usd (t : Tm) : t.dead = true → t.usd = [] := by
 induction t with
 | nil => intro _; rfl
 | snd a b p ih => intro h; cases h
 | rcv a x p ih => intro h; cases h
 | tau p ih => intro h; cases h
 | sum p q ih ih2 => intro h; unfold Tm.usd; exact if_pos h
 | par p q ih ih2 => intro h; unfold Tm.usd; exact if_pos h
 | own x p ih => intro h; unfold Tm.usd; exact if_pos h
 | mat a b p ih =>
  intro h; unfold Tm.usd; split
  ·exact ih h
  ·exact if_pos h
 | rep p ih => intro h; unfold Tm.usd; exact if_pos h
theorem mu_snd (a b : UInt8) (p : Tm) (z : UInt8) : z ∈ (Tm.snd a b p).usd ↔ z = a ∨ z = b ∨ z ∈ p.usd := by
 show z ∈ addL (addL (bothL [] p.usd) a) b ↔ _; rw [mem_addL, mem_addL, mem_bothL]; grind
theorem mu_rcv (a x : UInt8) (p : Tm) (z : UInt8) : z ∈ (Tm.rcv a x p).usd ↔ z = a ∨ (z ∈ p.usd ∧ z ≠ x) := by
 show z ∈ addL (lessL (bothL [] p.usd) x) a ↔ _; rw [mem_addL, mem_lessL, mem_bothL]; grind
theorem mu_tau (p : Tm) (z : UInt8) : z ∈ (Tm.tau p).usd ↔ z ∈ p.usd := by
 show z ∈ bothL [] p.usd ↔ _; rw [mem_bothL]; simp
theorem mu_rep (p : Tm) (z : UInt8) : z ∈ (Tm.rep p).usd ↔ z ∈ p.usd := by
 show z ∈ (if p.dead then [] else bothL [] p.usd) ↔ _; split
 ·rename_i h; rw [dead_usd _ h]
 ·rw [mem_bothL]; simp
theorem mu_sum (p q : Tm) (z : UInt8) : z ∈ (Tm.sum p q).usd ↔ z ∈ p.usd ∨ z ∈ q.usd := by
 show z ∈ (if p.dead && q.dead then [] else bothL (bothL [] p.usd) q.usd) ↔ _; split
 ·rename_i h; rw [Bool.and_eq_true] at h; rw [dead_usd _ h.1, dead_usd _ h.2]; simp
 ·rw [mem_bothL, mem_bothL]; simp
theorem mu_par (p q : Tm) (z : UInt8) : z ∈ (Tm.par p q).usd ↔ z ∈ p.usd ∨ z ∈ q.usd := by
 show z ∈ (if p.dead && q.dead then [] else bothL (bothL [] p.usd) q.usd) ↔ _; split
 ·rename_i h; rw [Bool.and_eq_true] at h; rw [dead_usd _ h.1, dead_usd _ h.2]; simp
 ·rw [mem_bothL, mem_bothL]; simp
theorem mu_own (x : UInt8) (p : Tm) (z : UInt8) : z ∈ (Tm.own x p).usd ↔ z ∈ p.usd ∧ z ≠ x := by
 show z ∈ (if p.dead then [] else lessL (bothL [] p.usd) x) ↔ _; split
 ·rename_i h; rw [dead_usd _ h]; simp
 ·rw [mem_lessL, mem_bothL]; simp
theorem mu_mat (a b : UInt8) (p : Tm) (z : UInt8) : z ∈ (Tm.mat a b p).usd ↔ (a = b ∧ z ∈ p.usd) ∨ (a ≠ b ∧ p.dead = false ∧ (z = a ∨ z = b ∨ z ∈ p.usd)) := by
 show z ∈ (if a = b then p.usd else if p.dead then [] else addL (addL (bothL [] p.usd) a) b) ↔ _; split
 ·rename_i h; simp [h]
 ·rename_i h; split
  ·rename_i h2; simp [h, h2]
  ·rename_i h2; rw [mem_addL, mem_addL, mem_bothL]
   have : p.dead = false := by simpa using h2
   simp [h, this]; grind
theorem usd_free (t : Tm) : ∀ z, z ∈ t.usd → z ∈ t.free := by
 induction t with
 | nil => intro z h; simp [Tm.usd] at h
 | snd a b p ih => intro z h; rw [mu_snd] at h; rw [mf_snd]; have := ih z; grind
 | rcv a x p ih => intro z h; rw [mu_rcv] at h; rw [mf_rcv]; have := ih z; grind
 | tau p ih => intro z h; rw [mu_tau] at h; rw [mf_tau]; exact ih z h
 | sum p q ih ih2 => intro z h; rw [mu_sum] at h; rw [mf_sum]; have := ih z; have := ih2 z; grind
 | par p q ih ih2 => intro z h; rw [mu_par] at h; rw [mf_par]; have := ih z; have := ih2 z; grind
 | own x p ih => intro z h; rw [mu_own] at h; rw [mf_own]; have := ih z; grind
 | mat a b p ih => intro z h; rw [mu_mat] at h; rw [mf_mat]; have := ih z; grind
 | rep p ih => intro z h; rw [mu_rep] at h; rw [mf_rep]; exact ih z h
def bdE (E : UInt8 → UInt8 → Prop) (x x' : UInt8) : UInt8 → UInt8 → Prop := fun u v => (u = x ∧ v = x') ∨ (u ≠ x ∧ v ≠ x' ∧ E u v)
def sbE (E : UInt8 → UInt8 → Prop) (o m : UInt8) : UInt8 → UInt8 → Prop := fun u v => (u = m ∧ E o v) ∨ (u ≠ m ∧ u ≠ o ∧ E u v)
def Sm : Tm → (UInt8 → UInt8 → Prop) → Tm → Prop
 | .nil, _, s => s = .nil
 | .snd a b p, E, s => ∃ a' b' p', s = .snd a' b' p' ∧ E a a' ∧ E b b' ∧ Sm p E p'
 | .rcv a x p, E, s => ∃ a' x' p', s = .rcv a' x' p' ∧ E a a' ∧ Sm p (bdE E x x') p'
 | .tau p, E, s => ∃ p', s = .tau p' ∧ Sm p E p'
 | .sum p q, E, s => if p.dead then Sm q E s else if q.dead then Sm p E s else ∃ p' q', s = .sum p' q' ∧ Sm p E p' ∧ Sm q E q'
 | .par p q, E, s => if p.dead then Sm q E s else if q.dead then Sm p E s else ∃ p' q', s = .par p' q' ∧ Sm p E p' ∧ Sm q E q'
 | .own x p, E, s => if x ∈ p.usd then ∃ x' p', s = .own x' p' ∧ Sm p (bdE E x x') p' else Sm p E s
 | .mat a b p, E, s => if a = b then Sm p E s else if p.dead then s = .nil else ∃ a' b' p', s = .mat a' b' p' ∧ E a a' ∧ E b b' ∧ Sm p E p'
 | .rep p, E, s => if p.dead then s = .nil else ∃ p', s = .rep p' ∧ Sm p E p'
theorem Sm_dead (t : Tm) : ∀ (E : UInt8 → UInt8 → Prop) (s : Tm), t.dead = true → Sm t E s → s = .nil := by
 induction t with
 | nil => intro E s _ h; exact h
 | snd a b p ih => intro E s h; cases h
 | rcv a x p ih => intro E s h; cases h
 | tau p ih => intro E s h; cases h
 | sum p q ih ih2 =>
  intro E s h hs
  simp only [Tm.dead, Bool.and_eq_true] at h
  unfold Sm at hs; rw [if_pos h.1] at hs; exact ih2 E s h.2 hs
 | par p q ih ih2 =>
  intro E s h hs
  simp only [Tm.dead, Bool.and_eq_true] at h
  unfold Sm at hs; rw [if_pos h.1] at hs; exact ih2 E s h.2 hs
 | own x p ih =>
  intro E s h hs
  have h' : p.dead = true := h
  unfold Sm at hs
  rw [if_neg (by rw [dead_usd p h']; simp)] at hs
  exact ih E s h' hs
 | mat a b p ih =>
  intro E s h hs
  have h' : p.dead = true := h
  unfold Sm at hs
  split at hs
  ·exact ih E s h' hs
  ·first | exact hs | (rw [if_pos h'] at hs; exact hs)
 | rep p ih =>
  intro E s h hs
  have h' : p.dead = true := h
  unfold Sm at hs; rw [if_pos h'] at hs; exact hs
theorem Sm_nil (t : Tm) (E : UInt8 → UInt8 → Prop) (h : t.dead = true) : Sm t E .nil := by
 induction t generalizing E with
 | nil => rfl
 | snd a b p ih => cases h
 | rcv a x p ih => cases h
 | tau p ih => cases h
 | sum p q ih ih2 =>
  simp only [Tm.dead, Bool.and_eq_true] at h
  unfold Sm; rw [if_pos h.1]; exact ih2 E h.2
 | par p q ih ih2 =>
  simp only [Tm.dead, Bool.and_eq_true] at h
  unfold Sm; rw [if_pos h.1]; exact ih2 E h.2
 | own x p ih =>
  have h' : p.dead = true := h
  unfold Sm; rw [if_neg (by rw [dead_usd p h']; simp)]; exact ih E h'
 | mat a b p ih =>
  have h' : p.dead = true := h
  unfold Sm; split
  ·exact ih E h'
  ·first | rfl | rw [if_pos h']
 | rep p ih =>
  have h' : p.dead = true := h
  unfold Sm; rw [if_pos h']
theorem bdE_mono {E F : UInt8 → UInt8 → Prop} {l k : List UInt8} {x x' : UInt8} (h : ∀ u v, u ∈ l → E u v → F u v) (hk : ∀ u, u ∈ k → u ≠ x → u ∈ l) : ∀ u v, u ∈ k → bdE E x x' u v → bdE F x x' u v := by
 intro u v hu hb
 rcases hb with hb | ⟨h1, h2, h3⟩
 ·exact .inl hb
 ·exact .inr ⟨h1, h2, h u v (hk u hu h1) h3⟩
theorem Sm_mono (t : Tm) : ∀ (E F : UInt8 → UInt8 → Prop) (s : Tm), (∀ u v, u ∈ t.usd → E u v → F u v) → Sm t E s → Sm t F s := by
 induction t with
 | nil => intro E F s _ h; exact h
 | snd a b p ih =>
  rintro E F s h ⟨a', b', p', rfl, h1, h2, h3⟩
  exact ⟨a', b', p', rfl, h _ _ (by rw [mu_snd]; simp) h1, h _ _ (by rw [mu_snd]; simp) h2, ih E F p' (fun u v hu => h u v (by rw [mu_snd]; simp [hu])) h3⟩
 | rcv a x p ih =>
  rintro E F s h ⟨a', x', p', rfl, h1, h3⟩
  exact ⟨a', x', p', rfl, h _ _ (by rw [mu_rcv]; simp) h1, ih _ _ p' (bdE_mono h (fun u hu hx => by rw [mu_rcv]; exact .inr ⟨hu, hx⟩)) h3⟩
 | tau p ih =>
  rintro E F s h ⟨p', rfl, h3⟩
  exact ⟨p', rfl, ih E F p' (fun u v hu => h u v (by rw [mu_tau]; exact hu)) h3⟩
 | sum p q ih ih2 =>
  intro E F s h hs
  have hp : ∀ u v, u ∈ p.usd → E u v → F u v := fun u v hu => h u v (by rw [mu_sum]; exact .inl hu)
  have hq : ∀ u v, u ∈ q.usd → E u v → F u v := fun u v hu => h u v (by rw [mu_sum]; exact .inr hu)
  unfold Sm at hs ⊢
  split at hs
  ·rename_i c; rw [if_pos c]; exact ih2 E F s hq hs
  ·rename_i c; rw [if_neg c]
   split at hs
   ·rename_i c; rw [if_pos c]; exact ih E F s hp hs
   ·rename_i c; rw [if_neg c]
    obtain ⟨p', q', e, h1, h2⟩ := hs
    exact ⟨p', q', e, ih E F p' hp h1, ih2 E F q' hq h2⟩
 | par p q ih ih2 =>
  intro E F s h hs
  have hp : ∀ u v, u ∈ p.usd → E u v → F u v := fun u v hu => h u v (by rw [mu_par]; exact .inl hu)
  have hq : ∀ u v, u ∈ q.usd → E u v → F u v := fun u v hu => h u v (by rw [mu_par]; exact .inr hu)
  unfold Sm at hs ⊢
  split at hs
  ·rename_i c; rw [if_pos c]; exact ih2 E F s hq hs
  ·rename_i c; rw [if_neg c]
   split at hs
   ·rename_i c; rw [if_pos c]; exact ih E F s hp hs
   ·rename_i c; rw [if_neg c]
    obtain ⟨p', q', e, h1, h2⟩ := hs
    exact ⟨p', q', e, ih E F p' hp h1, ih2 E F q' hq h2⟩
 | own x p ih =>
  intro E F s h hs
  unfold Sm at hs ⊢
  split at hs
  ·rename_i c; rw [if_pos c]
   obtain ⟨x', p', e, h1⟩ := hs
   exact ⟨x', p', e, ih _ _ p' (bdE_mono h (fun u hu hx => by rw [mu_own]; exact ⟨hu, hx⟩)) h1⟩
  ·rename_i c; rw [if_neg c]
   exact ih E F s (fun u v hu => h u v (by rw [mu_own]; exact ⟨hu, fun e => c (e ▸ hu)⟩)) hs
 | mat a b p ih =>
  intro E F s h hs
  unfold Sm at hs ⊢
  split at hs
  ·rename_i c; rw [if_pos c]; exact ih E F s (fun u v hu => h u v (by rw [mu_mat]; exact .inl ⟨c, hu⟩)) hs
  ·rename_i c; rw [if_neg c]
   split at hs
   ·rename_i d; rw [if_pos d]; exact hs
   ·rename_i d; rw [if_neg d]
    have d' : p.dead = false := by simpa using d
    obtain ⟨a', b', p', e, h1, h2, h3⟩ := hs
    exact ⟨a', b', p', e, h _ _ (by rw [mu_mat]; exact .inr ⟨c, d', .inl rfl⟩) h1, h _ _ (by rw [mu_mat]; exact .inr ⟨c, d', .inr (.inl rfl)⟩) h2, ih E F p' (fun u v hu => h u v (by rw [mu_mat]; exact .inr ⟨c, d', .inr (.inr hu)⟩)) h3⟩
 | rep p ih =>
  intro E F s h hs
  unfold Sm at hs ⊢
  split at hs
  ·rename_i c; rw [if_pos c]; exact hs
  ·rename_i c; rw [if_neg c]
   obtain ⟨p', e, h1⟩ := hs
   exact ⟨p', e, ih E F p' (fun u v hu => h u v (by rw [mu_rep]; exact hu)) h1⟩
theorem dead_R (n : Nat) : ∀ (t : Tm) (o m : UInt8), t.size ≤ n → (R t o m).dead = t.dead := by
 induction n with
 | zero => intro t o m h; have := size_pos t; omega
 | succ n ih =>
  intro t o m hn
  by_cases h : o = m ∨ o ∉ t.free
  ·rw [R_same _ _ _ h]
  ·have hb : ∀ p x, p.size ≤ n → (RB p x o m).dead = p.dead := by
    intro p x h1
    unfold RB
    split <;> split
    ·exact ih _ _ _ h1
    ·rfl
    ·rw [ih _ _ _ (by rw [R_size]; exact h1)]; exact ih _ _ _ h1
    ·exact ih _ _ _ h1
   cases t with
   | nil => exact absurd (.inr (by simp [Tm.free])) h
   | snd a b p => rw [R_snd h]; rfl
   | rcv a x p => rw [R_rcv h]; rfl
   | tau p => rw [R_tau h]; rfl
   | sum p q => simp only [Tm.size] at hn; rw [R_sum h]; simp only [Tm.dead]; rw [ih p _ _ (by omega), ih q _ _ (by omega)]
   | par p q => simp only [Tm.size] at hn; rw [R_par h]; simp only [Tm.dead]; rw [ih p _ _ (by omega), ih q _ _ (by omega)]
   | own x p => simp only [Tm.size] at hn; rw [R_own h]; simp only [Tm.dead]; rw [hb p x (by omega)]
   | mat a b p => simp only [Tm.size] at hn; rw [R_mat h]; simp only [Tm.dead]; exact ih _ _ _ (by omega)
   | rep p => simp only [Tm.size] at hn; rw [R_rep h]; simp only [Tm.dead]; exact ih _ _ _ (by omega)
theorem R_dead (t : Tm) (o m : UInt8) : (R t o m).dead = t.dead := dead_R _ t o m (Nat.le_refl _)
theorem usd_R (n : Nat) : ∀ (t : Tm) (o m : UInt8), t.size ≤ n → Roomy t o m → o ≠ m → m ∉ t.usd → ∀ z, z ∈ (R t o m).usd ↔ (z ∈ t.usd ∧ z ≠ o) ∨ (z = m ∧ o ∈ t.usd) := by
 induction n with
 | zero => intro t o m h; have := size_pos t; omega
 | succ n ih =>
  intro t o m hn hr hne hm z
  by_cases h : o = m ∨ o ∉ t.free
  ·rw [R_same _ _ _ h]; have := usd_free t o; grind
  ·have hof : o ∈ t.free := by grind
   have hb : ∀ (p : Tm) (x : UInt8), p.size ≤ n → p.bdp + 1 ≤ t.bdp → (∀ z, z ∈ p.free → z = x ∨ z ∈ t.free) → (m ∈ p.usd → m = x) → (∀ z, (z ∈ (RB p x o m).usd ∧ z ≠ capX p x o m) ↔ (z ∈ p.usd ∧ z ≠ x ∧ z ≠ o) ∨ (z = m ∧ o ∈ p.usd ∧ o ≠ x)) := by
    intro p x hp hbl hs hmx z
    unfold RB
    by_cases hc : x = m ∧ o ∈ p.free
    ·obtain ⟨y1, y2, y3⟩ := cap_new hr hbl hs hc
     rw [if_neg y2, if_pos hc]
     have y4 : capX p x o m ∉ p.usd := fun e => y1 (usd_free p _ e)
     have r1 : Roomy p x (capX p x o m) := roomy_of (capX p x o m) hr hbl (fun z hz => by have := hs z; grind)
     have hxy : x ≠ capX p x o m := fun e => y3 (e.symm.trans hc.1)
     have f1 := ih p x (capX p x o m) hp r1 hxy y4
     have k1 := R_free p.size p x (capX p x o m) (Nat.le_refl _) r1 hxy
     have r2 : Roomy (R p x (capX p x o m)) o m := roomy_of (capX p x o m) hr (by rw [R_bdp _ _ _ _ (Nat.le_refl _)]; exact hbl) (fun z hz => by have := hs z; have := k1 z; grind)
     have f2 := ih (R p x (capX p x o m)) o m (by rw [R_size]; exact hp) r2 hne (by have := f1 m; grind) z
     have g1 := f1 z
     have g2 := f1 o
     grind
    ·have hx : capX p x o m = x := by unfold capX; rw [if_neg hc]
     rw [hx, if_neg hc]
     by_cases ho : x = o
     ·rw [if_pos ho]; have := usd_free p o; grind
     ·rw [if_neg ho]
      by_cases hmp : m ∈ p.usd
      ·have hxm := hmx hmp
       rw [R_same p o m (.inr (by grind))]
       have := usd_free p o; grind
      ·have r1 : Roomy p o m := roomy_of x hr hbl (fun z hz => by have := hs z; grind)
       have f1 := ih p o m hp r1 hne hmp z
       have := usd_free p o
       grind
   cases t with
   | nil => simp [Tm.free] at hof
   | snd a b p =>
    simp only [Tm.size] at hn
    rw [mu_snd] at hm
    have f := ih p o m (by omega) (roomy_sub hr (Nat.le_refl _) (fun z hz => by rw [mf_snd]; grind)) hne (by grind) z
    rw [R_snd h, mu_snd, mu_snd, f, mu_snd]; unfold sw; grind
   | mat a b p =>
    simp only [Tm.size] at hn
    rw [mu_mat] at hm
    have dd := dead_usd p
    rw [R_mat h, mu_mat, mu_mat, mu_mat, R_dead]
    by_cases hd : p.dead = true
    ·have e1 : p.usd = [] := dead_usd p hd
     have e2 : (R p o m).usd = [] := dead_usd _ (by rw [R_dead]; exact hd)
     simp [hd, e1, e2]
    ·have hd' : p.dead = false := by simpa using hd
     have f := ih p o m (by omega) (roomy_sub hr (Nat.le_refl _) (fun z hz => by rw [mf_mat]; grind)) hne (by grind) z
     rw [f]; unfold sw; grind
   | rcv a x p =>
    simp only [Tm.size] at hn
    rw [mu_rcv] at hm
    have f := hb p x (by omega) (by simp only [Tm.bdp]; try omega) (fun z hz => by rw [mf_rcv]; grind) (by grind) z
    rw [R_rcv h, mu_rcv, mu_rcv, f, mu_rcv]; unfold sw; grind
   | own x p =>
    simp only [Tm.size] at hn
    rw [mu_own] at hm
    have f := hb p x (by omega) (by simp only [Tm.bdp]; try omega) (fun z hz => by rw [mf_own]; grind) (by grind) z
    rw [R_own h, mu_own, mu_own, f, mu_own]; grind
   | tau p =>
    simp only [Tm.size] at hn
    rw [mu_tau] at hm
    have f := ih p o m (by omega) (roomy_sub hr (Nat.le_refl _) (fun z hz => by rw [mf_tau]; grind)) hne hm z
    rw [R_tau h, mu_tau, mu_tau, f, mu_tau]
   | rep p =>
    simp only [Tm.size] at hn
    rw [mu_rep] at hm
    have f := ih p o m (by omega) (roomy_sub hr (Nat.le_refl _) (fun z hz => by rw [mf_rep]; grind)) hne hm z
    rw [R_rep h, mu_rep, mu_rep, f, mu_rep]
   | sum p q =>
    simp only [Tm.size] at hn
    rw [mu_sum] at hm
    have f := ih p o m (by omega) (roomy_sub hr (by simp only [Tm.bdp]; try omega) (fun z hz => by rw [mf_sum]; grind)) hne (by grind) z
    have g := ih q o m (by omega) (roomy_sub hr (by simp only [Tm.bdp]; try omega) (fun z hz => by rw [mf_sum]; grind)) hne (by grind) z
    rw [R_sum h, mu_sum, mu_sum, f, g, mu_sum]; grind
   | par p q =>
    simp only [Tm.size] at hn
    rw [mu_par] at hm
    have f := ih p o m (by omega) (roomy_sub hr (by simp only [Tm.bdp]; try omega) (fun z hz => by rw [mf_par]; grind)) hne (by grind) z
    have g := ih q o m (by omega) (roomy_sub hr (by simp only [Tm.bdp]; try omega) (fun z hz => by rw [mf_par]; grind)) hne (by grind) z
    rw [R_par h, mu_par, mu_par, f, g, mu_par]; grind
theorem Sm_R (n : Nat) : ∀ (t : Tm) (o m : UInt8) (E : UInt8 → UInt8 → Prop) (s : Tm), t.size ≤ n → Roomy t o m → o ≠ m → m ∉ t.usd → Sm t E s → Sm (R t o m) (sbE E o m) s := by
 induction n with
 | zero => intro t o m E s h; have := size_pos t; omega
 | succ n ih =>
  intro t o m E s hn hr hne hm hs
  by_cases h : o = m ∨ o ∉ t.free
  ·rw [R_same _ _ _ h]
   refine Sm_mono t E _ s (fun u v hu he => .inr ⟨fun e => hm (e ▸ hu), fun e => ?_, he⟩) hs
   have := usd_free t u hu
   subst e
   rcases h with h | h
   ·exact hne h
   ·exact h this
  ·have hof : o ∈ t.free := by grind
   have hb : ∀ (p : Tm) (x x' : UInt8) (p' : Tm), p.size ≤ n → p.bdp + 1 ≤ t.bdp → (∀ z, z ∈ p.free → z = x ∨ z ∈ t.free) → (m ∈ p.usd → m = x) → Sm p (bdE E x x') p' → Sm (RB p x o m) (bdE (sbE E o m) (capX p x o m) x') p' := by
    intro p x x' p' hp hbl hs hmx hS
    unfold RB
    by_cases hc : x = m ∧ o ∈ p.free
    ·obtain ⟨y1, y2, y3⟩ := cap_new hr hbl hs hc
     rw [if_neg y2, if_pos hc]
     have y4 : capX p x o m ∉ p.usd := fun e => y1 (usd_free p _ e)
     have r1 : Roomy p x (capX p x o m) := roomy_of (capX p x o m) hr hbl (fun z hz => by have := hs z; grind)
     have hxy : x ≠ capX p x o m := fun e => y3 (e.symm.trans hc.1)
     have f1 := usd_R p.size p x (capX p x o m) (Nat.le_refl _) r1 hxy y4
     have k1 := R_free p.size p x (capX p x o m) (Nat.le_refl _) r1 hxy
     have r2 : Roomy (R p x (capX p x o m)) o m := roomy_of (capX p x o m) hr (by rw [R_bdp _ _ _ _ (Nat.le_refl _)]; exact hbl) (fun z hz => by have := hs z; have := k1 z; grind)
     have s1 := ih p x (capX p x o m) _ p' hp r1 hxy y4 hS
     have s2 := ih (R p x (capX p x o m)) o m _ p' (by rw [R_size]; exact hp) r2 hne (by have := f1 m; grind) s1
     refine Sm_mono _ _ _ _ (fun u v hu he => ?_) s2
     generalize capX p x o m = y at *
     unfold bdE sbE at *
     grind
    ·have hx : capX p x o m = x := by unfold capX; rw [if_neg hc]
     rw [hx, if_neg hc]
     by_cases ho : x = o
     ·rw [if_pos ho]
      refine Sm_mono _ _ _ _ (fun u v hu he => ?_) hS
      unfold bdE sbE at *
      grind
     ·rw [if_neg ho]
      by_cases hmp : m ∈ p.usd
      ·have hxm := hmx hmp
       rw [R_same p o m (.inr (by grind))]
       refine Sm_mono _ _ _ _ (fun u v hu he => ?_) hS
       have := usd_free p u hu
       unfold bdE sbE at *
       grind
      ·have r1 : Roomy p o m := roomy_of x hr hbl (fun z hz => by have := hs z; grind)
       have s1 := ih p o m _ p' hp r1 hne hmp hS
       have f1 := usd_R p.size p o m (Nat.le_refl _) r1 hne hmp
       by_cases hxm : x = m
       ·rw [R_same p o m (.inr (by grind))]
        refine Sm_mono _ _ _ _ (fun u v hu he => ?_) hS
        have := usd_free p u hu
        unfold bdE sbE at *
        grind
       ·refine Sm_mono _ _ _ _ (fun u v hu he => ?_) s1
        unfold bdE sbE at *
        grind
   have hb0 : ∀ (p : Tm) (x : UInt8), p.size ≤ n → p.bdp + 1 ≤ t.bdp → (∀ z, z ∈ p.free → z = x ∨ z ∈ t.free) → (m ∈ p.usd → m = x) → x ∉ p.usd → Sm p E s → Sm (RB p x o m) (sbE E o m) s := by
    intro p x hp hbl hs hmx hxu hS
    have hmp : m ∉ p.usd := fun e => hxu (hmx e ▸ e)
    unfold RB
    by_cases hc : x = m ∧ o ∈ p.free
    ·obtain ⟨y1, y2, y3⟩ := cap_new hr hbl hs hc
     rw [if_neg y2, if_pos hc]
     have y4 : capX p x o m ∉ p.usd := fun e => y1 (usd_free p _ e)
     have r1 : Roomy p x (capX p x o m) := roomy_of (capX p x o m) hr hbl (fun z hz => by have := hs z; grind)
     have hxy : x ≠ capX p x o m := fun e => y3 (e.symm.trans hc.1)
     have f1 := usd_R p.size p x (capX p x o m) (Nat.le_refl _) r1 hxy y4
     have k1 := R_free p.size p x (capX p x o m) (Nat.le_refl _) r1 hxy
     have r2 : Roomy (R p x (capX p x o m)) o m := roomy_of (capX p x o m) hr (by rw [R_bdp _ _ _ _ (Nat.le_refl _)]; exact hbl) (fun z hz => by have := hs z; have := k1 z; grind)
     have f2 := usd_R _ (R p x (capX p x o m)) o m (Nat.le_refl _) r2 hne (by have := f1 m; grind)
     have s1 := ih p x (capX p x o m) _ s hp r1 hxy y4 hS
     have s2 := ih (R p x (capX p x o m)) o m _ s (by rw [R_size]; exact hp) r2 hne (by have := f1 m; grind) s1
     refine Sm_mono _ _ _ _ (fun u v hu he => ?_) s2
     have g1 := f1 u
     have g2 := f2 u
     generalize capX p x o m = y at *
     unfold sbE at *
     grind
    ·have hx : capX p x o m = x := by unfold capX; rw [if_neg hc]
     rw [hx, if_neg hc]
     by_cases ho : x = o
     ·rw [if_pos ho]
      refine Sm_mono _ _ _ _ (fun u v hu he => ?_) hS
      unfold sbE
      grind
     ·rw [if_neg ho]
      by_cases hxm : x = m
      ·rw [R_same p o m (.inr (by grind))]
       refine Sm_mono _ _ _ _ (fun u v hu he => ?_) hS
       have := usd_free p u hu
       unfold sbE
       grind
      ·exact ih p o m _ s hp (roomy_of x hr hbl (fun z hz => by have := hs z; grind)) hne hmp hS
   cases t with
   | nil => simp [Tm.free] at hof
   | snd a b p =>
    simp only [Tm.size] at hn
    rw [mu_snd] at hm
    obtain ⟨a', b', p', e, h1, h2, h3⟩ := hs
    have f := ih p o m E p' (by omega) (roomy_sub hr (Nat.le_refl _) (fun z hz => by rw [mf_snd]; grind)) hne (by grind) h3
    rw [R_snd h]
    refine ⟨a', b', p', e, ?_, ?_, f⟩
    ·unfold sw sbE; split <;> grind
    ·unfold sw sbE; split <;> grind
   | rcv a x p =>
    simp only [Tm.size] at hn
    rw [mu_rcv] at hm
    obtain ⟨a', x', p', e, h1, h3⟩ := hs
    have f := hb p x x' p' (by omega) (by simp only [Tm.bdp]; try omega) (fun z hz => by rw [mf_rcv]; grind) (by grind) h3
    rw [R_rcv h]
    refine ⟨a', x', p', e, ?_, f⟩
    unfold sw sbE; split <;> grind
   | own x p =>
    simp only [Tm.size] at hn
    have hm' := hm
    rw [mu_own] at hm
    rw [R_own h]
    have hR : (R (.own x p) o m) = .own (capX p x o m) (RB p x o m) := R_own h
    have hu := usd_R _ (.own x p) o m (Nat.le_refl _) hr hne hm'
    have hq : capX p x o m ∈ (RB p x o m).usd ↔ x ∈ p.usd := by
     have hbl : p.bdp + 1 ≤ (Tm.own x p).bdp := by simp only [Tm.bdp]; try omega
     have hsf : ∀ z, z ∈ p.free → z = x ∨ z ∈ (Tm.own x p).free := fun z hz => by rw [mf_own]; grind
     unfold RB
     by_cases hc : x = m ∧ o ∈ p.free
     ·obtain ⟨y1, y2, y3⟩ := cap_new hr hbl hsf hc
      rw [if_neg y2, if_pos hc]
      have y4 : capX p x o m ∉ p.usd := fun e => y1 (usd_free p _ e)
      have r1 : Roomy p x (capX p x o m) := roomy_of (capX p x o m) hr hbl (fun z hz => by have := hsf z; grind)
      have hxy : x ≠ capX p x o m := fun e => y3 (e.symm.trans hc.1)
      have f1 := usd_R p.size p x (capX p x o m) (Nat.le_refl _) r1 hxy y4
      have k1 := R_free p.size p x (capX p x o m) (Nat.le_refl _) r1 hxy
      have r2 : Roomy (R p x (capX p x o m)) o m := roomy_of (capX p x o m) hr (by rw [R_bdp _ _ _ _ (Nat.le_refl _)]; exact hbl) (fun z hz => by have := hsf z; have := k1 z; grind)
      have f2 := usd_R _ (R p x (capX p x o m)) o m (Nat.le_refl _) r2 hne (by have := f1 m; grind) (capX p x o m)
      have g1 := f1 (capX p x o m)
      have g2 := f1 o
      grind
     ·have hx : capX p x o m = x := by unfold capX; rw [if_neg hc]
      rw [hx, if_neg hc]
      by_cases ho : x = o
      ·rw [if_pos ho]
      ·rw [if_neg ho]
       by_cases hxm : x = m
       ·rw [R_same p o m (.inr (by grind))]
       ·have r1 : Roomy p o m := roomy_of x hr hbl (fun z hz => by have := hsf z; grind)
        have f1 := usd_R p.size p o m (Nat.le_refl _) r1 hne (by grind) x
        grind
    unfold Sm at hs ⊢
    by_cases hxu : x ∈ p.usd
    ·rw [if_pos hxu] at hs
     rw [if_pos (hq.2 hxu)]
     obtain ⟨x', p', e, h3⟩ := hs
     exact ⟨x', p', e, hb p x x' p' (by omega) (by simp only [Tm.bdp]; try omega) (fun z hz => by rw [mf_own]; grind) (by grind) h3⟩
    ·rw [if_neg hxu] at hs
     rw [if_neg (fun e => hxu (hq.1 e))]
     exact hb0 p x (by omega) (by simp only [Tm.bdp]; try omega) (fun z hz => by rw [mf_own]; grind) (by grind) hxu hs
   | tau p =>
    simp only [Tm.size] at hn
    rw [mu_tau] at hm
    obtain ⟨p', e, h3⟩ := hs
    rw [R_tau h]
    exact ⟨p', e, ih p o m E p' (by omega) (roomy_sub hr (Nat.le_refl _) (fun z hz => by rw [mf_tau]; grind)) hne hm h3⟩
   | rep p =>
    simp only [Tm.size] at hn
    rw [mu_rep] at hm
    rw [R_rep h]
    unfold Sm at hs ⊢
    rw [R_dead]
    split at hs
    ·rename_i c; rw [if_pos c]; exact hs
    ·rename_i c; rw [if_neg c]
     obtain ⟨p', e, h3⟩ := hs
     exact ⟨p', e, ih p o m E p' (by omega) (roomy_sub hr (Nat.le_refl _) (fun z hz => by rw [mf_rep]; grind)) hne hm h3⟩
   | mat a b p =>
    simp only [Tm.size] at hn
    rw [mu_mat] at hm
    rw [R_mat h]
    unfold Sm at hs ⊢
    rw [R_dead]
    by_cases hd : p.dead = true
    ·have hn0 : s = .nil := by
      split at hs
      ·exact Sm_dead p E s hd hs
      ·first | exact hs | (rw [if_pos hd] at hs; exact hs)
     subst hn0
     split
     ·exact Sm_nil _ _ (by rw [R_dead]; exact hd)
     ·first | rfl | rw [if_pos hd]
    ·have hd' : p.dead = false := by simpa using hd
     have hmp : m ∉ p.usd := by grind
     have f := fun p' => ih p o m E p' (by omega) (roomy_sub hr (Nat.le_refl _) (fun z hz => by rw [mf_mat]; grind)) hne hmp
     split at hs
     ·rename_i c; subst c; rw [if_pos rfl]; exact f s hs
     ·rename_i c
      (try rw [if_neg hd] at hs)
      rw [if_neg (by unfold sw; grind), if_neg hd]
      obtain ⟨a', b', p', e, h1, h2, h3⟩ := hs
      refine ⟨a', b', p', e, ?_, ?_, f p' h3⟩
      ·unfold sw sbE; split <;> grind
      ·unfold sw sbE; split <;> grind
   | sum p q =>
    simp only [Tm.size] at hn
    rw [mu_sum] at hm
    rw [R_sum h]
    have f := fun s => ih p o m E s (by omega) (roomy_sub hr (by simp only [Tm.bdp]; try omega) (fun z hz => by rw [mf_sum]; grind)) hne (by grind)
    have g := fun s => ih q o m E s (by omega) (roomy_sub hr (by simp only [Tm.bdp]; try omega) (fun z hz => by rw [mf_sum]; grind)) hne (by grind)
    unfold Sm at hs ⊢
    rw [R_dead, R_dead]
    split at hs
    ·rename_i c; rw [if_pos c]; exact g s hs
    ·rename_i c; rw [if_neg c]
     split at hs
     ·rename_i c; rw [if_pos c]; exact f s hs
     ·rename_i c; rw [if_neg c]
      obtain ⟨p', q', e, h1, h2⟩ := hs
      exact ⟨p', q', e, f p' h1, g q' h2⟩
   | par p q =>
    simp only [Tm.size] at hn
    rw [mu_par] at hm
    rw [R_par h]
    have f := fun s => ih p o m E s (by omega) (roomy_sub hr (by simp only [Tm.bdp]; try omega) (fun z hz => by rw [mf_par]; grind)) hne (by grind)
    have g := fun s => ih q o m E s (by omega) (roomy_sub hr (by simp only [Tm.bdp]; try omega) (fun z hz => by rw [mf_par]; grind)) hne (by grind)
    unfold Sm at hs ⊢
    rw [R_dead, R_dead]
    split at hs
    ·rename_i c; rw [if_pos c]; exact g s hs
    ·rename_i c; rw [if_neg c]
     split at hs
     ·rename_i c; rw [if_pos c]; exact f s hs
     ·rename_i c; rw [if_neg c]
      obtain ⟨p', q', e, h1, h2⟩ := hs
      exact ⟨p', q', e, f p' h1, g q' h2⟩
end Go.Proofs.YtalegefnppbkdaaGreat.T1
