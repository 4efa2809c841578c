/- Texts of the proof, put together: Cn, Nw, Al. No conditions. -/
import Derived.Test.YtalegefnppbkdaaGreatJab
namespace Go.Proofs.YtalegefnppbkdaaGreat.T1
set_option linter.unusedVariables false
def upd (sc : UInt8 → UInt8) (x y : UInt8) : UInt8 → UInt8 := fun z => if z = x then y else sc z
def can : Tm → (UInt8 → UInt8) → List UInt8 → Tm
 | .nil, _, _ => .nil
 | .snd a b p, sc, ns => .snd (sc a) (sc b) (can p sc ns)
 | .rcv a x p, sc, ns => .rcv (sc a) (ns.headD 0) (can p (upd sc x (ns.headD 0)) ns.tail)
 | .tau p, sc, ns => .tau (can p sc ns)
 | .sum p q, sc, ns => .sum (can p sc ns) (can q sc (ns.drop p.bnd.length))
 | .par p q, sc, ns => .par (can p sc ns) (can q sc (ns.drop p.bnd.length))
 | .own x p, sc, ns => .own (ns.headD 0) (can p (upd sc x (ns.headD 0)) ns.tail)
 | .mat a b p, sc, ns => .mat (sc a) (sc b) (can p sc ns)
 | .rep p, sc, ns => .rep (can p sc ns)
def othL (l : List UInt8) : List UInt8 := ((List.range 26).map fun i => UInt8.ofNat (97 + i)).filter fun c => decide (c ∉ l)
def lowL : List UInt8 := (List.range 26).map fun i => UInt8.ofNat (97 + i)
theorem lowL_srt : Srt lowL := by unfold Srt lowL; decide +kernel
theorem othL_srt (l : List UInt8) : Srt (othL l) := List.Pairwise.filter _ lowL_srt
theorem mem_low (c : UInt8) : c ∈ lowL ↔ 97 ≤ c.toNat ∧ c.toNat ≤ 122 := by
 unfold lowL
 rw [List.mem_map]
 constructor
 ·rintro ⟨i, hi, rfl⟩
  rw [List.mem_range] at hi
  rw [UInt8.toNat_ofNat']; omega
 ·intro h
  exact ⟨c.toNat - 97, List.mem_range.2 (by omega), u8_ext (by rw [UInt8.toNat_ofNat']; omega)⟩
theorem mem_oth (l : List UInt8) (c : UInt8) : c ∈ othL l ↔ (97 ≤ c.toNat ∧ c.toNat ≤ 122) ∧ c ∉ l := by
 rw [← mem_low]; unfold othL lowL; rw [List.mem_filter]; simp
theorem fresh_oth (l : List UInt8) : (∃ c r, othL l = c :: r ∧ fresh l = c ∧ c.toNat ≤ 122) ∨ (othL l = [] ∧ 122 < (fresh l).toNat) := by
 rcases fresh_cases l with ⟨k, h1, h2, h3, h4⟩ | ⟨h0, h⟩
 ·left
  have hs := othL_srt l
  have hmem : UInt8.ofNat (97 + k) ∈ othL l := (mem_oth _ _).2 ⟨by rw [UInt8.toNat_ofNat']; omega, h3⟩
  cases ho : othL l with
  | nil => rw [ho] at hmem; cases hmem
  | cons c r =>
   have hc : c = UInt8.ofNat (97 + k) := by
    rw [ho] at hs hmem
    rcases List.mem_cons.1 hmem with h | h
    ·exact h.symm
    ·have h5 := (List.pairwise_cons.1 hs).1 _ h
     have h6 := (mem_oth l c).1 (by rw [ho]; simp)
     rw [u8_lt, UInt8.toNat_ofNat'] at h5
     exact absurd (by have := h2 (c.toNat - 97) (by omega); rw [show UInt8.ofNat (97 + (c.toNat - 97)) = c from u8_ext (by rw [UInt8.toNat_ofNat']; omega)] at this; exact this) h6.2
   exact ⟨c, r, rfl, by rw [h4, hc], by rw [hc, UInt8.toNat_ofNat']; omega⟩
 ·right
  refine ⟨?_, ?_⟩
  ·cases ho : othL l with
   | nil => rfl
   | cons c r =>
    have h6 := (mem_oth l c).1 (by rw [ho]; simp)
    exact absurd (by have := h0 (c.toNat - 97) (by omega); rw [show UInt8.ofNat (97 + (c.toNat - 97)) = c from u8_ext (by rw [UInt8.toNat_ofNat']; omega)] at this; exact this) h6.2
  ·rcases h with ⟨k, h1, _, _, h4⟩ | ⟨_, h4⟩
   ·rw [h4, UInt8.toNat_ofNat']; omega
   ·rw [h4]; decide
theorem oth_add {l : List UInt8} {c : UInt8} {r : List UInt8} (h : othL l = c :: r) : othL (addL l c) = r := by
 have hs := othL_srt l
 rw [h] at hs
 refine srt_ext (othL_srt _) (List.pairwise_cons.1 hs).2 fun x => ?_
 rw [mem_oth, mem_addL]
 have h1 := mem_oth l x
 rw [h, List.mem_cons] at h1
 have h2 : x ∈ r → x ≠ c := fun hx e => by have := (List.pairwise_cons.1 hs).1 x hx; rw [e, u8_lt] at this; omega
 grind
structure Tk (t : Tm) (l : List UInt8) : Prop where
 srt : Srt l
 sub : ∀ z, z ∈ t.free → z ∈ l
 room : l.length + t.bnd.length ≤ 87
theorem len_both_take (l A : List UInt8) : (bothL l A).length ≤ l.length + A.length := by
 induction A generalizing l with
 | nil => simp [bothL]
 | cons c A ih =>
  have h1 := ih (addL l c)
  have h2 := addL_len c l
  show (bothL (addL l c) A).length ≤ _
  simp only [List.length_cons]; omega
def gl (k : Nat) : UInt8 := UInt8.ofNat (if k < 26 then 65 + k else 166 + k)
def great (z : UInt8) : Prop := (65 ≤ z.toNat ∧ z.toNat ≤ 90) ∨ 192 ≤ z.toNat
theorem gl_nat {k : Nat} (h : k < 90) : (gl k).toNat = if k < 26 then 65 + k else 166 + k := by
 unfold gl; rw [UInt8.toNat_ofNat']; split <;> omega
theorem gl_inj {i j : Nat} (hi : i < 90) (hj : j < 90) (h : gl i = gl j) : i = j := by
 have h1 := gl_nat hi
 have h2 := gl_nat hj
 rw [h, h2] at h1
 split at h1 <;> split at h1 <;> omega
theorem gl_great {i : Nat} (hi : i < 90) : great (gl i) := by
 unfold great; rw [gl_nat hi]; split <;> omega
theorem gl_nm {i : Nat} (hi : i < 90) : nmE (gl i) = true := by
 rw [nmE_iff, gl_nat hi]; split <;> omega
def Fit (t : Tm) : Prop := t.free.length + t.bdp ≤ 86
theorem fit_sub {t p : Tm} (h : Fit t) (hb : p.bdp ≤ t.bdp) (hs : ∀ z, z ∈ p.free → z ∈ t.free) : Fit p := by
 have := srt_sub (srt_free p) (srt_free t) hs
 unfold Fit at h ⊢; omega
theorem fit_bind {t p : Tm} {x : UInt8} (h : Fit t) (hb : p.bdp + 1 ≤ t.bdp) (hs : ∀ z, z ∈ p.free → z = x ∨ z ∈ t.free) : Fit p := by
 have h1 := srt_sub (srt_free p) (srt_addL (srt_free t) x) (fun z hz => by rw [mem_addL]; exact (hs z hz).symm)
 have h2 := addL_len x t.free
 unfold Fit at h ⊢; omega
theorem fit_roomy {t : Tm} (h : Fit t) (o m : UInt8) : Roomy t o m := by
 have := len_both_take t.free [o, m]
 unfold Fit at h; unfold Roomy; simp at this; omega
theorem lessL_len {l : List UInt8} {c : UInt8} (h : c ∈ l) : (lessL l c).length + 1 ≤ l.length := by
 induction l with
 | nil => cases h
 | cons a l ih =>
  unfold lessL
  rw [List.filter_cons]
  by_cases e : a = c
  ·subst e
   simp only [bne_self_eq_false, Bool.false_eq_true, if_false, List.length_cons]
   have := List.length_filter_le (fun x : UInt8 => x != a) l
   omega
  ·have : c ∈ l := by
    rcases List.mem_cons.1 h with h | h
    ·exact absurd h.symm e
    ·exact h
   have ih := ih this
   unfold lessL at ih
   have e' : (a != c) = true := by simpa using e
   rw [if_pos e']
   simp only [List.length_cons]; omega
theorem fit_R {t : Tm} (h : Fit t) (o m : UInt8) : Fit (R t o m) := by
 by_cases hs : o = m ∨ o ∉ t.free
 ·rw [R_same _ _ _ hs]; exact h
 ·have hne : o ≠ m := fun e => hs (.inl e)
  have hof : o ∈ t.free := by grind
  have hf := R_free _ t o m (Nat.le_refl _) (fit_roomy h o m) hne
  have h1 := srt_sub (srt_free (R t o m)) (srt_addL (srt_lessL (srt_free t) o) m) (fun z hz => by
   rw [mem_addL, mem_lessL]; have := (hf z).1 hz; grind)
  have h2 := addL_len m (lessL t.free o)
  have h3 := lessL_len hof
  have h4 := R_bdp _ t o m (Nat.le_refl _)
  unfold Fit at h ⊢; omega
theorem peel_names (t : Tm) : ∀ z, z ∈ t.peel.free ∨ z ∈ t.peel.bnd → z ∈ t.free ∨ z ∈ t.bnd := by
 induction t with
 | mat a b p ih =>
  unfold Tm.peel; split
  ·intro z hz; rw [mf_mat]; have := ih z hz; simp only [Tm.bnd]; grind
  ·exact fun _ h => h
 | sum p q ih ih2 =>
  unfold Tm.peel; split
  ·intro z hz; rw [mf_sum]; have := ih2 z hz; simp only [Tm.bnd, List.mem_append]; grind
  ·split
   ·intro z hz; rw [mf_sum]; have := ih z hz; simp only [Tm.bnd, List.mem_append]; grind
   ·exact fun _ h => h
 | par p q ih ih2 =>
  unfold Tm.peel; split
  ·intro z hz; rw [mf_par]; have := ih2 z hz; simp only [Tm.bnd, List.mem_append]; grind
  ·split
   ·intro z hz; rw [mf_par]; have := ih z hz; simp only [Tm.bnd, List.mem_append]; grind
   ·exact fun _ h => h
 | own x p ih =>
  unfold Tm.peel; split
  ·exact fun _ h => h
  ·intro z hz; rw [mf_own]; have := ih z hz; simp only [Tm.bnd, List.mem_cons]; grind
 | _ => exact fun _ h => h
theorem fit_peel (t : Tm) : Fit t → Fit t.peel := by
 induction t with
 | mat a b p ih =>
  intro h; unfold Tm.peel; split
  ·exact ih (fit_sub h (Nat.le_refl _) (fun z hz => by rw [mf_mat]; exact .inr (.inr hz)))
  ·exact h
 | sum p q ih ih2 =>
  intro h; unfold Tm.peel; split
  ·exact ih2 (fit_sub h (by simp only [Tm.bdp]; try omega) (fun z hz => by rw [mf_sum]; exact .inr hz))
  ·split
   ·exact ih (fit_sub h (by simp only [Tm.bdp]; try omega) (fun z hz => by rw [mf_sum]; exact .inl hz))
   ·exact h
 | par p q ih ih2 =>
  intro h; unfold Tm.peel; split
  ·exact ih2 (fit_sub h (by simp only [Tm.bdp]; try omega) (fun z hz => by rw [mf_par]; exact .inr hz))
  ·split
   ·exact ih (fit_sub h (by simp only [Tm.bdp]; try omega) (fun z hz => by rw [mf_par]; exact .inl hz))
   ·exact h
 | own x p ih =>
  intro h; unfold Tm.peel; split
  ·exact h
  ·exact ih (fit_bind (x := x) h (by simp only [Tm.bdp]; try omega) (fun z hz => by rw [mf_own]; grind))
 | _ => exact fun h => h
theorem fresh_great (l : List UInt8) : ¬ great (fresh l) := by
 unfold great
 rcases fresh_cases l with ⟨k, h1, _, _, h4⟩ | ⟨_, ⟨k, h1, _, _, h4⟩ | ⟨_, h4⟩⟩
 ·rw [h4, UInt8.toNat_ofNat']; omega
 ·rw [h4, UInt8.toNat_ofNat']; omega
 ·rw [h4]; decide
theorem R_bnds (n : Nat) : ∀ (t : Tm) (o m : UInt8), t.size ≤ n → ∀ z, z ∈ (R t o m).bnd → z ∈ t.bnd ∨ ¬ great z := by
 induction n with
 | zero => intro t o m h; have := size_pos t; omega
 | succ n ih =>
  intro t o m hn z
  by_cases h : o = m ∨ o ∉ t.free
  ·rw [R_same _ _ _ h]; exact .inl
  ·have hc : ∀ p x, capX p x o m = x ∨ ¬ great (capX p x o m) := by
    intro p x; unfold capX; split
    ·exact .inr (fresh_great _)
    ·exact .inl rfl
   have hb : ∀ p x, p.size ≤ n → ∀ z, z ∈ (RB p x o m).bnd → z ∈ p.bnd ∨ ¬ great z := by
    intro p x h1 z
    unfold RB
    split <;> split
    ·exact ih _ _ _ h1 z
    ·exact .inl
    ·intro hz
     rcases ih _ _ _ (by rw [R_size]; exact h1) z hz with hz | hz
     ·exact ih _ _ _ h1 z hz
     ·exact .inr hz
    ·exact ih _ _ _ h1 z
   cases t with
   | nil => exact absurd (.inr (by simp [Tm.free])) h
   | snd a b p => simp only [Tm.size] at hn; rw [R_snd h]; exact ih p _ _ (by omega) z
   | mat a b p => simp only [Tm.size] at hn; rw [R_mat h]; exact ih p _ _ (by omega) z
   | tau p => simp only [Tm.size] at hn; rw [R_tau h]; exact ih p _ _ (by omega) z
   | rep p => simp only [Tm.size] at hn; rw [R_rep h]; exact ih p _ _ (by omega) z
   | sum p q =>
    simp only [Tm.size] at hn; rw [R_sum h]; simp only [Tm.bnd, List.mem_append]
    have := ih p o m (by omega) z; have := ih q o m (by omega) z; grind
   | par p q =>
    simp only [Tm.size] at hn; rw [R_par h]; simp only [Tm.bnd, List.mem_append]
    have := ih p o m (by omega) z; have := ih q o m (by omega) z; grind
   | rcv a x p =>
    simp only [Tm.size] at hn; rw [R_rcv h]; simp only [Tm.bnd, List.mem_cons]
    have := hb p x (by omega) z; have := hc p x; grind
   | own x p =>
    simp only [Tm.size] at hn; rw [R_own h]; simp only [Tm.bnd, List.mem_cons]
    have := hb p x (by omega) z; have := hc p x; grind
theorem R_names {t : Tm} (h : Fit t) (o m : UInt8) : ∀ z, z ∈ (R t o m).free ∨ z ∈ (R t o m).bnd → (z ∈ t.free ∨ z ∈ t.bnd) ∨ z = m ∨ ¬ great z := by
 intro z hz
 rcases hz with hz | hz
 ·by_cases e : o = m
  ·rw [R_same _ _ _ (.inl e)] at hz; exact .inl (.inl hz)
  ·have := (R_free _ t o m (Nat.le_refl _) (fit_roomy h o m) e z).1 hz; grind
 ·have := R_bnds _ t o m (Nat.le_refl _) z hz; grind
theorem peel_dead (t : Tm) : t.peel.dead = t.dead := by
 induction t with
 | mat a b p ih => unfold Tm.peel; split; exact ih; rfl
 | sum p q ih ih2 =>
  unfold Tm.peel; split
  ·rename_i h; rw [ih2]; simp only [Tm.dead]; rw [h]; rfl
  ·split
   ·rename_i h; rw [ih]; simp only [Tm.dead]; rw [h, Bool.and_true]
   ·rfl
 | par p q ih ih2 =>
  unfold Tm.peel; split
  ·rename_i h; rw [ih2]; simp only [Tm.dead]; rw [h]; rfl
  ·split
   ·rename_i h; rw [ih]; simp only [Tm.dead]; rw [h, Bool.and_true]
   ·rfl
 | own x p ih => unfold Tm.peel; split; rfl; exact ih
 | _ => rfl
theorem peel_usd (t : Tm) : ∀ z, z ∈ t.peel.usd ↔ z ∈ t.usd := by
 induction t with
 | mat a b p ih =>
  unfold Tm.peel; split
  ·rename_i h; intro z; rw [ih, mu_mat]; grind
  ·exact fun _ => Iff.rfl
 | sum p q ih ih2 =>
  unfold Tm.peel; split
  ·rename_i h; intro z; rw [ih2, mu_sum, dead_usd _ h]; simp
  ·split
   ·rename_i h; intro z; rw [ih, mu_sum, dead_usd _ h]; simp
   ·exact fun _ => Iff.rfl
 | par p q ih ih2 =>
  unfold Tm.peel; split
  ·rename_i h; intro z; rw [ih2, mu_par, dead_usd _ h]; simp
  ·split
   ·rename_i h; intro z; rw [ih, mu_par, dead_usd _ h]; simp
   ·exact fun _ => Iff.rfl
 | own x p ih =>
  unfold Tm.peel; split
  ·exact fun _ => Iff.rfl
  ·rename_i h; intro z; rw [ih, mu_own]
   exact ⟨fun hz => ⟨hz, fun e => h (e ▸ hz)⟩, fun hz => hz.1⟩
 | _ => exact fun _ => Iff.rfl
theorem Sm_peel (t : Tm) : ∀ (E : UInt8 → UInt8 → Prop) (s : Tm), Sm t E s → Sm t.peel E s := by
 induction t with
 | mat a b p ih =>
  intro E s h; unfold Tm.peel; split
  ·rename_i c; unfold Sm at h; rw [if_pos c] at h; exact ih E s h
  ·exact h
 | sum p q ih ih2 =>
  intro E s h; unfold Tm.peel; split
  ·rename_i c; unfold Sm at h; rw [if_pos c] at h; exact ih2 E s h
  ·rename_i c; split
   ·rename_i d; unfold Sm at h; rw [if_neg c, if_pos d] at h; exact ih E s h
   ·exact h
 | par p q ih ih2 =>
  intro E s h; unfold Tm.peel; split
  ·rename_i c; unfold Sm at h; rw [if_pos c] at h; exact ih2 E s h
  ·rename_i c; split
   ·rename_i d; unfold Sm at h; rw [if_neg c, if_pos d] at h; exact ih E s h
   ·exact h
 | own x p ih =>
  intro E s h; unfold Tm.peel; split
  ·exact h
  ·rename_i c; unfold Sm at h; rw [if_neg c] at h; exact ih E s h
 | _ => intro E s h; exact h
def Peeled : Tm → Prop
 | .sum p q => p.dead = false ∧ q.dead = false
 | .par p q => p.dead = false ∧ q.dead = false
 | .own x p => x ∈ p.usd
 | .mat a b _ => a ≠ b
 | _ => True
theorem peel_form (t : Tm) : Peeled t.peel := by
 induction t with
 | mat a b p ih => unfold Tm.peel; split; exact ih; assumption
 | sum p q ih ih2 =>
  unfold Tm.peel; split
  ·exact ih2
  ·split
   ·exact ih
   ·rename_i h1 h2; exact ⟨by simpa using h1, by simpa using h2⟩
 | par p q ih ih2 =>
  unfold Tm.peel; split
  ·exact ih2
  ·split
   ·exact ih
   ·rename_i h1 h2; exact ⟨by simpa using h1, by simpa using h2⟩
 | own x p ih => unfold Tm.peel; split; assumption; exact ih
 | _ => trivial
theorem peel_peel (t : Tm) (h : Peeled t) : t.peel = t := by
 cases t <;> unfold Tm.peel <;> unfold Peeled at h
 case sum p q => rw [h.1, h.2]; rfl
 case par p q => rw [h.1, h.2]; rfl
 case own x p => rw [if_pos h]
 case mat a b p => rw [if_neg h]
 all_goals rfl
def gath : Nat → Nat → Tm → List Tm × Nat
 | 0, k, _ => ([], k)
 | n + 1, k, t =>
  if t.peel.dead then ([], k) else
  match t.peel with
  | .par p q => ((gath n k p).1 ++ (gath n (gath n k p).2 q).1, (gath n (gath n k p).2 q).2)
  | .own x p => gath n (k + 1) (R p x (gl k))
  | u => ([u], k)
def lvl : Tm → List UInt8 × List Tm
 | .nil => ([], [])
 | .own x p => (x :: (lvl p).1, (lvl p).2)
 | .par p q => ((lvl p).1 ++ (lvl q).1, (lvl p).2 ++ (lvl q).2)
 | s => ([], [s])
def exE (E : UInt8 → UInt8 → Prop) (k : Nat) (G : List UInt8) : UInt8 → UInt8 → Prop := fun u v =>
 (∃ j, ∃ h : j < G.length, u = gl (k + j) ∧ v = G[j]) ∨ ((∀ j, j < G.length → u ≠ gl (k + j)) ∧ v ∉ G ∧ E u v)
def Thr (t : Tm) : Prop := t.dead = false ∧ Peeled t ∧ (∀ p q, t ≠ .par p q) ∧ (∀ x p, t ≠ .own x p)
theorem lvl_bnd (s : Tm) : ∀ z, z ∈ (lvl s).1 → z ∈ s.bnd := by
 induction s with
 | own x p ih => intro z hz; simp only [lvl, List.mem_cons] at hz; simp only [Tm.bnd, List.mem_cons]; exact hz.imp id (ih z)
 | par p q ih ih2 => intro z hz; simp only [lvl, List.mem_append] at hz; simp only [Tm.bnd, List.mem_append]; exact hz.imp (ih z) (ih2 z)
 | _ => intro z hz; simp [lvl] at hz
theorem lvl_thr_bnd (s : Tm) : ∀ T ∈ (lvl s).2, ∀ z, z ∈ T.bnd → z ∈ s.bnd := by
 induction s with
 | own x p ih => intro T hT z hz; simp only [Tm.bnd, List.mem_cons]; exact .inr (ih T hT z hz)
 | par p q ih ih2 =>
  intro T hT z hz; simp only [lvl, List.mem_append] at hT; simp only [Tm.bnd, List.mem_append]
  exact hT.imp (fun h => ih T h z hz) (fun h => ih2 T h z hz)
 | nil => intro T hT; simp [lvl] at hT
 | _ => intro T hT z hz; simp only [lvl, List.mem_singleton] at hT; subst hT; exact hz
inductive All2 {α β : Type} (P : α → β → Prop) : List α → List β → Prop where
 | nil : All2 P [] []
 | cons {a b l m} : P a b → All2 P l m → All2 P (a :: l) (b :: m)
theorem All2.append {α β : Type} {P : α → β → Prop} {l l' : List α} {m m' : List β} (h : All2 P l m) (h' : All2 P l' m') : All2 P (l ++ l') (m ++ m') := by
 induction h with
 | nil => exact h'
 | cons a _ ih => exact .cons a ih
theorem All2.mono {α β : Type} {P Q : α → β → Prop} {l : List α} {m : List β} (h : All2 P l m) (hm : ∀ a b, a ∈ l → b ∈ m → P a b → Q a b) : All2 Q l m := by
 induction h with
 | nil => exact .nil
 | cons a _ ih => exact .cons (hm _ _ (by simp) (by simp) a) (ih fun a b ha hb => hm a b (by simp [ha]) (by simp [hb]))
theorem All2.len {α β : Type} {P : α → β → Prop} {l : List α} {m : List β} (h : All2 P l m) : l.length = m.length := by
 induction h with
 | nil => rfl
 | cons _ _ ih => simp [ih]
def FitT (t : Tm) : Prop := Fit t ∨ ∃ p q, (t = .par p q ∨ t = .sum p q) ∧ Fit p ∧ Fit q
def FitX (t : Tm) : Prop := Fit t ∨ ∃ p q, t = .sum p q ∧ Fit p ∧ Fit q
theorem fitT_par {p q : Tm} (h : FitT (.par p q)) : Fit p ∧ Fit q := by
 rcases h with h | ⟨p', q', e, h1, h2⟩
 ·exact ⟨fit_sub h (by simp only [Tm.bdp]; try omega) (fun z hz => by rw [mf_par]; exact .inl hz), fit_sub h (by simp only [Tm.bdp]; try omega) (fun z hz => by rw [mf_par]; exact .inr hz)⟩
 ·rcases e with e | e
  ·injection e with e1 e2; subst e1 e2; exact ⟨h1, h2⟩
  ·cases e
theorem fitX_sum {p q : Tm} (h : FitX (.sum p q)) : Fit p ∧ Fit q := by
 rcases h with h | ⟨p', q', e, h1, h2⟩
 ·exact ⟨fit_sub h (by simp only [Tm.bdp]; try omega) (fun z hz => by rw [mf_sum]; exact .inl hz), fit_sub h (by simp only [Tm.bdp]; try omega) (fun z hz => by rw [mf_sum]; exact .inr hz)⟩
 ·injection e with e1 e2; subst e1 e2; exact ⟨h1, h2⟩
theorem fitT_own {x : UInt8} {p : Tm} (h : FitT (.own x p)) : Fit (.own x p) := by
 rcases h with h | ⟨p', q', e, h1, h2⟩
 ·exact h
 ·rcases e with e | e <;> cases e
theorem fitT_X {t : Tm} (h : FitT t) (hp : ∀ p q, t ≠ .par p q) : FitX t := by
 rcases h with h | ⟨p', q', e, h1, h2⟩
 ·exact .inl h
 ·rcases e with e | e
  ·exact absurd e (hp _ _)
  ·exact .inr ⟨p', q', e, h1, h2⟩
theorem fitT_peel {t : Tm} (h : FitT t) : FitT t.peel := by
 rcases h with h | ⟨p, q, e, h1, h2⟩
 ·exact .inl (fit_peel t h)
 ·rcases e with e | e <;> subst e
  ·unfold Tm.peel; split
   ·exact .inl (fit_peel q h2)
   ·split
    ·exact .inl (fit_peel p h1)
    ·exact .inr ⟨p, q, .inl rfl, h1, h2⟩
  ·unfold Tm.peel; split
   ·exact .inl (fit_peel q h2)
   ·split
    ·exact .inl (fit_peel p h1)
    ·exact .inr ⟨p, q, .inr rfl, h1, h2⟩
theorem gath_Sm (n : Nat) : ∀ (k : Nat) (t : Tm) (E : UInt8 → UInt8 → Prop) (s : Tm) (P : UInt8 → Prop), t.size ≤ n → FitT t → Sm t E s → k + (lvl s).1.length ≤ 89 →
  (∀ z, ¬ great z → P z) → (∀ i, k ≤ i → i < 90 → ¬ P (gl i)) → (∀ z, z ∈ t.free ∨ z ∈ t.bnd → P z) → s.bnd.Nodup → (∀ u v, E u v → v ∉ s.bnd) →
  (gath n k t).2 = k + (lvl s).1.length ∧ All2 (fun T T' => Sm T (exE E k (lvl s).1) T') (gath n k t).1 (lvl s).2 ∧
  ∀ T ∈ (gath n k t).1, (FitX T ∧ (Fit T ∨ ((lvl s).1 = [] ∧ ¬ Fit t))) ∧ T.size ≤ t.size ∧ Thr T ∧ ∀ z, z ∈ T.free ∨ z ∈ T.bnd → P z ∨ ∃ j, j < (lvl s).1.length ∧ z = gl (k + j) := by
 induction n with
 | zero => intro k t E s P h; have := size_pos t; omega
 | succ n ih =>
  intro k t E s P hn hfit hS hk hP1 hP2 hPt hnd hE
  have hps := peel_sub t
  have hSp := Sm_peel t E s hS
  have hpf := peel_form t
  have hPu : ∀ z, z ∈ t.peel.free ∨ z ∈ t.peel.bnd → P z := fun z hz => hPt z (peel_names t z hz)
  have hfp := fitT_peel hfit
  have hfq := fit_peel t
  unfold gath
  by_cases hd : t.peel.dead = true
  ·have e := Sm_dead _ E s hd hSp
   subst e
   rw [if_pos hd]
   exact ⟨rfl, .nil, fun T h => by simp at h⟩
  ·rw [if_neg hd]
   have hd' : t.peel.dead = false := by simpa using hd
   generalize hu : t.peel = u at *
   -- a thread
   have hleaf : (∀ p q, u ≠ .par p q) → (∀ x p, u ≠ .own x p) → (lvl s) = ([], [s]) →
     (([u], k) : List Tm × Nat).2 = k + (lvl s).1.length ∧ All2 (fun T T' => Sm T (exE E k (lvl s).1) T') (([u], k) : List Tm × Nat).1 (lvl s).2 ∧
     ∀ T ∈ (([u], k) : List Tm × Nat).1, (FitX T ∧ (Fit T ∨ ((lvl s).1 = [] ∧ ¬ Fit t))) ∧ T.size ≤ t.size ∧ Thr T ∧ ∀ z, z ∈ T.free ∨ z ∈ T.bnd → P z ∨ ∃ j, j < (lvl s).1.length ∧ z = gl (k + j) := by
    intro h1 h2 h3
    rw [h3]
    refine ⟨rfl, .cons (Sm_mono u E _ s (fun a b _ hab => .inr ⟨fun j hj => by simp at hj, by simp, hab⟩) hSp) .nil, fun T hT => ?_⟩
    simp only [List.mem_singleton] at hT
    subst hT
    exact ⟨⟨fitT_X hfp h1, by by_cases c : Fit t; exact .inl (hfq c); exact .inr ⟨rfl, c⟩⟩, hps.2.2.1, ⟨hd', hpf, h1, h2⟩, fun z hz => .inl (hPu z hz)⟩
   cases u with
   | nil => simp [Tm.dead] at hd
   | snd a b p => obtain ⟨a', b', p', rfl, _⟩ := hSp; exact hleaf (by intros; simp) (by intros; simp) rfl
   | rcv a x p => obtain ⟨a', x', p', rfl, _⟩ := hSp; exact hleaf (by intros; simp) (by intros; simp) rfl
   | tau p => obtain ⟨p', rfl, _⟩ := hSp; exact hleaf (by intros; simp) (by intros; simp) rfl
   | sum p q =>
    have h' := hSp; unfold Sm at h'; rw [if_neg (by rw [hpf.1]; simp), if_neg (by rw [hpf.2]; simp)] at h'
    obtain ⟨p', q', rfl, _⟩ := h'; exact hleaf (by intros; simp) (by intros; simp) rfl
   | mat a b p =>
    have h' := hSp; unfold Sm at h'; rw [if_neg hpf, if_neg (show ¬ p.dead = true from hd)] at h'
    obtain ⟨a', b', p', rfl, _⟩ := h'; exact hleaf (by intros; simp) (by intros; simp) rfl
   | rep p =>
    have h' := hSp; unfold Sm at h'; rw [if_neg (show ¬ p.dead = true from hd)] at h'
    obtain ⟨p', rfl, _⟩ := h'; exact hleaf (by intros; simp) (by intros; simp) rfl
   | par p q =>
    have h' := hSp; unfold Sm at h'; rw [if_neg (by rw [hpf.1]; simp), if_neg (by rw [hpf.2]; simp)] at h'
    obtain ⟨p', q', rfl, h1, h2⟩ := h'
    simp only [lvl, List.length_append] at hk
    have hsz : p.size + q.size + 1 ≤ t.size := hps.2.2.1
    have hbn : (Tm.par p q).bnd.length = p.bnd.length + q.bnd.length := by simp [Tm.bnd]
    have hPp : ∀ z, z ∈ p.free ∨ z ∈ p.bnd → P z := fun z hz => hPu z (by rw [mf_par]; simp only [Tm.bnd, List.mem_append]; grind)
    have hPq : ∀ z, z ∈ q.free ∨ z ∈ q.bnd → P z := fun z hz => hPu z (by rw [mf_par]; simp only [Tm.bnd, List.mem_append]; grind)
    have hnd' : (p'.bnd ++ q'.bnd).Nodup := hnd
    rw [List.nodup_append] at hnd'
    obtain ⟨a1, a2, a3⟩ := ih k p E p' P (by omega) (.inl (fitT_par hfp).1) h1 (by omega) hP1 hP2 hPp hnd'.1 (fun u v e hv => hE u v e (by simp only [Tm.bnd, List.mem_append]; exact .inl hv))
    simp only []
    rw [a1]
    obtain ⟨b1, b2, b3⟩ := ih (k + (lvl p').1.length) q E q' P (by omega) (.inl (fitT_par hfp).2) h2 (by omega) hP1 (fun i hi => hP2 i (by omega)) hPq hnd'.2.1 (fun u v e hv => hE u v e (by simp only [Tm.bnd, List.mem_append]; exact .inr hv))
    have hEp : ∀ u v, E u v → v ∉ (lvl p').1 := fun u v e hv => hE u v e (by simp only [Tm.bnd, List.mem_append]; exact .inl (lvl_bnd _ v hv))
    have hEq : ∀ u v, E u v → v ∉ (lvl q').1 := fun u v e hv => hE u v e (by simp only [Tm.bnd, List.mem_append]; exact .inr (lvl_bnd _ v hv))
    simp only [lvl, List.length_append]
    refine ⟨by rw [b1]; omega, .append (a2.mono fun T T' hT _ hm => ?_) (b2.mono fun T T' hT _ hm => ?_), fun T hT => ?_⟩
    ·refine Sm_mono T _ _ T' (fun u v hu he => ?_) hm
     have hu' := (a3 T hT).2.2.2 u (.inl (usd_free T u hu))
     rcases he with ⟨j, hj, e1, e2⟩ | ⟨c1, c2, c3⟩
     ·exact .inl ⟨j, by rw [List.length_append]; omega, e1, by rw [e2, List.getElem_append_left]⟩
     ·refine .inr ⟨fun j hj e => ?_, by rw [List.mem_append]; exact fun h => h.elim c2 (hEq u v c3), c3⟩
      rw [List.length_append] at hj
      rcases hu' with hu' | ⟨i, hi, e'⟩
      ·exact hP2 (k + j) (by omega) (by omega) (e ▸ hu')
      ·exact c1 i hi e'
    ·refine Sm_mono T _ _ T' (fun u v hu he => ?_) hm
     have hu' := (b3 T hT).2.2.2 u (.inl (usd_free T u hu))
     rcases he with ⟨j, hj, e1, e2⟩ | ⟨c1, c2, c3⟩
     ·exact .inl ⟨(lvl p').1.length + j, by rw [List.length_append]; omega, by rw [e1, Nat.add_assoc], by rw [e2, List.getElem_append_right (by omega)]; simp⟩
     ·refine .inr ⟨fun j hj e => ?_, by rw [List.mem_append]; exact fun h => h.elim (hEp u v c3) c2, c3⟩
      rw [List.length_append] at hj
      rcases hu' with hu' | ⟨i, hi, e'⟩
      ·exact hP2 (k + j) (by omega) (by omega) (e ▸ hu')
      ·exact c1 i hi e'
    ·rcases List.mem_append.1 hT with hT | hT
     ·obtain ⟨⟨c0, c1⟩, c2, c3, c4⟩ := a3 T hT
      refine ⟨⟨c0, .inl (c1.resolve_right fun h => h.2 (fitT_par hfp).1)⟩, by omega, c3, fun z hz => ?_⟩
      rcases c4 z hz with h | ⟨j, hj, e⟩
      ·exact .inl h
      ·exact .inr ⟨j, by omega, e⟩
     ·obtain ⟨⟨c0, c1⟩, c2, c3, c4⟩ := b3 T hT
      refine ⟨⟨c0, .inl (c1.resolve_right fun h => h.2 (fitT_par hfp).2)⟩, by omega, c3, fun z hz => ?_⟩
      rcases c4 z hz with h | ⟨j, hj, e⟩
      ·exact .inl h
      ·exact .inr ⟨(lvl p').1.length + j, by omega, by rw [e, Nat.add_assoc]⟩
   | own x p =>
    have h' := hSp; unfold Sm at h'; rw [if_pos (show x ∈ p.usd from hpf)] at h'
    obtain ⟨x', p', rfl, h1⟩ := h'
    simp only [lvl, List.length_cons] at hk
    have hsz : p.size + 1 ≤ t.size := hps.2.2.1
    have hbn : (Tm.own x p).bdp = p.bdp + 1 := by simp [Tm.bdp]
    have hPp : ∀ z, z ∈ p.free ∨ z ∈ p.bnd → P z := fun z hz => hPu z (by rw [mf_own]; simp only [Tm.bnd, List.mem_cons]; grind)
    have hfitp : Fit p := fit_bind (x := x) (fitT_own hfp) (by omega) (fun z hz => by rw [mf_own]; grind)
    have hnPk := hP2 k (Nat.le_refl _) (by omega)
    have hgk : gl k ∉ p.free := fun h => hnPk (hPp _ (.inl h))
    have hxk : x ≠ gl k := fun e => hnPk (hPu _ (.inr (by simp only [Tm.bnd, List.mem_cons]; exact .inl e.symm)))
    have hnd' : x' ∉ p'.bnd ∧ p'.bnd.Nodup := by rw [← List.nodup_cons]; exact hnd
    have hS2 : Sm (R p x (gl k)) (sbE (bdE E x x') x (gl k)) p' := Sm_R _ p x (gl k) _ p' (Nat.le_refl _) (fit_roomy hfitp _ _) hxk (fun hu => hgk (usd_free _ _ hu)) h1
    have hfR := R_names hfitp x (gl k)
    obtain ⟨a1, a2, a3⟩ := ih (k + 1) (R p x (gl k)) _ p' (fun z => P z ∨ z = gl k) (by rw [R_size]; omega) (.inl (fit_R hfitp _ _)) hS2 (by omega) (fun z hz => .inl (hP1 z hz))
     (fun i hi hi2 h => by
      rcases h with h | h
      ·exact hP2 i (by omega) hi2 h
      ·have := gl_inj hi2 (by omega) h; omega)
     (fun z hz => by
      rcases hfR z hz with h | h | h
      ·exact .inl (hPp z h)
      ·exact .inr h
      ·exact .inl (hP1 z h)) hnd'.2 (fun u v he hv => by
      rcases he with ⟨_, he⟩ | ⟨_, _, he⟩
      ·rcases he with ⟨_, e⟩ | ⟨e, _⟩
       ·exact hnd'.1 (e ▸ hv)
       ·exact e rfl
      ·rcases he with ⟨_, e⟩ | ⟨_, _, e⟩
       ·exact hnd'.1 (e ▸ hv)
       ·exact hE u v e (by simp only [Tm.bnd, List.mem_cons]; exact .inr hv))
    simp only [lvl, List.length_cons]
    refine ⟨by rw [a1]; omega, a2.mono fun T T' hT _ hm => Sm_mono T _ _ T' (fun u v hu he => ?_) hm, fun T hT => ?_⟩
    ·rcases he with ⟨j, hj, e1, e2⟩ | ⟨c1, c2, c3⟩
     ·exact .inl ⟨j + 1, by rw [List.length_cons]; omega, by rw [e1]; congr 1; omega, by rw [e2]; rfl⟩
     ·have hc1 : ∀ j, j < (x' :: (lvl p').1).length → u ≠ gl k → u ≠ gl (k + j) := fun j hj h0 e => by
       cases j with
       | zero => exact h0 e
       | succ j => exact c1 j (by simp at hj; omega) (by rw [e]; congr 1; omega)
      rcases c3 with ⟨e1, he⟩ | ⟨d1, d2, he⟩
      ·rcases he with ⟨_, e⟩ | ⟨e, _⟩
       ·exact .inl ⟨0, by simp, e1, e⟩
       ·exact absurd rfl e
      ·rcases he with ⟨e, _⟩ | ⟨_, d3, d4⟩
       ·exact absurd e d2
       ·exact .inr ⟨fun j hj => hc1 j hj d1, by rw [List.mem_cons]; exact fun h => h.elim d3 c2, d4⟩
    ·obtain ⟨⟨c0, c1⟩, c2, c3, c4⟩ := a3 T hT
     rw [R_size] at c2
     refine ⟨⟨c0, .inl (c1.resolve_right fun h => h.2 (fit_R hfitp _ _))⟩, by omega, c3, fun z hz => ?_⟩
     rcases c4 z hz with (h | h) | ⟨j, hj, e⟩
     ·exact .inl h
     ·exact .inr ⟨0, by omega, h⟩
     ·exact .inr ⟨j + 1, by omega, by rw [e]; congr 1; omega⟩
theorem can_len (t : Tm) : ∀ (sc : UInt8 → UInt8) (ns : List UInt8), (can t sc ns).pr.length = t.pr.length ∧ (can t sc ns).size = t.size ∧ (can t sc ns).bnd.length = t.bnd.length := by
 induction t with
 | nil => intro sc ns; exact ⟨rfl, rfl, rfl⟩
 | rcv a x p ih => intro sc ns; have := ih (upd sc x (ns.headD 0)) ns.tail; simp only [can, Tm.pr, Tm.size, Tm.bnd, List.length_cons, this, and_self]
 | own x p ih => intro sc ns; have := ih (upd sc x (ns.headD 0)) ns.tail; simp only [can, Tm.pr, Tm.size, Tm.bnd, List.length_cons, this, and_self]
 | sum p q ih ih2 => intro sc ns; have h1 := ih sc ns; have h2 := ih2 sc (ns.drop p.bnd.length); simp [can, Tm.pr, Tm.size, Tm.bnd, h1, h2]
 | par p q ih ih2 => intro sc ns; have h1 := ih sc ns; have h2 := ih2 sc (ns.drop p.bnd.length); simp [can, Tm.pr, Tm.size, Tm.bnd, h1, h2]
 | snd a b p ih => intro sc ns; have h1 := ih sc ns; simp [can, Tm.pr, Tm.size, Tm.bnd, h1]
 | mat a b p ih => intro sc ns; have h1 := ih sc ns; simp [can, Tm.pr, Tm.size, Tm.bnd, h1]
 | tau p ih => intro sc ns; have h1 := ih sc ns; simp [can, Tm.pr, Tm.size, Tm.bnd, h1]
 | rep p ih => intro sc ns; have h1 := ih sc ns; simp [can, Tm.pr, Tm.size, Tm.bnd, h1]
structure Mk (ms ns : List UInt8) : Prop where
 nd : (ms ++ ns).Nodup
 hi : ∀ z ∈ ms ++ ns, 123 ≤ z.toNat
def marks : List UInt8 := (List.range 60).map fun i => UInt8.ofNat (123 + i)
end Go.Proofs.YtalegefnppbkdaaGreat.T1
