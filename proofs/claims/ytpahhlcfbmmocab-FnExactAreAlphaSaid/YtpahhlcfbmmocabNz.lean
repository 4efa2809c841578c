/- Congruence, plain: a simplified process whose signs bind names of their own; how many names of its own a normal form has, and that it is well spelt. -/
import Derived.Test.YtpahhlcfbmmocabNy
namespace Go.Proofs.Ytpahhlcfbmmocab.T1
set_option linter.unusedVariables false

/-- Without all that the laws leave out, inner parts first. -/
def Tm.sim : Tm → Tm
  | .nil => .nil
  | .snd a b p => .snd a b p.sim
  | .rcv a x p => .rcv a x p.sim
  | .tau p => .tau p.sim
  | .sum p q => if p.sim = .nil then q.sim else if q.sim = .nil then p.sim else .sum p.sim q.sim
  | .par p q => if p.sim = .nil then q.sim else if q.sim = .nil then p.sim else .par p.sim q.sim
  | .own x p => if x ∈ p.sim.free then .own x p.sim else p.sim
  | .mat a b p => if a = b ∨ p.sim = .nil then p.sim else .mat a b p.sim
  | .rep p => if p.sim = .nil then p.sim else .rep p.sim
theorem sim_both (t : Tm) : (t.sim = .nil ↔ t.dead = true) ∧ ∀ z, z ∈ t.sim.free ↔ z ∈ t.usd := by
  induction t with
  | nil => exact ⟨by simp [Tm.sim, Tm.dead], fun z => by simp [Tm.sim, Tm.free, Tm.usd]⟩
  | snd a b p ih => exact ⟨by simp [Tm.sim, Tm.dead], fun z => by rw [mu_snd]; simp only [Tm.sim]; rw [mf_snd, ih.2]⟩
  | rcv a x p ih => exact ⟨by simp [Tm.sim, Tm.dead], fun z => by rw [mu_rcv]; simp only [Tm.sim]; rw [mf_rcv, ih.2]⟩
  | tau p ih => exact ⟨by simp [Tm.sim, Tm.dead], fun z => by rw [mu_tau]; simp only [Tm.sim]; rw [mf_tau, ih.2]⟩
  | sum p q ih ih2 =>
    simp only [Tm.sim, Tm.dead, Bool.and_eq_true]
    by_cases h : p.sim = .nil
    · rw [if_pos h]
      have hd := ih.1.1 h
      exact ⟨by rw [ih2.1]; simp [hd], fun z => by rw [mu_sum, ih2.2, dead_usd _ hd]; simp⟩
    · rw [if_neg h]
      have hd : ¬ p.dead = true := fun e => h (ih.1.2 e)
      by_cases h2 : q.sim = .nil
      · rw [if_pos h2]
        have hd2 := ih2.1.1 h2
        exact ⟨by rw [ih.1]; simp [hd2], fun z => by rw [mu_sum, ih.2, dead_usd _ hd2]; simp⟩
      · rw [if_neg h2]
        exact ⟨by simp [hd], fun z => by rw [mu_sum, mf_sum, ih.2, ih2.2]⟩
  | par p q ih ih2 =>
    simp only [Tm.sim, Tm.dead, Bool.and_eq_true]
    by_cases h : p.sim = .nil
    · rw [if_pos h]
      have hd := ih.1.1 h
      exact ⟨by rw [ih2.1]; simp [hd], fun z => by rw [mu_par, ih2.2, dead_usd _ hd]; simp⟩
    · rw [if_neg h]
      have hd : ¬ p.dead = true := fun e => h (ih.1.2 e)
      by_cases h2 : q.sim = .nil
      · rw [if_pos h2]
        have hd2 := ih2.1.1 h2
        exact ⟨by rw [ih.1]; simp [hd2], fun z => by rw [mu_par, ih.2, dead_usd _ hd2]; simp⟩
      · rw [if_neg h2]
        exact ⟨by simp [hd], fun z => by rw [mu_par, mf_par, ih.2, ih2.2]⟩
  | own x p ih =>
    simp only [Tm.sim, Tm.dead]
    by_cases h : x ∈ p.sim.free
    · rw [if_pos h]
      have hx := (ih.2 x).1 h
      exact ⟨⟨fun e => (by cases e), fun e => (by rw [dead_usd _ e] at hx; simp at hx)⟩, fun z => by rw [mu_own, mf_own, ih.2]⟩
    · rw [if_neg h]
      exact ⟨ih.1, fun z => by rw [mu_own, ih.2]; exact ⟨fun hz => ⟨hz, fun e => h ((ih.2 x).2 (e ▸ hz))⟩, fun hz => hz.1⟩⟩
  | mat a b p ih =>
    simp only [Tm.sim, Tm.dead]
    by_cases h : a = b ∨ p.sim = .nil
    · rw [if_pos h]
      refine ⟨ih.1, fun z => ?_⟩
      rw [mu_mat, ih.2]
      rcases h with h | h
      · simp [h]
      · have := ih.1.1 h; rw [dead_usd _ this]; simp [this]
    · rw [if_neg h]
      have hd : ¬ p.dead = true := fun e => h (.inr (ih.1.2 e))
      have hd' : p.dead = false := by simpa using hd
      have hab : a ≠ b := fun e => h (.inl e)
      exact ⟨by simp [hd], fun z => by rw [mu_mat, mf_mat, ih.2]; simp [hab, hd']⟩
  | rep p ih =>
    simp only [Tm.sim, Tm.dead]
    by_cases h : p.sim = .nil
    · rw [if_pos h]
      exact ⟨ih.1, fun z => by rw [mu_rep, ih.2]⟩
    · rw [if_neg h]
      have hd : ¬ p.dead = true := fun e => h (ih.1.2 e)
      exact ⟨by simp [hd], fun z => by rw [mu_rep, mf_rep, ih.2]⟩
theorem sim_usd (t : Tm) : t.sim.free = t.usd := srt_ext (srt_free _) (srt_usd _) (sim_both t).2
theorem Sm_sim (t : Tm) : Sm t (fun u v => u = v) t.sim := by
  have hb : ∀ (x : UInt8) (p s : Tm), Sm p (fun u v => u = v) s → Sm p (bdE (fun u v => u = v) x x) s := fun x p s h =>
    Sm_mono p _ _ s (fun u v _ e => by
      by_cases hx : u = x
      · exact .inl ⟨hx, e ▸ hx⟩
      · exact .inr ⟨hx, e ▸ hx, e⟩) h
  induction t with
  | nil => rfl
  | snd a b p ih => exact ⟨a, b, p.sim, rfl, rfl, rfl, ih⟩
  | rcv a x p ih => exact ⟨a, x, p.sim, rfl, rfl, hb x p _ ih⟩
  | tau p ih => exact ⟨p.sim, rfl, ih⟩
  | sum p q ih ih2 =>
    unfold Sm Tm.sim
    by_cases h : p.sim = .nil
    · rw [if_pos h, if_pos ((sim_both p).1.1 h)]; exact ih2
    · rw [if_neg h, if_neg (fun e => h ((sim_both p).1.2 e))]
      by_cases h2 : q.sim = .nil
      · rw [if_pos h2, if_pos ((sim_both q).1.1 h2)]; exact ih
      · rw [if_neg h2, if_neg (fun e => h2 ((sim_both q).1.2 e))]
        exact ⟨_, _, rfl, ih, ih2⟩
  | par p q ih ih2 =>
    unfold Sm Tm.sim
    by_cases h : p.sim = .nil
    · rw [if_pos h, if_pos ((sim_both p).1.1 h)]; exact ih2
    · rw [if_neg h, if_neg (fun e => h ((sim_both p).1.2 e))]
      by_cases h2 : q.sim = .nil
      · rw [if_pos h2, if_pos ((sim_both q).1.1 h2)]; exact ih
      · rw [if_neg h2, if_neg (fun e => h2 ((sim_both q).1.2 e))]
        exact ⟨_, _, rfl, ih, ih2⟩
  | own x p ih =>
    unfold Sm Tm.sim
    by_cases h : x ∈ p.sim.free
    · rw [if_pos h, if_pos (((sim_both p).2 x).1 h)]; exact ⟨x, p.sim, rfl, hb x p _ ih⟩
    · rw [if_neg h, if_neg (fun e => h (((sim_both p).2 x).2 e))]; exact ih
  | mat a b p ih =>
    unfold Sm Tm.sim
    by_cases h : a = b
    · rw [if_pos h, if_pos (show a = b ∨ p.sim = .nil from .inl h)]; exact ih
    · rw [if_neg h]
      by_cases h2 : p.sim = .nil
      · rw [if_pos (show a = b ∨ p.sim = .nil from .inr h2), if_pos ((sim_both p).1.1 h2)]; exact h2
      · rw [if_neg (show ¬ (a = b ∨ p.sim = .nil) from fun e => e.elim h h2), if_neg (fun e => h2 ((sim_both p).1.2 e))]
        exact ⟨a, b, p.sim, rfl, rfl, rfl, ih⟩
  | rep p ih =>
    unfold Sm Tm.sim
    by_cases h2 : p.sim = .nil
    · rw [if_pos h2, if_pos ((sim_both p).1.1 h2)]; exact h2
    · rw [if_neg h2, if_neg (fun e => h2 ((sim_both p).1.2 e))]
      exact ⟨p.sim, rfl, ih⟩
/-- Signs that bind bind other names, each its own: still the same process. -/
theorem Sm_can (t : Tm) : ∀ (E : UInt8 → UInt8 → Prop) (s : Tm) (f : UInt8 → UInt8) (ns : List UInt8), Sm t E s → s.bnd.length ≤ ns.length → ns.Nodup → (∀ z, z ∈ s.free → f z ∉ ns) →
    Sm t (fun u v => ∃ w, w ∈ s.free ∧ E u w ∧ v = f w) (can s f ns) := by
  have hbind : ∀ (p p' : Tm) (E : UInt8 → UInt8 → Prop) (x x' n : UInt8) (f : UInt8 → UInt8) (ns : List UInt8) (F : List UInt8), (∀ z, z ∈ p'.free → z ≠ x' → z ∈ F) → (∀ z, z ∈ F → f z ∉ n :: ns) → (n :: ns).Nodup →
      Sm p (fun u v => ∃ w, w ∈ p'.free ∧ bdE E x x' u w ∧ v = upd f x' n w) (can p' (upd f x' n) ns) →
      Sm p (bdE (fun u v => ∃ w, w ∈ F ∧ E u w ∧ v = f w) x n) (can p' (upd f x' n) ns) := by
    intro p p' E x x' n f ns F hF hf hnd h
    refine Sm_mono p _ _ _ (fun u v _ he => ?_) h
    obtain ⟨w, hw, he, hv⟩ := he
    rcases he with ⟨e1, e2⟩ | ⟨e1, e2, e3⟩
    · exact .inl ⟨e1, by rw [hv]; unfold upd; rw [if_pos e2]⟩
    · have hv' : v = f w := by rw [hv]; unfold upd; rw [if_neg e2]
      refine .inr ⟨e1, fun e => hf w (hF w hw e2) (by rw [← hv', e]; simp), w, hF w hw e2, e3, hv'⟩
  have hsub : ∀ (p' : Tm) (x' n : UInt8) (f : UInt8 → UInt8) (ns : List UInt8) (F : List UInt8), (∀ z, z ∈ p'.free → z ≠ x' → z ∈ F) → (∀ z, z ∈ F → f z ∉ n :: ns) → (n :: ns).Nodup → ∀ z, z ∈ p'.free → upd f x' n z ∉ ns := by
    intro p' x' n f ns F hF hf hnd z hz
    rw [List.nodup_cons] at hnd
    unfold upd; split
    · exact hnd.1
    · rename_i e; exact fun h => hf z (hF z hz e) (by simp [h])
  induction t with
  | nil => rintro E s f ns rfl _ _ _; rfl
  | snd a b p ih =>
    rintro E s f ns ⟨a', b', p', rfl, h1, h2, h3⟩ hl hn hf
    refine ⟨f a', f b', can p' f ns, rfl, ⟨a', by rw [mf_snd]; simp, h1, rfl⟩, ⟨b', by rw [mf_snd]; simp, h2, rfl⟩, ?_⟩
    exact Sm_mono p _ _ _ (fun u v _ he => by obtain ⟨w, hw, e⟩ := he; exact ⟨w, by rw [mf_snd]; simp [hw], e⟩) (ih E p' f ns h3 hl hn (fun z hz => hf z (by rw [mf_snd]; simp [hz])))
  | tau p ih =>
    rintro E s f ns ⟨p', rfl, h3⟩ hl hn hf
    refine ⟨can p' f ns, rfl, ?_⟩
    exact Sm_mono p _ _ _ (fun u v _ he => by obtain ⟨w, hw, e⟩ := he; exact ⟨w, by rw [mf_tau]; exact hw, e⟩) (ih E p' f ns h3 hl hn (fun z hz => hf z (by rw [mf_tau]; exact hz)))
  | rcv a x p ih =>
    rintro E s f ns ⟨a', x', p', rfl, h1, h3⟩ hl hn hf
    cases ns with
    | nil => simp [Tm.bnd] at hl
    | cons n ns =>
      have hF : ∀ z, z ∈ p'.free → z ≠ x' → z ∈ (Tm.rcv a' x' p').free := fun z hz e => by rw [mf_rcv]; exact .inr ⟨hz, e⟩
      refine ⟨f a', n, can p' (upd f x' n) ns, rfl, ⟨a', by rw [mf_rcv]; simp, h1, rfl⟩, ?_⟩
      exact hbind p p' E x x' n f ns _ hF hf hn (ih _ p' (upd f x' n) ns h3 (by simpa [Tm.bnd] using hl) (List.nodup_cons.1 hn).2 (hsub p' x' n f ns _ hF hf hn))
  | own x p ih =>
    intro E s f ns h hl hn hf
    unfold Sm at h ⊢
    split at h
    · rename_i c; rw [if_pos c]
      obtain ⟨x', p', rfl, h3⟩ := h
      cases ns with
      | nil => simp [Tm.bnd] at hl
      | cons n ns =>
        have hF : ∀ z, z ∈ p'.free → z ≠ x' → z ∈ (Tm.own x' p').free := fun z hz e => by rw [mf_own]; exact ⟨hz, e⟩
        refine ⟨n, can p' (upd f x' n) ns, rfl, ?_⟩
        exact hbind p p' E x x' n f ns _ hF hf hn (ih _ p' (upd f x' n) ns h3 (by simpa [Tm.bnd] using hl) (List.nodup_cons.1 hn).2 (hsub p' x' n f ns _ hF hf hn))
    · rename_i c; rw [if_neg c]; exact ih E s f ns h hl hn hf
  | sum p q ih ih2 =>
    intro E s f ns h hl hn hf
    unfold Sm at h ⊢
    split at h
    · rename_i c; rw [if_pos c]; exact ih2 E s f ns h hl hn hf
    · rename_i c; rw [if_neg c]
      split at h
      · rename_i c; rw [if_pos c]; exact ih E s f ns h hl hn hf
      · rename_i c; rw [if_neg c]
        obtain ⟨p', q', rfl, h1, h2⟩ := h
        simp only [Tm.bnd, List.length_append] at hl
        refine ⟨can p' f ns, can q' f (ns.drop p'.bnd.length), rfl, ?_, ?_⟩
        · exact Sm_mono p _ _ _ (fun u v _ he => by obtain ⟨w, hw, e⟩ := he; exact ⟨w, by rw [mf_sum]; exact .inl hw, e⟩) (ih E p' f ns h1 (by omega) hn (fun z hz => hf z (by rw [mf_sum]; exact .inl hz)))
        · exact Sm_mono q _ _ _ (fun u v _ he => by obtain ⟨w, hw, e⟩ := he; exact ⟨w, by rw [mf_sum]; exact .inr hw, e⟩) (ih2 E q' f _ h2 (by rw [List.length_drop]; omega) (hn.sublist (List.drop_sublist _ _)) (fun z hz h => hf z (by rw [mf_sum]; exact .inr hz) (List.mem_of_mem_drop h)))
  | par p q ih ih2 =>
    intro E s f ns h hl hn hf
    unfold Sm at h ⊢
    split at h
    · rename_i c; rw [if_pos c]; exact ih2 E s f ns h hl hn hf
    · rename_i c; rw [if_neg c]
      split at h
      · rename_i c; rw [if_pos c]; exact ih E s f ns h hl hn hf
      · rename_i c; rw [if_neg c]
        obtain ⟨p', q', rfl, h1, h2⟩ := h
        simp only [Tm.bnd, List.length_append] at hl
        refine ⟨can p' f ns, can q' f (ns.drop p'.bnd.length), rfl, ?_, ?_⟩
        · exact Sm_mono p _ _ _ (fun u v _ he => by obtain ⟨w, hw, e⟩ := he; exact ⟨w, by rw [mf_par]; exact .inl hw, e⟩) (ih E p' f ns h1 (by omega) hn (fun z hz => hf z (by rw [mf_par]; exact .inl hz)))
        · exact Sm_mono q _ _ _ (fun u v _ he => by obtain ⟨w, hw, e⟩ := he; exact ⟨w, by rw [mf_par]; exact .inr hw, e⟩) (ih2 E q' f _ h2 (by rw [List.length_drop]; omega) (hn.sublist (List.drop_sublist _ _)) (fun z hz h => hf z (by rw [mf_par]; exact .inr hz) (List.mem_of_mem_drop h)))
  | mat a b p ih =>
    intro E s f ns h hl hn hf
    unfold Sm at h ⊢
    by_cases c : a = b
    · rw [if_pos c] at h ⊢; exact ih E s f ns h hl hn hf
    · rw [if_neg c] at h ⊢
      split at h
      · rename_i d; rw [if_pos d]; subst h; rfl
      · rename_i d; rw [if_neg d]
        obtain ⟨a', b', p', rfl, h1, h2, h3⟩ := h
        refine ⟨f a', f b', can p' f ns, rfl, ⟨a', by rw [mf_mat]; simp, h1, rfl⟩, ⟨b', by rw [mf_mat]; simp, h2, rfl⟩, ?_⟩
        exact Sm_mono p _ _ _ (fun u v _ he => by obtain ⟨w, hw, e⟩ := he; exact ⟨w, by rw [mf_mat]; simp [hw], e⟩) (ih E p' f ns h3 hl hn (fun z hz => hf z (by rw [mf_mat]; simp [hz])))
  | rep p ih =>
    intro E s f ns h hl hn hf
    unfold Sm at h ⊢
    split at h
    · rename_i d; rw [if_pos d]; subst h; rfl
    · rename_i d; rw [if_neg d]
      obtain ⟨p', rfl, h3⟩ := h
      refine ⟨can p' f ns, rfl, ?_⟩
      exact Sm_mono p _ _ _ (fun u v _ he => by obtain ⟨w, hw, e⟩ := he; exact ⟨w, by rw [mf_rep]; exact hw, e⟩) (ih E p' f ns h3 hl hn (fun z hz => hf z (by rw [mf_rep]; exact hz)))
theorem can_bnd (s : Tm) : ∀ (f : UInt8 → UInt8) (ns : List UInt8), s.bnd.length ≤ ns.length → (can s f ns).bnd = ns.take s.bnd.length := by
  induction s with
  | nil => intro f ns _; simp [can, Tm.bnd]
  | snd a b p ih => intro f ns h; exact ih f ns h
  | tau p ih => intro f ns h; exact ih f ns h
  | mat a b p ih => intro f ns h; exact ih f ns h
  | rep p ih => intro f ns h; exact ih f ns h
  | rcv a x p ih =>
    intro f ns h
    cases ns with
    | nil => simp [Tm.bnd] at h
    | cons n ns =>
      simp only [can, Tm.bnd, List.headD_cons, List.tail_cons, List.length_cons, List.take_succ_cons]
      rw [ih _ ns (by simpa [Tm.bnd] using h)]
  | own x p ih =>
    intro f ns h
    cases ns with
    | nil => simp [Tm.bnd] at h
    | cons n ns =>
      simp only [can, Tm.bnd, List.headD_cons, List.tail_cons, List.length_cons, List.take_succ_cons]
      rw [ih _ ns (by simpa [Tm.bnd] using h)]
  | sum p q ih ih2 =>
    intro f ns h
    simp only [Tm.bnd, List.length_append] at h
    simp only [can, Tm.bnd, List.length_append]
    rw [ih f ns (by omega), ih2 f _ (by rw [List.length_drop]; omega), ← List.take_add]
  | par p q ih ih2 =>
    intro f ns h
    simp only [Tm.bnd, List.length_append] at h
    simp only [can, Tm.bnd, List.length_append]
    rw [ih f ns (by omega), ih2 f _ (by rw [List.length_drop]; omega), ← List.take_add]

/-- How many names of its own a process has. -/
def ownc : Tm → Nat
  | .nil => 0
  | .snd _ _ p => ownc p
  | .rcv _ _ p => ownc p
  | .tau p => ownc p
  | .sum p q => ownc p + ownc q
  | .par p q => ownc p + ownc q
  | .own _ p => ownc p + 1
  | .mat _ _ p => ownc p
  | .rep p => ownc p
theorem ownc_pr (t : Tm) (h : t.ok nmE = true) : t.pr.count 35 = ownc t := by
  have hn : ∀ c, nmE c = true → c ≠ 35 := fun c h e => by rw [e] at h; revert h; decide
  induction t with
  | nil => rfl
  | snd a b p ih =>
    simp only [Tm.ok, Bool.and_eq_true] at h
    simp only [Tm.pr, List.count_cons, ownc, ih h.2]
    simp [hn a h.1.1, hn b h.1.2]
  | rcv a b p ih =>
    simp only [Tm.ok, Bool.and_eq_true] at h
    simp only [Tm.pr, List.count_cons, ownc, ih h.2]
    simp [hn a h.1.1, hn b h.1.2]
  | tau p ih => simp only [Tm.ok] at h; simp only [Tm.pr, List.count_cons, ownc, ih h]; simp
  | rep p ih => simp only [Tm.ok] at h; simp only [Tm.pr, List.count_cons, ownc, ih h]; simp
  | mat a b p ih =>
    simp only [Tm.ok, Bool.and_eq_true] at h
    simp only [Tm.pr, List.count_cons, ownc, ih h.2]
    simp [hn a h.1.1, hn b h.1.2]
  | own x p ih =>
    simp only [Tm.ok, Bool.and_eq_true] at h
    simp only [Tm.pr, List.count_cons, ownc, ih h.2]
    simp [hn x h.1]
  | sum p q ih ih2 =>
    simp only [Tm.ok, Bool.and_eq_true] at h
    simp only [Tm.pr, List.count_cons, List.count_append, List.count_nil, ownc, ih h.1, ih2 h.2]
    simp
  | par p q ih ih2 =>
    simp only [Tm.ok, Bool.and_eq_true] at h
    simp only [Tm.pr, List.count_cons, List.count_append, List.count_nil, ownc, ih h.1, ih2 h.2]
    simp
def sumc (l : List Tm) : Nat := (l.map ownc).sum
theorem sumc_perm {l m : List Tm} (h : l.Perm m) : sumc l = sumc m := by
  unfold sumc; induction h with
  | nil => rfl
  | cons a _ ih => simp [ih]
  | swap a b l => simp; omega
  | trans _ _ ih ih2 => rw [ih, ih2]
theorem sumc_srt (l : List Tm) : sumc (srtT l) = sumc l := sumc_perm (List.mergeSort_perm _ _)
theorem ownc_joinS : ∀ l : List Tm, ownc (joinR .sum l) = sumc l := by
  intro l; induction l with
  | nil => rfl
  | cons a l ih =>
    cases l with
    | nil => simp [joinR, sumc]
    | cons b l => simp only [joinR, ownc, ih]; simp [sumc]
theorem ownc_joinP : ∀ l : List Tm, ownc (joinR .par l) = sumc l := by
  intro l; induction l with
  | nil => rfl
  | cons a l ih =>
    cases l with
    | nil => simp [joinR, sumc]
    | cons b l => simp only [joinR, ownc, ih]; simp [sumc]
theorem ownc_wrap (t : Tm) : ∀ ls : List UInt8, ownc (wrapO ls t) = ls.length + ownc t := by
  intro ls; induction ls with
  | nil => simp [wrapO]
  | cons a ls ih => show ownc (.own a (wrapO ls t)) = _; simp only [ownc, ih, List.length_cons]; omega
theorem ownc_lvl (s : Tm) : ownc s = (lvl s).1.length + sumc (lvl s).2 := by
  induction s with
  | nil => rfl
  | own x p ih => simp only [lvl, ownc, ih, List.length_cons]; omega
  | par p q ih ih2 => simp only [lvl, ownc, ih, ih2, List.length_append]; simp [sumc]; omega
  | _ => simp [lvl, sumc]
theorem ownc_smds (s : Tm) : sumc (smds s) = ownc s := by
  induction s with
  | sum p q ih ih2 => simp only [smds, ownc, ← ih, ← ih2]; simp [sumc]
  | _ => simp [smds, sumc]
theorem sumc_map {f : Tm → Tm} : ∀ l : List Tm, (∀ t ∈ l, ownc (f t) = ownc t) → sumc (l.map f) = sumc l := by
  intro l; induction l with
  | nil => intro _; rfl
  | cons a l ih =>
    intro h
    have h1 := h a (by simp)
    have h2 := ih fun t ht => h t (by simp [ht])
    unfold sumc at *
    simp only [List.map_cons, List.sum_cons, h1, h2]
/-- The process has a level with at least one thread. -/
theorem lvl_size (s : Tm) : (∀ T ∈ (lvl s).2, T.size ≤ s.size) := by
  induction s with
  | own x p ih => intro T hT; have := ih T hT; simp only [Tm.size]; omega
  | par p q ih ih2 =>
    intro T hT
    simp only [lvl, List.mem_append] at hT
    simp only [Tm.size]
    rcases hT with hT | hT
    · have := ih T hT; omega
    · have := ih2 T hT; omega
  | nil => intro T hT; simp [lvl] at hT
  | _ => intro T hT; simp only [lvl, List.mem_singleton] at hT; rw [hT]; exact Nat.le_refl _
theorem smds_size (s : Tm) : ∀ q ∈ smds s, q.size ≤ s.size := by
  induction s with
  | sum p q ih ih2 =>
    intro T hT
    simp only [smds, List.mem_append] at hT
    simp only [Tm.size]
    rcases hT with hT | hT
    · have := ih T hT; omega
    · have := ih2 T hT; omega
  | _ => intro T hT; simp only [smds, List.mem_singleton] at hT; rw [hT]; exact Nat.le_refl _
theorem lvl_kind (s : Tm) : ∀ T ∈ (lvl s).2, (∀ p q, T ≠ .par p q) ∧ (∀ x p, T ≠ .own x p) ∧ T ≠ .nil := by
  induction s with
  | own x p ih => exact ih
  | par p q ih ih2 =>
    intro T hT
    simp only [lvl, List.mem_append] at hT
    exact hT.elim (ih T) (ih2 T)
  | nil => intro T hT; simp [lvl] at hT
  | _ => intro T hT; simp only [lvl, List.mem_singleton] at hT; rw [hT]; exact ⟨by intros; simp, by intros; simp, by simp⟩
/-- The simplified process has threads wherever it has names at a front. -/
def Full (s : Tm) : Prop := (lvl s).2 = [] → (lvl s).1 = []

end Go.Proofs.Ytpahhlcfbmmocab.T1
