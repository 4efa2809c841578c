/- Processes alike by names: plain lemmas. -/
import Derived.Test.YtpahhlcfbmmocabCn
namespace Go.Proofs.Ytpahhlcfbmmocab.T1
set_option linter.unusedVariables false

theorem can_len (t : Tm) : ∀ (sc : UInt8 → UInt8) (ns : List UInt8), (can t sc ns).pr.length = t.pr.length ∧ (can t sc ns).size = t.size ∧ (can t sc ns).bnd.length = t.bnd.length := by
  induction t with
  | nil => intro sc ns; exact ⟨rfl, rfl, rfl⟩
  | rcv a x p ih => intro sc ns; have := ih (upd sc x (ns.headD 0)) ns.tail; simp only [can, Tm.pr, Tm.size, Tm.bnd, List.length_cons, this, and_self]
  | own x p ih => intro sc ns; have := ih (upd sc x (ns.headD 0)) ns.tail; simp only [can, Tm.pr, Tm.size, Tm.bnd, List.length_cons, this, and_self]
  | sum p q ih ih2 => intro sc ns; have h1 := ih sc ns; have h2 := ih2 sc (ns.drop p.bnd.length); simp [can, Tm.pr, Tm.size, Tm.bnd, h1, h2]
  | par p q ih ih2 => intro sc ns; have h1 := ih sc ns; have h2 := ih2 sc (ns.drop p.bnd.length); simp [can, Tm.pr, Tm.size, Tm.bnd, h1, h2]
  | snd a b p ih => intro sc ns; have h1 := ih sc ns; simp [can, Tm.pr, Tm.size, Tm.bnd, h1]
  | mat a b p ih => intro sc ns; have h1 := ih sc ns; simp [can, Tm.pr, Tm.size, Tm.bnd, h1]
  | tau p ih => intro sc ns; have h1 := ih sc ns; simp [can, Tm.pr, Tm.size, Tm.bnd, h1]
  | rep p ih => intro sc ns; have h1 := ih sc ns; simp [can, Tm.pr, Tm.size, Tm.bnd, h1]
theorem can_ok {nm : UInt8 → Bool} (t : Tm) : ∀ (sc : UInt8 → UInt8) (ns : List UInt8), (∀ z ∈ t.free, nm (sc z) = true) → (∀ z ∈ ns, nm z = true) → t.bnd.length ≤ ns.length → (can t sc ns).ok nm = true := by
  induction t with
  | nil => intro sc ns _ _ _; rfl
  | snd a b p ih =>
    intro sc ns h1 h2 h3
    simp only [mf_snd] at h1
    simp only [can, Tm.ok, Bool.and_eq_true]
    exact ⟨⟨h1 a (by simp), h1 b (by simp)⟩, ih sc ns (fun z hz => h1 z (by simp [hz])) h2 h3⟩
  | mat a b p ih =>
    intro sc ns h1 h2 h3
    simp only [mf_mat] at h1
    simp only [can, Tm.ok, Bool.and_eq_true]
    exact ⟨⟨h1 a (by simp), h1 b (by simp)⟩, ih sc ns (fun z hz => h1 z (by simp [hz])) h2 h3⟩
  | tau p ih => intro sc ns h1 h2 h3; simp only [mf_tau] at h1; exact ih sc ns h1 h2 h3
  | rep p ih => intro sc ns h1 h2 h3; simp only [mf_rep] at h1; exact ih sc ns h1 h2 h3
  | rcv a x p ih =>
    intro sc ns h1 h2 h3
    simp only [mf_rcv] at h1
    simp only [Tm.bnd, List.length_cons] at h3
    cases ns with
    | nil => simp at h3
    | cons n0 ns =>
      simp only [can, Tm.ok, Bool.and_eq_true, List.headD_cons, List.tail_cons]
      refine ⟨⟨h1 a (by simp), h2 n0 (by simp)⟩, ih _ ns (fun z hz => ?_) (fun z hz => h2 z (by simp [hz])) (by simpa using h3)⟩
      unfold upd; split
      · exact h2 n0 (by simp)
      · exact h1 z (.inr ⟨hz, by assumption⟩)
  | own x p ih =>
    intro sc ns h1 h2 h3
    simp only [mf_own] at h1
    simp only [Tm.bnd, List.length_cons] at h3
    cases ns with
    | nil => simp at h3
    | cons n0 ns =>
      simp only [can, Tm.ok, Bool.and_eq_true, List.headD_cons, List.tail_cons]
      refine ⟨h2 n0 (by simp), ih _ ns (fun z hz => ?_) (fun z hz => h2 z (by simp [hz])) (by simpa using h3)⟩
      unfold upd; split
      · exact h2 n0 (by simp)
      · exact h1 z ⟨hz, by assumption⟩
  | sum p q ih ih2 =>
    intro sc ns h1 h2 h3
    simp only [mf_sum] at h1
    simp only [Tm.bnd, List.length_append] at h3
    simp only [can, Tm.ok, Bool.and_eq_true]
    exact ⟨ih sc ns (fun z hz => h1 z (.inl hz)) h2 (by omega), ih2 sc _ (fun z hz => h1 z (.inr hz)) (fun z hz => h2 z (List.mem_of_mem_drop hz)) (by rw [List.length_drop]; omega)⟩
  | par p q ih ih2 =>
    intro sc ns h1 h2 h3
    simp only [mf_par] at h1
    simp only [Tm.bnd, List.length_append] at h3
    simp only [can, Tm.ok, Bool.and_eq_true]
    exact ⟨ih sc ns (fun z hz => h1 z (.inl hz)) h2 (by omega), ih2 sc _ (fun z hz => h1 z (.inr hz)) (fun z hz => h2 z (List.mem_of_mem_drop hz)) (by rw [List.length_drop]; omega)⟩

/-- Bytes from the letters on, as many as there can be signs behind them. -/
def nmB (c : UInt8) : Bool := decide (97 ≤ c.toNat) && decide (c.toNat ≤ 182)
theorem nmB_not {c : UInt8} (h : nmB c = true) : c ≠ 48 ∧ c ≠ 42 ∧ c ≠ 35 ∧ c ≠ 91 ∧ c ≠ 40 := by
  simp [nmB] at h
  refine ⟨?_, ?_, ?_, ?_, ?_⟩ <;> rintro rfl <;> simp at h
theorem pr_injB : ∀ (t t' : Tm) (r r' : List UInt8), t.ok nmB = true → t'.ok nmB = true → t.pr ++ r = t'.pr ++ r' → t = t' ∧ r = r' := by
  have hq : ∀ c, nmB c = true → c ≠ 48 ∧ c ≠ 42 ∧ c ≠ 35 ∧ c ≠ 91 ∧ c ≠ 40 := fun c h => nmB_not h
  intro t
  induction t with
  | nil =>
    intro t' r r' h h' e
    cases t' <;> simp [Tm.pr, Tm.ok] at h' e
    · exact ⟨rfl, e⟩
    · have := hq _ h'.1.1; simp_all
    · have := hq _ h'.1.1; simp_all
  | snd a b p ih =>
    intro t' r r' h h' e
    simp only [Tm.ok, Bool.and_eq_true] at h
    have ha := hq a h.1.1
    cases t' <;> simp [Tm.pr, Tm.ok] at h' e
    case snd =>
      obtain ⟨rfl, rfl, e⟩ := e
      obtain ⟨rfl, rfl⟩ := ih _ _ _ h.2 h'.2 e
      exact ⟨rfl, rfl⟩
    all_goals simp_all
  | rcv a b p ih =>
    intro t' r r' h h' e
    simp only [Tm.ok, Bool.and_eq_true] at h
    have ha := hq a h.1.1
    cases t' <;> simp [Tm.pr, Tm.ok] at h' e
    case rcv =>
      obtain ⟨rfl, rfl, e⟩ := e
      obtain ⟨rfl, rfl⟩ := ih _ _ _ h.2 h'.2 e
      exact ⟨rfl, rfl⟩
    all_goals simp_all
  | tau p ih =>
    intro t' r r' h h' e
    simp only [Tm.ok] at h
    cases t' <;> simp [Tm.pr, Tm.ok] at h' e
    case tau =>
      obtain ⟨rfl, rfl⟩ := ih _ _ _ h h' e
      exact ⟨rfl, rfl⟩
  | sum p q ihp ihq =>
    intro t' r r' h h' e
    simp only [Tm.ok, Bool.and_eq_true] at h
    cases t' <;> simp [Tm.pr, Tm.ok] at h' e
    case sum =>
      obtain ⟨rfl, e⟩ := ihp _ _ _ h.1 h'.1 e
      simp at e
      obtain ⟨rfl, e⟩ := ihq _ _ _ h.2 h'.2 e
      simp at e
      exact ⟨rfl, e⟩
    case par =>
      obtain ⟨rfl, e⟩ := ihp _ _ _ h.1 h'.1 e
      simp at e
    all_goals (have := hq _ h'.1.1; simp_all)
  | par p q ihp ihq =>
    intro t' r r' h h' e
    simp only [Tm.ok, Bool.and_eq_true] at h
    cases t' <;> simp [Tm.pr, Tm.ok] at h' e
    case par =>
      obtain ⟨rfl, e⟩ := ihp _ _ _ h.1 h'.1 e
      simp at e
      obtain ⟨rfl, e⟩ := ihq _ _ _ h.2 h'.2 e
      simp at e
      exact ⟨rfl, e⟩
    case sum =>
      obtain ⟨rfl, e⟩ := ihp _ _ _ h.1 h'.1 e
      simp at e
    all_goals (have := hq _ h'.1.1; simp_all)
  | own x p ih =>
    intro t' r r' h h' e
    simp only [Tm.ok, Bool.and_eq_true] at h
    cases t' <;> simp [Tm.pr, Tm.ok] at h' e
    case own =>
      obtain ⟨rfl, e⟩ := e
      obtain ⟨rfl, rfl⟩ := ih _ _ _ h.2 h'.2 e
      exact ⟨rfl, rfl⟩
    all_goals (have := hq _ h'.1.1; simp_all)
  | mat a b p ih =>
    intro t' r r' h h' e
    simp only [Tm.ok, Bool.and_eq_true] at h
    cases t' <;> simp [Tm.pr, Tm.ok] at h' e
    case mat =>
      obtain ⟨rfl, rfl, e⟩ := e
      obtain ⟨rfl, rfl⟩ := ih _ _ _ h.2 h'.2 e
      exact ⟨rfl, rfl⟩
    all_goals (have := hq _ h'.1.1; simp_all)
  | rep p ih =>
    intro t' r r' h h' e
    simp only [Tm.ok] at h
    cases t' <;> simp [Tm.pr, Tm.ok] at h' e
    case rep =>
      obtain ⟨rfl, rfl⟩ := ih _ _ _ h h' e
      exact ⟨rfl, rfl⟩
    all_goals (have := hq _ h'.1.1; simp_all)

/-- Bound by the same sign, or free and the same. -/
def sameP : UInt8 → UInt8 → List UInt8 → List UInt8 → Bool
  | a, b, x :: l, y :: r => if x = a ∨ y = b then decide (x = a) && decide (y = b) else sameP a b l r
  | a, b, _, _ => decide (a = b)
/-- Alike by names, with the names that signs around them bind. -/
def alp : Tm → Tm → List UInt8 → List UInt8 → Bool
  | .nil, .nil, _, _ => true
  | .snd a b p, .snd c d q, l, r => sameP a c l r && sameP b d l r && alp p q l r
  | .rcv a x p, .rcv c y q, l, r => sameP a c l r && alp p q (x :: l) (y :: r)
  | .tau p, .tau q, l, r => alp p q l r
  | .sum p p2, .sum q q2, l, r => alp p q l r && alp p2 q2 l r
  | .par p p2, .par q q2, l, r => alp p q l r && alp p2 q2 l r
  | .own x p, .own y q, l, r => alp p q (x :: l) (y :: r)
  | .mat a b p, .mat c d q, l, r => sameP a c l r && sameP b d l r && alp p q l r
  | .rep p, .rep q, l, r => alp p q l r
  | _, _, _, _ => false
/-- The mark that stands for a name. -/
def lk : List UInt8 → List UInt8 → UInt8 → UInt8
  | x :: l, m :: ms, z => if z = x then m else lk l ms z
  | _, _, z => z
theorem upd_lk (l ms : List UInt8) (x m : UInt8) : upd (lk l ms) x m = lk (x :: l) (m :: ms) := by funext z; rfl
theorem lk_or (l : List UInt8) : ∀ (ms : List UInt8) (z : UInt8), lk l ms z ∈ ms ∨ lk l ms z = z := by
  induction l with
  | nil => intro ms z; exact .inr rfl
  | cons x l ih =>
    intro ms z
    cases ms with
    | nil => exact .inr rfl
    | cons m ms =>
      unfold lk; split
      · exact .inl (by simp)
      · rcases ih ms z with h | h
        · exact .inl (by simp [h])
        · exact .inr h
/-- Marks, each once, none of them a letter. -/
structure Mk (ms ns : List UInt8) : Prop where
  nd : (ms ++ ns).Nodup
  hi : ∀ z ∈ ms ++ ns, 123 ≤ z.toNat
theorem sameP_lk (a b : UInt8) (ha : a.toNat ≤ 122) (hb : b.toNat ≤ 122) (l : List UInt8) : ∀ (r ms ns : List UInt8), l.length = ms.length → r.length = ms.length → Mk ms ns → sameP a b l r = decide (lk l ms a = lk r ms b) := by
  induction l with
  | nil =>
    intro r ms ns h1 h2 hk
    cases ms with
    | nil => cases r with
      | nil => rfl
      | cons y r => simp at h2
    | cons m ms => simp at h1
  | cons x l ih =>
    intro r ms ns h1 h2 hk
    cases ms with
    | nil => simp at h1
    | cons m ms =>
      cases r with
      | nil => simp at h2
      | cons y r =>
        have hk' : Mk ms ns := ⟨(List.nodup_cons.1 hk.nd).2, fun z hz => hk.hi z (List.mem_cons_of_mem _ hz)⟩
        have hm := hk.hi m (by simp)
        have hnm : m ∉ ms := fun h => (List.nodup_cons.1 hk.nd).1 (by simp [h])
        have key : ∀ (l : List UInt8) (z : UInt8), z.toNat ≤ 122 → lk l ms z ≠ m := fun l z hz e => by
          rcases lk_or l ms z with h | h
          · rw [e] at h; exact hnm h
          · rw [h] at e; rw [e] at hz; omega
        have := ih r ms ns (by simpa using h1) (by simpa using h2) hk'
        have k1 := key l a ha
        have k2 := key r b hb
        unfold sameP lk
        by_cases e1 : x = a <;> by_cases e2 : y = b
        · simp [e1, e2]
        · rw [if_pos (.inl e1), if_pos e1.symm, if_neg (fun h => e2 h.symm)]; simp [e2]; exact fun h => k2 h.symm
        · rw [if_pos (.inr e2), if_neg (fun h => e1 h.symm), if_pos e2.symm]; simp [e1]; exact k1
        · rw [if_neg (by simp [e1, e2]), if_neg (fun h => e1 h.symm), if_neg (fun h => e2 h.symm)]; exact this
theorem mk_bind {ms ns : List UInt8} {n0 : UInt8} (h : Mk ms (n0 :: ns)) : Mk (n0 :: ms) ns := by
  refine ⟨?_, fun z hz => h.hi z (by grind)⟩
  have h1 := h.nd
  rw [List.nodup_append] at h1
  show ((n0 :: ms) ++ ns).Nodup
  rw [List.nodup_append]
  have h2 := List.nodup_cons.1 h1.2.1
  refine ⟨List.nodup_cons.2 ⟨fun hm => h1.2.2 _ hm _ (by simp) rfl, h1.1⟩, h2.2, fun a ha b hb e => ?_⟩
  rcases List.mem_cons.1 ha with h3 | h3
  · subst h3; subst e; exact h2.1 hb
  · exact h1.2.2 a h3 b (by simp [hb]) e
theorem mk_drop {ms ns : List UInt8} (h : Mk ms ns) (k : Nat) : Mk ms (ns.drop k) := by
  refine ⟨?_, fun z hz => h.hi z (by
    rcases List.mem_append.1 hz with h1 | h1
    · simp [h1]
    · simp [List.mem_of_mem_drop h1])⟩
  exact List.Nodup.sublist (List.Sublist.append (List.Sublist.refl _) (List.drop_sublist _ _)) h.nd
theorem alp_can (t : Tm) : ∀ (u : Tm) (l r ms ns : List UInt8), t.ok nmL = true → u.ok nmL = true → l.length = ms.length → r.length = ms.length → Mk ms ns → t.bnd.length ≤ ns.length →
    alp t u l r = decide (can t (lk l ms) ns = can u (lk r ms) ns) := by
  have le : ∀ c, nmL c = true → c.toNat ≤ 122 := fun c h => ((nmL_iff c).1 h).2
  induction t with
  | nil => intro u l r ms ns _ _ _ _ _ _; cases u <;> simp [alp, can]
  | snd a b p ih =>
    intro u l r ms ns ho hu hl hr hk hb
    cases u with
    | snd c d q =>
      simp only [Tm.ok, Bool.and_eq_true] at ho hu
      simp only [alp, can]
      rw [sameP_lk a c (le _ ho.1.1) (le _ hu.1.1) l r ms ns hl hr hk, sameP_lk b d (le _ ho.1.2) (le _ hu.1.2) l r ms ns hl hr hk, ih q l r ms ns ho.2 hu.2 hl hr hk hb, Bool.eq_iff_iff]; simp only [Bool.and_eq_true, decide_eq_true_iff, Tm.snd.injEq, and_assoc]
    | _ => simp [alp, can]
  | mat a b p ih =>
    intro u l r ms ns ho hu hl hr hk hb
    cases u with
    | mat c d q =>
      simp only [Tm.ok, Bool.and_eq_true] at ho hu
      simp only [alp, can]
      rw [sameP_lk a c (le _ ho.1.1) (le _ hu.1.1) l r ms ns hl hr hk, sameP_lk b d (le _ ho.1.2) (le _ hu.1.2) l r ms ns hl hr hk, ih q l r ms ns ho.2 hu.2 hl hr hk hb, Bool.eq_iff_iff]; simp only [Bool.and_eq_true, decide_eq_true_iff, Tm.mat.injEq, and_assoc]
    | _ => simp [alp, can]
  | tau p ih =>
    intro u l r ms ns ho hu hl hr hk hb
    cases u with
    | tau q => simp only [Tm.ok] at ho hu; simp only [alp, can, Tm.tau.injEq]; exact ih q l r ms ns ho hu hl hr hk hb
    | _ => simp [alp, can]
  | rep p ih =>
    intro u l r ms ns ho hu hl hr hk hb
    cases u with
    | rep q => simp only [Tm.ok] at ho hu; simp only [alp, can, Tm.rep.injEq]; exact ih q l r ms ns ho hu hl hr hk hb
    | _ => simp [alp, can]
  | rcv a x p ih =>
    intro u l r ms ns ho hu hl hr hk hb
    cases u with
    | rcv c y q =>
      simp only [Tm.ok, Bool.and_eq_true] at ho hu
      simp only [Tm.bnd, List.length_cons] at hb
      cases ns with
      | nil => simp at hb
      | cons n0 ns =>
        simp only [alp, can, List.headD_cons, List.tail_cons, upd_lk]
        rw [sameP_lk a c (le _ ho.1.1) (le _ hu.1.1) l r ms _ hl hr hk, ih q (x :: l) (y :: r) (n0 :: ms) ns ho.2 hu.2 (by simp [hl]) (by simp [hr]) (mk_bind hk) (by simpa using hb), Bool.eq_iff_iff]; simp only [Bool.and_eq_true, decide_eq_true_iff, Tm.rcv.injEq, true_and]
    | _ => simp [alp, can]
  | own x p ih =>
    intro u l r ms ns ho hu hl hr hk hb
    cases u with
    | own y q =>
      simp only [Tm.ok, Bool.and_eq_true] at ho hu
      simp only [Tm.bnd, List.length_cons] at hb
      cases ns with
      | nil => simp at hb
      | cons n0 ns =>
        simp only [alp, can, List.headD_cons, List.tail_cons, upd_lk]
        rw [ih q (x :: l) (y :: r) (n0 :: ms) ns ho.2 hu.2 (by simp [hl]) (by simp [hr]) (mk_bind hk) (by simpa using hb)]
        simp
    | _ => simp [alp, can]
  | sum p p2 ih ih2 =>
    intro u l r ms ns ho hu hl hr hk hb
    cases u with
    | sum q q2 =>
      simp only [Tm.ok, Bool.and_eq_true] at ho hu
      simp only [Tm.bnd, List.length_append] at hb
      simp only [alp, can]
      rw [ih q l r ms ns ho.1 hu.1 hl hr hk (by omega), ih2 q2 l r ms (ns.drop p.bnd.length) ho.2 hu.2 hl hr (mk_drop hk _) (by rw [List.length_drop]; omega), Bool.eq_iff_iff]
      simp only [Bool.and_eq_true, decide_eq_true_iff, Tm.sum.injEq]
      refine and_congr_right fun h => ?_
      have h1 := (can_len p (lk l ms) ns).2.2
      have h2 := (can_len q (lk r ms) ns).2.2
      rw [h] at h1
      rw [show p.bnd.length = q.bnd.length by omega]
    | _ => simp [alp, can]
  | par p p2 ih ih2 =>
    intro u l r ms ns ho hu hl hr hk hb
    cases u with
    | par q q2 =>
      simp only [Tm.ok, Bool.and_eq_true] at ho hu
      simp only [Tm.bnd, List.length_append] at hb
      simp only [alp, can]
      rw [ih q l r ms ns ho.1 hu.1 hl hr hk (by omega), ih2 q2 l r ms (ns.drop p.bnd.length) ho.2 hu.2 hl hr (mk_drop hk _) (by rw [List.length_drop]; omega), Bool.eq_iff_iff]
      simp only [Bool.and_eq_true, decide_eq_true_iff, Tm.par.injEq]
      refine and_congr_right fun h => ?_
      have h1 := (can_len p (lk l ms) ns).2.2
      have h2 := (can_len q (lk r ms) ns).2.2
      rw [h] at h1
      rw [show p.bnd.length = q.bnd.length by omega]
    | _ => simp [alp, can]

/-- The marks behind the letters. -/
def marks : List UInt8 := (List.range 60).map fun i => UInt8.ofNat (123 + i)
theorem marks_mk : Mk [] marks := ⟨by unfold marks; decide +kernel, by unfold marks; decide +kernel⟩
theorem marks_len : marks.length = 60 := by unfold marks; simp
theorem marks_ok : ∀ z ∈ marks, nmB z = true := by unfold marks; decide +kernel
/-- The texts with marks for the names that are bound tell whether two processes are alike by names. -/
theorem alp_iff (t u : Tm) (ht : t.ok nmL = true) (hu : u.ok nmL = true) (h1 : t.bnd.length ≤ 60) (h2 : u.bnd.length ≤ 60) : alp t u [] [] = decide ((can t id marks).pr = (can u id marks).pr) := by
  rw [alp_can t u [] [] [] marks ht hu rfl rfl marks_mk (by rw [marks_len]; exact h1)]
  rw [Bool.eq_iff_iff, decide_eq_true_iff, decide_eq_true_iff]
  have hid : lk [] [] = id := by funext z; rfl
  rw [hid]
  constructor
  · intro h; rw [h]
  · intro h
    have okf : ∀ (t : Tm), t.ok nmL = true → t.bnd.length ≤ 60 → (can t id marks).ok nmB = true := fun t ht h1 =>
      can_ok t id marks (fun z hz => by have := lets_free t ht z hz; simp [nmB]; omega) marks_ok (by rw [marks_len]; exact h1)
    exact (pr_injB _ _ [] [] (okf t ht h1) (okf u hu h2) (by rw [h])).1

end Go.Proofs.Ytpahhlcfbmmocab.T1
