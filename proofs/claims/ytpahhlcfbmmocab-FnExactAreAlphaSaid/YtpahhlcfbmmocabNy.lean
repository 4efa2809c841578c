/- Congruence, plain: the specification's normal form is the one made out of the simplified process, where letters are enough; where they are not, it is none. -/
import Derived.Test.YtpahhlcfbmmocabNx
namespace Go.Proofs.Ytpahhlcfbmmocab.T1
set_option linter.unusedVariables false

theorem lvl_perm (s : Tm) : s.bnd.Perm ((lvl s).1 ++ (lvl s).2.flatMap Tm.bnd) := by
  induction s with
  | nil => simp [Tm.bnd, lvl]
  | own x p ih => simp only [Tm.bnd, lvl, List.cons_append]; exact ih.cons x
  | par p q ih ih2 =>
    simp only [Tm.bnd, lvl, List.flatMap_append]
    refine (ih.append ih2).trans ?_
    rw [List.append_assoc, List.append_assoc]
    refine List.Perm.append_left _ ?_
    rw [← List.append_assoc, ← List.append_assoc]
    exact List.Perm.append_right _ List.perm_append_comm
  | _ => simp [Tm.bnd, lvl]
theorem lvl_nd {s : Tm} (h : s.bnd.Nodup) : (lvl s).1.Nodup ∧ (∀ T ∈ (lvl s).2, T.bnd.Nodup) ∧ ∀ z ∈ (lvl s).1, ∀ T ∈ (lvl s).2, z ∉ T.bnd := by
  have h := (lvl_perm s).nodup_iff.1 h
  rw [List.nodup_append] at h
  refine ⟨h.1, fun T hT => ?_, fun z hz T hT hz2 => h.2.2 z hz z (List.mem_flatMap.2 ⟨T, hT, hz2⟩) rfl⟩
  have := h.2.1
  unfold List.Nodup at this ⊢
  rw [List.pairwise_flatMap] at this
  exact this.1 T hT
theorem Thr_R {t : Tm} {o m : UInt8} (h : Thr t) (hm : m ∉ t.usd) : Thr (R t o m) := by
  by_cases hs : o = m ∨ o ∉ t.free
  · rw [R_same _ _ _ hs]; exact h
  · obtain ⟨h1, h2, h3, h4⟩ := h
    cases t with
    | nil => simp [Tm.dead] at h1
    | snd a b p => rw [R_snd hs]; exact ⟨rfl, trivial, by intros; simp, by intros; simp⟩
    | rcv a x p => rw [R_rcv hs]; exact ⟨rfl, trivial, by intros; simp, by intros; simp⟩
    | tau p => rw [R_tau hs]; exact ⟨rfl, trivial, by intros; simp, by intros; simp⟩
    | sum p q =>
      have := R_dead (.sum p q) o m
      rw [R_sum hs] at this ⊢
      exact ⟨this.trans h1, ⟨by rw [R_dead]; exact h2.1, by rw [R_dead]; exact h2.2⟩, by intros; simp, by intros; simp⟩
    | par p q => exact absurd rfl (h3 p q)
    | own x p => exact absurd rfl (h4 x p)
    | mat a b p =>
      have := R_dead (.mat a b p) o m
      rw [R_mat hs] at this ⊢
      refine ⟨this.trans h1, ?_, by intros; simp, by intros; simp⟩
      have hd : p.dead = false := h1
      have hne : a ≠ b := h2
      rw [mu_mat] at hm
      show sw a o m ≠ sw b o m
      unfold sw; grind
    | rep p =>
      have := R_dead (.rep p) o m
      rw [R_rep hs] at this ⊢
      exact ⟨this.trans h1, trivial, by intros; simp, by intros; simp⟩

theorem nd_inj {l : List UInt8} (h : l.Nodup) {i j : Nat} (hi : i < l.length) (hj : j < l.length) (e : l[i] = l[j]) : i = j := by
  unfold List.Nodup at h
  rw [List.pairwise_iff_getElem] at h
  rcases Nat.lt_trichotomy i j with h1 | h1 | h1
  · exact absurd e (h i j hi hj h1)
  · exact h1
  · exact absurd e.symm (h j i hj hi h1)
theorem nmG_nil (T : Tm) : nmG [] [] T = T := rfl
theorem nmG_ok : ∀ (o : List Nat) (ls : List UInt8) (T : Tm) (X : UInt8 → UInt8 → Prop) (L : UInt8 → UInt8) (G : List UInt8) (A V : UInt8 → Prop) (s' : Tm),
    o.length = ls.length → o.Nodup → ls.Nodup → G.Nodup → G.length ≤ 89 → (∀ i ∈ o, i < G.length) → (∀ l ∈ ls, ¬ great l ∧ A l) →
    FitX T → (Fit T ∨ o = []) → Thr T → Sm T X s' →
    (∀ u v, X u v → V v ∧ ((∃ i, i ∈ o ∧ u = gl i ∧ v = G.getD i 0) ∨ (u = L v ∧ A u ∧ u ∉ ls ∧ ¬ great u ∧ ∀ i ∈ o, v ≠ G.getD i 0))) →
    Sm (nmG o ls T) (fun u v => u = updL L (o.map fun i => G.getD i 0) ls v ∧ V v ∧ A u) s' ∧ FitX (nmG o ls T) ∧ Thr (nmG o ls T) ∧ (nmG o ls T).size = T.size ∧
    ∀ z, (z ∈ (nmG o ls T).free ∨ z ∈ (nmG o ls T).bnd) → (z ∈ T.free ∧ ∀ i ∈ o, z ≠ gl i) ∨ z ∈ T.bnd ∨ ¬ great z := by
  intro o
  induction o with
  | nil =>
    intro ls T X L G A V s' hlen _ _ _ _ _ _ hX _ hT hS hE
    cases ls with
    | cons l ls => simp at hlen
    | nil =>
      refine ⟨Sm_mono T X _ s' (fun u v _ he => ?_) hS, hX, hT, rfl, fun z hz => ?_⟩
      · obtain ⟨h1, h2⟩ := hE u v he
        rcases h2 with ⟨i, hi, _⟩ | ⟨h2, h3, _⟩
        · simp at hi
        · exact ⟨h2, h1, h3⟩
      · exact hz.imp (fun h => ⟨h, fun i hi => by simp at hi⟩) .inl
  | cons i o ih =>
    intro ls T X L G A V s' hlen ho hls hG hGl hio hl hX hF hT hS hE
    cases ls with
    | nil => simp at hlen
    | cons l ls =>
      have hF : Fit T := hF.resolve_right (by simp)
      simp only [List.length_cons, Nat.add_right_cancel_iff] at hlen
      rw [List.nodup_cons] at ho hls
      have hig : i < G.length := hio i (by simp)
      have hgl : gl i ≠ l := fun e => (hl l (by simp)).1 (e ▸ gl_great (by omega))
      have hlu : l ∉ T.usd := fun hu => by
        obtain ⟨v, _, e⟩ := Sm_use T X s' hS l hu
        rcases (hE l v e).2 with ⟨j, hj, e, _⟩ | ⟨_, _, e, _⟩
        · exact (hl l (by simp)).1 (e ▸ gl_great (by have := hio j hj; omega))
        · exact e (by simp)
      have hS1 := Sm_R _ T (gl i) l X s' (Nat.le_refl _) (fit_roomy hF _ _) hgl hlu hS
      have hF1 := fit_R hF (gl i) l
      have hinj : ∀ j, j ∈ o → G.getD j 0 ≠ G.getD i 0 := fun j hj e => by
        have hj2 : j < G.length := hio j (by simp [hj])
        rw [List.getD_eq_getElem?_getD, List.getD_eq_getElem?_getD, List.getElem?_eq_getElem hj2, List.getElem?_eq_getElem hig] at e
        exact ho.1 (nd_inj hG hj2 hig (by simpa using e) ▸ hj)
      obtain ⟨a1, a2, a3, a4, a5⟩ := ih ls (R T (gl i) l) _ (upd L (G.getD i 0) l) G A V s' hlen ho.2 hls.2 hG hGl (fun j hj => hio j (by simp [hj])) (fun z hz => hl z (by simp [hz])) (.inl hF1) (.inl hF1) (Thr_R hT hlu) hS1 (fun u v he => by
        rcases he with ⟨e1, he⟩ | ⟨d1, d2, he⟩
        · obtain ⟨h1, h2⟩ := hE _ v he
          refine ⟨h1, .inr ?_⟩
          rcases h2 with ⟨j, hj, e, ev⟩ | ⟨_, _, _, e, _⟩
          · have : i = j := gl_inj (by omega) (by have := hio j hj; omega) e
            subst this
            refine ⟨by unfold upd; rw [if_pos ev]; exact e1, e1 ▸ (hl l (by simp)).2, e1 ▸ hls.1, e1 ▸ (hl l (by simp)).1, fun j hj => ?_⟩
            rw [ev]; exact (hinj j hj).symm
          · exact absurd (gl_great (by omega)) e
        · obtain ⟨h1, h2⟩ := hE u v he
          refine ⟨h1, ?_⟩
          rcases h2 with ⟨j, hj, e, ev⟩ | ⟨e1, e2, e3, e4, e5⟩
          · rcases List.mem_cons.1 hj with hj | hj
            · exact absurd (hj ▸ e) d2
            · exact .inl ⟨j, hj, e, ev⟩
          · refine .inr ⟨?_, e2, fun h => e3 (by simp [h]), e4, fun j hj => e5 j (by simp [hj])⟩
            unfold upd; rw [if_neg (e5 i (by simp))]; exact e1)
      refine ⟨a1, a2, a3, by rw [← R_size T (gl i) l]; exact a4, fun z hz => ?_⟩
      rcases a5 z hz with ⟨h1, h2⟩ | h | h
      · have := (R_free _ T (gl i) l (Nat.le_refl _) (fit_roomy hF _ _) hgl z).1 h1
        rcases this with ⟨f1, f2⟩ | ⟨f1, _⟩
        · exact .inl ⟨f1, fun j hj => by
            rcases List.mem_cons.1 hj with hj | hj
            · exact hj ▸ f2
            · exact h2 j hj⟩
        · exact .inr (.inr (f1 ▸ (hl l (by simp)).1))
      · rcases R_bnds _ T (gl i) l (Nat.le_refl _) z h with h | h
        · exact .inr (.inl h)
        · exact .inr (.inr h)
      · exact .inr (.inr h)

/-- How a process, its simplified one and their names hang together. -/
structure Cx (t : Tm) (E : UInt8 → UInt8 → Prop) (s : Tm) (L : UInt8 → UInt8) (tk : List UInt8) : Prop where
  sm : Sm t E s
  ng : ∀ z, z ∈ t.free ∨ z ∈ t.bnd → ¬ great z
  nd : s.bnd.Nodup
  rel : ∀ u v, E u v → u = L v ∧ v ∉ s.bnd ∧ u ∈ tk ∧ ¬ great u
  sz : t.size ≤ 121
/-- The specification's answer: the normal form where letters are enough, else none. -/
def Good (r : Tm × Bool) (b : Bool) (m : Tm) : Prop := (b = true → r = (m, false)) ∧ (b = false → r.2 = true ∨ r.1.ok nmL = false)
theorem goodY {r : Tm × Bool} {b : Bool} {m : Tm} (h : Good r b m) (hb : b = true) : r = (m, false) := h.1 hb
def LvlH (n : Nat) (once : Bool) : Prop := ∀ t tk s E L, t.size ≤ n → FitT t → Cx t E s L tk → Good (whl n once t tk) (fl s (othL tk).length) (mid n once L (othL tk) s)

theorem smds_fl (s : Tm) (k : Nat) : (fl s k = true → ∀ q ∈ smds s, fl q k = true) ∧ (fl s k = false → ∃ q, q ∈ smds s ∧ fl q k = false) := by
  induction s with
  | sum p q ih ih2 =>
    have e : fl (.sum p q) k = (fl p k && fl q k) := by unfold fl; simp [fcnt, lvl, tf] <;> rfl
    simp only [smds]
    rw [e]
    constructor
    · intro h z hz
      rw [Bool.and_eq_true] at h
      rcases List.mem_append.1 hz with hz | hz
      · exact ih.1 h.1 z hz
      · exact ih2.1 h.2 z hz
    · intro h
      rw [Bool.and_eq_false_iff] at h
      rcases h with h | h
      · obtain ⟨z, hz, e⟩ := ih.2 h; exact ⟨z, List.mem_append_left _ hz, e⟩
      · obtain ⟨z, hz, e⟩ := ih2.2 h; exact ⟨z, List.mem_append_right _ hz, e⟩
  | _ => exact ⟨fun h z hz => by simp only [smds, List.mem_singleton] at hz; rw [hz]; exact h, fun h => ⟨_, by simp only [smds, List.mem_singleton], h⟩⟩
theorem smds_nd {s : Tm} (h : s.bnd.Nodup) : ∀ q ∈ smds s, q.bnd.Nodup ∧ ∀ z, z ∈ q.bnd → z ∈ s.bnd := by
  induction s with
  | sum p q ih ih2 =>
    intro z hz
    have h' : (p.bnd ++ q.bnd).Nodup := h
    rw [List.nodup_append] at h'
    simp only [smds] at hz
    rcases List.mem_append.1 hz with hz | hz
    · exact ⟨(ih h'.1 z hz).1, fun y hy => by simp only [Tm.bnd, List.mem_append]; exact .inl ((ih h'.1 z hz).2 y hy)⟩
    · exact ⟨(ih2 h'.2.1 z hz).1, fun y hy => by simp only [Tm.bnd, List.mem_append]; exact .inr ((ih2 h'.2.1 z hz).2 y hy)⟩
  | _ => intro z hz; simp only [smds, List.mem_singleton] at hz; rw [hz]; exact ⟨h, fun _ h => h⟩
/-- The parts of a sum, one by one. -/
theorem sums_Sm (n : Nat) : ∀ (t : Tm) (E : UInt8 → UInt8 → Prop) (s : Tm), t.size ≤ n → t.dead = false → Sm t E s → Fit t →
    All2 (fun q q' => Sm q E q' ∧ Fit q ∧ q.size ≤ t.size ∧ ∀ z, z ∈ q.free ∨ z ∈ q.bnd → z ∈ t.free ∨ z ∈ t.bnd) (Tm.sums n t) (smds s) := by
  induction n with
  | zero => intro t E s h; have := size_pos t; omega
  | succ n ih =>
    intro t E s hn hd hS hf
    have hps := peel_sub t
    have hSp := Sm_peel t E s hS
    have hpf := peel_form t
    have hd' := peel_dead t
    have hnm := peel_names t
    have hfp := fit_peel t hf
    unfold Tm.sums
    generalize hu : t.peel = u at *
    rw [hd] at hd'
    cases u with
    | sum p q =>
      have h' := hSp; unfold Sm at h'; rw [if_neg (by rw [hpf.1]; simp), if_neg (by rw [hpf.2]; simp)] at h'
      obtain ⟨p', q', rfl, h1, h2⟩ := h'
      have hsz : p.size + q.size + 1 ≤ t.size := hps.2.2.1
      simp only [smds]
      refine .append ((ih p E p' (by omega) hpf.1 h1 (fitX_sum (.inl hfp)).1).mono fun a b _ _ h => ?_) ((ih q E q' (by omega) hpf.2 h2 (fitX_sum (.inl hfp)).2).mono fun a b _ _ h => ?_)
      · exact ⟨h.1, h.2.1, by omega, fun z hz => hnm z (by rw [mf_sum]; simp only [Tm.bnd, List.mem_append]; have := h.2.2.2 z hz; grind)⟩
      · exact ⟨h.1, h.2.1, by omega, fun z hz => hnm z (by rw [mf_sum]; simp only [Tm.bnd, List.mem_append]; have := h.2.2.2 z hz; grind)⟩
    | nil => simp [Tm.dead] at hd'
    | snd a b p => obtain ⟨a', b', p', rfl, _⟩ := id hSp; exact .cons ⟨hSp, hfp, hps.2.2.1, hnm⟩ .nil
    | rcv a x p => obtain ⟨a', x', p', rfl, _⟩ := id hSp; exact .cons ⟨hSp, hfp, hps.2.2.1, hnm⟩ .nil
    | tau p => obtain ⟨p', rfl, _⟩ := id hSp; exact .cons ⟨hSp, hfp, hps.2.2.1, hnm⟩ .nil
    | par p q =>
      have h' := hSp; unfold Sm at h'; rw [if_neg (by rw [hpf.1]; simp), if_neg (by rw [hpf.2]; simp)] at h'
      obtain ⟨p', q', rfl, h1, h2⟩ := h'
      simp only [hd', Bool.false_eq_true, if_false]
      exact .cons ⟨hSp, hfp, hps.2.2.1, hnm⟩ .nil
    | own x p =>
      have h' := hSp; unfold Sm at h'; rw [if_pos (show x ∈ p.usd from hpf)] at h'
      obtain ⟨x', p', rfl, h1⟩ := h'
      simp only [hd', Bool.false_eq_true, if_false]
      exact .cons ⟨hSp, hfp, hps.2.2.1, hnm⟩ .nil
    | mat a b p =>
      have h' := hSp; unfold Sm at h'; rw [if_neg hpf, if_neg (show ¬ p.dead = true by rw [show p.dead = false from hd']; simp)] at h'
      obtain ⟨a', b', p', rfl, _⟩ := h'
      simp only [hd', Bool.false_eq_true, if_false]
      exact .cons ⟨hSp, hfp, hps.2.2.1, hnm⟩ .nil
    | rep p =>
      have h' := hSp; unfold Sm at h'; rw [if_neg (show ¬ p.dead = true by rw [show p.dead = false from hd']; simp)] at h'
      obtain ⟨p', rfl, _⟩ := h'
      simp only [hd', Bool.false_eq_true, if_false]
      exact .cons ⟨hSp, hfp, hps.2.2.1, hnm⟩ .nil

theorem All2.ex {α β : Type} {P : α → β → Prop} {l : List α} {m : List β} (h : All2 P l m) : ∀ b ∈ m, ∃ a ∈ l, P a b := by
  induction h with
  | nil => intro b hb; simp at hb
  | cons p _ ih =>
    intro b hb
    rcases List.mem_cons.1 hb with rfl | hb
    · exact ⟨_, by simp, p⟩
    · obtain ⟨a, ha, e⟩ := ih b hb; exact ⟨a, by simp [ha], e⟩
theorem All2.ex' {α β : Type} {P : α → β → Prop} {l : List α} {m : List β} (h : All2 P l m) : ∀ a ∈ l, ∃ b ∈ m, P a b := by
  induction h with
  | nil => intro b hb; simp at hb
  | cons p _ ih =>
    intro b hb
    rcases List.mem_cons.1 hb with rfl | hb
    · exact ⟨_, by simp, p⟩
    · obtain ⟨a, ha, e⟩ := ih b hb; exact ⟨a, by simp [ha], e⟩
theorem All2.map_eq {α β γ : Type} {f : α → γ} {g : β → γ} {l : List α} {m : List β} (h : All2 (fun a b => f a = g b) l m) : l.map f = m.map g := by
  induction h with
  | nil => rfl
  | cons p _ ih => simp [p, ih]
theorem mem_srtT (l : List Tm) (t : Tm) : t ∈ srtT l ↔ t ∈ l := List.mem_mergeSort
theorem joinR_okS {nm : UInt8 → Bool} : ∀ l : List Tm, (joinR .sum l).ok nm = true → ∀ t ∈ l, t.ok nm = true := by
  intro l; induction l with
  | nil => intro _ t ht; simp at ht
  | cons a l ih =>
    cases l with
    | nil => intro h t ht; rw [List.mem_singleton.1 ht]; exact h
    | cons b l =>
      intro h t ht
      simp only [joinR, Tm.ok, Bool.and_eq_true] at h
      rcases List.mem_cons.1 ht with rfl | ht
      · exact h.1
      · exact ih h.2 t ht
theorem joinR_okP {nm : UInt8 → Bool} : ∀ l : List Tm, (joinR .par l).ok nm = true → ∀ t ∈ l, t.ok nm = true := by
  intro l; induction l with
  | nil => intro _ t ht; simp at ht
  | cons a l ih =>
    cases l with
    | nil => intro h t ht; rw [List.mem_singleton.1 ht]; exact h
    | cons b l =>
      intro h t ht
      simp only [joinR, Tm.ok, Bool.and_eq_true] at h
      rcases List.mem_cons.1 ht with rfl | ht
      · exact h.1
      · exact ih h.2 t ht
theorem bestT_mem : ∀ l : List Tm, l ≠ [] → bestT l ∈ l := by
  have h : ∀ (cs : List Tm) (c : Tm), cs.foldl (fun b c => if c.pr < b.pr then c else b) c = c ∨ cs.foldl (fun b c => if c.pr < b.pr then c else b) c ∈ cs := by
    intro cs; induction cs with
    | nil => intro c; exact .inl rfl
    | cons d cs ih =>
      intro c
      simp only [List.foldl_cons]
      rcases ih (if d.pr < c.pr then d else c) with h | h
      · rw [h]; split
        · exact .inr (by simp)
        · exact .inl rfl
      · exact .inr (by simp [h])
  intro l hl
  cases l with
  | nil => exact absurd rfl hl
  | cons c cs =>
    show cs.foldl (fun b c => if c.pr < b.pr then c else b) c ∈ c :: cs
    rcases h cs c with e | e
    · rw [e]; simp
    · exact List.mem_cons_of_mem _ e
theorem wrapO_ok {nm : UInt8 → Bool} (t : Tm) : ∀ ls : List UInt8, (wrapO ls t).ok nm = true → (∀ l ∈ ls, nm l = true) ∧ t.ok nm = true := by
  intro ls; induction ls with
  | nil => intro h; exact ⟨fun l hl => by simp at hl, h⟩
  | cons a ls ih =>
    intro h
    have h' : (nm a && (wrapO ls t).ok nm) = true := h
    rw [Bool.and_eq_true] at h'
    obtain ⟨a1, a2⟩ := ih h'.2
    exact ⟨fun l hl => by
      rcases List.mem_cons.1 hl with rfl | hl
      · exact h'.1
      · exact a1 l hl, a2⟩
theorem ok_false {nm : UInt8 → Bool} {t : Tm} (h : t.ok nm = true → False) : t.ok nm = false := by
  cases e : t.ok nm with
  | false => rfl
  | true => exact (h e).elim
theorem fresh_head {tk : List UInt8} {c : UInt8} {r : List UInt8} (h : othL tk = c :: r) : fresh tk = c ∧ othL (addL tk c) = r ∧ c ∉ tk ∧ ¬ great c := by
  have hc : c ∈ othL tk := by rw [h]; simp
  refine ⟨?_, oth_add h, ((mem_oth _ _).1 hc).2, oth_great hc⟩
  rcases fresh_oth tk with ⟨c', r', h1, h2, _⟩ | ⟨h1, _⟩
  · rw [h] at h1; injection h1 with e1 _; rw [h2, e1]
  · rw [h] at h1; cases h1
theorem fresh_none {tk : List UInt8} (h : othL tk = []) : nmL (fresh tk) = false := by
  rcases fresh_oth tk with ⟨c, r, h1, _⟩ | ⟨_, h2⟩
  · rw [h] at h1; cases h1
  · cases hc : nmL (fresh tk) with
    | false => rfl
    | true => rw [nmL_iff] at hc; omega
theorem fit_X {t : Tm} (h : FitX t) (hp : ∀ p q, t ≠ .sum p q) : Fit t := by
  rcases h with h | ⟨p, q, e, _⟩
  · exact h
  · exact absurd e (hp p q)

theorem thS_ok (n : Nat) (once : Bool) (H : LvlH n once) (T : Tm) (tk : List UInt8) (T' : Tm) (E : UInt8 → UInt8 → Prop) (L : UInt8 → UInt8)
    (hn : T.size ≤ n + 1) (hX : FitX T) (hT : Thr T) (cx : Cx T E T' L tk) :
    Good (thS (whl n once) T tk) (tf T' (othL tk).length) (thI (mid n once) L (othL tk) T') := by
  obtain ⟨hsm, hng, hnd, hrel, hsz⟩ := cx
  obtain ⟨t1, t2, t3, t4⟩ := hT
  cases T with
  | nil => simp [Tm.dead] at t1
  | par p q => exact absurd rfl (t3 p q)
  | own x p => exact absurd rfl (t4 x p)
  | snd a b p =>
    obtain ⟨a', b', p', rfl, h1, h2, h3⟩ := hsm
    have hf : Fit p := fit_sub (fit_X hX (by intros; simp)) (Nat.le_refl _) (fun z hz => by rw [mf_snd]; simp [hz])
    simp only [Tm.size] at hn hsz
    have g := H p tk p' E L (by omega) (.inl hf) ⟨h3, fun z hz => hng z (by rw [mf_snd]; simp only [Tm.bnd]; grind), hnd, hrel, by omega⟩
    have e1 := (hrel _ _ h1).1
    have e2 := (hrel _ _ h2).1
    refine ⟨fun hb => ?_, fun hb => ?_⟩
    · have := goodY g hb; simp only [thS, thI, this, ← e1, ← e2]
    · refine (g.2 hb).imp id fun h => ok_false fun h' => ?_
      simp only [thS, Tm.ok, Bool.and_eq_true] at h'; rw [h] at h'; simp at h'
  | tau p =>
    obtain ⟨p', rfl, h3⟩ := hsm
    have hf : Fit p := fit_sub (fit_X hX (by intros; simp)) (Nat.le_refl _) (fun z hz => by rw [mf_tau]; exact hz)
    simp only [Tm.size] at hn hsz
    have g := H p tk p' E L (by omega) (.inl hf) ⟨h3, fun z hz => hng z (by rw [mf_tau]; simp only [Tm.bnd]; grind), hnd, hrel, by omega⟩
    refine ⟨fun hb => ?_, fun hb => ?_⟩
    · have := goodY g hb; simp only [thS, thI, this]
    · refine (g.2 hb).imp id fun h => ok_false fun h' => ?_
      simp only [thS, Tm.ok] at h'; rw [h] at h'; simp at h'
  | rep p =>
    have hd : ¬ p.dead = true := by rw [show p.dead = false from t1]; simp
    unfold Sm at hsm; rw [if_neg hd] at hsm
    obtain ⟨p', rfl, h3⟩ := hsm
    have hf : Fit p := fit_sub (fit_X hX (by intros; simp)) (Nat.le_refl _) (fun z hz => by rw [mf_rep]; exact hz)
    simp only [Tm.size] at hn hsz
    have g := H p tk p' E L (by omega) (.inl hf) ⟨h3, fun z hz => hng z (by rw [mf_rep]; simp only [Tm.bnd]; grind), hnd, hrel, by omega⟩
    refine ⟨fun hb => ?_, fun hb => ?_⟩
    · have := goodY g hb; simp only [thS, thI, this]
    · refine (g.2 hb).imp id fun h => ok_false fun h' => ?_
      simp only [thS, Tm.ok] at h'; rw [h] at h'; simp at h'
  | mat a b p =>
    have hd : ¬ p.dead = true := by rw [show p.dead = false from t1]; simp
    unfold Sm at hsm; rw [if_neg (show ¬ a = b from t2), if_neg hd] at hsm
    obtain ⟨a', b', p', rfl, h1, h2, h3⟩ := hsm
    have hf : Fit p := fit_sub (fit_X hX (by intros; simp)) (Nat.le_refl _) (fun z hz => by rw [mf_mat]; simp [hz])
    simp only [Tm.size] at hn hsz
    have g := H p tk p' E L (by omega) (.inl hf) ⟨h3, fun z hz => hng z (by rw [mf_mat]; simp only [Tm.bnd]; grind), hnd, hrel, by omega⟩
    have e1 := (hrel _ _ h1).1
    have e2 := (hrel _ _ h2).1
    refine ⟨fun hb => ?_, fun hb => ?_⟩
    · have := goodY g hb; simp only [thS, thI, this, ← e1, ← e2]
    · refine (g.2 hb).imp id fun h => ok_false fun h' => ?_
      simp only [thS] at h'; split at h' <;> simp only [Tm.ok, Bool.and_eq_true] at h' <;> rw [h] at h' <;> simp at h'
  | rcv a x p =>
    obtain ⟨a', x', p', rfl, h1, h3⟩ := hsm
    have hfT := fit_X hX (by intros; simp)
    have hf : Fit p := fit_bind (x := x) hfT (by simp [Tm.bnd]) (fun z hz => by rw [mf_rcv]; grind)
    simp only [Tm.size] at hn hsz
    have e1 := (hrel _ _ h1).1
    rcases ho : othL tk with _ | ⟨c, r⟩
    · have hbad := fresh_none ho
      refine ⟨fun hb => by simp [tf] at hb, fun hb => .inr (ok_false fun h' => ?_)⟩
      simp only [thS, Tm.ok, Bool.and_eq_true] at h'; rw [hbad] at h'; simp at h'
    · obtain ⟨c1, c2, c3, c4⟩ := fresh_head ho
      have hnd' : x' ∉ p'.bnd ∧ p'.bnd.Nodup := by rw [← List.nodup_cons]; exact hnd
      have hpn : ∀ z, z ∈ p.free ∨ z ∈ p.bnd → ¬ great z := fun z hz => hng z (by rw [mf_rcv]; simp only [Tm.bnd, List.mem_cons]; grind)
      have hrel2 : ∀ u v, bdE E x x' u v → (x = c → u = upd L x' c v ∧ v ∉ p'.bnd ∧ u ∈ addL tk c ∧ ¬ great u) ∧ (u ≠ x → u = upd L x' c v ∧ v ∉ p'.bnd ∧ u ∈ addL tk c ∧ ¬ great u) := by
        intro u v he
        rcases he with ⟨q1, q2⟩ | ⟨q1, q2, q3⟩
        · exact ⟨fun e => ⟨by unfold upd; rw [if_pos q2, q1, e], q2 ▸ hnd'.1, by rw [mem_addL]; exact .inr (q1.trans e), by rw [q1, e]; exact c4⟩, fun h => absurd q1 h⟩
        · obtain ⟨r1, r2, r3, r4⟩ := hrel u v q3
          have : u = upd L x' c v ∧ v ∉ p'.bnd ∧ u ∈ addL tk c ∧ ¬ great u :=
            ⟨by unfold upd; rw [if_neg q2]; exact r1, fun h => r2 (by simp only [Tm.bnd, List.mem_cons]; exact .inr h), by rw [mem_addL]; exact .inl r3, r4⟩
          exact ⟨fun _ => this, fun _ => this⟩
      have hcx : ∃ E2, Cx (R p x c) E2 p' (upd L x' c) (addL tk c) := by
        by_cases e : x = c
        · refine ⟨_, ⟨by rw [R_same _ _ _ (.inl e)]; exact h3, by rw [R_same _ _ _ (.inl e)]; exact hpn, hnd'.2, fun u v he => (hrel2 u v he).1 e, by rw [R_size]; omega⟩⟩
        · have hcu : c ∉ p.usd := fun hu => by
            obtain ⟨v, _, he⟩ := Sm_use _ _ _ h3 c hu
            rcases he with ⟨q, _⟩ | ⟨_, _, q⟩
            · exact e q.symm
            · exact c3 (hrel _ _ q).2.2.1
          refine ⟨_, ⟨Sm_R _ p x c _ p' (Nat.le_refl _) (fit_roomy hf _ _) e hcu h3, fun z hz => ?_, hnd'.2, fun u v he => ?_, by rw [R_size]; omega⟩⟩
          · rcases R_names hf x c z hz with h | h | h
            · exact hpn z h
            · exact h ▸ c4
            · exact h
          · rcases he with ⟨q1, q2⟩ | ⟨q1, q2, q3⟩
            · rcases q2 with ⟨_, q⟩ | ⟨q, _⟩
              · exact ⟨by unfold upd; rw [if_pos q, q1], q ▸ hnd'.1, by rw [mem_addL]; exact .inr q1, q1 ▸ c4⟩
              · exact absurd rfl q
            · exact (hrel2 u v q3).2 q2
      obtain ⟨E2, cx2⟩ := hcx
      have g := H (R p x c) (addL tk c) p' E2 (upd L x' c) (by rw [R_size]; omega) (.inl (fit_R hf _ _)) cx2
      rw [c2] at g
      have et : tf (.rcv a' x' p') (c :: r).length = fl p' r.length := by simp [tf, fl]
      rw [et]
      refine ⟨fun hb => ?_, fun hb => ?_⟩
      · have := goodY g hb; simp only [thS, thI, c1, this, ← e1, List.headD_cons, List.tail_cons]
      · refine (g.2 hb).imp (fun h => ?_) fun h => ok_false fun h' => ?_
        · simp only [thS, c1]; exact h
        · simp only [thS, Tm.ok, Bool.and_eq_true, c1] at h'; rw [h] at h'; simp at h'
  | sum p q =>
    have hd : ¬ p.dead = true := by rw [t2.1]; simp
    have hd2 : ¬ q.dead = true := by rw [t2.2]; simp
    unfold Sm at hsm; rw [if_neg hd, if_neg hd2] at hsm
    obtain ⟨p', q', rfl, h1, h2⟩ := hsm
    obtain ⟨f1, f2⟩ := fitX_sum hX
    simp only [Tm.size] at hn hsz
    have hpos := size_pos p
    have hpos2 := size_pos q
    have hsums : Tm.sums (Tm.sum p q).size (.sum p q) = Tm.sums (p.size + q.size) p ++ Tm.sums (p.size + q.size) q := by
      show Tm.sums (p.size + q.size + 1) (.sum p q) = _
      unfold Tm.sums
      rw [peel_peel _ t2]
      cases p.size + q.size <;> rfl
    have hA : All2 (fun a b => Good (whl n once a tk) (fl b (othL tk).length) (mid n once L (othL tk) b)) (Tm.sums (Tm.sum p q).size (.sum p q)) (smds (.sum p' q')) := by
      rw [hsums]
      simp only [smds]
      have hnd' : (p'.bnd ++ q'.bnd).Nodup := hnd
      rw [List.nodup_append] at hnd'
      refine .append ((sums_Sm _ p E p' (by omega) t2.1 h1 f1).mono fun a b ha hb h => ?_) ((sums_Sm _ q E q' (by omega) t2.2 h2 f2).mono fun a b ha hb h => ?_)
      · obtain ⟨b1, b2⟩ := smds_nd hnd'.1 b hb
        exact H a tk b E L (by omega) (.inl h.2.1) ⟨h.1, fun z hz => hng z (by rw [mf_sum]; simp only [Tm.bnd, List.mem_append]; have := h.2.2.2 z hz; grind), b1, fun u v he => by
          obtain ⟨r1, r2, r3⟩ := hrel u v he
          exact ⟨r1, fun hv => r2 (by simp only [Tm.bnd, List.mem_append]; exact .inl (b2 v hv)), r3⟩, by omega⟩
      · obtain ⟨b1, b2⟩ := smds_nd hnd'.2.1 b hb
        exact H a tk b E L (by omega) (.inl h.2.1) ⟨h.1, fun z hz => hng z (by rw [mf_sum]; simp only [Tm.bnd, List.mem_append]; have := h.2.2.2 z hz; grind), b1, fun u v he => by
          obtain ⟨r1, r2, r3⟩ := hrel u v he
          exact ⟨r1, fun hv => r2 (by simp only [Tm.bnd, List.mem_append]; exact .inr (b2 v hv)), r3⟩, by omega⟩
    have hs := smds_fl (.sum p' q') (othL tk).length
    have et : fl (.sum p' q') (othL tk).length = tf (.sum p' q') (othL tk).length := by simp [fl, fcnt, lvl]
    rw [et] at hs
    have e1 : thS (whl n once) (.sum p q) tk = (joinR .sum (srtT ((Tm.sums (Tm.sum p q).size (.sum p q)).map fun q => (whl n once q tk).1)), (Tm.sums (Tm.sum p q).size (.sum p q)).any fun q => (whl n once q tk).2) := rfl
    have e2 : thI (mid n once) L (othL tk) (.sum p' q') = joinR .sum (srtT ((smds (.sum p' q')).map (mid n once L (othL tk)))) := rfl
    rw [e1, e2]
    generalize Tm.sums (Tm.sum p q).size (.sum p q) = l at *
    generalize smds (.sum p' q') = m at *
    refine ⟨fun hb => ?_, fun hb => ?_⟩
    · have hall := hs.1 hb
      have hm : l.map (fun q => (whl n once q tk).1) = m.map (mid n once L (othL tk)) := (hA.mono fun a b _ hb h => by rw [goodY h (hall b hb)]).map_eq
      rw [hm]
      congr 1
      rw [List.any_eq_false]
      intro a ha
      obtain ⟨b, hb, h⟩ := hA.ex' a ha
      rw [goodY h (hall b hb)]; simp
    · obtain ⟨b, hb, e⟩ := hs.2 hb
      obtain ⟨a, ha, h⟩ := hA.ex b hb
      refine (h.2 e).imp (fun h => ?_) fun h => ok_false fun h' => ?_
      · rw [List.any_eq_true]; exact ⟨a, ha, h⟩
      · have := joinR_okS _ h' (whl n once a tk).1 ((mem_srtT _ _).2 (List.mem_map.2 ⟨a, ha, rfl⟩))
        rw [h] at this; simp at this

theorem updL_take : ∀ (o : List UInt8) (L : UInt8 → UInt8) (ls : List UInt8), updL L o (ls.take o.length) = updL L o ls := by
  intro o; induction o with
  | nil => intro L ls; cases ls <;> rfl
  | cons x o ih =>
    intro L ls
    cases ls with
    | nil => rfl
    | cons l ls => simp only [List.length_cons, List.take_succ_cons, updL]; exact ih _ ls
theorem tf_lvl (s : Tm) (k : Nat) : tf s k = (lvl s).2.all fun T => tf T k := by
  induction s with
  | nil => rfl
  | own x p ih => simp only [tf, lvl]; exact ih
  | par p q ih ih2 => simp only [tf, lvl, List.all_append]; rw [ih, ih2]
  | _ => simp [lvl]
theorem peel_bnd (t : Tm) : ∀ z, z ∈ t.peel.bnd → z ∈ t.bnd := by
  induction t with
  | mat a b p ih => unfold Tm.peel; split; exact ih; exact fun _ h => h
  | sum p q ih ih2 =>
    unfold Tm.peel; split
    · intro z hz; simp only [Tm.bnd, List.mem_append]; exact .inr (ih2 z hz)
    · split
      · intro z hz; simp only [Tm.bnd, List.mem_append]; exact .inl (ih z hz)
      · exact fun _ h => h
  | par p q ih ih2 =>
    unfold Tm.peel; split
    · intro z hz; simp only [Tm.bnd, List.mem_append]; exact .inr (ih2 z hz)
    · split
      · intro z hz; simp only [Tm.bnd, List.mem_append]; exact .inl (ih z hz)
      · exact fun _ h => h
  | own x p ih =>
    unfold Tm.peel; split
    · exact fun _ h => h
    · intro z hz; simp only [Tm.bnd, List.mem_cons]; exact .inr (ih z hz)
  | _ => exact fun _ h => h
theorem gath_bnd (n : Nat) : ∀ (k : Nat) (t : Tm), (∀ z ∈ t.bnd, ¬ great z) → ∀ T ∈ (gath n k t).1, ∀ z ∈ T.bnd, ¬ great z := by
  induction n with
  | zero => intro k t _ T hT; simp [gath] at hT
  | succ n ih =>
    intro k t h T hT
    have h' : ∀ z ∈ t.peel.bnd, ¬ great z := fun z hz => h z (peel_bnd t z hz)
    unfold gath at hT
    split at hT
    · simp at hT
    · generalize t.peel = u at *
      cases u with
      | par p q =>
        simp only [List.mem_append] at hT
        rcases hT with hT | hT
        · exact ih k p (fun z hz => h' z (by simp only [Tm.bnd, List.mem_append]; exact .inl hz)) T hT
        · exact ih _ q (fun z hz => h' z (by simp only [Tm.bnd, List.mem_append]; exact .inr hz)) T hT
      | own x p =>
        refine ih (k + 1) (R p x (gl k)) (fun z hz => ?_) T hT
        rcases R_bnds _ p x (gl k) (Nat.le_refl _) z hz with hz | hz
        · exact h' z (by simp only [Tm.bnd, List.mem_cons]; exact .inr hz)
        · exact hz
      | nil => simp only [List.mem_singleton] at hT; rw [hT]; exact h'
      | snd a b p => simp only [List.mem_singleton] at hT; rw [hT]; exact h'
      | rcv a b p => simp only [List.mem_singleton] at hT; rw [hT]; exact h'
      | tau p => simp only [List.mem_singleton] at hT; rw [hT]; exact h'
      | sum p q => simp only [List.mem_singleton] at hT; rw [hT]; exact h'
      | mat a b p => simp only [List.mem_singleton] at hT; rw [hT]; exact h'
      | rep p => simp only [List.mem_singleton] at hT; rw [hT]; exact h'

/-- THE SPECIFICATION'S NORMAL FORM IS THE ONE MADE OUT OF THE SIMPLIFIED PROCESS. -/
theorem whl_mid (n : Nat) : ∀ once, LvlH n once := by
  induction n with
  | zero => intro once t tk s E L h; have := size_pos t; omega
  | succ n ih =>
    intro once t tk s E L hn hf cx
    obtain ⟨hsm, hng, hnd, hrel, hsz⟩ := id cx
    have h89 := fcnt_le hsm hsz
    obtain ⟨g1, g2, g3⟩ := gath_Sm t.size 0 t E s (fun z => ¬ great z) (Nat.le_refl _) hf hsm (by unfold fcnt at h89; omega) (fun z h => h) (fun i _ hi h => h (gl_great hi)) hng hnd (fun u v h => (hrel u v h).2.1)
    have gb := gath_bnd t.size 0 t (fun z hz => hng z (.inr hz))
    simp only [Nat.zero_add] at g1 g3
    obtain ⟨n1, n2, n3⟩ := lvl_nd hnd
    unfold whl mid
    by_cases hU : (lvl s).2 = []
    · have hd : t.dead = true := by
        cases e : t.dead with
        | true => rfl
        | false => exact absurd hU (Sm_live t E s e hsm)
      have e := Sm_dead t E s hd hsm
      subst e
      have hT : (gath t.size 0 t).1 = [] := List.length_eq_zero_iff.1 (by rw [g2.len]; rfl)
      rw [hT]
      exact ⟨fun _ => rfl, fun hb => by simp [fl, fcnt, lvl, tf] at hb⟩
    · have hT : (gath t.size 0 t).1 ≠ [] := fun e => hU (List.length_eq_zero_iff.1 (by rw [← g2.len, e]; rfl))
      have hT' : (gath t.size 0 t).1.isEmpty = false := by simpa using hT
      have hU' : (lvl s).2.isEmpty = false := by simpa using hU
      rw [hT', hU', g1]
      simp only [Bool.false_eq_true, if_false]
      have hfl : fl s (othL tk).length = (decide ((lvl s).1.length ≤ 5) && decide ((lvl s).1.length ≤ (othL tk).length) && (lvl s).2.all fun T => tf T ((othL tk).length - (lvl s).1.length)) := by
        unfold fl fcnt; rw [tf_lvl]
      rw [hfl]
      generalize hG : (lvl s).1 = G at *
      generalize hU2 : (lvl s).2 = U at *
      generalize (gath t.size 0 t).1 = TT at *
      by_cases h5 : 5 < G.length
      · rw [if_pos h5]
        refine ⟨fun hb => ?_, fun _ => .inl rfl⟩
        simp only [Bool.and_eq_true, decide_eq_true_eq] at hb; omega
      · rw [if_neg h5]
        have hos : ∀ o ∈ (if once = true then (ords G.length).take 1 else ords G.length), o.length = G.length ∧ o.Nodup ∧ ∀ i, i ∈ o ↔ i < G.length := by
          intro o ho
          refine ords_ok G.length (by omega) o ?_
          split at ho
          · exact List.mem_of_mem_take ho
          · exact ho
        have hone : (if once = true then (ords G.length).take 1 else ords G.length) ≠ [] := by
          have := ords_ne G.length (by omega)
          split
          · intro e; rw [List.take_eq_nil_iff] at e; simp at e; exact this e
          · exact this
        generalize (if once = true then (ords G.length).take 1 else ords G.length) = os at *
        by_cases hk : G.length ≤ (othL tk).length
        · obtain ⟨l1, l2⟩ := nexts_oth G.length tk hk
          have hA : ∀ o ∈ os, All2 (fun T T' => Good (thS (whl n once) (nmG o (nexts tk G.length) T) (allT tk G.length)) (tf T' ((othL tk).length - G.length)) (thI (mid n once) (updL L (o.map fun i => G.getD i 0) (othL tk)) ((othL tk).drop G.length) T')) TT U := by
            intro o ho
            obtain ⟨o1, o2, o3⟩ := hos o ho
            refine g2.mono fun T T' hT hT' hm => ?_
            obtain ⟨⟨x1, x2⟩, x3, x4, x5⟩ := g3 T hT
            obtain ⟨m1, m2, m3, m4, m5⟩ := nmG_ok o (nexts tk G.length) T (exE E 0 G) L G (fun u => u ∈ allT tk G.length ∧ ¬ great u) (fun v => v ∉ T'.bnd) T'
              (by rw [nexts_len]; exact o1) o2 (by rw [l1]; exact (oth_nodup tk).sublist (List.take_sublist _ _)) n1 (by unfold fcnt at h89; rw [hG] at h89; exact h89) (fun i hi => (o3 i).1 hi)
              (fun l hl => ⟨nexts_great _ _ l hl, by rw [allT_mem]; exact .inr hl, nexts_great _ _ l hl⟩) x1
              (x2.imp id fun h => List.length_eq_zero_iff.1 (by rw [o1, h.1]; rfl)) x4 hm (fun u v he => by
                rcases he with ⟨j, hj, e1, e2⟩ | ⟨e1, e2, e3⟩
                · refine ⟨fun hv => n3 v (by rw [e2]; exact List.getElem_mem hj) T' hT' hv, .inl ⟨j, (o3 j).2 hj, by rw [e1, Nat.zero_add], ?_⟩⟩
                  rw [e2, List.getD_eq_getElem?_getD, List.getElem?_eq_getElem hj]; rfl
                · obtain ⟨r1, r2, r3, r4⟩ := hrel u v e3
                  refine ⟨fun hv => r2 (lvl_thr_bnd s T' (by rw [hU2]; exact hT') v hv), .inr ⟨r1, ⟨by rw [allT_mem]; exact .inl r3, r4⟩, fun hu => ?_, r4, fun i hi e => e2 ?_⟩⟩
                  · rw [l1] at hu
                    exact ((mem_oth _ _).1 (List.mem_of_mem_take hu)).2 r3
                  · have hi' := (o3 i).1 hi
                    rw [e, List.getD_eq_getElem?_getD, List.getElem?_eq_getElem hi']
                    exact List.getElem_mem hi')
            have hcx : Cx (nmG o (nexts tk G.length) T) _ T' (updL L (o.map fun i => G.getD i 0) (nexts tk G.length)) (allT tk G.length) :=
              ⟨m1, fun z hz => by
                rcases m5 z hz with ⟨h1, h2⟩ | h | h
                · rcases x5 z (.inl h1) with h | ⟨j, hj, e⟩
                  · exact h
                  · exact absurd e (h2 j ((o3 j).2 hj))
                · exact gb T hT z h
                · exact h, n2 T' hT', fun u v he => ⟨he.1, he.2.1, he.2.2.1, he.2.2.2⟩, by rw [m4]; omega⟩
            have g := thS_ok n once (ih once) _ (allT tk G.length) T' _ _ (by rw [m4]; omega) m2 m3 hcx
            rw [l2, List.length_drop] at g
            have e : updL L (o.map fun i => G.getD i 0) (nexts tk G.length) = updL L (o.map fun i => G.getD i 0) (othL tk) := by
              rw [l1]
              have := updL_take (o.map fun i => G.getD i 0) L (othL tk)
              rw [List.length_map, o1] at this
              exact this
            rw [e] at g
            exact g
          rw [l1] at hA ⊢
          refine ⟨fun hb => ?_, fun hb => ?_⟩
          · simp only [Bool.and_eq_true, List.all_eq_true] at hb
            have hm : os.map (fun o => joinR .par (srtT (TT.map fun T => (thS (whl n once) (nmG o ((othL tk).take G.length) T) (allT tk G.length)).1))) =
                os.map (fun o => joinR .par (srtT (U.map (thI (mid n once) (updL L (o.map fun i => G.getD i 0) (othL tk)) ((othL tk).drop G.length))))) := by
              refine List.map_congr_left fun o ho => ?_
              congr 2
              exact ((hA o ho).mono fun a b _ hb' h => by rw [goodY h (hb.2 b hb')]).map_eq
            rw [hm]
            congr 1
            rw [List.any_eq_false]
            intro o ho
            rw [Bool.not_eq_true, List.any_eq_false]
            intro a ha
            obtain ⟨b, hb', h⟩ := (hA o ho).ex' a ha
            rw [goodY h (hb.2 b hb')]; simp
          · have hbad : ∃ T' ∈ U, tf T' ((othL tk).length - G.length) = false := by
              simp only [Bool.and_eq_false_iff, decide_eq_false_iff_not, List.all_eq_false] at hb
              rcases hb with (hb | hb) | ⟨T', h1, h2⟩
              · omega
              · omega
              · exact ⟨T', h1, by simpa using h2⟩
            obtain ⟨T', hT2, e⟩ := hbad
            by_cases hany : (os.any fun o => TT.any fun T => (thS (whl n once) (nmG o ((othL tk).take G.length) T) (allT tk G.length)).2) = true
            · exact .inl hany
            · refine .inr (ok_false fun h' => hany ?_)
              have h2 := (wrapO_ok _ _ h').2
              have hm := bestT_mem (os.map fun o => joinR .par (srtT (TT.map fun T => (thS (whl n once) (nmG o ((othL tk).take G.length) T) (allT tk G.length)).1))) (by simpa using hone)
              obtain ⟨o, ho, e2⟩ := List.mem_map.1 hm
              rw [← e2] at h2
              obtain ⟨a, ha, h⟩ := (hA o ho).ex T' hT2
              rw [List.any_eq_true]
              refine ⟨o, ho, ?_⟩
              rw [List.any_eq_true]
              refine ⟨a, ha, ?_⟩
              rcases h.2 e with h | h
              · exact h
              · have := joinR_okP _ h2 _ ((mem_srtT _ _).2 (List.mem_map.2 ⟨a, ha, rfl⟩))
                rw [h] at this; simp at this
        · refine ⟨fun hb => ?_, fun _ => .inr (ok_false fun h' => ?_)⟩
          · simp only [Bool.and_eq_true, decide_eq_true_eq] at hb; omega
          · obtain ⟨l, hl, e⟩ := nexts_bad G.length tk (by omega)
            have := (wrapO_ok _ _ h').1 l hl
            rw [e] at this; simp at this

end Go.Proofs.Ytpahhlcfbmmocab.T1
