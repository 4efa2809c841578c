/- Texts of the proof, put together: Pm, Pn, Ma, Pk, Mb, Mc, Md, Me. No conditions. -/
import Derived.Test.YtllnplabiehcgabGreatKap
import Derived.Test.YtllnplabiehcgabGreatKar
import Derived.Test.YtllnplabiehcgabGreatKbx
namespace Go.Proofs.YtllnplabiehcgabGreat.T1
set_option maxHeartbeats 8000000
set_option linter.unusedVariables false
theorem perm_erase {α : Type} : ∀ (l : List α) (i : Nat) (h : i < l.length), l.Perm (l[i] :: l.eraseIdx i) := by
 intro l
 induction l with
 | nil => intro i h; simp at h
 | cons a l ih =>
  intro i h
  cases i with
  | zero => exact .refl _
  | succ i =>
   simp only [List.getElem_cons_succ, List.eraseIdx_cons_succ]
   exact ((ih i (by simpa using h)).cons a).trans (List.Perm.swap _ _ _)
theorem take_one {α : Type} : ∀ (l : List α) (i : Nat) (h : i < l.length), (l.drop i).take 1 = [l[i]] := by
 intro l
 induction l with
 | nil => intro i h; simp at h
 | cons a l ih =>
  intro i h
  cases i with
  | zero => rfl
  | succ i => simp only [List.drop_succ_cons, List.getElem_cons_succ]; exact ih i (by simpa using h)
theorem ordsL_all {α : Type} : ∀ (n : Nat) (l r : List α), r.Perm l → l.length ≤ n → r ∈ ordsL n l := by
 intro n
 induction n with
 | zero =>
  intro l r h hl
  have : l = [] := List.length_eq_zero_iff.1 (by omega)
  subst this
  rw [List.Perm.eq_nil h]; simp [ordsL]
 | succ n ih =>
  intro l r h hl
  unfold ordsL
  cases l with
  | nil => rw [List.Perm.eq_nil h]; simp
  | cons b l =>
   simp only [List.isEmpty_cons, Bool.false_eq_true, if_false]
   cases r with
   | nil => exact absurd h.length_eq (by simp)
   | cons a r =>
    have ha : a ∈ b :: l := h.mem_iff.1 (by simp)
    obtain ⟨i, hi, e⟩ := List.getElem_of_mem ha
    rw [List.mem_flatMap]
    refine ⟨i, by simpa using hi, ?_⟩
    rw [List.mem_map]
    have hp : (b :: l).Perm (a :: (b :: l).eraseIdx i) := by
     rw [← e]; exact perm_erase _ i hi
    refine ⟨r, ih _ r ?_ ?_, ?_⟩
    ·exact (h.trans hp).cons_inv
    ·rw [List.length_eraseIdx_of_lt hi]; simp at hl ⊢; omega
    ·rw [take_one _ i hi, e]; rfl
theorem ords_all {m : Nat} {o : List Nat} (h : o.Perm (List.range m)) : o ∈ ords m := ordsL_all m _ _ h (by simp)
theorem idx_perm {G Y : List UInt8} (hn : G.Nodup) (h : Y.Perm G) : ∃ p ∈ ords G.length, (p.map fun i => G.getD i 0) = Y := by
 refine ⟨Y.map G.idxOf, ords_all ?_, ?_⟩
 ·refine (h.map _).trans ?_
  have : G.map G.idxOf = List.range G.length := by
   refine List.ext_getElem (by simp) fun i h1 h2 => ?_
   simp at h1
   rw [List.getElem_map, List.getElem_range]
   exact hn.idxOf_getElem i h1
  rw [this]
 ·rw [List.map_map]
  refine (List.map_congr_left fun y hy => ?_).trans (List.map_id _)
  have hy' := h.mem_iff.1 hy
  have hi := List.idxOf_lt_length_of_mem hy'
  simp [List.getD_eq_getElem?_getD, List.getElem?_eq_getElem hi]
theorem map_perm {G : List UInt8} {p : List Nat} (hG : G.length ≤ 5) (hp : p ∈ ords G.length) : (p.map fun i => G.getD i 0).Perm G := by
 obtain ⟨p1, p2, p3⟩ := ords_ok _ hG p hp
 have hpr : p.Perm (List.range G.length) := (List.perm_ext_iff_of_nodup p2 List.nodup_range).2 fun i => by rw [p3]; simp
 have : (List.range G.length).map (fun i => G.getD i 0) = G := by
  refine List.ext_getElem (by simp) fun i h1 h2 => ?_
  simp [List.getD_eq_getElem?_getD, List.getElem?_eq_getElem h2]
 have h := hpr.map fun i => G.getD i 0
 rw [this] at h; exact h
theorem srt_perm {nm : UInt8 → Bool} (hn : Nm nm) {a b : List Tm} (h : a.Perm b) (hok : ∀ t ∈ a, t.ok nm = true) : srtT a = srtT b := by
 have tr : ∀ x y z : Tm, decide (x.pr ≤ y.pr) = true → decide (y.pr ≤ z.pr) = true → decide (x.pr ≤ z.pr) = true := fun x y z h1 h2 => by
  simp only [decide_eq_true_eq] at *; exact List.le_trans h1 h2
 have tt : ∀ x y : Tm, (decide (x.pr ≤ y.pr) || decide (y.pr ≤ x.pr)) = true := fun x y => by
  simp only [Bool.or_eq_true, decide_eq_true_eq]; exact List.le_total _ _
 have s1 := List.pairwise_mergeSort (le := fun a b : Tm => decide (a.pr ≤ b.pr)) tr tt a
 have s2 := List.pairwise_mergeSort (le := fun a b : Tm => decide (a.pr ≤ b.pr)) tr tt b
 have hp : (srtT a).Perm (srtT b) := ((List.mergeSort_perm a _).trans h).trans (List.mergeSort_perm b _).symm
 refine List.Perm.eq_of_pairwise (fun x y hx hy h1 h2 => ?_) s1 s2 hp
 simp only [decide_eq_true_eq] at h1 h2
 have hx' := hok x ((mem_srtT _ _).1 hx)
 have hy' := hok y (h.mem_iff.2 ((mem_srtT _ _).1 hy))
 exact (pr_inj hn x y [] [] hx' hy' (by rw [List.le_antisymm h1 h2])).1
structure Lp (s s' : Tm) : Prop where
 fro : (lvl s).1.Perm (lvl s').1
 thr : (lvl s).2.Perm (lvl s').2
theorem Lp.refl (s : Tm) : Lp s s := ⟨.refl _, .refl _⟩
theorem Lp.trans {a b c : Tm} (h : Lp a b) (k : Lp b c) : Lp a c := ⟨h.fro.trans k.fro, h.thr.trans k.thr⟩
theorem Lp.bnd {s s' : Tm} (h : Lp s s') : s.bnd.Perm s'.bnd :=
 ((lvl_perm s).trans (h.fro.append (h.thr.flatMap_right _))).trans (lvl_perm s').symm
theorem Lp.fl {s s' : Tm} (h : Lp s s') (k : Nat) : fl s k = fl s' k := by
 unfold T1.fl fcnt
 rw [h.fro.length_eq, tf_lvl, tf_lvl, h.thr.all_eq]
theorem Lp.ownc {s s' : Tm} (h : Lp s s') : ownc s = ownc s' := by
 rw [ownc_lvl, ownc_lvl s', h.fro.length_eq, sumc_perm h.thr]
theorem Lp.mid {s s' : Tm} (h : Lp s s') (n : Nat) (L : UInt8 → UInt8) (left : List UInt8) (hn : s.size ≤ n + 1) (hf : T1.fl s left.length = true) (hl : ∀ l ∈ left, nmL l = true) (hL : ∀ v, v ∈ s.free → nmL (L v) = true) (hnd : s.bnd.Nodup) :
  T1.mid (n + 1) false L left s = T1.mid (n + 1) false L left s' := by
 obtain ⟨f1, f2, f3⟩ := fl_inv hf
 have hnG := (lvl_nd hnd).1
 have hnG' := h.fro.nodup_iff.1 hnG
 have hlen : (left.drop (lvl s).1.length).length = left.length - (lvl s).1.length := List.length_drop
 have hl2 : ∀ l ∈ left.drop (lvl s).1.length, nmL l = true := fun l h => hl l (List.mem_of_mem_drop h)
 unfold T1.mid
 by_cases hU : (lvl s).2 = []
 ·have hU' : (lvl s').2 = [] := by have := h.thr; rw [hU] at this; exact this.symm.eq_nil
  rw [hU, hU']; rfl
 ·have hU' : ¬ (lvl s').2 = [] := fun e => hU (by have := h.thr; rw [e] at this; exact this.eq_nil)
  have e1 : (lvl s).2.isEmpty = false := by simpa using hU
  have e2 : (lvl s').2.isEmpty = false := by simpa using hU'
  rw [e1, e2]
  simp only [Bool.false_eq_true, if_false]
  rw [← h.fro.length_eq]
  congr 1
  let C (s : Tm) (k : Nat) : List (List Tm) := (ords k).map fun o => srtT ((lvl s).2.map (thI (T1.mid n false) (updL L (o.map fun i => (lvl s).1.getD i 0) left) (left.drop k)))
  have hC : ∀ (s : Tm) (k : Nat), ((ords k).map fun o => joinR .par (srtT ((lvl s).2.map (thI (T1.mid n false) (updL L (o.map fun i => (lvl s).1.getD i 0) left) (left.drop k))))) = (C s k).map (joinR .par) := fun s k => by
   show _ = List.map _ (List.map _ _); rw [List.map_map]; rfl
  rw [hC, hC]
  have hok : ∀ p ∈ ords (lvl s).1.length, ∀ T ∈ (lvl s).2, (thI (T1.mid n false) (updL L (p.map fun i => (lvl s).1.getD i 0) left) (left.drop (lvl s).1.length) T).ok nmL = true := fun p hp T hT =>
   thI_ok (T1.mid n false) n (mid_ok n false) _ _ T (by have := lvl_size s T hT; omega) (lvl_kind s T hT) (by rw [hlen]; exact f3 T hT) hl2
    (upd_ok hl hL (by rw [List.length_map]; have := (ords_ok _ f1 p hp).1; omega) (mem_order (ords_ok _ f1 p hp).2.2) hT)
  have hne : C s (lvl s).1.length ≠ [] := fun e => ords_ne _ f1 (List.map_eq_nil_iff.1 e)
  have hne' : C s' (lvl s).1.length ≠ [] := fun e => ords_ne _ f1 (List.map_eq_nil_iff.1 e)
  have hcok : ∀ c ∈ C s (lvl s).1.length, c.length = (lvl s).2.length ∧ ∀ t ∈ c, t.ok nmL = true := fun c hc => by
   obtain ⟨p, hp, rfl⟩ := List.mem_map.1 hc
   refine ⟨by unfold srtT; rw [List.length_mergeSort, List.length_map], fun t ht => ?_⟩
   obtain ⟨T, hT, rfl⟩ := List.mem_map.1 ((mem_srtT _ _).1 ht)
   exact hok p hp T hT
  have hsame : ∀ p ∈ ords (lvl s).1.length, ∀ p' : List Nat, (p'.map fun i => (lvl s').1.getD i 0) = (p.map fun i => (lvl s).1.getD i 0) →
    srtT ((lvl s).2.map (thI (T1.mid n false) (updL L (p.map fun i => (lvl s).1.getD i 0) left) (left.drop (lvl s).1.length))) = srtT ((lvl s').2.map (thI (T1.mid n false) (updL L (p'.map fun i => (lvl s').1.getD i 0) left) (left.drop (lvl s).1.length))) := fun p hp p' e => by
   rw [e]
   refine srt_perm nmL_nm (h.thr.map _) fun t ht => ?_
   obtain ⟨T, hT, rfl⟩ := List.mem_map.1 ht
   exact hok p hp T hT
  have hmem : ∀ c, c ∈ C s (lvl s).1.length ↔ c ∈ C s' (lvl s).1.length := fun c => by
   constructor
   ·intro hc
    obtain ⟨p, hp, rfl⟩ := List.mem_map.1 hc
    obtain ⟨p', hp', e⟩ := idx_perm hnG' ((map_perm f1 hp).trans h.fro)
    exact List.mem_map.2 ⟨p', by rw [h.fro.length_eq]; exact hp', (hsame p hp p' e).symm⟩
   ·intro hc
    obtain ⟨p', hp', rfl⟩ := List.mem_map.1 hc
    have hp2 : p' ∈ ords (lvl s').1.length := by rw [← h.fro.length_eq]; exact hp'
    obtain ⟨p, hp, e⟩ := idx_perm hnG ((map_perm (by rw [← h.fro.length_eq]; exact f1) hp2).trans h.fro.symm)
    exact List.mem_map.2 ⟨p, hp, hsame p hp p' e.symm⟩
  have a1 := best_same nmL_nm _ _ _ hne hne (fun c => Iff.rfl) hcok
  have a2 := best_same nmL_nm _ _ _ hne hne' hmem hcok
  exact a1.symm.trans a2
theorem mid_fuel (n : Nat) : ∀ (m : Nat) (once : Bool) (L : UInt8 → UInt8) (left : List UInt8) (s : Tm), s.size ≤ n → s.size ≤ m → mid n once L left s = mid m once L left s := by
 induction n with
 | zero => intro m once L left s h; have := size_pos s; omega
 | succ n ih =>
  intro m once L left s hn hm
  cases m with
  | zero => have := size_pos s; omega
  | succ m =>
   have hth : ∀ (L' : UInt8 → UInt8) (lf : List UInt8) (T : Tm), T ∈ (lvl s).2 → thI (mid n once) L' lf T = thI (mid m once) L' lf T := by
    intro L' lf T hT
    have hsz := lvl_size s T hT
    have hk := lvl_kind s T hT
    cases T with
    | nil => exact absurd rfl hk.2.2
    | par p q => exact absurd rfl (hk.1 p q)
    | own x p => exact absurd rfl (hk.2.1 x p)
    | snd a b p => simp only [Tm.size] at hsz; simp only [thI]; rw [ih m once _ _ p (by omega) (by omega)]
    | tau p => simp only [Tm.size] at hsz; simp only [thI]; rw [ih m once _ _ p (by omega) (by omega)]
    | rep p => simp only [Tm.size] at hsz; simp only [thI]; rw [ih m once _ _ p (by omega) (by omega)]
    | mat a b p => simp only [Tm.size] at hsz; simp only [thI]; rw [ih m once _ _ p (by omega) (by omega)]
    | rcv a x p => simp only [Tm.size] at hsz; simp only [thI]; rw [ih m once _ _ p (by omega) (by omega)]
    | sum p q =>
     have e1 : ∀ f, thI f L' lf (.sum p q) = joinR .sum (srtT ((smds (.sum p q)).map (f L' lf))) := fun f => rfl
     rw [e1, e1]
     congr 2
     refine List.map_congr_left fun r hr => ?_
     have hrs : r.size < (Tm.sum p q).size := by
      simp only [smds, List.mem_append] at hr
      simp only [Tm.size]
      rcases hr with hr | hr
      ·have := smds_size p r hr; omega
      ·have := smds_size q r hr; omega
     exact ih m once _ _ r (by omega) (by omega)
   unfold mid
   have : ∀ o : List Nat, (lvl s).2.map (thI (mid n once) (updL L (o.map fun i => (lvl s).1.getD i 0) left) (left.drop (lvl s).1.length)) = (lvl s).2.map (thI (mid m once) (updL L (o.map fun i => (lvl s).1.getD i 0) left) (left.drop (lvl s).1.length)) := fun o => List.map_congr_left fun T hT => hth _ _ T hT
   simp only [this]
inductive Cg : Tm → Tm → Prop where
 | refl (t : Tm) : Cg t t
 | trans {a b c : Tm} : Cg a b → Cg b c → Cg a c
 | comm (p q : Tm) : Cg (.par p q) (.par q p)
 | assoc (p q r : Tm) : Cg (.par (.par p q) r) (.par p (.par q r))
 | assoc' (p q r : Tm) : Cg (.par p (.par q r)) (.par (.par p q) r)
 | nil (p : Tm) : Cg (.par p .nil) p
 | nil' (p : Tm) : Cg p (.par p .nil)
 | swap (x y : UInt8) (p : Tm) : x ≠ y → Cg (.own x (.own y p)) (.own y (.own x p))
 | par {p p' q q' : Tm} : Cg p p' → Cg q q' → Cg (.par p q) (.par p' q')
 | own (x : UInt8) {p p' : Tm} : Cg p p' → Cg (.own x p) (.own x p')
theorem par_out {p q : Tm} {E : UInt8 → UInt8 → Prop} {s : Tm} (h : Sm (.par p q) E s) : ∃ p' q', Sm p E p' ∧ Sm q E q' ∧ lvl s = ((lvl p').1 ++ (lvl q').1, (lvl p').2 ++ (lvl q').2) := by
 unfold Sm at h
 split at h
 ·rename_i hp; exact ⟨.nil, s, Sm_nil p E hp, h, by simp [lvl]⟩
 ·split at h
  ·rename_i hp hq; exact ⟨s, .nil, h, Sm_nil q E hq, by simp [lvl]⟩
  ·obtain ⟨p', q', rfl, h1, h2⟩ := h; exact ⟨p', q', h1, h2, rfl⟩
theorem par_in {p q : Tm} {E : UInt8 → UInt8 → Prop} {p' q' : Tm} (h1 : Sm p E p') (h2 : Sm q E q') : ∃ s, Sm (.par p q) E s ∧ lvl s = ((lvl p').1 ++ (lvl q').1, (lvl p').2 ++ (lvl q').2) := by
 by_cases hp : p.dead = true
 ·have e := Sm_dead p E p' hp h1
  subst e
  refine ⟨q', ?_, by simp [lvl]⟩
  unfold Sm; rw [if_pos hp]; exact h2
 ·by_cases hq : q.dead = true
  ·have e := Sm_dead q E q' hq h2
   subst e
   refine ⟨p', ?_, by simp [lvl]⟩
   unfold Sm; rw [if_neg hp, if_pos hq]; exact h1
  ·refine ⟨.par p' q', ?_, rfl⟩
   unfold Sm; rw [if_neg hp, if_neg hq]; exact ⟨p', q', rfl, h1, h2⟩
theorem lp_of {s s' : Tm} {a b a' b'} (h : lvl s = (a, b)) (h' : lvl s' = (a', b')) (k1 : a.Perm a') (k2 : b.Perm b') : Lp s s' := ⟨by rw [h, h']; exact k1, by rw [h, h']; exact k2⟩
theorem nd_l {s p' : Tm} {a b : List UInt8} {c d : List Tm} (h : lvl s = (a ++ (lvl p').1 ++ b, c ++ (lvl p').2 ++ d)) (hn : s.bnd.Nodup) : p'.bnd.Nodup := by
 have h1 := (lvl_perm s).nodup_iff.1 hn
 rw [h] at h1
 refine (lvl_perm p').nodup_iff.2 (h1.sublist ?_)
 simp only [List.flatMap_append]
 exact List.Sublist.append ((List.sublist_append_right _ _).trans (List.sublist_append_left _ _)) ((List.sublist_append_right _ _).trans (List.sublist_append_left _ _))
theorem bdE_swap {E : UInt8 → UInt8 → Prop} {x y x' y' : UInt8} (h : x ≠ y) (h' : x' ≠ y') : ∀ u v, bdE (bdE E x x') y y' u v → bdE (bdE E y y') x x' u v := by
 rintro u v (⟨h1, h2⟩ | ⟨h1, h2, h3⟩)
 ·subst h1 h2; exact .inr ⟨fun e => h e.symm, fun e => h' e.symm, .inl ⟨rfl, rfl⟩⟩
 ·rcases h3 with ⟨a1, a2⟩ | ⟨a1, a2, a3⟩
  ·exact .inl ⟨a1, a2⟩
  ·exact .inr ⟨a1, a2, .inr ⟨h1, h2, a3⟩⟩
structure CgK (t t' : Tm) : Prop where
 dead : t.dead = t'.dead
 usd : ∀ z, z ∈ t.usd ↔ z ∈ t'.usd
 sm : ∀ E s, s.bnd.Nodup → Sm t E s → ∃ s', Sm t' E s' ∧ Lp s s'
theorem Cg.keep {t t' : Tm} (h : Cg t t') : CgK t t' := by
 induction h with
 | refl t => exact ⟨rfl, fun _ => Iff.rfl, fun E s _ h => ⟨s, h, .refl _⟩⟩
 | trans _ _ ih ih2 =>
  refine ⟨ih.dead.trans ih2.dead, fun z => (ih.usd z).trans (ih2.usd z), fun E s hn h => ?_⟩
  obtain ⟨s1, h1, l1⟩ := ih.sm E s hn h
  obtain ⟨s2, h2, l2⟩ := ih2.sm E s1 (l1.bnd.nodup_iff.1 hn) h1
  exact ⟨s2, h2, l1.trans l2⟩
 | comm p q =>
  refine ⟨by simp [Tm.dead, Bool.and_comm], fun z => by rw [mu_par, mu_par]; exact Or.comm, fun E s hn h => ?_⟩
  obtain ⟨p', q', h1, h2, e⟩ := par_out h
  obtain ⟨s', h3, e'⟩ := par_in h2 h1
  exact ⟨s', h3, lp_of e e' List.perm_append_comm List.perm_append_comm⟩
 | assoc p q r =>
  refine ⟨by simp [Tm.dead, Bool.and_assoc], fun z => by simp only [mu_par]; exact or_assoc, fun E s hn h => ?_⟩
  obtain ⟨a, r', h1, h2, e⟩ := par_out h
  obtain ⟨p', q', h3, h4, e2⟩ := par_out h1
  obtain ⟨b, h5, e3⟩ := par_in h4 h2
  obtain ⟨s', h6, e4⟩ := par_in h3 h5
  exact ⟨s', h6, lp_of e e4 (by rw [e2, e3]; simp) (by rw [e2, e3]; simp)⟩
 | assoc' p q r =>
  refine ⟨by simp [Tm.dead, Bool.and_assoc], fun z => by simp only [mu_par]; exact or_assoc.symm, fun E s hn h => ?_⟩
  obtain ⟨p', a, h1, h2, e⟩ := par_out h
  obtain ⟨q', r', h3, h4, e2⟩ := par_out h2
  obtain ⟨b, h5, e3⟩ := par_in h1 h3
  obtain ⟨s', h6, e4⟩ := par_in h5 h4
  exact ⟨s', h6, lp_of e e4 (by rw [e2, e3]; simp) (by rw [e2, e3]; simp)⟩
 | nil p =>
  refine ⟨by simp [Tm.dead], fun z => by rw [mu_par]; simp [Tm.usd], fun E s hn h => ?_⟩
  obtain ⟨p', a, h1, h2, e⟩ := par_out h
  have ea := Sm_dead .nil E a rfl h2
  subst ea
  exact ⟨p', h1, lp_of e rfl (by simp [lvl]) (by simp [lvl])⟩
 | nil' p =>
  refine ⟨by simp [Tm.dead], fun z => by rw [mu_par]; simp [Tm.usd], fun E s hn h => ?_⟩
  obtain ⟨s', h3, e'⟩ := par_in h (Sm_nil .nil E rfl)
  exact ⟨s', h3, lp_of rfl e' (by simp [lvl]) (by simp [lvl])⟩
 | swap x y p hxy =>
  refine ⟨by simp [Tm.dead], fun z => by simp only [mu_own]; grind, fun E s hn h => ?_⟩
  by_cases hx : x ∈ p.usd
  ·have hx2 : x ∈ (Tm.own y p).usd := (mu_own _ _ _).2 ⟨hx, hxy⟩
   unfold Sm at h; rw [if_pos hx2] at h
   obtain ⟨x', p1, rfl, h⟩ := h
   by_cases hy : y ∈ p.usd
   ·unfold Sm at h; rw [if_pos hy] at h
    obtain ⟨y', p', rfl, h⟩ := h
    have hn' : x' ≠ y' := by
     simp only [Tm.bnd, List.nodup_cons, List.mem_cons] at hn
     exact fun e => hn.1 (.inl e)
    refine ⟨.own y' (.own x' p'), ?_, lp_of (lvl.eq_2 _ _) (lvl.eq_2 _ _) (List.Perm.swap _ _ _) (.refl _)⟩
    unfold Sm; rw [if_pos ((mu_own _ _ _).2 ⟨hy, hxy.symm⟩)]
    refine ⟨y', .own x' p', rfl, ?_⟩
    unfold Sm; rw [if_pos hx]
    exact ⟨x', p', rfl, Sm_mono p _ _ p' (fun u v _ => bdE_swap hxy hn' u v) h⟩
   ·unfold Sm at h; rw [if_neg hy] at h
    refine ⟨.own x' p1, ?_, .refl _⟩
    unfold Sm; rw [if_neg (fun e => hy ((mu_own _ _ _).1 e).1)]
    unfold Sm; rw [if_pos hx]
    exact ⟨x', p1, rfl, h⟩
  ·unfold Sm at h; rw [if_neg (fun e => hx ((mu_own _ _ _).1 e).1)] at h
   by_cases hy : y ∈ p.usd
   ·unfold Sm at h; rw [if_pos hy] at h
    obtain ⟨y', p', rfl, h⟩ := h
    refine ⟨.own y' p', ?_, .refl _⟩
    unfold Sm; rw [if_pos ((mu_own _ _ _).2 ⟨hy, hxy.symm⟩)]
    refine ⟨y', p', rfl, ?_⟩
    unfold Sm; rw [if_neg hx]; exact h
   ·unfold Sm at h; rw [if_neg hy] at h
    refine ⟨s, ?_, .refl _⟩
    unfold Sm; rw [if_neg (fun e => hy ((mu_own _ _ _).1 e).1)]
    unfold Sm; rw [if_neg hx]; exact h
 | par h1 h2 ih ih2 =>
  refine ⟨by simp [Tm.dead, ih.dead, ih2.dead], fun z => by rw [mu_par, mu_par, ih.usd, ih2.usd], fun E s hn h => ?_⟩
  obtain ⟨p', q', h1, h2, e⟩ := par_out h
  obtain ⟨p2, k1, l1⟩ := ih.sm E p' (nd_l (a := []) (c := []) (by rw [e]; rfl) hn) h1
  obtain ⟨q2, k2, l2⟩ := ih2.sm E q' (nd_l (a := (lvl p').1) (b := []) (c := (lvl p').2) (d := []) (by rw [e]; simp) hn) h2
  obtain ⟨s', h3, e'⟩ := par_in k1 k2
  exact ⟨s', h3, lp_of e e' (l1.fro.append l2.fro) (l1.thr.append l2.thr)⟩
 | own x h1 ih =>
  refine ⟨ih.dead, fun z => by rw [mu_own, mu_own, ih.usd], fun E s hn h => ?_⟩
  unfold Sm at h
  split at h
  ·rename_i hx
   obtain ⟨x', p', rfl, h⟩ := h
   obtain ⟨p2, k1, l1⟩ := ih.sm _ p' (List.nodup_cons.1 hn).2 h
   refine ⟨.own x' p2, ?_, ⟨l1.fro.cons x', l1.thr⟩⟩
   unfold Sm; rw [if_pos ((ih.usd x).1 hx)]; exact ⟨x', p2, rfl, k1⟩
  ·rename_i hx
   obtain ⟨p2, k1, l1⟩ := ih.sm _ s hn h
   refine ⟨p2, ?_, l1⟩
   unfold Sm; rw [if_neg (fun e => hx ((ih.usd x).2 e))]; exact k1
theorem Sm_back (t : Tm) : ∀ (E : UInt8 → UInt8 → Prop) (s : Tm), Sm t E s → ∀ v, v ∈ s.free → ∃ u, u ∈ t.usd ∧ E u v := by
 induction t with
 | nil => intro E s h v hv; have h' : s = .nil := h; subst h'; simp [Tm.free] at hv
 | snd a b p ih =>
  rintro E s ⟨a', b', p', rfl, h1, h2, h3⟩ v hv
  rw [mf_snd] at hv
  rcases hv with rfl | rfl | hv
  ·exact ⟨a, by rw [mu_snd]; simp, h1⟩
  ·exact ⟨b, by rw [mu_snd]; simp, h2⟩
  ·obtain ⟨u, hu, he⟩ := ih E p' h3 v hv
   exact ⟨u, by rw [mu_snd]; simp [hu], he⟩
 | rcv a x p ih =>
  rintro E s ⟨a', x', p', rfl, h1, h3⟩ v hv
  rw [mf_rcv] at hv
  rcases hv with rfl | ⟨hv, hx⟩
  ·exact ⟨a, by rw [mu_rcv]; simp, h1⟩
  ·obtain ⟨u, hu, he⟩ := ih _ p' h3 v hv
   rcases he with ⟨_, e⟩ | ⟨e1, _, e3⟩
   ·exact absurd e hx
   ·exact ⟨u, by rw [mu_rcv]; exact .inr ⟨hu, e1⟩, e3⟩
 | tau p ih =>
  rintro E s ⟨p', rfl, h3⟩ v hv
  rw [mf_tau] at hv
  obtain ⟨u, hu, he⟩ := ih E p' h3 v hv
  exact ⟨u, by rw [mu_tau]; exact hu, he⟩
 | sum p q ih ih2 =>
  intro E s h v hv
  have k1 : (∃ u, u ∈ p.usd ∧ E u v) → ∃ u, u ∈ (Tm.sum p q).usd ∧ E u v := fun ⟨u, hu, he⟩ => ⟨u, by rw [mu_sum]; exact .inl hu, he⟩
  have k2 : (∃ u, u ∈ q.usd ∧ E u v) → ∃ u, u ∈ (Tm.sum p q).usd ∧ E u v := fun ⟨u, hu, he⟩ => ⟨u, by rw [mu_sum]; exact .inr hu, he⟩
  unfold Sm at h
  split at h
  ·exact k2 (ih2 E s h v hv)
  ·split at h
   ·exact k1 (ih E s h v hv)
   ·obtain ⟨p', q', rfl, h1, h2⟩ := h
    rw [mf_sum] at hv
    exact hv.elim (fun hv => k1 (ih E p' h1 v hv)) (fun hv => k2 (ih2 E q' h2 v hv))
 | par p q ih ih2 =>
  intro E s h v hv
  have k1 : (∃ u, u ∈ p.usd ∧ E u v) → ∃ u, u ∈ (Tm.par p q).usd ∧ E u v := fun ⟨u, hu, he⟩ => ⟨u, by rw [mu_par]; exact .inl hu, he⟩
  have k2 : (∃ u, u ∈ q.usd ∧ E u v) → ∃ u, u ∈ (Tm.par p q).usd ∧ E u v := fun ⟨u, hu, he⟩ => ⟨u, by rw [mu_par]; exact .inr hu, he⟩
  unfold Sm at h
  split at h
  ·exact k2 (ih2 E s h v hv)
  ·split at h
   ·exact k1 (ih E s h v hv)
   ·obtain ⟨p', q', rfl, h1, h2⟩ := h
    rw [mf_par] at hv
    exact hv.elim (fun hv => k1 (ih E p' h1 v hv)) (fun hv => k2 (ih2 E q' h2 v hv))
 | own x p ih =>
  intro E s h v hv
  unfold Sm at h
  split at h
  ·obtain ⟨x', p', rfl, h1⟩ := h
   rw [mf_own] at hv
   obtain ⟨u, hu, he⟩ := ih _ p' h1 v hv.1
   rcases he with ⟨_, e⟩ | ⟨e1, _, e3⟩
   ·exact absurd e hv.2
   ·exact ⟨u, by rw [mu_own]; exact ⟨hu, e1⟩, e3⟩
  ·rename_i hx
   obtain ⟨u, hu, he⟩ := ih E s h v hv
   exact ⟨u, by rw [mu_own]; exact ⟨hu, fun e => hx (e ▸ hu)⟩, he⟩
 | mat a b p ih =>
  intro E s h v hv
  unfold Sm at h
  split at h
  ·rename_i hab
   obtain ⟨u, hu, he⟩ := ih E s h v hv
   exact ⟨u, by rw [mu_mat]; exact .inl ⟨hab, hu⟩, he⟩
  ·rename_i hab
   split at h
   ·subst h; simp [Tm.free] at hv
   ·rename_i hd
    have hd' : p.dead = false := by simpa using hd
    obtain ⟨a', b', p', rfl, h1, h2, h3⟩ := h
    rw [mf_mat] at hv
    rcases hv with rfl | rfl | hv
    ·exact ⟨a, by rw [mu_mat]; exact .inr ⟨hab, hd', .inl rfl⟩, h1⟩
    ·exact ⟨b, by rw [mu_mat]; exact .inr ⟨hab, hd', .inr (.inl rfl)⟩, h2⟩
    ·obtain ⟨u, hu, he⟩ := ih E p' h3 v hv
     exact ⟨u, by rw [mu_mat]; exact .inr ⟨hab, hd', .inr (.inr hu)⟩, he⟩
 | rep p ih =>
  intro E s h v hv
  unfold Sm at h
  split at h
  ·subst h; simp [Tm.free] at hv
  ·obtain ⟨p', rfl, h1⟩ := h
   rw [mf_rep] at hv
   obtain ⟨u, hu, he⟩ := ih E p' h1 v hv
   exact ⟨u, by rw [mu_rep]; exact hu, he⟩
theorem Sm_ne {t : Tm} {E : UInt8 → UInt8 → Prop} {s : Tm} (h : Sm t E s) (hd : t.dead = false) : s ≠ .nil := fun e => by
 subst e; exact Sm_live t E .nil hd h rfl
theorem Sm_clean (t : Tm) : ∀ (E : UInt8 → UInt8 → Prop) (s : Tm), Sm t E s → Clean s := by
 induction t with
 | nil => intro E s h; have h' : s = .nil := h; subst h'; trivial
 | snd a b p ih => rintro E s ⟨a', b', p', rfl, h1, h2, h3⟩; exact ih E p' h3
 | rcv a x p ih => rintro E s ⟨a', x', p', rfl, h1, h3⟩; exact ih _ p' h3
 | tau p ih => rintro E s ⟨p', rfl, h3⟩; exact ih E p' h3
 | sum p q ih ih2 =>
  intro E s h
  unfold Sm at h
  split at h
  ·exact ih2 E s h
  ·split at h
   ·exact ih E s h
   ·obtain ⟨p', q', rfl, h1, h2⟩ := h; exact ⟨ih E p' h1, ih2 E q' h2⟩
 | par p q ih ih2 =>
  intro E s h
  unfold Sm at h
  split at h
  ·exact ih2 E s h
  ·split at h
   ·exact ih E s h
   ·rename_i hp hq
    obtain ⟨p', q', rfl, h1, h2⟩ := h
    exact ⟨Sm_ne h1 (by simpa using hp), ih E p' h1, ih2 E q' h2⟩
 | own x p ih =>
  intro E s h
  unfold Sm at h
  split at h
  ·rename_i hx
   obtain ⟨x', p', rfl, h1⟩ := h
   refine ⟨Sm_ne h1 ?_, ih _ p' h1⟩
   cases hd : p.dead with
   | false => rfl
   | true => rw [dead_usd p hd] at hx; simp at hx
  ·exact ih E s h
 | mat a b p ih =>
  intro E s h
  unfold Sm at h
  split at h
  ·exact ih E s h
  ·split at h
   ·subst h; trivial
   ·obtain ⟨a', b', p', rfl, h1, h2, h3⟩ := h; exact ih E p' h3
 | rep p ih =>
  intro E s h
  unfold Sm at h
  split at h
  ·subst h; trivial
  ·obtain ⟨p', rfl, h1⟩ := h; exact ih E p' h1
def nfM (n : Nat) (s : Tm) (left : List UInt8) : Option Tm :=
 if 8 < ownc s ∨ fl s left.length = false then none else
 if (mid n false id left s).ok nmL = true ∧ (mid n false id left s).pr.length ≤ 300 ∧ (mid n false id left s).size ≤ 60 then some (mid n false id left s) else none
theorem nfS_of {t : Tm} (hs : t.size ≤ 121) (hf : FitT t) {E : UInt8 → UInt8 → Prop} {s : Tm} (cx : Cx t E s id t.usd) (hlet : ∀ l ∈ othL t.usd, nmL l = true) (hfr : ∀ v, v ∈ s.free → nmL v = true) (ho : ∀ n once, s.size ≤ n → fl s (othL t.usd).length = true → ownc (mid n once id (othL t.usd) s) = ownc s) : nfS t = nfM t.size s (othL t.usd) := by
 have g := fun once => whl_mid t.size once t t.usd s E id (Nat.le_refl _) hf cx
 have hsz : s.size ≤ t.size := (fcnt_plc t _ _ cx.sm).2.2
 unfold nfS nfM
 cases hfl : fl s (othL t.usd).length with
 | false =>
  rw [if_pos (show 8 < ownc s ∨ false = false from .inr rfl)]
  split
  ·rfl
  ·split
   ·rfl
   ·rename_i h1 h2
    rcases (g false).2 hfl with h3 | h3
    ·exact absurd h3 h2
    ·rw [if_neg (by rw [h3]; simp)]
 | true =>
  have e1 := goodY (g true) hfl
  have e2 := goodY (g false) hfl
  have o1 := mid_ok t.size true id (othL t.usd) s hsz hfl hlet hfr
  rw [e1, e2]
  simp only [ownc_pr _ (ok_LE _ o1), ho _ _ hsz hfl, Bool.false_eq_true, false_or, if_false, Bool.true_eq_false, or_false]
theorem nf_cg {t t' : Tm} (hg : Cg t t') (h : t.ok nmL = true) (h' : t'.ok nmL = true) (hs : t.size ≤ 121) (hs' : t'.size ≤ 121) (hf : FitT t) (hf' : FitT t') : nfS t = nfS t' := by
 obtain ⟨E, cx⟩ := numb_cx h hs
 have kp := hg.keep
 obtain ⟨s', hm, lp⟩ := kp.sm E _ cx.nd cx.sm
 have hu : t.usd = t'.usd := srt_ext (srt_usd _) (srt_usd _) kp.usd
 have cx' : Cx t' E s' id t'.usd := ⟨hm, fun z hz => letter_great (hz.elim ((okL_names h').1 z) ((okL_names h').2 z)), lp.bnd.nodup_iff.1 cx.nd, fun u v he => by
  obtain ⟨a1, a2, a3, a4⟩ := cx.rel u v he
  exact ⟨a1, fun hv => a2 (lp.bnd.mem_iff.2 hv), hu ▸ a3, a4⟩, hs'⟩
 have hlet : ∀ l ∈ othL t.usd, nmL l = true := fun l hl => (nmL_iff l).2 ((mem_oth _ _).1 hl).1
 have hfr : ∀ v, v ∈ (numb t).free → nmL v = true := fun v hv => by
  obtain ⟨w, hw, e⟩ := can_free t.sim id marksN (by have := bnd_len t.sim; have := sim_size t; rw [marksN_len]; omega) v hv
  rw [e]
  rw [sim_usd] at hw
  exact (okL_names h).1 _ (usd_free t _ hw)
 have hfr' : ∀ v, v ∈ s'.free → nmL v = true := fun v hv => by
  obtain ⟨u, hu', he⟩ := Sm_back t' E s' hm v hv
  have e : u = v := (cx'.rel u v he).1
  exact (okL_names h').1 _ (usd_free t' _ (e ▸ hu'))
 have hsz : (numb t).size ≤ t.size := (fcnt_plc t _ _ cx.sm).2.2
 have hsz' : s'.size ≤ t'.size := (fcnt_plc t' _ _ cx'.sm).2.2
 have hlet' : ∀ l ∈ othL t'.usd, nmL l = true := hu ▸ hlet
 rw [nfS_of hs hf cx hlet hfr fun n once h1 h2 => mid_own n once id _ _ h1 (Sm_clean t E _ cx.sm) h2]
 rw [nfS_of hs' hf' cx' hlet' hfr' fun n once h1 h2 => mid_own n once id _ _ h1 (Sm_clean t' E _ hm) h2]
 unfold nfM
 rw [← hu, lp.ownc, lp.fl]
 cases hfl : fl s' (othL t.usd).length with
 | false => rw [if_pos (.inr rfl), if_pos (.inr rfl)]
 | true =>
  have e1 : mid t.size false id (othL t.usd) (numb t) = mid (t.size + t'.size + 1) false id (othL t.usd) (numb t) := mid_fuel _ _ _ _ _ _ hsz (by omega)
  have e2 : mid t'.size false id (othL t.usd) s' = mid (t.size + t'.size + 1) false id (othL t.usd) s' := mid_fuel _ _ _ _ _ _ hsz' (by omega)
  rw [e1, e2, lp.mid (t.size + t'.size) id _ (by omega) (by rw [lp.fl]; exact hfl) hlet hfr cx.nd]
set_option linter.unusedSimpArgs false
def Thd (T : Tm) : Prop := (∀ p q, T ≠ .par p q) ∧ (∀ x p, T ≠ .own x p) ∧ T ≠ .nil
def Tm.fro : Tm → List UInt8 × Tm
 | .own x p => (x :: p.fro.1, p.fro.2)
 | t => ([], t)
def Tm.pars : Tm → List Tm
 | .par p q => p :: q.pars
 | t => [t]
def Tm.sumR : Tm → List Tm
 | .sum p q => p :: q.sumR
 | t => [t]
def Tm.thrs (t : Tm) : List Tm := match t.fro.2 with
 | .nil => []
 | u => u.pars
theorem thd_lvl {T : Tm} (h : Thd T) : lvl T = ([], [T]) := by
 cases T with
 | nil => exact absurd rfl h.2.2
 | par p q => exact absurd rfl (h.1 p q)
 | own x p => exact absurd rfl (h.2.1 x p)
 | _ => rfl
theorem thd_fro {T : Tm} (h : Thd T) : T.fro = ([], T) := by
 cases T with
 | own x p => exact absurd rfl (h.2.1 x p)
 | _ => rfl
theorem thd_pars {T : Tm} (h : Thd T) : T.pars = [T] := by
 cases T with
 | par p q => exact absurd rfl (h.1 p q)
 | _ => rfl
theorem lvl_join : ∀ l : List Tm, (∀ T ∈ l, Thd T) → lvl (joinR .par l) = ([], l)
 | [], _ => rfl
 | [a], h => thd_lvl (h a (by simp))
 | a :: b :: l, h => by
  have h1 := thd_lvl (h a (by simp))
  have h2 := lvl_join (b :: l) fun T hT => h T (by simp [hT])
  show ((lvl a).1 ++ (lvl (joinR .par (b :: l))).1, (lvl a).2 ++ (lvl (joinR .par (b :: l))).2) = _
  rw [h1, h2]; rfl
theorem lvl_wrap (t : Tm) : ∀ ls : List UInt8, lvl (wrapO ls t) = (ls ++ (lvl t).1, (lvl t).2)
 | [] => rfl
 | a :: ls => by
  have := lvl_wrap t ls
  show (a :: (lvl (wrapO ls t)).1, (lvl (wrapO ls t)).2) = _
  rw [this]; rfl
theorem fro_join (l : List Tm) (h : ∀ T ∈ l, Thd T) : (joinR .par l).fro = ([], joinR .par l) := by
 cases l with
 | nil => rfl
 | cons a l =>
  cases l with
  | nil => exact thd_fro (h a (by simp))
  | cons b l => rfl
theorem fro_wrap (t : Tm) : ∀ ls : List UInt8, (wrapO ls t).fro = (ls ++ t.fro.1, t.fro.2)
 | [] => rfl
 | a :: ls => by
  have := fro_wrap t ls
  show (a :: (wrapO ls t).fro.1, (wrapO ls t).fro.2) = _
  rw [this]; rfl
theorem pars_join : ∀ l : List Tm, l ≠ [] → (∀ T ∈ l, Thd T) → (joinR .par l).pars = l
 | [], h, _ => absurd rfl h
 | [a], _, h => thd_pars (h a (by simp))
 | a :: b :: l, _, h => by
  have := pars_join (b :: l) (by simp) fun T hT => h T (by simp [hT])
  show a :: (joinR .par (b :: l)).pars = _
  rw [this]
theorem join_notnil (l : List Tm) (hl : l ≠ []) (h : ∀ T ∈ l, Thd T) : joinR .par l ≠ .nil := by
 cases l with
 | nil => exact absurd rfl hl
 | cons a l =>
  cases l with
  | nil => exact (h a (by simp)).2.2
  | cons b l => intro e; cases e
theorem thrs_wrap (ls : List UInt8) (l : List Tm) (h : ∀ T ∈ l, Thd T) : (wrapO ls (joinR .par l)).thrs = l := by
 unfold Tm.thrs
 rw [fro_wrap, fro_join l h]
 by_cases hl : l = []
 ·subst hl; rfl
 ·have h1 := join_notnil l hl h
  have h2 := pars_join l hl h
  generalize joinR .par l = u at *
  cases u with
  | nil => exact absurd rfl h1
  | _ => exact h2
def NotS (t : Tm) : Prop := ∀ p q, t ≠ .sum p q
theorem nots_smds {t : Tm} (h : NotS t) : smds t = [t] := by
 cases t with
 | sum p q => exact absurd rfl (h p q)
 | _ => rfl
theorem nots_sumR {t : Tm} (h : NotS t) : t.sumR = [t] := by
 cases t with
 | sum p q => exact absurd rfl (h p q)
 | _ => rfl
theorem smds_join : ∀ l : List Tm, l ≠ [] → (∀ t ∈ l, NotS t) → smds (joinR .sum l) = l ∧ (joinR .sum l).sumR = l
 | [], h, _ => absurd rfl h
 | [a], _, h => ⟨nots_smds (h a (by simp)), nots_sumR (h a (by simp))⟩
 | a :: b :: l, _, h => by
  obtain ⟨h1, h2⟩ := smds_join (b :: l) (by simp) fun T hT => h T (by simp [hT])
  constructor
  ·show smds a ++ smds (joinR .sum (b :: l)) = _
   rw [nots_smds (h a (by simp)), h1]; rfl
  ·show a :: (joinR .sum (b :: l)).sumR = _
   rw [h2]
def Flat (T : Tm) : Prop := smds T = T.sumR
theorem smds_nots (t : Tm) : ∀ q ∈ smds t, NotS q := by
 induction t with
 | sum p q ih ih2 => intro r hr; simp only [smds, List.mem_append] at hr; exact hr.elim (ih r) (ih2 r)
 | _ => intro r hr; simp only [smds, List.mem_singleton] at hr; subst hr; intro a b e; cases e
def Neat : Tm → Prop
 | .nil => True
 | .snd _ _ p => Neat p
 | .rcv _ _ p => Neat p
 | .tau p => Neat p
 | .sum p q => Neat p ∧ Neat q
 | .par p q => (p ≠ .nil ∧ q ≠ .nil) ∧ Neat p ∧ Neat q
 | .own _ p => p ≠ .nil ∧ Neat p
 | .mat _ _ p => Neat p
 | .rep p => Neat p
theorem neat_clean (t : Tm) (h : Neat t) : Clean t := by
 induction t with
 | nil => trivial
 | snd a b p ih => exact ih h
 | rcv a x p ih => exact ih h
 | tau p ih => exact ih h
 | sum p q ih ih2 => exact ⟨ih h.1, ih2 h.2⟩
 | par p q ih ih2 => exact ⟨h.1.1, ih h.2.1, ih2 h.2.2⟩
 | own x p ih => exact ⟨h.1, ih h.2⟩
 | mat a b p ih => exact ih h
 | rep p ih => exact ih h
theorem neat_sim (t : Tm) : Neat t.sim := by
 induction t with
 | nil => trivial
 | snd a b p ih => exact ih
 | rcv a x p ih => exact ih
 | tau p ih => exact ih
 | sum p q ih ih2 =>
  unfold Tm.sim
  split
  ·exact ih2
  ·split
   ·exact ih
   ·exact ⟨ih, ih2⟩
 | par p q ih ih2 =>
  unfold Tm.sim
  split
  ·exact ih2
  ·split
   ·exact ih
   ·rename_i h1 h2; exact ⟨⟨h1, h2⟩, ih, ih2⟩
 | own x p ih =>
  unfold Tm.sim
  split
  ·rename_i h; exact ⟨fun e => by rw [e] at h; simp [Tm.free] at h, ih⟩
  ·exact ih
 | mat a b p ih => unfold Tm.sim; split <;> exact ih
 | rep p ih => unfold Tm.sim; split <;> exact ih
theorem neat_can (s : Tm) : ∀ (f : UInt8 → UInt8) (ns : List UInt8), Neat s → Neat (can s f ns) := by
 induction s with
 | nil => intro f ns h; trivial
 | snd a b p ih => intro f ns h; exact ih _ _ h
 | rcv a x p ih => intro f ns h; exact ih _ _ h
 | tau p ih => intro f ns h; exact ih _ _ h
 | mat a b p ih => intro f ns h; exact ih _ _ h
 | rep p ih => intro f ns h; exact ih _ _ h
 | sum p q ih ih2 => intro f ns h; exact ⟨ih _ _ h.1, ih2 _ _ h.2⟩
 | par p q ih ih2 => intro f ns h; exact ⟨⟨fun e => h.1.1 (can_nil e), fun e => h.1.2 (can_nil e)⟩, ih _ _ h.2.1, ih2 _ _ h.2.2⟩
 | own x p ih => intro f ns h; exact ⟨fun e => h.1 (can_nil e), ih _ _ h.2⟩
theorem neat_thr (s : Tm) (h : Neat s) : ∀ T ∈ (lvl s).2, Neat T := by
 induction s with
 | nil => intro T hT; simp [lvl] at hT
 | own x p ih => exact ih h.2
 | par p q ih ih2 =>
  intro T hT
  simp only [lvl, List.mem_append] at hT
  exact hT.elim (ih h.2.1 T) (ih2 h.2.2 T)
 | _ => intro T hT; simp only [lvl, List.mem_singleton] at hT; rw [hT]; exact h
theorem neat_smds (s : Tm) (h : Neat s) : ∀ q ∈ smds s, Neat q := by
 induction s with
 | sum p q ih ih2 =>
  intro T hT
  simp only [smds, List.mem_append] at hT
  exact hT.elim (ih h.1 T) (ih2 h.2 T)
 | _ => intro T hT; simp only [smds, List.mem_singleton] at hT; rw [hT]; exact h
theorem srt_one (x : Tm) : srtT [x] = [x] := by unfold srtT; exact List.mergeSort_singleton _
theorem join_two (c : Tm → Tm → Tm) (l : List Tm) (h : 2 ≤ l.length) : ∃ a b, joinR c l = c a b := by
 match l with
 | [] => simp at h
 | [a] => simp at h
 | a :: b :: l => exact ⟨_, _, rfl⟩
theorem levI_one (n : Nat) (L : UInt8 → UInt8) (left : List UInt8) (s x : Tm) (h0 : (lvl s).1 = []) (h1 : (lvl s).2 = [s]) (hx : ∀ o, thI (levI n) (updL L o left) (left.drop (lvl s).1.length) s = x → True) :
  ∃ o, levI (n + 1) L left s = thI (levI n) (updL L o left) (left.drop (lvl s).1.length) s := by
 rw [levI_cand]
 have hne : (visG ltU 200 (lvl s).1).map (candI n L left s) ≠ [] := fun e => visG_ne ltU 199 _ (List.map_eq_nil_iff.1 e)
 obtain ⟨o, _, e⟩ := List.mem_map.1 (bestL_mem _ hne)
 refine ⟨o, ?_⟩
 rw [← e]
 unfold candI
 rw [h1, h0]
 simp only [List.length_nil, List.take_zero, List.map_cons, List.map_nil]
 rw [srt_one]; rfl
theorem levI_nots (n : Nat) (L : UInt8 → UInt8) (left : List UInt8) (s : Tm) (hc : Neat s) (hf : fl s left.length = true) (hs : NotS s) (hn : s.size ≤ n) : NotS (levI n L left s) := by
 cases n with
 | zero => have := size_pos s; omega
 | succ n =>
  obtain ⟨f1, f2, f3⟩ := fl_inv hf
  have hfr : (lvl s).1 ≠ [] → NotS (levI (n + 1) L left s) := by
   intro h
   rw [levI_cand]
   cases hh : left.take (lvl s).1.length with
   | nil =>
    have := congrArg List.length hh
    rw [List.length_take, List.length_nil] at this
    have h0 : 0 < (lvl s).1.length := List.length_pos_iff.2 h
    omega
   | cons a l => intro p q e; cases e
  cases s with
  | nil => rw [levI_nil]; intro p q e; cases e
  | sum p q => exact absurd rfl (hs p q)
  | own x p => exact hfr (by simp [lvl])
  | snd a b p => obtain ⟨o, e⟩ := levI_one n L left (.snd a b p) .nil rfl rfl (fun _ _ => trivial); rw [e]; intro p q e; cases e
  | rcv a x p => obtain ⟨o, e⟩ := levI_one n L left (.rcv a x p) .nil rfl rfl (fun _ _ => trivial); rw [e]; intro p q e; cases e
  | tau p => obtain ⟨o, e⟩ := levI_one n L left (.tau p) .nil rfl rfl (fun _ _ => trivial); rw [e]; intro p q e; cases e
  | rep p => obtain ⟨o, e⟩ := levI_one n L left (.rep p) .nil rfl rfl (fun _ _ => trivial); rw [e]; intro p q e; cases e
  | mat a b p =>
   obtain ⟨o, e⟩ := levI_one n L left (.mat a b p) .nil rfl rfl (fun _ _ => trivial)
   rw [e]; intro p q e
   simp only [thI] at e
   split at e <;> cases e
  | par p q =>
   by_cases h0 : (lvl (.par p q)).1 = []
   ·have h1 : 1 ≤ (lvl p).2.length := List.length_pos_iff.2 (clean_lvl p (neat_clean p hc.2.1) hc.1.1)
    have h2 : 1 ≤ (lvl q).2.length := List.length_pos_iff.2 (clean_lvl q (neat_clean q hc.2.2) hc.1.2)
    rw [levI_cand]
    have hne : (visG ltU 200 (lvl (.par p q)).1).map (candI n L left (.par p q)) ≠ [] := fun e => visG_ne ltU 199 _ (List.map_eq_nil_iff.1 e)
    obtain ⟨o, _, e⟩ := List.mem_map.1 (bestL_mem _ hne)
    rw [← e, h0]
    obtain ⟨a, b, e2⟩ := join_two .par (candI n L left (.par p q) o) (by rw [(candI_txt n L left (.par p q) o).1]; simp only [lvl, List.length_append]; omega)
    rw [e2]
    intro u v e3; cases e3
   ·exact hfr h0
theorem smds_sum2 (p q : Tm) : 2 ≤ (smds (.sum p q)).length := by
 have h1 : 1 ≤ (smds p).length := List.length_pos_iff.2 (smds_nil p)
 have h2 : 1 ≤ (smds q).length := List.length_pos_iff.2 (smds_nil q)
 simp only [smds, List.length_append]; omega
theorem thI_form (n : Nat) (L : UInt8 → UInt8) (left : List UInt8) (T : Tm) (hk : Thd T) (hc : Neat T) (htf : tf T left.length = true) (hn : T.size ≤ n + 1) : Thd (thI (levI n) L left T) ∧ Flat (thI (levI n) L left T) := by
 have hsimple : ∀ t : Tm, Thd t → NotS t → Thd t ∧ Flat t := fun t h1 h2 => ⟨h1, by unfold Flat; rw [nots_smds h2, nots_sumR h2]⟩
 cases T with
 | nil => exact absurd rfl hk.2.2
 | par p q => exact absurd rfl (hk.1 p q)
 | own x p => exact absurd rfl (hk.2.1 x p)
 | snd a b p => exact hsimple _ ⟨fun _ _ e => (by cases e), fun _ _ e => (by cases e), fun e => (by cases e)⟩ (fun _ _ e => (by cases e))
 | tau p => exact hsimple _ ⟨fun _ _ e => (by cases e), fun _ _ e => (by cases e), fun e => (by cases e)⟩ (fun _ _ e => (by cases e))
 | rep p => exact hsimple _ ⟨fun _ _ e => (by cases e), fun _ _ e => (by cases e), fun e => (by cases e)⟩ (fun _ _ e => (by cases e))
 | rcv a x p => exact hsimple _ ⟨fun _ _ e => (by cases e), fun _ _ e => (by cases e), fun e => (by cases e)⟩ (fun _ _ e => (by cases e))
 | mat a b p =>
  simp only [thI]
  split
  ·exact hsimple _ ⟨fun _ _ e => (by cases e), fun _ _ e => (by cases e), fun e => (by cases e)⟩ (fun _ _ e => (by cases e))
  ·exact hsimple _ ⟨fun _ _ e => (by cases e), fun _ _ e => (by cases e), fun e => (by cases e)⟩ (fun _ _ e => (by cases e))
 | sum p q =>
  have hsm := (smds_fl (.sum p q) left.length).1 (by rw [tf_sum]; exact htf)
  have e1 : thI (levI n) L left (.sum p q) = joinR .sum (srtT ((smds (.sum p q)).map (levI n L left))) := rfl
  rw [e1]
  have hlen : 2 ≤ (srtT ((smds (.sum p q)).map (levI n L left))).length := by rw [srtT_len, List.length_map]; exact smds_sum2 p q
  have hnots : ∀ t ∈ srtT ((smds (.sum p q)).map (levI n L left)), NotS t := fun t ht => by
   obtain ⟨r, hr, rfl⟩ := List.mem_map.1 ((mem_srtT _ _).1 ht)
   refine levI_nots n L left r (neat_smds _ hc r hr) (hsm r hr) (smds_nots _ r hr) ?_
   have : r.size < (Tm.sum p q).size := by
    simp only [smds, List.mem_append] at hr
    simp only [Tm.size]
    rcases hr with hr | hr
    ·have := smds_size p r hr; omega
    ·have := smds_size q r hr; omega
   omega
  obtain ⟨h1, h2⟩ := smds_join _ (fun e => by rw [e] at hlen; simp at hlen) hnots
  refine ⟨?_, by unfold Flat; rw [h1, h2]⟩
  obtain ⟨a, b, e2⟩ := join_two .sum _ hlen
  rw [e2]
  exact ⟨fun _ _ e => (by cases e), fun _ _ e => (by cases e), fun e => (by cases e)⟩
def NfForm (r : Tm) : Prop := ∃ ls l, r = wrapO ls (joinR .par l) ∧ ∀ T ∈ l, Thd T ∧ Flat T
theorem levI_form (n : Nat) (L : UInt8 → UInt8) (left : List UInt8) (s : Tm) (hc : Neat s) (hf : fl s left.length = true) (hn : s.size ≤ n + 1) : NfForm (levI (n + 1) L left s) := by
 obtain ⟨f1, f2, f3⟩ := fl_inv hf
 rw [levI_cand]
 have hne : (visG ltU 200 (lvl s).1).map (candI n L left s) ≠ [] := fun e => visG_ne ltU 199 _ (List.map_eq_nil_iff.1 e)
 obtain ⟨o, _, e⟩ := List.mem_map.1 (bestL_mem _ hne)
 refine ⟨_, _, rfl, fun t ht => ?_⟩
 rw [← e] at ht
 obtain ⟨T, hT, rfl⟩ := List.mem_map.1 ((mem_srtT _ _).1 ht)
 exact thI_form n _ _ T (lvl_kind s T hT) (neat_thr s hc T hT) (by rw [List.length_drop]; exact f3 T hT) (by have := lvl_size s T hT; omega)
theorem nfI_form {t r : Tm} (h : nfI t = some r) : NfForm r := by
 unfold nfI at h
 split at h
 ·cases h
 ·rename_i h1
  split at h
  ·cases h
   have hfl : fl (numb t) (othL t.usd).length = true := by
    cases e : fl (numb t) (othL t.usd).length with
    | true => rfl
    | false => exact absurd (.inr e) h1
   obtain ⟨m, hm⟩ : ∃ m, t.size = m + 1 := ⟨t.size - 1, by have := size_pos t; omega⟩
   have hsz : (numb t).size ≤ t.size := by unfold numb; rw [can_size]; exact sim_size t
   rw [hm] at hsz ⊢
   exact levI_form m id _ _ (neat_can _ _ _ (neat_sim t)) hfl hsz
  ·cases h
theorem form_lvl {r : Tm} (h : NfForm r) : (lvl r).1 = r.fro.1 ∧ (lvl r).2 = r.thrs ∧ ∀ T ∈ r.thrs, Thd T ∧ Flat T := by
 obtain ⟨ls, l, rfl, hl⟩ := h
 have h1 : ∀ T ∈ l, Thd T := fun T hT => (hl T hT).1
 rw [lvl_wrap, lvl_join l h1, fro_wrap, fro_join l h1, thrs_wrap ls l h1]
 exact ⟨rfl, rfl, hl⟩
def fnm (fr : List UInt8) (T : Tm) : List UInt8 := fr.filter fun z => decide (z ∈ T.free)
def shr (fr : List UInt8) (x y : Tm) : Prop := ∃ z, z ∈ fnm fr x ∧ z ∈ fnm fr y
def nmBk (fr : List UInt8) (B : List Tm) (z : UInt8) : Prop := ∃ x ∈ B, z ∈ fnm fr x
structure Blk (fr : List UInt8) (B : List Tm) : Prop where
 ne : B ≠ []
 con : ∀ R : Tm → Prop, (∃ x ∈ B, R x) → (∀ x ∈ B, ∀ y ∈ B, R x → shr fr x y → R y) → ∀ x ∈ B, R x
 one : 2 ≤ B.length → ∀ x ∈ B, fnm fr x ≠ []
def Apt (fr : List UInt8) (B D : List Tm) : Prop := ∀ z, nmBk fr B z → nmBk fr D z → False
theorem Apt.symm {fr : List UInt8} {B D : List Tm} (h : Apt fr B D) : Apt fr D B := fun z h1 h2 => h z h2 h1
structure Part (fr : List UInt8) (P : List (List Tm)) (us : List Tm) : Prop where
 flat : P.flatten.Perm us
 blk : ∀ B ∈ P, Blk fr B
 apt : P.Pairwise (Apt fr)
theorem blk_in {fr : List UInt8} {B D : List Tm} {P Q : List (List Tm)} (hB : Blk fr B) (hQ : ∀ E ∈ Q, Apt fr D E) (hf : ∀ y ∈ B, y ∈ D ∨ ∃ E ∈ Q, y ∈ E) {x : Tm} (hx : x ∈ B) (hxD : x ∈ D) : ∀ y ∈ B, y ∈ D := by
 refine hB.con (fun y => y ∈ D) ⟨x, hx, hxD⟩ fun a ha b hb had hs => ?_
 rcases hf b hb with h | ⟨E, hE, h⟩
 ·exact h
 ·obtain ⟨z, z1, z2⟩ := hs
  exact absurd ⟨b, h, z2⟩ (fun k => hQ E hE z ⟨a, had, z1⟩ k)
theorem cover {fr : List UInt8} {B : List Tm} {P : List (List Tm)} (hB : Blk fr B) (hP : ∀ E ∈ P, Apt fr B E) {x : Tm} (hx : x ∈ B) (hn : fnm fr x ≠ []) : ∀ y ∈ B, y ∉ P.flatten := by
 intro y hy hf
 obtain ⟨E, hE, hyE⟩ := List.mem_flatten.1 hf
 have hny : fnm fr y ≠ [] := by
  by_cases h2 : 2 ≤ B.length
  ·exact hB.one h2 y hy
  ·match B, hx, hy, h2 with
   | [a], hx, hy, _ =>
    rw [List.mem_singleton] at hx hy
    subst hx; subst hy; exact hn
   | a :: b :: l, _, _, h2 => exact absurd (by simp) h2
 obtain ⟨z, hz⟩ := List.exists_mem_of_ne_nil _ hny
 exact hP E hE z ⟨y, hy, hz⟩ ⟨y, hyE, hz⟩
open Classical in
theorem blk_perm {fr : List UInt8} {B D : List Tm} {P Q : List (List Tm)} (hB : Blk fr B) (hD : Blk fr D) (hP : ∀ E ∈ P, Apt fr B E) (hQ : ∀ E ∈ Q, Apt fr D E) (hf : (B ++ P.flatten).Perm (D ++ Q.flatten)) {x : Tm} (hx : x ∈ B) (hxD : x ∈ D) : B.Perm D := by
 have sing : ∀ {C : List Tm}, Blk fr C → x ∈ C → fnm fr x = [] → C = [x] := fun {C} hC hc h0 => by
  by_cases h2 : 2 ≤ C.length
  ·exact absurd h0 (hC.one h2 x hc)
  ·match C, hc, h2 with
   | [a], hc, _ => rw [List.mem_singleton] at hc; rw [hc]
   | a :: b :: l, _, h2 => exact absurd (by simp) h2
 by_cases h0 : fnm fr x = []
 ·rw [sing hB hx h0, sing hD hxD h0]
 ·have m1 : ∀ y ∈ B, y ∈ D := blk_in (P := P) hB hQ (fun y hy => by
   have := hf.mem_iff.1 (List.mem_append.2 (.inl hy))
   rcases List.mem_append.1 this with h | h
   ·exact .inl h
   ·obtain ⟨E, hE, hh⟩ := List.mem_flatten.1 h; exact .inr ⟨E, hE, hh⟩) hx hxD
  have m2 : ∀ y ∈ D, y ∈ B := blk_in (P := Q) hD hP (fun y hy => by
   have := hf.mem_iff.2 (List.mem_append.2 (.inl hy))
   rcases List.mem_append.1 this with h | h
   ·exact .inl h
   ·obtain ⟨E, hE, hh⟩ := List.mem_flatten.1 h; exact .inr ⟨E, hE, hh⟩) hxD hx
  rw [List.perm_iff_count]
  intro y
  by_cases hy : y ∈ B
  ·have c1 := cover hB hP hx h0 y hy
   have c2 := cover hD hQ hxD h0 y (m1 y hy)
   have hc := hf.count_eq y
   rw [List.count_append, List.count_append, List.count_eq_zero.2 c1, List.count_eq_zero.2 c2] at hc
   simpa using hc
  ·rw [List.count_eq_zero.2 hy, List.count_eq_zero.2 fun h => hy (m2 y h)]
theorem part_uniq {fr : List UInt8} : ∀ (P Q : List (List Tm)) (us : List Tm), Part fr P us → Part fr Q us → ∃ Q', Q'.Perm Q ∧ All2 List.Perm P Q' := by
 intro P
 induction P with
 | nil =>
  intro Q us hP hQ
  have hu : us = [] := hP.flat.symm.eq_nil
  subst hu
  cases Q with
  | nil => exact ⟨[], .refl _, .nil⟩
  | cons D Q =>
   have := hQ.flat.eq_nil
   rw [List.flatten_cons, List.append_eq_nil_iff] at this
   exact absurd this.1 (hQ.blk D (by simp)).ne
 | cons B P ih =>
  intro Q us hP hQ
  have hB := hP.blk B (by simp)
  obtain ⟨x, hx⟩ := List.exists_mem_of_ne_nil _ hB.ne
  have hxu : x ∈ us := hP.flat.mem_iff.1 (by rw [List.flatten_cons]; exact List.mem_append.2 (.inl hx))
  obtain ⟨D, hD, hxD⟩ := List.mem_flatten.1 (hQ.flat.mem_iff.2 hxu)
  obtain ⟨Q1, Q2, rfl⟩ := List.append_of_mem hD
  have hpm : (Q1 ++ D :: Q2).Perm (D :: (Q1 ++ Q2)) := List.perm_middle
  have hap : (D :: (Q1 ++ Q2)).Pairwise (Apt fr) := (hpm.pairwise_iff (fun h => Apt.symm h)).1 hQ.apt
  have hfl : (D ++ (Q1 ++ Q2).flatten).Perm us := by
   have : (D :: (Q1 ++ Q2)).flatten.Perm us := hpm.symm.flatten.trans hQ.flat
   rwa [List.flatten_cons] at this
  rw [List.pairwise_cons] at hap
  have hpP := List.pairwise_cons.1 hP.apt
  have hfP : (B ++ P.flatten).Perm us := by have := hP.flat; rwa [List.flatten_cons] at this
  have hperm := blk_perm hB (hQ.blk D hD) hpP.1 hap.1 (hfP.trans hfl.symm) hx hxD
  have hrest : P.flatten.Perm (Q1 ++ Q2).flatten := by
   have h1 : (D ++ P.flatten).Perm (D ++ (Q1 ++ Q2).flatten) := (hperm.symm.append_right _).trans (hfP.trans hfl.symm)
   exact (List.perm_append_left_iff D).1 h1
  obtain ⟨Q', h1, h2⟩ := ih (Q1 ++ Q2) P.flatten ⟨.refl _, fun E hE => hP.blk E (by simp [hE]), hpP.2⟩ ⟨hrest.symm, fun E hE => hQ.blk E (by simp only [List.mem_append, List.mem_cons] at hE ⊢; grind), hap.2⟩
  exact ⟨D :: Q', (h1.cons D).trans hpm.symm, .cons hperm h2⟩
theorem blk_single (fr : List UInt8) (T : Tm) : Blk fr [T] := by
 refine ⟨by simp, fun R h _ x hx => ?_, fun h => by simp at h⟩
 obtain ⟨y, hy, hr⟩ := h
 rw [List.mem_singleton] at hx hy
 rw [hx, ← hy]; exact hr
theorem blk_join {fr : List UInt8} {B D : List Tm} (hB : Blk fr B) (hD : Blk fr D) (h : ∃ z, nmBk fr B z ∧ nmBk fr D z) : Blk fr (B ++ D) := by
 obtain ⟨z, ⟨b, hb, zb⟩, ⟨d, hd, zd⟩⟩ := h
 have non : ∀ {C : List Tm} (hC : Blk fr C) {c : Tm}, c ∈ C → z ∈ fnm fr c → ∀ x ∈ C, fnm fr x ≠ [] := fun {C} hC {c} hc hz x hx => by
  by_cases h2 : 2 ≤ C.length
  ·exact hC.one h2 x hx
  ·match C, hc, hx, h2 with
   | [a], hc, hx, _ =>
    rw [List.mem_singleton] at hc hx
    subst hc; subst hx; intro e; rw [e] at hz; simp at hz
   | a :: b :: l, _, _, h2 => exact absurd (by simp) h2
 refine ⟨fun e => hB.ne (List.append_eq_nil_iff.1 e).1, fun R hR hcl => ?_, fun _ x hx => ?_⟩
 ·have cB : (∃ x ∈ B, R x) → ∀ x ∈ B, R x := fun h => hB.con R h fun x hx y hy => hcl x (List.mem_append.2 (.inl hx)) y (List.mem_append.2 (.inl hy))
  have cD : (∃ x ∈ D, R x) → ∀ x ∈ D, R x := fun h => hD.con R h fun x hx y hy => hcl x (List.mem_append.2 (.inr hx)) y (List.mem_append.2 (.inr hy))
  have bd : (∀ x ∈ B, R x) → ∀ x ∈ D, R x := fun h => cD ⟨d, hd, hcl b (List.mem_append.2 (.inl hb)) d (List.mem_append.2 (.inr hd)) (h b hb) ⟨z, zb, zd⟩⟩
  have db : (∀ x ∈ D, R x) → ∀ x ∈ B, R x := fun h => cB ⟨b, hb, hcl d (List.mem_append.2 (.inr hd)) b (List.mem_append.2 (.inl hb)) (h d hd) ⟨z, zd, zb⟩⟩
  obtain ⟨x, hx, hr⟩ := hR
  rcases List.mem_append.1 hx with hx | hx
  ·have h1 := cB ⟨x, hx, hr⟩
   have h2 := bd h1
   intro y hy; exact (List.mem_append.1 hy).elim (h1 y) (h2 y)
  ·have h2 := cD ⟨x, hx, hr⟩
   have h1 := db h2
   intro y hy; exact (List.mem_append.1 hy).elim (h1 y) (h2 y)
 ·rcases List.mem_append.1 hx with hx | hx
  ·exact non hB hb zb x hx
  ·exact non hD hd zd x hx
def nB (fr : List UInt8) (B : List Tm) : List UInt8 := fr.filter fun z => B.any fun x => decide (z ∈ x.free)
theorem mem_nB (fr : List UInt8) (B : List Tm) (z : UInt8) : z ∈ nB fr B ↔ nmBk fr B z := by
 unfold nB nmBk fnm
 simp only [List.mem_filter, List.any_eq_true, decide_eq_true_eq]
 constructor
 ·rintro ⟨h1, x, hx, h2⟩; exact ⟨x, hx, h1, h2⟩
 ·rintro ⟨x, hx, h1, h2⟩; exact ⟨h1, x, hx, h2⟩
theorem nB_perm (fr : List UInt8) {B D : List Tm} (h : B.Perm D) : nB fr B = nB fr D := by
 unfold nB
 refine List.filter_congr fun z _ => ?_
 rw [h.any_eq]
def tS (fr : List UInt8) (B : List Tm) : Tm := wrapO (nB fr B).reverse (joinR .par B)
def parN (B : List Tm) : Tm := B.foldl (fun s t => .par t s) .nil
def tI (fr : List UInt8) (B : List Tm) : Tm := wrapO (nB fr B).reverse (parN B)
theorem Cg.symm {a b : Tm} (h : Cg a b) : Cg b a := by
 induction h with
 | refl t => exact .refl t
 | trans _ _ ih ih2 => exact .trans ih2 ih
 | comm p q => exact .comm q p
 | assoc p q r => exact .assoc' p q r
 | assoc' p q r => exact .assoc p q r
 | nil p => exact .nil' p
 | nil' p => exact .nil p
 | swap x y p h => exact .swap y x p fun e => h e.symm
 | par _ _ ih ih2 => exact .par ih ih2
 | own x _ ih => exact .own x ih
theorem cg_wrap {a b : Tm} (h : Cg a b) : ∀ ls : List UInt8, Cg (wrapO ls a) (wrapO ls b) := by
 intro ls
 induction ls with
 | nil => exact h
 | cons x ls ih => exact .own x ih
theorem cg_join : ∀ B : List Tm, B ≠ [] → Cg (joinR .par B) (B.foldr .par .nil) := by
 intro B
 induction B with
 | nil => intro h; exact absurd rfl h
 | cons a l ih =>
  intro _
  cases l with
  | nil => exact .nil' a
  | cons b l => exact .par (.refl a) (ih (by simp))
theorem cg_foldr {B D : List Tm} (h : B.Perm D) : Cg (B.foldr .par .nil) (D.foldr .par .nil) := by
 induction h with
 | nil => exact .refl _
 | cons a _ ih => exact .par (.refl a) ih
 | swap a b l => exact .trans (.assoc' b a _) (.trans (.par (.comm b a) (.refl _)) (.assoc a b _))
 | trans _ _ ih ih2 => exact .trans ih ih2
theorem cg_block (fr : List UInt8) {B D : List Tm} (hB : B ≠ []) (h : B.Perm D) : Cg (tS fr B) (tI fr D) := by
 unfold tS tI
 rw [nB_perm fr h]
 refine cg_wrap (.trans (cg_join B hB) ?_) _
 have e : parN D = D.reverse.foldr .par .nil := by unfold parN; rw [List.foldr_reverse]
 rw [e]
 exact cg_foldr (h.trans (List.reverse_perm D).symm)
open Go.RowKit
set_option maxRecDepth 100000
theorem fro_ok {nm : UInt8 → Bool} (t : Tm) (h : t.ok nm = true) : t.fro.2.ok nm = true ∧ t.fro.2.pr.length ≤ t.pr.length ∧ t.fro.2.size ≤ t.size ∧ ∀ x p, t.fro.2 ≠ .own x p := by
 induction t with
 | own x p ih =>
  simp only [Tm.ok, Bool.and_eq_true] at h
  obtain ⟨h1, h2, h3, h4⟩ := ih h.2
  exact ⟨h1, by simp only [Tm.fro, Tm.pr, List.length_append, List.length_cons]; omega, by simp only [Tm.fro, Tm.size]; omega, h4⟩
 | _ => exact ⟨h, Nat.le_refl _, Nat.le_refl _, fun _ _ e => (by cases e)⟩
theorem kind_ow2 {t : Tm} (hE : t.ok nmE = true) (h : ∀ x p, t ≠ .own x p) : ((t.kind.toNat : Int) == 35) = false := by
 cases t <;> first | rfl | exact absurd rfl (h _ _)
theorem dat_inj {a b : ByteArray} (h : a.data.toList = b.data.toList) : a = b := by
 cases a; cases b; congr; exact Array.toList_inj.1 h
theorem BL (f : List UInt8) (x : UInt8) : B f ++ B [x] = B (f ++ [x]) := by
 apply dat_inj
 show (B f ++ B [x]).data.toList = (B (f ++ [x])).data.toList
 rw [ByteArray.data_append, Array.toList_append, B_list, B_list, B_list]
theorem nfFront_any (t : Tm) (hE : t.ok nmE = true) (hl : t.pr.length ≤ 700) (hs : t.size ≤ 500) (w : World) :
  Calls Tryz.prog 10 #[.string (S t)] w fun e w' => e = .returned (.tuple #[.string (B t.fro.1), .string (S t.fro.2)]) ∧ w = w' := by
 have HE := Lib.hid hE
 have HL := Lib.hid hl
 have HS := Lib.hid hs
 clear hE hl hs
 obtain ⟨X0, hX0⟩ : ∃ X, X = S t := ⟨_, rfl⟩
 have HX0 := Lib.hid hX0
 rw [← hX0]
 clear hX0
 go_enter Tryz.func10, Tryz.ntmps10
 go_wp2_with fail
 go_loopg [0, 4] 500 (fun g s0 s4 wr => (∃ X Y : ByteArray, s0 = .string X ∧ s4 = .string Y ∧ Y.size + g ≤ 500 ∧ Hid (∃ (f : List UInt8) (u : Tm), X = S u ∧ Y = B f ∧ t.fro = (f ++ u.fro.1, u.fro.2) ∧ u.ok nmE = true ∧ u.pr.length ≤ 700 ∧ u.size ≤ g)) ∧ wr = w)
 case atStart => exact ⟨⟨X0, ⟨#[]⟩, rfl, rfl, by decide, [], t, HX0.out, rfl, rfl, HE.out, HL.out, HS.out⟩, rfl⟩
 case round =>
  obtain ⟨⟨X, Y, rfl, rfl, hY, hex⟩, rfl⟩ := hrel
  obtain ⟨f, u, rfl, eY, ef, hu, hul, hus⟩ := hex.out
  have HK := Lib.hid (tmKind_any u hu hul wr)
  by_cases ho : ∃ x p, u = .own x p
  ·obtain ⟨x, p, rfl⟩ := ho
   have e1 : (S (Tm.own x p)).extract 1 2 = B [x] := by
    refine dat_inj ?_
    rw [ByteArray.data_extract, Array.toList_extract, List.extract_eq_take_drop, S_list, B_list]; rfl
   have e2 : (S (Tm.own x p)).extract 3 (S (Tm.own x p)).size = S p := ext_pre (t := .own x p) (p := p) (pre := [35, x, 46]) rfl
   have hz : (S (Tm.own x p)).size = p.pr.length + 3 := by rw [S_size]; simp [Tm.pr]
   simp only [Tm.pr, List.length_append, List.length_cons, List.length_nil] at hul
   simp only [Tm.size] at hus
   simp only [Tm.ok, Bool.and_eq_true] at hu
   have hk : (((Tm.own x p).kind.toNat : Nat) : Int) = 35 := rfl
   rw [hk] at HK
   obtain ⟨U, hU⟩ : ∃ U, U = S (Tm.own x p) := ⟨_, rfl⟩
   rw [← hU] at HK e1 e2 hz
   have hnew : Hid (∃ (f : List UInt8) (u : Tm), U.extract 3 U.size = S u ∧ Y ++ U.extract 1 2 = B f ∧ t.fro = (f ++ u.fro.1, u.fro.2) ∧ u.ok nmE = true ∧ u.pr.length ≤ 700 ∧ u.size ≤ gk - 1) :=
    ⟨f ++ [x], p, e2, by rw [eY, e1, BL], by rw [ef]; simp [Tm.fro], hu.2, by omega, by omega⟩
   have hy1 : (Y ++ U.extract 1 2).size = Y.size + 1 := by rw [ByteArray.size_append, e1, B_size]; rfl
   have hs3 : (3 : Int) ≤ (U.size : Int) := by omega
   have hs2 : (2 : Int) ≤ (U.size : Int) := by omega
   have hsU : U.size ≤ 1000 := by omega
   clear hz
   have he12 : (U.extract 1 2).size = 1 := by rw [e1, B_size]; rfl
   have hgp : 1 ≤ gk := by omega
   rw [← hU]
   clear hU eY ef hu hul hus hk e1 e2 hex
   go_wp2_with fail
   refine (HK.out).mono ?_
   rintro e w1 ⟨rfl, rfl⟩
   go_wp2_with fail
   go_roundg (gk - 1)
   case rel => exact ⟨⟨_, _, rfl, rfl, by omega, hnew⟩, rfl⟩
   case measure => omega
  ·have hno : ∀ x p, u ≠ .own x p := fun x p e => ho ⟨x, p, e⟩
   have hk := kind_ow2 hu hno
   have hfr : u.fro = ([], u) := by cases u <;> first | rfl | exact absurd rfl (hno _ _)
   have h1 : Hid (Y = B t.fro.1) := by show _ = _; rw [ef, hfr, eY]; simp
   have h2 : Hid (S u = S t.fro.2) := by show _ = _; rw [ef, hfr]
   obtain ⟨kk, hkk⟩ : ∃ kk : Int, kk = (u.kind.toNat : Int) := ⟨_, rfl⟩
   rw [← hkk] at HK hk
   obtain ⟨U, hU⟩ : ∃ U, U = S u := ⟨_, rfl⟩
   rw [← hU] at HK h2 ⊢
   clear hU hkk eY ef hu hul hus hex ho hno hfr
   go_wp2_with fail
   refine (HK.out).mono ?_
   rintro e w1 ⟨rfl, rfl⟩
   go_wp2_with fail
   go_ret2
   exact ⟨by rw [← h1.out, ← h2.out]; rfl, rfl⟩
theorem kind_ni2 {t : Tm} (h : t ≠ .nil) (hE : t.ok nmE = true) : ((t.kind.toNat : Int) == 48) = false := by
 cases t <;> first | rfl | exact absurd rfl h
theorem kind_pa2 {t : Tm} (h : ∀ p q, t ≠ .par p q) (hE : t.ok nmE = true) : ((t.kind.toNat : Int) == 38) = false := by
 cases t <;> first | rfl | exact absurd rfl (h _ _)
theorem pars_ne (t : Tm) : t.pars ≠ [] := by cases t <;> (intro e; cases e)
theorem pars_no {t : Tm} (h : ∀ p q, t ≠ .par p q) : t.pars = [t] := by
 cases t <;> first | rfl | exact absurd rfl (h _ _)
theorem pars_size (t : Tm) : t.pars.length ≤ t.size := by
 induction t with
 | par p q ih ih2 => simp only [Tm.pars, List.length_cons, Tm.size]; omega
 | _ => simp [Tm.pars, Tm.size]
theorem nfThreads_nil (X Y F : ByteArray) (hF : ∀ w, Calls Tryz.prog 10 #[.string X] w fun e w' => e = .returned (.tuple #[.string F, .string Y]) ∧ w = w') (hK : ∀ w, Calls Tryz.prog 28 #[.string Y] w fun e w' => e = .returned (.int .u8 48) ∧ w = w') (w : World) :
  Calls Tryz.prog 11 #[.string X] w (TxP [] 0 w) := by
 have HF := Lib.hid hF
 have HK := Lib.hid hK
 clear hF hK
 go_enter Tryz.func11, Tryz.ntmps11
 go_wp2_with fail
 refine (HF.out _).mono ?_
 rintro e w1 ⟨rfl, rfl⟩
 go_wp2_with fail
 refine (HK.out _).mono ?_
 rintro e w1 ⟨rfl, rfl⟩
 go_wp2_with fail
 go_ret
 exact ⟨_, rfl, World.ownsRow_nil _ _ _ _, Below.refl _ _⟩
theorem nfThreads_some (X F : ByteArray) (t : Tm) (hF : ∀ w, Calls Tryz.prog 10 #[.string X] w fun e w' => e = .returned (.tuple #[.string F, .string (S t)]) ∧ w = w') (hn : t ≠ .nil) (hE : t.ok nmE = true) (hl : t.pr.length ≤ 700) (hs : t.size ≤ 500) (w : World) :
  Calls Tryz.prog 11 #[.string X] w (TxP t.pars t.pars.length w) := by
 obtain ⟨i0, hi, hz0, hz1, hz2⟩ := info_parts Tryz.infoS
 have HF := Lib.hid hF
 have HK := Lib.hid (tmKind_any t hE hl)
 have hk0 := kind_ni2 hn hE
 have HE := Lib.hid hE
 have HL := Lib.hid hl
 have HS := Lib.hid hs
 have hps := pars_size t
 obtain ⟨k0, hk⟩ : ∃ k0 : Int, k0 = (t.kind.toNat : Int) := ⟨_, rfl⟩
 rw [← hk] at HK hk0
 obtain ⟨X0, hX0⟩ : ∃ X, X = S t := ⟨_, rfl⟩
 have HX0 := Lib.hid hX0
 rw [← hX0] at HF HK
 obtain ⟨N, hN⟩ : ∃ N, N = t.pars.length := ⟨_, rfl⟩
 have HN := Lib.hid hN
 rw [← hN] at hps ⊢
 clear hF hE hl hk hX0 hn hN
 go_enter Tryz.func11, Tryz.ntmps11
 go_wp2_with fail
 refine (HF.out _).mono ?_
 rintro e w1 ⟨rfl, rfl⟩
 go_wp2_with fail
 refine (HK.out _).mono ?_
 rintro e w1 ⟨rfl, rfl⟩
 go_wp2_with fail
 go_loopg [0, 3] 500 (fun g s0 s3 wr => (∃ (Y : ByteArray) (i : Nat), s0 = .string Y ∧ i + 1 ≤ N ∧ Hid (∃ (xs : List Tm) (u : Tm), Y = S u ∧ i = xs.length ∧ t.pars = xs ++ u.pars ∧ u.ok nmE = true ∧ u.pr.length ≤ 700 ∧ u.size ≤ g ∧ wr.ownsRow w.heap.size 9 1 s3 i (xs.map sv))) ∧ Hid (Below w.heap.size w wr))
 case atStart =>
  exact ⟨⟨X0, 0, rfl, by have := HN.out; have := pars_ne t; have : 0 < t.pars.length := List.length_pos_iff.2 (pars_ne t); omega, [], t, HX0.out, rfl, rfl, HE.out, HL.out, HS.out, World.ownsRow_nil _ _ _ _⟩, Below.refl _ _⟩
 case round =>
  obtain ⟨⟨Y, i, rfl, hiN, hex⟩, hbl⟩ := hrel
  obtain ⟨xs, u, rfl, hix, hpx, hu, hul, hus, hown⟩ := hex.out
  have HKu := Lib.hid (tmKind_any u hu hul wr)
  have HO := Lib.hid hown
  have hsz := hbl.out.size
  clear hex
  by_cases hp : ∃ p q, u = .par p q
  ·obtain ⟨p, q, rfl⟩ := hp
   have HP := Lib.hid (tmParts_any (.par p q) hu hul wr)
   have hk : (((Tm.par p q).kind.toNat : Nat) : Int) = 38 := rfl
   rw [hk] at HKu
   simp only [Tm.ok, Bool.and_eq_true] at hu
   simp only [Tm.pr, List.length_append, List.length_cons, List.length_nil] at hul
   simp only [Tm.size] at hus
   have hpl : (p :: q.pars).length ≤ t.pars.length := by rw [hpx]; simp [Tm.pars]
   have hiN2 : i + 2 ≤ N := by
    have := HN.out
    have h2 : t.pars.length = xs.length + (Tm.par p q).pars.length := by rw [hpx, List.length_append]
    have h3 : 0 < q.pars.length := List.length_pos_iff.2 (pars_ne q)
    simp only [Tm.pars, List.length_cons] at h2
    omega
   have hnew : Hid (t.pars = (xs ++ [p]) ++ q.pars ∧ i + 1 = (xs ++ [p]).length ∧ (xs ++ [p]).map sv = xs.map sv ++ [.string (S p)]) := ⟨by rw [hpx]; simp [Tm.pars], by rw [hix]; simp, by simp [sv]⟩
   have hq := Lib.hid (show q.ok nmE = true ∧ q.pr.length ≤ 700 ∧ q.size ≤ gk - 1 from ⟨hu.2, by omega, by omega⟩)
   obtain ⟨U, hU⟩ : ∃ U, U = S (Tm.par p q) := ⟨_, rfl⟩
   obtain ⟨A, hA⟩ : ∃ A, A = S p := ⟨_, rfl⟩
   obtain ⟨Bq, hB⟩ : ∃ Bq, Bq = S q := ⟨_, rfl⟩
   have HBq := Lib.hid hB
   have HP2 : Hid (Calls Tryz.prog 29 #[.string U] wr fun e w' => ∃ b, e = .returned (.slice (some ⟨b, 0, none⟩) 2 2) ∧ wr.heap.size ≤ b ∧ w'.heap[b]? = some (.cells #[.string A, .string Bq] 9 (0, 0)) ∧ Below wr.heap.size wr w') := by
    rw [hU, hA, hB]; exact HP.out
   rw [← hA] at hnew
   rw [← hU] at HKu ⊢
   have hgp : 1 ≤ gk := by omega
   clear hU hA hB HP hu hul hus hpl hk hpx hix hown
   go_wp2_with fail
   refine (HKu.out).mono ?_
   rintro e w2 ⟨rfl, rfl⟩
   go_wp2_with fail
   refine (HP2.out).mono ?_
   rintro e w3 ⟨b, rfl, hb, hh, b3⟩
   have c0 := cellOf2a hh
   have hO3 := Lib.hid (own_below2 HO.out b3)
   have hbl3 := Lib.hid (below_go hbl.out b3)
   have HH := Lib.hid hh
   have hblt := lt_of_block hh
   have hne : Hid (∀ g, u3.ownBlock = some g → g < b ∧ w.heap.size ≤ g) := fun g e => by
    have := HO.out.lt g e
    exact ⟨by omega, this.1⟩
   clear hb hh b3 hbl HO
   go_wp2_with (at_builtin; refine wpList_append_rows rfl (.tmp 18) (.tmp 22) 22 rfl w.heap.size w.heap.size 9 i0 (.string ⟨#[]⟩) 16 Tryz.underlying22 hi hz0 hz1 hz2 rfl u3 i _ rfl (hO3.out.alloc _) _ 1 [.string A] rfl (own_new1 w3 (.string A) 9 w.heap.size hbl3.out.size) (fun u hu => by simp at hu; subst hu; rfl) ?c2 ?c3 ?c4 ?_)
   case c2 => unfold maxLen; omega
   case c3 => omega
   case c4 => have := hbl3.out.size; simp; omega
   intro v4 w4 hown4 hgrow4 _
   have hb4 : w4.heap[b]? = some (.cells #[.string A, .string Bq] 9 (0, 0)) := by
    rw [hgrow4.block b (by simp; omega) (fun e => by have := hne.out b e.symm; omega)]
    exact (heap_alloc_old w3 _ hblt).trans HH.out
   have c1 := cellOf2b hb4
   have O4 : Hid (w4.ownsRow w.heap.size 9 1 v4 (i + 1) ((xs ++ [p]).map sv)) := by
    show World.ownsRow _ _ _ _ _ _ _
    rw [hnew.out.2.2]; exact hown4
   have bl4 := Lib.hid (below_grown2 (hbl3.out.alloc hbl3.out.size _) hgrow4 (fun g e => (hne.out g e).2) (by have := hbl3.out.size; simp; omega))
   clear hown4 hgrow4 hb4 hbl3 hO3 HH
   go_wp2_with fail
   go_roundg (gk - 1)
   case rel => exact ⟨⟨_, i + 1, rfl, by omega, xs ++ [p], q, HBq.out, hnew.out.2.1, hnew.out.1, hq.out.1, hq.out.2.1, hq.out.2.2, O4.out⟩, bl4⟩
   case measure => omega
  ·have hno : ∀ p q, u ≠ .par p q := fun p q e => hp ⟨p, q, e⟩
   have hk := kind_pa2 hno hu
   have hpp := pars_no hno
   have hfin : Hid (i + 1 = N ∧ t.pars.map sv = xs.map sv ++ [.string (S u)]) := ⟨by rw [HN.out, hpx, hpp, hix]; simp, by rw [hpx, hpp]; simp [sv]⟩
   obtain ⟨kk, hkk⟩ : ∃ kk : Int, kk = (u.kind.toNat : Int) := ⟨_, rfl⟩
   rw [← hkk] at HKu hk
   obtain ⟨U, hU⟩ : ∃ U, U = S u := ⟨_, rfl⟩
   rw [← hU] at HKu hfin ⊢
   have hne : Hid (∀ g, u3.ownBlock = some g → w.heap.size ≤ g) := fun g e => (HO.out.lt g e).1
   clear hU hkk hpx hix hu hul hus hp hno hpp hown
   go_wp2_with fail
   refine (HKu.out).mono ?_
   rintro e w2 ⟨rfl, rfl⟩
   go_wp2_with (at_builtin; refine wpList_append_rows rfl (.tmp 27) (.tmp 29) 22 rfl w.heap.size w.heap.size 9 i0 (.string ⟨#[]⟩) 16 Tryz.underlying22 hi hz0 hz1 hz2 rfl u3 i _ rfl (HO.out.alloc _) _ 1 [.string U] rfl (own_new1 _ (.string U) 9 w.heap.size hsz) (fun u hu => by simp at hu; subst hu; rfl) ?c2 ?c3 ?c4 ?_)
   case c2 => unfold maxLen; omega
   case c3 => omega
   case c4 => simp; omega
   intro v4 w4 hown4 hgrow4 _
   have O4 : Hid (w4.ownsRow w.heap.size 9 1 v4 N (t.pars.map sv)) := by
    show World.ownsRow _ _ _ _ _ _ _
    rw [hfin.out.2, ← hfin.out.1]; exact hown4
   have bl4 := Lib.hid (below_grown2 (hbl.out.alloc hsz _) hgrow4 (fun g e => hne.out g e) (by simp; omega))
   clear hown4 hgrow4
   go_wp2_with fail
   go_ret
   exact ⟨_, rfl, O4.out, bl4.out⟩
theorem thrs_pars {t : Tm} (h : t.fro.2 ≠ .nil) : t.thrs = t.fro.2.pars := by
 unfold Tm.thrs
 cases e : t.fro.2 <;> first | rfl | exact absurd e h
theorem nfThreads_any (t : Tm) (hE : t.ok nmE = true) (hl : t.pr.length ≤ 700) (hs : t.size ≤ 500) (w : World) :
  Calls Tryz.prog 11 #[.string (S t)] w (TxP t.thrs t.thrs.length w) := by
 obtain ⟨h1, h2, h3, h4⟩ := fro_ok t hE
 by_cases hn : t.fro.2 = .nil
 ·have e : t.thrs = [] := by unfold Tm.thrs; rw [hn]
  rw [e]
  have hF := nfFront_any t hE hl hs
  rw [hn] at hF
  exact nfThreads_nil (S t) (S .nil) _ hF (fun w => tmKind_any .nil rfl (by simp [Tm.pr]) w) w
 ·rw [thrs_pars hn]
  exact nfThreads_some (S t) _ t.fro.2 (nfFront_any t hE hl hs) hn h1 (by omega) (by omega) w
noncomputable def nfO (s : ByteArray) : Option Tm := (good s.data.toList).bind nfI
theorem nfO_some {s : ByteArray} {r : Tm} (h : nfO s = some r) : NfForm r ∧ r.ok nmL = true ∧ r.pr.length ≤ 300 ∧ r.size ≤ 60 := by
 unfold nfO at h
 cases hg : good s.data.toList with
 | none => rw [hg] at h; cases h
 | some t =>
  rw [hg] at h
  have h' : nfI t = some r := h
  refine ⟨nfI_form h', ?_⟩
  unfold nfI at h'
  split at h'
  ·cases h'
  ·split at h'
   ·rename_i hh; cases h'; exact hh
   ·cases h'
theorem nO_no (s : ByteArray) (n1 : ∀ w, Calls Tryz.prog 36 #[.string s] w fun e w' => e = .returned (.tuple #[.nilIface, .bool false]) ∧ Below w.heap.size w w') (w : World) : Calls Tryz.prog 19 #[.string s] w fun e w' => e = .returned (.tuple #[.nilIface, .bool false]) ∧ Below w.heap.size w w' := by
 have Hn1 := Lib.hid n1
 clear n1
 go_enter Tryz.func19, Tryz.ntmps19
 go_wp2_with fail
 refine (Hn1.out _).mono ?_
 rintro e w1 ⟨rfl, c1⟩
 have b1 := c1
 go_wp2_with fail
 go_ret2
 exact ⟨rfl, b1⟩
theorem nO_yes (s : ByteArray) (T : TypeId) (V PV : Value) (b : Bool) (n1 : ∀ w, Calls Tryz.prog 36 #[.string s] w fun e w' => e = .returned (.tuple #[.iface T V, .bool true]) ∧ Below w.heap.size w w') (n2 : ∀ w, Calls Tryz.prog 37 #[.iface T V] w fun e w' => e = .returned (.tuple #[PV, .bool b]) ∧ Below w.heap.size w w') (w : World) : Calls Tryz.prog 19 #[.string s] w fun e w' => e = .returned (.tuple #[PV, .bool b]) ∧ Below w.heap.size w w' := by
 have Hn1 := Lib.hid n1
 have Hn2 := Lib.hid n2
 clear n1 n2
 go_enter Tryz.func19, Tryz.ntmps19
 go_wp2_with fail
 refine (Hn1.out _).mono ?_
 rintro e w1 ⟨rfl, c1⟩
 have b1 := c1
 go_wp2_with fail
 refine (Hn2.out _).mono ?_
 rintro e w2 ⟨rfl, c2⟩
 have b2 := below_go b1 c2
 go_wp2_with fail
 go_ret2
 exact ⟨rfl, b2⟩
theorem implO (s : ByteArray) (hm : s.size ≤ 9223372036854775807) (w : World) : Calls Tryz.prog 19 #[.string s] w fun e w' => e = .returned (.tuple #[nfV (nfO s), .bool (nfO s).isSome]) ∧ Below w.heap.size w w' := by
 unfold nfO
 cases hg : good s.data.toList with
 | none => exact nO_no s (fun w => parse_none hg w hm) w
 | some t =>
  obtain ⟨es, hL, hE, h300, h60⟩ := good_S hg
  exact nO_yes s _ _ _ _ (fun w => parse_some hg w hm) (normalForm_any t hL (by omega) (by omega)) w
theorem specO (s : ByteArray) (hm : s.size ≤ 9223372036854775807) (w : World) : Calls Tryz.prog 9 #[.string s] w (TwoS (optS (nfO s)) (nfO s).isSome w) := by
 unfold nfO
 cases hg : good s.data.toList with
 | none => exact sN_no s (fun w => tmGood_none hg w hm) w
 | some t =>
  obtain ⟨es, hL, hE, h300, h60⟩ := good_S hg
  have hf : FitT t := .inl (fit_ok t hL (by omega))
  have h1 := nfIf_any t (by omega) hf hL (by omega)
  rw [nf_same hL (by omega) hf, ← es] at h1
  exact sN_yes s _ _ (fun w => tmGood_some hg w hm) h1 w
end Go.Proofs.YtllnplabiehcgabGreat.T1
