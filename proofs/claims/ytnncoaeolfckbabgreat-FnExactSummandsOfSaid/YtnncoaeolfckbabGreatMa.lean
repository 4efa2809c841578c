/- The form of a normal form, plain: names at its front, its threads, the parts of its sums. -/
import Derived.Test.YtnncoaeolfckbabGreatGaj
namespace Go.Proofs.YtnncoaeolfckbabGreat.T1
set_option linter.unusedVariables false
set_option linter.unusedSimpArgs false

/-- Neither side by side, nor behind a name of its own, nor 0. -/
def Thd (T : Tm) : Prop := (∀ p q, T ≠ .par p q) ∧ (∀ x p, T ≠ .own x p) ∧ T ≠ .nil
/-- The names in front, and what is behind them. -/
def Tm.fro : Tm → List UInt8 × Tm
  | .own x p => (x :: p.fro.1, p.fro.2)
  | t => ([], t)
/-- The parts side by side, from the left. -/
def Tm.pars : Tm → List Tm
  | .par p q => p :: q.pars
  | t => [t]
def Tm.sumR : Tm → List Tm
  | .sum p q => p :: q.sumR
  | t => [t]
/-- The threads as the specification finds them. -/
def Tm.thrs (t : Tm) : List Tm := match t.fro.2 with
  | .nil => []
  | u => u.pars
theorem thd_lvl {T : Tm} (h : Thd T) : lvl T = ([], [T]) := by
  cases T with
  | nil => exact absurd rfl h.2.2
  | par p q => exact absurd rfl (h.1 p q)
  | own x p => exact absurd rfl (h.2.1 x p)
  | _ => rfl
theorem thd_fro {T : Tm} (h : Thd T) : T.fro = ([], T) := by
  cases T with
  | own x p => exact absurd rfl (h.2.1 x p)
  | _ => rfl
theorem thd_pars {T : Tm} (h : Thd T) : T.pars = [T] := by
  cases T with
  | par p q => exact absurd rfl (h.1 p q)
  | _ => rfl
theorem lvl_join : ∀ l : List Tm, (∀ T ∈ l, Thd T) → lvl (joinR .par l) = ([], l)
  | [], _ => rfl
  | [a], h => thd_lvl (h a (by simp))
  | a :: b :: l, h => by
    have h1 := thd_lvl (h a (by simp))
    have h2 := lvl_join (b :: l) fun T hT => h T (by simp [hT])
    show ((lvl a).1 ++ (lvl (joinR .par (b :: l))).1, (lvl a).2 ++ (lvl (joinR .par (b :: l))).2) = _
    rw [h1, h2]; rfl
theorem lvl_wrap (t : Tm) : ∀ ls : List UInt8, lvl (wrapO ls t) = (ls ++ (lvl t).1, (lvl t).2)
  | [] => rfl
  | a :: ls => by
    have := lvl_wrap t ls
    show (a :: (lvl (wrapO ls t)).1, (lvl (wrapO ls t)).2) = _
    rw [this]; rfl
theorem fro_join (l : List Tm) (h : ∀ T ∈ l, Thd T) : (joinR .par l).fro = ([], joinR .par l) := by
  cases l with
  | nil => rfl
  | cons a l =>
    cases l with
    | nil => exact thd_fro (h a (by simp))
    | cons b l => rfl
theorem fro_wrap (t : Tm) : ∀ ls : List UInt8, (wrapO ls t).fro = (ls ++ t.fro.1, t.fro.2)
  | [] => rfl
  | a :: ls => by
    have := fro_wrap t ls
    show (a :: (wrapO ls t).fro.1, (wrapO ls t).fro.2) = _
    rw [this]; rfl
theorem pars_join : ∀ l : List Tm, l ≠ [] → (∀ T ∈ l, Thd T) → (joinR .par l).pars = l
  | [], h, _ => absurd rfl h
  | [a], _, h => thd_pars (h a (by simp))
  | a :: b :: l, _, h => by
    have := pars_join (b :: l) (by simp) fun T hT => h T (by simp [hT])
    show a :: (joinR .par (b :: l)).pars = _
    rw [this]
theorem join_notnil (l : List Tm) (hl : l ≠ []) (h : ∀ T ∈ l, Thd T) : joinR .par l ≠ .nil := by
  cases l with
  | nil => exact absurd rfl hl
  | cons a l =>
    cases l with
    | nil => exact (h a (by simp)).2.2
    | cons b l => intro e; cases e
theorem thrs_wrap (ls : List UInt8) (l : List Tm) (h : ∀ T ∈ l, Thd T) : (wrapO ls (joinR .par l)).thrs = l := by
  unfold Tm.thrs
  rw [fro_wrap, fro_join l h]
  by_cases hl : l = []
  · subst hl; rfl
  · have h1 := join_notnil l hl h
    have h2 := pars_join l hl h
    generalize joinR .par l = u at *
    cases u with
    | nil => exact absurd rfl h1
    | _ => exact h2
def NotS (t : Tm) : Prop := ∀ p q, t ≠ .sum p q
theorem nots_smds {t : Tm} (h : NotS t) : smds t = [t] := by
  cases t with
  | sum p q => exact absurd rfl (h p q)
  | _ => rfl
theorem nots_sumR {t : Tm} (h : NotS t) : t.sumR = [t] := by
  cases t with
  | sum p q => exact absurd rfl (h p q)
  | _ => rfl
theorem smds_join : ∀ l : List Tm, l ≠ [] → (∀ t ∈ l, NotS t) → smds (joinR .sum l) = l ∧ (joinR .sum l).sumR = l
  | [], h, _ => absurd rfl h
  | [a], _, h => ⟨nots_smds (h a (by simp)), nots_sumR (h a (by simp))⟩
  | a :: b :: l, _, h => by
    obtain ⟨h1, h2⟩ := smds_join (b :: l) (by simp) fun T hT => h T (by simp [hT])
    constructor
    · show smds a ++ smds (joinR .sum (b :: l)) = _
      rw [nots_smds (h a (by simp)), h1]; rfl
    · show a :: (joinR .sum (b :: l)).sumR = _
      rw [h2]
/-- The parts of a sum as they come from the left are all of its parts. -/
def Flat (T : Tm) : Prop := smds T = T.sumR
theorem smds_nots (t : Tm) : ∀ q ∈ smds t, NotS q := by
  induction t with
  | sum p q ih ih2 => intro r hr; simp only [smds, List.mem_append] at hr; exact hr.elim (ih r) (ih2 r)
  | _ => intro r hr; simp only [smds, List.mem_singleton] at hr; subst hr; intro a b e; cases e
/-- Nothing is left that the laws leave out, on either side. -/
def Neat : Tm → Prop
  | .nil => True
  | .snd _ _ p => Neat p
  | .rcv _ _ p => Neat p
  | .tau p => Neat p
  | .sum p q => Neat p ∧ Neat q
  | .par p q => (p ≠ .nil ∧ q ≠ .nil) ∧ Neat p ∧ Neat q
  | .own _ p => p ≠ .nil ∧ Neat p
  | .mat _ _ p => Neat p
  | .rep p => Neat p
theorem neat_clean (t : Tm) (h : Neat t) : Clean t := by
  induction t with
  | nil => trivial
  | snd a b p ih => exact ih h
  | rcv a x p ih => exact ih h
  | tau p ih => exact ih h
  | sum p q ih ih2 => exact ⟨ih h.1, ih2 h.2⟩
  | par p q ih ih2 => exact ⟨h.1.1, ih h.2.1, ih2 h.2.2⟩
  | own x p ih => exact ⟨h.1, ih h.2⟩
  | mat a b p ih => exact ih h
  | rep p ih => exact ih h
theorem neat_sim (t : Tm) : Neat t.sim := by
  induction t with
  | nil => trivial
  | snd a b p ih => exact ih
  | rcv a x p ih => exact ih
  | tau p ih => exact ih
  | sum p q ih ih2 =>
    unfold Tm.sim
    split
    · exact ih2
    · split
      · exact ih
      · exact ⟨ih, ih2⟩
  | par p q ih ih2 =>
    unfold Tm.sim
    split
    · exact ih2
    · split
      · exact ih
      · rename_i h1 h2; exact ⟨⟨h1, h2⟩, ih, ih2⟩
  | own x p ih =>
    unfold Tm.sim
    split
    · rename_i h; exact ⟨fun e => by rw [e] at h; simp [Tm.free] at h, ih⟩
    · exact ih
  | mat a b p ih => unfold Tm.sim; split <;> exact ih
  | rep p ih => unfold Tm.sim; split <;> exact ih
theorem neat_can (s : Tm) : ∀ (f : UInt8 → UInt8) (ns : List UInt8), Neat s → Neat (can s f ns) := by
  induction s with
  | nil => intro f ns h; trivial
  | snd a b p ih => intro f ns h; exact ih _ _ h
  | rcv a x p ih => intro f ns h; exact ih _ _ h
  | tau p ih => intro f ns h; exact ih _ _ h
  | mat a b p ih => intro f ns h; exact ih _ _ h
  | rep p ih => intro f ns h; exact ih _ _ h
  | sum p q ih ih2 => intro f ns h; exact ⟨ih _ _ h.1, ih2 _ _ h.2⟩
  | par p q ih ih2 => intro f ns h; exact ⟨⟨fun e => h.1.1 (can_nil e), fun e => h.1.2 (can_nil e)⟩, ih _ _ h.2.1, ih2 _ _ h.2.2⟩
  | own x p ih => intro f ns h; exact ⟨fun e => h.1 (can_nil e), ih _ _ h.2⟩
theorem neat_thr (s : Tm) (h : Neat s) : ∀ T ∈ (lvl s).2, Neat T := by
  induction s with
  | nil => intro T hT; simp [lvl] at hT
  | own x p ih => exact ih h.2
  | par p q ih ih2 =>
    intro T hT
    simp only [lvl, List.mem_append] at hT
    exact hT.elim (ih h.2.1 T) (ih2 h.2.2 T)
  | _ => intro T hT; simp only [lvl, List.mem_singleton] at hT; rw [hT]; exact h
theorem neat_smds (s : Tm) (h : Neat s) : ∀ q ∈ smds s, Neat q := by
  induction s with
  | sum p q ih ih2 =>
    intro T hT
    simp only [smds, List.mem_append] at hT
    exact hT.elim (ih h.1 T) (ih2 h.2 T)
  | _ => intro T hT; simp only [smds, List.mem_singleton] at hT; rw [hT]; exact h
theorem srt_one (x : Tm) : srtT [x] = [x] := by unfold srtT; exact List.mergeSort_singleton _
theorem join_two (c : Tm → Tm → Tm) (l : List Tm) (h : 2 ≤ l.length) : ∃ a b, joinR c l = c a b := by
  match l with
  | [] => simp at h
  | [a] => simp at h
  | a :: b :: l => exact ⟨_, _, rfl⟩
theorem levI_one (n : Nat) (L : UInt8 → UInt8) (left : List UInt8) (s x : Tm) (h0 : (lvl s).1 = []) (h1 : (lvl s).2 = [s]) (hx : ∀ o, thI (levI n) (updL L o left) (left.drop (lvl s).1.length) s = x → True) :
    ∃ o, levI (n + 1) L left s = thI (levI n) (updL L o left) (left.drop (lvl s).1.length) s := by
  rw [levI_cand]
  have hne : (visG ltU 200 (lvl s).1).map (candI n L left s) ≠ [] := fun e => visG_ne ltU 199 _ (List.map_eq_nil_iff.1 e)
  obtain ⟨o, _, e⟩ := List.mem_map.1 (bestL_mem _ hne)
  refine ⟨o, ?_⟩
  rw [← e]
  unfold candI
  rw [h1, h0]
  simp only [List.length_nil, List.take_zero, List.map_cons, List.map_nil]
  rw [srt_one]; rfl
/-- What a level of a process that is no sum is made to is no sum. -/
theorem levI_nots (n : Nat) (L : UInt8 → UInt8) (left : List UInt8) (s : Tm) (hc : Neat s) (hf : fl s left.length = true) (hs : NotS s) (hn : s.size ≤ n) : NotS (levI n L left s) := by
  cases n with
  | zero => have := size_pos s; omega
  | succ n =>
    obtain ⟨f1, f2, f3⟩ := fl_inv hf
    have hfr : (lvl s).1 ≠ [] → NotS (levI (n + 1) L left s) := by
      intro h
      rw [levI_cand]
      cases hh : left.take (lvl s).1.length with
      | nil =>
        have := congrArg List.length hh
        rw [List.length_take, List.length_nil] at this
        have h0 : 0 < (lvl s).1.length := List.length_pos_iff.2 h
        omega
      | cons a l => intro p q e; cases e
    cases s with
    | nil => rw [levI_nil]; intro p q e; cases e
    | sum p q => exact absurd rfl (hs p q)
    | own x p => exact hfr (by simp [lvl])
    | snd a b p => obtain ⟨o, e⟩ := levI_one n L left (.snd a b p) .nil rfl rfl (fun _ _ => trivial); rw [e]; intro p q e; cases e
    | rcv a x p => obtain ⟨o, e⟩ := levI_one n L left (.rcv a x p) .nil rfl rfl (fun _ _ => trivial); rw [e]; intro p q e; cases e
    | tau p => obtain ⟨o, e⟩ := levI_one n L left (.tau p) .nil rfl rfl (fun _ _ => trivial); rw [e]; intro p q e; cases e
    | rep p => obtain ⟨o, e⟩ := levI_one n L left (.rep p) .nil rfl rfl (fun _ _ => trivial); rw [e]; intro p q e; cases e
    | mat a b p =>
      obtain ⟨o, e⟩ := levI_one n L left (.mat a b p) .nil rfl rfl (fun _ _ => trivial)
      rw [e]; intro p q e
      simp only [thI] at e
      split at e <;> cases e
    | par p q =>
      by_cases h0 : (lvl (.par p q)).1 = []
      · have h1 : 1 ≤ (lvl p).2.length := List.length_pos_iff.2 (clean_lvl p (neat_clean p hc.2.1) hc.1.1)
        have h2 : 1 ≤ (lvl q).2.length := List.length_pos_iff.2 (clean_lvl q (neat_clean q hc.2.2) hc.1.2)
        rw [levI_cand]
        have hne : (visG ltU 200 (lvl (.par p q)).1).map (candI n L left (.par p q)) ≠ [] := fun e => visG_ne ltU 199 _ (List.map_eq_nil_iff.1 e)
        obtain ⟨o, _, e⟩ := List.mem_map.1 (bestL_mem _ hne)
        rw [← e, h0]
        obtain ⟨a, b, e2⟩ := join_two .par (candI n L left (.par p q) o) (by rw [(candI_txt n L left (.par p q) o).1]; simp only [lvl, List.length_append]; omega)
        rw [e2]
        intro u v e3; cases e3
      · exact hfr h0
theorem smds_sum2 (p q : Tm) : 2 ≤ (smds (.sum p q)).length := by
  have h1 : 1 ≤ (smds p).length := List.length_pos_iff.2 (smds_nil p)
  have h2 : 1 ≤ (smds q).length := List.length_pos_iff.2 (smds_nil q)
  simp only [smds, List.length_append]; omega
/-- What a thread is made to is a thread, and its sum is flat. -/
theorem thI_form (n : Nat) (L : UInt8 → UInt8) (left : List UInt8) (T : Tm) (hk : Thd T) (hc : Neat T) (htf : tf T left.length = true) (hn : T.size ≤ n + 1) : Thd (thI (levI n) L left T) ∧ Flat (thI (levI n) L left T) := by
  have hsimple : ∀ t : Tm, Thd t → NotS t → Thd t ∧ Flat t := fun t h1 h2 => ⟨h1, by unfold Flat; rw [nots_smds h2, nots_sumR h2]⟩
  cases T with
  | nil => exact absurd rfl hk.2.2
  | par p q => exact absurd rfl (hk.1 p q)
  | own x p => exact absurd rfl (hk.2.1 x p)
  | snd a b p => exact hsimple _ ⟨fun _ _ e => (by cases e), fun _ _ e => (by cases e), fun e => (by cases e)⟩ (fun _ _ e => (by cases e))
  | tau p => exact hsimple _ ⟨fun _ _ e => (by cases e), fun _ _ e => (by cases e), fun e => (by cases e)⟩ (fun _ _ e => (by cases e))
  | rep p => exact hsimple _ ⟨fun _ _ e => (by cases e), fun _ _ e => (by cases e), fun e => (by cases e)⟩ (fun _ _ e => (by cases e))
  | rcv a x p => exact hsimple _ ⟨fun _ _ e => (by cases e), fun _ _ e => (by cases e), fun e => (by cases e)⟩ (fun _ _ e => (by cases e))
  | mat a b p =>
    simp only [thI]
    split
    · exact hsimple _ ⟨fun _ _ e => (by cases e), fun _ _ e => (by cases e), fun e => (by cases e)⟩ (fun _ _ e => (by cases e))
    · exact hsimple _ ⟨fun _ _ e => (by cases e), fun _ _ e => (by cases e), fun e => (by cases e)⟩ (fun _ _ e => (by cases e))
  | sum p q =>
    have hsm := (smds_fl (.sum p q) left.length).1 (by rw [tf_sum]; exact htf)
    have e1 : thI (levI n) L left (.sum p q) = joinR .sum (srtT ((smds (.sum p q)).map (levI n L left))) := rfl
    rw [e1]
    have hlen : 2 ≤ (srtT ((smds (.sum p q)).map (levI n L left))).length := by rw [srtT_len, List.length_map]; exact smds_sum2 p q
    have hnots : ∀ t ∈ srtT ((smds (.sum p q)).map (levI n L left)), NotS t := fun t ht => by
      obtain ⟨r, hr, rfl⟩ := List.mem_map.1 ((mem_srtT _ _).1 ht)
      refine levI_nots n L left r (neat_smds _ hc r hr) (hsm r hr) (smds_nots _ r hr) ?_
      have : r.size < (Tm.sum p q).size := by
        simp only [smds, List.mem_append] at hr
        simp only [Tm.size]
        rcases hr with hr | hr
        · have := smds_size p r hr; omega
        · have := smds_size q r hr; omega
      omega
    obtain ⟨h1, h2⟩ := smds_join _ (fun e => by rw [e] at hlen; simp at hlen) hnots
    refine ⟨?_, by unfold Flat; rw [h1, h2]⟩
    obtain ⟨a, b, e2⟩ := join_two .sum _ hlen
    rw [e2]
    exact ⟨fun _ _ e => (by cases e), fun _ _ e => (by cases e), fun e => (by cases e)⟩
/-- The form of a normal form. -/
def NfForm (r : Tm) : Prop := ∃ ls l, r = wrapO ls (joinR .par l) ∧ ∀ T ∈ l, Thd T ∧ Flat T
theorem levI_form (n : Nat) (L : UInt8 → UInt8) (left : List UInt8) (s : Tm) (hc : Neat s) (hf : fl s left.length = true) (hn : s.size ≤ n + 1) : NfForm (levI (n + 1) L left s) := by
  obtain ⟨f1, f2, f3⟩ := fl_inv hf
  rw [levI_cand]
  have hne : (visG ltU 200 (lvl s).1).map (candI n L left s) ≠ [] := fun e => visG_ne ltU 199 _ (List.map_eq_nil_iff.1 e)
  obtain ⟨o, _, e⟩ := List.mem_map.1 (bestL_mem _ hne)
  refine ⟨_, _, rfl, fun t ht => ?_⟩
  rw [← e] at ht
  obtain ⟨T, hT, rfl⟩ := List.mem_map.1 ((mem_srtT _ _).1 ht)
  exact thI_form n _ _ T (lvl_kind s T hT) (neat_thr s hc T hT) (by rw [List.length_drop]; exact f3 T hT) (by have := lvl_size s T hT; omega)
theorem nfI_form {t r : Tm} (h : nfI t = some r) : NfForm r := by
  unfold nfI at h
  split at h
  · cases h
  · rename_i h1
    split at h
    · cases h
      have hfl : fl (numb t) (othL t.usd).length = true := by
        cases e : fl (numb t) (othL t.usd).length with
        | true => rfl
        | false => exact absurd (.inr e) h1
      obtain ⟨m, hm⟩ : ∃ m, t.size = m + 1 := ⟨t.size - 1, by have := size_pos t; omega⟩
      have hsz : (numb t).size ≤ t.size := by unfold numb; rw [can_size]; exact sim_size t
      rw [hm] at hsz ⊢
      exact levI_form m id _ _ (neat_can _ _ _ (neat_sim t)) hfl hsz
    · cases h
theorem form_lvl {r : Tm} (h : NfForm r) : (lvl r).1 = r.fro.1 ∧ (lvl r).2 = r.thrs ∧ ∀ T ∈ r.thrs, Thd T ∧ Flat T := by
  obtain ⟨ls, l, rfl, hl⟩ := h
  have h1 : ∀ T ∈ l, Thd T := fun T hT => (hl T hT).1
  rw [lvl_wrap, lvl_join l h1, fro_wrap, fro_join l h1, thrs_wrap ls l h1]
  exact ⟨rfl, rfl, hl⟩

end Go.Proofs.YtnncoaeolfckbabGreat.T1
