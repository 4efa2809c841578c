/- Texts of the proof, put together: Ma, Pg, Mb, Mc, Md, Me, Pf. No conditions. -/
import Derived.Test.YtnkjbdgnmgoefaaGreatHaw
import Derived.Test.YtnkjbdgnmgoefaaGreatHby

/- The form of a normal form, plain: names at its front, its threads, the parts of its sums. -/
namespace Go.Proofs.YtnkjbdgnmgoefaaGreat.T1
set_option linter.unusedVariables false
set_option linter.unusedSimpArgs false

/-- Neither side by side, nor behind a name of its own, nor 0. -/
def Thd (T : Tm) : Prop := (∀ p q, T ≠ .par p q) ∧ (∀ x p, T ≠ .own x p) ∧ T ≠ .nil
/-- The names in front, and what is behind them. -/
def Tm.fro : Tm → List UInt8 × Tm
  | .own x p => (x :: p.fro.1, p.fro.2)
  | t => ([], t)
/-- The parts side by side, from the left. -/
def Tm.pars : Tm → List Tm
  | .par p q => p :: q.pars
  | t => [t]
def Tm.sumR : Tm → List Tm
  | .sum p q => p :: q.sumR
  | t => [t]
/-- The threads as the specification finds them. -/
def Tm.thrs (t : Tm) : List Tm := match t.fro.2 with
  | .nil => []
  | u => u.pars
theorem thd_lvl {T : Tm} (h : Thd T) : lvl T = ([], [T]) := by
  cases T with
  | nil => exact absurd rfl h.2.2
  | par p q => exact absurd rfl (h.1 p q)
  | own x p => exact absurd rfl (h.2.1 x p)
  | _ => rfl
theorem thd_fro {T : Tm} (h : Thd T) : T.fro = ([], T) := by
  cases T with
  | own x p => exact absurd rfl (h.2.1 x p)
  | _ => rfl
theorem thd_pars {T : Tm} (h : Thd T) : T.pars = [T] := by
  cases T with
  | par p q => exact absurd rfl (h.1 p q)
  | _ => rfl
theorem lvl_join : ∀ l : List Tm, (∀ T ∈ l, Thd T) → lvl (joinR .par l) = ([], l)
  | [], _ => rfl
  | [a], h => thd_lvl (h a (by simp))
  | a :: b :: l, h => by
    have h1 := thd_lvl (h a (by simp))
    have h2 := lvl_join (b :: l) fun T hT => h T (by simp [hT])
    show ((lvl a).1 ++ (lvl (joinR .par (b :: l))).1, (lvl a).2 ++ (lvl (joinR .par (b :: l))).2) = _
    rw [h1, h2]; rfl
theorem lvl_wrap (t : Tm) : ∀ ls : List UInt8, lvl (wrapO ls t) = (ls ++ (lvl t).1, (lvl t).2)
  | [] => rfl
  | a :: ls => by
    have := lvl_wrap t ls
    show (a :: (lvl (wrapO ls t)).1, (lvl (wrapO ls t)).2) = _
    rw [this]; rfl
theorem fro_join (l : List Tm) (h : ∀ T ∈ l, Thd T) : (joinR .par l).fro = ([], joinR .par l) := by
  cases l with
  | nil => rfl
  | cons a l =>
    cases l with
    | nil => exact thd_fro (h a (by simp))
    | cons b l => rfl
theorem fro_wrap (t : Tm) : ∀ ls : List UInt8, (wrapO ls t).fro = (ls ++ t.fro.1, t.fro.2)
  | [] => rfl
  | a :: ls => by
    have := fro_wrap t ls
    show (a :: (wrapO ls t).fro.1, (wrapO ls t).fro.2) = _
    rw [this]; rfl
theorem pars_join : ∀ l : List Tm, l ≠ [] → (∀ T ∈ l, Thd T) → (joinR .par l).pars = l
  | [], h, _ => absurd rfl h
  | [a], _, h => thd_pars (h a (by simp))
  | a :: b :: l, _, h => by
    have := pars_join (b :: l) (by simp) fun T hT => h T (by simp [hT])
    show a :: (joinR .par (b :: l)).pars = _
    rw [this]
theorem join_notnil (l : List Tm) (hl : l ≠ []) (h : ∀ T ∈ l, Thd T) : joinR .par l ≠ .nil := by
  cases l with
  | nil => exact absurd rfl hl
  | cons a l =>
    cases l with
    | nil => exact (h a (by simp)).2.2
    | cons b l => intro e; cases e
theorem thrs_wrap (ls : List UInt8) (l : List Tm) (h : ∀ T ∈ l, Thd T) : (wrapO ls (joinR .par l)).thrs = l := by
  unfold Tm.thrs
  rw [fro_wrap, fro_join l h]
  by_cases hl : l = []
  · subst hl; rfl
  · have h1 := join_notnil l hl h
    have h2 := pars_join l hl h
    generalize joinR .par l = u at *
    cases u with
    | nil => exact absurd rfl h1
    | _ => exact h2
def NotS (t : Tm) : Prop := ∀ p q, t ≠ .sum p q
theorem nots_smds {t : Tm} (h : NotS t) : smds t = [t] := by
  cases t with
  | sum p q => exact absurd rfl (h p q)
  | _ => rfl
theorem nots_sumR {t : Tm} (h : NotS t) : t.sumR = [t] := by
  cases t with
  | sum p q => exact absurd rfl (h p q)
  | _ => rfl
theorem smds_join : ∀ l : List Tm, l ≠ [] → (∀ t ∈ l, NotS t) → smds (joinR .sum l) = l ∧ (joinR .sum l).sumR = l
  | [], h, _ => absurd rfl h
  | [a], _, h => ⟨nots_smds (h a (by simp)), nots_sumR (h a (by simp))⟩
  | a :: b :: l, _, h => by
    obtain ⟨h1, h2⟩ := smds_join (b :: l) (by simp) fun T hT => h T (by simp [hT])
    constructor
    · show smds a ++ smds (joinR .sum (b :: l)) = _
      rw [nots_smds (h a (by simp)), h1]; rfl
    · show a :: (joinR .sum (b :: l)).sumR = _
      rw [h2]
/-- The parts of a sum as they come from the left are all of its parts. -/
def Flat (T : Tm) : Prop := smds T = T.sumR
theorem smds_nots (t : Tm) : ∀ q ∈ smds t, NotS q := by
  induction t with
  | sum p q ih ih2 => intro r hr; simp only [smds, List.mem_append] at hr; exact hr.elim (ih r) (ih2 r)
  | _ => intro r hr; simp only [smds, List.mem_singleton] at hr; subst hr; intro a b e; cases e
/-- Nothing is left that the laws leave out, on either side. -/
def Neat : Tm → Prop
  | .nil => True
  | .snd _ _ p => Neat p
  | .rcv _ _ p => Neat p
  | .tau p => Neat p
  | .sum p q => Neat p ∧ Neat q
  | .par p q => (p ≠ .nil ∧ q ≠ .nil) ∧ Neat p ∧ Neat q
  | .own _ p => p ≠ .nil ∧ Neat p
  | .mat _ _ p => Neat p
  | .rep p => Neat p
theorem neat_clean (t : Tm) (h : Neat t) : Clean t := by
  induction t with
  | nil => trivial
  | snd a b p ih => exact ih h
  | rcv a x p ih => exact ih h
  | tau p ih => exact ih h
  | sum p q ih ih2 => exact ⟨ih h.1, ih2 h.2⟩
  | par p q ih ih2 => exact ⟨h.1.1, ih h.2.1, ih2 h.2.2⟩
  | own x p ih => exact ⟨h.1, ih h.2⟩
  | mat a b p ih => exact ih h
  | rep p ih => exact ih h
theorem neat_sim (t : Tm) : Neat t.sim := by
  induction t with
  | nil => trivial
  | snd a b p ih => exact ih
  | rcv a x p ih => exact ih
  | tau p ih => exact ih
  | sum p q ih ih2 =>
    unfold Tm.sim
    split
    · exact ih2
    · split
      · exact ih
      · exact ⟨ih, ih2⟩
  | par p q ih ih2 =>
    unfold Tm.sim
    split
    · exact ih2
    · split
      · exact ih
      · rename_i h1 h2; exact ⟨⟨h1, h2⟩, ih, ih2⟩
  | own x p ih =>
    unfold Tm.sim
    split
    · rename_i h; exact ⟨fun e => by rw [e] at h; simp [Tm.free] at h, ih⟩
    · exact ih
  | mat a b p ih => unfold Tm.sim; split <;> exact ih
  | rep p ih => unfold Tm.sim; split <;> exact ih
theorem neat_can (s : Tm) : ∀ (f : UInt8 → UInt8) (ns : List UInt8), Neat s → Neat (can s f ns) := by
  induction s with
  | nil => intro f ns h; trivial
  | snd a b p ih => intro f ns h; exact ih _ _ h
  | rcv a x p ih => intro f ns h; exact ih _ _ h
  | tau p ih => intro f ns h; exact ih _ _ h
  | mat a b p ih => intro f ns h; exact ih _ _ h
  | rep p ih => intro f ns h; exact ih _ _ h
  | sum p q ih ih2 => intro f ns h; exact ⟨ih _ _ h.1, ih2 _ _ h.2⟩
  | par p q ih ih2 => intro f ns h; exact ⟨⟨fun e => h.1.1 (can_nil e), fun e => h.1.2 (can_nil e)⟩, ih _ _ h.2.1, ih2 _ _ h.2.2⟩
  | own x p ih => intro f ns h; exact ⟨fun e => h.1 (can_nil e), ih _ _ h.2⟩
theorem neat_thr (s : Tm) (h : Neat s) : ∀ T ∈ (lvl s).2, Neat T := by
  induction s with
  | nil => intro T hT; simp [lvl] at hT
  | own x p ih => exact ih h.2
  | par p q ih ih2 =>
    intro T hT
    simp only [lvl, List.mem_append] at hT
    exact hT.elim (ih h.2.1 T) (ih2 h.2.2 T)
  | _ => intro T hT; simp only [lvl, List.mem_singleton] at hT; rw [hT]; exact h
theorem neat_smds (s : Tm) (h : Neat s) : ∀ q ∈ smds s, Neat q := by
  induction s with
  | sum p q ih ih2 =>
    intro T hT
    simp only [smds, List.mem_append] at hT
    exact hT.elim (ih h.1 T) (ih2 h.2 T)
  | _ => intro T hT; simp only [smds, List.mem_singleton] at hT; rw [hT]; exact h
theorem srt_one (x : Tm) : srtT [x] = [x] := by unfold srtT; exact List.mergeSort_singleton _
theorem join_two (c : Tm → Tm → Tm) (l : List Tm) (h : 2 ≤ l.length) : ∃ a b, joinR c l = c a b := by
  match l with
  | [] => simp at h
  | [a] => simp at h
  | a :: b :: l => exact ⟨_, _, rfl⟩
theorem levI_one (n : Nat) (L : UInt8 → UInt8) (left : List UInt8) (s x : Tm) (h0 : (lvl s).1 = []) (h1 : (lvl s).2 = [s]) (hx : ∀ o, thI (levI n) (updL L o left) (left.drop (lvl s).1.length) s = x → True) :
    ∃ o, levI (n + 1) L left s = thI (levI n) (updL L o left) (left.drop (lvl s).1.length) s := by
  rw [levI_cand]
  have hne : (visG ltU 200 (lvl s).1).map (candI n L left s) ≠ [] := fun e => visG_ne ltU 199 _ (List.map_eq_nil_iff.1 e)
  obtain ⟨o, _, e⟩ := List.mem_map.1 (bestL_mem _ hne)
  refine ⟨o, ?_⟩
  rw [← e]
  unfold candI
  rw [h1, h0]
  simp only [List.length_nil, List.take_zero, List.map_cons, List.map_nil]
  rw [srt_one]; rfl
/-- What a level of a process that is no sum is made to is no sum. -/
theorem levI_nots (n : Nat) (L : UInt8 → UInt8) (left : List UInt8) (s : Tm) (hc : Neat s) (hf : fl s left.length = true) (hs : NotS s) (hn : s.size ≤ n) : NotS (levI n L left s) := by
  cases n with
  | zero => have := size_pos s; omega
  | succ n =>
    obtain ⟨f1, f2, f3⟩ := fl_inv hf
    have hfr : (lvl s).1 ≠ [] → NotS (levI (n + 1) L left s) := by
      intro h
      rw [levI_cand]
      cases hh : left.take (lvl s).1.length with
      | nil =>
        have := congrArg List.length hh
        rw [List.length_take, List.length_nil] at this
        have h0 : 0 < (lvl s).1.length := List.length_pos_iff.2 h
        omega
      | cons a l => intro p q e; cases e
    cases s with
    | nil => rw [levI_nil]; intro p q e; cases e
    | sum p q => exact absurd rfl (hs p q)
    | own x p => exact hfr (by simp [lvl])
    | snd a b p => obtain ⟨o, e⟩ := levI_one n L left (.snd a b p) .nil rfl rfl (fun _ _ => trivial); rw [e]; intro p q e; cases e
    | rcv a x p => obtain ⟨o, e⟩ := levI_one n L left (.rcv a x p) .nil rfl rfl (fun _ _ => trivial); rw [e]; intro p q e; cases e
    | tau p => obtain ⟨o, e⟩ := levI_one n L left (.tau p) .nil rfl rfl (fun _ _ => trivial); rw [e]; intro p q e; cases e
    | rep p => obtain ⟨o, e⟩ := levI_one n L left (.rep p) .nil rfl rfl (fun _ _ => trivial); rw [e]; intro p q e; cases e
    | mat a b p =>
      obtain ⟨o, e⟩ := levI_one n L left (.mat a b p) .nil rfl rfl (fun _ _ => trivial)
      rw [e]; intro p q e
      simp only [thI] at e
      split at e <;> cases e
    | par p q =>
      by_cases h0 : (lvl (.par p q)).1 = []
      · have h1 : 1 ≤ (lvl p).2.length := List.length_pos_iff.2 (clean_lvl p (neat_clean p hc.2.1) hc.1.1)
        have h2 : 1 ≤ (lvl q).2.length := List.length_pos_iff.2 (clean_lvl q (neat_clean q hc.2.2) hc.1.2)
        rw [levI_cand]
        have hne : (visG ltU 200 (lvl (.par p q)).1).map (candI n L left (.par p q)) ≠ [] := fun e => visG_ne ltU 199 _ (List.map_eq_nil_iff.1 e)
        obtain ⟨o, _, e⟩ := List.mem_map.1 (bestL_mem _ hne)
        rw [← e, h0]
        obtain ⟨a, b, e2⟩ := join_two .par (candI n L left (.par p q) o) (by rw [(candI_txt n L left (.par p q) o).1]; simp only [lvl, List.length_append]; omega)
        rw [e2]
        intro u v e3; cases e3
      · exact hfr h0
theorem smds_sum2 (p q : Tm) : 2 ≤ (smds (.sum p q)).length := by
  have h1 : 1 ≤ (smds p).length := List.length_pos_iff.2 (smds_nil p)
  have h2 : 1 ≤ (smds q).length := List.length_pos_iff.2 (smds_nil q)
  simp only [smds, List.length_append]; omega
/-- What a thread is made to is a thread, and its sum is flat. -/
theorem thI_form (n : Nat) (L : UInt8 → UInt8) (left : List UInt8) (T : Tm) (hk : Thd T) (hc : Neat T) (htf : tf T left.length = true) (hn : T.size ≤ n + 1) : Thd (thI (levI n) L left T) ∧ Flat (thI (levI n) L left T) := by
  have hsimple : ∀ t : Tm, Thd t → NotS t → Thd t ∧ Flat t := fun t h1 h2 => ⟨h1, by unfold Flat; rw [nots_smds h2, nots_sumR h2]⟩
  cases T with
  | nil => exact absurd rfl hk.2.2
  | par p q => exact absurd rfl (hk.1 p q)
  | own x p => exact absurd rfl (hk.2.1 x p)
  | snd a b p => exact hsimple _ ⟨fun _ _ e => (by cases e), fun _ _ e => (by cases e), fun e => (by cases e)⟩ (fun _ _ e => (by cases e))
  | tau p => exact hsimple _ ⟨fun _ _ e => (by cases e), fun _ _ e => (by cases e), fun e => (by cases e)⟩ (fun _ _ e => (by cases e))
  | rep p => exact hsimple _ ⟨fun _ _ e => (by cases e), fun _ _ e => (by cases e), fun e => (by cases e)⟩ (fun _ _ e => (by cases e))
  | rcv a x p => exact hsimple _ ⟨fun _ _ e => (by cases e), fun _ _ e => (by cases e), fun e => (by cases e)⟩ (fun _ _ e => (by cases e))
  | mat a b p =>
    simp only [thI]
    split
    · exact hsimple _ ⟨fun _ _ e => (by cases e), fun _ _ e => (by cases e), fun e => (by cases e)⟩ (fun _ _ e => (by cases e))
    · exact hsimple _ ⟨fun _ _ e => (by cases e), fun _ _ e => (by cases e), fun e => (by cases e)⟩ (fun _ _ e => (by cases e))
  | sum p q =>
    have hsm := (smds_fl (.sum p q) left.length).1 (by rw [tf_sum]; exact htf)
    have e1 : thI (levI n) L left (.sum p q) = joinR .sum (srtT ((smds (.sum p q)).map (levI n L left))) := rfl
    rw [e1]
    have hlen : 2 ≤ (srtT ((smds (.sum p q)).map (levI n L left))).length := by rw [srtT_len, List.length_map]; exact smds_sum2 p q
    have hnots : ∀ t ∈ srtT ((smds (.sum p q)).map (levI n L left)), NotS t := fun t ht => by
      obtain ⟨r, hr, rfl⟩ := List.mem_map.1 ((mem_srtT _ _).1 ht)
      refine levI_nots n L left r (neat_smds _ hc r hr) (hsm r hr) (smds_nots _ r hr) ?_
      have : r.size < (Tm.sum p q).size := by
        simp only [smds, List.mem_append] at hr
        simp only [Tm.size]
        rcases hr with hr | hr
        · have := smds_size p r hr; omega
        · have := smds_size q r hr; omega
      omega
    obtain ⟨h1, h2⟩ := smds_join _ (fun e => by rw [e] at hlen; simp at hlen) hnots
    refine ⟨?_, by unfold Flat; rw [h1, h2]⟩
    obtain ⟨a, b, e2⟩ := join_two .sum _ hlen
    rw [e2]
    exact ⟨fun _ _ e => (by cases e), fun _ _ e => (by cases e), fun e => (by cases e)⟩
/-- The form of a normal form. -/
def NfForm (r : Tm) : Prop := ∃ ls l, r = wrapO ls (joinR .par l) ∧ ∀ T ∈ l, Thd T ∧ Flat T
theorem levI_form (n : Nat) (L : UInt8 → UInt8) (left : List UInt8) (s : Tm) (hc : Neat s) (hf : fl s left.length = true) (hn : s.size ≤ n + 1) : NfForm (levI (n + 1) L left s) := by
  obtain ⟨f1, f2, f3⟩ := fl_inv hf
  rw [levI_cand]
  have hne : (visG ltU 200 (lvl s).1).map (candI n L left s) ≠ [] := fun e => visG_ne ltU 199 _ (List.map_eq_nil_iff.1 e)
  obtain ⟨o, _, e⟩ := List.mem_map.1 (bestL_mem _ hne)
  refine ⟨_, _, rfl, fun t ht => ?_⟩
  rw [← e] at ht
  obtain ⟨T, hT, rfl⟩ := List.mem_map.1 ((mem_srtT _ _).1 ht)
  exact thI_form n _ _ T (lvl_kind s T hT) (neat_thr s hc T hT) (by rw [List.length_drop]; exact f3 T hT) (by have := lvl_size s T hT; omega)
theorem nfI_form {t r : Tm} (h : nfI t = some r) : NfForm r := by
  unfold nfI at h
  split at h
  · cases h
  · rename_i h1
    split at h
    · cases h
      have hfl : fl (numb t) (othL t.usd).length = true := by
        cases e : fl (numb t) (othL t.usd).length with
        | true => rfl
        | false => exact absurd (.inr e) h1
      obtain ⟨m, hm⟩ : ∃ m, t.size = m + 1 := ⟨t.size - 1, by have := size_pos t; omega⟩
      have hsz : (numb t).size ≤ t.size := by unfold numb; rw [can_size]; exact sim_size t
      rw [hm] at hsz ⊢
      exact levI_form m id _ _ (neat_can _ _ _ (neat_sim t)) hfl hsz
    · cases h
theorem form_lvl {r : Tm} (h : NfForm r) : (lvl r).1 = r.fro.1 ∧ (lvl r).2 = r.thrs ∧ ∀ T ∈ r.thrs, Thd T ∧ Flat T := by
  obtain ⟨ls, l, rfl, hl⟩ := h
  have h1 : ∀ T ∈ l, Thd T := fun T hT => (hl T hT).1
  rw [lvl_wrap, lvl_join l h1, fro_wrap, fro_join l h1, thrs_wrap ls l h1]
  exact ⟨rfl, rfl, hl⟩

end Go.Proofs.YtnkjbdgnmgoefaaGreat.T1

/- Congruence, plain: the normal form of a simple process is simple. -/
namespace Go.Proofs.YtnkjbdgnmgoefaaGreat.T1
set_option linter.unusedVariables false

/-- May be a part of a sum. -/
def gp : Tm → Bool
  | .nil => true
  | .snd _ _ _ => true
  | .rcv _ _ _ => true
  | .tau _ => true
  | .sum _ _ => true
  | _ => false
def rq : Tm → Bool
  | .rcv _ _ _ => true
  | _ => false
/-- Parts of sums are guarded, and repeated ones receive. -/
def Tm.smp : Tm → Bool
  | .nil => true
  | .snd _ _ p => p.smp
  | .rcv _ _ p => p.smp
  | .tau p => p.smp
  | .sum p q => (gp p && p.smp) && (gp q && q.smp)
  | .par p q => p.smp && q.smp
  | .own _ p => p.smp
  | .mat _ _ p => p.smp
  | .rep p => rq p && p.smp
/-- The same where no part of a sum is 0. -/
def gq : Tm → Bool
  | .snd _ _ _ => true
  | .rcv _ _ _ => true
  | .tau _ => true
  | .sum _ _ => true
  | _ => false
def Tm.smq : Tm → Bool
  | .nil => true
  | .snd _ _ p => p.smq
  | .rcv _ _ p => p.smq
  | .tau p => p.smq
  | .sum p q => (gq p && p.smq) && (gq q && q.smq)
  | .par p q => p.smq && q.smq
  | .own _ p => p.smq
  | .mat _ _ p => p.smq
  | .rep p => rq p && p.smq
theorem smq_sum {p q : Tm} : (Tm.sum p q).smq = true ↔ (gq p = true ∧ p.smq = true) ∧ gq q = true ∧ q.smq = true := by simp [Tm.smq]
theorem gp_gq {t : Tm} (h : gp t = true) (hn : t ≠ .nil) : gq t = true := by cases t <;> first | exact absurd rfl hn | rfl | (cases h)
theorem smp_sum {p q : Tm} : (Tm.sum p q).smp = true ↔ (gp p = true ∧ p.smp = true) ∧ gp q = true ∧ q.smp = true := by simp [Tm.smp]
theorem sim_smp (t : Tm) (h : t.smp = true) : t.sim.smq = true ∧ (gp t = true → gp t.sim = true) ∧ (rq t = true → rq t.sim = true) := by
  induction t with
  | nil => exact ⟨rfl, id, id⟩
  | snd a b p ih => exact ⟨(ih h).1, fun _ => rfl, id⟩
  | rcv a x p ih => exact ⟨(ih h).1, fun _ => rfl, fun _ => rfl⟩
  | tau p ih => exact ⟨(ih h).1, fun _ => rfl, id⟩
  | sum p q ih ih2 =>
    obtain ⟨⟨g1, s1⟩, g2, s2⟩ := smp_sum.1 h
    unfold Tm.sim
    split
    · exact ⟨(ih2 s2).1, fun _ => (ih2 s2).2.1 g2, fun h => by cases h⟩
    · split
      · exact ⟨(ih s1).1, fun _ => (ih s1).2.1 g1, fun h => by cases h⟩
      · rename_i n1 n2; exact ⟨smq_sum.2 ⟨⟨gp_gq ((ih s1).2.1 g1) n1, (ih s1).1⟩, gp_gq ((ih2 s2).2.1 g2) n2, (ih2 s2).1⟩, fun _ => rfl, fun h => by cases h⟩
  | par p q ih ih2 =>
    simp only [Tm.smp, Bool.and_eq_true] at h
    refine ⟨?_, (fun h => by cases h), (fun h => by cases h)⟩
    unfold Tm.sim
    split
    · exact (ih2 h.2).1
    · split
      · exact (ih h.1).1
      · simp only [Tm.smq, Bool.and_eq_true]; exact ⟨(ih h.1).1, (ih2 h.2).1⟩
  | own x p ih =>
    refine ⟨?_, (fun h => by cases h), (fun h => by cases h)⟩
    unfold Tm.sim; split <;> exact (ih h).1
  | mat a b p ih =>
    refine ⟨?_, (fun h => by cases h), (fun h => by cases h)⟩
    unfold Tm.sim; split <;> exact (ih h).1
  | rep p ih =>
    simp only [Tm.smp, Bool.and_eq_true] at h
    refine ⟨?_, (fun h => by cases h), (fun h => by cases h)⟩
    unfold Tm.sim; split
    · exact (ih h.2).1
    · simp only [Tm.smq, Bool.and_eq_true]; exact ⟨(ih h.2).2.2 h.1, (ih h.2).1⟩
theorem can_gq (s : Tm) (f : UInt8 → UInt8) (ns : List UInt8) : gq (can s f ns) = gq s ∧ rq (can s f ns) = rq s := by cases s <;> exact ⟨rfl, rfl⟩
theorem can_smq (s : Tm) : ∀ (f : UInt8 → UInt8) (ns : List UInt8), (can s f ns).smq = s.smq := by
  induction s with
  | nil => intro f ns; rfl
  | snd a b p ih => intro f ns; exact ih _ _
  | rcv a x p ih => intro f ns; exact ih _ _
  | tau p ih => intro f ns; exact ih _ _
  | sum p q ih ih2 => intro f ns; simp only [can, Tm.smq]; rw [ih, ih2, (can_gq p _ _).1, (can_gq q _ _).1]
  | par p q ih ih2 => intro f ns; simp only [can, Tm.smq]; rw [ih, ih2]
  | own x p ih => intro f ns; exact ih _ _
  | mat a b p ih => intro f ns; exact ih _ _
  | rep p ih => intro f ns; simp only [can, Tm.smq]; rw [ih, (can_gq p _ _).2]
theorem smds_smq (s : Tm) (h : s.smq = true) (hg : gq s = true) : ∀ q ∈ smds s, q.smq = true ∧ gq q = true := by
  induction s with
  | sum p q ih ih2 =>
    obtain ⟨⟨g1, s1⟩, g2, s2⟩ := smq_sum.1 h
    intro r hr
    simp only [smds, List.mem_append] at hr
    exact hr.elim (ih s1 g1 r) (ih2 s2 g2 r)
  | _ => intro r hr; simp only [smds, List.mem_singleton] at hr; subst hr; exact ⟨h, hg⟩
theorem lvl_smq (s : Tm) (h : s.smq = true) : ∀ T ∈ (lvl s).2, T.smq = true := by
  induction s with
  | nil => intro T hT; simp [lvl] at hT
  | own x p ih => exact ih h
  | par p q ih ih2 =>
    simp only [Tm.smq, Bool.and_eq_true] at h
    intro T hT
    simp only [lvl, List.mem_append] at hT
    exact hT.elim (ih h.1 T) (ih2 h.2 T)
  | _ => intro T hT; simp only [lvl, List.mem_singleton] at hT; subst hT; exact h
theorem wrap_smq (t : Tm) : ∀ ls : List UInt8, (wrapO ls t).smq = t.smq := by
  intro ls
  induction ls with
  | nil => rfl
  | cons a ls ih => exact ih
theorem joinP_smq : ∀ l : List Tm, (∀ t ∈ l, t.smq = true) → (joinR .par l).smq = true := by
  intro l
  induction l with
  | nil => intro _; rfl
  | cons a l ih =>
    cases l with
    | nil => intro h; exact h a (by simp)
    | cons b l => intro h; simp only [joinR, Tm.smq, Bool.and_eq_true]; exact ⟨h a (by simp), ih fun t ht => h t (by simp [ht])⟩
theorem joinS_smq : ∀ l : List Tm, (∀ t ∈ l, t.smq = true ∧ gq t = true) → (joinR .sum l).smq = true ∧ (l ≠ [] → gq (joinR .sum l) = true) := by
  intro l
  induction l with
  | nil => intro _; exact ⟨rfl, fun h => absurd rfl h⟩
  | cons a l ih =>
    cases l with
    | nil => intro h; exact ⟨(h a (by simp)).1, fun _ => (h a (by simp)).2⟩
    | cons b l =>
      intro h
      have i := ih fun t ht => h t (by simp [ht])
      exact ⟨smq_sum.2 ⟨⟨(h a (by simp)).2, (h a (by simp)).1⟩, i.2 (by simp), i.1⟩, fun _ => rfl⟩
theorem levI_smq (n : Nat) : ∀ (L : UInt8 → UInt8) (left : List UInt8) (s : Tm), s.smq = true → s.size ≤ n → (levI n L left s).smq = true ∧ (gq s = true → gq (levI n L left s) = true) ∧ (rq s = true → rq (levI n L left s) = true) := by
  induction n with
  | zero => intro L left s _ h; have := size_pos s; omega
  | succ n ih =>
    intro L left s h hn
    have hth : ∀ (L' : UInt8 → UInt8) (lf : List UInt8) (T : Tm), T.smq = true → T.size ≤ n + 1 → (∀ p q, T ≠ .par p q) → (∀ x p, T ≠ .own x p) → T ≠ .nil → (thI (levI n) L' lf T).smq = true := by
      intro L' lf T hT hsz h1 h2 h3
      cases T with
      | nil => exact absurd rfl h3
      | par p q => exact absurd rfl (h1 p q)
      | own x p => exact absurd rfl (h2 x p)
      | snd a b p => simp only [Tm.size] at hsz; exact (ih _ _ p hT (by omega)).1
      | tau p => simp only [Tm.size] at hsz; exact (ih _ _ p hT (by omega)).1
      | rcv a x p => simp only [Tm.size] at hsz; exact (ih _ _ p hT (by omega)).1
      | mat a b p =>
        simp only [Tm.size] at hsz
        have := (ih L' lf p hT (by omega)).1
        simp only [thI]; split <;> exact this
      | rep p =>
        simp only [Tm.size] at hsz
        simp only [Tm.smq, Bool.and_eq_true] at hT
        have := ih L' lf p hT.2 (by omega)
        simp only [thI, Tm.smq, Bool.and_eq_true]
        exact ⟨this.2.2 hT.1, this.1⟩
      | sum p q =>
        have e1 : thI (levI n) L' lf (.sum p q) = joinR .sum (srtT ((smds (.sum p q)).map (levI n L' lf))) := rfl
        rw [e1]
        refine (joinS_smq _ fun t ht => ?_).1
        obtain ⟨r, hr, rfl⟩ := List.mem_map.1 ((mem_srtT _ _).1 ht)
        have hrs : r.size < (Tm.sum p q).size := by
          simp only [smds, List.mem_append] at hr
          simp only [Tm.size]
          rcases hr with hr | hr
          · have := smds_size p r hr; omega
          · have := smds_size q r hr; omega
        have hq := smds_smq _ hT rfl r hr
        have := ih L' lf r hq.1 (by omega)
        exact ⟨this.1, this.2.1 hq.2⟩
    have hone : ∀ T, s = T → (lvl T).1 = [] → (lvl T).2 = [T] → ∃ o, levI (n + 1) L left s = thI (levI n) (updL L o left) (left.drop (lvl s).1.length) s := fun T e h0 h1 => by
      subst e; exact levI_one n L left s .nil h0 h1 fun _ _ => trivial
    refine ⟨?_, fun hg => ?_, fun hg => ?_⟩
    · rw [levI_cand, wrap_smq]
      have hne : (visG ltU 200 (lvl s).1).map (candI n L left s) ≠ [] := fun e => visG_ne ltU 199 _ (List.map_eq_nil_iff.1 e)
      obtain ⟨o, _, e⟩ := List.mem_map.1 (bestL_mem _ hne)
      refine joinP_smq _ fun t ht => ?_
      rw [← e] at ht
      obtain ⟨T, hT, rfl⟩ := List.mem_map.1 ((mem_srtT _ _).1 ht)
      have hk := lvl_kind s T hT
      exact hth _ _ T (lvl_smq s h T hT) (by have := lvl_size s T hT; omega) hk.1 hk.2.1 hk.2.2
    · cases s with
      | nil => cases hg
      | snd a b p => obtain ⟨o, e⟩ := hone _ rfl rfl rfl; rw [e]; rfl
      | rcv a x p => obtain ⟨o, e⟩ := hone _ rfl rfl rfl; rw [e]; rfl
      | tau p => obtain ⟨o, e⟩ := hone _ rfl rfl rfl; rw [e]; rfl
      | sum p q =>
        obtain ⟨o, e⟩ := hone _ rfl rfl rfl
        rw [e]
        show gq (joinR .sum (srtT ((smds (.sum p q)).map (levI n _ _)))) = true
        refine (joinS_smq _ fun t ht => ?_).2 (fun e => ?_)
        rotate_left
        · have h2 := smds_sum2 p q
          have h3 : (srtT ((smds (.sum p q)).map (levI n (updL L o left) (left.drop (lvl (Tm.sum p q)).1.length)))).length = (smds (.sum p q)).length := by unfold srtT; rw [List.length_mergeSort, List.length_map]
          rw [e] at h3; rw [← h3] at h2; exact absurd h2 (by decide)
        obtain ⟨r, hr, rfl⟩ := List.mem_map.1 ((mem_srtT _ _).1 ht)
        have hrs : r.size < (Tm.sum p q).size := by
          simp only [smds, List.mem_append] at hr
          simp only [Tm.size]
          rcases hr with hr | hr
          · have := smds_size p r hr; omega
          · have := smds_size q r hr; omega
        have hq := smds_smq _ h rfl r hr
        have := ih (updL L o left) (left.drop (lvl (Tm.sum p q)).1.length) r hq.1 (by omega)
        exact ⟨this.1, this.2.1 hq.2⟩
      | _ => cases hg
    · cases s with
      | rcv a x p => obtain ⟨o, e⟩ := hone _ rfl rfl rfl; rw [e]; rfl
      | _ => cases hg
/-- THE NORMAL FORM OF A SIMPLE PROCESS IS SIMPLE. -/
theorem nfI_smq {t r : Tm} (h : nfI t = some r) (hs : t.smp = true) : r.smq = true := by
  unfold nfI at h
  split at h
  · cases h
  · split at h
    · cases h
      have hsz : (numb t).size ≤ t.size := by unfold numb; rw [can_size]; exact sim_size t
      exact (levI_smq t.size id _ _ (by unfold numb; rw [can_smq]; exact (sim_smp t hs).1) hsz).1
    · cases h

/-- What a thread can do: each part of a sum, or what is repeated. -/
def offT : Tm → List Tm
  | .rep p => [p]
  | t => smds t
/-- An offer as the specification tells it: its kind, two names, what is behind it, and whether it stays. -/
structure Off where
  k : UInt8
  a : UInt8
  b : UInt8
  r : Tm
  st : Bool
def offs : Tm → List Off
  | .snd a b p => [⟨33, a, b, p, false⟩]
  | .rcv a x p => [⟨63, a, x, p, false⟩]
  | .tau p => [⟨126, 0, 0, p, false⟩]
  | .sum p q => offs p ++ offs q
  | .rep p => (offs p).map fun o => { o with st := true }
  | _ => []
def offOf (st : Bool) : Tm → Option Off
  | .snd a b p => some ⟨33, a, b, p, st⟩
  | .rcv a x p => some ⟨63, a, x, p, st⟩
  | .tau p => some ⟨126, 0, 0, p, st⟩
  | _ => none
def isRep : Tm → Bool
  | .rep _ => true
  | _ => false
theorem offs_sum (s : Tm) (h : s.smq = true) (hg : gq s = true) : offs s = (smds s).filterMap (offOf false) := by
  induction s with
  | sum p q ih ih2 =>
    obtain ⟨⟨g1, s1⟩, g2, s2⟩ := smq_sum.1 h
    simp only [offs, smds, List.filterMap_append]; rw [ih s1 g1, ih2 s2 g2]
  | snd a b p => rfl
  | rcv a x p => rfl
  | tau p => rfl
  | _ => cases hg
theorem offs_ne (s : Tm) (h : s.smq = true) (hg : gq s = true) : offs s ≠ [] := by
  induction s with
  | sum p q ih ih2 =>
    obtain ⟨⟨g1, s1⟩, g2, s2⟩ := smq_sum.1 h
    simp only [offs]; intro e; exact ih s1 g1 (List.append_eq_nil_iff.1 e).1
  | snd a b p => simp [offs]
  | rcv a x p => simp [offs]
  | tau p => simp [offs]
  | _ => cases hg
theorem offs_of (T : Tm) (h : T.smq = true) : offs T = (offT T).filterMap (offOf (isRep T)) := by
  cases T with
  | rep p =>
    simp only [Tm.smq, Bool.and_eq_true] at h
    cases p with
    | rcv a x p => rfl
    | _ => cases h.1
  | sum p q => exact offs_sum _ h rfl
  | _ => rfl

end Go.Proofs.YtnkjbdgnmgoefaaGreat.T1

/- The front of a normal form and its threads: in the specification. -/
namespace Go.Proofs.YtnkjbdgnmgoefaaGreat.T1
open Go.RowKit
set_option maxRecDepth 100000
set_option linter.unusedVariables false
set_option linter.unusedSimpArgs false

theorem fro_ok {nm : UInt8 → Bool} (t : Tm) (h : t.ok nm = true) : t.fro.2.ok nm = true ∧ t.fro.2.pr.length ≤ t.pr.length ∧ t.fro.2.size ≤ t.size ∧ ∀ x p, t.fro.2 ≠ .own x p := by
  induction t with
  | own x p ih =>
    simp only [Tm.ok, Bool.and_eq_true] at h
    obtain ⟨h1, h2, h3, h4⟩ := ih h.2
    exact ⟨h1, by simp only [Tm.fro, Tm.pr, List.length_append, List.length_cons]; omega, by simp only [Tm.fro, Tm.size]; omega, h4⟩
  | _ => exact ⟨h, Nat.le_refl _, Nat.le_refl _, fun _ _ e => (by cases e)⟩
theorem kind_ow2 {t : Tm} (hE : t.ok nmE = true) (h : ∀ x p, t ≠ .own x p) : ((t.kind.toNat : Int) == 35) = false := by
  cases t <;> first | rfl | exact absurd rfl (h _ _)
theorem dat_inj {a b : ByteArray} (h : a.data.toList = b.data.toList) : a = b := by
  cases a; cases b; congr; exact Array.toList_inj.1 h
theorem BL (f : List UInt8) (x : UInt8) : B f ++ B [x] = B (f ++ [x]) := by
  apply dat_inj
  show (B f ++ B [x]).data.toList = (B (f ++ [x])).data.toList
  rw [ByteArray.data_append, Array.toList_append, B_list, B_list, B_list]
set_option maxHeartbeats 4000000 in
theorem nfFront_any (t : Tm) (hE : t.ok nmE = true) (hl : t.pr.length ≤ 700) (hs : t.size ≤ 500) (w : World) :
    Calls Tryz.prog 31 #[.string (S t)] w fun e w' => e = .returned (.tuple #[.string (B t.fro.1), .string (S t.fro.2)]) ∧ w = w' := by
  have HE := Lib.hid hE
  have HL := Lib.hid hl
  have HS := Lib.hid hs
  clear hE hl hs
  obtain ⟨X0, hX0⟩ : ∃ X, X = S t := ⟨_, rfl⟩
  have HX0 := Lib.hid hX0
  rw [← hX0]
  clear hX0
  go_enter Tryz.func31, Tryz.ntmps31
  go_wp2_with fail
  go_loopg [0, 4] 500 (fun g s0 s4 wr => (∃ X Y : ByteArray, s0 = .string X ∧ s4 = .string Y ∧ Y.size + g ≤ 500 ∧ Hid (∃ (f : List UInt8) (u : Tm), X = S u ∧ Y = B f ∧ t.fro = (f ++ u.fro.1, u.fro.2) ∧ u.ok nmE = true ∧ u.pr.length ≤ 700 ∧ u.size ≤ g)) ∧ wr = w)
  case atStart => exact ⟨⟨X0, ⟨#[]⟩, rfl, rfl, by decide, [], t, HX0.out, rfl, rfl, HE.out, HL.out, HS.out⟩, rfl⟩
  case round =>
    obtain ⟨⟨X, Y, rfl, rfl, hY, hex⟩, rfl⟩ := hrel
    obtain ⟨f, u, rfl, eY, ef, hu, hul, hus⟩ := hex.out
    have HK := Lib.hid (tmKind_any u hu hul wr)
    by_cases ho : ∃ x p, u = .own x p
    · obtain ⟨x, p, rfl⟩ := ho
      have e1 : (S (Tm.own x p)).extract 1 2 = B [x] := by
        refine dat_inj ?_
        rw [ByteArray.data_extract, Array.toList_extract, List.extract_eq_take_drop, S_list, B_list]; rfl
      have e2 : (S (Tm.own x p)).extract 3 (S (Tm.own x p)).size = S p := ext_pre (t := .own x p) (p := p) (pre := [35, x, 46]) rfl
      have hz : (S (Tm.own x p)).size = p.pr.length + 3 := by rw [S_size]; simp [Tm.pr]
      simp only [Tm.pr, List.length_append, List.length_cons, List.length_nil] at hul
      simp only [Tm.size] at hus
      simp only [Tm.ok, Bool.and_eq_true] at hu
      have hk : (((Tm.own x p).kind.toNat : Nat) : Int) = 35 := rfl
      rw [hk] at HK
      obtain ⟨U, hU⟩ : ∃ U, U = S (Tm.own x p) := ⟨_, rfl⟩
      rw [← hU] at HK e1 e2 hz
      have hnew : Hid (∃ (f : List UInt8) (u : Tm), U.extract 3 U.size = S u ∧ Y ++ U.extract 1 2 = B f ∧ t.fro = (f ++ u.fro.1, u.fro.2) ∧ u.ok nmE = true ∧ u.pr.length ≤ 700 ∧ u.size ≤ gk - 1) :=
        ⟨f ++ [x], p, e2, by rw [eY, e1, BL], by rw [ef]; simp [Tm.fro], hu.2, by omega, by omega⟩
      have hy1 : (Y ++ U.extract 1 2).size = Y.size + 1 := by rw [ByteArray.size_append, e1, B_size]; rfl
      have hs3 : (3 : Int) ≤ (U.size : Int) := by omega
      have hs2 : (2 : Int) ≤ (U.size : Int) := by omega
      have hsU : U.size ≤ 1000 := by omega
      clear hz
      have he12 : (U.extract 1 2).size = 1 := by rw [e1, B_size]; rfl
      have hgp : 1 ≤ gk := by omega
      rw [← hU]
      clear hU eY ef hu hul hus hk e1 e2 hex
      go_wp2_with fail
      refine (HK.out).mono ?_
      rintro e w1 ⟨rfl, rfl⟩
      go_wp2_with fail
      go_roundg (gk - 1)
      case rel => exact ⟨⟨_, _, rfl, rfl, by omega, hnew⟩, rfl⟩
      case measure => omega
    · have hno : ∀ x p, u ≠ .own x p := fun x p e => ho ⟨x, p, e⟩
      have hk := kind_ow2 hu hno
      have hfr : u.fro = ([], u) := by cases u <;> first | rfl | exact absurd rfl (hno _ _)
      have h1 : Hid (Y = B t.fro.1) := by show _ = _; rw [ef, hfr, eY]; simp
      have h2 : Hid (S u = S t.fro.2) := by show _ = _; rw [ef, hfr]
      obtain ⟨kk, hkk⟩ : ∃ kk : Int, kk = (u.kind.toNat : Int) := ⟨_, rfl⟩
      rw [← hkk] at HK hk
      obtain ⟨U, hU⟩ : ∃ U, U = S u := ⟨_, rfl⟩
      rw [← hU] at HK h2 ⊢
      clear hU hkk eY ef hu hul hus hex ho hno hfr
      go_wp2_with fail
      refine (HK.out).mono ?_
      rintro e w1 ⟨rfl, rfl⟩
      go_wp2_with fail
      go_ret2
      exact ⟨by rw [← h1.out, ← h2.out]; rfl, rfl⟩

end Go.Proofs.YtnkjbdgnmgoefaaGreat.T1

/- The threads of a normal form: in the specification. -/
namespace Go.Proofs.YtnkjbdgnmgoefaaGreat.T1
open Go.RowKit
set_option maxRecDepth 100000
set_option linter.unusedVariables false
set_option linter.unusedSimpArgs false

theorem kind_ni2 {t : Tm} (h : t ≠ .nil) (hE : t.ok nmE = true) : ((t.kind.toNat : Int) == 48) = false := by
  cases t <;> first | rfl | exact absurd rfl h
theorem kind_pa2 {t : Tm} (h : ∀ p q, t ≠ .par p q) (hE : t.ok nmE = true) : ((t.kind.toNat : Int) == 38) = false := by
  cases t <;> first | rfl | exact absurd rfl (h _ _)
theorem pars_ne (t : Tm) : t.pars ≠ [] := by cases t <;> (intro e; cases e)
theorem pars_no {t : Tm} (h : ∀ p q, t ≠ .par p q) : t.pars = [t] := by
  cases t <;> first | rfl | exact absurd rfl (h _ _)
theorem pars_size (t : Tm) : t.pars.length ≤ t.size := by
  induction t with
  | par p q ih ih2 => simp only [Tm.pars, List.length_cons, Tm.size]; omega
  | _ => simp [Tm.pars, Tm.size]
set_option maxHeartbeats 4000000 in
theorem nfThreads_nil (X Y F : ByteArray) (hF : ∀ w, Calls Tryz.prog 31 #[.string X] w fun e w' => e = .returned (.tuple #[.string F, .string Y]) ∧ w = w') (hK : ∀ w, Calls Tryz.prog 62 #[.string Y] w fun e w' => e = .returned (.int .u8 48) ∧ w = w') (w : World) :
    Calls Tryz.prog 32 #[.string X] w (TxP [] 0 w) := by
  have HF := Lib.hid hF
  have HK := Lib.hid hK
  clear hF hK
  go_enter Tryz.func32, Tryz.ntmps32
  go_wp2_with fail
  refine (HF.out _).mono ?_
  rintro e w1 ⟨rfl, rfl⟩
  go_wp2_with fail
  refine (HK.out _).mono ?_
  rintro e w1 ⟨rfl, rfl⟩
  go_wp2_with fail
  go_ret
  exact ⟨_, rfl, World.ownsRow_nil _ _ _ _, Below.refl _ _⟩
set_option maxHeartbeats 8000000 in
theorem nfThreads_some (X F : ByteArray) (t : Tm) (hF : ∀ w, Calls Tryz.prog 31 #[.string X] w fun e w' => e = .returned (.tuple #[.string F, .string (S t)]) ∧ w = w') (hn : t ≠ .nil) (hE : t.ok nmE = true) (hl : t.pr.length ≤ 700) (hs : t.size ≤ 500) (w : World) :
    Calls Tryz.prog 32 #[.string X] w (TxP t.pars t.pars.length w) := by
  obtain ⟨i0, hi, hz0, hz1, hz2⟩ := info_parts Tryz.infoS
  have HF := Lib.hid hF
  have HK := Lib.hid (tmKind_any t hE hl)
  have hk0 := kind_ni2 hn hE
  have HE := Lib.hid hE
  have HL := Lib.hid hl
  have HS := Lib.hid hs
  have hps := pars_size t
  obtain ⟨k0, hk⟩ : ∃ k0 : Int, k0 = (t.kind.toNat : Int) := ⟨_, rfl⟩
  rw [← hk] at HK hk0
  obtain ⟨X0, hX0⟩ : ∃ X, X = S t := ⟨_, rfl⟩
  have HX0 := Lib.hid hX0
  rw [← hX0] at HF HK
  obtain ⟨N, hN⟩ : ∃ N, N = t.pars.length := ⟨_, rfl⟩
  have HN := Lib.hid hN
  rw [← hN] at hps ⊢
  clear hF hE hl hk hX0 hn hN
  go_enter Tryz.func32, Tryz.ntmps32
  go_wp2_with fail
  refine (HF.out _).mono ?_
  rintro e w1 ⟨rfl, rfl⟩
  go_wp2_with fail
  refine (HK.out _).mono ?_
  rintro e w1 ⟨rfl, rfl⟩
  go_wp2_with fail
  go_loopg [0, 3] 500 (fun g s0 s3 wr => (∃ (Y : ByteArray) (i : Nat), s0 = .string Y ∧ i + 1 ≤ N ∧ Hid (∃ (xs : List Tm) (u : Tm), Y = S u ∧ i = xs.length ∧ t.pars = xs ++ u.pars ∧ u.ok nmE = true ∧ u.pr.length ≤ 700 ∧ u.size ≤ g ∧ wr.ownsRow w.heap.size 9 1 s3 i (xs.map sv))) ∧ Hid (Below w.heap.size w wr))
  case atStart =>
    exact ⟨⟨X0, 0, rfl, by have := HN.out; have := pars_ne t; have : 0 < t.pars.length := List.length_pos_iff.2 (pars_ne t); omega, [], t, HX0.out, rfl, rfl, HE.out, HL.out, HS.out, World.ownsRow_nil _ _ _ _⟩, Below.refl _ _⟩
  case round =>
    obtain ⟨⟨Y, i, rfl, hiN, hex⟩, hbl⟩ := hrel
    obtain ⟨xs, u, rfl, hix, hpx, hu, hul, hus, hown⟩ := hex.out
    have HKu := Lib.hid (tmKind_any u hu hul wr)
    have HO := Lib.hid hown
    have hsz := hbl.out.size
    clear hex
    by_cases hp : ∃ p q, u = .par p q
    · obtain ⟨p, q, rfl⟩ := hp
      have HP := Lib.hid (tmParts_any (.par p q) hu hul wr)
      have hk : (((Tm.par p q).kind.toNat : Nat) : Int) = 38 := rfl
      rw [hk] at HKu
      simp only [Tm.ok, Bool.and_eq_true] at hu
      simp only [Tm.pr, List.length_append, List.length_cons, List.length_nil] at hul
      simp only [Tm.size] at hus
      have hpl : (p :: q.pars).length ≤ t.pars.length := by rw [hpx]; simp [Tm.pars]
      have hiN2 : i + 2 ≤ N := by
        have := HN.out
        have h2 : t.pars.length = xs.length + (Tm.par p q).pars.length := by rw [hpx, List.length_append]
        have h3 : 0 < q.pars.length := List.length_pos_iff.2 (pars_ne q)
        simp only [Tm.pars, List.length_cons] at h2
        omega
      have hnew : Hid (t.pars = (xs ++ [p]) ++ q.pars ∧ i + 1 = (xs ++ [p]).length ∧ (xs ++ [p]).map sv = xs.map sv ++ [.string (S p)]) := ⟨by rw [hpx]; simp [Tm.pars], by rw [hix]; simp, by simp [sv]⟩
      have hq := Lib.hid (show q.ok nmE = true ∧ q.pr.length ≤ 700 ∧ q.size ≤ gk - 1 from ⟨hu.2, by omega, by omega⟩)
      obtain ⟨U, hU⟩ : ∃ U, U = S (Tm.par p q) := ⟨_, rfl⟩
      obtain ⟨A, hA⟩ : ∃ A, A = S p := ⟨_, rfl⟩
      obtain ⟨Bq, hB⟩ : ∃ Bq, Bq = S q := ⟨_, rfl⟩
      have HBq := Lib.hid hB
      have HP2 : Hid (Calls Tryz.prog 63 #[.string U] wr fun e w' => ∃ b, e = .returned (.slice (some ⟨b, 0, none⟩) 2 2) ∧ wr.heap.size ≤ b ∧ w'.heap[b]? = some (.cells #[.string A, .string Bq] 9 (0, 0)) ∧ Below wr.heap.size wr w') := by
        rw [hU, hA, hB]; exact HP.out
      rw [← hA] at hnew
      rw [← hU] at HKu ⊢
      have hgp : 1 ≤ gk := by omega
      clear hU hA hB HP hu hul hus hpl hk hpx hix hown
      go_wp2_with fail
      refine (HKu.out).mono ?_
      rintro e w2 ⟨rfl, rfl⟩
      go_wp2_with fail
      refine (HP2.out).mono ?_
      rintro e w3 ⟨b, rfl, hb, hh, b3⟩
      have c0 := cellOf2a hh
      have hO3 := Lib.hid (own_below2 HO.out b3)
      have hbl3 := Lib.hid (below_go hbl.out b3)
      have HH := Lib.hid hh
      have hblt := lt_of_block hh
      have hne : Hid (∀ g, u3.ownBlock = some g → g < b ∧ w.heap.size ≤ g) := fun g e => by
        have := HO.out.lt g e
        exact ⟨by omega, this.1⟩
      clear hb hh b3 hbl HO
      go_wp2_with (at_builtin; refine wpList_append_rows rfl (.tmp 18) (.tmp 22) 22 rfl w.heap.size w.heap.size 9 i0 (.string ⟨#[]⟩) 16 Tryz.underlying22 hi hz0 hz1 hz2 rfl u3 i _ rfl (hO3.out.alloc _) _ 1 [.string A] rfl (own_new1 w3 (.string A) 9 w.heap.size hbl3.out.size) (fun u hu => by simp at hu; subst hu; rfl) ?c2 ?c3 ?c4 ?_)
      case c2 => unfold maxLen; omega
      case c3 => omega
      case c4 => have := hbl3.out.size; simp; omega
      intro v4 w4 hown4 hgrow4 _
      have hb4 : w4.heap[b]? = some (.cells #[.string A, .string Bq] 9 (0, 0)) := by
        rw [hgrow4.block b (by simp; omega) (fun e => by have := hne.out b e.symm; omega)]
        exact (heap_alloc_old w3 _ hblt).trans HH.out
      have c1 := cellOf2b hb4
      have O4 : Hid (w4.ownsRow w.heap.size 9 1 v4 (i + 1) ((xs ++ [p]).map sv)) := by
        show World.ownsRow _ _ _ _ _ _ _
        rw [hnew.out.2.2]; exact hown4
      have bl4 := Lib.hid (below_grown2 (hbl3.out.alloc hbl3.out.size _) hgrow4 (fun g e => (hne.out g e).2) (by have := hbl3.out.size; simp; omega))
      clear hown4 hgrow4 hb4 hbl3 hO3 HH
      go_wp2_with fail
      go_roundg (gk - 1)
      case rel => exact ⟨⟨_, i + 1, rfl, by omega, xs ++ [p], q, HBq.out, hnew.out.2.1, hnew.out.1, hq.out.1, hq.out.2.1, hq.out.2.2, O4.out⟩, bl4⟩
      case measure => omega
    · have hno : ∀ p q, u ≠ .par p q := fun p q e => hp ⟨p, q, e⟩
      have hk := kind_pa2 hno hu
      have hpp := pars_no hno
      have hfin : Hid (i + 1 = N ∧ t.pars.map sv = xs.map sv ++ [.string (S u)]) := ⟨by rw [HN.out, hpx, hpp, hix]; simp, by rw [hpx, hpp]; simp [sv]⟩
      obtain ⟨kk, hkk⟩ : ∃ kk : Int, kk = (u.kind.toNat : Int) := ⟨_, rfl⟩
      rw [← hkk] at HKu hk
      obtain ⟨U, hU⟩ : ∃ U, U = S u := ⟨_, rfl⟩
      rw [← hU] at HKu hfin ⊢
      have hne : Hid (∀ g, u3.ownBlock = some g → w.heap.size ≤ g) := fun g e => (HO.out.lt g e).1
      clear hU hkk hpx hix hu hul hus hp hno hpp hown
      go_wp2_with fail
      refine (HKu.out).mono ?_
      rintro e w2 ⟨rfl, rfl⟩
      go_wp2_with (at_builtin; refine wpList_append_rows rfl (.tmp 27) (.tmp 29) 22 rfl w.heap.size w.heap.size 9 i0 (.string ⟨#[]⟩) 16 Tryz.underlying22 hi hz0 hz1 hz2 rfl u3 i _ rfl (HO.out.alloc _) _ 1 [.string U] rfl (own_new1 _ (.string U) 9 w.heap.size hsz) (fun u hu => by simp at hu; subst hu; rfl) ?c2 ?c3 ?c4 ?_)
      case c2 => unfold maxLen; omega
      case c3 => omega
      case c4 => simp; omega
      intro v4 w4 hown4 hgrow4 _
      have O4 : Hid (w4.ownsRow w.heap.size 9 1 v4 N (t.pars.map sv)) := by
        show World.ownsRow _ _ _ _ _ _ _
        rw [hfin.out.2, ← hfin.out.1]; exact hown4
      have bl4 := Lib.hid (below_grown2 (hbl.out.alloc hsz _) hgrow4 (fun g e => hne.out g e) (by simp; omega))
      clear hown4 hgrow4
      go_wp2_with fail
      go_ret
      exact ⟨_, rfl, O4.out, bl4.out⟩
theorem thrs_pars {t : Tm} (h : t.fro.2 ≠ .nil) : t.thrs = t.fro.2.pars := by
  unfold Tm.thrs
  cases e : t.fro.2 <;> first | rfl | exact absurd e h
theorem nfThreads_any (t : Tm) (hE : t.ok nmE = true) (hl : t.pr.length ≤ 700) (hs : t.size ≤ 500) (w : World) :
    Calls Tryz.prog 32 #[.string (S t)] w (TxP t.thrs t.thrs.length w) := by
  obtain ⟨h1, h2, h3, h4⟩ := fro_ok t hE
  by_cases hn : t.fro.2 = .nil
  · have e : t.thrs = [] := by unfold Tm.thrs; rw [hn]
    rw [e]
    have hF := nfFront_any t hE hl hs
    rw [hn] at hF
    exact nfThreads_nil (S t) (S .nil) _ hF (fun w => tmKind_any .nil rfl (by simp [Tm.pr]) w) w
  · rw [thrs_pars hn]
    exact nfThreads_some (S t) _ t.fro.2 (nfFront_any t hE hl hs) hn h1 (by omega) (by omega) w

end Go.Proofs.YtnkjbdgnmgoefaaGreat.T1

/- What both sides answer where the front of a normal form or its threads are asked. MADE BY gen_Md.py. -/
namespace Go.Proofs.YtnkjbdgnmgoefaaGreat.T1
open Go.RowKit
set_option maxRecDepth 100000
set_option linter.unusedVariables false
set_option linter.unusedSimpArgs false

end Go.Proofs.YtnkjbdgnmgoefaaGreat.T1

/- Texts of a list of trees; what both sides answer where the threads of a normal form are asked. MADE BY gen_Me.py. -/
namespace Go.Proofs.YtnkjbdgnmgoefaaGreat.T1
open Go.RowKit
set_option maxRecDepth 100000
set_option linter.unusedVariables false
set_option linter.unusedSimpArgs false

end Go.Proofs.YtnkjbdgnmgoefaaGreat.T1

/- Sets of letters that are put together one by one, plain; names over which threads send or receive. -/
namespace Go.Proofs.YtnkjbdgnmgoefaaGreat.T1
set_option linter.unusedVariables false

def addsL (acc l : List UInt8) : List UInt8 := l.foldl addL acc
theorem addsL_app (acc l m : List UInt8) : addsL acc (l ++ m) = addsL (addsL acc l) m := List.foldl_append
theorem addsL_one (acc l : List UInt8) (c : UInt8) : addsL acc (l ++ [c]) = addL (addsL acc l) c := by rw [addsL_app]; rfl
theorem mem_addsL : ∀ (l acc : List UInt8) (x : UInt8), x ∈ addsL acc l ↔ x ∈ acc ∨ x ∈ l := by
  intro l
  induction l with
  | nil => intro acc x; simp [addsL]
  | cons a l ih =>
    intro acc x
    show x ∈ addsL (addL acc a) l ↔ _
    rw [ih, mem_addL, List.mem_cons]; grind
theorem srt_addsL : ∀ (l acc : List UInt8), Srt acc → Srt (addsL acc l) := by
  intro l
  induction l with
  | nil => intro acc h; exact h
  | cons a l ih => intro acc h; exact ih _ (srt_addL h a)
theorem lets_addsL : ∀ (l acc : List UInt8), Lets acc → (∀ c ∈ l, nmL c = true) → Lets (addsL acc l) := by
  intro l
  induction l with
  | nil => intro acc h _; exact h
  | cons a l ih => intro acc h hl; exact ih _ (lets_addL h ((nmL_iff a).1 (hl a (by simp)))) fun c hc => hl c (by simp [hc])
/-- What is in both sets. -/
theorem setN_and {l m : List UInt8} (h : Lets l) (k : Lets m) : setN (l.filter fun x => decide (x ∈ m)) = setN l &&& setN m := by
  have hf : Lets (l.filter fun x => decide (x ∈ m)) := fun c hc => h c (List.mem_filter.1 hc).1
  refine bits_ext fun i => ?_
  rw [setN_bit _ hf, Nat.testBit_and, Bool.and_eq_true, setN_bit _ h, setN_bit _ k]
  constructor
  · rintro ⟨c, hc, e⟩
    have := List.mem_filter.1 hc
    exact ⟨⟨c, this.1, e⟩, c, by simpa using this.2, e⟩
  · rintro ⟨⟨c, hc, e⟩, d, hd, e'⟩
    have : c = d := UInt8.toNat_inj.1 (by omega)
    subst this
    exact ⟨c, List.mem_filter.2 ⟨hc, by simpa using hd⟩, e⟩
theorem srt_filter {l : List UInt8} (h : Srt l) (p : UInt8 → Bool) : Srt (l.filter p) := List.Pairwise.filter p h

/-- The name over which an offer of the kind k is made, if it is not at the front. -/
def ovS (k : UInt8) (fr : List UInt8) (o : Off) : Option UInt8 := if o.k = k then (if o.a ∈ fr then none else some o.a) else none
def sndI : Tm → Option UInt8
  | .snd a _ _ => some a
  | _ => none
def rcvI : Tm → Option UInt8
  | .rcv a _ _ => some a
  | _ => none
theorem off_in {T : Tm} (h : T.smq = true) (k : UInt8) (g : Tm → Option UInt8) (hk : (k = 33 ∧ g = sndI) ∨ (k = 63 ∧ g = rcvI)) (fr : List UInt8) (x : UInt8) :
    x ∈ (offs T).filterMap (ovS k fr) ↔ x ∉ fr ∧ x ∈ (offT T).filterMap g := by
  rw [offs_of T h, List.mem_filterMap, List.mem_filterMap]
  constructor
  · rintro ⟨o, ho, e⟩
    obtain ⟨q, hq, eo⟩ := List.mem_filterMap.1 ho
    unfold ovS at e
    split at e
    · rename_i hk'
      split at e
      · cases e
      · rename_i hf
        cases e
        refine ⟨hf, q, hq, ?_⟩
        rcases hk with ⟨rfl, rfl⟩ | ⟨rfl, rfl⟩ <;> cases q <;> simp [offOf] at eo <;> subst eo <;> first | rfl | (simp at hk')
    · cases e
  · rintro ⟨hf, q, hq, e⟩
    rcases hk with ⟨rfl, rfl⟩ | ⟨rfl, rfl⟩
    · cases q with
      | snd a b p =>
        simp only [sndI, Option.some.injEq] at e
        subst e
        exact ⟨⟨33, a, b, p, isRep T⟩, List.mem_filterMap.2 ⟨_, hq, rfl⟩, by simp [ovS, hf]⟩
      | _ => cases e
    · cases q with
      | rcv a b p =>
        simp only [rcvI, Option.some.injEq] at e
        subst e
        exact ⟨⟨63, a, b, p, isRep T⟩, List.mem_filterMap.2 ⟨_, hq, rfl⟩, by simp [ovS, hf]⟩
      | _ => cases e
theorem offT_free {T q : Tm} (hq : q ∈ offT T) : ∀ z, z ∈ q.free → z ∈ T.free := by
  cases T with
  | rep p => intro z hz; simp only [offT, List.mem_singleton] at hq; subst hq; rw [mf_rep]; exact hz
  | _ => exact smds_free _ q hq
theorem ovI_free {T : Tm} {g : Tm → Option UInt8} (hg : g = sndI ∨ g = rcvI) {x : UInt8} (h : x ∈ (offT T).filterMap g) : x ∈ T.free := by
  obtain ⟨q, hq, e⟩ := List.mem_filterMap.1 h
  refine offT_free hq x ?_
  rcases hg with rfl | rfl <;> cases q <;> first | (cases e) | skip
  · rw [mf_snd]; exact .inl rfl
  · rw [mf_rcv]; exact .inl rfl
theorem wrap_free (t : Tm) : ∀ (ls : List UInt8) (z : UInt8), z ∈ (wrapO ls t).free ↔ z ∈ t.free ∧ z ∉ ls := by
  intro ls
  induction ls with
  | nil => intro z; simp [wrapO]
  | cons a ls ih => intro z; show z ∈ (Tm.own a (wrapO ls t)).free ↔ _; rw [mf_own, ih, List.mem_cons]; grind
theorem join_free : ∀ (l : List Tm) (z : UInt8), z ∈ (joinR .par l).free ↔ ∃ T ∈ l, z ∈ T.free := by
  intro l
  induction l with
  | nil => intro z; simp [joinR, Tm.free]
  | cons a l ih =>
    intro z
    cases l with
    | nil => simp [joinR]
    | cons b l => show z ∈ (Tm.par a (joinR .par (b :: l))).free ↔ _; rw [mf_par, ih]; simp
theorem form_free {r : Tm} (h : NfForm r) (z : UInt8) : z ∈ r.free ↔ (∃ T ∈ r.thrs, z ∈ T.free) ∧ z ∉ r.fro.1 := by
  obtain ⟨ls, l, rfl, hl⟩ := h
  have h1 : ∀ T ∈ l, Thd T := fun T hT => (hl T hT).1
  rw [wrap_free, join_free, thrs_wrap ls l h1, fro_wrap, fro_join l h1]; simp
theorem thrs_smq {r : Tm} (h : NfForm r) (hs : r.smq = true) : ∀ T ∈ r.thrs, T.smq = true := by
  intro T hT
  rw [← (form_lvl h).2.1] at hT
  exact lvl_smq r hs T hT
/-- The names over which the threads of a normal form send or receive, told in both ways. -/
theorem over_same {r : Tm} (h : NfForm r) (hs : r.smq = true) (ho : r.ok nmL = true) (k : UInt8) (g : Tm → Option UInt8) (hk : (k = 33 ∧ g = sndI) ∨ (k = 63 ∧ g = rcvI)) :
    addsL [] (r.thrs.flatMap fun T => (offs T).filterMap (ovS k r.fro.1)) = (addsL [] (r.thrs.flatMap fun T => (offT T).filterMap g)).filter fun x => decide (x ∈ r.free) := by
  have hg : g = sndI ∨ g = rcvI := hk.imp And.right And.right
  refine srt_ext (srt_addsL _ _ srt_nil) (srt_filter (srt_addsL _ _ srt_nil) _) fun x => ?_
  rw [List.mem_filter, mem_addsL, mem_addsL]
  simp only [List.not_mem_nil, false_or, List.mem_flatMap, decide_eq_true_eq]
  constructor
  · rintro ⟨T, hT, hx⟩
    rw [off_in (thrs_smq h hs T hT) k g hk] at hx
    exact ⟨⟨T, hT, hx.2⟩, (form_free h x).2 ⟨⟨T, hT, ovI_free hg hx.2⟩, hx.1⟩⟩
  · rintro ⟨⟨T, hT, hx⟩, hf⟩
    exact ⟨T, hT, (off_in (thrs_smq h hs T hT) k g hk _ x).2 ⟨((form_free h x).1 hf).2, hx⟩⟩

end Go.Proofs.YtnkjbdgnmgoefaaGreat.T1
