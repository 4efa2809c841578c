/- Texts of the proof, put together: Ka, Kb, Kc, Kd. No conditions. -/
import Derived.Test.YtmfmagfgcdaeeaaGreatHao
import Derived.Test.YtmfmagfgcdaeeaaGreatHas
import Derived.Sort.WalkB12
import Derived.Sort.WalkA
import Derived.Sort.OwnSorted
import Derived.Deep.LoopGhost
import Derived.Deep.QuietTactic
import Derived.BigQuiet

/- Orders, one after the other, plain: when one comes next and when none does; how many there are. -/
namespace Go.Proofs.YtmfmagfgcdaeeaaGreat.T1
set_option linter.unusedVariables false

theorem rev_split (n i : Nat) (h : i < n) : (List.range n).reverse = (List.range' (i + 1) (n - (i + 1))).reverse ++ i :: (List.range i).reverse := by
  have e : List.range n = List.range i ++ i :: List.range' (i + 1) (n - (i + 1)) := by
    rw [List.range_eq_range', List.range_eq_range']
    have h1 : n = i + (1 + (n - (i + 1))) := by omega
    conv => lhs; rw [h1, ← List.range'_append_1, Nat.zero_add, ← List.range'_append_1]
    simp
  rw [e, List.reverse_append, List.reverse_cons, List.append_assoc]; rfl
theorem mem_late {n i x : Nat} (h : x ∈ (List.range' (i + 1) (n - (i + 1))).reverse) : i < x ∧ x < n := by
  rw [List.mem_reverse, List.mem_range'_1] at h; omega
/-- Two places of a list, the second behind the first, in ascending order. -/
def asc {α : Type} (lt : α → α → Bool) (l : List α) (i j : Nat) : Bool :=
  decide (i < j) && (match l[i]?, l[j]? with | some a, some b => lt a b | _, _ => false)
theorem nextG_none {α : Type} (lt : α → α → Bool) (l : List α) (h : ∀ i j, i < j → j < l.length → asc lt l i j = false) : nextG lt l = none := by
  unfold nextG
  rw [List.findSome?_eq_none_iff]
  intro i hi
  rw [Option.map_eq_none_iff, List.find?_eq_none]
  intro j hj
  rw [List.mem_reverse, List.mem_range] at hj
  by_cases hij : i < j
  · have := h i j hij hj
    exact fun e => by
      have e' : asc lt l i j = true := e
      rw [this] at e'; cases e'
  · simp [hij]
/-- The list with two places swapped and all behind the first one turned. -/
def turned {α : Type} (l : List α) (i j : Nat) (a b : α) : List α := ((l.set i b).set j a).take (i + 1) ++ (((l.set i b).set j a).drop (i + 1)).reverse
theorem nextG_some {α : Type} (lt : α → α → Bool) (l : List α) (i j : Nat) (a b : α) (hij : i < j) (hj : j < l.length) (ha : l[i]? = some a) (hb : l[j]? = some b) (hlt : lt a b = true)
    (h1 : ∀ j', j < j' → j' < l.length → asc lt l i j' = false) (h2 : ∀ i' j', i < i' → i' < j' → j' < l.length → asc lt l i' j' = false) : nextG lt l = some (turned l i j a b) := by
  unfold nextG
  rw [List.findSome?_eq_some_iff]
  refine ⟨(List.range' (i + 1) (l.length - (i + 1))).reverse, i, (List.range i).reverse, rev_split _ _ (by omega), ?_, ?_⟩
  · rw [Option.map_eq_some_iff]
    refine ⟨j, ?_, by rw [ha, hb]; rfl⟩
    rw [List.find?_eq_some_iff_append]
    refine ⟨by rw [ha, hb]; simp [hij, hlt], (List.range' (j + 1) (l.length - (j + 1))).reverse, (List.range j).reverse, rev_split _ _ hj, ?_⟩
    intro j' hj'
    have := mem_late hj'
    have h3 := h1 j' this.1 this.2
    show (!asc lt l i j') = true
    rw [h3]; rfl
  · intro i' hi'
    have hm := mem_late hi'
    rw [Option.map_eq_none_iff, List.find?_eq_none]
    intro j' hj'
    rw [List.mem_reverse, List.mem_range] at hj'
    by_cases hc : i' < j'
    · have := h2 i' j' hm.1 hc hj'
      exact fun e => by
        have e' : asc lt l i' j' = true := e
        rw [this] at e'; cases e'
    · simp [hc]
theorem vis_lenN : ∀ m, m ≤ 5 → (visG ltN 200 (List.range m)).length ≤ 120 := by
  intro m hm
  have : m = 0 ∨ m = 1 ∨ m = 2 ∨ m = 3 ∨ m = 4 ∨ m = 5 := by omega
  rcases this with rfl | rfl | rfl | rfl | rfl | rfl <;> decide +kernel
theorem vis_len (G : List UInt8) (hs : G.Pairwise (· < ·)) (hl : G.length ≤ 5) : (visG ltU 200 G).length ≤ 120 := by
  have e : G = (List.range G.length).map fun i => G.getD i 0 := by
    apply List.ext_getElem (by simp)
    intro i h1 h2
    simp [List.getD_eq_getElem?_getD, List.getElem?_eq_getElem h1]
  have hlt : ∀ a b, a < G.length → b < G.length → ltU (G.getD a 0) (G.getD b 0) = ltN a b := by
    intro a b ha hb
    rw [List.pairwise_iff_getElem] at hs
    rw [List.getD_eq_getElem?_getD, List.getD_eq_getElem?_getD, List.getElem?_eq_getElem ha, List.getElem?_eq_getElem hb]
    unfold ltU ltN
    simp only [Option.getD_some]
    rcases Nat.lt_trichotomy a b with h | h | h
    · have := hs a b ha hb h; simp [this, h]
    · subst h; simp
    · have := hs b a hb ha h
      have h' : ¬ a < b := by omega
      have : ¬ G[a] < G[b] := fun e => by rw [u8_lt] at this e; omega
      simp [this, h']
  rw [e, visG_map (fun i => G.getD i 0) ltN ltU (fun i => i < G.length) hlt 200 _ (fun a ha => List.mem_range.1 ha), List.length_map]
  exact vis_lenN _ hl
theorem vis_ord (G : List UInt8) (hs : G.Pairwise (· < ·)) (hl : G.length ≤ 5) {o : List UInt8} (ho : o ∈ visG ltU 200 G) : o.length = G.length ∧ ∀ v, v ∈ G → v ∈ o := by
  obtain ⟨p, hp, rfl⟩ := (vis_names G hs hl o).1 ho
  have := ords_ok _ hl p hp
  exact ⟨by rw [List.length_map]; exact this.1, mem_order this.2.2⟩
/-- The orders behind one, k at most. -/
def restG (k : Nat) (o : List UInt8) : List (List UInt8) := match nextG ltU o with | some m => visG ltU k m | none => []
theorem visG_rest (k : Nat) (o : List UInt8) : visG ltU (k + 1) o = o :: restG k o := by
  unfold restG; rw [visG]; cases nextG ltU o <;> rfl
theorem restG_none {k : Nat} {o : List UInt8} (h : nextG ltU o = none) : restG k o = [] := by unfold restG; rw [h]
theorem restG_some {k : Nat} {o m : List UInt8} (h : nextG ltU o = some m) : restG (k + 1) o = m :: restG k m := by
  rw [← visG_rest]; unfold restG; rw [h]
/-- Where the search stands: b is the best one so far, at most 200 orders were seen. -/
def Srch (G : List UInt8) (F : List UInt8 → List Tm) (o : List UInt8) (b : List Tm) (k : Nat) : Prop :=
  (∃ pre, pre ++ o :: restG k o = visG ltU 200 G ∧ pre.length + k = 199) ∧ minB (fun a b => ltLs (a.map Tm.pr) (b.map Tm.pr)) ((restG k o).map F) b = bestL ((visG ltU 200 G).map F) ∧ ∃ o', o' ∈ visG ltU 200 G ∧ b = F o'
theorem Srch.start (G : List UInt8) (F : List UInt8 → List Tm) : Srch G F G (F G) 199 := by
  refine ⟨⟨[], (visG_rest 199 G).symm, rfl⟩, ?_, G, ?_, rfl⟩
  · rw [visG_rest 199]; rfl
  · rw [visG_rest 199]; simp
theorem Srch.mem {G : List UInt8} {F : List UInt8 → List Tm} {o : List UInt8} {b : List Tm} {k : Nat} (h : Srch G F o b k) : o ∈ visG ltU 200 G := by
  obtain ⟨⟨pre, h1, _⟩, _⟩ := h
  rw [← h1]; simp
theorem Srch.stop {G : List UInt8} {F : List UInt8 → List Tm} {o : List UInt8} {b : List Tm} {k : Nat} (h : Srch G F o b k) (hn : nextG ltU o = none) : b = bestL ((visG ltU 200 G).map F) := by
  have := h.2.1
  rw [restG_none hn] at this
  exact this
theorem Srch.go {G : List UInt8} {F : List UInt8 → List Tm} {o m : List UInt8} {b : List Tm} {k : Nat} (hs : G.Pairwise (· < ·)) (hl : G.length ≤ 5) (h : Srch G F o b k) (hn : nextG ltU o = some m) :
    ∃ k', k = k' + 1 ∧ Srch G F m (if ltLs ((F m).map Tm.pr) (b.map Tm.pr) then F m else b) k' := by
  obtain ⟨⟨pre, h1, h2⟩, h3, o', h4, h5⟩ := h
  have hlen := vis_len G hs hl
  rw [← h1, List.length_append, List.length_cons] at hlen
  cases k with
  | zero => omega
  | succ k =>
    refine ⟨k, rfl, ⟨pre ++ [o], ?_, by simp; omega⟩, ?_, ?_⟩
    · rw [← h1, restG_some hn]; simp
    · rw [restG_some hn] at h3
      simp only [List.map_cons, minB] at h3
      exact h3
    · have hm : m ∈ visG ltU 200 G := by rw [← h1, restG_some hn]; simp
      split
      · exact ⟨m, hm, rfl⟩
      · exact ⟨o', h4, h5⟩

end Go.Proofs.YtmfmagfgcdaeeaaGreat.T1

/- Lengths of what the program writes, plain. -/
namespace Go.Proofs.YtmfmagfgcdaeeaaGreat.T1
set_option linter.unusedVariables false
set_option linter.unusedSimpArgs false

theorem minB_mem {α : Type} (lt : α → α → Bool) : ∀ (cs : List α) (b : α), minB lt cs b ∈ b :: cs := by
  intro cs; induction cs with
  | nil => intro b; simp [minB]
  | cons c cs ih =>
    intro b
    simp only [minB]
    have := ih (if lt c b then c else b)
    split at this <;> rename_i h
    · simp only [h, if_true]; exact List.mem_cons_of_mem _ this
    · simp only [h, if_false, Bool.false_eq_true]
      rcases List.mem_cons.1 this with e | e
      · rw [e]; simp
      · exact List.mem_cons_of_mem _ (List.mem_cons_of_mem _ e)
theorem bestL_mem : ∀ l : List (List Tm), l ≠ [] → bestL l ∈ l
  | [], h => absurd rfl h
  | c :: cs, _ => minB_mem _ cs c
theorem lvl_len (s : Tm) : 3 * (lvl s).1.length + 1 ≤ s.pr.length ∧ 3 * (lvl s).1.length + wtL (lvl s).2 ≤ s.pr.length + 3 := by
  induction s with
  | own x p ih =>
    have e : (Tm.own x p).pr.length = p.pr.length + 3 := by simp [Tm.pr]
    rw [e]; simp only [lvl, List.length_cons]; omega
  | par p q ih ih2 =>
    have e : (Tm.par p q).pr.length = p.pr.length + q.pr.length + 3 := by simp [Tm.pr]; omega
    rw [e]; simp only [lvl, List.length_append, wtL_app]; omega
  | nil => simp [lvl, Tm.pr, wtL]
  | _ => simp [lvl, Tm.pr, wtL]
theorem smds_len (s : Tm) : wtL (smds s) ≤ s.pr.length + 3 := by
  induction s with
  | sum p q ih ih2 =>
    have e : (Tm.sum p q).pr.length = p.pr.length + q.pr.length + 3 := by simp [Tm.pr]; omega
    rw [e]; simp only [smds, wtL_app]; omega
  | _ => simp [smds, wtL]
theorem smds_nil (s : Tm) : smds s ≠ [] := by
  induction s with
  | sum p q ih ih2 => simp only [smds]; intro e; exact ih (List.append_eq_nil_iff.1 e).1
  | _ => simp [smds]
theorem srtT_nil {l : List Tm} (h : srtT l = []) : l = [] := by
  have := congrArg List.length h
  unfold srtT at this
  rw [List.length_mergeSort] at this
  exact List.length_eq_zero_iff.1 this
theorem srtT_len (l : List Tm) : (srtT l).length = l.length := by unfold srtT; rw [List.length_mergeSort]
theorem thI_len (f : (UInt8 → UInt8) → List UInt8 → Tm → Tm) (hf : ∀ L left s, (f L left s).pr.length ≤ s.pr.length) (L : UInt8 → UInt8) (left : List UInt8) (T : Tm) (hn : T ≠ .nil) : (thI f L left T).pr.length ≤ T.pr.length := by
  have hs : ∀ T, (joinR .sum (srtT ((smds T).map (f L left)))).pr.length ≤ T.pr.length := by
    intro T
    have hne : srtT ((smds T).map (f L left)) ≠ [] := fun e => smds_nil T (List.map_eq_nil_iff.1 (srtT_nil e))
    have h1 := joinS_len _ hne
    rw [wt_srt] at h1
    have h2 := wt_le (smds T) (f L left) id fun a _ => hf L left a
    rw [List.map_id] at h2
    have h3 := smds_len T
    omega
  cases T with
  | nil => exact absurd rfl hn
  | snd a b p => have := hf L left p; simp only [thI, Tm.pr, List.length_append, List.length_cons] at *; omega
  | tau p => have := hf L left p; simp only [thI, Tm.pr, List.length_append, List.length_cons] at *; omega
  | rep p => have := hf L left p; simp only [thI, Tm.pr, List.length_append, List.length_cons] at *; omega
  | rcv a x p => have := hf (upd L x (left.headD 0)) left.tail p; simp only [thI, Tm.pr, List.length_append, List.length_cons] at *; omega
  | mat a b p => have := hf L left p; simp only [thI]; split <;> simp only [Tm.pr, List.length_append, List.length_cons] at * <;> omega
  | sum p q => exact hs _
  | par p q => exact hs _
  | own x p => exact hs _
theorem levI_len (n : Nat) : ∀ (L : UInt8 → UInt8) (left : List UInt8) (s : Tm), (levI n L left s).pr.length ≤ s.pr.length := by
  induction n with
  | zero => intro L left s; have := (lvl_len s).1; simp only [levI, Tm.pr, List.length_cons, List.length_nil]; omega
  | succ n ih =>
    intro L left s
    obtain ⟨h1, h2⟩ := lvl_len s
    unfold levI
    rw [wrap_len, List.length_take]
    have hm := bestL_mem ((visG ltU 200 (lvl s).1).map fun o => srtT ((lvl s).2.map (thI (levI n) (updL L o left) (left.drop (lvl s).1.length)))) (fun e => visG_ne ltU 199 _ (List.map_eq_nil_iff.1 e))
    obtain ⟨o, _, e⟩ := List.mem_map.1 hm
    rw [← e]
    by_cases hU : (lvl s).2 = []
    · rw [hU]
      have : (joinR .par (srtT (List.map (thI (levI n) (updL L o left) (left.drop (lvl s).1.length)) []))).pr.length = 1 := by
        have e0 : srtT ([] : List Tm) = [] := List.length_eq_zero_iff.1 (srtT_len [])
        rw [List.map_nil, e0]; rfl
      rw [this]; omega
    · have hne : srtT ((lvl s).2.map (thI (levI n) (updL L o left) (left.drop (lvl s).1.length))) ≠ [] := fun e => hU (List.map_eq_nil_iff.1 (srtT_nil e))
      have h3 := joinP_len _ hne
      rw [wt_srt] at h3
      have h4 := wt_le (lvl s).2 (thI (levI n) (updL L o left) (left.drop (lvl s).1.length)) id fun a ha => thI_len _ (ih) _ _ a (lvl_kind s a ha).2.2
      rw [List.map_id] at h4
      omega
/-- The lists of threads among which the program looks for the least. -/
def candI (n : Nat) (L : UInt8 → UInt8) (left : List UInt8) (s : Tm) (o : List UInt8) : List Tm := srtT ((lvl s).2.map (thI (levI n) (updL L o left) (left.drop (lvl s).1.length)))
theorem levI_cand (n : Nat) (L : UInt8 → UInt8) (left : List UInt8) (s : Tm) : levI (n + 1) L left s = wrapO (left.take (lvl s).1.length) (joinR .par (bestL ((visG ltU 200 (lvl s).1).map (candI n L left s)))) := rfl
theorem lvl_txt (s : Tm) : ∀ T ∈ (lvl s).2, T.pr.length ≤ s.pr.length := fun T hT => by
  have h1 := (lvl_len s).2
  have h2 := (wt_mem hT).1
  omega
theorem smds_txt (s : Tm) : ∀ T ∈ smds s, T.pr.length ≤ s.pr.length := fun T hT => by
  have h1 := smds_len s
  have h2 := (wt_mem hT).1
  omega
theorem candI_txt (n : Nat) (L : UInt8 → UInt8) (left : List UInt8) (s : Tm) (o : List UInt8) : (candI n L left s o).length = (lvl s).2.length ∧ ∀ t ∈ candI n L left s o, t.pr.length ≤ s.pr.length := by
  refine ⟨by unfold candI; rw [srtT_len, List.length_map], fun t ht => ?_⟩
  obtain ⟨T, hT, rfl⟩ := List.mem_map.1 ((mem_srtT _ _).1 ht)
  have h1 := thI_len _ (levI_len n) (updL L o left) (left.drop (lvl s).1.length) T (lvl_kind s T hT).2.2
  have h2 := lvl_txt s T hT
  omega

end Go.Proofs.YtmfmagfgcdaeeaaGreat.T1

/- Rows of bytes that are put anew, lists of texts compared: plain. -/
namespace Go.Proofs.YtmfmagfgcdaeeaaGreat.T1
open Go.RowKit
open Go.Sort (Holds putRow putCells swp mapBlock onCells)
set_option linter.unusedVariables false

theorem ltLs_skip : ∀ (i : Nat) (a b : List (List UInt8)), a.take i = b.take i → i ≤ a.length → i ≤ b.length → ltLs a b = ltLs (a.drop i) (b.drop i)
  | 0, _, _, _, _, _ => rfl
  | i + 1, [], _, _, h, _ => by simp at h
  | i + 1, _ :: _, [], _, _, h => by simp at h
  | i + 1, x :: a, y :: b, h, h1, h2 => by
    simp only [List.take_succ_cons, List.cons.injEq] at h
    obtain ⟨rfl, h⟩ := h
    have := ltLs_skip i a b h (by simpa using h1) (by simpa using h2)
    rw [List.drop_succ_cons, List.drop_succ_cons, ← this, ltLs, if_neg (lt_irr x), if_neg (lt_irr x)]
theorem ltLs_yes (i : Nat) (a b : List (List UInt8)) (x y : List UInt8) (h : a.take i = b.take i) (ha : a[i]? = some x) (hb : b[i]? = some y) (hlt : x < y) : ltLs a b = true := by
  obtain ⟨h1, rfl⟩ := List.getElem?_eq_some_iff.1 ha
  obtain ⟨h2, rfl⟩ := List.getElem?_eq_some_iff.1 hb
  rw [ltLs_skip i a b h (by omega) (by omega), List.drop_eq_getElem_cons h1, List.drop_eq_getElem_cons h2]
  rw [ltLs, if_pos hlt]
theorem ltLs_no (i : Nat) (a b : List (List UInt8)) (x y : List UInt8) (h : a.take i = b.take i) (ha : a[i]? = some x) (hb : b[i]? = some y) (hlt : y < x) : ltLs a b = false := by
  obtain ⟨h1, rfl⟩ := List.getElem?_eq_some_iff.1 ha
  obtain ⟨h2, rfl⟩ := List.getElem?_eq_some_iff.1 hb
  rw [ltLs_skip i a b h (by omega) (by omega), List.drop_eq_getElem_cons h1, List.drop_eq_getElem_cons h2]
  rw [ltLs, if_neg (fun e => List.lt_asymm hlt e), if_pos hlt]
theorem ltLs_same (a : List (List UInt8)) : ltLs a a = false := by
  induction a with
  | nil => rfl
  | cons x a ih => rw [ltLs, if_neg (lt_irr x), if_neg (lt_irr x)]; exact ih

theorem putRow_tail (enc : UInt8 → Value) (w : World) (g k : Nat) (l m : List UInt8) (hk : k + m.length = l.length) : putRow enc (putRow enc w g 0 l.toArray) g k m.toArray = putRow enc w g 0 (l.take k ++ m).toArray := by
  unfold putRow
  rw [Go.Sort.mapBlock_mapBlock]
  refine Go.Sort.mapBlock_congr _ _ _ _ fun c e fr _ => ?_
  apply Array.ext_getElem?
  intro j
  simp only [putCells, Array.getElem?_mapIdx, Option.map_map]
  cases c[j]? with
  | none => rfl
  | some x =>
    simp only [Option.map_some, Function.comp, List.size_toArray, List.length_append, List.length_take]
    congr 1
    have hmin : min k l.length = k := by omega
    rw [hmin]
    by_cases h1 : k ≤ j ∧ j < k + m.length
    · rw [if_pos h1, if_pos ⟨Nat.zero_le _, by omega⟩]
      congr 1
      rw [getElem!_pos _ _ (by simp; omega), getElem!_pos _ _ (by simp; omega)]
      simp only [List.getElem_toArray, Nat.sub_zero]
      rw [List.getElem_append_right (by simp; omega)]
      congr 1
      simp; omega
    · rw [if_neg h1]
      by_cases h2 : j < l.length
      · rw [if_pos ⟨Nat.zero_le _, by omega⟩, if_pos ⟨Nat.zero_le _, by omega⟩]
        congr 1
        rw [getElem!_pos _ _ (by simp; omega), getElem!_pos _ _ (by simp; omega)]
        simp only [List.getElem_toArray, Nat.sub_zero]
        rw [List.getElem_append_left (by simp; omega), List.getElem_take]
      · rw [if_neg (by omega), if_neg (by omega)]
theorem swp_list (l : List UInt8) (i j : Nat) (a b : UInt8) (ha : l[i]? = some a) (hb : l[j]? = some b) : swp l.toArray i j = ((l.set i b).set j a).toArray := by
  obtain ⟨h1, rfl⟩ := List.getElem?_eq_some_iff.1 ha
  obtain ⟨h2, rfl⟩ := List.getElem?_eq_some_iff.1 hb
  unfold swp
  rw [getElem!_pos _ _ (by simpa using h2), getElem!_pos _ _ (by simpa using h1)]
  simp

theorem holds_drop (enc : UInt8 → Value) {w : World} {g : Nat} {l : List UInt8} (h : Holds enc w g 0 l.toArray) (k : Nat) (hk : k ≤ l.length) : Holds enc w g k (l.drop k).toArray := by
  intro j hj
  have hj' : j < l.length - k := by simpa using hj
  have := h (k + j) (by simp; omega)
  rw [Nat.zero_add] at this
  refine ⟨this.1.trans ?_, this.2⟩
  rw [getElem!_pos _ _ (by simp; omega), getElem!_pos ((l.drop k).toArray) j hj]
  simp
theorem ahead_drewN (w : World) (m n : Nat) : (Sort.ahead w m).drewN n = Sort.ahead w (m + n) := by simp [Sort.ahead, World.drewN, Nat.add_assoc]
theorem turn_world (enc : UInt8 → Value) (w : World) (g : Nat) (o : List UInt8) (i j : Nat) (a b : UInt8) (m n : Nat) (hi : i < o.length) :
    putRow enc (Sort.ahead (putRow enc (Sort.ahead w m) g 0 ((o.set i b).set j a).toArray) n) g (i + 1) ((((o.set i b).set j a).drop (i + 1)).reverse).toArray = putRow enc (Sort.ahead w (m + n)) g 0 (turned o i j a b).toArray := by
  rw [← Go.Sort.putRow_ahead, Go.Sort.ahead_ahead, putRow_tail enc _ g (i + 1) _ _ (by simp; omega)]
  rfl

-- a row of one's own whose cells are put anew
section
variable {α : Type} [Inhabited α] (enc : α → Value)
theorem heap_put {w : World} {g n : Nat} {cur : Array Value} {e : TypeId} {fr : Nat × Nat} (d : Array α) (hb : w.heap[g]? = some (.cells cur e fr)) :
    (putRow enc (Sort.ahead w n) g 0 d).heap[g]? = some (.cells (putCells enc 0 d cur) e fr) := by
  simp [putRow, mapBlock, Sort.ahead, Array.getElem?_modify, hb, onCells]
theorem grown_put {w : World} {g n : Nat} (d : Array α) : w.grownBy (putRow enc (Sort.ahead w n) g 0 d) (some g) := by
  refine ⟨rfl, rfl, rfl, by simp, fun k hk hne => ?_⟩
  have : g ≠ k := fun e => hne (by rw [e])
  simp [putRow, mapBlock, Sort.ahead, Array.getElem?_modify, this]
theorem take_put (cur : Array Value) (ts : List α) (h : ts.length ≤ cur.size) : (putCells enc 0 ts.toArray cur).toList.take ts.length = ts.map enc := by
  apply List.ext_getElem?
  intro j
  by_cases hj : j < ts.length
  · rw [List.getElem?_take_of_lt hj, Array.getElem?_toList]
    simp [putCells, hj, show j < cur.size by omega]
  · rw [List.getElem?_take_eq_none (by omega), List.getElem?_eq_none (by simp; omega)]
theorem owns_put {w : World} {base g cap n m : Nat} {e : TypeId} {cur : Array Value} {ts : List α} (hl : ts.length = m) (hbase : base ≤ g) (hb : w.heap[g]? = some (.cells cur e (0, 0)))
    (h1 : m ≤ cap) (h2 : cap ≤ maxLen) (h3 : cur.size = cap * 1) :
    (putRow enc (Sort.ahead w n) g 0 ts.toArray).ownsRow base e 1 (.slice (some ⟨g, 0, none⟩) m cap) m (ts.map enc) :=
  ⟨by simp [hl], .inr ⟨g, cap, _, rfl, hbase, heap_put enc _ hb, h1, h2, by simp [putCells, h3], by rw [Nat.mul_one, ← hl]; exact take_put enc cur ts (by omega)⟩⟩
theorem holds_block {w : World} {g : Nat} {cur : Array Value} {e : TypeId} {ss : List α} (hb : w.heap[g]? = some (.cells cur e (0, 0))) (ht : cur.toList.take ss.length = ss.map enc) : Holds enc w g 0 ss.toArray := by
  intro j hj
  have hj' : j < ss.length := by simpa using hj
  refine ⟨?_, by simp [World.frozen?, hb]⟩
  have h1 : (cur.toList.take ss.length)[j]? = (ss.map enc)[j]? := by rw [ht]
  rw [List.getElem?_take_of_lt hj'] at h1
  simp only [World.cell?, hb, Nat.zero_add]
  simp only [Option.isSome_none, Bool.false_eq_true, if_false]
  rw [← Array.getElem?_toList, h1]
  simp [hj']
end

end Go.Proofs.YtmfmagfgcdaeeaaGreat.T1

/- The order of names that comes next: in the program. -/
namespace Go.Proofs.YtmfmagfgcdaeeaaGreat.T1
open Go.RowKit
open Go.Sort (Holds putRow putCells swp)
set_option maxRecDepth 100000
set_option linter.unusedVariables false
set_option linter.unusedSimpArgs false

/-- The contract of turning a row of bytes. -/
def RevC : Prop := ∀ (g k c : Nat) (zs : List UInt8) (w : World), Holds ub w g k zs.toArray → zs.length ≤ 1000 →
  Calls Tryz.prog 205 #[.slice (some ⟨g, k, none⟩) zs.length c] w fun e w' => e = .returned (.tuple #[]) ∧ ∃ n, w' = putRow ub (Sort.ahead w n) g k zs.reverse.toArray
def NxP (o : List UInt8) (g : Nat) (w : World) (e : Ending) (w' : World) : Prop :=
  e = .returned (.bool (nextG ltU o).isSome) ∧ ∃ q, w' = putRow ub (Sort.ahead w q) g 0 ((nextG ltU o).getD o).toArray
theorem holds_cell {w : World} {g : Nat} {o : List UInt8} (h : Holds ub w g 0 o.toArray) (k : Nat) (hk : k < o.length) : w.cell? ⟨g, k, none⟩ = some (.int .u8 (o[k].toNat : Int)) ∧ w.frozen? ⟨g, k, none⟩ = false := by
  have := h k (by simpa using hk)
  rw [Nat.zero_add, getElem!_pos _ _ (by simpa using hk)] at this
  simpa [ub] using this
theorem rev_call (HR : RevC) (o : List UInt8) (g i j : Nat) (a b : UInt8) (c : Nat) (w W : World) (m n : Nat) (n0 n1 : Int) (hH : Holds ub w g 0 o.toArray) (hn : n + 1 = o.length) (hij : i < j) (hj : j ≤ n) (ha : o[i]? = some a) (hb : o[j]? = some b) (h0 : n0 = (a.toNat : Int)) (h1 : n1 = (b.toNat : Int)) (hW : W = Sort.ahead w m) (hl : o.length ≤ 1000) :
    Calls Tryz.prog 205 #[.slice (some ⟨g, i + 1, none⟩) (n - i) c] ((W.setCell ⟨g, i, none⟩ (.int .u8 n1)).setCell ⟨g, j, none⟩ (.int .u8 n0)).drew fun e w' =>
      e = .returned (.tuple #[]) ∧ ∃ q, w' = putRow ub (Sort.ahead w q) g 0 (turned o i j a b).toArray := by
  have hself : W = putRow ub (Sort.ahead w m) g 0 o.toArray := by rw [hW]; exact (Go.Sort.putRow_self ub (Sort.ahead w m) g 0 _ hH).symm
  obtain ⟨hi, ea⟩ := List.getElem?_eq_some_iff.1 ha
  obtain ⟨hjl, eb⟩ := List.getElem?_eq_some_iff.1 hb
  have hsw := swap_world ub (i := i) (j := j) (dk := o.toArray) (by simpa using hi) (by simpa using hjl) hself (x := .int .u8 n1) (y := .int .u8 n0) (by rw [h1, getElem!_pos _ _ (by simpa using hjl)]; simp [ub, eb]) (by rw [h0, getElem!_pos _ _ (by simpa using hi)]; simp [ub, ea])
  rw [Nat.zero_add, Nat.zero_add] at hsw
  rw [hsw, swp_list o i j a b ha hb]
  have hlen : ((o.set i b).set j a).length = o.length := by simp
  have hH2 : Holds ub (putRow ub (Sort.ahead w (m + 1)) g 0 ((o.set i b).set j a).toArray) g 0 ((o.set i b).set j a).toArray :=
    Go.Sort.holds_putRow ub _ g 0 o.toArray _ (Go.Sort.holds_ahead ub w _ g 0 _ hH) (by simp)
  have hd := holds_drop ub hH2 (i + 1) (by omega)
  have hdl : (((o.set i b).set j a).drop (i + 1)).length = n - i := by rw [List.length_drop, hlen]; omega
  have := HR g (i + 1) c _ _ hd (by rw [hdl]; omega)
  rw [hdl] at this
  refine this.mono ?_
  rintro e w' ⟨rfl, q, rfl⟩
  exact ⟨rfl, m + 1 + q, turn_world ub w g o i j a b (m + 1) q hi⟩
set_option maxHeartbeats 4000000 in
theorem nextOrder_any (HR : RevC) (o : List UInt8) (g cap : Nat) (hn : o.length ≤ 1000) (hc : o.length ≤ cap) (w : World) (hH : Holds ub w g 0 o.toArray) :
    Calls Tryz.prog 200 #[.slice (some ⟨g, 0, none⟩) o.length cap] w (NxP o g w) := by
  have HR' := Lib.hid HR
  have HH := Lib.hid hH
  obtain ⟨n, hnn⟩ : ∃ n, n = o.length := ⟨_, rfl⟩
  have HN := Lib.hid hnn
  rw [← hnn] at hn hc ⊢
  clear hH hnn HR
  cases n with
  | zero =>
    have e0 : Hid (nextG ltU o = none) := nextG_none _ _ fun i j _ hj => by rw [← HN.out] at hj; omega
    have e1 : Hid (w = putRow ub (Sort.ahead w 0) g 0 o.toArray) := (Go.Sort.putRow_self ub w g 0 _ HH.out).symm
    go_enter Tryz.func200, Tryz.ntmps200
    go_wp2_with fail
    go_loopg [3] 1 (fun k s3 wr => s3 = .int .i64 (-2) ∧ wr = w)
    case atStart => exact ⟨by congr 1, rfl⟩
    case round =>
      obtain ⟨rfl, rfl⟩ := hrel
      go_wp2_with fail
      go_ret
      exact ⟨by rw [e0.out]; rfl, 0, by rw [e0.out]; exact e1.out⟩
  | succ n =>
    obtain ⟨R, hR⟩ : ∃ R : Prop, R = True := ⟨_, rfl⟩
    have nxtS : Hid (∀ (k l : Nat) (a b : UInt8), k < l → l < n + 1 → o[k]? = some a → o[l]? = some b → a < b → (∀ j, l < j → j < n + 1 → asc ltU o k j = false) → (∀ i j, k < i → i < j → j < n + 1 → asc ltU o i j = false) → nextG ltU o = some (turned o k l a b)) :=
      fun k l a b h1 h2 h3 h4 h5 h6 h7 => nextG_some ltU o k l a b h1 (by rw [← HN.out]; exact h2) h3 h4 (by unfold ltU; exact decide_eq_true h5) (fun j a1 a2 => h6 j a1 (by rw [HN.out]; exact a2)) (fun i j a1 a2 a3 => h7 i j a1 a2 (by rw [HN.out]; exact a3))
    have nxtN : Hid ((∀ i j, i < j → j < n + 1 → asc ltU o i j = false) → nextG ltU o = none) := fun h => nextG_none _ _ fun i j a1 a2 => h i j a1 (by rw [HN.out]; exact a2)
    have hself : Hid (∀ q, Sort.ahead w q = putRow ub (Sort.ahead w q) g 0 o.toArray) := fun q => (Go.Sort.putRow_self ub (Sort.ahead w q) g 0 _ HH.out).symm
    go_enter Tryz.func200, Tryz.ntmps200
    go_wp2_with fail
    go_loopg [3] (n + 1) (fun k s3 wr => k ≤ n + 1 ∧ 1 ≤ k ∧ s3 = .int .i64 ((k : Int) - 2) ∧ Hid (∃ q, wr = Sort.ahead w q) ∧ Hid (∀ i j, k ≤ i + 1 → i < j → j < n + 1 → asc ltU o i j = false))
    case atStart => exact ⟨Nat.le_refl _, by omega, by congr 1, ⟨0, rfl⟩, fun i j h1 h2 h3 => by omega⟩
    case round =>
      obtain ⟨hk1, hk2, rfl, hwr, hasc⟩ := hrel
      obtain ⟨q, hq⟩ := hwr.out
      have HQ := Lib.hid hq
      have HA := Lib.hid hasc.out
      clear hq hwr hasc
      by_cases hlt : (0 : Int) ≤ (gk : Int) - 2
      · obtain ⟨i, rfl⟩ : ∃ i, gk = i + 2 := ⟨gk - 2, by omega⟩
        obtain ⟨a, ha⟩ : ∃ a, o[i]? = some a := ⟨_, List.getElem?_eq_getElem (by rw [← HN.out]; omega)⟩
        have hi : ((i + 2 : Nat) : Int) - 2 = (i : Int) := by omega
        rw [hi] at hlt ⊢
        clear hi
        have Ha := Lib.hid ha
        have hin : i + 1 ≤ n := by omega
        clear ha hk1 hk2
        go_wp2_with fail
        go_loopg [4] n (fun k s4 wr' => k ≤ n ∧ i ≤ k ∧ s4 = .int .i64 (k : Int) ∧ Hid (∃ q, wr' = Sort.ahead w q) ∧ Hid (∀ j, k < j → j < n + 1 → asc ltU o i j = false))
        case atStart => exact ⟨Nat.le_refl _, by omega, by congr 1, ⟨q, HQ.out⟩, fun j h1 h2 => by omega⟩
        case round =>
          obtain ⟨hk1, hk2, rfl, hwr, hasj⟩ := hrel
          obtain ⟨q2, hq2⟩ := hwr.out
          have HQ2 := Lib.hid hq2
          have HJ := Lib.hid hasj.out
          have hsz : wr.heap.size = w.heap.size := by rw [hq2]; rfl
          by_cases hgt : i < gk
          · obtain ⟨b, hb⟩ : ∃ b, o[gk]? = some b := ⟨_, List.getElem?_eq_getElem (by rw [← HN.out]; omega)⟩
            obtain ⟨n0, hn0⟩ : ∃ n0 : Int, n0 = (a.toNat : Int) := ⟨_, rfl⟩
            obtain ⟨n1, hn1⟩ : ∃ n1 : Int, n1 = (b.toNat : Int) := ⟨_, rfl⟩
            have hoi : i < o.length := by rw [← HN.out]; omega
            have hog : gk < o.length := by rw [← HN.out]; omega
            have c1 : wr.cell? ⟨g, i, none⟩ = some (.int .u8 n0) := by
              rw [hq2, hn0, show a = o[i] from (by have := Ha.out; rw [List.getElem?_eq_getElem hoi] at this; exact (Option.some.inj this).symm)]
              exact (holds_cell HH.out i hoi).1
            have c2 : wr.cell? ⟨g, gk, none⟩ = some (.int .u8 n1) := by
              rw [hq2, hn1, show b = o[gk] from (by have := hb; rw [List.getElem?_eq_getElem hog] at this; exact (Option.some.inj this).symm)]
              exact (holds_cell HH.out gk hog).1
            have f1 : wr.frozen? ⟨g, i, none⟩ = false := by rw [hq2]; exact (holds_cell HH.out i hoi).2
            have f2 : wr.frozen? ⟨g, gk, none⟩ = false := by rw [hq2]; exact (holds_cell HH.out gk hog).2
            have hgi : (i : Int) < (gk : Int) := by omega
            have Hb := Lib.hid hb
            have HN0 := Lib.hid hn0
            have HN1 := Lib.hid hn1
            clear hq2 hwr hasj hn0 hn1 hb hoi hog
            by_cases hab : n0 < n1
            · go_wp2_with fail
              go_quiet (fail)
              obtain ⟨W, hW⟩ : ∃ W, W = wr.drewN nq := ⟨_, rfl⟩
              have HW : Hid (W = Sort.ahead w (q2 + nq)) := by show _ = _; rw [hW, HQ2.out, ahead_drewN]
              rw [← hW]
              replace c1 : W.cell? ⟨g, i, none⟩ = some (.int .u8 n0) := by rw [hW]; exact c1
              replace c2 : W.cell? ⟨g, gk, none⟩ = some (.int .u8 n1) := by rw [hW]; exact c2
              replace f1 : W.frozen? ⟨g, i, none⟩ = false := by rw [hW]; exact f1
              replace f2 : W.frozen? ⟨g, gk, none⟩ = false := by rw [hW]; exact f2
              clear hW hsz
              have hcall := Lib.hid (rev_call HR'.out o g i gk a b (cap - (i + 1)) w W (q2 + nq) n n0 n1 HH.out HN.out hgt hk1 Ha.out Hb.out HN0.out HN1.out HW.out (by have := HN.out; omega))
              have hnx : Hid (nextG ltU o = some (turned o i gk a b)) := nxtS.out i gk a b hgt (by omega) Ha.out Hb.out (by rw [u8_lt]; have := HN0.out; have := HN1.out; omega) HJ.out fun i' j h1 h2 h3 => HA.out i' j (by omega) h2 h3
              have hb1 : (i : Int) + 1 ≤ (n : Int) + 1 := by omega
              have hb2 : (i : Int) + 1 ≤ (cap : Int) := by omega
              go_wp2_with fail
              go_region
              go_wp2_with fail
              refine (hcall.out).mono ?_
              rintro e w1 ⟨rfl, q3, rfl⟩
              go_wp2_with fail
              go_ret
              exact ⟨by rw [hnx.out]; rfl, q3, by rw [hnx.out]; rfl⟩
            · go_wp2_with fail
              go_quiet (fail)
              go_wp2_with fail
              go_roundg (gk - 1)
              case rel =>
                refine ⟨by omega, by omega, by congr 1; omega, ⟨q2 + nq, ?_⟩, fun j h1 h2 => ?_⟩
                · rw [HQ2.out, ahead_drewN]
                · by_cases e : j = gk
                  · subst e
                    unfold asc
                    rw [Ha.out, Hb.out]
                    have : ltU a b = false := by unfold ltU; exact decide_eq_false fun h => by (rw [u8_lt] at h; have := HN0.out; have := HN1.out; omega)
                    simp [this]
                  · exact HJ.out j (by omega) h2
              case measure => omega
          · obtain rfl : gk = i := by omega
            go_wp2_with fail
            go_roundg (gk + 1)
            case rel =>
              refine ⟨by omega, by omega, by congr 1; omega, ⟨q2, rfl⟩, fun i' j h1 h2 h3 => ?_⟩
              by_cases e : i' = gk
              · subst e; exact HJ.out j h2 h3
              · exact HA.out i' j (by omega) h2 h3
            case measure => omega
      · have e1 : Hid (nextG ltU o = none) := nxtN.out fun i j h1 h2 => HA.out i j (by omega) h1 h2
        go_wp2_with fail
        go_ret
        exact ⟨by rw [e1.out]; rfl, q, by rw [e1.out, HQ.out]; exact hself.out q⟩

end Go.Proofs.YtmfmagfgcdaeeaaGreat.T1
