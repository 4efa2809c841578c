/- Congruence, plain: the program's way to a normal form (orders that come next, texts compared one by one) makes the same. -/
import Derived.Test.YtpahhlcfbmmocabNz
namespace Go.Proofs.Ytpahhlcfbmmocab.T1
set_option linter.unusedVariables false

-- the order of texts
theorem lt_app : ∀ (l m x y : List UInt8), (∀ r, l ++ r ≠ m) → (∀ r, m ++ r ≠ l) → (l ++ x < m ++ y ↔ l < m) := by
  intro l; induction l with
  | nil => intro m x y h _; exact absurd rfl (h m)
  | cons c l ih =>
    intro m x y h h2
    cases m with
    | nil => exact absurd rfl (h2 (c :: l))
    | cons d m =>
      simp only [List.cons_append, List.cons_lt_cons_iff]
      by_cases e : c = d
      · subst e
        rw [ih m x y (fun r hr => h r (by rw [List.cons_append, hr])) (fun r hr => h2 r (by rw [List.cons_append, hr]))]
      · simp [e]
theorem lt_irr (l : List UInt8) : ¬ l < l := List.lt_irrefl l
theorem pr_ne {nm : UInt8 → Bool} (hn : Nm nm) {a b : Tm} (ha : a.ok nm = true) (hb : b.ok nm = true) (h : a ≠ b) : ∀ r, a.pr ++ r ≠ b.pr := fun r e =>
  h (pr_inj hn a b r [] ha hb (by rw [List.append_nil]; exact e)).1
theorem lt_pr {nm : UInt8 → Bool} (hn : Nm nm) {a b : Tm} (ha : a.ok nm = true) (hb : b.ok nm = true) (x y : List UInt8) : (a.pr ++ x < b.pr ++ y) ↔ (a.pr < b.pr ∨ (a = b ∧ x < y)) := by
  by_cases h : a = b
  · subst h
    constructor
    · intro e
      refine .inr ⟨rfl, ?_⟩
      have : ∀ l : List UInt8, l ++ x < l ++ y → x < y := by
        intro l; induction l with
        | nil => exact id
        | cons c l ih => intro e; simp only [List.cons_append, List.cons_lt_cons_iff] at e; exact ih (by simpa using e)
      exact this _ e
    · intro e
      have : ∀ l : List UInt8, x < y → l ++ x < l ++ y := by
        intro l; induction l with
        | nil => exact id
        | cons c l ih => intro e; simp only [List.cons_append, List.cons_lt_cons_iff]; exact .inr ⟨trivial, ih e⟩
      rcases e with e | ⟨_, e⟩
      · exact absurd e (lt_irr _)
      · exact this _ e
  · rw [lt_app _ _ x y (pr_ne hn ha hb h) (pr_ne hn hb ha (Ne.symm h))]
    simp [h]

/-- Lists of texts compared one by one: the first that differ decide. -/
def ltLs : List (List UInt8) → List (List UInt8) → Bool
  | a :: l, b :: m => if a < b then true else if b < a then false else ltLs l m
  | _, _ => false
theorem ltLs_join {nm : UInt8 → Bool} (hn : Nm nm) : ∀ (c d : List Tm), c.length = d.length → (∀ t ∈ c, t.ok nm = true) → (∀ t ∈ d, t.ok nm = true) →
    (ltLs (c.map Tm.pr) (d.map Tm.pr) = true ↔ (joinR .par c).pr < (joinR .par d).pr) := by
  have hj : ∀ (l : List Tm), (∀ t ∈ l, t.ok nm = true) → (joinR .par l).ok nm = true := by
    intro l; induction l with
    | nil => intro _; rfl
    | cons a l ih =>
      cases l with
      | nil => intro h; exact h a (by simp)
      | cons b l => intro h; simp only [joinR, Tm.ok, Bool.and_eq_true]; exact ⟨h a (by simp), ih fun t ht => h t (by simp [ht])⟩
  intro c; induction c with
  | nil =>
    intro d hl _ _
    cases d with
    | nil => simp only [List.map_nil, ltLs, joinR]; exact ⟨fun h => (by cases h), fun h => absurd h (lt_irr _)⟩
    | cons b d => simp at hl
  | cons a c ih =>
    intro d hl hc hd
    cases d with
    | nil => simp at hl
    | cons b d =>
      have ha := hc a (by simp)
      have hb := hd b (by simp)
      have hl' : c.length = d.length := by simpa using hl
      have ih := ih d hl' (fun t ht => hc t (by simp [ht])) (fun t ht => hd t (by simp [ht]))
      simp only [List.map_cons, ltLs]
      have hin : b.pr < a.pr → ¬ a.pr < b.pr := fun h1 h2 => lt_irr _ (List.lt_trans h1 h2)
      have hne : ¬ a.pr < b.pr → ¬ b.pr < a.pr → a = b := fun h1 h2 => by
        have : a.pr = b.pr := List.le_antisymm (List.not_lt.1 h2) (List.not_lt.1 h1)
        exact (pr_inj hn a b [] [] ha hb (by rw [this])).1
      cases c with
      | nil =>
        cases d with
        | cons _ _ => simp at hl'
        | nil =>
          simp only [List.map_nil, ltLs, joinR]
          by_cases h1 : a.pr < b.pr
          · simp [h1]
          · simp [h1]
      | cons c0 c =>
        cases d with
        | nil => simp at hl'
        | cons d0 d =>
          simp only [joinR, Tm.pr, List.cons_lt_cons_iff]
          rw [lt_pr hn ha hb]
          simp only [List.cons_lt_cons_iff]
          rw [lt_pr hn (hj (c0 :: c) fun t ht => hc t (by simp [ht])) (hj (d0 :: d) fun t ht => hd t (by simp [ht]))]
          by_cases h1 : a.pr < b.pr
          · simp [h1]
          · by_cases h2 : b.pr < a.pr
            · have : a ≠ b := fun e => by rw [e] at h2; exact lt_irr _ h2
              simp [h1, h2, this]
            · have e := hne h1 h2
              subst e
              simp only [if_neg h1, ih]
              simp [lt_irr]

-- the least
def minB {α : Type} (lt : α → α → Bool) : List α → α → α
  | [], b => b
  | c :: cs, b => minB lt cs (if lt c b then c else b)
theorem minB_least {α : Type} (key : α → List UInt8) (lt : α → α → Bool) (hlt : ∀ a b, lt a b = true ↔ key a < key b) : ∀ (cs : List α) (b : α), minB lt cs b ∈ b :: cs ∧ ∀ c ∈ b :: cs, ¬ key c < key (minB lt cs b) := by
  intro cs; induction cs with
  | nil => intro b; exact ⟨by simp [minB], fun c hc => by simp only [List.mem_singleton] at hc; rw [hc]; exact lt_irr _⟩
  | cons c cs ih =>
    intro b
    simp only [minB]
    by_cases h : lt c b = true
    · rw [if_pos h]
      obtain ⟨h1, h2⟩ := ih c
      refine ⟨List.mem_cons_of_mem _ h1, fun d hd => ?_⟩
      rcases List.mem_cons.1 hd with rfl | hd
      · intro hh
        have := (hlt _ _).1 h
        exact h2 c (by simp) (List.lt_trans this hh)
      · exact h2 d hd
    · rw [if_neg h]
      obtain ⟨h1, h2⟩ := ih b
      refine ⟨?_, fun d hd => ?_⟩
      · rcases List.mem_cons.1 h1 with h1 | h1
        · rw [h1]; simp
        · simp [h1]
      · rcases List.mem_cons.1 hd with rfl | hd
        · exact h2 d (by simp)
        · rcases List.mem_cons.1 hd with rfl | hd
          · intro hh
            have h3 : ¬ key d < key b := fun e => h ((hlt _ _).2 e)
            have h4 := h2 b (by simp)
            exact h3 (Std.lt_of_lt_of_le hh (List.not_lt.1 h4))
          · exact h2 d (by simp [hd])
/-- The list of trees before whose texts no others come. -/
def bestL : List (List Tm) → List Tm
  | [] => []
  | c :: cs => minB (fun a b => ltLs (a.map Tm.pr) (b.map Tm.pr)) cs c
theorem bestT_min (c : Tm) (cs : List Tm) : bestT (c :: cs) = minB (fun a b => decide (a.pr < b.pr)) cs c := by
  show cs.foldl _ c = _
  induction cs generalizing c with
  | nil => rfl
  | cons d cs ih => simp only [List.foldl_cons, minB]; rw [ih]; simp
theorem minB_congr {α : Type} (P : α → Prop) (lt lt' : α → α → Bool) (h : ∀ a b, P a → P b → lt a b = lt' a b) : ∀ (cs : List α) (b : α), P b → (∀ c ∈ cs, P c) → minB lt cs b = minB lt' cs b := by
  intro cs; induction cs with
  | nil => intro b _ _; rfl
  | cons c cs ih =>
    intro b hb hc
    simp only [minB]
    rw [h c b (hc c (by simp)) hb]
    refine ih _ ?_ fun d hd => hc d (by simp [hd])
    split
    · exact hc c (by simp)
    · exact hb
/-- The least list of one set of lists, and the least text of the same ones joined. -/
theorem best_same {nm : UInt8 → Bool} (hn : Nm nm) (k : Nat) (l : List (List Tm)) (m : List (List Tm)) (hl : l ≠ []) (hm : m ≠ []) (hlm : ∀ c, c ∈ l ↔ c ∈ m) (hok : ∀ c ∈ l, c.length = k ∧ ∀ t ∈ c, t.ok nm = true) :
    joinR .par (bestL l) = bestT (m.map (joinR .par)) := by
  have hj : ∀ (l : List Tm), (∀ t ∈ l, t.ok nm = true) → (joinR .par l).ok nm = true := by
    intro l; induction l with
    | nil => intro _; rfl
    | cons a l ih =>
      cases l with
      | nil => intro h; exact h a (by simp)
      | cons b l => intro h; simp only [joinR, Tm.ok, Bool.and_eq_true]; exact ⟨h a (by simp), ih fun t ht => h t (by simp [ht])⟩
  cases l with
  | nil => exact absurd rfl hl
  | cons c cs =>
    cases m with
    | nil => exact absurd rfl hm
    | cons d ds =>
      have e1 : bestL (c :: cs) = minB (fun a b => decide ((joinR .par a).pr < (joinR .par b).pr)) cs c := by
        show minB _ cs c = _
        refine minB_congr (fun x => x ∈ c :: cs) _ _ (fun a b ha hb => ?_) cs c (by simp) fun x hx => by simp [hx]
        have h1 := hok a ha
        have h2 := hok b hb
        have := ltLs_join hn a b (by rw [h1.1, h2.1]) h1.2 h2.2
        rw [Bool.eq_iff_iff, this]; simp
      obtain ⟨a1, a2⟩ := minB_least (fun x => (joinR .par x).pr) (fun a b => decide ((joinR .par a).pr < (joinR .par b).pr)) (fun a b => by simp) cs c
      rw [← e1] at a1 a2
      have e2 : bestT ((d :: ds).map (joinR .par)) = minB (fun a b => decide (a.pr < b.pr)) (ds.map (joinR .par)) (joinR .par d) := bestT_min _ _
      obtain ⟨b1, b2⟩ := minB_least (fun x : Tm => x.pr) (fun a b => decide (a.pr < b.pr)) (fun a b => by simp) (ds.map (joinR .par)) (joinR .par d)
      rw [← e2] at b1 b2
      have b1' : bestT ((d :: ds).map (joinR .par)) ∈ (d :: ds).map (joinR .par) := b1
      obtain ⟨y, hy, ey⟩ := List.mem_map.1 b1'
      have f1 := b2 (joinR .par (bestL (c :: cs))) (List.mem_map.2 ⟨_, (hlm _).1 a1, rfl⟩)
      have f2 := a2 y ((hlm y).2 hy)
      rw [ey] at f2
      have f3 : (joinR .par (bestL (c :: cs))).pr = (bestT ((d :: ds).map (joinR .par))).pr := List.le_antisymm (List.not_lt.1 f2) (List.not_lt.1 f1)
      refine (pr_inj hn _ _ [] [] (hj _ (hok _ a1).2) ?_ (by rw [f3])).1
      rw [← ey]; exact hj _ (hok y ((hlm y).2 hy)).2

-- orders, one after the other
/-- The order that comes next, if there is one. -/
def nextG {α : Type} (lt : α → α → Bool) (l : List α) : Option (List α) :=
  (List.range l.length).reverse.findSome? fun i => ((List.range l.length).reverse.find? fun j => decide (i < j) && (match l[i]?, l[j]? with | some a, some b => lt a b | _, _ => false)).map fun j =>
    match l[i]?, l[j]? with
    | some a, some b => ((l.set i b).set j a).take (i + 1) ++ (((l.set i b).set j a).drop (i + 1)).reverse
    | _, _ => l
/-- All orders that come next, from one on, k at most. -/
def visG {α : Type} (lt : α → α → Bool) : Nat → List α → List (List α)
  | 0, _ => []
  | k + 1, l => l :: (match nextG lt l with | some m => visG lt k m | none => [])
theorem nextG_map {α β : Type} (f : α → β) (lt : α → α → Bool) (lt' : β → β → Bool) (l : List α) (h : ∀ a ∈ l, ∀ b ∈ l, lt' (f a) (f b) = lt a b) : nextG lt' (l.map f) = (nextG lt l).map (List.map f) := by
  have hp : ∀ i j : Nat, (match (l.map f)[i]?, (l.map f)[j]? with | some a, some b => lt' a b | _, _ => false) = (match l[i]?, l[j]? with | some a, some b => lt a b | _, _ => false) := by
    intro i j
    rw [List.getElem?_map, List.getElem?_map]
    cases hi : l[i]? with
    | none => rfl
    | some a =>
      cases hj : l[j]? with
      | none => rfl
      | some b => exact h a (List.mem_of_getElem? hi) b (List.mem_of_getElem? hj)
  have hs : ∀ i j : Nat, (match (l.map f)[i]?, (l.map f)[j]? with | some a, some b => (((l.map f).set i b).set j a).take (i + 1) ++ ((((l.map f).set i b).set j a).drop (i + 1)).reverse | _, _ => l.map f) =
      List.map f (match l[i]?, l[j]? with | some a, some b => ((l.set i b).set j a).take (i + 1) ++ (((l.set i b).set j a).drop (i + 1)).reverse | _, _ => l) := by
    intro i j
    rw [List.getElem?_map, List.getElem?_map]
    cases hi : l[i]? with
    | none => rfl
    | some a =>
      cases hj : l[j]? with
      | none => rfl
      | some b => simp [List.map_set, List.map_take, List.map_drop]
  unfold nextG
  rw [List.length_map]
  simp only [hp, hs]
  have key : ∀ (g : Nat → Nat → Bool) (F : Nat → Nat → List α) (r r' : List Nat), (r'.findSome? fun i => (r.find? (g i)).map fun j => List.map f (F i j)) = (r'.findSome? fun i => (r.find? (g i)).map (F i)).map (List.map f) := by
    intro g F r r'
    induction r' with
    | nil => rfl
    | cons i r' ih =>
      simp only [List.findSome?_cons]
      cases r.find? (g i) with
      | none => exact ih
      | some j => rfl
  exact key _ _ _ _
theorem nextG_mem {α : Type} (lt : α → α → Bool) (l m : List α) (h : nextG lt l = some m) : ∀ a ∈ m, a ∈ l := by
  unfold nextG at h
  obtain ⟨r, hr⟩ : ∃ r, r = (List.range l.length).reverse := ⟨_, rfl⟩
  rw [← hr] at h
  obtain ⟨i, hi, h⟩ := List.exists_of_findSome?_eq_some h
  rw [Option.map_eq_some_iff] at h
  obtain ⟨j, _, h⟩ := h
  intro a ha
  rw [← h] at ha
  split at ha
  · rename_i x y hx hy
    have : a ∈ (l.set i y).set j x := by
      rcases List.mem_append.1 ha with ha | ha
      · exact List.mem_of_mem_take ha
      · exact List.mem_of_mem_drop (List.mem_reverse.1 ha)
    rcases List.mem_or_eq_of_mem_set this with h1 | h1
    · rcases List.mem_or_eq_of_mem_set h1 with h1 | h1
      · exact h1
      · rw [h1]; exact List.mem_of_getElem? hy
    · rw [h1]; exact List.mem_of_getElem? hx
  · exact ha
theorem visG_map {α β : Type} (f : α → β) (lt : α → α → Bool) (lt' : β → β → Bool) (P : α → Prop) (h : ∀ a b, P a → P b → lt' (f a) (f b) = lt a b) : ∀ (k : Nat) (l : List α), (∀ a ∈ l, P a) → visG lt' k (l.map f) = (visG lt k l).map (List.map f) := by
  intro k; induction k with
  | zero => intro l _; rfl
  | succ k ih =>
    intro l hl
    simp only [visG, List.map_cons]
    rw [nextG_map f lt lt' l fun a ha b hb => h a b (hl a ha) (hl b hb)]
    cases hn : nextG lt l with
    | none => rfl
    | some m => simp only [Option.map_some]; rw [ih m fun a ha => hl a (nextG_mem lt l m hn a ha)]
def ltN (a b : Nat) : Bool := decide (a < b)
def ltU (a b : UInt8) : Bool := decide (a < b)
theorem vis_ords : ∀ m, m ≤ 5 → ∀ o, o ∈ visG ltN 200 (List.range m) ↔ o ∈ ords m := by
  have h : ∀ m, m ≤ 5 → (∀ o ∈ visG ltN 200 (List.range m), o ∈ ords m) ∧ (∀ o ∈ ords m, o ∈ visG ltN 200 (List.range m)) := by
    intro m hm
    have : m = 0 ∨ m = 1 ∨ m = 2 ∨ m = 3 ∨ m = 4 ∨ m = 5 := by omega
    rcases this with rfl | rfl | rfl | rfl | rfl | rfl <;> decide +kernel
  intro m hm o
  exact ⟨(h m hm).1 o, (h m hm).2 o⟩
/-- All orders of names that ascend. -/
theorem vis_names (G : List UInt8) (hs : G.Pairwise (· < ·)) (hl : G.length ≤ 5) : ∀ o, o ∈ visG ltU 200 G ↔ ∃ p ∈ ords G.length, o = p.map fun i => G.getD i 0 := by
  have e : G = (List.range G.length).map fun i => G.getD i 0 := by
    apply List.ext_getElem (by simp)
    intro i h1 h2
    simp [List.getD_eq_getElem?_getD, List.getElem?_eq_getElem h1]
  have hlt : ∀ a b, a < G.length → b < G.length → ltU (G.getD a 0) (G.getD b 0) = ltN a b := by
    intro a b ha hb
    rw [List.pairwise_iff_getElem] at hs
    rw [List.getD_eq_getElem?_getD, List.getD_eq_getElem?_getD, List.getElem?_eq_getElem ha, List.getElem?_eq_getElem hb]
    unfold ltU ltN
    simp only [Option.getD_some]
    rcases Nat.lt_trichotomy a b with h | h | h
    · have := hs a b ha hb h; simp [this, h]
    · subst h; simp
    · have := hs b a hb ha h
      have h' : ¬ a < b := by omega
      have : ¬ G[a] < G[b] := fun e => by rw [u8_lt] at this e; omega
      simp [this, h']
  intro o
  conv => lhs; rw [e]
  rw [visG_map (fun i => G.getD i 0) ltN ltU (fun i => i < G.length) hlt 200 _ (fun a ha => List.mem_range.1 ha), List.mem_map]
  exact ⟨fun ⟨p, hp, e⟩ => ⟨p, (vis_ords _ hl p).1 hp, e.symm⟩, fun ⟨p, hp, e⟩ => ⟨p, (vis_ords _ hl p).2 hp, e.symm⟩⟩

end Go.Proofs.Ytpahhlcfbmmocab.T1
