/- Texts of the proof, put together: No, Ni, Nh, Nj, Nk, Ti. No conditions. -/
import Derived.Test.YtmfmagfgcdaeeaaGreatHar

/- Congruence, plain: the program's way to a normal form (orders that come next, texts compared one by one) makes the same. -/
namespace Go.Proofs.YtmfmagfgcdaeeaaGreat.T1
set_option linter.unusedVariables false

-- the order of texts
theorem lt_app : ∀ (l m x y : List UInt8), (∀ r, l ++ r ≠ m) → (∀ r, m ++ r ≠ l) → (l ++ x < m ++ y ↔ l < m) := by
  intro l; induction l with
  | nil => intro m x y h _; exact absurd rfl (h m)
  | cons c l ih =>
    intro m x y h h2
    cases m with
    | nil => exact absurd rfl (h2 (c :: l))
    | cons d m =>
      simp only [List.cons_append, List.cons_lt_cons_iff]
      by_cases e : c = d
      · subst e
        rw [ih m x y (fun r hr => h r (by rw [List.cons_append, hr])) (fun r hr => h2 r (by rw [List.cons_append, hr]))]
      · simp [e]
theorem lt_irr (l : List UInt8) : ¬ l < l := List.lt_irrefl l
theorem pr_ne {nm : UInt8 → Bool} (hn : Nm nm) {a b : Tm} (ha : a.ok nm = true) (hb : b.ok nm = true) (h : a ≠ b) : ∀ r, a.pr ++ r ≠ b.pr := fun r e =>
  h (pr_inj hn a b r [] ha hb (by rw [List.append_nil]; exact e)).1
theorem lt_pr {nm : UInt8 → Bool} (hn : Nm nm) {a b : Tm} (ha : a.ok nm = true) (hb : b.ok nm = true) (x y : List UInt8) : (a.pr ++ x < b.pr ++ y) ↔ (a.pr < b.pr ∨ (a = b ∧ x < y)) := by
  by_cases h : a = b
  · subst h
    constructor
    · intro e
      refine .inr ⟨rfl, ?_⟩
      have : ∀ l : List UInt8, l ++ x < l ++ y → x < y := by
        intro l; induction l with
        | nil => exact id
        | cons c l ih => intro e; simp only [List.cons_append, List.cons_lt_cons_iff] at e; exact ih (by simpa using e)
      exact this _ e
    · intro e
      have : ∀ l : List UInt8, x < y → l ++ x < l ++ y := by
        intro l; induction l with
        | nil => exact id
        | cons c l ih => intro e; simp only [List.cons_append, List.cons_lt_cons_iff]; exact .inr ⟨trivial, ih e⟩
      rcases e with e | ⟨_, e⟩
      · exact absurd e (lt_irr _)
      · exact this _ e
  · rw [lt_app _ _ x y (pr_ne hn ha hb h) (pr_ne hn hb ha (Ne.symm h))]
    simp [h]

/-- Lists of texts compared one by one: the first that differ decide. -/
def ltLs : List (List UInt8) → List (List UInt8) → Bool
  | a :: l, b :: m => if a < b then true else if b < a then false else ltLs l m
  | _, _ => false
theorem ltLs_join {nm : UInt8 → Bool} (hn : Nm nm) : ∀ (c d : List Tm), c.length = d.length → (∀ t ∈ c, t.ok nm = true) → (∀ t ∈ d, t.ok nm = true) →
    (ltLs (c.map Tm.pr) (d.map Tm.pr) = true ↔ (joinR .par c).pr < (joinR .par d).pr) := by
  have hj : ∀ (l : List Tm), (∀ t ∈ l, t.ok nm = true) → (joinR .par l).ok nm = true := by
    intro l; induction l with
    | nil => intro _; rfl
    | cons a l ih =>
      cases l with
      | nil => intro h; exact h a (by simp)
      | cons b l => intro h; simp only [joinR, Tm.ok, Bool.and_eq_true]; exact ⟨h a (by simp), ih fun t ht => h t (by simp [ht])⟩
  intro c; induction c with
  | nil =>
    intro d hl _ _
    cases d with
    | nil => simp only [List.map_nil, ltLs, joinR]; exact ⟨fun h => (by cases h), fun h => absurd h (lt_irr _)⟩
    | cons b d => simp at hl
  | cons a c ih =>
    intro d hl hc hd
    cases d with
    | nil => simp at hl
    | cons b d =>
      have ha := hc a (by simp)
      have hb := hd b (by simp)
      have hl' : c.length = d.length := by simpa using hl
      have ih := ih d hl' (fun t ht => hc t (by simp [ht])) (fun t ht => hd t (by simp [ht]))
      simp only [List.map_cons, ltLs]
      have hin : b.pr < a.pr → ¬ a.pr < b.pr := fun h1 h2 => lt_irr _ (List.lt_trans h1 h2)
      have hne : ¬ a.pr < b.pr → ¬ b.pr < a.pr → a = b := fun h1 h2 => by
        have : a.pr = b.pr := List.le_antisymm (List.not_lt.1 h2) (List.not_lt.1 h1)
        exact (pr_inj hn a b [] [] ha hb (by rw [this])).1
      cases c with
      | nil =>
        cases d with
        | cons _ _ => simp at hl'
        | nil =>
          simp only [List.map_nil, ltLs, joinR]
          by_cases h1 : a.pr < b.pr
          · simp [h1]
          · simp [h1]
      | cons c0 c =>
        cases d with
        | nil => simp at hl'
        | cons d0 d =>
          simp only [joinR, Tm.pr, List.cons_lt_cons_iff]
          rw [lt_pr hn ha hb]
          simp only [List.cons_lt_cons_iff]
          rw [lt_pr hn (hj (c0 :: c) fun t ht => hc t (by simp [ht])) (hj (d0 :: d) fun t ht => hd t (by simp [ht]))]
          by_cases h1 : a.pr < b.pr
          · simp [h1]
          · by_cases h2 : b.pr < a.pr
            · have : a ≠ b := fun e => by rw [e] at h2; exact lt_irr _ h2
              simp [h1, h2, this]
            · have e := hne h1 h2
              subst e
              simp only [if_neg h1, ih]
              simp [lt_irr]

-- the least
def minB {α : Type} (lt : α → α → Bool) : List α → α → α
  | [], b => b
  | c :: cs, b => minB lt cs (if lt c b then c else b)
theorem minB_least {α : Type} (key : α → List UInt8) (lt : α → α → Bool) (hlt : ∀ a b, lt a b = true ↔ key a < key b) : ∀ (cs : List α) (b : α), minB lt cs b ∈ b :: cs ∧ ∀ c ∈ b :: cs, ¬ key c < key (minB lt cs b) := by
  intro cs; induction cs with
  | nil => intro b; exact ⟨by simp [minB], fun c hc => by simp only [List.mem_singleton] at hc; rw [hc]; exact lt_irr _⟩
  | cons c cs ih =>
    intro b
    simp only [minB]
    by_cases h : lt c b = true
    · rw [if_pos h]
      obtain ⟨h1, h2⟩ := ih c
      refine ⟨List.mem_cons_of_mem _ h1, fun d hd => ?_⟩
      rcases List.mem_cons.1 hd with rfl | hd
      · intro hh
        have := (hlt _ _).1 h
        exact h2 c (by simp) (List.lt_trans this hh)
      · exact h2 d hd
    · rw [if_neg h]
      obtain ⟨h1, h2⟩ := ih b
      refine ⟨?_, fun d hd => ?_⟩
      · rcases List.mem_cons.1 h1 with h1 | h1
        · rw [h1]; simp
        · simp [h1]
      · rcases List.mem_cons.1 hd with rfl | hd
        · exact h2 d (by simp)
        · rcases List.mem_cons.1 hd with rfl | hd
          · intro hh
            have h3 : ¬ key d < key b := fun e => h ((hlt _ _).2 e)
            have h4 := h2 b (by simp)
            exact h3 (Std.lt_of_lt_of_le hh (List.not_lt.1 h4))
          · exact h2 d (by simp [hd])
/-- The list of trees before whose texts no others come. -/
def bestL : List (List Tm) → List Tm
  | [] => []
  | c :: cs => minB (fun a b => ltLs (a.map Tm.pr) (b.map Tm.pr)) cs c
theorem bestT_min (c : Tm) (cs : List Tm) : bestT (c :: cs) = minB (fun a b => decide (a.pr < b.pr)) cs c := by
  show cs.foldl _ c = _
  induction cs generalizing c with
  | nil => rfl
  | cons d cs ih => simp only [List.foldl_cons, minB]; rw [ih]; simp
theorem minB_congr {α : Type} (P : α → Prop) (lt lt' : α → α → Bool) (h : ∀ a b, P a → P b → lt a b = lt' a b) : ∀ (cs : List α) (b : α), P b → (∀ c ∈ cs, P c) → minB lt cs b = minB lt' cs b := by
  intro cs; induction cs with
  | nil => intro b _ _; rfl
  | cons c cs ih =>
    intro b hb hc
    simp only [minB]
    rw [h c b (hc c (by simp)) hb]
    refine ih _ ?_ fun d hd => hc d (by simp [hd])
    split
    · exact hc c (by simp)
    · exact hb
/-- The least list of one set of lists, and the least text of the same ones joined. -/
theorem best_same {nm : UInt8 → Bool} (hn : Nm nm) (k : Nat) (l : List (List Tm)) (m : List (List Tm)) (hl : l ≠ []) (hm : m ≠ []) (hlm : ∀ c, c ∈ l ↔ c ∈ m) (hok : ∀ c ∈ l, c.length = k ∧ ∀ t ∈ c, t.ok nm = true) :
    joinR .par (bestL l) = bestT (m.map (joinR .par)) := by
  have hj : ∀ (l : List Tm), (∀ t ∈ l, t.ok nm = true) → (joinR .par l).ok nm = true := by
    intro l; induction l with
    | nil => intro _; rfl
    | cons a l ih =>
      cases l with
      | nil => intro h; exact h a (by simp)
      | cons b l => intro h; simp only [joinR, Tm.ok, Bool.and_eq_true]; exact ⟨h a (by simp), ih fun t ht => h t (by simp [ht])⟩
  cases l with
  | nil => exact absurd rfl hl
  | cons c cs =>
    cases m with
    | nil => exact absurd rfl hm
    | cons d ds =>
      have e1 : bestL (c :: cs) = minB (fun a b => decide ((joinR .par a).pr < (joinR .par b).pr)) cs c := by
        show minB _ cs c = _
        refine minB_congr (fun x => x ∈ c :: cs) _ _ (fun a b ha hb => ?_) cs c (by simp) fun x hx => by simp [hx]
        have h1 := hok a ha
        have h2 := hok b hb
        have := ltLs_join hn a b (by rw [h1.1, h2.1]) h1.2 h2.2
        rw [Bool.eq_iff_iff, this]; simp
      obtain ⟨a1, a2⟩ := minB_least (fun x => (joinR .par x).pr) (fun a b => decide ((joinR .par a).pr < (joinR .par b).pr)) (fun a b => by simp) cs c
      rw [← e1] at a1 a2
      have e2 : bestT ((d :: ds).map (joinR .par)) = minB (fun a b => decide (a.pr < b.pr)) (ds.map (joinR .par)) (joinR .par d) := bestT_min _ _
      obtain ⟨b1, b2⟩ := minB_least (fun x : Tm => x.pr) (fun a b => decide (a.pr < b.pr)) (fun a b => by simp) (ds.map (joinR .par)) (joinR .par d)
      rw [← e2] at b1 b2
      have b1' : bestT ((d :: ds).map (joinR .par)) ∈ (d :: ds).map (joinR .par) := b1
      obtain ⟨y, hy, ey⟩ := List.mem_map.1 b1'
      have f1 := b2 (joinR .par (bestL (c :: cs))) (List.mem_map.2 ⟨_, (hlm _).1 a1, rfl⟩)
      have f2 := a2 y ((hlm y).2 hy)
      rw [ey] at f2
      have f3 : (joinR .par (bestL (c :: cs))).pr = (bestT ((d :: ds).map (joinR .par))).pr := List.le_antisymm (List.not_lt.1 f2) (List.not_lt.1 f1)
      refine (pr_inj hn _ _ [] [] (hj _ (hok _ a1).2) ?_ (by rw [f3])).1
      rw [← ey]; exact hj _ (hok y ((hlm y).2 hy)).2

-- orders, one after the other
/-- The order that comes next, if there is one. -/
def nextG {α : Type} (lt : α → α → Bool) (l : List α) : Option (List α) :=
  (List.range l.length).reverse.findSome? fun i => ((List.range l.length).reverse.find? fun j => decide (i < j) && (match l[i]?, l[j]? with | some a, some b => lt a b | _, _ => false)).map fun j =>
    match l[i]?, l[j]? with
    | some a, some b => ((l.set i b).set j a).take (i + 1) ++ (((l.set i b).set j a).drop (i + 1)).reverse
    | _, _ => l
/-- All orders that come next, from one on, k at most. -/
def visG {α : Type} (lt : α → α → Bool) : Nat → List α → List (List α)
  | 0, _ => []
  | k + 1, l => l :: (match nextG lt l with | some m => visG lt k m | none => [])
theorem nextG_map {α β : Type} (f : α → β) (lt : α → α → Bool) (lt' : β → β → Bool) (l : List α) (h : ∀ a ∈ l, ∀ b ∈ l, lt' (f a) (f b) = lt a b) : nextG lt' (l.map f) = (nextG lt l).map (List.map f) := by
  have hp : ∀ i j : Nat, (match (l.map f)[i]?, (l.map f)[j]? with | some a, some b => lt' a b | _, _ => false) = (match l[i]?, l[j]? with | some a, some b => lt a b | _, _ => false) := by
    intro i j
    rw [List.getElem?_map, List.getElem?_map]
    cases hi : l[i]? with
    | none => rfl
    | some a =>
      cases hj : l[j]? with
      | none => rfl
      | some b => exact h a (List.mem_of_getElem? hi) b (List.mem_of_getElem? hj)
  have hs : ∀ i j : Nat, (match (l.map f)[i]?, (l.map f)[j]? with | some a, some b => (((l.map f).set i b).set j a).take (i + 1) ++ ((((l.map f).set i b).set j a).drop (i + 1)).reverse | _, _ => l.map f) =
      List.map f (match l[i]?, l[j]? with | some a, some b => ((l.set i b).set j a).take (i + 1) ++ (((l.set i b).set j a).drop (i + 1)).reverse | _, _ => l) := by
    intro i j
    rw [List.getElem?_map, List.getElem?_map]
    cases hi : l[i]? with
    | none => rfl
    | some a =>
      cases hj : l[j]? with
      | none => rfl
      | some b => simp [List.map_set, List.map_take, List.map_drop]
  unfold nextG
  rw [List.length_map]
  simp only [hp, hs]
  have key : ∀ (g : Nat → Nat → Bool) (F : Nat → Nat → List α) (r r' : List Nat), (r'.findSome? fun i => (r.find? (g i)).map fun j => List.map f (F i j)) = (r'.findSome? fun i => (r.find? (g i)).map (F i)).map (List.map f) := by
    intro g F r r'
    induction r' with
    | nil => rfl
    | cons i r' ih =>
      simp only [List.findSome?_cons]
      cases r.find? (g i) with
      | none => exact ih
      | some j => rfl
  exact key _ _ _ _
theorem nextG_mem {α : Type} (lt : α → α → Bool) (l m : List α) (h : nextG lt l = some m) : ∀ a ∈ m, a ∈ l := by
  unfold nextG at h
  obtain ⟨r, hr⟩ : ∃ r, r = (List.range l.length).reverse := ⟨_, rfl⟩
  rw [← hr] at h
  obtain ⟨i, hi, h⟩ := List.exists_of_findSome?_eq_some h
  rw [Option.map_eq_some_iff] at h
  obtain ⟨j, _, h⟩ := h
  intro a ha
  rw [← h] at ha
  split at ha
  · rename_i x y hx hy
    have : a ∈ (l.set i y).set j x := by
      rcases List.mem_append.1 ha with ha | ha
      · exact List.mem_of_mem_take ha
      · exact List.mem_of_mem_drop (List.mem_reverse.1 ha)
    rcases List.mem_or_eq_of_mem_set this with h1 | h1
    · rcases List.mem_or_eq_of_mem_set h1 with h1 | h1
      · exact h1
      · rw [h1]; exact List.mem_of_getElem? hy
    · rw [h1]; exact List.mem_of_getElem? hx
  · exact ha
theorem visG_map {α β : Type} (f : α → β) (lt : α → α → Bool) (lt' : β → β → Bool) (P : α → Prop) (h : ∀ a b, P a → P b → lt' (f a) (f b) = lt a b) : ∀ (k : Nat) (l : List α), (∀ a ∈ l, P a) → visG lt' k (l.map f) = (visG lt k l).map (List.map f) := by
  intro k; induction k with
  | zero => intro l _; rfl
  | succ k ih =>
    intro l hl
    simp only [visG, List.map_cons]
    rw [nextG_map f lt lt' l fun a ha b hb => h a b (hl a ha) (hl b hb)]
    cases hn : nextG lt l with
    | none => rfl
    | some m => simp only [Option.map_some]; rw [ih m fun a ha => hl a (nextG_mem lt l m hn a ha)]
def ltN (a b : Nat) : Bool := decide (a < b)
def ltU (a b : UInt8) : Bool := decide (a < b)
theorem vis_ords : ∀ m, m ≤ 5 → ∀ o, o ∈ visG ltN 200 (List.range m) ↔ o ∈ ords m := by
  have h : ∀ m, m ≤ 5 → (∀ o ∈ visG ltN 200 (List.range m), o ∈ ords m) ∧ (∀ o ∈ ords m, o ∈ visG ltN 200 (List.range m)) := by
    intro m hm
    have : m = 0 ∨ m = 1 ∨ m = 2 ∨ m = 3 ∨ m = 4 ∨ m = 5 := by omega
    rcases this with rfl | rfl | rfl | rfl | rfl | rfl <;> decide +kernel
  intro m hm o
  exact ⟨(h m hm).1 o, (h m hm).2 o⟩
/-- All orders of names that ascend. -/
theorem vis_names (G : List UInt8) (hs : G.Pairwise (· < ·)) (hl : G.length ≤ 5) : ∀ o, o ∈ visG ltU 200 G ↔ ∃ p ∈ ords G.length, o = p.map fun i => G.getD i 0 := by
  have e : G = (List.range G.length).map fun i => G.getD i 0 := by
    apply List.ext_getElem (by simp)
    intro i h1 h2
    simp [List.getD_eq_getElem?_getD, List.getElem?_eq_getElem h1]
  have hlt : ∀ a b, a < G.length → b < G.length → ltU (G.getD a 0) (G.getD b 0) = ltN a b := by
    intro a b ha hb
    rw [List.pairwise_iff_getElem] at hs
    rw [List.getD_eq_getElem?_getD, List.getD_eq_getElem?_getD, List.getElem?_eq_getElem ha, List.getElem?_eq_getElem hb]
    unfold ltU ltN
    simp only [Option.getD_some]
    rcases Nat.lt_trichotomy a b with h | h | h
    · have := hs a b ha hb h; simp [this, h]
    · subst h; simp
    · have := hs b a hb ha h
      have h' : ¬ a < b := by omega
      have : ¬ G[a] < G[b] := fun e => by rw [u8_lt] at this e; omega
      simp [this, h']
  intro o
  conv => lhs; rw [e]
  rw [visG_map (fun i => G.getD i 0) ltN ltU (fun i => i < G.length) hlt 200 _ (fun a ha => List.mem_range.1 ha), List.mem_map]
  exact ⟨fun ⟨p, hp, e⟩ => ⟨p, (vis_ords _ hl p).1 hp, e.symm⟩, fun ⟨p, hp, e⟩ => ⟨p, (vis_ords _ hl p).2 hp, e.symm⟩⟩

end Go.Proofs.YtmfmagfgcdaeeaaGreat.T1

/- Congruence, plain: THE NORMAL FORM OF THE SPECIFICATION AND THAT OF THE PROGRAM ARE THE SAME. -/
namespace Go.Proofs.YtmfmagfgcdaeeaaGreat.T1
set_option linter.unusedVariables false

/-- A level as the program makes it. -/
def levI : Nat → (UInt8 → UInt8) → List UInt8 → Tm → Tm
  | 0, _, _, _ => .nil
  | n + 1, L, left, s =>
    wrapO (left.take (lvl s).1.length) (joinR .par (bestL ((visG ltU 200 (lvl s).1).map fun o => srtT ((lvl s).2.map (thI (levI n) (updL L o left) (left.drop (lvl s).1.length))))))
/-- Nothing is left that the laws leave out. -/
def Clean : Tm → Prop
  | .nil => True
  | .snd _ _ p => Clean p
  | .rcv _ _ p => Clean p
  | .tau p => Clean p
  | .sum p q => Clean p ∧ Clean q
  | .par p q => p ≠ .nil ∧ Clean p ∧ Clean q
  | .own _ p => p ≠ .nil ∧ Clean p
  | .mat _ _ p => Clean p
  | .rep p => Clean p
theorem clean_lvl (s : Tm) (h : Clean s) (hs : s ≠ .nil) : (lvl s).2 ≠ [] := by
  induction s with
  | nil => exact absurd rfl hs
  | own x p ih => exact ih h.2 h.1
  | par p q ih ih2 => simp only [lvl]; intro e; exact ih h.2.1 h.1 (List.append_eq_nil_iff.1 e).1
  | _ => simp [lvl]
theorem clean_thr (s : Tm) (h : Clean s) : ∀ T ∈ (lvl s).2, Clean T := by
  induction s with
  | nil => intro T hT; simp [lvl] at hT
  | own x p ih => exact ih h.2
  | par p q ih ih2 =>
    intro T hT
    simp only [lvl, List.mem_append] at hT
    exact hT.elim (ih h.2.1 T) (ih2 h.2.2 T)
  | _ => intro T hT; simp only [lvl, List.mem_singleton] at hT; rw [hT]; exact h
theorem clean_smds (s : Tm) (h : Clean s) : ∀ q ∈ smds s, Clean q := by
  induction s with
  | sum p q ih ih2 =>
    intro T hT
    simp only [smds, List.mem_append] at hT
    exact hT.elim (ih h.1 T) (ih2 h.2 T)
  | _ => intro T hT; simp only [smds, List.mem_singleton] at hT; rw [hT]; exact h
theorem clean_sim (t : Tm) : Clean t.sim := by
  induction t with
  | nil => trivial
  | snd a b p ih => exact ih
  | rcv a x p ih => exact ih
  | tau p ih => exact ih
  | sum p q ih ih2 =>
    unfold Tm.sim
    split
    · exact ih2
    · split
      · exact ih
      · exact ⟨ih, ih2⟩
  | par p q ih ih2 =>
    unfold Tm.sim
    split
    · exact ih2
    · split
      · exact ih
      · rename_i h1 h2; exact ⟨h1, ih, ih2⟩
  | own x p ih =>
    unfold Tm.sim
    split
    · rename_i h; exact ⟨fun e => by rw [e] at h; simp [Tm.free] at h, ih⟩
    · exact ih
  | mat a b p ih => unfold Tm.sim; split <;> exact ih
  | rep p ih => unfold Tm.sim; split <;> exact ih
theorem can_nil {s : Tm} {f : UInt8 → UInt8} {ns : List UInt8} (h : can s f ns = .nil) : s = .nil := by cases s <;> simp [can] at h; rfl
theorem clean_can (s : Tm) : ∀ (f : UInt8 → UInt8) (ns : List UInt8), Clean s → Clean (can s f ns) := by
  induction s with
  | nil => intro f ns h; trivial
  | snd a b p ih => intro f ns h; exact ih _ _ h
  | rcv a x p ih => intro f ns h; exact ih _ _ h
  | tau p ih => intro f ns h; exact ih _ _ h
  | mat a b p ih => intro f ns h; exact ih _ _ h
  | rep p ih => intro f ns h; exact ih _ _ h
  | sum p q ih ih2 => intro f ns h; exact ⟨ih _ _ h.1, ih2 _ _ h.2⟩
  | par p q ih ih2 => intro f ns h; exact ⟨fun e => h.1 (can_nil e), ih _ _ h.2.1, ih2 _ _ h.2.2⟩
  | own x p ih => intro f ns h; exact ⟨fun e => h.1 (can_nil e), ih _ _ h.2⟩

theorem fl_inv {s : Tm} {k : Nat} (h : fl s k = true) : (lvl s).1.length ≤ 5 ∧ (lvl s).1.length ≤ k ∧ ∀ T ∈ (lvl s).2, tf T (k - (lvl s).1.length) = true := by
  unfold fl fcnt at h
  rw [tf_lvl] at h
  simp only [Bool.and_eq_true, decide_eq_true_eq, List.all_eq_true] at h
  exact ⟨h.1.1, h.1.2, h.2⟩
theorem tf_sum {p q : Tm} {k : Nat} : fl (.sum p q) k = tf (.sum p q) k := by simp [fl, fcnt, lvl]
theorem ords_sub {once : Bool} {m : Nat} : ∀ o ∈ (if once = true then (ords m).take 1 else ords m), o ∈ ords m := by
  intro o ho
  split at ho
  · exact List.mem_of_mem_take ho
  · exact ho
theorem ords_one {once : Bool} {m : Nat} (hm : m ≤ 5) : (if once = true then (ords m).take 1 else ords m) ≠ [] := by
  have := ords_ne m hm
  split
  · intro e; rw [List.take_eq_nil_iff] at e; simp at e; exact this e
  · exact this

-- how many names of its own
theorem lvl_free (s : Tm) : ∀ T ∈ (lvl s).2, ∀ z, z ∈ T.free → z ∈ s.free ∨ z ∈ (lvl s).1 := by
  induction s with
  | nil => intro T hT; simp [lvl] at hT
  | own x p ih =>
    intro T hT z hz
    simp only [lvl, List.mem_cons, mf_own]
    rcases ih T hT z hz with h | h
    · by_cases e : z = x
      · exact .inr (.inl e)
      · exact .inl ⟨h, e⟩
    · exact .inr (.inr h)
  | par p q ih ih2 =>
    intro T hT z hz
    simp only [lvl, List.mem_append, mf_par] at hT ⊢
    rcases hT with hT | hT
    · rcases ih T hT z hz with h | h
      · exact .inl (.inl h)
      · exact .inr (.inl h)
    · rcases ih2 T hT z hz with h | h
      · exact .inl (.inr h)
      · exact .inr (.inr h)
  | _ => intro T hT z hz; simp only [lvl, List.mem_singleton] at hT; rw [hT] at hz; exact .inl hz
theorem smds_free (s : Tm) : ∀ q ∈ smds s, ∀ z, z ∈ q.free → z ∈ s.free := by
  induction s with
  | sum p q ih ih2 =>
    intro T hT z hz
    simp only [smds, List.mem_append] at hT
    rw [mf_sum]
    exact hT.imp (fun h => ih T h z hz) (fun h => ih2 T h z hz)
  | _ => intro T hT z hz; simp only [smds, List.mem_singleton] at hT; rw [hT] at hz; exact hz
theorem updL_val : ∀ (o : List UInt8) (L : UInt8 → UInt8) (ls : List UInt8) (v : UInt8), o.length ≤ ls.length → (v ∈ o → updL L o ls v ∈ ls) ∧ (v ∉ o → updL L o ls v = L v) := by
  intro o; induction o with
  | nil => intro L ls v _; exact ⟨fun h => by simp at h, fun _ => by cases ls <;> rfl⟩
  | cons x o ih =>
    intro L ls v h
    cases ls with
    | nil => simp at h
    | cons l ls =>
      obtain ⟨h1, h2⟩ := ih (upd L x l) ls v (by simpa using h)
      simp only [updL]
      constructor
      · intro hv
        by_cases hvo : v ∈ o
        · exact List.mem_cons_of_mem _ (h1 hvo)
        · rw [h2 hvo]
          have : v = x := by rcases List.mem_cons.1 hv with h | h; exact h; exact absurd h hvo
          unfold upd; rw [if_pos this]; simp
      · intro hv
        rw [h2 (fun h => hv (by simp [h]))]
        unfold upd; rw [if_neg (fun e => hv (by simp [e]))]
theorem wrap_ok {nm : UInt8 → Bool} {t : Tm} : ∀ ls : List UInt8, (∀ l ∈ ls, nm l = true) → t.ok nm = true → (wrapO ls t).ok nm = true := by
  intro ls; induction ls with
  | nil => intro _ h; exact h
  | cons a ls ih =>
    intro h ht
    show (nm a && (wrapO ls t).ok nm) = true
    rw [h a (by simp), ih (fun l hl => h l (by simp [hl])) ht]; rfl
theorem join_okP {nm : UInt8 → Bool} : ∀ l : List Tm, (∀ t ∈ l, t.ok nm = true) → (joinR .par l).ok nm = true := by
  intro l; induction l with
  | nil => intro _; rfl
  | cons a l ih =>
    cases l with
    | nil => intro h; exact h a (by simp)
    | cons b l => intro h; simp only [joinR, Tm.ok, Bool.and_eq_true]; exact ⟨h a (by simp), ih fun t ht => h t (by simp [ht])⟩
theorem join_okS {nm : UInt8 → Bool} : ∀ l : List Tm, (∀ t ∈ l, t.ok nm = true) → (joinR .sum l).ok nm = true := by
  intro l; induction l with
  | nil => intro _; rfl
  | cons a l ih =>
    cases l with
    | nil => intro h; exact h a (by simp)
    | cons b l => intro h; simp only [joinR, Tm.ok, Bool.and_eq_true]; exact ⟨h a (by simp), ih fun t ht => h t (by simp [ht])⟩
/-- Names of threads stand for letters. -/
theorem upd_ok {s : Tm} {L : UInt8 → UInt8} {left : List UInt8} {o : List UInt8} (hl : ∀ l ∈ left, nmL l = true) (hL : ∀ v, v ∈ s.free → nmL (L v) = true) (ho : o.length ≤ left.length) (hG : ∀ v, v ∈ (lvl s).1 → v ∈ o) {T : Tm} (hT : T ∈ (lvl s).2) :
    ∀ v, v ∈ T.free → nmL (updL L o left v) = true := by
  intro v hv
  obtain ⟨h1, h2⟩ := updL_val o L left v ho
  by_cases hvo : v ∈ o
  · exact hl _ (h1 hvo)
  · rw [h2 hvo]
    rcases lvl_free s T hT v hv with h | h
    · exact hL v h
    · exact absurd (hG v h) hvo
theorem mem_order {G : List UInt8} {o : List Nat} (h : ∀ i, i ∈ o ↔ i < G.length) : ∀ v, v ∈ G → v ∈ o.map fun i => G.getD i 0 := by
  intro v hv
  obtain ⟨i, hi, e⟩ := List.getElem_of_mem hv
  exact List.mem_map.2 ⟨i, (h i).2 hi, by rw [List.getD_eq_getElem?_getD, List.getElem?_eq_getElem hi, e]; rfl⟩
theorem thI_ok (f : (UInt8 → UInt8) → List UInt8 → Tm → Tm) (n : Nat)
    (ih : ∀ (L : UInt8 → UInt8) (left : List UInt8) (s : Tm), s.size ≤ n → fl s left.length = true → (∀ l ∈ left, nmL l = true) → (∀ v, v ∈ s.free → nmL (L v) = true) → (f L left s).ok nmL = true)
    (L : UInt8 → UInt8) (lf : List UInt8) (T : Tm) (hsz : T.size ≤ n + 1) (hk : (∀ p q, T ≠ .par p q) ∧ (∀ x p, T ≠ .own x p) ∧ T ≠ .nil) (htf : tf T lf.length = true) (hl : ∀ l ∈ lf, nmL l = true) (hL : ∀ v, v ∈ T.free → nmL (L v) = true) :
    (thI f L lf T).ok nmL = true := by
  cases T with
  | nil => exact absurd rfl hk.2.2
  | par p q => exact absurd rfl (hk.1 p q)
  | own x p => exact absurd rfl (hk.2.1 x p)
  | snd a b p =>
    simp only [Tm.size] at hsz
    simp only [thI, Tm.ok, Bool.and_eq_true]
    exact ⟨⟨hL a (by rw [mf_snd]; simp), hL b (by rw [mf_snd]; simp)⟩, ih L lf p (by omega) htf hl fun v hv => hL v (by rw [mf_snd]; simp [hv])⟩
  | tau p => simp only [Tm.size] at hsz; simp only [thI, Tm.ok]; exact ih L lf p (by omega) htf hl fun v hv => hL v (by rw [mf_tau]; exact hv)
  | rep p => simp only [Tm.size] at hsz; simp only [thI, Tm.ok]; exact ih L lf p (by omega) htf hl fun v hv => hL v (by rw [mf_rep]; exact hv)
  | mat a b p =>
    simp only [Tm.size] at hsz
    have h1 := hL a (by rw [mf_mat]; simp)
    have h2 := hL b (by rw [mf_mat]; simp)
    have h3 := ih L lf p (by omega) htf hl fun v hv => hL v (by rw [mf_mat]; simp [hv])
    simp only [thI]; split <;> simp only [Tm.ok, Bool.and_eq_true]
    · exact ⟨⟨h2, h1⟩, h3⟩
    · exact ⟨⟨h1, h2⟩, h3⟩
  | rcv a x p =>
    simp only [Tm.size] at hsz
    cases lf with
    | nil => simp [tf] at htf
    | cons c lf =>
      simp only [thI, Tm.ok, Bool.and_eq_true, List.headD_cons, List.tail_cons]
      refine ⟨⟨hL a (by rw [mf_rcv]; simp), hl c (by simp)⟩, ih _ lf p (by omega) ?_ (fun l h => hl l (by simp [h])) fun v hv => ?_⟩
      · simp only [tf, List.length_cons, Bool.and_eq_true] at htf
        simpa [fl] using htf
      · unfold upd; split
        · exact hl c (by simp)
        · rename_i e; exact hL v (by rw [mf_rcv]; exact .inr ⟨hv, e⟩)
  | sum p q =>
    have hsm := (smds_fl (.sum p q) lf.length).1 (by rw [tf_sum]; exact htf)
    have e1 : thI f L lf (.sum p q) = joinR .sum (srtT ((smds (.sum p q)).map (f L lf))) := rfl
    rw [e1]
    refine join_okS _ fun t ht => ?_
    obtain ⟨r, hr, rfl⟩ := List.mem_map.1 ((mem_srtT _ _).1 ht)
    have hrs : r.size < (Tm.sum p q).size := by
      simp only [smds, List.mem_append] at hr
      simp only [Tm.size]
      rcases hr with hr | hr
      · have := smds_size p r hr; omega
      · have := smds_size q r hr; omega
    exact ih L lf r (by omega) (hsm r hr) hl fun v hv => hL v (smds_free _ r hr v hv)
theorem mid_ok (n : Nat) : ∀ (once : Bool) (L : UInt8 → UInt8) (left : List UInt8) (s : Tm), s.size ≤ n → fl s left.length = true → (∀ l ∈ left, nmL l = true) → (∀ v, v ∈ s.free → nmL (L v) = true) → (mid n once L left s).ok nmL = true := by
  induction n with
  | zero => intro once L left s h; have := size_pos s; omega
  | succ n ih =>
    intro once L left s hn hf hl hL
    obtain ⟨f1, f2, f3⟩ := fl_inv hf
    unfold mid
    split
    · rfl
    · refine wrap_ok _ (fun l h => hl l (List.mem_of_mem_take h)) ?_
      have hm := bestT_mem ((if once then (ords (lvl s).1.length).take 1 else ords (lvl s).1.length).map fun o =>
        joinR .par (srtT ((lvl s).2.map (thI (mid n once) (updL L (o.map fun i => (lvl s).1.getD i 0) left) (left.drop (lvl s).1.length))))) (by simpa using ords_one f1)
      obtain ⟨o, ho, e⟩ := List.mem_map.1 hm
      rw [← e]
      obtain ⟨o1, o2, o3⟩ := ords_ok _ f1 o (ords_sub o ho)
      refine join_okP _ fun t ht => ?_
      obtain ⟨T, hT, rfl⟩ := List.mem_map.1 ((mem_srtT _ _).1 ht)
      have hlen : (left.drop (lvl s).1.length).length = left.length - (lvl s).1.length := List.length_drop
      exact thI_ok (mid n once) n (ih once) _ _ T (by have := lvl_size s T hT; omega) (lvl_kind s T hT) (by rw [hlen]; exact f3 T hT) (fun l h => hl l (List.mem_of_mem_drop h))
        (upd_ok hl hL (by rw [List.length_map]; omega) (mem_order o3) hT)

-- the program's way
theorem lvl_sub (s : Tm) : (lvl s).1.Sublist s.bnd := by
  induction s with
  | nil => simp [lvl]
  | own x p ih => simp only [lvl, Tm.bnd]; exact ih.cons_cons x
  | par p q ih ih2 => simp only [lvl, Tm.bnd]; exact ih.append ih2
  | _ => simp [lvl]
theorem lvl_bsub (s : Tm) : ∀ T ∈ (lvl s).2, T.bnd.Sublist s.bnd := by
  induction s with
  | nil => intro T hT; simp [lvl] at hT
  | own x p ih => intro T hT; simp only [Tm.bnd]; exact (ih T hT).cons x
  | par p q ih ih2 =>
    intro T hT
    simp only [lvl, List.mem_append] at hT
    simp only [Tm.bnd]
    rcases hT with hT | hT
    · exact (ih T hT).trans (List.sublist_append_left _ _)
    · exact (ih2 T hT).trans (List.sublist_append_right _ _)
  | _ => intro T hT; simp only [lvl, List.mem_singleton] at hT; rw [hT]; exact List.Sublist.refl _
theorem smds_bsub (s : Tm) : ∀ T ∈ smds s, T.bnd.Sublist s.bnd := by
  induction s with
  | sum p q ih ih2 =>
    intro T hT
    simp only [smds, List.mem_append] at hT
    simp only [Tm.bnd]
    rcases hT with hT | hT
    · exact (ih T hT).trans (List.sublist_append_left _ _)
    · exact (ih2 T hT).trans (List.sublist_append_right _ _)
  | _ => intro T hT; simp only [smds, List.mem_singleton] at hT; rw [hT]; exact List.Sublist.refl _
theorem visG_ne {α : Type} (lt : α → α → Bool) (k : Nat) (l : List α) : visG lt (k + 1) l ≠ [] := by simp [visG]
theorem visG_nil {α : Type} (lt : α → α → Bool) (k : Nat) : visG lt (k + 1) [] = [[]] := by simp [visG, nextG]
theorem levI_nil (n : Nat) (L : UInt8 → UInt8) (left : List UInt8) : levI (n + 1) L left .nil = .nil := by
  unfold levI
  have e : lvl .nil = ([], []) := rfl
  rw [e]
  simp only [List.length_nil, List.take_zero, List.drop_zero, List.map_nil]
  rw [visG_nil ltU 199]
  simp only [List.map_cons, List.map_nil, bestL, minB]
  unfold srtT
  rw [List.mergeSort_nil]
  rfl
theorem levI_mid (n : Nat) : ∀ (L : UInt8 → UInt8) (left : List UInt8) (s : Tm), s.size ≤ n → Clean s → fl s left.length = true → s.bnd.Pairwise (· < ·) → (∀ l ∈ left, nmL l = true) → (∀ v, v ∈ s.free → nmL (L v) = true) →
    levI n L left s = mid n false L left s := by
  induction n with
  | zero => intro L left s h; have := size_pos s; omega
  | succ n ih =>
    intro L left s hn hc hf hb hl hL
    obtain ⟨f1, f2, f3⟩ := fl_inv hf
    have hlen : (left.drop (lvl s).1.length).length = left.length - (lvl s).1.length := List.length_drop
    have hl2 : ∀ l ∈ left.drop (lvl s).1.length, nmL l = true := fun l h => hl l (List.mem_of_mem_drop h)
    -- the threads
    have hth : ∀ (L' : UInt8 → UInt8) (T : Tm), T ∈ (lvl s).2 → (∀ v, v ∈ T.free → nmL (L' v) = true) → thI (levI n) L' (left.drop (lvl s).1.length) T = thI (mid n false) L' (left.drop (lvl s).1.length) T := by
      intro L' T hT hL'
      have hk := lvl_kind s T hT
      have hsz := lvl_size s T hT
      have hcl := clean_thr s hc T hT
      have htf := f3 T hT
      have hbb := hb.sublist (lvl_bsub s T hT)
      rw [← hlen] at htf
      clear hf f3
      generalize left.drop (lvl s).1.length = lf at *
      cases T with
      | nil => exact absurd rfl hk.2.2
      | par p q => exact absurd rfl (hk.1 p q)
      | own x p => exact absurd rfl (hk.2.1 x p)
      | snd a b p => simp only [Tm.size] at hsz; simp only [thI]; rw [ih L' lf p (by omega) hcl htf hbb hl2 fun v hv => hL' v (by rw [mf_snd]; simp [hv])]
      | tau p => simp only [Tm.size] at hsz; simp only [thI]; rw [ih L' lf p (by omega) hcl htf hbb hl2 fun v hv => hL' v (by rw [mf_tau]; exact hv)]
      | rep p => simp only [Tm.size] at hsz; simp only [thI]; rw [ih L' lf p (by omega) hcl htf hbb hl2 fun v hv => hL' v (by rw [mf_rep]; exact hv)]
      | mat a b p => simp only [Tm.size] at hsz; simp only [thI]; rw [ih L' lf p (by omega) hcl htf hbb hl2 fun v hv => hL' v (by rw [mf_mat]; simp [hv])]
      | rcv a x p =>
        simp only [Tm.size] at hsz
        cases lf with
        | nil => simp [tf] at htf
        | cons c lf =>
          simp only [thI, List.headD_cons, List.tail_cons]
          rw [ih _ lf p (by omega) hcl (by simp only [tf, List.length_cons, Bool.and_eq_true] at htf; simpa [fl] using htf) (List.Pairwise.of_cons hbb) (fun l h => hl2 l (by simp [h])) fun v hv => ?_]
          unfold upd; split
          · exact hl2 c (by simp)
          · rename_i e; exact hL' v (by rw [mf_rcv]; exact .inr ⟨hv, e⟩)
      | sum p q =>
        have hsm := (smds_fl (.sum p q) lf.length).1 (by rw [tf_sum]; exact htf)
        have e1 : ∀ f, thI f L' lf (.sum p q) = joinR .sum (srtT ((smds (.sum p q)).map (f L' lf))) := fun f => rfl
        rw [e1, e1]
        congr 2
        refine List.map_congr_left fun r hr => ?_
        have hrs : r.size < (Tm.sum p q).size := by
          simp only [smds, List.mem_append] at hr
          simp only [Tm.size]
          rcases hr with hr | hr
          · have := smds_size p r hr; omega
          · have := smds_size q r hr; omega
        exact ih L' lf r (by omega) (clean_smds _ hcl r hr) (hsm r hr) (hbb.sublist (smds_bsub _ r hr)) hl2 fun v hv => hL' v (smds_free _ r hr v hv)
    by_cases hU : (lvl s).2 = []
    · have : s = .nil := by
        cases s with
        | nil => rfl
        | _ => exact absurd hU (clean_lvl _ hc (by simp))
      subst this
      rw [levI_nil]; rfl
    · unfold levI mid
      have hU' : (lvl s).2.isEmpty = false := by simpa using hU
      rw [hU']
      simp only [Bool.false_eq_true, if_false]
      congr 1
      have hG := hb.sublist (lvl_sub s)
      have hv := vis_names _ hG f1
      have hL2 : ∀ p ∈ ords (lvl s).1.length, ∀ T ∈ (lvl s).2, ∀ v, v ∈ T.free → nmL (updL L (p.map fun i => (lvl s).1.getD i 0) left v) = true := fun p hp T hT =>
        upd_ok hl hL (by rw [List.length_map]; have := (ords_ok _ f1 p hp).1; omega) (mem_order (ords_ok _ f1 p hp).2.2) hT
      have hcand : ∀ p ∈ ords (lvl s).1.length, srtT ((lvl s).2.map (thI (levI n) (updL L (p.map fun i => (lvl s).1.getD i 0) left) (left.drop (lvl s).1.length))) =
          srtT ((lvl s).2.map (thI (mid n false) (updL L (p.map fun i => (lvl s).1.getD i 0) left) (left.drop (lvl s).1.length))) := fun p hp => by
        congr 1
        exact List.map_congr_left fun T hT => hth _ T hT (hL2 p hp T hT)
      have hmap : ((ords (lvl s).1.length).map fun o => joinR .par (srtT ((lvl s).2.map (thI (mid n false) (updL L (o.map fun i => (lvl s).1.getD i 0) left) (left.drop (lvl s).1.length))))) =
          ((ords (lvl s).1.length).map fun o => srtT ((lvl s).2.map (thI (mid n false) (updL L (o.map fun i => (lvl s).1.getD i 0) left) (left.drop (lvl s).1.length)))).map (joinR .par) := by
        rw [List.map_map]; rfl
      rw [hmap]
      refine best_same nmL_nm (lvl s).2.length _ _ ?_ ?_ (fun c => ?_) (fun c hc' => ?_)
      · exact fun e => visG_ne ltU 199 _ (List.map_eq_nil_iff.1 e)
      · exact fun e => ords_ne _ f1 (List.map_eq_nil_iff.1 e)
      · rw [List.mem_map, List.mem_map]
        constructor
        · rintro ⟨o, ho, rfl⟩
          obtain ⟨p, hp, rfl⟩ := (hv o).1 ho
          exact ⟨p, hp, (hcand p hp).symm⟩
        · rintro ⟨p, hp, rfl⟩
          exact ⟨_, (hv _).2 ⟨p, hp, rfl⟩, hcand p hp⟩
      · obtain ⟨o, ho, rfl⟩ := List.mem_map.1 hc'
        obtain ⟨p, hp, rfl⟩ := (hv o).1 ho
        refine ⟨by unfold srtT; rw [List.length_mergeSort, List.length_map], fun t ht => ?_⟩
        obtain ⟨T, hT, rfl⟩ := List.mem_map.1 ((mem_srtT _ _).1 ht)
        rw [hth _ T hT (hL2 p hp T hT)]
        exact thI_ok (mid n false) n (mid_ok n false) _ _ T (by have := lvl_size s T hT; omega) (lvl_kind s T hT) (by rw [hlen]; exact f3 T hT) hl2 (hL2 p hp T hT)

/-- The names that bound ones get while a normal form is made. -/
def marksN : List UInt8 := (List.range 133).map fun i => UInt8.ofNat (123 + i)
theorem marksN_srt : marksN.Pairwise (· < ·) := by unfold marksN; decide +kernel
theorem marksN_len : marksN.length = 133 := by unfold marksN; simp
/-- The simplified process with names of its own for all that bind. -/
def numb (t : Tm) : Tm := can t.sim id marksN
/-- What the program answers. -/
def nfI (t : Tm) : Option Tm :=
  if 8 < ownc (numb t) ∨ fl (numb t) (othL t.usd).length = false then none else
  if (levI t.size id (othL t.usd) (numb t)).ok nmL = true ∧ (levI t.size id (othL t.usd) (numb t)).pr.length ≤ 300 ∧ (levI t.size id (othL t.usd) (numb t)).size ≤ 60 then some (levI t.size id (othL t.usd) (numb t)) else none
theorem sim_size (t : Tm) : t.sim.size ≤ t.size := (fcnt_plc t _ _ (Sm_sim t)).2.2
theorem can_size (s : Tm) (f : UInt8 → UInt8) (ns : List UInt8) : (can s f ns).size = s.size := by
  induction s generalizing f ns with
  | _ => simp_all [can, Tm.size]
theorem okL_names {t : Tm} (h : t.ok nmL = true) : (∀ z, z ∈ t.free → nmL z = true) ∧ ∀ z, z ∈ t.bnd → nmL z = true :=
  ⟨fun z hz => (nmL_iff z).2 (lets_free t h z hz), fun z hz => (nmL_iff z).2 (lets_bnd t h z hz)⟩
theorem numb_bnd {t : Tm} (hs : t.size ≤ 121) : (numb t).bnd = marksN.take t.sim.bnd.length := by
  refine can_bnd _ _ _ ?_
  have := bnd_len t.sim
  have := sim_size t
  rw [marksN_len]; omega
theorem can_free (s : Tm) : ∀ (f : UInt8 → UInt8) (ns : List UInt8), s.bnd.length ≤ ns.length → ∀ z, z ∈ (can s f ns).free → (∃ w, w ∈ s.free ∧ z = f w) := by
  have hb : ∀ (p : Tm) (x n : UInt8) (f : UInt8 → UInt8) (z : UInt8), (∃ w, w ∈ p.free ∧ z = upd f x n w) → z ≠ n → ∃ w, (w ∈ p.free ∧ w ≠ x) ∧ z = f w := by
    rintro p x n f z ⟨w, hw, e⟩ hz
    unfold upd at e
    split at e
    · exact absurd e hz
    · rename_i hx; exact ⟨w, ⟨hw, hx⟩, e⟩
  induction s with
  | nil => intro f ns _ z hz; simp [can, Tm.free] at hz
  | snd a b p ih =>
    intro f ns h z hz
    simp only [can, mf_snd] at hz
    rcases hz with rfl | rfl | hz
    · exact ⟨a, by rw [mf_snd]; simp, rfl⟩
    · exact ⟨b, by rw [mf_snd]; simp, rfl⟩
    · obtain ⟨w, hw, e⟩ := ih f ns h z hz; exact ⟨w, by rw [mf_snd]; simp [hw], e⟩
  | mat a b p ih =>
    intro f ns h z hz
    simp only [can, mf_mat] at hz
    rcases hz with rfl | rfl | hz
    · exact ⟨a, by rw [mf_mat]; simp, rfl⟩
    · exact ⟨b, by rw [mf_mat]; simp, rfl⟩
    · obtain ⟨w, hw, e⟩ := ih f ns h z hz; exact ⟨w, by rw [mf_mat]; simp [hw], e⟩
  | tau p ih => intro f ns h z hz; simp only [can, mf_tau] at hz; obtain ⟨w, hw, e⟩ := ih f ns h z hz; exact ⟨w, by rw [mf_tau]; exact hw, e⟩
  | rep p ih => intro f ns h z hz; simp only [can, mf_rep] at hz; obtain ⟨w, hw, e⟩ := ih f ns h z hz; exact ⟨w, by rw [mf_rep]; exact hw, e⟩
  | rcv a x p ih =>
    intro f ns h z hz
    cases ns with
    | nil => simp [Tm.bnd] at h
    | cons n ns =>
      simp only [can, mf_rcv, List.headD_cons, List.tail_cons] at hz
      rcases hz with rfl | ⟨hz, hn⟩
      · exact ⟨a, by rw [mf_rcv]; simp, rfl⟩
      · obtain ⟨w, hw, e⟩ := hb p x n f z (ih _ ns (by simpa [Tm.bnd] using h) z hz) hn
        exact ⟨w, by rw [mf_rcv]; exact .inr hw, e⟩
  | own x p ih =>
    intro f ns h z hz
    cases ns with
    | nil => simp [Tm.bnd] at h
    | cons n ns =>
      simp only [can, mf_own, List.headD_cons, List.tail_cons] at hz
      obtain ⟨w, hw, e⟩ := hb p x n f z (ih _ ns (by simpa [Tm.bnd] using h) z hz.1) hz.2
      exact ⟨w, by rw [mf_own]; exact hw, e⟩
  | sum p q ih ih2 =>
    intro f ns h z hz
    simp only [Tm.bnd, List.length_append] at h
    simp only [can, mf_sum] at hz
    rcases hz with hz | hz
    · obtain ⟨w, hw, e⟩ := ih f ns (by omega) z hz; exact ⟨w, by rw [mf_sum]; exact .inl hw, e⟩
    · obtain ⟨w, hw, e⟩ := ih2 f _ (by rw [List.length_drop]; omega) z hz; exact ⟨w, by rw [mf_sum]; exact .inr hw, e⟩
  | par p q ih ih2 =>
    intro f ns h z hz
    simp only [Tm.bnd, List.length_append] at h
    simp only [can, mf_par] at hz
    rcases hz with hz | hz
    · obtain ⟨w, hw, e⟩ := ih f ns (by omega) z hz; exact ⟨w, by rw [mf_par]; exact .inl hw, e⟩
    · obtain ⟨w, hw, e⟩ := ih2 f _ (by rw [List.length_drop]; omega) z hz; exact ⟨w, by rw [mf_par]; exact .inr hw, e⟩
theorem ok_LE (t : Tm) (h : t.ok nmL = true) : t.ok nmE = true := by
  have hc : ∀ c, nmL c = true → nmE c = true := fun c h => by rw [nmE_iff]; exact .inl ((nmL_iff c).1 h)
  induction t with
  | nil => rfl
  | snd a b p ih => simp only [Tm.ok, Bool.and_eq_true] at h ⊢; exact ⟨⟨hc _ h.1.1, hc _ h.1.2⟩, ih h.2⟩
  | rcv a b p ih => simp only [Tm.ok, Bool.and_eq_true] at h ⊢; exact ⟨⟨hc _ h.1.1, hc _ h.1.2⟩, ih h.2⟩
  | mat a b p ih => simp only [Tm.ok, Bool.and_eq_true] at h ⊢; exact ⟨⟨hc _ h.1.1, hc _ h.1.2⟩, ih h.2⟩
  | own a p ih => simp only [Tm.ok, Bool.and_eq_true] at h ⊢; exact ⟨hc _ h.1, ih h.2⟩
  | tau p ih => simp only [Tm.ok] at h ⊢; exact ih h
  | rep p ih => simp only [Tm.ok] at h ⊢; exact ih h
  | sum p q ih ih2 => simp only [Tm.ok, Bool.and_eq_true] at h ⊢; exact ⟨ih h.1, ih2 h.2⟩
  | par p q ih ih2 => simp only [Tm.ok, Bool.and_eq_true] at h ⊢; exact ⟨ih h.1, ih2 h.2⟩
end Go.Proofs.YtmfmagfgcdaeeaaGreat.T1

/- Congruence, plain: what holds of threads and of parts of sums, whichever letters they get; how long results are. -/
namespace Go.Proofs.YtmfmagfgcdaeeaaGreat.T1
set_option linter.unusedVariables false

/-- Sizes and lengths, a sign between any two. -/
def wtL (l : List Tm) : Nat := (l.map fun t => t.pr.length + 3).sum
def wtS (l : List Tm) : Nat := (l.map fun t => t.size + 1).sum
theorem wtL_app (l m : List Tm) : wtL (l ++ m) = wtL l + wtL m := by simp [wtL]
theorem wt_mem {l : List Tm} {t : Tm} (h : t ∈ l) : t.pr.length + 3 ≤ wtL l ∧ t.size + 1 ≤ wtS l := by
  induction l with
  | nil => simp at h
  | cons a l ih =>
    simp only [wtL, wtS, List.map_cons, List.sum_cons]
    have e1 : (l.map fun t => t.pr.length + 3).sum = wtL l := rfl
    have e2 : (l.map fun t => t.size + 1).sum = wtS l := rfl
    rcases List.mem_cons.1 h with rfl | h
    · omega
    · have := ih h; omega
theorem joinP_len : ∀ l : List Tm, l ≠ [] → (joinR .par l).pr.length + 3 = wtL l
  | [], h => absurd rfl h
  | [t], _ => by simp [joinR, wtL]
  | t :: u :: l, _ => by
    have := joinP_len (u :: l) (by simp)
    have e : wtL (t :: u :: l) = t.pr.length + 3 + wtL (u :: l) := by simp [wtL]
    rw [e, ← this]
    simp [joinR, Tm.pr]; omega
theorem joinS_len : ∀ l : List Tm, l ≠ [] → (joinR .sum l).pr.length + 3 = wtL l
  | [], h => absurd rfl h
  | [t], _ => by simp [joinR, wtL]
  | t :: u :: l, _ => by
    have := joinS_len (u :: l) (by simp)
    have e : wtL (t :: u :: l) = t.pr.length + 3 + wtL (u :: l) := by simp [wtL]
    rw [e, ← this]
    simp [joinR, Tm.pr]; omega
theorem wt_perm {l m : List Tm} (h : l.Perm m) : wtL l = wtL m := (h.map _).sum_nat
theorem wt_le {α : Type} (l : List α) (f g : α → Tm) (h : ∀ a ∈ l, (f a).pr.length ≤ (g a).pr.length) : wtL (l.map f) ≤ wtL (l.map g) := by
  induction l with
  | nil => exact Nat.le_refl _
  | cons a l ih =>
    have e1 : wtL ((a :: l).map f) = (f a).pr.length + 3 + wtL (l.map f) := by simp [wtL]
    have e2 : wtL ((a :: l).map g) = (g a).pr.length + 3 + wtL (l.map g) := by simp [wtL]
    have := ih fun b hb => h b (by simp [hb])
    have := h a (by simp)
    omega
theorem wrap_len (ls : List UInt8) (t : Tm) : (wrapO ls t).pr.length = 3 * ls.length + t.pr.length := by
  induction ls with
  | nil => simp [wrapO]
  | cons a l ih => simp only [wrapO, List.foldr_cons, Tm.pr, List.length_cons] at ih ⊢; omega
end Go.Proofs.YtmfmagfgcdaeeaaGreat.T1

/- Congruence, plain: results are no longer than texts; orders of letters; letters put in one by one. -/
namespace Go.Proofs.YtmfmagfgcdaeeaaGreat.T1
set_option linter.unusedVariables false

theorem wt_srt (l : List Tm) : wtL (srtT l) = wtL l := wt_perm (List.mergeSort_perm l _)
end Go.Proofs.YtmfmagfgcdaeeaaGreat.T1

/- Congruence, plain: the specification's results have names. -/
namespace Go.Proofs.YtmfmagfgcdaeeaaGreat.T1
set_option linter.unusedVariables false

end Go.Proofs.YtmfmagfgcdaeeaaGreat.T1

/- Names bound in an order twice over: the second time counts; simplified processes under it; normal forms of processes alike by names: plain lemmas. -/
namespace Go.Proofs.YtmfmagfgcdaeeaaGreat.T1
set_option linter.unusedVariables false

theorem can_len2 (t : Tm) (f : UInt8 → UInt8) (ns : List UInt8) (h : t.bnd.length ≤ ns.length) : (can t f ns).bnd.length = t.bnd.length := by
  rw [can_bnd _ _ _ h, List.length_take]; omega
theorem can_can (t : Tm) : ∀ (f g : UInt8 → UInt8) (ns ms : List UInt8), t.bnd.length ≤ ns.length → ns.Nodup → (∀ z, z ∈ t.free → f z ∉ ns) → can (can t f ns) g ms = can t (fun z => g (f z)) ms := by
  have hb : ∀ (p : Tm) (x : UInt8), (∀ (f g : UInt8 → UInt8) (ns ms : List UInt8), p.bnd.length ≤ ns.length → ns.Nodup → (∀ z, z ∈ p.free → f z ∉ ns) → can (can p f ns) g ms = can p (fun z => g (f z)) ms) →
      ∀ (f g : UInt8 → UInt8) (n0 m0 : UInt8) (ns ms : List UInt8), p.bnd.length ≤ ns.length → (n0 :: ns).Nodup → (∀ z, z ∈ p.free → z ≠ x → f z ∉ n0 :: ns) →
      can (can p (upd f x n0) ns) (upd g n0 m0) ms = can p (upd (fun z => g (f z)) x m0) ms := by
    intro p x ih f g n0 m0 ns ms h1 h2 h3
    rw [List.nodup_cons] at h2
    rw [ih (upd f x n0) (upd g n0 m0) ns ms h1 h2.2 (fun z hz => by
      unfold upd; split
      · exact h2.1
      · rename_i e; exact fun k => h3 z hz e (List.mem_cons_of_mem _ k))]
    refine can_congr _ _ _ _ fun z hz => ?_
    by_cases e : z = x
    · simp [upd, e]
    · have h4 : f z ≠ n0 := fun k => h3 z hz e (by rw [k]; simp)
      simp [upd, e, h4]
  induction t with
  | nil => intro f g ns ms _ _ _; rfl
  | snd a b p ih => intro f g ns ms h1 h2 h3; simp only [can]; rw [ih f g ns ms h1 h2 (fun z hz => h3 z (by rw [mf_snd]; simp [hz]))]
  | mat a b p ih => intro f g ns ms h1 h2 h3; simp only [can]; rw [ih f g ns ms h1 h2 (fun z hz => h3 z (by rw [mf_mat]; simp [hz]))]
  | tau p ih => intro f g ns ms h1 h2 h3; simp only [can]; rw [ih f g ns ms h1 h2 (fun z hz => h3 z (by rw [mf_tau]; exact hz))]
  | rep p ih => intro f g ns ms h1 h2 h3; simp only [can]; rw [ih f g ns ms h1 h2 (fun z hz => h3 z (by rw [mf_rep]; exact hz))]
  | rcv a x p ih =>
    intro f g ns ms h1 h2 h3
    cases ns with
    | nil => simp [Tm.bnd] at h1
    | cons n0 ns =>
      simp only [can, List.headD_cons, List.tail_cons]
      rw [hb p x ih f g n0 _ ns _ (by simpa [Tm.bnd] using h1) h2 (fun z hz e => h3 z (by rw [mf_rcv]; exact .inr ⟨hz, e⟩))]
  | own x p ih =>
    intro f g ns ms h1 h2 h3
    cases ns with
    | nil => simp [Tm.bnd] at h1
    | cons n0 ns =>
      simp only [can, List.headD_cons, List.tail_cons]
      rw [hb p x ih f g n0 _ ns _ (by simpa [Tm.bnd] using h1) h2 (fun z hz e => h3 z (by rw [mf_own]; exact ⟨hz, e⟩))]
  | sum p q ih ih2 =>
    intro f g ns ms h1 h2 h3
    simp only [Tm.bnd, List.length_append] at h1
    simp only [can]
    rw [ih f g ns ms (by omega) h2 (fun z hz => h3 z (by rw [mf_sum]; exact .inl hz)), can_len2 p f ns (by omega),
      ih2 f g _ _ (by rw [List.length_drop]; omega) (h2.sublist (List.drop_sublist _ _)) (fun z hz k => h3 z (by rw [mf_sum]; exact .inr hz) (List.mem_of_mem_drop k))]
  | par p q ih ih2 =>
    intro f g ns ms h1 h2 h3
    simp only [Tm.bnd, List.length_append] at h1
    simp only [can]
    rw [ih f g ns ms (by omega) h2 (fun z hz => h3 z (by rw [mf_par]; exact .inl hz)), can_len2 p f ns (by omega),
      ih2 f g _ _ (by rw [List.length_drop]; omega) (h2.sublist (List.drop_sublist _ _)) (fun z hz k => h3 z (by rw [mf_par]; exact .inr hz) (List.mem_of_mem_drop k))]

theorem can_free2 (t : Tm) : ∀ (f : UInt8 → UInt8) (ns : List UInt8), t.bnd.length ≤ ns.length → ns.Nodup → (∀ z, z ∈ t.free → f z ∉ ns) → ∀ w, w ∈ t.free → f w ∈ (can t f ns).free := by
  have hb : ∀ (p : Tm) (x : UInt8), (∀ (f : UInt8 → UInt8) (ns : List UInt8), p.bnd.length ≤ ns.length → ns.Nodup → (∀ z, z ∈ p.free → f z ∉ ns) → ∀ w, w ∈ p.free → f w ∈ (can p f ns).free) →
      ∀ (f : UInt8 → UInt8) (n0 : UInt8) (ns : List UInt8), p.bnd.length ≤ ns.length → (n0 :: ns).Nodup → (∀ z, z ∈ p.free → z ≠ x → f z ∉ n0 :: ns) → ∀ w, w ∈ p.free → w ≠ x → f w ∈ (can p (upd f x n0) ns).free ∧ f w ≠ n0 := by
    intro p x ih f n0 ns h1 h2 h3 w hw e
    rw [List.nodup_cons] at h2
    have h5 := ih (upd f x n0) ns h1 h2.2 (fun z hz => by
      unfold upd; split
      · exact h2.1
      · rename_i e; exact fun k => h3 z hz e (List.mem_cons_of_mem _ k)) w hw
    simp only [upd, e, if_false] at h5
    exact ⟨h5, fun k => h3 w hw e (by rw [k]; simp)⟩
  induction t with
  | nil => intro f ns _ _ _ w hw; simp [Tm.free] at hw
  | snd a b p ih =>
    intro f ns h1 h2 h3 w hw
    have h := ih f ns h1 h2 (fun z hz => h3 z (by rw [mf_snd]; simp [hz])) w
    rw [mf_snd] at hw; simp only [can]; rw [mf_snd]
    rcases hw with rfl | rfl | hw
    · exact .inl rfl
    · exact .inr (.inl rfl)
    · exact .inr (.inr (h hw))
  | mat a b p ih =>
    intro f ns h1 h2 h3 w hw
    have h := ih f ns h1 h2 (fun z hz => h3 z (by rw [mf_mat]; simp [hz])) w
    rw [mf_mat] at hw; simp only [can]; rw [mf_mat]
    rcases hw with rfl | rfl | hw
    · exact .inl rfl
    · exact .inr (.inl rfl)
    · exact .inr (.inr (h hw))
  | tau p ih => intro f ns h1 h2 h3 w hw; rw [mf_tau] at hw; simp only [can]; rw [mf_tau]; exact ih f ns h1 h2 (fun z hz => h3 z (by rw [mf_tau]; exact hz)) w hw
  | rep p ih => intro f ns h1 h2 h3 w hw; rw [mf_rep] at hw; simp only [can]; rw [mf_rep]; exact ih f ns h1 h2 (fun z hz => h3 z (by rw [mf_rep]; exact hz)) w hw
  | rcv a x p ih =>
    intro f ns h1 h2 h3 w hw
    cases ns with
    | nil => simp [Tm.bnd] at h1
    | cons n0 ns =>
      rw [mf_rcv] at hw
      simp only [can, List.headD_cons, List.tail_cons]
      rw [mf_rcv]
      rcases hw with rfl | ⟨hw, e⟩
      · exact .inl rfl
      · exact .inr (hb p x ih f n0 ns (by simpa [Tm.bnd] using h1) h2 (fun z hz e => h3 z (by rw [mf_rcv]; exact .inr ⟨hz, e⟩)) w hw e)
  | own x p ih =>
    intro f ns h1 h2 h3 w hw
    cases ns with
    | nil => simp [Tm.bnd] at h1
    | cons n0 ns =>
      rw [mf_own] at hw
      simp only [can, List.headD_cons, List.tail_cons]
      rw [mf_own]
      exact hb p x ih f n0 ns (by simpa [Tm.bnd] using h1) h2 (fun z hz e => h3 z (by rw [mf_own]; exact ⟨hz, e⟩)) w hw.1 hw.2
  | sum p q ih ih2 =>
    intro f ns h1 h2 h3 w hw
    simp only [Tm.bnd, List.length_append] at h1
    rw [mf_sum] at hw; simp only [can]; rw [mf_sum]
    rcases hw with hw | hw
    · exact .inl (ih f ns (by omega) h2 (fun z hz => h3 z (by rw [mf_sum]; exact .inl hz)) w hw)
    · exact .inr (ih2 f _ (by rw [List.length_drop]; omega) (h2.sublist (List.drop_sublist _ _)) (fun z hz k => h3 z (by rw [mf_sum]; exact .inr hz) (List.mem_of_mem_drop k)) w hw)
  | par p q ih ih2 =>
    intro f ns h1 h2 h3 w hw
    simp only [Tm.bnd, List.length_append] at h1
    rw [mf_par] at hw; simp only [can]; rw [mf_par]
    rcases hw with hw | hw
    · exact .inl (ih f ns (by omega) h2 (fun z hz => h3 z (by rw [mf_par]; exact .inl hz)) w hw)
    · exact .inr (ih2 f _ (by rw [List.length_drop]; omega) (h2.sublist (List.drop_sublist _ _)) (fun z hz k => h3 z (by rw [mf_par]; exact .inr hz) (List.mem_of_mem_drop k)) w hw)

theorem can_app (t : Tm) : ∀ (f : UInt8 → UInt8) (ns r : List UInt8), t.bnd.length ≤ ns.length → can t f (ns ++ r) = can t f ns := by
  induction t with
  | nil => intro f ns r h; rfl
  | snd a b p ih => intro f ns r h; simp only [can]; rw [ih f ns r h]
  | mat a b p ih => intro f ns r h; simp only [can]; rw [ih f ns r h]
  | tau p ih => intro f ns r h; simp only [can]; rw [ih f ns r h]
  | rep p ih => intro f ns r h; simp only [can]; rw [ih f ns r h]
  | rcv a x p ih =>
    intro f ns r h
    cases ns with
    | nil => simp [Tm.bnd] at h
    | cons n0 ns => simp only [can, List.cons_append, List.headD_cons, List.tail_cons]; rw [ih _ ns r (by simpa [Tm.bnd] using h)]
  | own x p ih =>
    intro f ns r h
    cases ns with
    | nil => simp [Tm.bnd] at h
    | cons n0 ns => simp only [can, List.cons_append, List.headD_cons, List.tail_cons]; rw [ih _ ns r (by simpa [Tm.bnd] using h)]
  | sum p q ih ih2 =>
    intro f ns r h
    simp only [Tm.bnd, List.length_append] at h
    simp only [can]
    rw [ih f ns r (by omega), List.drop_append_of_le_length (by omega), ih2 f _ r (by rw [List.length_drop]; omega)]
  | par p q ih ih2 =>
    intro f ns r h
    simp only [Tm.bnd, List.length_append] at h
    simp only [can]
    rw [ih f ns r (by omega), List.drop_append_of_le_length (by omega), ih2 f _ r (by rw [List.length_drop]; omega)]
theorem simF {t : Tm} {z : UInt8} (h : z ∈ t.sim.free) : z ∈ t.free := by
  obtain ⟨w, hw, e⟩ : ∃ w, w ∈ t.free ∧ z = w := by
    rw [sim_usd] at h
    exact ⟨z, usd_free t z h, rfl⟩
  exact e ▸ hw
theorem sim_can (t : Tm) : ∀ (f : UInt8 → UInt8) (ns : List UInt8), t.bnd.length ≤ ns.length → ns.Nodup → (∀ z, z ∈ t.free → f z ∉ ns) → (∀ y z, y ∈ t.free → z ∈ t.free → f y = f z → y = z) →
    ∃ ms : List UInt8, ms.Sublist (ns.take t.bnd.length) ∧ t.sim.bnd.length = ms.length ∧ (can t f ns).sim = can t.sim f ms := by
  have hnil : ∀ (s : Tm) (f : UInt8 → UInt8) (ns : List UInt8), can s f ns = .nil ↔ s = .nil := fun s f ns => ⟨can_nil, fun e => by rw [e]; rfl⟩
  have hb : ∀ (p : Tm) (x : UInt8) (f : UInt8 → UInt8) (n0 : UInt8) (ns : List UInt8), (n0 :: ns).Nodup → (∀ z, z ∈ p.free → z ≠ x → f z ∉ n0 :: ns) → (∀ y z, y ∈ p.free → y ≠ x → z ∈ p.free → z ≠ x → f y = f z → y = z) →
      (∀ z, z ∈ p.free → upd f x n0 z ∉ ns) ∧ (∀ y z, y ∈ p.free → z ∈ p.free → upd f x n0 y = upd f x n0 z → y = z) ∧ ns.Nodup := by
    intro p x f n0 ns h2 h3 h4
    rw [List.nodup_cons] at h2
    refine ⟨fun z hz => ?_, fun y z hy hz e => ?_, h2.2⟩
    · unfold upd; split
      · exact h2.1
      · rename_i e; exact fun k => h3 z hz e (List.mem_cons_of_mem _ k)
    · by_cases ey : y = x
      · by_cases ez : z = x
        · rw [ey, ez]
        · simp only [upd, ey, ez, if_true, if_false] at e
          exact absurd (e ▸ List.mem_cons_self) (h3 z hz ez)
      · by_cases ez : z = x
        · simp only [upd, ey, ez, if_true, if_false] at e
          exact absurd (e.symm ▸ List.mem_cons_self) (h3 y hy ey)
        · simp only [upd, ey, ez, if_false] at e
          exact h4 y z hy ey hz ez e
  have hS : ∀ (p q : Tm) (f : UInt8 → UInt8) (ns ms1 ms2 : List UInt8), p.bnd.length + q.bnd.length ≤ ns.length → ms1.Sublist (ns.take p.bnd.length) → ms2.Sublist ((ns.drop p.bnd.length).take q.bnd.length) →
      (ms1 ++ ms2).Sublist (ns.take (p.bnd.length + q.bnd.length)) := by
    intro p q f ns ms1 ms2 h k1 k2
    rw [List.take_add]; exact k1.append k2
  induction t with
  | nil => intro f ns _ _ _ _; exact ⟨[], List.nil_sublist _, rfl, rfl⟩
  | snd a b p ih =>
    intro f ns h1 h2 h3 h4
    obtain ⟨ms, k1, k2, k3⟩ := ih f ns h1 h2 (fun z hz => h3 z (by rw [mf_snd]; simp [hz])) (fun y z hy hz => h4 y z (by rw [mf_snd]; simp [hy]) (by rw [mf_snd]; simp [hz]))
    exact ⟨ms, k1, k2, by simp only [can, Tm.sim, k3]⟩
  | tau p ih =>
    intro f ns h1 h2 h3 h4
    obtain ⟨ms, k1, k2, k3⟩ := ih f ns h1 h2 (fun z hz => h3 z (by rw [mf_tau]; exact hz)) (fun y z hy hz => h4 y z (by rw [mf_tau]; exact hy) (by rw [mf_tau]; exact hz))
    exact ⟨ms, k1, k2, by simp only [can, Tm.sim, k3]⟩
  | mat a b p ih =>
    intro f ns h1 h2 h3 h4
    obtain ⟨ms, k1, k2, k3⟩ := ih f ns h1 h2 (fun z hz => h3 z (by rw [mf_mat]; simp [hz])) (fun y z hy hz => h4 y z (by rw [mf_mat]; simp [hy]) (by rw [mf_mat]; simp [hz]))
    have e : (f a = f b ∨ can p.sim f ms = .nil) ↔ (a = b ∨ p.sim = .nil) := by
      rw [hnil]
      exact ⟨fun h => h.imp (h4 a b (by rw [mf_mat]; simp) (by rw [mf_mat]; simp)) id, fun h => h.imp (fun e => by rw [e]) id⟩
    simp only [can, Tm.sim, k3]
    by_cases h : a = b ∨ p.sim = .nil
    · rw [if_pos h, if_pos (e.2 h)]; exact ⟨ms, k1, k2, rfl⟩
    · rw [if_neg h, if_neg (fun k => h (e.1 k))]; exact ⟨ms, k1, k2, rfl⟩
  | rep p ih =>
    intro f ns h1 h2 h3 h4
    obtain ⟨ms, k1, k2, k3⟩ := ih f ns h1 h2 (fun z hz => h3 z (by rw [mf_rep]; exact hz)) (fun y z hy hz => h4 y z (by rw [mf_rep]; exact hy) (by rw [mf_rep]; exact hz))
    simp only [can, Tm.sim, k3, hnil]
    by_cases h : p.sim = .nil
    · rw [if_pos h, if_pos h]; exact ⟨ms, k1, k2, rfl⟩
    · rw [if_neg h, if_neg h]; exact ⟨ms, k1, k2, rfl⟩
  | rcv a x p ih =>
    intro f ns h1 h2 h3 h4
    cases ns with
    | nil => simp [Tm.bnd] at h1
    | cons n0 ns =>
      obtain ⟨g1, g2, g3⟩ := hb p x f n0 ns h2 (fun z hz e => h3 z (by rw [mf_rcv]; exact .inr ⟨hz, e⟩)) (fun y z hy ey hz ez => h4 y z (by rw [mf_rcv]; exact .inr ⟨hy, ey⟩) (by rw [mf_rcv]; exact .inr ⟨hz, ez⟩))
      obtain ⟨ms, k1, k2, k3⟩ := ih (upd f x n0) ns (by simpa [Tm.bnd] using h1) g3 g1 g2
      refine ⟨n0 :: ms, by simp only [Tm.bnd, List.length_cons, List.take_succ_cons]; exact k1.cons_cons _, by simp only [Tm.sim, Tm.bnd, List.length_cons, k2], ?_⟩
      simp only [can, Tm.sim, List.headD_cons, List.tail_cons, k3]
  | own x p ih =>
    intro f ns h1 h2 h3 h4
    cases ns with
    | nil => simp [Tm.bnd] at h1
    | cons n0 ns =>
      obtain ⟨g1, g2, g3⟩ := hb p x f n0 ns h2 (fun z hz e => h3 z (by rw [mf_own]; exact ⟨hz, e⟩)) (fun y z hy ey hz ez => h4 y z (by rw [mf_own]; exact ⟨hy, ey⟩) (by rw [mf_own]; exact ⟨hz, ez⟩))
      obtain ⟨ms, k1, k2, k3⟩ := ih (upd f x n0) ns (by simpa [Tm.bnd] using h1) g3 g1 g2
      have sub : ∀ z ∈ ms, z ∈ ns := fun z hz => List.mem_of_mem_take (k1.subset hz)
      have e : n0 ∈ (can p.sim (upd f x n0) ms).free ↔ x ∈ p.sim.free := by
        constructor
        · intro h
          obtain ⟨w, hw, e⟩ := can_free p.sim _ _ (by rw [k2]; exact Nat.le_refl _) n0 h
          by_cases ew : w = x
          · rw [← ew]; exact hw
          · simp only [upd, ew, if_false] at e
            exact absurd (e ▸ List.mem_cons_self) (h3 w (by rw [mf_own]; exact ⟨simF hw, ew⟩))
        · intro h
          have h5 := can_free2 p.sim (upd f x n0) ms (by rw [k2]; exact Nat.le_refl _) ((g3.sublist (List.take_sublist _ _)).sublist k1) (fun z hz k => g1 z (simF hz) (sub _ k)) x h
          simpa [upd] using h5
      simp only [can, Tm.sim, List.headD_cons, List.tail_cons, k3]
      by_cases h : x ∈ p.sim.free
      · rw [if_pos h, if_pos (e.2 h)]
        refine ⟨n0 :: ms, by simp only [Tm.bnd, List.length_cons, List.take_succ_cons]; exact k1.cons_cons _, by simp only [Tm.bnd, List.length_cons, k2], ?_⟩
        simp only [can, List.headD_cons, List.tail_cons]
      · rw [if_neg h, if_neg (fun k => h (e.1 k))]
        refine ⟨ms, by simp only [Tm.bnd, List.length_cons, List.take_succ_cons]; exact k1.cons _, k2, ?_⟩
        refine can_congr _ _ _ _ fun z hz => ?_
        have : z ≠ x := fun e => h (e ▸ hz)
        simp [upd, this]
  | sum p q ih ih2 =>
    intro f ns h1 h2 h3 h4
    simp only [Tm.bnd, List.length_append] at h1
    obtain ⟨ms1, k1, k2, k3⟩ := ih f ns (by omega) h2 (fun z hz => h3 z (by rw [mf_sum]; exact .inl hz)) (fun y z hy hz => h4 y z (by rw [mf_sum]; exact .inl hy) (by rw [mf_sum]; exact .inl hz))
    obtain ⟨ms2, j1, j2, j3⟩ := ih2 f (ns.drop p.bnd.length) (by rw [List.length_drop]; omega) (h2.sublist (List.drop_sublist _ _)) (fun z hz k => h3 z (by rw [mf_sum]; exact .inr hz) (List.mem_of_mem_drop k)) (fun y z hy hz => h4 y z (by rw [mf_sum]; exact .inr hy) (by rw [mf_sum]; exact .inr hz))
    have hs := hS p q f ns ms1 ms2 h1 k1 j1
    have s1 := (List.sublist_append_left ms1 ms2).trans hs
    have s2 := (List.sublist_append_right ms1 ms2).trans hs
    simp only [can, Tm.sim, k3, j3, hnil, Tm.bnd, List.length_append]
    by_cases h : p.sim = .nil
    · rw [if_pos h, if_pos h]; exact ⟨ms2, s2, j2, rfl⟩
    · rw [if_neg h, if_neg h]
      by_cases h' : q.sim = .nil
      · rw [if_pos h', if_pos h']; exact ⟨ms1, s1, k2, rfl⟩
      · rw [if_neg h', if_neg h']
        refine ⟨ms1 ++ ms2, hs, by simp only [Tm.bnd, List.length_append, k2, j2], ?_⟩
        simp only [can]
        rw [can_app _ _ _ _ (by rw [k2]; exact Nat.le_refl _), k2, List.drop_left]
  | par p q ih ih2 =>
    intro f ns h1 h2 h3 h4
    simp only [Tm.bnd, List.length_append] at h1
    obtain ⟨ms1, k1, k2, k3⟩ := ih f ns (by omega) h2 (fun z hz => h3 z (by rw [mf_par]; exact .inl hz)) (fun y z hy hz => h4 y z (by rw [mf_par]; exact .inl hy) (by rw [mf_par]; exact .inl hz))
    obtain ⟨ms2, j1, j2, j3⟩ := ih2 f (ns.drop p.bnd.length) (by rw [List.length_drop]; omega) (h2.sublist (List.drop_sublist _ _)) (fun z hz k => h3 z (by rw [mf_par]; exact .inr hz) (List.mem_of_mem_drop k)) (fun y z hy hz => h4 y z (by rw [mf_par]; exact .inr hy) (by rw [mf_par]; exact .inr hz))
    have hs := hS p q f ns ms1 ms2 h1 k1 j1
    have s1 := (List.sublist_append_left ms1 ms2).trans hs
    have s2 := (List.sublist_append_right ms1 ms2).trans hs
    simp only [can, Tm.sim, k3, j3, hnil, Tm.bnd, List.length_append]
    by_cases h : p.sim = .nil
    · rw [if_pos h, if_pos h]; exact ⟨ms2, s2, j2, rfl⟩
    · rw [if_neg h, if_neg h]
      by_cases h' : q.sim = .nil
      · rw [if_pos h', if_pos h']; exact ⟨ms1, s1, k2, rfl⟩
      · rw [if_neg h', if_neg h']
        refine ⟨ms1 ++ ms2, hs, by simp only [Tm.bnd, List.length_append, k2, j2], ?_⟩
        simp only [can]
        rw [can_app _ _ _ _ (by rw [k2]; exact Nat.le_refl _), k2, List.drop_left]

/-- Names that are bound anew change nothing of the normal form. -/
theorem nfI_can {t : Tm} {ns : List UInt8} (h1 : t.bnd.length ≤ ns.length) (h2 : ns.Nodup) (h3 : ∀ z, z ∈ t.free → z ∉ ns) : nfI (can t id ns) = nfI t := by
  obtain ⟨ms, k1, k2, k3⟩ := sim_can t id ns h1 h2 h3 (fun y z _ _ e => e)
  have sub : ∀ z ∈ ms, z ∈ ns := fun z hz => List.mem_of_mem_take (k1.subset hz)
  have hms : ms.Nodup := (h2.sublist (List.take_sublist _ _)).sublist k1
  have hn : ∀ z, z ∈ t.sim.free → id z ∉ ms := fun z hz k => h3 z (simF hz) (sub _ k)
  have en : numb (can t id ns) = numb t := by
    unfold numb
    rw [k3, can_can t.sim id id ms marksN (by rw [k2]; exact Nat.le_refl _) hms hn]
    rfl
  have eu : (can t id ns).usd = t.usd := by
    rw [← sim_usd, ← sim_usd, k3]
    refine srt_ext (srt_free _) (srt_free _) fun z => ⟨fun h => ?_, fun h => can_free2 t.sim id ms (by rw [k2]; exact Nat.le_refl _) hms hn z h⟩
    obtain ⟨w, hw, e⟩ := can_free t.sim id ms (by rw [k2]; exact Nat.le_refl _) z h
    exact e ▸ hw
  unfold nfI
  rw [en, eu, can_size]
/-- Processes that are alike by names have one normal form, or both have none. -/
theorem nfI_alike {t u : Tm} {ns : List UInt8} (h2 : ns.Nodup) (ht : t.bnd.length ≤ ns.length) (hu : u.bnd.length ≤ ns.length) (kt : ∀ z, z ∈ t.free → z ∉ ns) (ku : ∀ z, z ∈ u.free → z ∉ ns) (e : can t id ns = can u id ns) : nfI t = nfI u := by
  rw [← nfI_can ht h2 kt, e, nfI_can hu h2 ku]
theorem can_freeE {t : Tm} {ns : List UInt8} (h1 : t.bnd.length ≤ ns.length) (h2 : ns.Nodup) (h3 : ∀ z, z ∈ t.free → z ∉ ns) : (can t id ns).free = t.free := by
  refine srt_ext (srt_free _) (srt_free _) fun z => ⟨fun h => ?_, fun h => can_free2 t id ns h1 h2 h3 z h⟩
  obtain ⟨w, hw, e⟩ := can_free t id ns h1 z h
  exact e ▸ hw
/-- With the letters that are not free, in order: as the specification has it. -/
def cano (t : Tm) : Tm := can t id (othL t.free)
theorem oth_nd (l : List UInt8) : (othL l).Nodup := (othL_srt l).imp (fun h e => by subst e; rw [u8_lt] at h; omega)
theorem oth_no (t : Tm) : ∀ z, z ∈ t.free → z ∉ othL t.free := fun z hz k => ((mem_oth _ _).1 k).2 hz
theorem cano_free {t : Tm} (h : t.bnd.length ≤ (othL t.free).length) : (cano t).free = t.free := can_freeE h (oth_nd _) (oth_no t)
theorem cano_twice {t : Tm} (h : t.bnd.length ≤ (othL t.free).length) : cano (cano t) = cano t := by
  show can (cano t) id (othL (cano t).free) = cano t
  rw [cano_free h]
  exact can_can t id id _ _ h (oth_nd _) (oth_no t)
theorem cano_well {t : Tm} (h : t.bnd.length ≤ (othL t.free).length) : (cano t).bnd = (othL t.free).take t.bnd.length := can_bnd _ _ _ h
/-- Two processes are alike by names if and only if they have the same canonical names. -/
theorem cano_iff {t u : Tm} {ms : List UInt8} (h : t.bnd.length ≤ (othL t.free).length) (k : u.bnd.length ≤ (othL u.free).length) (hm : ms.Nodup) (mt : t.bnd.length ≤ ms.length) (mu : u.bnd.length ≤ ms.length)
    (ft : ∀ z, z ∈ t.free → z ∉ ms) (fu : ∀ z, z ∈ u.free → z ∉ ms) : can t id ms = can u id ms ↔ cano t = cano u := by
  constructor
  · intro e
    have ef : t.free = u.free := by rw [← can_freeE mt hm ft, e, can_freeE mu hm fu]
    have e1 : can (can t id ms) id (othL t.free) = can (can u id ms) id (othL t.free) := by rw [e]
    rw [can_can t id id ms _ mt hm ft, can_can u id id ms _ mu hm fu] at e1
    show can t id (othL t.free) = can u id (othL u.free)
    rw [← ef]; exact e1
  · intro e
    have e1 : can (cano t) id ms = can (cano u) id ms := by rw [e]
    rw [cano, cano, can_can t id id _ ms h (oth_nd _) (oth_no t), can_can u id id _ ms k (oth_nd _) (oth_no u)] at e1
    exact e1
end Go.Proofs.YtmfmagfgcdaeeaaGreat.T1
