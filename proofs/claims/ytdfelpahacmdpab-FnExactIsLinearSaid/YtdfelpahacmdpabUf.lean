/- Things that are the same because they have to be, and what they carry: joined class by class. Plain lemmas. -/
import Derived.KernelRfl
namespace Go.Proofs.Ytdfelpahacmdpab.T1
set_option linter.unusedVariables false
set_option linter.unusedSimpArgs false

/-- The same by some pairs, and by carrying: what one carries is one. -/
inductive Eqv (S C : Nat → Nat → Prop) : Nat → Nat → Prop where
  | base {i j : Nat} : S i j → Eqv S C i j
  | refl (i : Nat) : Eqv S C i i
  | symm {i j : Nat} : Eqv S C i j → Eqv S C j i
  | trans {i j k : Nat} : Eqv S C i j → Eqv S C j k → Eqv S C i k
  | carry {i j x y : Nat} : C i x → C j y → Eqv S C i j → Eqv S C x y
theorem Eqv.mono {S C S' C' : Nat → Nat → Prop} (hs : ∀ i j, S i j → S' i j) (hc : ∀ i j, C i j → C' i j) {i j : Nat} (h : Eqv S C i j) : Eqv S' C' i j := by
  induction h with
  | base h => exact .base (hs _ _ h)
  | refl i => exact .refl i
  | symm _ ih => exact .symm ih
  | trans _ _ ih ih2 => exact .trans ih ih2
  | carry a b _ ih => exact .carry (hc _ _ a) (hc _ _ b) ih
/-- Does i carry x, up to being the same? -/
def Car (S C : Nat → Nat → Prop) (i x : Nat) : Prop := ∃ i' x', C i' x' ∧ Eqv S C i i' ∧ Eqv S C x x'
theorem Car.one {S C : Nat → Nat → Prop} {i j x y : Nat} (h : Car S C i x) (k : Car S C j y) (e : Eqv S C i j) : Eqv S C x y := by
  obtain ⟨i1, x1, c1, a1, b1⟩ := h
  obtain ⟨i2, x2, c2, a2, b2⟩ := k
  exact b1.trans ((Eqv.carry c1 c2 (a1.symm.trans (e.trans a2))).trans b2.symm)
theorem Car.at_ {S C : Nat → Nat → Prop} {i j x y : Nat} (h : Car S C i x) (e : Eqv S C j i) (f : Eqv S C y x) : Car S C j y := by
  obtain ⟨i1, x1, c1, a1, b1⟩ := h
  exact ⟨i1, x1, c1, e.trans a1, f.trans b1⟩

/-- Class b becomes part of class a. -/
def mrg (a b z : Nat) : Nat := if z = b then a else z
theorem mrg_self (a z : Nat) : mrg a a z = z := by unfold mrg; split <;> simp_all
/-- Classes and what they carry, while two things (p and q) are still to be joined (p = q: nothing is). -/
structure Cls (S C : Nat → Nat → Prop) (r : Nat → Nat) (c : Nat → Option Nat) (p q : Nat) : Prop where
  idem : ∀ i, r (r i) = r i
  snd : ∀ i, Eqv S C i (r i)
  sndc : ∀ i x, c (r i) = some x → Car S C i x
  pend : Eqv S C p q
  same : ∀ i j, S i j → mrg (r p) (r q) (r i) = mrg (r p) (r q) (r j)
  car : ∀ i x, C i x → ∃ y, c (r i) = some y ∧ mrg (r p) (r q) (r x) = mrg (r p) (r q) (r y)
theorem Cls.done {S C : Nat → Nat → Prop} {r : Nat → Nat} {c : Nat → Option Nat} {p q : Nat} (h : Cls S C r c p q) (e : r p = r q) (z : Nat) : Cls S C r c z z := by
  have hm : ∀ t, mrg (r p) (r q) t = t := fun t => by rw [e]; exact mrg_self _ _
  refine ⟨h.idem, h.snd, h.sndc, .refl z, fun i j hs => ?_, fun i x hc => ?_⟩
  · have := h.same i j hs; rw [hm, hm] at this; rw [mrg_self, mrg_self]; exact this
  · obtain ⟨y, h1, h2⟩ := h.car i x hc
    rw [hm, hm] at h2
    exact ⟨y, h1, by rw [mrg_self, mrg_self]; exact h2⟩
/-- The two classes put together; what both carry is to be joined next. -/
theorem Cls.join {S C : Nat → Nat → Prop} {r : Nat → Nat} {c : Nat → Option Nat} {p q : Nat} (h : Cls S C r c p q) (hne : r p ≠ r q) :
    (∀ x y, c (r p) = some x → c (r q) = some y → Cls S C (fun i => mrg (r p) (r q) (r i)) c x y) ∧
    (c (r p) = none → ∀ z, Cls S C (fun i => mrg (r p) (r q) (r i)) (fun k => if k = r p then c (r q) else c k) z z) ∧
    (c (r q) = none → ∀ z, Cls S C (fun i => mrg (r p) (r q) (r i)) c z z) := by
  have hpq : Eqv S C (r p) (r q) := (h.snd p).symm.trans (h.pend.trans (h.snd q))
  have hid : ∀ i, mrg (r p) (r q) (r (mrg (r p) (r q) (r i))) = mrg (r p) (r q) (r i) := fun i => by
    unfold mrg
    by_cases e : r i = r q
    · simp [e, h.idem, hne]
    · simp [e, h.idem]
  have hsd : ∀ i, Eqv S C i (mrg (r p) (r q) (r i)) := fun i => by
    unfold mrg
    split
    · rename_i e; exact (h.snd i).trans (by rw [e]; exact hpq.symm)
    · exact h.snd i
  have hrr : ∀ i x, c (mrg (r p) (r q) (r i)) = some x → Car S C i x := fun i x e => by
    unfold mrg at e
    split at e
    · rename_i e1
      have := h.sndc p x (by rw [← e])
      exact this.at_ (((h.snd i).trans (by rw [e1]; exact hpq.symm)).trans (h.snd p).symm) (.refl x)
    · exact h.sndc i x e
  refine ⟨fun x y hx hy => ⟨hid, hsd, hrr, ?_, fun i j hs => by rw [h.same i j hs], fun i z hc => ?_⟩, fun hn z => ⟨hid, hsd, fun i x e => ?_, .refl z, fun i j hs => by rw [mrg_self, mrg_self]; exact h.same i j hs, fun i x hc => ?_⟩, fun hn z => ⟨hid, hsd, hrr, .refl z, fun i j hs => by rw [mrg_self, mrg_self]; exact h.same i j hs, fun i x hc => ?_⟩⟩
  · exact (h.sndc p x hx).one (h.sndc q y hy) h.pend
  · obtain ⟨y', h1, h2⟩ := h.car i z hc
    by_cases e : r i = r q
    · rw [e, hy] at h1
      cases h1
      refine ⟨x, by unfold mrg; rw [if_pos e]; exact hx, ?_⟩
      show mrg _ _ (mrg _ _ (r z)) = mrg _ _ (mrg _ _ (r x))
      rw [h2]
      generalize mrg (r p) (r q) (r x) = u
      generalize mrg (r p) (r q) (r y) = v
      unfold mrg; split <;> simp_all
    · exact ⟨y', by unfold mrg; rw [if_neg e]; exact h1, by show mrg _ _ (mrg _ _ (r z)) = mrg _ _ (mrg _ _ (r y')); rw [h2]⟩
  · show Car S C i x
    have e : (if mrg (r p) (r q) (r i) = r p then c (r q) else c (mrg (r p) (r q) (r i))) = some x := e
    split at e
    · rename_i e1
      refine (h.sndc q x e).at_ ?_ (.refl x)
      exact (hsd i).trans ((by rw [e1]; exact (h.snd p).symm : Eqv S C (mrg (r p) (r q) (r i)) p).trans h.pend)
    · exact hrr i x e
  · obtain ⟨y', h1, h2⟩ := h.car i x hc
    refine ⟨y', ?_, by show mrg _ _ (mrg _ _ (r x)) = mrg _ _ (mrg _ _ (r y')); rw [h2]⟩
    show (if mrg (r p) (r q) (r i) = r p then c (r q) else c (mrg (r p) (r q) (r i))) = some y'
    by_cases e : r i = r q
    · rw [e] at h1
      have : mrg (r p) (r q) (r i) = r p := by unfold mrg; rw [if_pos e]
      rw [if_pos this]; exact h1
    · have e2 : mrg (r p) (r q) (r i) = r i := by unfold mrg; rw [if_neg e]
      rw [e2]
      by_cases e3 : r i = r p
      · rw [e3, hn] at h1; cases h1
      · rw [if_neg e3]; exact h1
  · obtain ⟨y', h1, h2⟩ := h.car i x hc
    refine ⟨y', ?_, by show mrg _ _ (mrg _ _ (r x)) = mrg _ _ (mrg _ _ (r y')); rw [h2]⟩
    by_cases e : r i = r q
    · rw [e, hn] at h1; cases h1
    · show c (mrg (r p) (r q) (r i)) = some y'
      unfold mrg; rw [if_neg e]; exact h1
/-- At the end: one class just where they have to be the same; and what is carried. -/
theorem Cls.iff {S C : Nat → Nat → Prop} {r : Nat → Nat} {c : Nat → Option Nat} {z : Nat} (h : Cls S C r c z z) (i j : Nat) : r i = r j ↔ Eqv S C i j := by
  have hs : ∀ i j, S i j → r i = r j := fun i j e => by have := h.same i j e; rwa [mrg_self, mrg_self] at this
  have hc : ∀ i x, C i x → ∃ y, c (r i) = some y ∧ r x = r y := fun i x e => by
    obtain ⟨y, h1, h2⟩ := h.car i x e; rw [mrg_self, mrg_self] at h2; exact ⟨y, h1, h2⟩
  constructor
  · intro e
    exact (h.snd i).trans (by rw [e]; exact (h.snd j).symm)
  · intro e
    induction e with
    | base e => exact hs _ _ e
    | refl i => rfl
    | symm _ ih => exact ih.symm
    | trans _ _ ih ih2 => exact ih.trans ih2
    | carry a b _ ih =>
      obtain ⟨y1, p1, q1⟩ := hc _ _ a
      obtain ⟨y2, p2, q2⟩ := hc _ _ b
      rw [ih] at p1
      rw [p1] at p2; cases p2
      rw [q1, q2]
theorem Cls.carries {S C : Nat → Nat → Prop} {r : Nat → Nat} {c : Nat → Option Nat} {z : Nat} (h : Cls S C r c z z) (i : Nat) : (∀ x, c (r i) = some x → Car S C i x) ∧ (c (r i) = none → ∀ x, ¬ Car S C i x) := by
  refine ⟨h.sndc i, fun hn x hx => ?_⟩
  obtain ⟨i1, x1, c1, a1, b1⟩ := hx
  obtain ⟨y, h1, _⟩ := h.car i1 x1 c1
  rw [← (h.iff i i1).2 a1, hn] at h1
  cases h1
/-- One more pair to be the same. -/
theorem Cls.more {S C : Nat → Nat → Prop} {r : Nat → Nat} {c : Nat → Option Nat} {z : Nat} (h : Cls S C r c z z) (a b : Nat) : Cls (fun i j => S i j ∨ (i = a ∧ j = b)) C r c a b := by
  have up : ∀ {i j}, Eqv S C i j → Eqv (fun i j => S i j ∨ (i = a ∧ j = b)) C i j := fun e => e.mono (fun _ _ => .inl) (fun _ _ => id)
  refine ⟨h.idem, fun i => up (h.snd i), fun i x e => ?_, .base (.inr ⟨rfl, rfl⟩), fun i j hs => ?_, fun i x hc => ?_⟩
  · obtain ⟨i1, x1, c1, a1, b1⟩ := h.sndc i x e; exact ⟨i1, x1, c1, up a1, up b1⟩
  · rcases hs with hs | ⟨rfl, rfl⟩
    · have := h.same i j hs; rw [mrg_self, mrg_self] at this; rw [this]
    · unfold mrg; split <;> simp_all
  · obtain ⟨y, h1, h2⟩ := h.car i x hc
    rw [mrg_self, mrg_self] at h2
    exact ⟨y, h1, by rw [h2]⟩
/-- One more that carries: for the first time, or once more. -/
theorem Cls.first {S C : Nat → Nat → Prop} {r : Nat → Nat} {c : Nat → Option Nat} {z : Nat} (h : Cls S C r c z z) (a b : Nat) (hn : c (r a) = none) : Cls S (fun i j => C i j ∨ (i = a ∧ j = b)) r (fun k => if k = r a then some b else c k) z z := by
  have up : ∀ {i j}, Eqv S C i j → Eqv S (fun i j => C i j ∨ (i = a ∧ j = b)) i j := fun e => e.mono (fun _ _ => id) (fun _ _ => .inl)
  refine ⟨h.idem, fun i => up (h.snd i), fun i x e => ?_, .refl z, fun i j hs => h.same i j hs, fun i x hc => ?_⟩
  · have e : (if r i = r a then some b else c (r i)) = some x := e
    split at e
    · rename_i e1
      cases e
      exact ⟨a, b, .inr ⟨rfl, rfl⟩, up ((h.iff i a).1 e1), .refl b⟩
    · obtain ⟨i1, x1, c1, a1, b1⟩ := h.sndc i x e; exact ⟨i1, x1, .inl c1, up a1, up b1⟩
  · rcases hc with hc | ⟨rfl, rfl⟩
    · obtain ⟨y, h1, h2⟩ := h.car i x hc
      refine ⟨y, ?_, h2⟩
      show (if r i = r a then some b else c (r i)) = some y
      rw [if_neg (fun e => by rw [e, hn] at h1; cases h1)]; exact h1
    · exact ⟨x, by show (if r i = r i then some x else c (r i)) = some x; rw [if_pos rfl], rfl⟩
theorem Cls.again {S C : Nat → Nat → Prop} {r : Nat → Nat} {c : Nat → Option Nat} {z : Nat} (h : Cls S C r c z z) (a b y : Nat) (hy : c (r a) = some y) : Cls S (fun i j => C i j ∨ (i = a ∧ j = b)) r c y b := by
  have up : ∀ {i j}, Eqv S C i j → Eqv S (fun i j => C i j ∨ (i = a ∧ j = b)) i j := fun e => e.mono (fun _ _ => id) (fun _ _ => .inl)
  have upc : ∀ {i x}, Car S C i x → Car S (fun i j => C i j ∨ (i = a ∧ j = b)) i x := fun e => by
    obtain ⟨i1, x1, c1, a1, b1⟩ := e; exact ⟨i1, x1, .inl c1, up a1, up b1⟩
  refine ⟨h.idem, fun i => up (h.snd i), fun i x e => upc (h.sndc i x e), ?_, fun i j hs => ?_, fun i x hc => ?_⟩
  · exact (upc (h.sndc a y hy)).one ⟨a, b, .inr ⟨rfl, rfl⟩, .refl a, .refl b⟩ (.refl a)
  · have := h.same i j hs; rw [mrg_self, mrg_self] at this; rw [this]
  · rcases hc with hc | ⟨rfl, rfl⟩
    · obtain ⟨y', h1, h2⟩ := h.car i x hc
      rw [mrg_self, mrg_self] at h2
      exact ⟨y', h1, by rw [h2]⟩
    · exact ⟨y, hy, by unfold mrg; split <;> simp_all⟩
theorem Cls.start : Cls (fun _ _ => False) (fun _ _ => False) id (fun _ => none) 0 0 :=
  ⟨fun _ => rfl, fun i => .refl i, (fun i x e => by cases e), .refl 0, fun _ _ h => h.elim, fun _ _ h => h.elim⟩

/-- One goes on by carrying n times, and no further. -/
inductive Lev6 (S C : Nat → Nat → Prop) : Nat → Nat → Prop where
  | stop {i : Nat} : (∀ x, ¬ Car S C i x) → Lev6 S C i 0
  | on {i x n : Nat} : Car S C i x → Lev6 S C x n → Lev6 S C i (n + 1)
theorem Lev6.at_ {S C : Nat → Nat → Prop} {i n : Nat} (h : Lev6 S C i n) : ∀ {j : Nat}, Eqv S C i j → Lev6 S C j n := by
  cases h with
  | stop h => exact fun e => .stop fun x hx => h x (hx.at_ e (.refl x))
  | on c h => exact fun e => .on (c.at_ e.symm (.refl _)) h
theorem Lev6.one {S C : Nat → Nat → Prop} {i n : Nat} (h : Lev6 S C i n) : ∀ {m : Nat}, Lev6 S C i m → n = m := by
  induction h with
  | stop h =>
    intro m k
    cases k with
    | stop _ => rfl
    | on c _ => exact (h _ c).elim
  | on c h ih =>
    intro m k
    cases k with
    | stop k => exact (k _ c).elim
    | on c2 k => rw [ih (k.at_ (c2.one c (.refl _)))]
/-- The way from a class on, by what classes carry. -/
def chain (r : Nat → Nat) (c : Nat → Option Nat) : Nat → Nat → Option Nat
  | 0, k => some (r k)
  | n + 1, k => match c (r k) with
    | some x => chain r c n x
    | none => none
theorem Cls.lev {S C : Nat → Nat → Prop} {r : Nat → Nat} {c : Nat → Option Nat} {z : Nat} (h : Cls S C r c z z) : ∀ (n i : Nat), (∃ k, chain r c n i = some k ∧ c k = none) ↔ Lev6 S C i n
  | 0, i => by
    constructor
    · rintro ⟨k, e, hk⟩
      cases e
      exact .stop ((h.carries i).2 hk)
    · intro k
      cases k with
      | stop k =>
        refine ⟨r i, rfl, ?_⟩
        cases e : c (r i) with
        | none => rfl
        | some x => exact (k x ((h.carries i).1 x e)).elim
  | n + 1, i => by
    constructor
    · rintro ⟨k, e, hk⟩
      rw [chain] at e
      cases e1 : c (r i) with
      | none => rw [e1] at e; cases e
      | some x =>
        rw [e1] at e
        exact .on ((h.carries i).1 x e1) ((h.lev n x).1 ⟨k, e, hk⟩)
    · intro k
      cases k with
      | @on _ x _ cx hl =>
        cases e1 : c (r i) with
        | none => exact ((h.carries i).2 e1 x cx).elim
        | some y =>
          have hy := (h.carries i).1 y e1
          obtain ⟨k, e2, hk⟩ := (h.lev n y).2 (hl.at_ (cx.one hy (.refl i)))
          exact ⟨k, by rw [chain, e1]; exact e2, hk⟩

theorem pigeon : ∀ (N m : Nat) (f : Nat → Nat), (∀ t, t ≤ m → f t < N) → (∀ s t, s ≤ m → t ≤ m → f s = f t → s = t) → m + 1 ≤ N
  | 0, m, f, h, _ => absurd (h 0 (Nat.zero_le _)) (by omega)
  | N + 1, 0, f, _, _ => by omega
  | N + 1, m + 1, f, h, hi => by
    have := pigeon N m (fun t => if f t = N then f (m + 1) else f t) (fun t ht => by
      have h1 := h t (by omega)
      have h2 := h (m + 1) (by omega)
      show (if f t = N then f (m + 1) else f t) < N
      split
      · rename_i e
        rcases Nat.lt_or_ge (f (m + 1)) N with h3 | h3
        · exact h3
        · have := hi t (m + 1) (by omega) (by omega) (by omega); omega
      · omega) (fun s t hs ht e => by
      have e : (if f s = N then f (m + 1) else f s) = (if f t = N then f (m + 1) else f t) := e
      split at e <;> split at e
      · exact hi s t (by omega) (by omega) (by omega)
      · have := hi (m + 1) t (by omega) (by omega) e; omega
      · have := hi s (m + 1) (by omega) (by omega) e; omega
      · exact hi s t (by omega) (by omega) e)
    omega
/-- Levels are less than the number of sorts. -/
theorem Cls.lev_lt {S C : Nat → Nat → Prop} {r : Nat → Nat} {c : Nat → Option Nat} {z N : Nat} (h : Cls S C r c z z) (hr : ∀ i, i < N → r i < N) (hc : ∀ i x, C i x → i < N ∧ x < N) (hx : ∀ i x, c (r i) = some x → x < N) {i m : Nat} (hi : i < N) (hl : Lev6 S C i m) : m < N := by
  have ex : ∀ (m i : Nat), i < N → Lev6 S C i m → ∀ t, t ≤ m → ∃ k, k < N ∧ r k = k ∧ Lev6 S C k t := by
    intro m
    induction m with
    | zero =>
      intro i hi hl t ht
      obtain rfl : t = 0 := by omega
      exact ⟨r i, hr i hi, h.idem i, hl.at_ (h.snd i)⟩
    | succ m ih =>
      intro i hi hl t ht
      by_cases e : t = m + 1
      · subst e; exact ⟨r i, hr i hi, h.idem i, hl.at_ (h.snd i)⟩
      · cases hl with
        | @on _ x _ cx hl2 =>
          cases e1 : c (r i) with
          | none => exact ((h.carries i).2 e1 x cx).elim
          | some y => exact ih y (hx i y e1) (hl2.at_ (cx.one ((h.carries i).1 y e1) (.refl i))) t (by omega)
  have ex' : ∀ t, ∃ k, t ≤ m → k < N ∧ r k = k ∧ Lev6 S C k t := fun t => by
    by_cases ht : t ≤ m
    · obtain ⟨k, hk⟩ := ex m i hi hl t ht; exact ⟨k, fun _ => hk⟩
    · exact ⟨0, fun h => absurd h ht⟩
  let f : Nat → Nat := fun t => Classical.choose (ex' t)
  have hf : ∀ t, t ≤ m → f t < N ∧ r (f t) = f t ∧ Lev6 S C (f t) t := fun t => Classical.choose_spec (ex' t)
  have := pigeon N m f (fun t ht => (hf t ht).1) (fun s t hs ht e => by
    have h1 := (hf s hs).2.2
    rw [e] at h1
    exact h1.one (hf t ht).2.2)
  omega
end Go.Proofs.Ytdfelpahacmdpab.T1
