/- Texts of the proof, put together: Uf, Ug, Uh. No conditions. -/
import Derived.Test.YtlhmjcfnfefliaaGreatHav
import Derived.KernelRfl

/- Things that are the same because they have to be, and what they carry: joined class by class. Plain lemmas. -/
namespace Go.Proofs.YtlhmjcfnfefliaaGreat.T1
set_option linter.unusedVariables false
set_option linter.unusedSimpArgs false

/-- The same by some pairs, and by carrying: what one carries is one. -/
inductive Eqv (S C : Nat → Nat → Prop) : Nat → Nat → Prop where
  | base {i j : Nat} : S i j → Eqv S C i j
  | refl (i : Nat) : Eqv S C i i
  | symm {i j : Nat} : Eqv S C i j → Eqv S C j i
  | trans {i j k : Nat} : Eqv S C i j → Eqv S C j k → Eqv S C i k
  | carry {i j x y : Nat} : C i x → C j y → Eqv S C i j → Eqv S C x y
theorem Eqv.mono {S C S' C' : Nat → Nat → Prop} (hs : ∀ i j, S i j → S' i j) (hc : ∀ i j, C i j → C' i j) {i j : Nat} (h : Eqv S C i j) : Eqv S' C' i j := by
  induction h with
  | base h => exact .base (hs _ _ h)
  | refl i => exact .refl i
  | symm _ ih => exact .symm ih
  | trans _ _ ih ih2 => exact .trans ih ih2
  | carry a b _ ih => exact .carry (hc _ _ a) (hc _ _ b) ih
/-- Does i carry x, up to being the same? -/
def Car (S C : Nat → Nat → Prop) (i x : Nat) : Prop := ∃ i' x', C i' x' ∧ Eqv S C i i' ∧ Eqv S C x x'
theorem Car.one {S C : Nat → Nat → Prop} {i j x y : Nat} (h : Car S C i x) (k : Car S C j y) (e : Eqv S C i j) : Eqv S C x y := by
  obtain ⟨i1, x1, c1, a1, b1⟩ := h
  obtain ⟨i2, x2, c2, a2, b2⟩ := k
  exact b1.trans ((Eqv.carry c1 c2 (a1.symm.trans (e.trans a2))).trans b2.symm)
theorem Car.at_ {S C : Nat → Nat → Prop} {i j x y : Nat} (h : Car S C i x) (e : Eqv S C j i) (f : Eqv S C y x) : Car S C j y := by
  obtain ⟨i1, x1, c1, a1, b1⟩ := h
  exact ⟨i1, x1, c1, e.trans a1, f.trans b1⟩

/-- Class b becomes part of class a. -/
def mrg (a b z : Nat) : Nat := if z = b then a else z
theorem mrg_self (a z : Nat) : mrg a a z = z := by unfold mrg; split <;> simp_all
/-- Classes and what they carry, while two things (p and q) are still to be joined (p = q: nothing is). -/
structure Cls (S C : Nat → Nat → Prop) (r : Nat → Nat) (c : Nat → Option Nat) (p q : Nat) : Prop where
  idem : ∀ i, r (r i) = r i
  snd : ∀ i, Eqv S C i (r i)
  sndc : ∀ i x, c (r i) = some x → Car S C i x
  pend : Eqv S C p q
  same : ∀ i j, S i j → mrg (r p) (r q) (r i) = mrg (r p) (r q) (r j)
  car : ∀ i x, C i x → ∃ y, c (r i) = some y ∧ mrg (r p) (r q) (r x) = mrg (r p) (r q) (r y)
theorem Cls.done {S C : Nat → Nat → Prop} {r : Nat → Nat} {c : Nat → Option Nat} {p q : Nat} (h : Cls S C r c p q) (e : r p = r q) (z : Nat) : Cls S C r c z z := by
  have hm : ∀ t, mrg (r p) (r q) t = t := fun t => by rw [e]; exact mrg_self _ _
  refine ⟨h.idem, h.snd, h.sndc, .refl z, fun i j hs => ?_, fun i x hc => ?_⟩
  · have := h.same i j hs; rw [hm, hm] at this; rw [mrg_self, mrg_self]; exact this
  · obtain ⟨y, h1, h2⟩ := h.car i x hc
    rw [hm, hm] at h2
    exact ⟨y, h1, by rw [mrg_self, mrg_self]; exact h2⟩
/-- The two classes put together; what both carry is to be joined next. -/
theorem Cls.join {S C : Nat → Nat → Prop} {r : Nat → Nat} {c : Nat → Option Nat} {p q : Nat} (h : Cls S C r c p q) (hne : r p ≠ r q) :
    (∀ x y, c (r p) = some x → c (r q) = some y → Cls S C (fun i => mrg (r p) (r q) (r i)) c x y) ∧
    (c (r p) = none → ∀ z, Cls S C (fun i => mrg (r p) (r q) (r i)) (fun k => if k = r p then c (r q) else c k) z z) ∧
    (c (r q) = none → ∀ z, Cls S C (fun i => mrg (r p) (r q) (r i)) c z z) := by
  have hpq : Eqv S C (r p) (r q) := (h.snd p).symm.trans (h.pend.trans (h.snd q))
  have hid : ∀ i, mrg (r p) (r q) (r (mrg (r p) (r q) (r i))) = mrg (r p) (r q) (r i) := fun i => by
    unfold mrg
    by_cases e : r i = r q
    · simp [e, h.idem, hne]
    · simp [e, h.idem]
  have hsd : ∀ i, Eqv S C i (mrg (r p) (r q) (r i)) := fun i => by
    unfold mrg
    split
    · rename_i e; exact (h.snd i).trans (by rw [e]; exact hpq.symm)
    · exact h.snd i
  have hrr : ∀ i x, c (mrg (r p) (r q) (r i)) = some x → Car S C i x := fun i x e => by
    unfold mrg at e
    split at e
    · rename_i e1
      have := h.sndc p x (by rw [← e])
      exact this.at_ (((h.snd i).trans (by rw [e1]; exact hpq.symm)).trans (h.snd p).symm) (.refl x)
    · exact h.sndc i x e
  refine ⟨fun x y hx hy => ⟨hid, hsd, hrr, ?_, fun i j hs => by rw [h.same i j hs], fun i z hc => ?_⟩, fun hn z => ⟨hid, hsd, fun i x e => ?_, .refl z, fun i j hs => by rw [mrg_self, mrg_self]; exact h.same i j hs, fun i x hc => ?_⟩, fun hn z => ⟨hid, hsd, hrr, .refl z, fun i j hs => by rw [mrg_self, mrg_self]; exact h.same i j hs, fun i x hc => ?_⟩⟩
  · exact (h.sndc p x hx).one (h.sndc q y hy) h.pend
  · obtain ⟨y', h1, h2⟩ := h.car i z hc
    by_cases e : r i = r q
    · rw [e, hy] at h1
      cases h1
      refine ⟨x, by unfold mrg; rw [if_pos e]; exact hx, ?_⟩
      show mrg _ _ (mrg _ _ (r z)) = mrg _ _ (mrg _ _ (r x))
      rw [h2]
      generalize mrg (r p) (r q) (r x) = u
      generalize mrg (r p) (r q) (r y) = v
      unfold mrg; split <;> simp_all
    · exact ⟨y', by unfold mrg; rw [if_neg e]; exact h1, by show mrg _ _ (mrg _ _ (r z)) = mrg _ _ (mrg _ _ (r y')); rw [h2]⟩
  · show Car S C i x
    have e : (if mrg (r p) (r q) (r i) = r p then c (r q) else c (mrg (r p) (r q) (r i))) = some x := e
    split at e
    · rename_i e1
      refine (h.sndc q x e).at_ ?_ (.refl x)
      exact (hsd i).trans ((by rw [e1]; exact (h.snd p).symm : Eqv S C (mrg (r p) (r q) (r i)) p).trans h.pend)
    · exact hrr i x e
  · obtain ⟨y', h1, h2⟩ := h.car i x hc
    refine ⟨y', ?_, by show mrg _ _ (mrg _ _ (r x)) = mrg _ _ (mrg _ _ (r y')); rw [h2]⟩
    show (if mrg (r p) (r q) (r i) = r p then c (r q) else c (mrg (r p) (r q) (r i))) = some y'
    by_cases e : r i = r q
    · rw [e] at h1
      have : mrg (r p) (r q) (r i) = r p := by unfold mrg; rw [if_pos e]
      rw [if_pos this]; exact h1
    · have e2 : mrg (r p) (r q) (r i) = r i := by unfold mrg; rw [if_neg e]
      rw [e2]
      by_cases e3 : r i = r p
      · rw [e3, hn] at h1; cases h1
      · rw [if_neg e3]; exact h1
  · obtain ⟨y', h1, h2⟩ := h.car i x hc
    refine ⟨y', ?_, by show mrg _ _ (mrg _ _ (r x)) = mrg _ _ (mrg _ _ (r y')); rw [h2]⟩
    by_cases e : r i = r q
    · rw [e, hn] at h1; cases h1
    · show c (mrg (r p) (r q) (r i)) = some y'
      unfold mrg; rw [if_neg e]; exact h1
/-- At the end: one class just where they have to be the same; and what is carried. -/
theorem Cls.iff {S C : Nat → Nat → Prop} {r : Nat → Nat} {c : Nat → Option Nat} {z : Nat} (h : Cls S C r c z z) (i j : Nat) : r i = r j ↔ Eqv S C i j := by
  have hs : ∀ i j, S i j → r i = r j := fun i j e => by have := h.same i j e; rwa [mrg_self, mrg_self] at this
  have hc : ∀ i x, C i x → ∃ y, c (r i) = some y ∧ r x = r y := fun i x e => by
    obtain ⟨y, h1, h2⟩ := h.car i x e; rw [mrg_self, mrg_self] at h2; exact ⟨y, h1, h2⟩
  constructor
  · intro e
    exact (h.snd i).trans (by rw [e]; exact (h.snd j).symm)
  · intro e
    induction e with
    | base e => exact hs _ _ e
    | refl i => rfl
    | symm _ ih => exact ih.symm
    | trans _ _ ih ih2 => exact ih.trans ih2
    | carry a b _ ih =>
      obtain ⟨y1, p1, q1⟩ := hc _ _ a
      obtain ⟨y2, p2, q2⟩ := hc _ _ b
      rw [ih] at p1
      rw [p1] at p2; cases p2
      rw [q1, q2]
theorem Cls.carries {S C : Nat → Nat → Prop} {r : Nat → Nat} {c : Nat → Option Nat} {z : Nat} (h : Cls S C r c z z) (i : Nat) : (∀ x, c (r i) = some x → Car S C i x) ∧ (c (r i) = none → ∀ x, ¬ Car S C i x) := by
  refine ⟨h.sndc i, fun hn x hx => ?_⟩
  obtain ⟨i1, x1, c1, a1, b1⟩ := hx
  obtain ⟨y, h1, _⟩ := h.car i1 x1 c1
  rw [← (h.iff i i1).2 a1, hn] at h1
  cases h1
/-- One more pair to be the same. -/
theorem Cls.more {S C : Nat → Nat → Prop} {r : Nat → Nat} {c : Nat → Option Nat} {z : Nat} (h : Cls S C r c z z) (a b : Nat) : Cls (fun i j => S i j ∨ (i = a ∧ j = b)) C r c a b := by
  have up : ∀ {i j}, Eqv S C i j → Eqv (fun i j => S i j ∨ (i = a ∧ j = b)) C i j := fun e => e.mono (fun _ _ => .inl) (fun _ _ => id)
  refine ⟨h.idem, fun i => up (h.snd i), fun i x e => ?_, .base (.inr ⟨rfl, rfl⟩), fun i j hs => ?_, fun i x hc => ?_⟩
  · obtain ⟨i1, x1, c1, a1, b1⟩ := h.sndc i x e; exact ⟨i1, x1, c1, up a1, up b1⟩
  · rcases hs with hs | ⟨rfl, rfl⟩
    · have := h.same i j hs; rw [mrg_self, mrg_self] at this; rw [this]
    · unfold mrg; split <;> simp_all
  · obtain ⟨y, h1, h2⟩ := h.car i x hc
    rw [mrg_self, mrg_self] at h2
    exact ⟨y, h1, by rw [h2]⟩
/-- One more that carries: for the first time, or once more. -/
theorem Cls.first {S C : Nat → Nat → Prop} {r : Nat → Nat} {c : Nat → Option Nat} {z : Nat} (h : Cls S C r c z z) (a b : Nat) (hn : c (r a) = none) : Cls S (fun i j => C i j ∨ (i = a ∧ j = b)) r (fun k => if k = r a then some b else c k) z z := by
  have up : ∀ {i j}, Eqv S C i j → Eqv S (fun i j => C i j ∨ (i = a ∧ j = b)) i j := fun e => e.mono (fun _ _ => id) (fun _ _ => .inl)
  refine ⟨h.idem, fun i => up (h.snd i), fun i x e => ?_, .refl z, fun i j hs => h.same i j hs, fun i x hc => ?_⟩
  · have e : (if r i = r a then some b else c (r i)) = some x := e
    split at e
    · rename_i e1
      cases e
      exact ⟨a, b, .inr ⟨rfl, rfl⟩, up ((h.iff i a).1 e1), .refl b⟩
    · obtain ⟨i1, x1, c1, a1, b1⟩ := h.sndc i x e; exact ⟨i1, x1, .inl c1, up a1, up b1⟩
  · rcases hc with hc | ⟨rfl, rfl⟩
    · obtain ⟨y, h1, h2⟩ := h.car i x hc
      refine ⟨y, ?_, h2⟩
      show (if r i = r a then some b else c (r i)) = some y
      rw [if_neg (fun e => by rw [e, hn] at h1; cases h1)]; exact h1
    · exact ⟨x, by show (if r i = r i then some x else c (r i)) = some x; rw [if_pos rfl], rfl⟩
theorem Cls.again {S C : Nat → Nat → Prop} {r : Nat → Nat} {c : Nat → Option Nat} {z : Nat} (h : Cls S C r c z z) (a b y : Nat) (hy : c (r a) = some y) : Cls S (fun i j => C i j ∨ (i = a ∧ j = b)) r c y b := by
  have up : ∀ {i j}, Eqv S C i j → Eqv S (fun i j => C i j ∨ (i = a ∧ j = b)) i j := fun e => e.mono (fun _ _ => id) (fun _ _ => .inl)
  have upc : ∀ {i x}, Car S C i x → Car S (fun i j => C i j ∨ (i = a ∧ j = b)) i x := fun e => by
    obtain ⟨i1, x1, c1, a1, b1⟩ := e; exact ⟨i1, x1, .inl c1, up a1, up b1⟩
  refine ⟨h.idem, fun i => up (h.snd i), fun i x e => upc (h.sndc i x e), ?_, fun i j hs => ?_, fun i x hc => ?_⟩
  · exact (upc (h.sndc a y hy)).one ⟨a, b, .inr ⟨rfl, rfl⟩, .refl a, .refl b⟩ (.refl a)
  · have := h.same i j hs; rw [mrg_self, mrg_self] at this; rw [this]
  · rcases hc with hc | ⟨rfl, rfl⟩
    · obtain ⟨y', h1, h2⟩ := h.car i x hc
      rw [mrg_self, mrg_self] at h2
      exact ⟨y', h1, by rw [h2]⟩
    · exact ⟨y, hy, by unfold mrg; split <;> simp_all⟩
theorem Cls.start : Cls (fun _ _ => False) (fun _ _ => False) id (fun _ => none) 0 0 :=
  ⟨fun _ => rfl, fun i => .refl i, (fun i x e => by cases e), .refl 0, fun _ _ h => h.elim, fun _ _ h => h.elim⟩

/-- One goes on by carrying n times, and no further. -/
inductive Lev6 (S C : Nat → Nat → Prop) : Nat → Nat → Prop where
  | stop {i : Nat} : (∀ x, ¬ Car S C i x) → Lev6 S C i 0
  | on {i x n : Nat} : Car S C i x → Lev6 S C x n → Lev6 S C i (n + 1)
theorem Lev6.at_ {S C : Nat → Nat → Prop} {i n : Nat} (h : Lev6 S C i n) : ∀ {j : Nat}, Eqv S C i j → Lev6 S C j n := by
  cases h with
  | stop h => exact fun e => .stop fun x hx => h x (hx.at_ e (.refl x))
  | on c h => exact fun e => .on (c.at_ e.symm (.refl _)) h
theorem Lev6.one {S C : Nat → Nat → Prop} {i n : Nat} (h : Lev6 S C i n) : ∀ {m : Nat}, Lev6 S C i m → n = m := by
  induction h with
  | stop h =>
    intro m k
    cases k with
    | stop _ => rfl
    | on c _ => exact (h _ c).elim
  | on c h ih =>
    intro m k
    cases k with
    | stop k => exact (k _ c).elim
    | on c2 k => rw [ih (k.at_ (c2.one c (.refl _)))]
theorem pigeon : ∀ (N m : Nat) (f : Nat → Nat), (∀ t, t ≤ m → f t < N) → (∀ s t, s ≤ m → t ≤ m → f s = f t → s = t) → m + 1 ≤ N
  | 0, m, f, h, _ => absurd (h 0 (Nat.zero_le _)) (by omega)
  | N + 1, 0, f, _, _ => by omega
  | N + 1, m + 1, f, h, hi => by
    have := pigeon N m (fun t => if f t = N then f (m + 1) else f t) (fun t ht => by
      have h1 := h t (by omega)
      have h2 := h (m + 1) (by omega)
      show (if f t = N then f (m + 1) else f t) < N
      split
      · rename_i e
        rcases Nat.lt_or_ge (f (m + 1)) N with h3 | h3
        · exact h3
        · have := hi t (m + 1) (by omega) (by omega) (by omega); omega
      · omega) (fun s t hs ht e => by
      have e : (if f s = N then f (m + 1) else f s) = (if f t = N then f (m + 1) else f t) := e
      split at e <;> split at e
      · exact hi s t (by omega) (by omega) (by omega)
      · have := hi (m + 1) t (by omega) (by omega) e; omega
      · have := hi s (m + 1) (by omega) (by omega) e; omega
      · exact hi s t (by omega) (by omega) e)
    omega
/-- Levels are less than the number of sorts. -/
theorem Cls.lev_lt {S C : Nat → Nat → Prop} {r : Nat → Nat} {c : Nat → Option Nat} {z N : Nat} (h : Cls S C r c z z) (hr : ∀ i, i < N → r i < N) (hc : ∀ i x, C i x → i < N ∧ x < N) (hx : ∀ i x, c (r i) = some x → x < N) {i m : Nat} (hi : i < N) (hl : Lev6 S C i m) : m < N := by
  have ex : ∀ (m i : Nat), i < N → Lev6 S C i m → ∀ t, t ≤ m → ∃ k, k < N ∧ r k = k ∧ Lev6 S C k t := by
    intro m
    induction m with
    | zero =>
      intro i hi hl t ht
      obtain rfl : t = 0 := by omega
      exact ⟨r i, hr i hi, h.idem i, hl.at_ (h.snd i)⟩
    | succ m ih =>
      intro i hi hl t ht
      by_cases e : t = m + 1
      · subst e; exact ⟨r i, hr i hi, h.idem i, hl.at_ (h.snd i)⟩
      · cases hl with
        | @on _ x _ cx hl2 =>
          cases e1 : c (r i) with
          | none => exact ((h.carries i).2 e1 x cx).elim
          | some y => exact ih y (hx i y e1) (hl2.at_ (cx.one ((h.carries i).1 y e1) (.refl i))) t (by omega)
  have ex' : ∀ t, ∃ k, t ≤ m → k < N ∧ r k = k ∧ Lev6 S C k t := fun t => by
    by_cases ht : t ≤ m
    · obtain ⟨k, hk⟩ := ex m i hi hl t ht; exact ⟨k, fun _ => hk⟩
    · exact ⟨0, fun h => absurd h ht⟩
  let f : Nat → Nat := fun t => Classical.choose (ex' t)
  have hf : ∀ t, t ≤ m → f t < N ∧ r (f t) = f t ∧ Lev6 S C (f t) t := fun t => Classical.choose_spec (ex' t)
  have := pigeon N m f (fun t ht => (hf t ht).1) (fun s t hs ht e => by
    have h1 := (hf s hs).2.2
    rw [e] at h1
    exact h1.one (hf t ht).2.2)
  omega
end Go.Proofs.YtlhmjcfnfefliaaGreat.T1

/- What a process asks of sorts: who carries whom, and who is the same, each binder and each free name for itself. Plain lemmas. -/
namespace Go.Proofs.YtlhmjcfnfefliaaGreat.T1
set_option linter.unusedVariables false

def upd6 (f : UInt8 → Nat) (x : UInt8) (n : Nat) (y : UInt8) : Nat := if y = x then n else f y
/-- The askings in order ('true': carries), with the sort of each name, and the number of the next new sort. -/
def ask6 : Tm → (UInt8 → Nat) → Nat → List (Bool × Nat × Nat) × Nat
  | .nil, _, n => ([], n)
  | .snd a b p, f, n => ((true, f a, f b) :: (ask6 p f n).1, (ask6 p f n).2)
  | .rcv a x p, f, n => ((true, f a, n) :: (ask6 p (upd6 f x n) (n + 1)).1, (ask6 p (upd6 f x n) (n + 1)).2)
  | .tau p, f, n => ask6 p f n
  | .sum p q, f, n => ((ask6 p f n).1 ++ (ask6 q f (ask6 p f n).2).1, (ask6 q f (ask6 p f n).2).2)
  | .par p q, f, n => ((ask6 p f n).1 ++ (ask6 q f (ask6 p f n).2).1, (ask6 q f (ask6 p f n).2).2)
  | .own x p, f, n => ask6 p (upd6 f x n) (n + 1)
  | .mat a b p, f, n => ((false, f a, f b) :: (ask6 p f n).1, (ask6 p f n).2)
  | .rep p, f, n => ask6 p f n
theorem ask6_next : ∀ (t : Tm) (f : UInt8 → Nat) (n : Nat), n ≤ (ask6 t f n).2 ∧ (ask6 t f n).2 ≤ n + t.size
  | .nil, _, n => ⟨Nat.le_refl _, Nat.le_add_right _ _⟩
  | .snd a b p, f, n => by have := ask6_next p f n; simp only [ask6, Tm.size]; omega
  | .rcv a x p, f, n => by have := ask6_next p (upd6 f x n) (n + 1); simp only [ask6, Tm.size]; omega
  | .tau p, f, n => by have := ask6_next p f n; simp only [ask6, Tm.size]; omega
  | .sum p q, f, n => by have h1 := ask6_next p f n; have h2 := ask6_next q f (ask6 p f n).2; simp only [ask6, Tm.size]; omega
  | .par p q, f, n => by have h1 := ask6_next p f n; have h2 := ask6_next q f (ask6 p f n).2; simp only [ask6, Tm.size]; omega
  | .own x p, f, n => by have := ask6_next p (upd6 f x n) (n + 1); simp only [ask6, Tm.size]; omega
  | .mat a b p, f, n => by have := ask6_next p f n; simp only [ask6, Tm.size]; omega
  | .rep p, f, n => by have := ask6_next p f n; simp only [ask6, Tm.size]; omega
theorem ask6_lt : ∀ (t : Tm) (f : UInt8 → Nat) (n : Nat), (∀ c, c ∈ t.free → f c < n) → ∀ e ∈ (ask6 t f n).1, e.2.1 < (ask6 t f n).2 ∧ e.2.2 < (ask6 t f n).2 := by
  intro t
  induction t with
  | nil => intro f n _ e he; simp [ask6] at he
  | tau p ih => intro f n h; exact ih f n fun c hc => h c ((mf_tau _ _).2 hc)
  | rep p ih => intro f n h; exact ih f n fun c hc => h c ((mf_rep _ _).2 hc)
  | snd a b p ih =>
    intro f n h e he
    have hn := ask6_next p f n
    simp only [ask6, List.mem_cons] at he ⊢
    rcases he with rfl | he
    · have h1 := h a (by simp [mf_snd]); have h2 := h b (by simp [mf_snd]); exact ⟨by simp only []; omega, by simp only []; omega⟩
    · exact ih f n (fun c hc => h c (by simp [mf_snd, hc])) e he
  | mat a b p ih =>
    intro f n h e he
    have hn := ask6_next p f n
    simp only [ask6, List.mem_cons] at he ⊢
    rcases he with rfl | he
    · have h1 := h a (by simp [mf_mat]); have h2 := h b (by simp [mf_mat]); exact ⟨by simp only []; omega, by simp only []; omega⟩
    · exact ih f n (fun c hc => h c (by simp [mf_mat, hc])) e he
  | rcv a x p ih =>
    intro f n h e he
    have hn := ask6_next p (upd6 f x n) (n + 1)
    simp only [ask6, List.mem_cons] at he ⊢
    rcases he with rfl | he
    · have h1 := h a (by simp [mf_rcv]); exact ⟨by simp only []; omega, by simp only []; omega⟩
    · refine ih (upd6 f x n) (n + 1) (fun c hc => ?_) e he
      unfold upd6
      split
      · omega
      · rename_i hx; have := h c (by simp [mf_rcv, hc, hx]); omega
  | own x p ih =>
    intro f n h e he
    refine ih (upd6 f x n) (n + 1) (fun c hc => ?_) e he
    unfold upd6
    split
    · omega
    · rename_i hx; have := h c (by simp [mf_own, hc, hx]); omega
  | sum p q ih ih2 =>
    intro f n h e he
    have hn := ask6_next p f n
    have hn2 := ask6_next q f (ask6 p f n).2
    simp only [ask6, List.mem_append] at he ⊢
    rcases he with he | he
    · have := ih f n (fun c hc => h c (by simp [mf_sum, hc])) e he; omega
    · exact ih2 f _ (fun c hc => by have := h c (by simp [mf_sum, hc]); omega) e he
  | par p q ih ih2 =>
    intro f n h e he
    have hn := ask6_next p f n
    have hn2 := ask6_next q f (ask6 p f n).2
    simp only [ask6, List.mem_append] at he ⊢
    rcases he with he | he
    · have := ih f n (fun c hc => h c (by simp [mf_par, hc])) e he; omega
    · exact ih2 f _ (fun c hc => by have := h c (by simp [mf_par, hc]); omega) e he
/-- The same, and who carries, by a list of askings. -/
def S6 (l : List (Bool × Nat × Nat)) (i j : Nat) : Prop := (false, i, j) ∈ l
def C6 (l : List (Bool × Nat × Nat)) (i j : Nat) : Prop := (true, i, j) ∈ l
theorem S6_same (l : List (Bool × Nat × Nat)) (a b : Nat) : S6 (l ++ [(false, a, b)]) = fun i j => S6 l i j ∨ (i = a ∧ j = b) := by
  funext i j; simp [S6]
theorem C6_same (l : List (Bool × Nat × Nat)) (a b : Nat) : C6 (l ++ [(false, a, b)]) = C6 l := by
  funext i j; simp [C6]
theorem C6_carry (l : List (Bool × Nat × Nat)) (a b : Nat) : C6 (l ++ [(true, a, b)]) = fun i j => C6 l i j ∨ (i = a ∧ j = b) := by
  funext i j; simp [C6]
theorem S6_carry (l : List (Bool × Nat × Nat)) (a b : Nat) : S6 (l ++ [(true, a, b)]) = S6 l := by
  funext i j; simp [S6]
theorem S6_nil : S6 [] = fun _ _ => False := by funext i j; simp [S6]
theorem C6_nil : C6 [] = fun _ _ => False := by funext i j; simp [C6]
end Go.Proofs.YtlhmjcfnfefliaaGreat.T1

/- Sorts kept as numbers that lead to one another: the forest, joined step by step; levels; sorts numbered in another way. Plain lemmas. -/
namespace Go.Proofs.YtlhmjcfnfefliaaGreat.T1
set_option linter.unusedVariables false
set_option linter.unusedSimpArgs false

/-- Who leads to whom (f), and to whom in the end (r). -/
structure Rt (f r : Nat → Nat) : Prop where
  stop : ∀ k, f k = k → r k = k
  on : ∀ k, r (f k) = r k
  fix : ∀ k, f (r k) = r k
  low : ∃ d : Nat → Nat, ∀ k, f k ≠ k → d (f k) < d k
def up6 (f : Nat → Nat) (b a k : Nat) : Nat := if k = b then a else f k
def upC (c : Nat → Option Nat) (a : Nat) (v : Option Nat) (k : Nat) : Option Nat := if k = a then v else c k
theorem Rt.start : Rt id id := ⟨fun _ _ => rfl, fun _ => rfl, fun _ => rfl, fun _ => 0, fun _ h => (h rfl).elim⟩
theorem Rt.idem {f r : Nat → Nat} (h : Rt f r) (k : Nat) : r (r k) = r k := h.stop _ (h.fix k)
theorem Rt.join {f r : Nat → Nat} (h : Rt f r) {a b : Nat} (ha : r a = a) (hb : r b = b) (hne : a ≠ b) : Rt (up6 f b a) (fun i => mrg a b (r i)) := by
  obtain ⟨d, hd⟩ := h.low
  refine ⟨fun k e => ?_, fun k => ?_, fun k => ?_, fun i => d i + (if r i = b then d a + 1 else 0), fun k e => ?_⟩
  · unfold up6 at e
    split at e
    · rename_i hk; subst hk; exact (hne e).elim
    · rename_i hk
      have := h.stop k e
      show mrg a b (r k) = k
      unfold mrg; rw [this, if_neg hk]
  · show mrg a b (r (up6 f b a k)) = mrg a b (r k)
    unfold up6
    split
    · rename_i hk; subst hk; rw [ha, hb]; unfold mrg; simp
    · rw [h.on]
  · show up6 f b a (mrg a b (r k)) = mrg a b (r k)
    unfold up6 mrg
    by_cases e : r k = b
    · rw [if_pos e, if_neg hne]; have := h.fix a; rwa [ha] at this
    · rw [if_neg e, if_neg e, h.fix]
  · unfold up6 at e ⊢
    by_cases hk : k = b
    · subst hk
      simp only [if_pos]
      have h1 : r a ≠ k := by rw [ha]; exact hne
      rw [if_neg h1, if_pos hb]; omega
    · simp only [if_neg hk] at e ⊢
      have := hd k e
      rw [h.on]
      omega
theorem Rt.lt {f r : Nat → Nat} {N : Nat} (h : Rt f r) (hf : ∀ k, k < N → f k < N) : ∀ k, k < N → r k < N := by
  obtain ⟨d, hd⟩ := h.low
  have : ∀ n k, d k ≤ n → k < N → r k < N := by
    intro n
    induction n with
    | zero =>
      intro k hk hN
      by_cases e : f k = k
      · rw [h.stop k e]; exact hN
      · have := hd k e; omega
    | succ n ih =>
      intro k hk hN
      by_cases e : f k = k
      · rw [h.stop k e]; exact hN
      · rw [← h.on]; exact ih _ (by have := hd k e; omega) (hf k hN)
  exact fun k hN => this (d k) k (Nat.le_refl _) hN

/-- How many tell for all. -/
def num6 (f : Nat → Nat) (N : Nat) : Nat := (List.range N).countP fun k => f k == k
theorem num6_le (f : Nat → Nat) (N : Nat) : num6 f N ≤ N := by
  have : num6 f N ≤ (List.range N).length := List.countP_le_length
  rwa [List.length_range] at this
theorem num6_succ (f : Nat → Nat) (N : Nat) : num6 f (N + 1) = num6 f N + (if f N = N then 1 else 0) := by
  unfold num6
  rw [List.range_succ, List.countP_append]
  congr 1
  by_cases h : f N = N <;> simp [h]
theorem num6_same {f g : Nat → Nat} : ∀ (N : Nat), (∀ k, k < N → f k = g k) → num6 f N = num6 g N
  | 0, _ => rfl
  | N + 1, h => by rw [num6_succ, num6_succ, num6_same N (fun k hk => h k (by omega)), h N (by omega)]
theorem num6_up {f : Nat → Nat} {b a : Nat} (hb : f b = b) (hne : a ≠ b) : ∀ (N : Nat), b < N → num6 (up6 f b a) N + 1 = num6 f N
  | 0, h => by omega
  | N + 1, h => by
    rw [num6_succ, num6_succ]
    by_cases e : b = N
    · subst e
      rw [num6_same b (f := up6 f b a) (g := f) (fun k hk => by unfold up6; rw [if_neg (by omega)])]
      rw [if_pos hb, if_neg (by unfold up6; rw [if_pos rfl]; exact hne)]
    · have := num6_up hb hne N (by omega)
      have e2 : up6 f b a N = f N := by unfold up6; rw [if_neg (by omega)]
      rw [e2]; omega

/-- N sorts as numbers: who leads to whom, and what they carry; p and q are still to be joined. -/
structure St6 (S C : Nat → Nat → Prop) (N : Nat) (f r : Nat → Nat) (c : Nat → Option Nat) (p q : Nat) : Prop where
  rt : Rt f r
  cls : Cls S C r c p q
  lt : ∀ k, k < N → f k < N
  out : ∀ k, N ≤ k → f k = k ∧ c k = none
  clt : ∀ k x, c k = some x → x < N
section
variable {S C : Nat → Nat → Prop} {N : Nat} {f r : Nat → Nat} {c : Nat → Option Nat} {p q z : Nat}
theorem St6.start : St6 (fun _ _ => False) (fun _ _ => False) 0 id id (fun _ => none) 0 0 :=
  ⟨Rt.start, Cls.start, fun k h => by omega, fun _ _ => ⟨rfl, rfl⟩, fun _ _ h => by cases h⟩
theorem St6.rlt (h : St6 S C N f r c p q) {k : Nat} (hk : k < N) : r k < N := h.rt.lt h.lt k hk
theorem St6.fresh (h : St6 S C N f r c p q) : St6 S C (N + 1) f r c p q :=
  ⟨h.rt, h.cls, fun k hk => by
    by_cases e : k = N
    · subst e; rw [(h.out k (Nat.le_refl _)).1]; omega
    · have := h.lt k (by omega); omega, fun k hk => h.out k (by omega), fun k x e => by have := h.clt k x e; omega⟩
theorem St6.any (h : St6 S C N f r c z z) (y : Nat) : St6 S C N f r c y y := ⟨h.rt, h.cls.done rfl y, h.lt, h.out, h.clt⟩
theorem St6.done (h : St6 S C N f r c p q) (e : r p = r q) (y : Nat) : St6 S C N f r c y y := ⟨h.rt, h.cls.done e y, h.lt, h.out, h.clt⟩
theorem St6.step (h : St6 S C N f r c p q) (hp : p < N) (hq : q < N) (hne : r p ≠ r q) :
    (∀ x y, c (r p) = some x → c (r q) = some y → St6 S C N (up6 f (r q) (r p)) (fun i => mrg (r p) (r q) (r i)) c x y) ∧
    (c (r p) = none → ∀ y, St6 S C N (up6 f (r q) (r p)) (fun i => mrg (r p) (r q) (r i)) (upC c (r p) (c (r q))) y y) ∧
    (c (r q) = none → ∀ y, St6 S C N (up6 f (r q) (r p)) (fun i => mrg (r p) (r q) (r i)) c y y) := by
  have hr : Rt (up6 f (r q) (r p)) (fun i => mrg (r p) (r q) (r i)) := h.rt.join (h.rt.idem p) (h.rt.idem q) hne
  have hl : ∀ k, k < N → up6 f (r q) (r p) k < N := fun k hk => by
    unfold up6; split
    · exact h.rlt hp
    · exact h.lt k hk
  have ho : ∀ k, N ≤ k → up6 f (r q) (r p) k = k := fun k hk => by
    have := h.rlt hq
    unfold up6; rw [if_neg (by omega)]; exact (h.out k hk).1
  have hc := h.cls.join hne
  refine ⟨fun x y hx hy => ⟨hr, hc.1 x y hx hy, hl, fun k hk => ⟨ho k hk, (h.out k hk).2⟩, h.clt⟩, fun hn y => ⟨hr, hc.2.1 hn y, hl, fun k hk => ⟨ho k hk, ?_⟩, fun k x e => ?_⟩, fun hn y => ⟨hr, hc.2.2 hn y, hl, fun k hk => ⟨ho k hk, (h.out k hk).2⟩, h.clt⟩⟩
  · have := h.rlt hp
    unfold upC; rw [if_neg (by omega)]; exact (h.out k hk).2
  · unfold upC at e; split at e
    · exact h.clt _ x e
    · exact h.clt _ x e
theorem St6.fewer (h : St6 S C N f r c p q) (hq : q < N) (hne : r p ≠ r q) : num6 (up6 f (r q) (r p)) N + 1 = num6 f N :=
  num6_up (h.rt.fix q) hne N (h.rlt hq)
theorem St6.more (h : St6 S C N f r c z z) (a b : Nat) : St6 (fun i j => S i j ∨ (i = a ∧ j = b)) C N f r c a b := ⟨h.rt, h.cls.more a b, h.lt, h.out, h.clt⟩
theorem St6.first (h : St6 S C N f r c z z) {a b : Nat} (ha : a < N) (hb : b < N) (hn : c (r a) = none) : St6 S (fun i j => C i j ∨ (i = a ∧ j = b)) N f r (upC c (r a) (some b)) z z :=
  ⟨h.rt, h.cls.first a b hn, h.lt, fun k hk => ⟨(h.out k hk).1, by have := h.rlt ha; unfold upC; rw [if_neg (by omega)]; exact (h.out k hk).2⟩, fun k x e => by
    unfold upC at e; split at e
    · cases e; exact hb
    · exact h.clt k x e⟩
theorem St6.again (h : St6 S C N f r c z z) {a b y : Nat} (hy : c (r a) = some y) : St6 S (fun i j => C i j ∨ (i = a ∧ j = b)) N f r c y b := ⟨h.rt, h.cls.again a b y hy, h.lt, h.out, h.clt⟩
theorem St6.same_iff (h : St6 S C N f r c z z) (i j : Nat) : r i = r j ↔ Eqv S C i j := h.cls.iff i j
theorem St6.lev_stop (h : St6 S C N f r c z z) {k : Nat} (hn : c (r k) = none) : Lev6 S C k 0 := .stop ((h.cls.carries k).2 hn)
theorem St6.lev_on (h : St6 S C N f r c z z) {k x : Nat} (hx : c (r k) = some x) (m : Nat) : Lev6 S C k m ↔ ∃ j, m = j + 1 ∧ Lev6 S C x j := by
  have hc := (h.cls.carries k).1 x hx
  constructor
  · intro hl
    cases hl with
    | stop hn => exact (hn x hc).elim
    | @on _ y n cy hy => exact ⟨n, rfl, hy.at_ (cy.one hc (.refl k))⟩
  · rintro ⟨j, rfl, hj⟩
    exact .on hc hj
/-- A way of n steps from k0 to k by what is carried. -/
def Way6 (S C : Nat → Nat → Prop) (k0 n k : Nat) : Prop := ∀ m, Lev6 S C k0 m ↔ ∃ j, m = n + j ∧ Lev6 S C k j
theorem Way6.start (S C : Nat → Nat → Prop) (k : Nat) : Way6 S C k 0 k := fun m => ⟨fun h => ⟨m, by omega, h⟩, fun ⟨j, e, h⟩ => by rw [show m = j by omega]; exact h⟩
theorem Way6.on {k0 n k x : Nat} (w : Way6 S C k0 n k) (h : St6 S C N f r c z z) (hx : c (r k) = some x) : Way6 S C k0 (n + 1) x := fun m => by
  rw [w m]
  constructor
  · rintro ⟨j, rfl, hj⟩
    obtain ⟨i, rfl, hi⟩ := (h.lev_on hx j).1 hj
    exact ⟨i, by omega, hi⟩
  · rintro ⟨j, rfl, hj⟩
    exact ⟨j + 1, by omega, (h.lev_on hx _).2 ⟨j, rfl, hj⟩⟩
theorem Way6.at_ {k0 n k x : Nat} (w : Way6 S C k0 n k) (e : Eqv S C k x) : Way6 S C k0 n x := fun m => by
  rw [w m]
  exact ⟨fun ⟨j, h1, h2⟩ => ⟨j, h1, h2.at_ e⟩, fun ⟨j, h1, h2⟩ => ⟨j, h1, h2.at_ e.symm⟩⟩
theorem Way6.end_ {k0 n k : Nat} (w : Way6 S C k0 n k) (h : St6 S C N f r c z z) (hn : c (r k) = none) : Lev6 S C k0 n := (w n).2 ⟨0, rfl, h.lev_stop hn⟩
theorem Way6.none_ {k0 n k : Nat} (w : Way6 S C k0 n k) (h : St6 S C N f r c z z) (hC : ∀ i x, C i x → i < N ∧ x < N) (hk : k0 < N) (hn : N ≤ n) (m : Nat) : ¬ Lev6 S C k0 m := fun hl => by
  obtain ⟨j, rfl, _⟩ := (w m).1 hl
  have := h.cls.lev_lt (fun i hi => h.rlt hi) hC (fun i x e => h.clt _ x e) hk hl
  omega
end

/-- The askings depend on free names alone. -/
theorem ask6_congr : ∀ (t : Tm) (f g : UInt8 → Nat) (n : Nat), (∀ c, c ∈ t.free → f c = g c) → ask6 t f n = ask6 t g n := by
  intro t
  induction t with
  | nil => intro f g n _; rfl
  | tau p ih => intro f g n h; exact ih f g n fun c hc => h c ((mf_tau _ _).2 hc)
  | rep p ih => intro f g n h; exact ih f g n fun c hc => h c ((mf_rep _ _).2 hc)
  | snd a b p ih =>
    intro f g n h
    simp only [ask6]
    rw [ih f g n (fun c hc => h c (by simp [mf_snd, hc])), h a (by simp [mf_snd]), h b (by simp [mf_snd])]
  | mat a b p ih =>
    intro f g n h
    simp only [ask6]
    rw [ih f g n (fun c hc => h c (by simp [mf_mat, hc])), h a (by simp [mf_mat]), h b (by simp [mf_mat])]
  | rcv a x p ih =>
    intro f g n h
    simp only [ask6]
    have e := ih (upd6 f x n) (upd6 g x n) (n + 1) (fun c hc => by
      unfold upd6; split
      · rfl
      · rename_i hx; exact h c (by simp [mf_rcv, hc, hx]))
    rw [e, h a (by simp [mf_rcv])]
  | own x p ih =>
    intro f g n h
    simp only [ask6]
    exact ih (upd6 f x n) (upd6 g x n) (n + 1) (fun c hc => by
      unfold upd6; split
      · rfl
      · rename_i hx; exact h c (by simp [mf_own, hc, hx]))
  | sum p q ih ih2 =>
    intro f g n h
    simp only [ask6]
    rw [ih f g n (fun c hc => h c (by simp [mf_sum, hc])), ih2 f g _ (fun c hc => h c (by simp [mf_sum, hc]))]
  | par p q ih ih2 =>
    intro f g n h
    simp only [ask6]
    rw [ih f g n (fun c hc => h c (by simp [mf_par, hc])), ih2 f g _ (fun c hc => h c (by simp [mf_par, hc]))]
def mp6 (φ : Nat → Nat) (e : Bool × Nat × Nat) : Bool × Nat × Nat := (e.1, φ e.2.1, φ e.2.2)
theorem upd6_map (φ : Nat → Nat) (f : UInt8 → Nat) (x : UInt8) (n : Nat) : upd6 (fun c => φ (f c)) x (φ n) = fun c => φ (upd6 f x n c) := by
  funext c; unfold upd6; split <;> rfl
/-- Sorts numbered in another way. -/
theorem ask6_map (φ : Nat → Nat) (n0 : Nat) (hφ : ∀ k, n0 ≤ k → φ (k + 1) = φ k + 1) : ∀ (t : Tm) (f : UInt8 → Nat) (n : Nat), n0 ≤ n → ask6 t (fun c => φ (f c)) (φ n) = ((ask6 t f n).1.map (mp6 φ), φ (ask6 t f n).2) := by
  intro t
  induction t with
  | nil => intro f n _; rfl
  | tau p ih => intro f n h; exact ih f n h
  | rep p ih => intro f n h; exact ih f n h
  | snd a b p ih => intro f n h; simp only [ask6, ih f n h, List.map_cons, mp6]
  | mat a b p ih => intro f n h; simp only [ask6, ih f n h, List.map_cons, mp6]
  | rcv a x p ih =>
    intro f n h
    simp only [ask6, upd6_map]
    rw [← hφ n h, ih (upd6 f x n) (n + 1) (by omega)]
    simp only [List.map_cons, mp6]
  | own x p ih =>
    intro f n h
    simp only [ask6, upd6_map]
    rw [← hφ n h, ih (upd6 f x n) (n + 1) (by omega)]
  | sum p q ih ih2 =>
    intro f n h
    simp only [ask6]
    have hn := (ask6_next p f n).1
    rw [ih f n h, ih2 f _ (by omega), List.map_append]
  | par p q ih ih2 =>
    intro f n h
    simp only [ask6]
    have hn := (ask6_next p f n).1
    rw [ih f n h, ih2 f _ (by omega), List.map_append]
section
variable {φ : Nat → Nat} {l : List (Bool × Nat × Nat)}
theorem S6_map {x y : Nat} : S6 (l.map (mp6 φ)) x y ↔ ∃ i j, x = φ i ∧ y = φ j ∧ S6 l i j := by
  unfold S6
  rw [List.mem_map]
  constructor
  · rintro ⟨⟨b, i, j⟩, h, e⟩
    simp only [mp6, Prod.mk.injEq] at e
    obtain ⟨rfl, rfl, rfl⟩ := e
    exact ⟨i, j, rfl, rfl, h⟩
  · rintro ⟨i, j, rfl, rfl, h⟩
    exact ⟨_, h, rfl⟩
theorem C6_map {x y : Nat} : C6 (l.map (mp6 φ)) x y ↔ ∃ i j, x = φ i ∧ y = φ j ∧ C6 l i j := by
  unfold C6
  rw [List.mem_map]
  constructor
  · rintro ⟨⟨b, i, j⟩, h, e⟩
    simp only [mp6, Prod.mk.injEq] at e
    obtain ⟨rfl, rfl, rfl⟩ := e
    exact ⟨i, j, rfl, rfl, h⟩
  · rintro ⟨i, j, rfl, rfl, h⟩
    exact ⟨_, h, rfl⟩
theorem Eqv.mapped {i j : Nat} (h : Eqv (S6 l) (C6 l) i j) : Eqv (S6 (l.map (mp6 φ))) (C6 (l.map (mp6 φ))) (φ i) (φ j) := by
  induction h with
  | base h => exact .base (S6_map.2 ⟨_, _, rfl, rfl, h⟩)
  | refl i => exact .refl _
  | symm _ ih => exact .symm ih
  | trans _ _ ih ih2 => exact .trans ih ih2
  | carry a b _ ih => exact .carry (C6_map.2 ⟨_, _, rfl, rfl, a⟩) (C6_map.2 ⟨_, _, rfl, rfl, b⟩) ih
theorem Eqv.back (hi : ∀ i j, φ i = φ j → i = j) {x y : Nat} (h : Eqv (S6 (l.map (mp6 φ))) (C6 (l.map (mp6 φ))) x y) : x = y ∨ ∃ i j, x = φ i ∧ y = φ j ∧ Eqv (S6 l) (C6 l) i j := by
  induction h with
  | base h => obtain ⟨i, j, rfl, rfl, h2⟩ := S6_map.1 h; exact .inr ⟨i, j, rfl, rfl, .base h2⟩
  | refl i => exact .inl rfl
  | symm _ ih =>
    rcases ih with rfl | ⟨i, j, rfl, rfl, h⟩
    · exact .inl rfl
    · exact .inr ⟨j, i, rfl, rfl, h.symm⟩
  | trans _ _ ih ih2 =>
    rcases ih with rfl | ⟨i, j, rfl, rfl, h⟩
    · exact ih2
    · rcases ih2 with e | ⟨i2, j2, e, rfl, h2⟩
      · exact .inr ⟨i, j, rfl, e.symm, h⟩
      · have := hi _ _ e; subst this; exact .inr ⟨i, j2, rfl, rfl, h.trans h2⟩
  | carry a b _ ih =>
    obtain ⟨i1, x1, rfl, rfl, c1⟩ := C6_map.1 a
    obtain ⟨i2, x2, rfl, rfl, c2⟩ := C6_map.1 b
    rcases ih with e | ⟨i, j, e1, e2, h⟩
    · have := hi _ _ e; subst this; exact .inr ⟨x1, x2, rfl, rfl, .carry c1 c2 (.refl _)⟩
    · have h1 := hi _ _ e1; have h2 := hi _ _ e2; subst h1; subst h2
      exact .inr ⟨x1, x2, rfl, rfl, .carry c1 c2 h⟩
theorem Eqv.map_iff (hi : ∀ i j, φ i = φ j → i = j) (i j : Nat) : Eqv (S6 (l.map (mp6 φ))) (C6 (l.map (mp6 φ))) (φ i) (φ j) ↔ Eqv (S6 l) (C6 l) i j := by
  constructor
  · intro h
    rcases h.back hi with e | ⟨i2, j2, e1, e2, h⟩
    · rw [hi _ _ e]; exact .refl _
    · rw [hi _ _ e1, hi _ _ e2]; exact h
  · exact Eqv.mapped
theorem Car.map_iff (hi : ∀ i j, φ i = φ j → i = j) (i j : Nat) : Car (S6 (l.map (mp6 φ))) (C6 (l.map (mp6 φ))) (φ i) (φ j) ↔ Car (S6 l) (C6 l) i j := by
  constructor
  · rintro ⟨a, b, c, h1, h2⟩
    obtain ⟨a, b, rfl, rfl, c2⟩ := C6_map.1 c
    exact ⟨a, b, c2, (Eqv.map_iff hi _ _).1 h1, (Eqv.map_iff hi _ _).1 h2⟩
  · rintro ⟨a, b, c, h1, h2⟩
    exact ⟨_, _, C6_map.2 ⟨a, b, rfl, rfl, c⟩, h1.mapped, h2.mapped⟩
theorem Lev6.map_iff (hi : ∀ i j, φ i = φ j → i = j) : ∀ (m i : Nat), Lev6 (S6 (l.map (mp6 φ))) (C6 (l.map (mp6 φ))) (φ i) m ↔ Lev6 (S6 l) (C6 l) i m
  | 0, i => by
    constructor
    · intro h
      cases h with
      | stop h => exact .stop fun x hx => h _ ((Car.map_iff hi i x).2 hx)
    · intro h
      cases h with
      | stop h =>
        refine .stop fun x hx => ?_
        obtain ⟨a, b, c, h1, h2⟩ := hx
        obtain ⟨a, b, rfl, rfl, c2⟩ := C6_map.1 c
        exact h b ⟨a, b, c2, (Eqv.map_iff hi _ _).1 h1, .refl _⟩
  | m + 1, i => by
    constructor
    · intro h
      cases h with
      | @on _ x _ cx hx =>
        obtain ⟨a, b, c, h1, h2⟩ := cx
        obtain ⟨a, b, rfl, rfl, c2⟩ := C6_map.1 c
        exact .on ⟨a, b, c2, (Eqv.map_iff hi _ _).1 h1, .refl _⟩ ((Lev6.map_iff hi m b).1 (hx.at_ h2))
    · intro h
      cases h with
      | @on _ x _ cx hx => exact .on ((Car.map_iff hi i x).2 cx) ((Lev6.map_iff hi m x).2 hx)
theorem Lev6.outside {S C : Nat → Nat → Prop} {N x : Nat} (hS : ∀ i j, S i j → i < N ∧ j < N) (hC : ∀ i j, C i j → i < N ∧ j < N) (hx : N ≤ x) : Lev6 S C x 0 := by
  have key : ∀ {a b : Nat}, Eqv S C a b → a = b ∨ (a < N ∧ b < N) := by
    intro a b h
    induction h with
    | base h => exact .inr (hS _ _ h)
    | refl i => exact .inl rfl
    | symm _ ih => omega
    | trans _ _ ih ih2 => omega
    | carry a b _ ih => exact .inr ⟨(hC _ _ a).2, (hC _ _ b).2⟩
  refine .stop fun y hy => ?_
  obtain ⟨a, b, c, h1, _⟩ := hy
  have := hC _ _ c
  have := key h1
  omega
end
end Go.Proofs.YtlhmjcfnfefliaaGreat.T1
