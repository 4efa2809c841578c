/- Sorts kept as numbers that lead to one another: the forest, joined step by step; levels; sorts numbered in another way. Plain lemmas. -/
import Derived.Test.YtdfelpahacmdpabUf
import Derived.Test.YtdfelpahacmdpabUg
namespace Go.Proofs.Ytdfelpahacmdpab.T1
set_option linter.unusedVariables false
set_option linter.unusedSimpArgs false

/-- Who leads to whom (f), and to whom in the end (r). -/
structure Rt (f r : Nat → Nat) : Prop where
  stop : ∀ k, f k = k → r k = k
  on : ∀ k, r (f k) = r k
  fix : ∀ k, f (r k) = r k
  low : ∃ d : Nat → Nat, ∀ k, f k ≠ k → d (f k) < d k
def up6 (f : Nat → Nat) (b a k : Nat) : Nat := if k = b then a else f k
def upC (c : Nat → Option Nat) (a : Nat) (v : Option Nat) (k : Nat) : Option Nat := if k = a then v else c k
theorem Rt.start : Rt id id := ⟨fun _ _ => rfl, fun _ => rfl, fun _ => rfl, fun _ => 0, fun _ h => (h rfl).elim⟩
theorem Rt.idem {f r : Nat → Nat} (h : Rt f r) (k : Nat) : r (r k) = r k := h.stop _ (h.fix k)
theorem Rt.join {f r : Nat → Nat} (h : Rt f r) {a b : Nat} (ha : r a = a) (hb : r b = b) (hne : a ≠ b) : Rt (up6 f b a) (fun i => mrg a b (r i)) := by
  obtain ⟨d, hd⟩ := h.low
  refine ⟨fun k e => ?_, fun k => ?_, fun k => ?_, fun i => d i + (if r i = b then d a + 1 else 0), fun k e => ?_⟩
  · unfold up6 at e
    split at e
    · rename_i hk; subst hk; exact (hne e).elim
    · rename_i hk
      have := h.stop k e
      show mrg a b (r k) = k
      unfold mrg; rw [this, if_neg hk]
  · show mrg a b (r (up6 f b a k)) = mrg a b (r k)
    unfold up6
    split
    · rename_i hk; subst hk; rw [ha, hb]; unfold mrg; simp
    · rw [h.on]
  · show up6 f b a (mrg a b (r k)) = mrg a b (r k)
    unfold up6 mrg
    by_cases e : r k = b
    · rw [if_pos e, if_neg hne]; have := h.fix a; rwa [ha] at this
    · rw [if_neg e, if_neg e, h.fix]
  · unfold up6 at e ⊢
    by_cases hk : k = b
    · subst hk
      simp only [if_pos]
      have h1 : r a ≠ k := by rw [ha]; exact hne
      rw [if_neg h1, if_pos hb]; omega
    · simp only [if_neg hk] at e ⊢
      have := hd k e
      rw [h.on]
      omega
theorem Rt.lt {f r : Nat → Nat} {N : Nat} (h : Rt f r) (hf : ∀ k, k < N → f k < N) : ∀ k, k < N → r k < N := by
  obtain ⟨d, hd⟩ := h.low
  have : ∀ n k, d k ≤ n → k < N → r k < N := by
    intro n
    induction n with
    | zero =>
      intro k hk hN
      by_cases e : f k = k
      · rw [h.stop k e]; exact hN
      · have := hd k e; omega
    | succ n ih =>
      intro k hk hN
      by_cases e : f k = k
      · rw [h.stop k e]; exact hN
      · rw [← h.on]; exact ih _ (by have := hd k e; omega) (hf k hN)
  exact fun k hN => this (d k) k (Nat.le_refl _) hN

/-- How many tell for all. -/
def num6 (f : Nat → Nat) (N : Nat) : Nat := (List.range N).countP fun k => f k == k
theorem num6_le (f : Nat → Nat) (N : Nat) : num6 f N ≤ N := by
  have : num6 f N ≤ (List.range N).length := List.countP_le_length
  rwa [List.length_range] at this
theorem num6_succ (f : Nat → Nat) (N : Nat) : num6 f (N + 1) = num6 f N + (if f N = N then 1 else 0) := by
  unfold num6
  rw [List.range_succ, List.countP_append]
  congr 1
  by_cases h : f N = N <;> simp [h]
theorem num6_same {f g : Nat → Nat} : ∀ (N : Nat), (∀ k, k < N → f k = g k) → num6 f N = num6 g N
  | 0, _ => rfl
  | N + 1, h => by rw [num6_succ, num6_succ, num6_same N (fun k hk => h k (by omega)), h N (by omega)]
theorem num6_up {f : Nat → Nat} {b a : Nat} (hb : f b = b) (hne : a ≠ b) : ∀ (N : Nat), b < N → num6 (up6 f b a) N + 1 = num6 f N
  | 0, h => by omega
  | N + 1, h => by
    rw [num6_succ, num6_succ]
    by_cases e : b = N
    · subst e
      rw [num6_same b (f := up6 f b a) (g := f) (fun k hk => by unfold up6; rw [if_neg (by omega)])]
      rw [if_pos hb, if_neg (by unfold up6; rw [if_pos rfl]; exact hne)]
    · have := num6_up hb hne N (by omega)
      have e2 : up6 f b a N = f N := by unfold up6; rw [if_neg (by omega)]
      rw [e2]; omega

/-- N sorts as numbers: who leads to whom, and what they carry; p and q are still to be joined. -/
structure St6 (S C : Nat → Nat → Prop) (N : Nat) (f r : Nat → Nat) (c : Nat → Option Nat) (p q : Nat) : Prop where
  rt : Rt f r
  cls : Cls S C r c p q
  lt : ∀ k, k < N → f k < N
  out : ∀ k, N ≤ k → f k = k ∧ c k = none
  clt : ∀ k x, c k = some x → x < N
section
variable {S C : Nat → Nat → Prop} {N : Nat} {f r : Nat → Nat} {c : Nat → Option Nat} {p q z : Nat}
theorem St6.start : St6 (fun _ _ => False) (fun _ _ => False) 0 id id (fun _ => none) 0 0 :=
  ⟨Rt.start, Cls.start, fun k h => by omega, fun _ _ => ⟨rfl, rfl⟩, fun _ _ h => by cases h⟩
theorem St6.rlt (h : St6 S C N f r c p q) {k : Nat} (hk : k < N) : r k < N := h.rt.lt h.lt k hk
theorem St6.fresh (h : St6 S C N f r c p q) : St6 S C (N + 1) f r c p q :=
  ⟨h.rt, h.cls, fun k hk => by
    by_cases e : k = N
    · subst e; rw [(h.out k (Nat.le_refl _)).1]; omega
    · have := h.lt k (by omega); omega, fun k hk => h.out k (by omega), fun k x e => by have := h.clt k x e; omega⟩
theorem St6.any (h : St6 S C N f r c z z) (y : Nat) : St6 S C N f r c y y := ⟨h.rt, h.cls.done rfl y, h.lt, h.out, h.clt⟩
theorem St6.done (h : St6 S C N f r c p q) (e : r p = r q) (y : Nat) : St6 S C N f r c y y := ⟨h.rt, h.cls.done e y, h.lt, h.out, h.clt⟩
theorem St6.step (h : St6 S C N f r c p q) (hp : p < N) (hq : q < N) (hne : r p ≠ r q) :
    (∀ x y, c (r p) = some x → c (r q) = some y → St6 S C N (up6 f (r q) (r p)) (fun i => mrg (r p) (r q) (r i)) c x y) ∧
    (c (r p) = none → ∀ y, St6 S C N (up6 f (r q) (r p)) (fun i => mrg (r p) (r q) (r i)) (upC c (r p) (c (r q))) y y) ∧
    (c (r q) = none → ∀ y, St6 S C N (up6 f (r q) (r p)) (fun i => mrg (r p) (r q) (r i)) c y y) := by
  have hr : Rt (up6 f (r q) (r p)) (fun i => mrg (r p) (r q) (r i)) := h.rt.join (h.rt.idem p) (h.rt.idem q) hne
  have hl : ∀ k, k < N → up6 f (r q) (r p) k < N := fun k hk => by
    unfold up6; split
    · exact h.rlt hp
    · exact h.lt k hk
  have ho : ∀ k, N ≤ k → up6 f (r q) (r p) k = k := fun k hk => by
    have := h.rlt hq
    unfold up6; rw [if_neg (by omega)]; exact (h.out k hk).1
  have hc := h.cls.join hne
  refine ⟨fun x y hx hy => ⟨hr, hc.1 x y hx hy, hl, fun k hk => ⟨ho k hk, (h.out k hk).2⟩, h.clt⟩, fun hn y => ⟨hr, hc.2.1 hn y, hl, fun k hk => ⟨ho k hk, ?_⟩, fun k x e => ?_⟩, fun hn y => ⟨hr, hc.2.2 hn y, hl, fun k hk => ⟨ho k hk, (h.out k hk).2⟩, h.clt⟩⟩
  · have := h.rlt hp
    unfold upC; rw [if_neg (by omega)]; exact (h.out k hk).2
  · unfold upC at e; split at e
    · exact h.clt _ x e
    · exact h.clt _ x e
theorem St6.fewer (h : St6 S C N f r c p q) (hq : q < N) (hne : r p ≠ r q) : num6 (up6 f (r q) (r p)) N + 1 = num6 f N :=
  num6_up (h.rt.fix q) hne N (h.rlt hq)
theorem St6.more (h : St6 S C N f r c z z) (a b : Nat) : St6 (fun i j => S i j ∨ (i = a ∧ j = b)) C N f r c a b := ⟨h.rt, h.cls.more a b, h.lt, h.out, h.clt⟩
theorem St6.first (h : St6 S C N f r c z z) {a b : Nat} (ha : a < N) (hb : b < N) (hn : c (r a) = none) : St6 S (fun i j => C i j ∨ (i = a ∧ j = b)) N f r (upC c (r a) (some b)) z z :=
  ⟨h.rt, h.cls.first a b hn, h.lt, fun k hk => ⟨(h.out k hk).1, by have := h.rlt ha; unfold upC; rw [if_neg (by omega)]; exact (h.out k hk).2⟩, fun k x e => by
    unfold upC at e; split at e
    · cases e; exact hb
    · exact h.clt k x e⟩
theorem St6.again (h : St6 S C N f r c z z) {a b y : Nat} (hy : c (r a) = some y) : St6 S (fun i j => C i j ∨ (i = a ∧ j = b)) N f r c y b := ⟨h.rt, h.cls.again a b y hy, h.lt, h.out, h.clt⟩
theorem St6.same_iff (h : St6 S C N f r c z z) (i j : Nat) : r i = r j ↔ Eqv S C i j := h.cls.iff i j
theorem St6.lev_stop (h : St6 S C N f r c z z) {k : Nat} (hn : c (r k) = none) : Lev6 S C k 0 := .stop ((h.cls.carries k).2 hn)
theorem St6.lev_on (h : St6 S C N f r c z z) {k x : Nat} (hx : c (r k) = some x) (m : Nat) : Lev6 S C k m ↔ ∃ j, m = j + 1 ∧ Lev6 S C x j := by
  have hc := (h.cls.carries k).1 x hx
  constructor
  · intro hl
    cases hl with
    | stop hn => exact (hn x hc).elim
    | @on _ y n cy hy => exact ⟨n, rfl, hy.at_ (cy.one hc (.refl k))⟩
  · rintro ⟨j, rfl, hj⟩
    exact .on hc hj
/-- A way of n steps from k0 to k by what is carried. -/
def Way6 (S C : Nat → Nat → Prop) (k0 n k : Nat) : Prop := ∀ m, Lev6 S C k0 m ↔ ∃ j, m = n + j ∧ Lev6 S C k j
theorem Way6.start (S C : Nat → Nat → Prop) (k : Nat) : Way6 S C k 0 k := fun m => ⟨fun h => ⟨m, by omega, h⟩, fun ⟨j, e, h⟩ => by rw [show m = j by omega]; exact h⟩
theorem Way6.on {k0 n k x : Nat} (w : Way6 S C k0 n k) (h : St6 S C N f r c z z) (hx : c (r k) = some x) : Way6 S C k0 (n + 1) x := fun m => by
  rw [w m]
  constructor
  · rintro ⟨j, rfl, hj⟩
    obtain ⟨i, rfl, hi⟩ := (h.lev_on hx j).1 hj
    exact ⟨i, by omega, hi⟩
  · rintro ⟨j, rfl, hj⟩
    exact ⟨j + 1, by omega, (h.lev_on hx _).2 ⟨j, rfl, hj⟩⟩
theorem Way6.at_ {k0 n k x : Nat} (w : Way6 S C k0 n k) (e : Eqv S C k x) : Way6 S C k0 n x := fun m => by
  rw [w m]
  exact ⟨fun ⟨j, h1, h2⟩ => ⟨j, h1, h2.at_ e⟩, fun ⟨j, h1, h2⟩ => ⟨j, h1, h2.at_ e.symm⟩⟩
theorem Way6.end_ {k0 n k : Nat} (w : Way6 S C k0 n k) (h : St6 S C N f r c z z) (hn : c (r k) = none) : Lev6 S C k0 n := (w n).2 ⟨0, rfl, h.lev_stop hn⟩
theorem Way6.none_ {k0 n k : Nat} (w : Way6 S C k0 n k) (h : St6 S C N f r c z z) (hC : ∀ i x, C i x → i < N ∧ x < N) (hk : k0 < N) (hn : N ≤ n) (m : Nat) : ¬ Lev6 S C k0 m := fun hl => by
  obtain ⟨j, rfl, _⟩ := (w m).1 hl
  have := h.cls.lev_lt (fun i hi => h.rlt hi) hC (fun i x e => h.clt _ x e) hk hl
  omega
end

/-- The askings depend on free names alone. -/
theorem ask6_congr : ∀ (t : Tm) (f g : UInt8 → Nat) (n : Nat), (∀ c, c ∈ t.free → f c = g c) → ask6 t f n = ask6 t g n := by
  intro t
  induction t with
  | nil => intro f g n _; rfl
  | tau p ih => intro f g n h; exact ih f g n fun c hc => h c ((mf_tau _ _).2 hc)
  | rep p ih => intro f g n h; exact ih f g n fun c hc => h c ((mf_rep _ _).2 hc)
  | snd a b p ih =>
    intro f g n h
    simp only [ask6]
    rw [ih f g n (fun c hc => h c (by simp [mf_snd, hc])), h a (by simp [mf_snd]), h b (by simp [mf_snd])]
  | mat a b p ih =>
    intro f g n h
    simp only [ask6]
    rw [ih f g n (fun c hc => h c (by simp [mf_mat, hc])), h a (by simp [mf_mat]), h b (by simp [mf_mat])]
  | rcv a x p ih =>
    intro f g n h
    simp only [ask6]
    have e := ih (upd6 f x n) (upd6 g x n) (n + 1) (fun c hc => by
      unfold upd6; split
      · rfl
      · rename_i hx; exact h c (by simp [mf_rcv, hc, hx]))
    rw [e, h a (by simp [mf_rcv])]
  | own x p ih =>
    intro f g n h
    simp only [ask6]
    exact ih (upd6 f x n) (upd6 g x n) (n + 1) (fun c hc => by
      unfold upd6; split
      · rfl
      · rename_i hx; exact h c (by simp [mf_own, hc, hx]))
  | sum p q ih ih2 =>
    intro f g n h
    simp only [ask6]
    rw [ih f g n (fun c hc => h c (by simp [mf_sum, hc])), ih2 f g _ (fun c hc => h c (by simp [mf_sum, hc]))]
  | par p q ih ih2 =>
    intro f g n h
    simp only [ask6]
    rw [ih f g n (fun c hc => h c (by simp [mf_par, hc])), ih2 f g _ (fun c hc => h c (by simp [mf_par, hc]))]
def mp6 (φ : Nat → Nat) (e : Bool × Nat × Nat) : Bool × Nat × Nat := (e.1, φ e.2.1, φ e.2.2)
theorem upd6_map (φ : Nat → Nat) (f : UInt8 → Nat) (x : UInt8) (n : Nat) : upd6 (fun c => φ (f c)) x (φ n) = fun c => φ (upd6 f x n c) := by
  funext c; unfold upd6; split <;> rfl
/-- Sorts numbered in another way. -/
theorem ask6_map (φ : Nat → Nat) (n0 : Nat) (hφ : ∀ k, n0 ≤ k → φ (k + 1) = φ k + 1) : ∀ (t : Tm) (f : UInt8 → Nat) (n : Nat), n0 ≤ n → ask6 t (fun c => φ (f c)) (φ n) = ((ask6 t f n).1.map (mp6 φ), φ (ask6 t f n).2) := by
  intro t
  induction t with
  | nil => intro f n _; rfl
  | tau p ih => intro f n h; exact ih f n h
  | rep p ih => intro f n h; exact ih f n h
  | snd a b p ih => intro f n h; simp only [ask6, ih f n h, List.map_cons, mp6]
  | mat a b p ih => intro f n h; simp only [ask6, ih f n h, List.map_cons, mp6]
  | rcv a x p ih =>
    intro f n h
    simp only [ask6, upd6_map]
    rw [← hφ n h, ih (upd6 f x n) (n + 1) (by omega)]
    simp only [List.map_cons, mp6]
  | own x p ih =>
    intro f n h
    simp only [ask6, upd6_map]
    rw [← hφ n h, ih (upd6 f x n) (n + 1) (by omega)]
  | sum p q ih ih2 =>
    intro f n h
    simp only [ask6]
    have hn := (ask6_next p f n).1
    rw [ih f n h, ih2 f _ (by omega), List.map_append]
  | par p q ih ih2 =>
    intro f n h
    simp only [ask6]
    have hn := (ask6_next p f n).1
    rw [ih f n h, ih2 f _ (by omega), List.map_append]
section
variable {φ : Nat → Nat} {l : List (Bool × Nat × Nat)}
theorem S6_map {x y : Nat} : S6 (l.map (mp6 φ)) x y ↔ ∃ i j, x = φ i ∧ y = φ j ∧ S6 l i j := by
  unfold S6
  rw [List.mem_map]
  constructor
  · rintro ⟨⟨b, i, j⟩, h, e⟩
    simp only [mp6, Prod.mk.injEq] at e
    obtain ⟨rfl, rfl, rfl⟩ := e
    exact ⟨i, j, rfl, rfl, h⟩
  · rintro ⟨i, j, rfl, rfl, h⟩
    exact ⟨_, h, rfl⟩
theorem C6_map {x y : Nat} : C6 (l.map (mp6 φ)) x y ↔ ∃ i j, x = φ i ∧ y = φ j ∧ C6 l i j := by
  unfold C6
  rw [List.mem_map]
  constructor
  · rintro ⟨⟨b, i, j⟩, h, e⟩
    simp only [mp6, Prod.mk.injEq] at e
    obtain ⟨rfl, rfl, rfl⟩ := e
    exact ⟨i, j, rfl, rfl, h⟩
  · rintro ⟨i, j, rfl, rfl, h⟩
    exact ⟨_, h, rfl⟩
theorem Eqv.mapped {i j : Nat} (h : Eqv (S6 l) (C6 l) i j) : Eqv (S6 (l.map (mp6 φ))) (C6 (l.map (mp6 φ))) (φ i) (φ j) := by
  induction h with
  | base h => exact .base (S6_map.2 ⟨_, _, rfl, rfl, h⟩)
  | refl i => exact .refl _
  | symm _ ih => exact .symm ih
  | trans _ _ ih ih2 => exact .trans ih ih2
  | carry a b _ ih => exact .carry (C6_map.2 ⟨_, _, rfl, rfl, a⟩) (C6_map.2 ⟨_, _, rfl, rfl, b⟩) ih
theorem Eqv.back (hi : ∀ i j, φ i = φ j → i = j) {x y : Nat} (h : Eqv (S6 (l.map (mp6 φ))) (C6 (l.map (mp6 φ))) x y) : x = y ∨ ∃ i j, x = φ i ∧ y = φ j ∧ Eqv (S6 l) (C6 l) i j := by
  induction h with
  | base h => obtain ⟨i, j, rfl, rfl, h2⟩ := S6_map.1 h; exact .inr ⟨i, j, rfl, rfl, .base h2⟩
  | refl i => exact .inl rfl
  | symm _ ih =>
    rcases ih with rfl | ⟨i, j, rfl, rfl, h⟩
    · exact .inl rfl
    · exact .inr ⟨j, i, rfl, rfl, h.symm⟩
  | trans _ _ ih ih2 =>
    rcases ih with rfl | ⟨i, j, rfl, rfl, h⟩
    · exact ih2
    · rcases ih2 with e | ⟨i2, j2, e, rfl, h2⟩
      · exact .inr ⟨i, j, rfl, e.symm, h⟩
      · have := hi _ _ e; subst this; exact .inr ⟨i, j2, rfl, rfl, h.trans h2⟩
  | carry a b _ ih =>
    obtain ⟨i1, x1, rfl, rfl, c1⟩ := C6_map.1 a
    obtain ⟨i2, x2, rfl, rfl, c2⟩ := C6_map.1 b
    rcases ih with e | ⟨i, j, e1, e2, h⟩
    · have := hi _ _ e; subst this; exact .inr ⟨x1, x2, rfl, rfl, .carry c1 c2 (.refl _)⟩
    · have h1 := hi _ _ e1; have h2 := hi _ _ e2; subst h1; subst h2
      exact .inr ⟨x1, x2, rfl, rfl, .carry c1 c2 h⟩
theorem Eqv.map_iff (hi : ∀ i j, φ i = φ j → i = j) (i j : Nat) : Eqv (S6 (l.map (mp6 φ))) (C6 (l.map (mp6 φ))) (φ i) (φ j) ↔ Eqv (S6 l) (C6 l) i j := by
  constructor
  · intro h
    rcases h.back hi with e | ⟨i2, j2, e1, e2, h⟩
    · rw [hi _ _ e]; exact .refl _
    · rw [hi _ _ e1, hi _ _ e2]; exact h
  · exact Eqv.mapped
theorem Car.map_iff (hi : ∀ i j, φ i = φ j → i = j) (i j : Nat) : Car (S6 (l.map (mp6 φ))) (C6 (l.map (mp6 φ))) (φ i) (φ j) ↔ Car (S6 l) (C6 l) i j := by
  constructor
  · rintro ⟨a, b, c, h1, h2⟩
    obtain ⟨a, b, rfl, rfl, c2⟩ := C6_map.1 c
    exact ⟨a, b, c2, (Eqv.map_iff hi _ _).1 h1, (Eqv.map_iff hi _ _).1 h2⟩
  · rintro ⟨a, b, c, h1, h2⟩
    exact ⟨_, _, C6_map.2 ⟨a, b, rfl, rfl, c⟩, h1.mapped, h2.mapped⟩
theorem Lev6.map_iff (hi : ∀ i j, φ i = φ j → i = j) : ∀ (m i : Nat), Lev6 (S6 (l.map (mp6 φ))) (C6 (l.map (mp6 φ))) (φ i) m ↔ Lev6 (S6 l) (C6 l) i m
  | 0, i => by
    constructor
    · intro h
      cases h with
      | stop h => exact .stop fun x hx => h _ ((Car.map_iff hi i x).2 hx)
    · intro h
      cases h with
      | stop h =>
        refine .stop fun x hx => ?_
        obtain ⟨a, b, c, h1, h2⟩ := hx
        obtain ⟨a, b, rfl, rfl, c2⟩ := C6_map.1 c
        exact h b ⟨a, b, c2, (Eqv.map_iff hi _ _).1 h1, .refl _⟩
  | m + 1, i => by
    constructor
    · intro h
      cases h with
      | @on _ x _ cx hx =>
        obtain ⟨a, b, c, h1, h2⟩ := cx
        obtain ⟨a, b, rfl, rfl, c2⟩ := C6_map.1 c
        exact .on ⟨a, b, c2, (Eqv.map_iff hi _ _).1 h1, .refl _⟩ ((Lev6.map_iff hi m b).1 (hx.at_ h2))
    · intro h
      cases h with
      | @on _ x _ cx hx => exact .on ((Car.map_iff hi i x).2 cx) ((Lev6.map_iff hi m x).2 hx)
theorem Lev6.outside {S C : Nat → Nat → Prop} {N x : Nat} (hS : ∀ i j, S i j → i < N ∧ j < N) (hC : ∀ i j, C i j → i < N ∧ j < N) (hx : N ≤ x) : Lev6 S C x 0 := by
  have key : ∀ {a b : Nat}, Eqv S C a b → a = b ∨ (a < N ∧ b < N) := by
    intro a b h
    induction h with
    | base h => exact .inr (hS _ _ h)
    | refl i => exact .inl rfl
    | symm _ ih => omega
    | trans _ _ ih ih2 => omega
    | carry a b _ ih => exact .inr ⟨(hC _ _ a).2, (hC _ _ b).2⟩
  refine .stop fun y hy => ?_
  obtain ⟨a, b, c, h1, _⟩ := hy
  have := hC _ _ c
  have := key h1
  omega
end
end Go.Proofs.Ytdfelpahacmdpab.T1
