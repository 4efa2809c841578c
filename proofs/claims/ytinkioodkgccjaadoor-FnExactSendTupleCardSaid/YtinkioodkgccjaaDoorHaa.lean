/- Texts of the proof, put together: Pure. No conditions. -/
import Derived.KernelRfl

/- Processes as trees, their texts, and the one way in which a text reads as a tree: plain lemmas. -/
namespace Go.Proofs.YtinkioodkgccjaaDoor.T1

inductive Tm where
  | nil
  | snd (a b : UInt8) (p : Tm)
  | rcv (a x : UInt8) (p : Tm)
  | tau (p : Tm)
  | sum (p q : Tm)
  | par (p q : Tm)
  | own (x : UInt8) (p : Tm)
  | mat (a b : UInt8) (p : Tm)
  | rep (p : Tm)
  deriving DecidableEq

namespace Tm
def pr : Tm → List UInt8
  | nil => [48]
  | snd a b p => a :: 33 :: b :: 46 :: p.pr
  | rcv a x p => a :: 63 :: x :: 46 :: p.pr
  | tau p => 126 :: 46 :: p.pr
  | sum p q => 40 :: (p.pr ++ 43 :: (q.pr ++ [41]))
  | par p q => 40 :: (p.pr ++ 38 :: (q.pr ++ [41]))
  | own x p => 35 :: x :: 46 :: p.pr
  | mat a b p => 91 :: a :: 61 :: b :: 93 :: p.pr
  | rep p => 42 :: p.pr

def size : Tm → Nat
  | nil => 1
  | snd _ _ p => p.size + 1
  | rcv _ _ p => p.size + 1
  | tau p => p.size + 1
  | sum p q => p.size + q.size + 1
  | par p q => p.size + q.size + 1
  | own _ p => p.size + 1
  | mat _ _ p => p.size + 1
  | rep p => p.size + 1

def ok (nm : UInt8 → Bool) : Tm → Bool
  | nil => true
  | snd a b p => nm a && nm b && p.ok nm
  | rcv a x p => nm a && nm x && p.ok nm
  | tau p => p.ok nm
  | sum p q => p.ok nm && q.ok nm
  | par p q => p.ok nm && q.ok nm
  | own x p => nm x && p.ok nm
  | mat a b p => nm a && nm b && p.ok nm
  | rep p => p.ok nm

def kind : Tm → UInt8
  | nil => 48
  | snd _ _ _ => 33
  | rcv _ _ _ => 63
  | tau _ => 126
  | sum _ _ => 43
  | par _ _ => 38
  | own _ _ => 35
  | mat _ _ _ => 61
  | rep _ => 42

def parts : Tm → List Tm
  | nil => []
  | snd _ _ p => [p]
  | rcv _ _ p => [p]
  | tau p => [p]
  | sum p q => [p, q]
  | par p q => [p, q]
  | own _ p => [p]
  | mat _ _ p => [p]
  | rep p => [p]
end Tm

/-- The bytes that are no names, whatever the alphabet. -/
def Nm (nm : UInt8 → Bool) : Prop := ∀ c, nm c = true → c ≠ 48 ∧ c ≠ 42 ∧ c ≠ 126 ∧ c ≠ 35 ∧ c ≠ 91 ∧ c ≠ 40

def nmL (c : UInt8) : Bool := decide (97 ≤ c.toNat) && decide (c.toNat ≤ 122)
def nmE (c : UInt8) : Bool := (decide (97 ≤ c.toNat) && decide (c.toNat ≤ 122)) || (decide (65 ≤ c.toNat) && decide (c.toNat ≤ 90)) || decide (128 ≤ c.toNat)
theorem nmL_nm : Nm nmL := by
  intro c h
  simp [nmL] at h
  refine ⟨?_, ?_, ?_, ?_, ?_, ?_⟩ <;> rintro rfl <;> simp at h
theorem nmE_nm : Nm nmE := by
  intro c h
  simp [nmE] at h
  refine ⟨?_, ?_, ?_, ?_, ?_, ?_⟩ <;> rintro rfl <;> simp at h

def Rd (nm : UInt8 → Bool) (l : List UInt8) (t : Tm) (r : List UInt8) : Prop := l = t.pr ++ r ∧ t.ok nm = true

theorem pr_inj {nm : UInt8 → Bool} (hn : Nm nm) : ∀ (t t' : Tm) (r r' : List UInt8), t.ok nm = true → t'.ok nm = true → t.pr ++ r = t'.pr ++ r' → t = t' ∧ r = r' := by
  have hq : ∀ c, nm c = true → c ≠ 48 ∧ c ≠ 42 ∧ c ≠ 126 ∧ c ≠ 35 ∧ c ≠ 91 ∧ c ≠ 40 := hn
  intro t
  induction t with
  | nil =>
    intro t' r r' h h' e
    cases t' <;> simp [Tm.pr, Tm.ok] at h' e
    · exact ⟨rfl, e⟩
    · have := hq _ h'.1.1; simp_all
    · have := hq _ h'.1.1; simp_all
  | snd a b p ih =>
    intro t' r r' h h' e
    simp only [Tm.ok, Bool.and_eq_true] at h
    have ha := hq a h.1.1
    cases t' <;> simp [Tm.pr, Tm.ok] at h' e
    case snd =>
      obtain ⟨rfl, rfl, e⟩ := e
      obtain ⟨rfl, rfl⟩ := ih _ _ _ h.2 h'.2 e
      exact ⟨rfl, rfl⟩
    all_goals simp_all
  | rcv a b p ih =>
    intro t' r r' h h' e
    simp only [Tm.ok, Bool.and_eq_true] at h
    have ha := hq a h.1.1
    cases t' <;> simp [Tm.pr, Tm.ok] at h' e
    case rcv =>
      obtain ⟨rfl, rfl, e⟩ := e
      obtain ⟨rfl, rfl⟩ := ih _ _ _ h.2 h'.2 e
      exact ⟨rfl, rfl⟩
    all_goals simp_all
  | tau p ih =>
    intro t' r r' h h' e
    simp only [Tm.ok] at h
    cases t' <;> simp [Tm.pr, Tm.ok] at h' e
    case tau =>
      obtain ⟨rfl, rfl⟩ := ih _ _ _ h h' e
      exact ⟨rfl, rfl⟩
    all_goals (have := hq _ h'.1.1; simp_all)
  | sum p q ihp ihq =>
    intro t' r r' h h' e
    simp only [Tm.ok, Bool.and_eq_true] at h
    cases t' <;> simp [Tm.pr, Tm.ok] at h' e
    case sum =>
      obtain ⟨rfl, e⟩ := ihp _ _ _ h.1 h'.1 e
      simp at e
      obtain ⟨rfl, e⟩ := ihq _ _ _ h.2 h'.2 e
      simp at e
      exact ⟨rfl, e⟩
    case par =>
      obtain ⟨rfl, e⟩ := ihp _ _ _ h.1 h'.1 e
      simp at e
    all_goals (have := hq _ h'.1.1; simp_all)
  | par p q ihp ihq =>
    intro t' r r' h h' e
    simp only [Tm.ok, Bool.and_eq_true] at h
    cases t' <;> simp [Tm.pr, Tm.ok] at h' e
    case par =>
      obtain ⟨rfl, e⟩ := ihp _ _ _ h.1 h'.1 e
      simp at e
      obtain ⟨rfl, e⟩ := ihq _ _ _ h.2 h'.2 e
      simp at e
      exact ⟨rfl, e⟩
    case sum =>
      obtain ⟨rfl, e⟩ := ihp _ _ _ h.1 h'.1 e
      simp at e
    all_goals (have := hq _ h'.1.1; simp_all)
  | own x p ih =>
    intro t' r r' h h' e
    simp only [Tm.ok, Bool.and_eq_true] at h
    cases t' <;> simp [Tm.pr, Tm.ok] at h' e
    case own =>
      obtain ⟨rfl, e⟩ := e
      obtain ⟨rfl, rfl⟩ := ih _ _ _ h.2 h'.2 e
      exact ⟨rfl, rfl⟩
    all_goals (have := hq _ h'.1.1; simp_all)
  | mat a b p ih =>
    intro t' r r' h h' e
    simp only [Tm.ok, Bool.and_eq_true] at h
    cases t' <;> simp [Tm.pr, Tm.ok] at h' e
    case mat =>
      obtain ⟨rfl, rfl, e⟩ := e
      obtain ⟨rfl, rfl⟩ := ih _ _ _ h.2 h'.2 e
      exact ⟨rfl, rfl⟩
    all_goals (have := hq _ h'.1.1; simp_all)
  | rep p ih =>
    intro t' r r' h h' e
    simp only [Tm.ok] at h
    cases t' <;> simp [Tm.pr, Tm.ok] at h' e
    case rep =>
      obtain ⟨rfl, rfl⟩ := ih _ _ _ h h' e
      exact ⟨rfl, rfl⟩
    all_goals (have := hq _ h'.1.1; simp_all)

open Classical in
/-- What a text begins with, read as a process; what is left behind it. -/
noncomputable def E (nm : UInt8 → Bool) (l : List UInt8) : Option (Tm × List UInt8) :=
  if h : ∃ x : Tm × List UInt8, Rd nm l x.1 x.2 then some h.choose else none

theorem E_some {nm : UInt8 → Bool} (hn : Nm nm) {l : List UInt8} {t : Tm} {r : List UInt8} : E nm l = some (t, r) ↔ Rd nm l t r := by
  unfold E
  constructor
  · intro h
    split at h
    · rename_i hx
      have := hx.choose_spec
      simp only [Option.some.injEq] at h
      rw [h] at this
      exact this
    · cases h
  · intro h
    have hx : ∃ x : Tm × List UInt8, Rd nm l x.1 x.2 := ⟨(t, r), h⟩
    rw [dif_pos hx]
    have h2 := hx.choose_spec
    obtain ⟨e1, e2⟩ := pr_inj hn _ _ _ _ h2.2 h.2 (h2.1.symm.trans h.1)
    rw [show hx.choose = (hx.choose.1, hx.choose.2) from rfl, e1, e2]

theorem E_none {nm : UInt8 → Bool} (hn : Nm nm) {l : List UInt8} (h : ∀ t r, ¬ Rd nm l t r) : E nm l = none := by
  cases he : E nm l with
  | none => rfl
  | some x => exact absurd ((E_some hn).1 he) (h _ _)
theorem not_E {nm : UInt8 → Bool} (hn : Nm nm) {l : List UInt8} (h : E nm l = none) (t : Tm) (r : List UInt8) : ¬ Rd nm l t r := by
  intro hr
  rw [(E_some hn).2 hr] at h
  cases h

theorem E_mt {nm : UInt8 → Bool} (hn : Nm nm) : E nm [] = none := by
  refine E_none hn ?_
  rintro t r ⟨h, _⟩
  cases t <;> simp [Tm.pr] at h

theorem E_zero {nm : UInt8 → Bool} (hn : Nm nm) (l : List UInt8) : E nm (48 :: l) = some (.nil, l) := (E_some hn).2 ⟨rfl, rfl⟩

/-- A first sign with one part. -/
theorem E_pre {nm : UInt8 → Bool} (hn : Nm nm) {l l1 : List UInt8} (f : Tm → Tm) (h1 : ∀ p r, Rd nm l1 p r → Rd nm l (f p) r) (h2 : ∀ t r, Rd nm l t r → ∃ p, t = f p ∧ Rd nm l1 p r) :
    E nm l = (E nm l1).map fun x => (f x.1, x.2) := by
  cases he : E nm l1 with
  | none =>
    refine E_none hn fun t r hr => ?_
    obtain ⟨p, _, hp⟩ := h2 t r hr
    exact not_E hn he p r hp
  | some x => exact (E_some hn).2 (h1 _ _ ((E_some hn).1 he))

theorem E_rep {nm : UInt8 → Bool} (hn : Nm nm) (l : List UInt8) : E nm (42 :: l) = (E nm l).map fun x => (.rep x.1, x.2) := by
  refine E_pre hn Tm.rep (fun p r h => ⟨by simp [Tm.pr, h.1], h.2⟩) ?_
  rintro t r ⟨h, o⟩
  cases t <;> simp [Tm.pr, Tm.ok] at h o
  case rep p => exact ⟨p, rfl, h, o⟩
  all_goals (have := hn _ o.1.1; simp_all)

theorem E_tau {nm : UInt8 → Bool} (hn : Nm nm) (l : List UInt8) : E nm (126 :: 46 :: l) = (E nm l).map fun x => (.tau x.1, x.2) := by
  refine E_pre hn Tm.tau (fun p r h => ⟨by simp [Tm.pr, h.1], h.2⟩) ?_
  rintro t r ⟨h, o⟩
  cases t <;> simp [Tm.pr, Tm.ok] at h o
  case tau p => exact ⟨p, rfl, h, o⟩
  all_goals (have := hn _ o.1.1; simp_all)

theorem E_tau_no {nm : UInt8 → Bool} (hn : Nm nm) {l : List UInt8} (h : ∀ l', l ≠ 46 :: l') : E nm (126 :: l) = none := by
  refine E_none hn ?_
  rintro t r ⟨e, o⟩
  cases t <;> simp [Tm.pr, Tm.ok] at e o
  case tau p => exact h _ e
  all_goals (have := hn _ o.1.1; simp_all)

theorem E_own {nm : UInt8 → Bool} (hn : Nm nm) {x : UInt8} (hx : nm x = true) (l : List UInt8) : E nm (35 :: x :: 46 :: l) = (E nm l).map fun y => (.own x y.1, y.2) := by
  refine E_pre hn (Tm.own x) (fun p r h => ⟨by simp [Tm.pr, h.1], by simp [Tm.ok, hx, h.2]⟩) ?_
  rintro t r ⟨h, o⟩
  cases t <;> simp [Tm.pr, Tm.ok] at h o
  case own p => exact ⟨p, by rw [h.1], h.2, o.2⟩
  all_goals (have := hn _ o.1.1; simp_all)

theorem E_own_no {nm : UInt8 → Bool} (hn : Nm nm) {l : List UInt8} (h : ∀ x l', l = x :: 46 :: l' → nm x = false) : E nm (35 :: l) = none := by
  refine E_none hn ?_
  rintro t r ⟨e, o⟩
  cases t <;> simp [Tm.pr, Tm.ok] at e o
  case own x p => have := h _ _ e; rw [this] at o; simp at o
  all_goals (have := hn _ o.1.1; simp_all)

theorem E_mat {nm : UInt8 → Bool} (hn : Nm nm) {a b : UInt8} (ha : nm a = true) (hb : nm b = true) (l : List UInt8) : E nm (91 :: a :: 61 :: b :: 93 :: l) = (E nm l).map fun y => (.mat a b y.1, y.2) := by
  refine E_pre hn (Tm.mat a b) (fun p r h => ⟨by simp [Tm.pr, h.1], by simp [Tm.ok, ha, hb, h.2]⟩) ?_
  rintro t r ⟨h, o⟩
  cases t <;> simp [Tm.pr, Tm.ok] at h o
  case mat p => exact ⟨p, by rw [h.1, h.2.1], h.2.2, o.2⟩
  all_goals (have := hn _ o.1.1; simp_all)

theorem E_mat_no {nm : UInt8 → Bool} (hn : Nm nm) {l : List UInt8} (h : ∀ a b l', l = a :: 61 :: b :: 93 :: l' → nm a = true → nm b = false) : E nm (91 :: l) = none := by
  refine E_none hn ?_
  rintro t r ⟨e, o⟩
  cases t <;> simp [Tm.pr, Tm.ok] at e o
  case mat a b p => have := h _ _ _ e o.1.1; rw [this] at o; simp at o
  all_goals (have := hn _ o.1.1; simp_all)

theorem E_snd {nm : UInt8 → Bool} (hn : Nm nm) {a b : UInt8} (ha : nm a = true) (hb : nm b = true) (l : List UInt8) : E nm (a :: 33 :: b :: 46 :: l) = (E nm l).map fun y => (.snd a b y.1, y.2) := by
  have hq := hn a ha
  refine E_pre hn (Tm.snd a b) (fun p r h => ⟨by simp [Tm.pr, h.1], by simp [Tm.ok, ha, hb, h.2]⟩) ?_
  rintro t r ⟨h, o⟩
  cases t <;> simp [Tm.pr, Tm.ok] at h o
  case snd p => exact ⟨p, by rw [h.1, h.2.1], h.2.2, o.2⟩
  all_goals simp_all

theorem E_rcv {nm : UInt8 → Bool} (hn : Nm nm) {a b : UInt8} (ha : nm a = true) (hb : nm b = true) (l : List UInt8) : E nm (a :: 63 :: b :: 46 :: l) = (E nm l).map fun y => (.rcv a b y.1, y.2) := by
  have hq := hn a ha
  refine E_pre hn (Tm.rcv a b) (fun p r h => ⟨by simp [Tm.pr, h.1], by simp [Tm.ok, ha, hb, h.2]⟩) ?_
  rintro t r ⟨h, o⟩
  cases t <;> simp [Tm.pr, Tm.ok] at h o
  case rcv p => exact ⟨p, by rw [h.1, h.2.1], h.2.2, o.2⟩
  all_goals simp_all

/-- A first byte that begins no process: neither one of the six signs nor a name. -/
theorem E_other {nm : UInt8 → Bool} (hn : Nm nm) {c : UInt8} {l : List UInt8} (h0 : c ≠ 48) (h1 : c ≠ 42) (h2 : c ≠ 126) (h3 : c ≠ 35) (h4 : c ≠ 91) (h5 : c ≠ 40)
    (h6 : ∀ m x l', l = m :: x :: 46 :: l' → m = 33 ∨ m = 63 → nm c = true → nm x = false) : E nm (c :: l) = none := by
  refine E_none hn ?_
  rintro t r ⟨e, o⟩
  cases t <;> simp [Tm.pr, Tm.ok] at e o
  case snd a b p => have := h6 _ _ _ e.2 (.inl rfl) (by rw [e.1]; exact o.1.1); rw [this] at o; simp at o
  case rcv a b p => have := h6 _ _ _ e.2 (.inr rfl) (by rw [e.1]; exact o.1.1); rw [this] at o; simp at o
  all_goals simp_all

/-- A bracket. -/
theorem E_pair_no1 {nm : UInt8 → Bool} (hn : Nm nm) {l : List UInt8} (h : E nm l = none) : E nm (40 :: l) = none := by
  refine E_none hn ?_
  rintro t r ⟨e, o⟩
  cases t <;> simp [Tm.pr, Tm.ok] at e o
  case sum p q => exact not_E hn h p _ ⟨e, o.1⟩
  case par p q => exact not_E hn h p _ ⟨e, o.1⟩
  all_goals (have := hn _ o.1.1; simp_all)
theorem E_pair_no2 {nm : UInt8 → Bool} (hn : Nm nm) {l r : List UInt8} {p : Tm} (h : E nm l = some (p, r)) (h2 : ∀ r', r ≠ 43 :: r' ∧ r ≠ 38 :: r') : E nm (40 :: l) = none := by
  have hp := (E_some hn).1 h
  refine E_none hn ?_
  rintro t s ⟨e, o⟩
  cases t <;> simp [Tm.pr, Tm.ok] at e o
  case sum p' q => exact (h2 _).1 (pr_inj hn _ _ _ _ hp.2 o.1 (hp.1.symm.trans e)).2
  case par p' q => exact (h2 _).2 (pr_inj hn _ _ _ _ hp.2 o.1 (hp.1.symm.trans e)).2
  all_goals (have := hn _ o.1.1; simp_all)
theorem E_pair_no3 {nm : UInt8 → Bool} (hn : Nm nm) {l r : List UInt8} {p : Tm} {m : UInt8} (h : E nm l = some (p, m :: r)) (h2 : E nm r = none) : E nm (40 :: l) = none := by
  have hp := (E_some hn).1 h
  refine E_none hn ?_
  rintro t s ⟨e, o⟩
  cases t <;> simp [Tm.pr, Tm.ok] at e o
  case sum p' q =>
    have := (pr_inj hn _ _ _ _ hp.2 o.1 (hp.1.symm.trans e)).2
    simp at this
    exact not_E hn h2 q _ ⟨this.2, o.2⟩
  case par p' q =>
    have := (pr_inj hn _ _ _ _ hp.2 o.1 (hp.1.symm.trans e)).2
    simp at this
    exact not_E hn h2 q _ ⟨this.2, o.2⟩
  all_goals (have := hn _ o.1.1; simp_all)
theorem E_pair_no4 {nm : UInt8 → Bool} (hn : Nm nm) {l r r2 : List UInt8} {p q : Tm} {m : UInt8} (h : E nm l = some (p, m :: r)) (h2 : E nm r = some (q, r2)) (h3 : ∀ r', r2 ≠ 41 :: r') : E nm (40 :: l) = none := by
  have hp := (E_some hn).1 h
  have hq := (E_some hn).1 h2
  refine E_none hn ?_
  rintro t s ⟨e, o⟩
  cases t <;> simp [Tm.pr, Tm.ok] at e o
  case sum p' q' =>
    have := (pr_inj hn _ _ _ _ hp.2 o.1 (hp.1.symm.trans e)).2
    simp at this
    exact h3 _ (pr_inj hn _ _ _ _ hq.2 o.2 (hq.1.symm.trans this.2)).2
  case par p' q' =>
    have := (pr_inj hn _ _ _ _ hp.2 o.1 (hp.1.symm.trans e)).2
    simp at this
    exact h3 _ (pr_inj hn _ _ _ _ hq.2 o.2 (hq.1.symm.trans this.2)).2
  all_goals (have := hn _ o.1.1; simp_all)
theorem E_sum {nm : UInt8 → Bool} (hn : Nm nm) {l r r2 : List UInt8} {p q : Tm} (h : E nm l = some (p, 43 :: r)) (h2 : E nm r = some (q, 41 :: r2)) : E nm (40 :: l) = some (.sum p q, r2) := by
  have hp := (E_some hn).1 h
  have hq := (E_some hn).1 h2
  exact (E_some hn).2 ⟨by simp [Tm.pr, hp.1, hq.1], by simp [Tm.ok, hp.2, hq.2]⟩
theorem E_par {nm : UInt8 → Bool} (hn : Nm nm) {l r r2 : List UInt8} {p q : Tm} (h : E nm l = some (p, 38 :: r)) (h2 : E nm r = some (q, 41 :: r2)) : E nm (40 :: l) = some (.par p q, r2) := by
  have hp := (E_some hn).1 h
  have hq := (E_some hn).1 h2
  exact (E_some hn).2 ⟨by simp [Tm.pr, hp.1, hq.1], by simp [Tm.ok, hp.2, hq.2]⟩

theorem pr_pos (t : Tm) : 1 ≤ t.pr.length := by cases t <;> simp [Tm.pr]
theorem size_le_pr (t : Tm) : t.size ≤ t.pr.length := by
  induction t <;> simp [Tm.pr, Tm.size] <;> omega
theorem E_lt {nm : UInt8 → Bool} (hn : Nm nm) {l r : List UInt8} {t : Tm} (h : E nm l = some (t, r)) : r.length < l.length ∧ l.drop (l.length - r.length) = r := by
  have hp := (E_some hn).1 h
  have := pr_pos t
  obtain ⟨rfl, _⟩ := hp
  constructor
  · simp; omega
  · rw [List.length_append, Nat.add_sub_cancel, List.drop_left]

end Go.Proofs.YtinkioodkgccjaaDoor.T1
