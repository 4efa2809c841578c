/- Texts of the proof, put together: Pure, PureB, Mem, Enc, Hc. No conditions. -/
import Derived.KernelRfl
import Derived.Below
import Derived.OneCell
import Derived.Deep.Draws
import Derived.Test.YtmfmagfgcdaeeaaGreatProg

/- Processes as trees, their texts, and the one way in which a text reads as a tree: plain lemmas. -/
namespace Go.Proofs.YtmfmagfgcdaeeaaGreat.T1

inductive Tm where
  | nil
  | snd (a b : UInt8) (p : Tm)
  | rcv (a x : UInt8) (p : Tm)
  | tau (p : Tm)
  | sum (p q : Tm)
  | par (p q : Tm)
  | own (x : UInt8) (p : Tm)
  | mat (a b : UInt8) (p : Tm)
  | rep (p : Tm)
  deriving DecidableEq

namespace Tm
def pr : Tm → List UInt8
  | nil => [48]
  | snd a b p => a :: 33 :: b :: 46 :: p.pr
  | rcv a x p => a :: 63 :: x :: 46 :: p.pr
  | tau p => 126 :: 46 :: p.pr
  | sum p q => 40 :: (p.pr ++ 43 :: (q.pr ++ [41]))
  | par p q => 40 :: (p.pr ++ 38 :: (q.pr ++ [41]))
  | own x p => 35 :: x :: 46 :: p.pr
  | mat a b p => 91 :: a :: 61 :: b :: 93 :: p.pr
  | rep p => 42 :: p.pr

def size : Tm → Nat
  | nil => 1
  | snd _ _ p => p.size + 1
  | rcv _ _ p => p.size + 1
  | tau p => p.size + 1
  | sum p q => p.size + q.size + 1
  | par p q => p.size + q.size + 1
  | own _ p => p.size + 1
  | mat _ _ p => p.size + 1
  | rep p => p.size + 1

def ok (nm : UInt8 → Bool) : Tm → Bool
  | nil => true
  | snd a b p => nm a && nm b && p.ok nm
  | rcv a x p => nm a && nm x && p.ok nm
  | tau p => p.ok nm
  | sum p q => p.ok nm && q.ok nm
  | par p q => p.ok nm && q.ok nm
  | own x p => nm x && p.ok nm
  | mat a b p => nm a && nm b && p.ok nm
  | rep p => p.ok nm

def kind : Tm → UInt8
  | nil => 48
  | snd _ _ _ => 33
  | rcv _ _ _ => 63
  | tau _ => 126
  | sum _ _ => 43
  | par _ _ => 38
  | own _ _ => 35
  | mat _ _ _ => 61
  | rep _ => 42

def parts : Tm → List Tm
  | nil => []
  | snd _ _ p => [p]
  | rcv _ _ p => [p]
  | tau p => [p]
  | sum p q => [p, q]
  | par p q => [p, q]
  | own _ p => [p]
  | mat _ _ p => [p]
  | rep p => [p]
end Tm

/-- The bytes that are no names, whatever the alphabet. -/
def Nm (nm : UInt8 → Bool) : Prop := ∀ c, nm c = true → c ≠ 48 ∧ c ≠ 42 ∧ c ≠ 126 ∧ c ≠ 35 ∧ c ≠ 91 ∧ c ≠ 40

def nmL (c : UInt8) : Bool := decide (97 ≤ c.toNat) && decide (c.toNat ≤ 122)
def nmE (c : UInt8) : Bool := (decide (97 ≤ c.toNat) && decide (c.toNat ≤ 122)) || (decide (65 ≤ c.toNat) && decide (c.toNat ≤ 90)) || decide (128 ≤ c.toNat)
theorem nmL_nm : Nm nmL := by
  intro c h
  simp [nmL] at h
  refine ⟨?_, ?_, ?_, ?_, ?_, ?_⟩ <;> rintro rfl <;> simp at h
theorem nmE_nm : Nm nmE := by
  intro c h
  simp [nmE] at h
  refine ⟨?_, ?_, ?_, ?_, ?_, ?_⟩ <;> rintro rfl <;> simp at h

def Rd (nm : UInt8 → Bool) (l : List UInt8) (t : Tm) (r : List UInt8) : Prop := l = t.pr ++ r ∧ t.ok nm = true

theorem pr_inj {nm : UInt8 → Bool} (hn : Nm nm) : ∀ (t t' : Tm) (r r' : List UInt8), t.ok nm = true → t'.ok nm = true → t.pr ++ r = t'.pr ++ r' → t = t' ∧ r = r' := by
  have hq : ∀ c, nm c = true → c ≠ 48 ∧ c ≠ 42 ∧ c ≠ 126 ∧ c ≠ 35 ∧ c ≠ 91 ∧ c ≠ 40 := hn
  intro t
  induction t with
  | nil =>
    intro t' r r' h h' e
    cases t' <;> simp [Tm.pr, Tm.ok] at h' e
    · exact ⟨rfl, e⟩
    · have := hq _ h'.1.1; simp_all
    · have := hq _ h'.1.1; simp_all
  | snd a b p ih =>
    intro t' r r' h h' e
    simp only [Tm.ok, Bool.and_eq_true] at h
    have ha := hq a h.1.1
    cases t' <;> simp [Tm.pr, Tm.ok] at h' e
    case snd =>
      obtain ⟨rfl, rfl, e⟩ := e
      obtain ⟨rfl, rfl⟩ := ih _ _ _ h.2 h'.2 e
      exact ⟨rfl, rfl⟩
    all_goals simp_all
  | rcv a b p ih =>
    intro t' r r' h h' e
    simp only [Tm.ok, Bool.and_eq_true] at h
    have ha := hq a h.1.1
    cases t' <;> simp [Tm.pr, Tm.ok] at h' e
    case rcv =>
      obtain ⟨rfl, rfl, e⟩ := e
      obtain ⟨rfl, rfl⟩ := ih _ _ _ h.2 h'.2 e
      exact ⟨rfl, rfl⟩
    all_goals simp_all
  | tau p ih =>
    intro t' r r' h h' e
    simp only [Tm.ok] at h
    cases t' <;> simp [Tm.pr, Tm.ok] at h' e
    case tau =>
      obtain ⟨rfl, rfl⟩ := ih _ _ _ h h' e
      exact ⟨rfl, rfl⟩
    all_goals (have := hq _ h'.1.1; simp_all)
  | sum p q ihp ihq =>
    intro t' r r' h h' e
    simp only [Tm.ok, Bool.and_eq_true] at h
    cases t' <;> simp [Tm.pr, Tm.ok] at h' e
    case sum =>
      obtain ⟨rfl, e⟩ := ihp _ _ _ h.1 h'.1 e
      simp at e
      obtain ⟨rfl, e⟩ := ihq _ _ _ h.2 h'.2 e
      simp at e
      exact ⟨rfl, e⟩
    case par =>
      obtain ⟨rfl, e⟩ := ihp _ _ _ h.1 h'.1 e
      simp at e
    all_goals (have := hq _ h'.1.1; simp_all)
  | par p q ihp ihq =>
    intro t' r r' h h' e
    simp only [Tm.ok, Bool.and_eq_true] at h
    cases t' <;> simp [Tm.pr, Tm.ok] at h' e
    case par =>
      obtain ⟨rfl, e⟩ := ihp _ _ _ h.1 h'.1 e
      simp at e
      obtain ⟨rfl, e⟩ := ihq _ _ _ h.2 h'.2 e
      simp at e
      exact ⟨rfl, e⟩
    case sum =>
      obtain ⟨rfl, e⟩ := ihp _ _ _ h.1 h'.1 e
      simp at e
    all_goals (have := hq _ h'.1.1; simp_all)
  | own x p ih =>
    intro t' r r' h h' e
    simp only [Tm.ok, Bool.and_eq_true] at h
    cases t' <;> simp [Tm.pr, Tm.ok] at h' e
    case own =>
      obtain ⟨rfl, e⟩ := e
      obtain ⟨rfl, rfl⟩ := ih _ _ _ h.2 h'.2 e
      exact ⟨rfl, rfl⟩
    all_goals (have := hq _ h'.1.1; simp_all)
  | mat a b p ih =>
    intro t' r r' h h' e
    simp only [Tm.ok, Bool.and_eq_true] at h
    cases t' <;> simp [Tm.pr, Tm.ok] at h' e
    case mat =>
      obtain ⟨rfl, rfl, e⟩ := e
      obtain ⟨rfl, rfl⟩ := ih _ _ _ h.2 h'.2 e
      exact ⟨rfl, rfl⟩
    all_goals (have := hq _ h'.1.1; simp_all)
  | rep p ih =>
    intro t' r r' h h' e
    simp only [Tm.ok] at h
    cases t' <;> simp [Tm.pr, Tm.ok] at h' e
    case rep =>
      obtain ⟨rfl, rfl⟩ := ih _ _ _ h h' e
      exact ⟨rfl, rfl⟩
    all_goals (have := hq _ h'.1.1; simp_all)

open Classical in
/-- What a text begins with, read as a process; what is left behind it. -/
noncomputable def E (nm : UInt8 → Bool) (l : List UInt8) : Option (Tm × List UInt8) :=
  if h : ∃ x : Tm × List UInt8, Rd nm l x.1 x.2 then some h.choose else none

theorem E_some {nm : UInt8 → Bool} (hn : Nm nm) {l : List UInt8} {t : Tm} {r : List UInt8} : E nm l = some (t, r) ↔ Rd nm l t r := by
  unfold E
  constructor
  · intro h
    split at h
    · rename_i hx
      have := hx.choose_spec
      simp only [Option.some.injEq] at h
      rw [h] at this
      exact this
    · cases h
  · intro h
    have hx : ∃ x : Tm × List UInt8, Rd nm l x.1 x.2 := ⟨(t, r), h⟩
    rw [dif_pos hx]
    have h2 := hx.choose_spec
    obtain ⟨e1, e2⟩ := pr_inj hn _ _ _ _ h2.2 h.2 (h2.1.symm.trans h.1)
    rw [show hx.choose = (hx.choose.1, hx.choose.2) from rfl, e1, e2]

theorem E_none {nm : UInt8 → Bool} (hn : Nm nm) {l : List UInt8} (h : ∀ t r, ¬ Rd nm l t r) : E nm l = none := by
  cases he : E nm l with
  | none => rfl
  | some x => exact absurd ((E_some hn).1 he) (h _ _)
theorem not_E {nm : UInt8 → Bool} (hn : Nm nm) {l : List UInt8} (h : E nm l = none) (t : Tm) (r : List UInt8) : ¬ Rd nm l t r := by
  intro hr
  rw [(E_some hn).2 hr] at h
  cases h

theorem E_mt {nm : UInt8 → Bool} (hn : Nm nm) : E nm [] = none := by
  refine E_none hn ?_
  rintro t r ⟨h, _⟩
  cases t <;> simp [Tm.pr] at h

theorem E_zero {nm : UInt8 → Bool} (hn : Nm nm) (l : List UInt8) : E nm (48 :: l) = some (.nil, l) := (E_some hn).2 ⟨rfl, rfl⟩

/-- A first sign with one part. -/
theorem E_pre {nm : UInt8 → Bool} (hn : Nm nm) {l l1 : List UInt8} (f : Tm → Tm) (h1 : ∀ p r, Rd nm l1 p r → Rd nm l (f p) r) (h2 : ∀ t r, Rd nm l t r → ∃ p, t = f p ∧ Rd nm l1 p r) :
    E nm l = (E nm l1).map fun x => (f x.1, x.2) := by
  cases he : E nm l1 with
  | none =>
    refine E_none hn fun t r hr => ?_
    obtain ⟨p, _, hp⟩ := h2 t r hr
    exact not_E hn he p r hp
  | some x => exact (E_some hn).2 (h1 _ _ ((E_some hn).1 he))

theorem E_rep {nm : UInt8 → Bool} (hn : Nm nm) (l : List UInt8) : E nm (42 :: l) = (E nm l).map fun x => (.rep x.1, x.2) := by
  refine E_pre hn Tm.rep (fun p r h => ⟨by simp [Tm.pr, h.1], h.2⟩) ?_
  rintro t r ⟨h, o⟩
  cases t <;> simp [Tm.pr, Tm.ok] at h o
  case rep p => exact ⟨p, rfl, h, o⟩
  all_goals (have := hn _ o.1.1; simp_all)

theorem E_tau {nm : UInt8 → Bool} (hn : Nm nm) (l : List UInt8) : E nm (126 :: 46 :: l) = (E nm l).map fun x => (.tau x.1, x.2) := by
  refine E_pre hn Tm.tau (fun p r h => ⟨by simp [Tm.pr, h.1], h.2⟩) ?_
  rintro t r ⟨h, o⟩
  cases t <;> simp [Tm.pr, Tm.ok] at h o
  case tau p => exact ⟨p, rfl, h, o⟩
  all_goals (have := hn _ o.1.1; simp_all)

theorem E_tau_no {nm : UInt8 → Bool} (hn : Nm nm) {l : List UInt8} (h : ∀ l', l ≠ 46 :: l') : E nm (126 :: l) = none := by
  refine E_none hn ?_
  rintro t r ⟨e, o⟩
  cases t <;> simp [Tm.pr, Tm.ok] at e o
  case tau p => exact h _ e
  all_goals (have := hn _ o.1.1; simp_all)

theorem E_own {nm : UInt8 → Bool} (hn : Nm nm) {x : UInt8} (hx : nm x = true) (l : List UInt8) : E nm (35 :: x :: 46 :: l) = (E nm l).map fun y => (.own x y.1, y.2) := by
  refine E_pre hn (Tm.own x) (fun p r h => ⟨by simp [Tm.pr, h.1], by simp [Tm.ok, hx, h.2]⟩) ?_
  rintro t r ⟨h, o⟩
  cases t <;> simp [Tm.pr, Tm.ok] at h o
  case own p => exact ⟨p, by rw [h.1], h.2, o.2⟩
  all_goals (have := hn _ o.1.1; simp_all)

theorem E_own_no {nm : UInt8 → Bool} (hn : Nm nm) {l : List UInt8} (h : ∀ x l', l = x :: 46 :: l' → nm x = false) : E nm (35 :: l) = none := by
  refine E_none hn ?_
  rintro t r ⟨e, o⟩
  cases t <;> simp [Tm.pr, Tm.ok] at e o
  case own x p => have := h _ _ e; rw [this] at o; simp at o
  all_goals (have := hn _ o.1.1; simp_all)

theorem E_mat {nm : UInt8 → Bool} (hn : Nm nm) {a b : UInt8} (ha : nm a = true) (hb : nm b = true) (l : List UInt8) : E nm (91 :: a :: 61 :: b :: 93 :: l) = (E nm l).map fun y => (.mat a b y.1, y.2) := by
  refine E_pre hn (Tm.mat a b) (fun p r h => ⟨by simp [Tm.pr, h.1], by simp [Tm.ok, ha, hb, h.2]⟩) ?_
  rintro t r ⟨h, o⟩
  cases t <;> simp [Tm.pr, Tm.ok] at h o
  case mat p => exact ⟨p, by rw [h.1, h.2.1], h.2.2, o.2⟩
  all_goals (have := hn _ o.1.1; simp_all)

theorem E_mat_no {nm : UInt8 → Bool} (hn : Nm nm) {l : List UInt8} (h : ∀ a b l', l = a :: 61 :: b :: 93 :: l' → nm a = true → nm b = false) : E nm (91 :: l) = none := by
  refine E_none hn ?_
  rintro t r ⟨e, o⟩
  cases t <;> simp [Tm.pr, Tm.ok] at e o
  case mat a b p => have := h _ _ _ e o.1.1; rw [this] at o; simp at o
  all_goals (have := hn _ o.1.1; simp_all)

theorem E_snd {nm : UInt8 → Bool} (hn : Nm nm) {a b : UInt8} (ha : nm a = true) (hb : nm b = true) (l : List UInt8) : E nm (a :: 33 :: b :: 46 :: l) = (E nm l).map fun y => (.snd a b y.1, y.2) := by
  have hq := hn a ha
  refine E_pre hn (Tm.snd a b) (fun p r h => ⟨by simp [Tm.pr, h.1], by simp [Tm.ok, ha, hb, h.2]⟩) ?_
  rintro t r ⟨h, o⟩
  cases t <;> simp [Tm.pr, Tm.ok] at h o
  case snd p => exact ⟨p, by rw [h.1, h.2.1], h.2.2, o.2⟩
  all_goals simp_all

theorem E_rcv {nm : UInt8 → Bool} (hn : Nm nm) {a b : UInt8} (ha : nm a = true) (hb : nm b = true) (l : List UInt8) : E nm (a :: 63 :: b :: 46 :: l) = (E nm l).map fun y => (.rcv a b y.1, y.2) := by
  have hq := hn a ha
  refine E_pre hn (Tm.rcv a b) (fun p r h => ⟨by simp [Tm.pr, h.1], by simp [Tm.ok, ha, hb, h.2]⟩) ?_
  rintro t r ⟨h, o⟩
  cases t <;> simp [Tm.pr, Tm.ok] at h o
  case rcv p => exact ⟨p, by rw [h.1, h.2.1], h.2.2, o.2⟩
  all_goals simp_all

/-- A first byte that begins no process: neither one of the six signs nor a name. -/
theorem E_other {nm : UInt8 → Bool} (hn : Nm nm) {c : UInt8} {l : List UInt8} (h0 : c ≠ 48) (h1 : c ≠ 42) (h2 : c ≠ 126) (h3 : c ≠ 35) (h4 : c ≠ 91) (h5 : c ≠ 40)
    (h6 : ∀ m x l', l = m :: x :: 46 :: l' → m = 33 ∨ m = 63 → nm c = true → nm x = false) : E nm (c :: l) = none := by
  refine E_none hn ?_
  rintro t r ⟨e, o⟩
  cases t <;> simp [Tm.pr, Tm.ok] at e o
  case snd a b p => have := h6 _ _ _ e.2 (.inl rfl) (by rw [e.1]; exact o.1.1); rw [this] at o; simp at o
  case rcv a b p => have := h6 _ _ _ e.2 (.inr rfl) (by rw [e.1]; exact o.1.1); rw [this] at o; simp at o
  all_goals simp_all

/-- A bracket. -/
theorem E_pair_no1 {nm : UInt8 → Bool} (hn : Nm nm) {l : List UInt8} (h : E nm l = none) : E nm (40 :: l) = none := by
  refine E_none hn ?_
  rintro t r ⟨e, o⟩
  cases t <;> simp [Tm.pr, Tm.ok] at e o
  case sum p q => exact not_E hn h p _ ⟨e, o.1⟩
  case par p q => exact not_E hn h p _ ⟨e, o.1⟩
  all_goals (have := hn _ o.1.1; simp_all)
theorem E_pair_no2 {nm : UInt8 → Bool} (hn : Nm nm) {l r : List UInt8} {p : Tm} (h : E nm l = some (p, r)) (h2 : ∀ r', r ≠ 43 :: r' ∧ r ≠ 38 :: r') : E nm (40 :: l) = none := by
  have hp := (E_some hn).1 h
  refine E_none hn ?_
  rintro t s ⟨e, o⟩
  cases t <;> simp [Tm.pr, Tm.ok] at e o
  case sum p' q => exact (h2 _).1 (pr_inj hn _ _ _ _ hp.2 o.1 (hp.1.symm.trans e)).2
  case par p' q => exact (h2 _).2 (pr_inj hn _ _ _ _ hp.2 o.1 (hp.1.symm.trans e)).2
  all_goals (have := hn _ o.1.1; simp_all)
theorem E_pair_no3 {nm : UInt8 → Bool} (hn : Nm nm) {l r : List UInt8} {p : Tm} {m : UInt8} (h : E nm l = some (p, m :: r)) (h2 : E nm r = none) : E nm (40 :: l) = none := by
  have hp := (E_some hn).1 h
  refine E_none hn ?_
  rintro t s ⟨e, o⟩
  cases t <;> simp [Tm.pr, Tm.ok] at e o
  case sum p' q =>
    have := (pr_inj hn _ _ _ _ hp.2 o.1 (hp.1.symm.trans e)).2
    simp at this
    exact not_E hn h2 q _ ⟨this.2, o.2⟩
  case par p' q =>
    have := (pr_inj hn _ _ _ _ hp.2 o.1 (hp.1.symm.trans e)).2
    simp at this
    exact not_E hn h2 q _ ⟨this.2, o.2⟩
  all_goals (have := hn _ o.1.1; simp_all)
theorem E_pair_no4 {nm : UInt8 → Bool} (hn : Nm nm) {l r r2 : List UInt8} {p q : Tm} {m : UInt8} (h : E nm l = some (p, m :: r)) (h2 : E nm r = some (q, r2)) (h3 : ∀ r', r2 ≠ 41 :: r') : E nm (40 :: l) = none := by
  have hp := (E_some hn).1 h
  have hq := (E_some hn).1 h2
  refine E_none hn ?_
  rintro t s ⟨e, o⟩
  cases t <;> simp [Tm.pr, Tm.ok] at e o
  case sum p' q' =>
    have := (pr_inj hn _ _ _ _ hp.2 o.1 (hp.1.symm.trans e)).2
    simp at this
    exact h3 _ (pr_inj hn _ _ _ _ hq.2 o.2 (hq.1.symm.trans this.2)).2
  case par p' q' =>
    have := (pr_inj hn _ _ _ _ hp.2 o.1 (hp.1.symm.trans e)).2
    simp at this
    exact h3 _ (pr_inj hn _ _ _ _ hq.2 o.2 (hq.1.symm.trans this.2)).2
  all_goals (have := hn _ o.1.1; simp_all)
theorem E_sum {nm : UInt8 → Bool} (hn : Nm nm) {l r r2 : List UInt8} {p q : Tm} (h : E nm l = some (p, 43 :: r)) (h2 : E nm r = some (q, 41 :: r2)) : E nm (40 :: l) = some (.sum p q, r2) := by
  have hp := (E_some hn).1 h
  have hq := (E_some hn).1 h2
  exact (E_some hn).2 ⟨by simp [Tm.pr, hp.1, hq.1], by simp [Tm.ok, hp.2, hq.2]⟩
theorem E_par {nm : UInt8 → Bool} (hn : Nm nm) {l r r2 : List UInt8} {p q : Tm} (h : E nm l = some (p, 38 :: r)) (h2 : E nm r = some (q, 41 :: r2)) : E nm (40 :: l) = some (.par p q, r2) := by
  have hp := (E_some hn).1 h
  have hq := (E_some hn).1 h2
  exact (E_some hn).2 ⟨by simp [Tm.pr, hp.1, hq.1], by simp [Tm.ok, hp.2, hq.2]⟩

theorem pr_pos (t : Tm) : 1 ≤ t.pr.length := by cases t <;> simp [Tm.pr]
theorem size_pos (t : Tm) : 1 ≤ t.size := by cases t <;> simp [Tm.size]
theorem size_le_pr (t : Tm) : t.size ≤ t.pr.length := by
  induction t <;> simp [Tm.pr, Tm.size] <;> omega
theorem E_lt {nm : UInt8 → Bool} (hn : Nm nm) {l r : List UInt8} {t : Tm} (h : E nm l = some (t, r)) : r.length < l.length ∧ l.drop (l.length - r.length) = r := by
  have hp := (E_some hn).1 h
  have := pr_pos t
  obtain ⟨rfl, _⟩ := hp
  constructor
  · simp; omega
  · rw [List.length_append, Nat.add_sub_cancel, List.drop_left]

end Go.Proofs.YtmfmagfgcdaeeaaGreat.T1

/- Where a process ends in a text: plain lemmas. -/
namespace Go.Proofs.YtmfmagfgcdaeeaaGreat.T1
/-- Where the process ends that begins at a place, or -1. -/
noncomputable def endOf (nm : UInt8 → Bool) (s : ByteArray) (at_ : Nat) : Int := match E nm (s.data.toList.drop at_) with
  | some (_, r) => (s.size : Int) - r.length
  | none => -1
theorem drop_at (s : ByteArray) (k : Nat) (h : k < s.size) : s.data.toList.drop k = s[k] :: s.data.toList.drop (k + 1) := by
  rw [List.drop_eq_getElem_cons (by simpa using h)]; rfl


section
variable {nm : UInt8 → Bool} (hn : Nm nm) {s : ByteArray} {a : Nat}
theorem endOf_cases (nm : UInt8 → Bool) (hn : Nm nm) (s : ByteArray) (a : Nat) : (endOf nm s a = -1 ∧ E nm (s.data.toList.drop a) = none) ∨ ∃ t m, a < m ∧ m ≤ s.size ∧ endOf nm s a = (m : Int) ∧ E nm (s.data.toList.drop a) = some (t, s.data.toList.drop m) := by
  unfold endOf
  cases he : E nm (s.data.toList.drop a) with
  | none => exact .inl ⟨rfl, rfl⟩
  | some x =>
    obtain ⟨t, r⟩ := x
    obtain ⟨h1, h2⟩ := E_lt hn he
    have h3 : (s.data.toList.drop a).length = s.size - a := by simp
    have h4 : a ≤ s.size := by
      rcases Nat.lt_or_ge s.size a with h | h
      · omega
      · exact h
    refine .inr ⟨t, s.size - r.length, by omega, by omega, by simp only []; omega, ?_⟩
    rw [List.drop_drop] at h2
    rw [show s.size - r.length = a + ((s.data.toList.drop a).length - r.length) by omega, h2]
include hn
theorem endOf_ge (h : s.size ≤ a) : endOf nm s a = -1 := by
  rw [endOf, List.drop_of_length_le (by simpa using h), E_mt hn]
theorem endOf_zero (hlt : a < s.size) (h : s[a] = 48) : endOf nm s a = (a : Int) + 1 := by
  rw [endOf, drop_at s a hlt, h, E_zero hn]
  simp; omega
omit hn in
theorem endOf_map {b : Nat} {f : Tm → Tm} (h : E nm (s.data.toList.drop a) = (E nm (s.data.toList.drop b)).map fun x => (f x.1, x.2)) : endOf nm s b = endOf nm s a := by
  unfold endOf; rw [h]; cases E nm (s.data.toList.drop b) <;> rfl
omit hn in
theorem endOf_none (h : E nm (s.data.toList.drop a) = none) : endOf nm s a = -1 := by
  unfold endOf; rw [h]
theorem endOf_rep (hlt : a < s.size) (h : s[a] = 42) : endOf nm s (a + 1) = endOf nm s a :=
  endOf_map (by rw [drop_at s a hlt, h, E_rep hn])
theorem endOf_tau (hlt : a + 1 < s.size) (h : s[a] = 126) (h1 : s[a + 1] = 46) : endOf nm s (a + 2) = endOf nm s a :=
  endOf_map (by rw [drop_at s a (by omega), drop_at s (a + 1) hlt, h, h1, E_tau hn])
theorem endOf_tau_no (hlt : a < s.size) (h : s[a] = 126) (h1 : ∀ _ : a + 1 < s.size, s[a + 1] = 46 → False) : endOf nm s a = -1 := by
  refine endOf_none ?_
  rw [drop_at s a hlt, h]
  refine E_tau_no hn fun l' e => ?_
  have hb : a + 1 < s.size := by
    rcases Nat.lt_or_ge (a + 1) s.size with h | h
    · exact h
    · rw [List.drop_of_length_le (by simpa using h)] at e; cases e
  rw [drop_at s (a + 1) hb] at e
  simp only [List.cons.injEq] at e
  exact h1 hb e.1
theorem endOf_own (hlt : a + 2 < s.size) (h : s[a] = 35) (h1 : nm s[a + 1] = true) (h2 : s[a + 2] = 46) : endOf nm s (a + 3) = endOf nm s a :=
  endOf_map (by rw [drop_at s a (by omega), drop_at s (a + 1) (by omega), drop_at s (a + 2) hlt, h, h2, E_own hn h1])
omit hn in
theorem drop_cons_lt {s : ByteArray} {a : Nat} {c : UInt8} {l : List UInt8} (e : s.data.toList.drop a = c :: l) : ∃ h : a < s.size, s[a] = c ∧ s.data.toList.drop (a + 1) = l := by
  have hb : a < s.size := by
    rcases Nat.lt_or_ge a s.size with h | h
    · exact h
    · rw [List.drop_of_length_le (by simpa using h)] at e; cases e
  rw [drop_at s a hb] at e
  simp only [List.cons.injEq] at e
  exact ⟨hb, e⟩
theorem endOf_own_no (hlt : a < s.size) (h : s[a] = 35) (h1 : ∀ _ : a + 2 < s.size, nm s[a + 1] = true → s[a + 2] = 46 → False) : endOf nm s a = -1 := by
  refine endOf_none ?_
  rw [drop_at s a hlt, h]
  refine E_own_no hn fun x l' e => ?_
  obtain ⟨b1, e1, e⟩ := drop_cons_lt e
  obtain ⟨b2, e2, e⟩ := drop_cons_lt e
  cases hx : nm x with
  | false => rfl
  | true => exact (h1 b2 (by rw [e1]; exact hx) e2).elim
theorem endOf_mat (hlt : a + 4 < s.size) (h : s[a] = 91) (h1 : nm s[a + 1] = true) (h2 : s[a + 2] = 61) (h3 : nm s[a + 3] = true) (h4 : s[a + 4] = 93) : endOf nm s (a + 5) = endOf nm s a :=
  endOf_map (by rw [drop_at s a (by omega), drop_at s (a + 1) (by omega), drop_at s (a + 2) (by omega), drop_at s (a + 3) (by omega), drop_at s (a + 4) (by omega), h, h2, h4, E_mat hn h1 h3])
theorem endOf_mat_no (hlt : a < s.size) (h : s[a] = 91) (h1 : ∀ _ : a + 4 < s.size, nm s[a + 1] = true → s[a + 2] = 61 → nm s[a + 3] = true → s[a + 4] = 93 → False) : endOf nm s a = -1 := by
  refine endOf_none ?_
  rw [drop_at s a hlt, h]
  refine E_mat_no hn fun x y l' e hx => ?_
  obtain ⟨b1, e1, e⟩ := drop_cons_lt e
  obtain ⟨b2, e2, e⟩ := drop_cons_lt e
  obtain ⟨b3, e3, e⟩ := drop_cons_lt e
  obtain ⟨b4, e4, e⟩ := drop_cons_lt e
  cases hy : nm y with
  | false => rfl
  | true => exact (h1 b4 (by rw [e1]; exact hx) e2 (by rw [e3]; exact hy) e4).elim
theorem endOf_snd (hlt : a + 3 < s.size) (h : nm s[a] = true) (h1 : s[a + 1] = 33) (h2 : nm s[a + 2] = true) (h3 : s[a + 3] = 46) : endOf nm s (a + 4) = endOf nm s a :=
  endOf_map (by rw [drop_at s a (by omega), drop_at s (a + 1) (by omega), drop_at s (a + 2) (by omega), drop_at s (a + 3) (by omega), h1, h3, E_snd hn h h2])
theorem endOf_rcv (hlt : a + 3 < s.size) (h : nm s[a] = true) (h1 : s[a + 1] = 63) (h2 : nm s[a + 2] = true) (h3 : s[a + 3] = 46) : endOf nm s (a + 4) = endOf nm s a :=
  endOf_map (by rw [drop_at s a (by omega), drop_at s (a + 1) (by omega), drop_at s (a + 2) (by omega), drop_at s (a + 3) (by omega), h1, h3, E_rcv hn h h2])
theorem endOf_other (hlt : a < s.size) (h0 : s[a] ≠ 48) (h1 : s[a] ≠ 42) (h2 : s[a] ≠ 126) (h3 : s[a] ≠ 35) (h4 : s[a] ≠ 91) (h5 : s[a] ≠ 40)
    (h6 : ∀ _ : a + 3 < s.size, nm s[a] = true → (s[a + 1] = 33 ∨ s[a + 1] = 63) → nm s[a + 2] = true → s[a + 3] = 46 → False) : endOf nm s a = -1 := by
  refine endOf_none ?_
  rw [drop_at s a hlt]
  refine E_other hn h0 h1 h2 h3 h4 h5 fun m x l' e hm hc => ?_
  obtain ⟨b1, e1, e⟩ := drop_cons_lt e
  obtain ⟨b2, e2, e⟩ := drop_cons_lt e
  obtain ⟨b3, e3, e⟩ := drop_cons_lt e
  cases hx : nm x with
  | false => rfl
  | true => exact (h6 b3 hc (by rw [e1]; exact hm) (by rw [e2]; exact hx) e3).elim
theorem endOf_pair_no1 (hlt : a < s.size) (h : s[a] = 40) (h1 : E nm (s.data.toList.drop (a + 1)) = none) : endOf nm s a = -1 := by
  refine endOf_none ?_
  rw [drop_at s a hlt, h, E_pair_no1 hn h1]
theorem endOf_pair_no2 {m : Nat} {t : Tm} (hlt : a < s.size) (h : s[a] = 40) (h1 : E nm (s.data.toList.drop (a + 1)) = some (t, s.data.toList.drop m)) (h2 : ∀ _ : m < s.size, s[m] ≠ 43 ∧ s[m] ≠ 38) : endOf nm s a = -1 := by
  refine endOf_none ?_
  rw [drop_at s a hlt, h, E_pair_no2 hn h1]
  intro r'
  constructor
  · intro e
    obtain ⟨b1, e1, e⟩ := drop_cons_lt e
    exact (h2 b1).1 e1
  · intro e
    obtain ⟨b1, e1, e⟩ := drop_cons_lt e
    exact (h2 b1).2 e1
theorem endOf_pair_no3 {m : Nat} {t : Tm} (hlt : a < s.size) (hm : m < s.size) (h : s[a] = 40) (h1 : E nm (s.data.toList.drop (a + 1)) = some (t, s.data.toList.drop m)) (h2 : E nm (s.data.toList.drop (m + 1)) = none) : endOf nm s a = -1 := by
  refine endOf_none ?_
  rw [drop_at s m hm] at h1
  rw [drop_at s a hlt, h, E_pair_no3 hn h1 h2]
theorem endOf_pair_no4 {m n : Nat} {t q : Tm} (hlt : a < s.size) (hm : m < s.size) (h : s[a] = 40) (h1 : E nm (s.data.toList.drop (a + 1)) = some (t, s.data.toList.drop m)) (h2 : E nm (s.data.toList.drop (m + 1)) = some (q, s.data.toList.drop n)) (h3 : ∀ _ : n < s.size, s[n] ≠ 41) : endOf nm s a = -1 := by
  refine endOf_none ?_
  rw [drop_at s m hm] at h1
  rw [drop_at s a hlt, h, E_pair_no4 hn h1 h2]
  intro r' e
  obtain ⟨b1, e1, e⟩ := drop_cons_lt e
  exact h3 b1 e1
theorem E_pair {m n : Nat} {t q : Tm} (hlt : a < s.size) (hm : m < s.size) (hn' : n < s.size) (h : s[a] = 40) (h1 : E nm (s.data.toList.drop (a + 1)) = some (t, s.data.toList.drop m)) (h2 : E nm (s.data.toList.drop (m + 1)) = some (q, s.data.toList.drop n)) (h3 : s[m] = 43 ∨ s[m] = 38) (h4 : s[n] = 41) :
    E nm (s.data.toList.drop a) = some (if s[m] = 43 then .sum t q else .par t q, s.data.toList.drop (n + 1)) := by
  rw [drop_at s m hm] at h1
  rw [drop_at s n hn', h4] at h2
  rw [drop_at s a hlt, h]
  rcases h3 with h3 | h3
  · rw [h3] at h1 ⊢
    rw [E_sum hn h1 h2, if_pos rfl]
  · rw [h3] at h1 ⊢
    rw [E_par hn h1 h2, if_neg (by decide)]
theorem endOf_pair {m n : Nat} {t q : Tm} (hlt : a < s.size) (hm : m < s.size) (hn' : n < s.size) (h : s[a] = 40) (h1 : E nm (s.data.toList.drop (a + 1)) = some (t, s.data.toList.drop m)) (h2 : E nm (s.data.toList.drop (m + 1)) = some (q, s.data.toList.drop n)) (h3 : s[m] = 43 ∨ s[m] = 38) (h4 : s[n] = 41) : endOf nm s a = (n : Int) + 1 := by
  unfold endOf
  rw [E_pair hn hlt hm hn' h h1 h2 h3 h4]
  simp; omega
end

end Go.Proofs.YtmfmagfgcdaeeaaGreat.T1

/- Memory: what a call leaves that writes into one old block alone; the block of a reader. Plain lemmas. -/
namespace Go.Proofs.YtmfmagfgcdaeeaaGreat.T1
open Go.RowKit

/-- Behind the call only block b, of the old ones, may have turned. -/
structure Only (b : Nat) (w w' : World) : Prop where
  os : w'.os = w.os
  tape : w'.tape = w.tape
  output : w'.output = w.output
  size : w.heap.size ≤ w'.heap.size
  block : ∀ k, k < w.heap.size → k ≠ b → w'.heap[k]? = w.heap[k]?
theorem Only.refl (b : Nat) (w : World) : Only b w w := ⟨rfl, rfl, rfl, Nat.le_refl _, fun _ _ _ => rfl⟩
theorem Only.trans {b : Nat} {u v w : World} (h : Only b u v) (k : Only b v w) : Only b u w :=
  ⟨k.os.trans h.os, k.tape.trans h.tape, k.output.trans h.output, Nat.le_trans h.size k.size, fun i hi hb => (k.block i (Nat.lt_of_lt_of_le hi h.size) hb).trans (h.block i hi hb)⟩
theorem Only.drewN {b : Nat} {u v : World} (h : Only b u v) (n : Nat) : Only b u (v.drewN n) := h.trans ⟨rfl, rfl, rfl, Nat.le_refl _, fun _ _ _ => rfl⟩
theorem Only.drew {b : Nat} {u v : World} (h : Only b u v) : Only b u v.drew := h.trans ⟨rfl, rfl, rfl, Nat.le_refl _, fun _ _ _ => rfl⟩
theorem Only.setCell {b : Nat} {u v : World} (h : Only b u v) (o : Nat) (sp) (x : Value) : Only b u (v.setCell ⟨b, o, sp⟩ x) :=
  h.trans ⟨rfl, rfl, rfl, by simp [World.setCell], fun k _ hb => Below.heap_setCell _ _ _ _ hb⟩
theorem Only.alloc {b : Nat} {u v : World} (h : Only b u v) (o : Obj) : Only b u (v.alloc o) :=
  h.trans ⟨rfl, rfl, rfl, by simp, fun k hk _ => Below.heap_alloc _ _ _ hk⟩
theorem Only.below {b : Nat} {u v w : World} (h : Only b u v) (k : Below v.heap.size v w) : Only b u w :=
  h.trans ⟨k.os, k.tape, k.output, k.size, fun i hi _ => k.block i hi⟩
theorem Below.only {B b : Nat} {u v w : World} (h : Below B u v) (k : Only b v w) (hb : B ≤ b) (hB : B ≤ v.heap.size) : Below B u w :=
  h.trans ⟨k.os, k.tape, k.output, k.size, fun i hi => k.block i (by omega) (by omega)⟩
theorem below_trans {B : Nat} {u v w : World} (h : Below B u v) (k : Below v.heap.size v w) (hB : B ≤ v.heap.size) : Below B u w := h.trans (k.mono hB)
theorem below_drewN' {B : Nat} {u v : World} (h : Below B u v) (n : Nat) : Below B u (v.drewN n) := h.trans ⟨rfl, rfl, rfl, Nat.le_refl _, fun _ _ => rfl⟩

/-- Block b is a reader of the text s, at the place a. -/
def RdAt (w : World) (b : Nat) (s : ByteArray) (a : Nat) : Prop := ∃ T, w.heap[b]? = some (.cells #[.string s, .int .i64 (a : Int)] T (0, 0))
theorem RdAt.c0 {w : World} {b : Nat} {s : ByteArray} {a : Nat} (h : RdAt w b s a) : w.cell? ⟨b, 0, none⟩ = some (.string s) := by obtain ⟨T, h⟩ := h; simp [World.cell?, h]
theorem RdAt.c1 {w : World} {b : Nat} {s : ByteArray} {a : Nat} (h : RdAt w b s a) : w.cell? ⟨b, 1, none⟩ = some (.int .i64 (a : Int)) := by obtain ⟨T, h⟩ := h; simp [World.cell?, h]
theorem RdAt.f1 {w : World} {b : Nat} {s : ByteArray} {a : Nat} (h : RdAt w b s a) : w.frozen? ⟨b, 1, none⟩ = false := by obtain ⟨T, h⟩ := h; simp [World.frozen?, h]
theorem RdAt.lt {w : World} {b : Nat} {s : ByteArray} {a : Nat} (h : RdAt w b s a) : b < w.heap.size := by obtain ⟨T, h⟩ := h; exact lt_of_block h
theorem RdAt.drewN {w : World} {b : Nat} {s : ByteArray} {a : Nat} (h : RdAt w b s a) (n : Nat) : RdAt (w.drewN n) b s a := h
theorem RdAt.set {w : World} {b : Nat} {s : ByteArray} {a : Nat} (h : RdAt w b s a) (c : Nat) : RdAt (w.setCell ⟨b, 1, none⟩ (.int .i64 (c : Int))) b s c := by
  obtain ⟨T, h⟩ := h
  have hlt := lt_of_block h
  have h' : w.heap[b] = .cells #[.string s, .int .i64 (a : Int)] T (0, 0) := by simpa [Array.getElem?_eq_getElem hlt] using h
  refine ⟨T, ?_⟩
  show (w.heap.modify b _)[b]? = _
  rw [Array.getElem?_eq_getElem (by simpa using hlt), Array.getElem_modify_self, h']
  rfl
theorem RdAt.below {w w' : World} {b : Nat} {s : ByteArray} {a : Nat} (h : RdAt w b s a) (k : Below w.heap.size w w') : RdAt w' b s a := by
  have hlt := h.lt
  obtain ⟨T, h⟩ := h
  exact ⟨T, (k.block b hlt).trans h⟩
theorem RdAt.alloc {w : World} {b : Nat} {s : ByteArray} {a : Nat} (h : RdAt w b s a) (o : Obj) : RdAt (w.alloc o) b s a := h.below ((Below.refl _ _).alloc (Nat.le_refl _) o)

end Go.Proofs.YtmfmagfgcdaeeaaGreat.T1

/- A tree of signs as the program holds it; the first signs whose part is still missing. -/
namespace Go.Proofs.YtmfmagfgcdaeeaaGreat.T1
open Go.RowKit

def ub (c : UInt8) : Value := .int .u8 (c.toNat : Int)
/-- The dynamic type of a sign. -/
def tyOf : Tm → TypeId
  | .nil => 132
  | .snd _ _ _ => 144
  | .rcv _ _ _ => 142
  | .tau _ => 147
  | .sum _ _ => 93
  | .par _ _ => 92
  | .own _ _ => 100
  | .mat _ _ _ => 146
  | .rep _ => 103
/-- Its fields. -/
def pay : Tm → Value
  | .nil => .agg #[]
  | .snd a b p => .agg #[.int .u8 (a.toNat : Int), .int .u8 (b.toNat : Int), .iface (tyOf p) (pay p)]
  | .rcv a x p => .agg #[.int .u8 (a.toNat : Int), .int .u8 (x.toNat : Int), .iface (tyOf p) (pay p)]
  | .tau p => .agg #[.iface (tyOf p) (pay p)]
  | .sum p q => .agg #[.iface (tyOf p) (pay p), .iface (tyOf q) (pay q)]
  | .par p q => .agg #[.iface (tyOf p) (pay p), .iface (tyOf q) (pay q)]
  | .own x p => .agg #[.int .u8 (x.toNat : Int), .iface (tyOf p) (pay p)]
  | .mat a b p => .agg #[.int .u8 (a.toNat : Int), .int .u8 (b.toNat : Int), .iface (tyOf p) (pay p)]
  | .rep p => .agg #[.iface (tyOf p) (pay p)]
/-- A sign as an interface value. -/
def enc (t : Tm) : Value := .iface (tyOf t) (pay t)

/-- What is written before the part of a sign with one part. -/
inductive Hd where
  | tau | rep
  | own (x : UInt8)
  | mat (a b : UInt8)
  | snd (a b : UInt8)
  | rcv (a b : UInt8)
def Hd.put : Hd → Tm → Tm
  | .tau, p => .tau p
  | .rep, p => .rep p
  | .own x, p => .own x p
  | .mat a b, p => .mat a b p
  | .snd a b, p => .snd a b p
  | .rcv a b, p => .rcv a b p
def Hd.enc : Hd → Value
  | .tau => .iface 147 (.agg #[.nilIface])
  | .rep => .iface 103 (.agg #[.nilIface])
  | .own x => .iface 100 (.agg #[.int .u8 (x.toNat : Int), .nilIface])
  | .mat a b => .iface 146 (.agg #[.int .u8 (a.toNat : Int), .int .u8 (b.toNat : Int), .nilIface])
  | .snd a b => .iface 144 (.agg #[.int .u8 (a.toNat : Int), .int .u8 (b.toNat : Int), .nilIface])
  | .rcv a b => .iface 142 (.agg #[.int .u8 (a.toNat : Int), .int .u8 (b.toNat : Int), .nilIface])

end Go.Proofs.YtmfmagfgcdaeeaaGreat.T1

/- Cells of one block, read and set. Plain lemmas. -/
namespace Go.Proofs.YtmfmagfgcdaeeaaGreat.T1
open Go.RowKit

theorem cellsAt {w : World} {b : Nat} {C : Array Value} {T : TypeId} (h : w.heap[b]? = some (.cells C T (0, 0))) (j : Nat) (x : Value) (hx : C[j]? = some x) : w.cell? ⟨b, j, none⟩ = some x := by simp [World.cell?, h, hx]
theorem cellsFree {w : World} {b : Nat} {C : Array Value} {T : TypeId} (h : w.heap[b]? = some (.cells C T (0, 0))) (j : Nat) : w.frozen? ⟨b, j, none⟩ = false := by simp [World.frozen?, h]
theorem set_cells {w : World} {b : Nat} {C : Array Value} {T : TypeId} (h : w.heap[b]? = some (.cells C T (0, 0))) (j : Nat) (v : Value) : (w.setCell ⟨b, j, none⟩ v).heap[b]? = some (.cells (C.setIfInBounds j v) T (0, 0)) := by
  have hlt := lt_of_block h
  have h' : w.heap[b] = .cells C T (0, 0) := by simpa [Array.getElem?_eq_getElem hlt] using h
  show (w.heap.modify b _)[b]? = _
  rw [Array.getElem?_eq_getElem (by simpa using hlt), Array.getElem_modify_self, h']
  rfl
theorem setAt {C : Array Value} {j : Nat} {x v : Value} (h : C[j]? = some x) : (C.setIfInBounds j v)[j]? = some v := by
  have hlt : j < C.size := by
    rcases Nat.lt_or_ge j C.size with h' | h'
    · exact h'
    · rw [Array.getElem?_eq_none h'] at h; cases h
  rw [Array.getElem?_setIfInBounds_self_of_lt hlt]
end Go.Proofs.YtmfmagfgcdaeeaaGreat.T1
