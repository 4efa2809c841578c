/- Texts of the proof, put together: Qp, Za. No conditions. -/
import Derived.Test.YtlhmjcfnfefliaaGreatHax
import Derived.Test.YtlhmjcfnfefliaaGreatHaz
import Derived.Test.YtlhmjcfnfefliaaGreatHbb

/- A name by its text, among the free ones; levels and truth as values. -/
namespace Go.Proofs.YtlhmjcfnfefliaaGreat.T1
open Go.RowKit
set_option linter.unusedVariables false
set_option linter.unusedSimpArgs false

noncomputable def decB (p : Prop) : Bool := @decide p (Classical.propDecidable p)
theorem decB_iff (p : Prop) : decB p = true ↔ p := by
  unfold decB
  exact @decide_eq_true_iff p (Classical.propDecidable p)
theorem decB_congr {p q : Prop} (h : p ↔ q) : decB p = decB q := by rw [Bool.eq_iff_iff, decB_iff, decB_iff, h]
open Classical in
noncomputable def levO (t : Tm) (a : UInt8) : Option Nat := if h : ∃ m, lev6 t a m then some (Classical.choose h) else none
theorem levO_iff (t : Tm) (a : UInt8) (m : Nat) : levO t a = some m ↔ lev6 t a m := by
  unfold levO
  split
  · rename_i h
    have hs := Classical.choose_spec h
    constructor
    · intro e; cases e; exact hs
    · intro hm; rw [hs.one hm]
  · rename_i h
    exact ⟨fun e => (by cases e), fun hm => absurd ⟨m, hm⟩ h⟩
theorem levO_eq {t : Tm} {a : UInt8} {o : Option Nat} (h : ∀ m, o = some m ↔ lev6 t a m) : o = levO t a := by
  apply Option.ext
  intro m
  rw [h, levO_iff]
/-- The free name that is the whole text. -/
def nameOf (F : List UInt8) (k : ByteArray) : Option UInt8 := match k.data.toList with
  | [c] => if nmL c = true ∧ c ∈ F then some c else none
  | _ => none
def nmI (o : Option UInt8) : Int := match o with
  | some c => (lt6 c : Int)
  | none => 0
theorem nameOf_yes {F : List UInt8} {c : UInt8} (hc : nmL c = true) (hm : c ∈ F) : nameOf F (B [c]) = some c := by
  show (if nmL c = true ∧ c ∈ F then some c else none) = some c
  rw [if_pos ⟨hc, hm⟩]
theorem nameOf_out {F : List UInt8} {c : UInt8} (hm : c ∉ F) : nameOf F (B [c]) = none := by
  show (if nmL c = true ∧ c ∈ F then some c else none) = none
  rw [if_neg (fun h => hm h.2)]
theorem nameOf_no {F : List UInt8} {k : ByteArray} (h : ¬ ∃ c, nmL c = true ∧ k = B [c]) : nameOf F k = none := by
  unfold nameOf
  split
  · rename_i c e
    rw [if_neg (fun hh => h ⟨c, hh.1, B_eq e⟩)]
  · rfl
theorem nameOf_mem {F : List UInt8} {k : ByteArray} {c : UInt8} (h : nameOf F k = some c) : c ∈ F := by
  unfold nameOf at h
  split at h
  · split at h
    · rename_i hh; cases h; exact hh.2
    · cases h
  · cases h
theorem one_or2 (k : ByteArray) : (∃ c, nmL c = true ∧ k = B [c] ∧ (∀ w, Calls Tryz.prog 59 #[.string k] w fun e w' => e = .returned (.bool true) ∧ Below w.heap.size w w') ∧ (∀ w, Calls Tryz.prog 44 #[.string k] w fun e w' => e = .returned (.tuple #[.int .u8 (c.toNat : Int), .bool true]) ∧ Below w.heap.size w w')) ∨
    ((¬ ∃ c, nmL c = true ∧ k = B [c]) ∧ (∀ w, Calls Tryz.prog 59 #[.string k] w fun e w' => e = .returned (.bool false) ∧ Below w.heap.size w w') ∧ (∀ w, Calls Tryz.prog 44 #[.string k] w fun e w' => e = .returned (.tuple #[.int .u8 0, .bool false]) ∧ Below w.heap.size w w')) := by
  by_cases h : ∃ c, nmL c = true ∧ k = B [c]
  · obtain ⟨c, hc, rfl⟩ := h
    have h0 : 0 < (B [c]).size := by rw [B_size]; simp
    have hk : (B [c])[0]'h0 = c := byte_of (B_list [c]) 0 h0 (by simp)
    have hq : (((B [c]).size : Int) == 1) = true := by rw [B_size]; rfl
    have hq2 : (((B [c]).size : Int) != 1) = false := by rw [B_size]; rfl
    have h2 := (nmL_iff c).1 hc
    have hL := isLetter_any ((B [c])[0]'h0)
    rw [hk, hc] at hL
    rw [← hk] at hL
    have a := one_yes (B [c]) h0 hq (by rw [hk]; omega) (by rw [hk]; omega)
    have b := rn_yes (B [c]) h0 hq2 hL
    rw [hk] at b
    exact .inl ⟨c, hc, rfl, a, b⟩
  · rcases one_or k with ⟨c, hc, ek, _⟩ | ⟨o1, o2⟩
    · exact absurd ⟨c, hc, ek⟩ h
    · exact .inr ⟨h, o1, o2⟩
end Go.Proofs.YtlhmjcfnfefliaaGreat.T1

/- Levels and uses of names: plain facts for the law of names that are used. No conditions. -/
namespace Go.Proofs.YtlhmjcfnfefliaaGreat.T1
set_option linter.unusedVariables false
set_option linter.unusedSimpArgs false

theorem lev_zero {t : Tm} {a y : UInt8} (h : lev6 t a 0) : ¬ carr6 t a y := by
  unfold lev6 at h
  cases h with
  | stop h => exact h _
theorem lev_less {t : Tm} {a y : UInt8} {m : Nat} (h : lev6 t a m) (k : carr6 t a y) : ∃ n, m = n + 1 ∧ lev6 t y n := by
  unfold lev6 at h
  cases h with
  | stop h => exact absurd k (h _)
  | on c l => exact ⟨_, rfl, l.at_ (c.one k (.refl _))⟩
/-- A name over which something is sent or received carries something. -/
theorem vis_ask (c : UInt8) (t : Tm) : ∀ (f : UInt8 → Nat) (n : Nat), 0 < (t.vis c).countP (us0 c) + (t.vis c).countP (us1 c) → ∃ y, (true, f c, y) ∈ (ask6 t f n).1 := by
  have hu : ∀ (f : UInt8 → Nat) (x : UInt8) (n : Nat), x ≠ c → upd6 f x n c = f c := fun f x n h => by unfold upd6; rw [if_neg (fun e => h e.symm)]
  induction t with
  | nil => intro f n h; simp [Tm.vis, us0, us1] at h
  | snd a b p ih =>
    intro f n h
    by_cases e : a = c
    · subst e; exact ⟨f b, by simp [ask6]⟩
    · have e' : (a == c) = false := by simp [e]
      obtain ⟨y, hy⟩ := ih f n (by simpa [Tm.vis, us0, us1, List.countP_cons, e'] using h)
      exact ⟨y, by simp only [ask6]; exact .tail _ hy⟩
  | rcv a x p ih =>
    intro f n h
    by_cases e : a = c
    · subst e; exact ⟨n, by simp [ask6]⟩
    · have e' : (a == c) = false := by simp [e]
      by_cases ex : x = c
      · simp [Tm.vis, us0, us1, List.countP_cons, e', ex] at h
      · obtain ⟨y, hy⟩ := ih (upd6 f x n) (n + 1) (by simpa [Tm.vis, us0, us1, List.countP_cons, e', ex] using h)
        rw [hu f x n ex] at hy
        exact ⟨y, by simp only [ask6]; exact .tail _ hy⟩
  | tau p ih => intro f n h; exact ih f n (by simpa [Tm.vis, us0, us1, List.countP_cons] using h)
  | sum p q ih ih2 =>
    intro f n h
    have h' : 0 < (p.vis c).countP (us0 c) + (p.vis c).countP (us1 c) ∨ 0 < (q.vis c).countP (us0 c) + (q.vis c).countP (us1 c) := by
      simp [Tm.vis, us0, us1, List.countP_cons, List.countP_append] at h ⊢; omega
    rcases h' with h' | h'
    · obtain ⟨y, hy⟩ := ih f n h'; exact ⟨y, by simp only [ask6]; exact List.mem_append_left _ hy⟩
    · obtain ⟨y, hy⟩ := ih2 f (ask6 p f n).2 h'; exact ⟨y, by simp only [ask6]; exact List.mem_append_right _ hy⟩
  | par p q ih ih2 =>
    intro f n h
    have h' : 0 < (p.vis c).countP (us0 c) + (p.vis c).countP (us1 c) ∨ 0 < (q.vis c).countP (us0 c) + (q.vis c).countP (us1 c) := by
      simp [Tm.vis, us0, us1, List.countP_cons, List.countP_append] at h ⊢; omega
    rcases h' with h' | h'
    · obtain ⟨y, hy⟩ := ih f n h'; exact ⟨y, by simp only [ask6]; exact List.mem_append_left _ hy⟩
    · obtain ⟨y, hy⟩ := ih2 f (ask6 p f n).2 h'; exact ⟨y, by simp only [ask6]; exact List.mem_append_right _ hy⟩
  | own x p ih =>
    intro f n h
    by_cases ex : x = c
    · simp [Tm.vis, us0, us1, List.countP_cons, ex] at h
    · obtain ⟨y, hy⟩ := ih (upd6 f x n) (n + 1) (by simpa [Tm.vis, us0, us1, List.countP_cons, ex] using h)
      rw [hu f x n ex] at hy
      exact ⟨y, by simp only [ask6]; exact hy⟩
  | mat a b p ih =>
    intro f n h
    obtain ⟨y, hy⟩ := ih f n (by simpa [Tm.vis, us0, us1, List.countP_cons] using h)
    exact ⟨y, by simp only [ask6]; exact .tail _ hy⟩
  | rep p ih => intro f n h; exact ih f n (by simpa [Tm.vis, us0, us1, List.countP_cons] using h)
theorem lev_used {t : Tm} {c : UInt8} (h : 0 < (t.vis c).countP (us0 c) + (t.vis c).countP (us1 c)) : ¬ lev6 t c 0 := by
  intro hl
  obtain ⟨y, hy⟩ := vis_ask c t lt6 26 h
  unfold lev6 at hl
  cases hl with
  | stop hs => exact hs y ⟨lt6 c, y, hy, .refl _, .refl _⟩
end Go.Proofs.YtlhmjcfnfefliaaGreat.T1
