/- The subterm at a path in the specification, and that it is a smaller process. -/
import Derived.Test.YtpahhlcfbmmocabPa
namespace Go.Proofs.Ytpahhlcfbmmocab.T1
open Go.RowKit
set_option maxRecDepth 100000

def AtPost (o : Option Tm) (w : World) (e : Ending) (w' : World) : Prop :=
  ((∃ p, o = some p ∧ e = .returned (.tuple #[.string (S p), .bool true])) ∨ (o = none ∧ e = .returned (.tuple #[.string ⟨#[]⟩, .bool false]))) ∧ Below w.heap.size w w'
theorem AtPost.no {w : World} {e : Ending} {w' : World} {o : Option Tm} (ho : o = none) (h : e = .returned (.tuple #[.string ⟨#[]⟩, .bool false]) ∧ Below w.heap.size w w') : AtPost o w e w' := ⟨.inr ⟨ho, h.1⟩, h.2⟩
theorem AtPost.yes {w : World} {e : Ending} {w' : World} {o : Option Tm} {p : Tm} (ho : o = some p) (h : e = .returned (.tuple #[.string (S p), .bool true]) ∧ Below w.heap.size w w') : AtPost o w e w' := ⟨.inl ⟨p, ho, h.1⟩, h.2⟩
theorem atP_fail (t : Tm) (path : ByteArray) (k : Nat) (h : k < path.size) (hs : stepN t (path[k]'h).toNat = none) : atP t (path.data.toList.drop k) = none := by
  rw [drop_at path k h]; simp only [atP, hs]
theorem atP_ok (t : Tm) {p : Tm} (path : ByteArray) (k : Nat) (h : k < path.size) (hs : stepN t (path[k]'h).toNat = some p) : atP t (path.data.toList.drop k) = atP p (path.data.toList.drop (k + 1)) := by
  rw [drop_at path k h]; simp only [atP, hs]
theorem sub_parts (t p : Tm) (h : p ∈ t.parts) : (∀ nm, t.ok nm = true → p.ok nm = true) ∧ p.pr.length ≤ t.pr.length := by
  cases t <;> simp [Tm.parts] at h
  case sum a b =>
    rcases h with rfl | rfl
    · exact ⟨fun nm h => by simp only [Tm.ok, Bool.and_eq_true] at h; exact h.1, by simp [Tm.pr]; omega⟩
    · exact ⟨fun nm h => by simp only [Tm.ok, Bool.and_eq_true] at h; exact h.2, by simp [Tm.pr]; omega⟩
  case par a b =>
    rcases h with rfl | rfl
    · exact ⟨fun nm h => by simp only [Tm.ok, Bool.and_eq_true] at h; exact h.1, by simp [Tm.pr]; omega⟩
    · exact ⟨fun nm h => by simp only [Tm.ok, Bool.and_eq_true] at h; exact h.2, by simp [Tm.pr]; omega⟩
  all_goals (subst h; refine ⟨fun nm h => ?_, ?_⟩)
  all_goals first
    | (simp only [Tm.ok, Bool.and_eq_true] at h; exact h.2)
    | (simp only [Tm.ok] at h; exact h)
    | (simp [Tm.pr]; try omega)
theorem stepN_mem (t p : Tm) (r : Nat) (h : stepN t r = some p) : p ∈ t.parts := by
  unfold stepN at h
  split at h
  · cases h
  · exact List.mem_of_getElem? h
theorem atP_sub (l : List UInt8) : ∀ (t p : Tm), atP t l = some p → (∀ nm, t.ok nm = true → p.ok nm = true) ∧ p.pr.length ≤ t.pr.length := by
  induction l with
  | nil => intro t p h; simp only [atP, Option.some.injEq] at h; subst h; exact ⟨fun _ h => h, Nat.le_refl _⟩
  | cons c l ih =>
    intro t p h
    simp only [atP] at h
    split at h
    · rename_i q hq
      have h1 := sub_parts t q (stepN_mem t q _ hq)
      have h2 := ih q p h
      exact ⟨fun nm h => h2.1 nm (h1.1 nm h), Nat.le_trans h2.2 h1.2⟩
    · cases h

end Go.Proofs.Ytpahhlcfbmmocab.T1
