/- The part that a step of a path tells, in the program. -/
import Derived.Test.YtpahhlcfbmmocabGood
import Derived.Lib.OthersKept
import Derived.Deep.LoopGhost
import Derived.Laws.RangeAny
namespace Go.Proofs.Ytpahhlcfbmmocab.T1
open Go.RowKit
set_option maxRecDepth 100000

/-- The part that a step of a path tells. -/
def stepN (t : Tm) (r : Nat) : Option Tm := if r < 48 then none else t.parts[r - 48]?
/-- The subterm at a path. -/
def atP : Tm → List UInt8 → Option Tm
  | t, [] => some t
  | t, c :: l => match stepN t c.toNat with
    | some p => atP p l
    | none => none
theorem parts_cases (t : Tm) : t.parts = [] ∨ (∃ p, t.parts = [p]) ∨ ∃ p q, t.parts = [p, q] := by
  cases t <;> simp [Tm.parts]
theorem step_high (t : Tm) (r : Nat) (h : 128 ≤ r) : stepN t r = none := by
  unfold stepN
  rw [if_neg (by omega)]
  rcases parts_cases t with h1 | ⟨p, h1⟩ | ⟨p, q, h1⟩ <;> rw [h1] <;> simp <;> omega

/-- What is left by a search for a subterm. -/
def SubPost (o : Option Tm) (w : World) (e : Ending) (w' : World) : Prop :=
  ((∃ p, o = some p ∧ e = .returned (.tuple #[.iface (tyOf p) (pay p), .bool true])) ∨ (o = none ∧ e = .returned (.tuple #[.nilIface, .bool false]))) ∧ Below w.heap.size w w'
theorem SubPost.no {w : World} {e : Ending} {w' : World} {o : Option Tm} (ho : o = none) (h : e = .returned (.tuple #[.nilIface, .bool false]) ∧ Below w.heap.size w w') : SubPost o w e w' := ⟨.inr ⟨ho, h.1⟩, h.2⟩
theorem SubPost.yes {w : World} {e : Ending} {w' : World} {o : Option Tm} {p : Tm} (ho : o = some p) (h : e = .returned (.tuple #[.iface (tyOf p) (pay p), .bool true]) ∧ Below w.heap.size w w') : SubPost o w e w' := ⟨.inl ⟨p, ho, h.1⟩, h.2⟩
end Go.Proofs.Ytpahhlcfbmmocab.T1
