/- The subterm at a path in the specification, and that it is a smaller process. -/
import Derived.Test.YtpabmidjfpabdaaPa
namespace Go.Proofs.Ytpabmidjfpabdaa.T1
open Go.RowKit
set_option maxRecDepth 100000

def AtPost (o : Option Tm) (w : World) (e : Ending) (w' : World) : Prop :=
  ((∃ p, o = some p ∧ e = .returned (.tuple #[.string (S p), .bool true])) ∨ (o = none ∧ e = .returned (.tuple #[.string ⟨#[]⟩, .bool false]))) ∧ Below w.heap.size w w'
theorem AtPost.no {w : World} {e : Ending} {w' : World} {o : Option Tm} (ho : o = none) (h : e = .returned (.tuple #[.string ⟨#[]⟩, .bool false]) ∧ Below w.heap.size w w') : AtPost o w e w' := ⟨.inr ⟨ho, h.1⟩, h.2⟩
theorem AtPost.yes {w : World} {e : Ending} {w' : World} {o : Option Tm} {p : Tm} (ho : o = some p) (h : e = .returned (.tuple #[.string (S p), .bool true]) ∧ Below w.heap.size w w') : AtPost o w e w' := ⟨.inl ⟨p, ho, h.1⟩, h.2⟩
end Go.Proofs.Ytpabmidjfpabdaa.T1
