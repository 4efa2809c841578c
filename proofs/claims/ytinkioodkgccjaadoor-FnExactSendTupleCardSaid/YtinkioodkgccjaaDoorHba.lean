/- Texts of the proof, put together: Pa, Ta. No conditions. -/
import Derived.Test.YtinkioodkgccjaaDoorHat
import Derived.Lib.OthersKept
import Derived.Deep.LoopGhost
import Derived.Laws.RangeAny

/- The part that a step of a path tells, in the program. -/
namespace Go.Proofs.YtinkioodkgccjaaDoor.T1
open Go.RowKit
set_option maxRecDepth 100000

/-- What is left by a search for a subterm. -/
def SubPost (o : Option Tm) (w : World) (e : Ending) (w' : World) : Prop :=
  ((∃ p, o = some p ∧ e = .returned (.tuple #[.iface (tyOf p) (pay p), .bool true])) ∨ (o = none ∧ e = .returned (.tuple #[.nilIface, .bool false]))) ∧ Below w.heap.size w w'
theorem SubPost.no {w : World} {e : Ending} {w' : World} {o : Option Tm} (ho : o = none) (h : e = .returned (.tuple #[.nilIface, .bool false]) ∧ Below w.heap.size w w') : SubPost o w e w' := ⟨.inr ⟨ho, h.1⟩, h.2⟩
theorem SubPost.yes {w : World} {e : Ending} {w' : World} {o : Option Tm} {p : Tm} (ho : o = some p) (h : e = .returned (.tuple #[.iface (tyOf p) (pay p), .bool true]) ∧ Below w.heap.size w w') : SubPost o w e w' := ⟨.inl ⟨p, ho, h.1⟩, h.2⟩
end Go.Proofs.YtinkioodkgccjaaDoor.T1

/- The subterm at a path in the specification, and that it is a smaller process. -/
namespace Go.Proofs.YtinkioodkgccjaaDoor.T1
open Go.RowKit
set_option maxRecDepth 100000

def AtPost (o : Option Tm) (w : World) (e : Ending) (w' : World) : Prop :=
  ((∃ p, o = some p ∧ e = .returned (.tuple #[.string (S p), .bool true])) ∨ (o = none ∧ e = .returned (.tuple #[.string ⟨#[]⟩, .bool false]))) ∧ Below w.heap.size w w'
theorem AtPost.no {w : World} {e : Ending} {w' : World} {o : Option Tm} (ho : o = none) (h : e = .returned (.tuple #[.string ⟨#[]⟩, .bool false]) ∧ Below w.heap.size w w') : AtPost o w e w' := ⟨.inr ⟨ho, h.1⟩, h.2⟩
theorem AtPost.yes {w : World} {e : Ending} {w' : World} {o : Option Tm} {p : Tm} (ho : o = some p) (h : e = .returned (.tuple #[.string (S p), .bool true]) ∧ Below w.heap.size w w') : AtPost o w e w' := ⟨.inl ⟨p, ho, h.1⟩, h.2⟩
end Go.Proofs.YtinkioodkgccjaaDoor.T1
