/- Texts of the proof, put together: Na, Oa, Ob. No conditions. -/
import Derived.Test.YtmfmagfgcdaeeaaGreatHas
import Derived.Test.YtmfmagfgcdaeeaaGreatHbd
import Derived.Test.YtmfmagfgcdaeeaaGreatHbe
import Derived.Deep.RegionHeld3
import Derived.Deep.AppendLies
import Derived.Maps.AppendAt
import Derived.WalkLawsBesides
import Derived.Laws.AppendOwnNone
import Derived.Sort.Walk0

/- The parts of a sum that are no sums and not 0: in the specification. -/
namespace Go.Proofs.YtmfmagfgcdaeeaaGreat.T1
open Go.RowKit
set_option maxRecDepth 100000
set_option linter.unusedVariables false
set_option linter.unusedSimpArgs false

/-- A list of texts is handed back, in a row of the call's own; none at all as nil. -/
def RowT (xs : List ByteArray) (w : World) (e : Ending) (w' : World) : Prop :=
  ((xs = [] ∧ e = .returned (.slice none 0 0)) ∨ ∃ g cap, xs ≠ [] ∧ e = .returned (.slice (some ⟨g, 0, none⟩) xs.length cap) ∧ w'.ownsRow w.heap.size 9 1 (.slice (some ⟨g, 0, none⟩) xs.length cap) xs.length (xs.map Value.string)) ∧ Below w.heap.size w w'
/-- The same, where there are some. -/
def RowN (xs : List ByteArray) (w : World) (e : Ending) (w' : World) : Prop :=
  ∃ g cap, e = .returned (.slice (some ⟨g, 0, none⟩) xs.length cap) ∧ w'.ownsRow w.heap.size 9 1 (.slice (some ⟨g, 0, none⟩) xs.length cap) xs.length (xs.map Value.string) ∧ Below w.heap.size w w'
theorem RowN.row {xs : List ByteArray} {w : World} {e : Ending} {w' : World} (h : RowN xs w e w') (hx : xs ≠ []) : RowT xs w e w' := by
  obtain ⟨g, cap, h1, h2, h3⟩ := h
  exact ⟨.inr ⟨g, cap, hx, h1, h2⟩, h3⟩
end Go.Proofs.YtmfmagfgcdaeeaaGreat.T1

/- All orders of letters: in the specification. -/
namespace Go.Proofs.YtmfmagfgcdaeeaaGreat.T1
open Go.RowKit
set_option maxRecDepth 100000
set_option linter.unusedVariables false
set_option linter.unusedSimpArgs false

end Go.Proofs.YtmfmagfgcdaeeaaGreat.T1

/- Texts in order: in the specification. -/
namespace Go.Proofs.YtmfmagfgcdaeeaaGreat.T1
open Go.RowKit
set_option maxRecDepth 100000
set_option linter.unusedVariables false
set_option linter.unusedSimpArgs false

end Go.Proofs.YtmfmagfgcdaeeaaGreat.T1
