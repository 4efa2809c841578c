/- Texts of the proof, put together: Og. No conditions. -/
import Derived.Test.YtmfmagfgcdaeeaaGreatHaj
import Derived.Test.YtmfmagfgcdaeeaaGreatHbm
import Derived.Deep.DrawnRows

/- A receiver written: in the specification. -/
namespace Go.Proofs.YtmfmagfgcdaeeaaGreat.T1
open Go.RowKit
attribute [local go_sem ↓] Go.wp_at_zero Go.wp_at_succ
set_option maxRecDepth 100000
set_option linter.unusedVariables false
set_option linter.unusedSimpArgs false

theorem Only.cell {m : Nat} {w w' : World} (h : Only m w w') {p : Addr} (hl : p.block < w.heap.size) (hm : p.block ≠ m) : w'.cell? p = w.cell? p := by
  unfold World.cell?; rw [h.block p.block hl hm]
end Go.Proofs.YtmfmagfgcdaeeaaGreat.T1
