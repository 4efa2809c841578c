/- How many signs of a kind there are, in the program. -/
import Derived.Test.YtdfelpahacmdpabKind
import Derived.Deep.RegionWith
namespace Go.Proofs.Ytdfelpahacmdpab.T1
open Go.RowKit
set_option maxRecDepth 100000

def isK (k : UInt8) (t : Tm) : Bool := t.kind == k
/-- A block with the wanted kind, as long as what is older than B stays. -/
def KBlk (bk : Nat) (ks : ByteArray) (w : World) : Prop := w.cell? ⟨bk, 0, none⟩ = some (.string ks)

theorem one_eq (a b : UInt8) : ((one a).toList == (one b).toList) = (a == b) := by
  have h : ∀ c, (one c).toList = [c] := fun c => by rw [ByteArray.toList_eq]; rfl
  rw [h, h]; simp

end Go.Proofs.Ytdfelpahacmdpab.T1
