/- The parts of a sign, asked through its interface. -/
import Derived.Test.YtabllmoeehjknaaImplB
namespace Go.Proofs.Ytabllmoeehjknaa.T1
open Go.RowKit
set_option maxRecDepth 100000

theorem last_block (w : World) (o o' : Obj) : ((w.alloc o).alloc o').heap[w.heap.size + 1]? = some o' := by
  show ((w.heap.push o).push o')[w.heap.size + 1]? = _
  rw [Array.getElem?_push, if_pos (by simp)]

theorem below_two (w : World) (o o' : Obj) : Below w.heap.size w ((w.alloc o).alloc o') := ((Below.refl _ _).alloc (Nat.le_refl _) o).alloc (by simp) o'
end Go.Proofs.Ytabllmoeehjknaa.T1
