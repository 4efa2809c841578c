/- The reader: a process from a place on. -/
import Derived.Test.YtabllmoeehjknaaImplB
import Derived.Test.YtabllmoeehjknaaImplD
namespace Go.Proofs.Ytabllmoeehjknaa.T1
open Go.RowKit
set_option maxRecDepth 100000

theorem cell_new1 (w : World) (x : Value) (T : TypeId) : (w.alloc (.cells #[x] T)).cell? ⟨w.heap.size, 0, none⟩ = some x := by rw [World.cell?_alloc_new]; rfl
theorem cell_new2a (w : World) (x y : Value) (T : TypeId) : (w.alloc (.cells #[x, y] T)).cell? ⟨w.heap.size, 0, none⟩ = some x := by rw [World.cell?_alloc_new]; rfl
theorem cell_new2b (w : World) (x y : Value) (T : TypeId) : (w.alloc (.cells #[x, y] T)).cell? ⟨w.heap.size, 1, none⟩ = some y := by rw [World.cell?_alloc_new]; rfl
end Go.Proofs.Ytabllmoeehjknaa.T1
