/- Texts of the proof, put together: Oe. No conditions. -/
import Derived.Test.YtmfmagfgcdaeeaaGreatHbg

/- Threads written: in the specification, way by way. -/
namespace Go.Proofs.YtmfmagfgcdaeeaaGreat.T1
open Go.RowKit
set_option maxRecDepth 100000
set_option linter.unusedVariables false
set_option linter.unusedSimpArgs false

/-- Block m tells whether there were too many names at some front, and whether one order is taken alone. -/
def MkAt (w : World) (m : Nat) (br once : Bool) : Prop := w.heap[m]? = some (.cells #[.bool br, .bool once] 155 (0, 0))
theorem MkAt.c0 {w : World} {m : Nat} {br once : Bool} (h : MkAt w m br once) : w.cell? ⟨m, 0, none⟩ = some (.bool br) := by unfold MkAt at h; simp [World.cell?, h]
theorem MkAt.c1 {w : World} {m : Nat} {br once : Bool} (h : MkAt w m br once) : w.cell? ⟨m, 1, none⟩ = some (.bool once) := by unfold MkAt at h; simp [World.cell?, h]
theorem MkAt.f0 {w : World} {m : Nat} {br once : Bool} (h : MkAt w m br once) : w.frozen? ⟨m, 0, none⟩ = false := by unfold MkAt at h; simp [World.frozen?, h]
theorem MkAt.lt {w : World} {m : Nat} {br once : Bool} (h : MkAt w m br once) : m < w.heap.size := lt_of_block h
theorem MkAt.below {w w' : World} {m : Nat} {br once : Bool} (h : MkAt w m br once) (k : Below w.heap.size w w') : MkAt w' m br once := (k.block m h.lt).trans h
end Go.Proofs.YtmfmagfgcdaeeaaGreat.T1
