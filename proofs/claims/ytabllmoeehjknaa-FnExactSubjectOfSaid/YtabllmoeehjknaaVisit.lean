/- Every subterm is visited, the whole first. -/
import Derived.Test.YtabllmoeehjknaaParts
import Derived.LoopN
namespace Go.Proofs.Ytabllmoeehjknaa.T1
open Go.RowKit
set_option maxRecDepth 100000

/-- All subterms, the whole first. -/
def Tm.subs : Tm → List Tm
  | .nil => [.nil]
  | .snd a b p => .snd a b p :: p.subs
  | .rcv a b p => .rcv a b p :: p.subs
  | .tau p => .tau p :: p.subs
  | .sum p q => .sum p q :: (p.subs ++ q.subs)
  | .par p q => .par p q :: (p.subs ++ q.subs)
  | .own x p => .own x p :: p.subs
  | .mat a b p => .mat a b p :: p.subs
  | .rep p => .rep p :: p.subs

/-- What a visit of the signs ts leaves behind: nothing handed back; the invariant; one block written. -/
def VisPost (bn : Nat) (I : List Tm → World → Prop) (acc : List Tm) (w : World) (e : Ending) (w' : World) : Prop := e = .returned (.tuple #[]) ∧ I acc w' ∧ Only bn w w'

theorem cellOf1 {w : World} {b : Nat} {x : Value} {T : TypeId} (h : w.heap[b]? = some (.cells #[x] T (0, 0))) : w.cell? ⟨b, 0, none⟩ = some x := by simp [World.cell?, h]
theorem cellOf2a {w : World} {b : Nat} {x y : Value} {T : TypeId} (h : w.heap[b]? = some (.cells #[x, y] T (0, 0))) : w.cell? ⟨b, 0, none⟩ = some x := by simp [World.cell?, h]
theorem cellOf2b {w : World} {b : Nat} {x y : Value} {T : TypeId} (h : w.heap[b]? = some (.cells #[x, y] T (0, 0))) : w.cell? ⟨b, 1, none⟩ = some y := by simp [World.cell?, h]

end Go.Proofs.Ytabllmoeehjknaa.T1
