/- Subterms counted for which a function says yes. -/
import Derived.Test.YtabllmoeehjknaaVisit
namespace Go.Proofs.Ytabllmoeehjknaa.T1
open Go.RowKit
set_option maxRecDepth 100000

/-- The counter's block and the function's block. -/
def CntI (bf bn : Nat) (fv : Value) (hp : Tm → Bool) (J : World → Prop) (acc : List Tm) (w : World) : Prop :=
  (∃ Tf, w.heap[bf]? = some (.cells #[fv] Tf (0, 0))) ∧ (∃ Tn, w.heap[bn]? = some (.cells #[.int .i64 (wrap64 (acc.countP hp : Nat))] Tn (0, 0))) ∧ J w

theorem wrap64_lo (x : Int) : -9223372036854775808 ≤ wrap64 x ∧ wrap64 x ≤ 9223372036854775807 := by unfold wrap64; omega
theorem wrap64_succ (c : Nat) : wrap64 (wrap64 (c : Int) + 1) = wrap64 ((c + 1 : Nat) : Int) := by unfold wrap64; omega

theorem subs_len (t : Tm) : t.subs.length = t.size := by
  induction t <;> simp_all [Tm.subs, Tm.size] <;> omega

theorem first_block (w : World) (o o' : Obj) : ((w.alloc o).alloc o').heap[w.heap.size]? = some o := by
  show ((w.heap.push o).push o')[w.heap.size]? = _
  rw [Array.getElem?_push, if_neg (by simp), Array.getElem?_push, if_pos rfl]

end Go.Proofs.Ytabllmoeehjknaa.T1
