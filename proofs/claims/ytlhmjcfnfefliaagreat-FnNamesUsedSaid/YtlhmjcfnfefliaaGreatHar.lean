/- Texts of the proof, put together: Wr. No conditions. -/
import Derived.Test.YtlhmjcfnfefliaaGreatHao
import Derived.WalkSmall

/- A tree written as its text. -/
namespace Go.Proofs.YtlhmjcfnfefliaaGreat.T1
open Go.RowKit
set_option maxRecDepth 100000

/-- Behind the call: what lies below 'base', and every block that is no row of elements E, is as it was. -/
structure Kp (base : Nat) (E : TypeId) (w w' : World) : Prop where
  os : w'.os = w.os
  tape : w'.tape = w.tape
  output : w'.output = w.output
  size : w.heap.size ≤ w'.heap.size
  old : ∀ k, k < base → w'.heap[k]? = w.heap[k]?
  typed : ∀ (k : Nat) (c : Array Value) (T : TypeId) (fr : Nat × Nat), w.heap[k]? = some (Obj.cells c T fr) → T ≠ E → w'.heap[k]? = w.heap[k]?
theorem Kp.refl (base : Nat) (E : TypeId) (w : World) : Kp base E w w := ⟨rfl, rfl, rfl, Nat.le_refl _, fun _ _ => rfl, fun _ _ _ _ _ _ => rfl⟩
theorem Kp.trans {base : Nat} {E : TypeId} {u v w : World} (h : Kp base E u v) (k : Kp base E v w) : Kp base E u w :=
  ⟨k.os.trans h.os, k.tape.trans h.tape, k.output.trans h.output, Nat.le_trans h.size k.size, fun i hi => (k.old i hi).trans (h.old i hi),
   fun i c T fr hi hT => (k.typed i c T fr ((h.typed i c T fr hi hT).trans hi) hT).trans (h.typed i c T fr hi hT)⟩
theorem Kp.of_below {base : Nat} {E : TypeId} {u v : World} (h : Below u.heap.size u v) (hb : base ≤ u.heap.size) : Kp base E u v :=
  ⟨h.os, h.tape, h.output, h.size, fun i hi => h.block i (by omega), fun i _ _ _ hi _ => h.block i (lt_of_block hi)⟩
theorem Kp.below {base : Nat} {E : TypeId} {u v : World} (h : Kp base E u v) : Below base u v := ⟨h.os, h.tape, h.output, h.size, h.old⟩
theorem cell_row (W : World) (l : List Value) (T : TypeId) : ∀ j u, l[j]? = some u → (W.alloc (.cells l.toArray T)).cell? ((⟨W.heap.size, 0, none⟩ : Addr).add j) = some u := by
  intro j u hj
  have : (⟨W.heap.size, 0, none⟩ : Addr).add j = ⟨W.heap.size, j, none⟩ := by
    unfold Addr.add
    split
    · rename_i h; rw [h]
    · rw [Nat.zero_add]
  rw [this, World.cell?_alloc_new]
  simpa using hj
theorem Tryz.infoU8 : (Tryz.prog.info? 5).map (fun i => (i.zero, i.size, i.bytes)) = some (some (.int .u8 0), 1, 1) := by kernel_rfl

end Go.Proofs.YtlhmjcfnfefliaaGreat.T1
