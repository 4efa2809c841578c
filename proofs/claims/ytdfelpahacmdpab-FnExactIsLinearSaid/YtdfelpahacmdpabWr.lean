/- A tree written as its text. -/
import Derived.Test.YtdfelpahacmdpabGood
import Derived.WalkSmall
namespace Go.Proofs.Ytdfelpahacmdpab.T1
open Go.RowKit
set_option maxRecDepth 100000

/-- Behind the call: what lies below 'base', and every block that is no row of elements E, is as it was. -/
structure Kp (base : Nat) (E : TypeId) (w w' : World) : Prop where
  os : w'.os = w.os
  tape : w'.tape = w.tape
  output : w'.output = w.output
  size : w.heap.size ≤ w'.heap.size
  old : ∀ k, k < base → w'.heap[k]? = w.heap[k]?
  typed : ∀ (k : Nat) (c : Array Value) (T : TypeId) (fr : Nat × Nat), w.heap[k]? = some (Obj.cells c T fr) → T ≠ E → w'.heap[k]? = w.heap[k]?
theorem Kp.refl (base : Nat) (E : TypeId) (w : World) : Kp base E w w := ⟨rfl, rfl, rfl, Nat.le_refl _, fun _ _ => rfl, fun _ _ _ _ _ _ => rfl⟩
theorem Kp.trans {base : Nat} {E : TypeId} {u v w : World} (h : Kp base E u v) (k : Kp base E v w) : Kp base E u w :=
  ⟨k.os.trans h.os, k.tape.trans h.tape, k.output.trans h.output, Nat.le_trans h.size k.size, fun i hi => (k.old i hi).trans (h.old i hi),
   fun i c T fr hi hT => (k.typed i c T fr ((h.typed i c T fr hi hT).trans hi) hT).trans (h.typed i c T fr hi hT)⟩
theorem Kp.of_below {base : Nat} {E : TypeId} {u v : World} (h : Below u.heap.size u v) (hb : base ≤ u.heap.size) : Kp base E u v :=
  ⟨h.os, h.tape, h.output, h.size, fun i hi => h.block i (by omega), fun i _ _ _ hi _ => h.block i (lt_of_block hi)⟩
theorem Kp.of_grown {base : Nat} {E : TypeId} {u v : World} {x : Value} {n sz : Nat} {xs : List Value} (h : u.grownBy v x.ownBlock) (ho : u.ownsRow base E sz x n xs) (hb : base ≤ u.heap.size) : Kp base E u v := by
  have hg : ∀ k, some k = x.ownBlock → base ≤ k ∧ ∃ c, u.heap[k]? = some (.cells c E (0, 0)) := by
    intro k hk
    rcases ho.2 with ⟨rfl, _⟩ | ⟨g, cap, cur, rfl, h1, h2, _⟩
    · simp [Value.ownBlock] at hk
    · simp [Value.ownBlock] at hk; subst hk; exact ⟨h1, _, h2⟩
  refine ⟨h.os, h.tape, h.output, h.size, fun k hk => h.block k (by omega) (fun e => ?_), fun k c T fr hk hT => h.block k (lt_of_block hk) (fun e => ?_)⟩
  · have := (hg k e).1; omega
  · obtain ⟨c', h'⟩ := (hg k e).2; rw [hk] at h'; cases h'; exact hT rfl
theorem Kp.below {base : Nat} {E : TypeId} {u v : World} (h : Kp base E u v) : Below base u v := ⟨h.os, h.tape, h.output, h.size, h.old⟩
theorem owns_below {w w' : World} {base : Nat} {e : TypeId} {size : Nat} {v : Value} {n : Nat} {xs : List Value} (h : w.ownsRow base e size v n xs) (k : Below w.heap.size w w') : w'.ownsRow base e size v n xs := by
  obtain ⟨h1, h2⟩ := h
  refine ⟨h1, ?_⟩
  rcases h2 with h2 | ⟨g, cap, cur, hv, hg, hh, r⟩
  · exact .inl h2
  · exact .inr ⟨g, cap, cur, hv, hg, (k.block g (lt_of_block hh)).trans hh, r⟩

theorem cell_row (W : World) (l : List Value) (T : TypeId) : ∀ j u, l[j]? = some u → (W.alloc (.cells l.toArray T)).cell? ((⟨W.heap.size, 0, none⟩ : Addr).add j) = some u := by
  intro j u hj
  have : (⟨W.heap.size, 0, none⟩ : Addr).add j = ⟨W.heap.size, j, none⟩ := by
    unfold Addr.add
    split
    · rename_i h; rw [h]
    · rw [Nat.zero_add]
  rw [this, World.cell?_alloc_new]
  simpa using hj
theorem cell_row2 (w : World) (o : Obj) (l : List Value) (T : TypeId) : ∀ j u, l[j]? = some u → ((w.alloc o).alloc (.cells l.toArray T)).cell? ((⟨w.heap.size + 1, 0, none⟩ : Addr).add j) = some u := by
  have := cell_row (w.alloc o) l T
  rw [show (w.alloc o).heap.size = w.heap.size + 1 from by simp] at this
  exact this
theorem ub_one (l : List UInt8) : ∀ u ∈ l.map ub, u.oneCell' = true := by
  intro u hu
  obtain ⟨c, _, rfl⟩ := List.mem_map.1 hu
  rfl
theorem Try.infoU8 : (Try.prog.info? 5).map (fun i => (i.zero, i.size, i.bytes)) = some (some (.int .u8 0), 1, 1) := by kernel_rfl

/-- What a writer leaves: the bytes that it was handed, and behind them those of l. -/
def WrPost (base n : Nat) (xs : List Value) (l : List UInt8) (w : World) (e : Ending) (w' : World) : Prop :=
  ∃ v', e = .returned v' ∧ w'.ownsRow base 5 1 v' (n + l.length) (xs ++ l.map ub) ∧ Kp base 5 w w'

end Go.Proofs.Ytdfelpahacmdpab.T1
