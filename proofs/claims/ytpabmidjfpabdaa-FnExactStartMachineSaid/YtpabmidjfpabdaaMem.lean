/- Memory: what a call leaves that writes into one old block alone; the block of a reader. Plain lemmas. -/
import Derived.Below
import Derived.OneCell
import Derived.Deep.Draws
namespace Go.Proofs.Ytpabmidjfpabdaa.T1
open Go.RowKit

/-- Behind the call only block b, of the old ones, may have turned. -/
structure Only (b : Nat) (w w' : World) : Prop where
  os : w'.os = w.os
  tape : w'.tape = w.tape
  output : w'.output = w.output
  size : w.heap.size ≤ w'.heap.size
  block : ∀ k, k < w.heap.size → k ≠ b → w'.heap[k]? = w.heap[k]?
theorem Only.refl (b : Nat) (w : World) : Only b w w := ⟨rfl, rfl, rfl, Nat.le_refl _, fun _ _ _ => rfl⟩
theorem Only.trans {b : Nat} {u v w : World} (h : Only b u v) (k : Only b v w) : Only b u w :=
  ⟨k.os.trans h.os, k.tape.trans h.tape, k.output.trans h.output, Nat.le_trans h.size k.size, fun i hi hb => (k.block i (Nat.lt_of_lt_of_le hi h.size) hb).trans (h.block i hi hb)⟩
theorem Only.drewN {b : Nat} {u v : World} (h : Only b u v) (n : Nat) : Only b u (v.drewN n) := h.trans ⟨rfl, rfl, rfl, Nat.le_refl _, fun _ _ _ => rfl⟩
theorem Only.drew {b : Nat} {u v : World} (h : Only b u v) : Only b u v.drew := h.trans ⟨rfl, rfl, rfl, Nat.le_refl _, fun _ _ _ => rfl⟩
theorem Only.setCell {b : Nat} {u v : World} (h : Only b u v) (o : Nat) (sp) (x : Value) : Only b u (v.setCell ⟨b, o, sp⟩ x) :=
  h.trans ⟨rfl, rfl, rfl, by simp [World.setCell], fun k _ hb => Below.heap_setCell _ _ _ _ hb⟩
theorem Only.alloc {b : Nat} {u v : World} (h : Only b u v) (o : Obj) : Only b u (v.alloc o) :=
  h.trans ⟨rfl, rfl, rfl, by simp, fun k hk _ => Below.heap_alloc _ _ _ hk⟩
theorem Only.below {b : Nat} {u v w : World} (h : Only b u v) (k : Below v.heap.size v w) : Only b u w :=
  h.trans ⟨k.os, k.tape, k.output, k.size, fun i hi _ => k.block i hi⟩
theorem Below.only {B b : Nat} {u v w : World} (h : Below B u v) (k : Only b v w) (hb : B ≤ b) (hB : B ≤ v.heap.size) : Below B u w :=
  h.trans ⟨k.os, k.tape, k.output, k.size, fun i hi => k.block i (by omega) (by omega)⟩
theorem below_trans {B : Nat} {u v w : World} (h : Below B u v) (k : Below v.heap.size v w) (hB : B ≤ v.heap.size) : Below B u w := h.trans (k.mono hB)
theorem below_drewN' {B : Nat} {u v : World} (h : Below B u v) (n : Nat) : Below B u (v.drewN n) := h.trans ⟨rfl, rfl, rfl, Nat.le_refl _, fun _ _ => rfl⟩

/-- Block b is a reader of the text s, at the place a. -/
def RdAt (w : World) (b : Nat) (s : ByteArray) (a : Nat) : Prop := ∃ T, w.heap[b]? = some (.cells #[.string s, .int .i64 (a : Int)] T (0, 0))
theorem RdAt.c0 {w : World} {b : Nat} {s : ByteArray} {a : Nat} (h : RdAt w b s a) : w.cell? ⟨b, 0, none⟩ = some (.string s) := by obtain ⟨T, h⟩ := h; simp [World.cell?, h]
theorem RdAt.c1 {w : World} {b : Nat} {s : ByteArray} {a : Nat} (h : RdAt w b s a) : w.cell? ⟨b, 1, none⟩ = some (.int .i64 (a : Int)) := by obtain ⟨T, h⟩ := h; simp [World.cell?, h]
theorem RdAt.f1 {w : World} {b : Nat} {s : ByteArray} {a : Nat} (h : RdAt w b s a) : w.frozen? ⟨b, 1, none⟩ = false := by obtain ⟨T, h⟩ := h; simp [World.frozen?, h]
theorem RdAt.lt {w : World} {b : Nat} {s : ByteArray} {a : Nat} (h : RdAt w b s a) : b < w.heap.size := by obtain ⟨T, h⟩ := h; exact lt_of_block h
theorem RdAt.drewN {w : World} {b : Nat} {s : ByteArray} {a : Nat} (h : RdAt w b s a) (n : Nat) : RdAt (w.drewN n) b s a := h
theorem RdAt.set {w : World} {b : Nat} {s : ByteArray} {a : Nat} (h : RdAt w b s a) (c : Nat) : RdAt (w.setCell ⟨b, 1, none⟩ (.int .i64 (c : Int))) b s c := by
  obtain ⟨T, h⟩ := h
  have hlt := lt_of_block h
  have h' : w.heap[b] = .cells #[.string s, .int .i64 (a : Int)] T (0, 0) := by simpa [Array.getElem?_eq_getElem hlt] using h
  refine ⟨T, ?_⟩
  show (w.heap.modify b _)[b]? = _
  rw [Array.getElem?_eq_getElem (by simpa using hlt), Array.getElem_modify_self, h']
  rfl
theorem RdAt.below {w w' : World} {b : Nat} {s : ByteArray} {a : Nat} (h : RdAt w b s a) (k : Below w.heap.size w w') : RdAt w' b s a := by
  have hlt := h.lt
  obtain ⟨T, h⟩ := h
  exact ⟨T, (k.block b hlt).trans h⟩
theorem RdAt.alloc {w : World} {b : Nat} {s : ByteArray} {a : Nat} (h : RdAt w b s a) (o : Obj) : RdAt (w.alloc o) b s a := h.below ((Below.refl _ _).alloc (Nat.le_refl _) o)

end Go.Proofs.Ytpabmidjfpabdaa.T1
