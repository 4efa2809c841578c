/- The size of a tree; a text parsed. -/
import Derived.Test.YtabllmoeehjknaaCount
import Derived.Test.YtabllmoeehjknaaImplE
namespace Go.Proofs.Ytabllmoeehjknaa.T1
open Go.RowKit
set_option maxRecDepth 100000

/-- The tree of a process; nothing if the text is none. -/
noncomputable def good (l : List UInt8) : Option Tm :=
  if l.length ≤ 300 then
    match E nmL l with
    | some (t, []) => if t.size ≤ 60 then some t else none
    | _ => none
  else none
theorem good_long {l : List UInt8} (h : 300 < l.length) : good l = none := by rw [good, if_neg (by omega)]
theorem good_none {l : List UInt8} (h : E nmL l = none) : good l = none := by unfold good; rw [h]; split <;> rfl
theorem good_rest {l r : List UInt8} {t : Tm} (h : E nmL l = some (t, r)) (hr : r ≠ []) : good l = none := by
  unfold good; rw [h]
  cases r with
  | nil => exact absurd rfl hr
  | cons c r => split <;> rfl
theorem good_great {l : List UInt8} {t : Tm} (h : E nmL l = some (t, [])) (ht : 60 < t.size) : good l = none := by
  unfold good; rw [h]
  split
  · simp only []; rw [if_neg (by omega)]
  · rfl
theorem good_yes {l : List UInt8} {t : Tm} (hl : l.length ≤ 300) (h : E nmL l = some (t, [])) (ht : t.size ≤ 60) : good l = some t := by
  unfold good; rw [h, if_pos hl]
  simp only []; rw [if_pos ht]
theorem good_out {l : List UInt8} {t : Tm} (h : good l = some t) : l.length ≤ 300 ∧ l = t.pr ∧ t.ok nmL = true ∧ t.size ≤ 60 := by
  unfold good at h
  split at h
  · rename_i hl
    split at h
    · rename_i t' he
      split at h
      · rename_i ht
        cases h
        have := (E_some nmL_nm).1 he
        exact ⟨hl, by have h2 := this.1; rw [List.append_nil] at h2; exact h2, this.2, ht⟩
      · cases h
    · cases h
  · cases h

theorem new_block (w : World) (o : Obj) : (w.alloc o).heap[w.heap.size]? = some o := by
  show (w.heap.push o)[w.heap.size]? = _
  rw [Array.getElem?_push, if_pos rfl]

end Go.Proofs.Ytabllmoeehjknaa.T1
