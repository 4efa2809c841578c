/- The specification's look at a process in a text: the kind of its first sign, what stands in front of its part, its parts. -/
import Derived.Test.YtabllmoeehjknaaSpecA
import Derived.RegionTactic
import Derived.BigRegion
import Derived.OneCell
import Derived.IntWalk
namespace Go.Proofs.Ytabllmoeehjknaa.T1
open Go.RowKit
set_option maxRecDepth 100000

/-- The text of a tree. -/
def S (t : Tm) : ByteArray := ⟨t.pr.toArray⟩
theorem S_list (t : Tm) : (S t).data.toList = t.pr := rfl
theorem S_size (t : Tm) : (S t).size = t.pr.length := by simp [S, ByteArray.size]
theorem byte_of {s : ByteArray} {l : List UInt8} (h : s.data.toList = l) (i : Nat) (hi : i < s.size) (hl : i < l.length) : s[i] = l[i] := by
  subst h; rfl
theorem size_of_l {s : ByteArray} {l : List UInt8} (h : s.data.toList = l) : s.size = l.length := by subst h; simp
theorem drop_of {s : ByteArray} {l : List UInt8} (h : s.data.toList = l) (i : Nat) : s.data.toList.drop i = l.drop i := by rw [h]
theorem endOf_1 {s : ByteArray} {p : Tm} {m : UInt8} {r : List UInt8} (h : s.data.toList = 40 :: (p.pr ++ m :: r)) (ho : p.ok nmE = true) : endOf nmE s 1 = ((p.pr.length + 1 : Nat) : Int) := by
  have he : E nmE (s.data.toList.drop 1) = some (p, m :: r) := (E_some nmE_nm).2 ⟨by rw [h]; simp, ho⟩
  unfold endOf
  rw [he]
  have := size_of_l h
  simp at this
  simp only [List.length_cons]
  omega
theorem mid_at {s : ByteArray} {p : Tm} {m : UInt8} {r : List UInt8} (h : s.data.toList = 40 :: (p.pr ++ m :: r)) (hi : p.pr.length + 1 < s.size) : s[p.pr.length + 1] = m := by
  rw [byte_of h _ hi (by rw [size_of_l h] at hi; exact hi)]
  simp

/-- How many bytes stand in front of the first part. -/
def Tm.hd : Tm → Nat
  | .rep _ => 1
  | .sum _ _ => 1
  | .par _ _ => 1
  | .tau _ => 2
  | .own _ _ => 3
  | .mat _ _ _ => 5
  | _ => 4

theorem new_block0 (w : World) (o : Obj) : (w.alloc o).heap[w.heap.size]? = some o := by
  show (w.heap.push o)[w.heap.size]? = _
  rw [Array.getElem?_push, if_pos rfl]

/-- A slice of the parts' texts, in memory of the call's own. -/
def PartsS (ps : List Tm) (w : World) (e : Ending) (w' : World) : Prop :=
  match ps with
  | [] => e = .returned (.slice none 0 0) ∧ Below w.heap.size w w'
  | [p] => ∃ b, e = .returned (.slice (some ⟨b, 0, none⟩) 1 1) ∧ w.heap.size ≤ b ∧ w'.heap[b]? = some (.cells #[.string (S p)] 9 (0, 0)) ∧ Below w.heap.size w w'
  | [p, q] => ∃ b, e = .returned (.slice (some ⟨b, 0, none⟩) 2 2) ∧ w.heap.size ≤ b ∧ w'.heap[b]? = some (.cells #[.string (S p), .string (S q)] 9 (0, 0)) ∧ Below w.heap.size w w'
  | _ => False

theorem ext_S {s : ByteArray} {l : List UInt8} (h : s.data.toList = l) (i j : Nat) (t : Tm) (ht : (l.drop i).take (j - i) = t.pr) : s.extract i j = S t := by
  apply ByteArray.ext
  apply Array.ext'
  show (s.extract i j).data.toList = t.pr
  rw [← ht, ← h]
  simp [ByteArray.data_extract, Array.toList_extract]

theorem pr_take (l : List UInt8) (n : Nat) (h : l.length ≤ n) : l.take n = l := List.take_of_length_le h
theorem ext_pre {t p : Tm} {pre : List UInt8} (h : t.pr = pre ++ p.pr) : (S t).extract pre.length (S t).size = S p :=
  ext_S (S_list t) _ _ p (by rw [h, List.drop_left, S_size, h, List.length_append]; exact pr_take _ _ (by omega))
theorem ext_l {t p : Tm} {m : UInt8} {r : List UInt8} (h : t.pr = 40 :: (p.pr ++ m :: r)) : (S t).extract 1 (p.pr.length + 1) = S p :=
  ext_S (S_list t) _ _ p (by rw [h, List.drop_succ_cons, List.drop_zero, Nat.add_sub_cancel, List.take_left])
theorem ext_r {t p q : Tm} {m : UInt8} (h : t.pr = 40 :: (p.pr ++ m :: (q.pr ++ [41]))) : (S t).extract (p.pr.length + 1 + 1) ((S t).size - 1) = S q :=
  ext_S (S_list t) _ _ q (by
    have e : t.pr = (40 :: p.pr ++ [m]) ++ (q.pr ++ [41]) := by rw [h]; simp
    have l1 : (40 :: p.pr ++ [m]).length = p.pr.length + 1 + 1 := by simp
    rw [S_size, e, ← l1, List.drop_left, List.length_append]
    have : (40 :: p.pr ++ [m]).length + (q.pr ++ [41]).length - 1 - (40 :: p.pr ++ [m]).length = q.pr.length := by simp
    rw [this, List.take_left])

end Go.Proofs.Ytabllmoeehjknaa.T1
