/- Texts of the proof, put together: ImplF. No conditions. -/
import Derived.Test.YtinkioodkgccjaaDoorHam
import Derived.Test.YtinkioodkgccjaaDoorHaq

/- The size of a tree; a text parsed. -/
namespace Go.Proofs.YtinkioodkgccjaaDoor.T1
open Go.RowKit
set_option maxRecDepth 100000

theorem size1_any (T : TypeId) (V : Value) (w : World) : Calls Tryd.prog 67 (#[.iface T V] ++ #[]) w fun e w' => e = .returned (.bool true) ∧ Below w.heap.size w w' := by
  show Calls Tryd.prog 67 #[.iface T V] w _
  go_enter Tryd.func67, Tryd.ntmps67
  go_wp2_with fail
  go_ret
  exact ⟨rfl, Below.refl _ _⟩
theorem cf_s1 (args : Array Value) (w : World) : (callFunc 67 args).run Tryd.prog w = .ok (.enter 67 args) w := by kernel_rfl

theorem size_any (t : Tm) (ht : t.size ≤ 1000) (w : World) : Calls Tryd.prog 54 #[.iface (tyOf t) (pay t)] w fun e w' => e = .returned (.int .i64 (t.size : Nat)) ∧ Below w.heap.size w w' := by
  have HC := countOf_any 67 #[] (fun _ => true) (fun _ => True) cf_s1 (fun t w _ => size1_any _ _ w) t ht w (fun _ _ _ _ => trivial) trivial
  rw [List.countP_true, subs_len] at HC
  obtain ⟨T, hT⟩ : ∃ T, T = tyOf t := ⟨_, rfl⟩
  obtain ⟨V, hV⟩ : ∃ V, V = pay t := ⟨_, rfl⟩
  obtain ⟨N, hN⟩ : ∃ N, N = t.size := ⟨_, rfl⟩
  rw [← hT, ← hV] at HC ⊢
  rw [← hN] at HC ⊢
  have H := Lib.hid HC
  clear hT hV hN HC
  go_enter Tryd.func54, Tryd.ntmps54
  go_wp2_with fail
  refine (H.out).mono ?_
  rintro e w1 ⟨rfl, bl⟩
  go_wp2_with fail
  go_ret
  exact ⟨rfl, bl⟩

/-- The tree of a process; nothing if the text is none. -/
noncomputable def good (l : List UInt8) : Option Tm :=
  if l.length ≤ 300 then
    match E nmL l with
    | some (t, []) => if t.size ≤ 60 then some t else none
    | _ => none
  else none
theorem good_long {l : List UInt8} (h : 300 < l.length) : good l = none := by rw [good, if_neg (by omega)]
theorem good_none {l : List UInt8} (h : E nmL l = none) : good l = none := by unfold good; rw [h]; split <;> rfl
theorem good_rest {l r : List UInt8} {t : Tm} (h : E nmL l = some (t, r)) (hr : r ≠ []) : good l = none := by
  unfold good; rw [h]
  cases r with
  | nil => exact absurd rfl hr
  | cons c r => split <;> rfl
theorem good_great {l : List UInt8} {t : Tm} (h : E nmL l = some (t, [])) (ht : 60 < t.size) : good l = none := by
  unfold good; rw [h]
  split
  · simp only []; rw [if_neg (by omega)]
  · rfl
theorem good_yes {l : List UInt8} {t : Tm} (hl : l.length ≤ 300) (h : E nmL l = some (t, [])) (ht : t.size ≤ 60) : good l = some t := by
  unfold good; rw [h, if_pos hl]
  simp only []; rw [if_pos ht]
theorem good_out {l : List UInt8} {t : Tm} (h : good l = some t) : l.length ≤ 300 ∧ l = t.pr ∧ t.ok nmL = true ∧ t.size ≤ 60 := by
  unfold good at h
  split at h
  · rename_i hl
    split at h
    · rename_i t' he
      split at h
      · rename_i ht
        cases h
        have := (E_some nmL_nm).1 he
        exact ⟨hl, by have h2 := this.1; rw [List.append_nil] at h2; exact h2, this.2, ht⟩
      · cases h
    · cases h
  · cases h

def ParsePost (s : ByteArray) (w : World) (e : Ending) (w' : World) : Prop :=
  ((∃ t, good s.data.toList = some t ∧ e = .returned (.tuple #[.iface (tyOf t) (pay t), .bool true])) ∨ (good s.data.toList = none ∧ e = .returned (.tuple #[.nilIface, .bool false]))) ∧ Below w.heap.size w w'

theorem new_block (w : World) (o : Obj) : (w.alloc o).heap[w.heap.size]? = some o := by
  show (w.heap.push o)[w.heap.size]? = _
  rw [Array.getElem?_push, if_pos rfl]

set_option maxHeartbeats 1000000 in
theorem parse_any (s : ByteArray) (w : World) (hm : s.size ≤ 9223372036854775807) : Calls Tryd.prog 41 #[.string s] w (ParsePost s w) := by
  by_cases hs : s.size ≤ 300
  · have HR : Hid (∀ T, RdAt (w.alloc (.cells #[.string s, .int .i64 0] T)) w.heap.size s 0) := fun T => ⟨T, new_block _ _⟩
    have HL : Hid (s.data.toList.length = s.size) := by simp [Hid]
    go_enter Tryd.func41, Tryd.ntmps41
    go_wp2_with fail
    refine (process_any w.heap.size s hs 0 _ (Nat.zero_le _) (HR.out _)).mono ?_
    rintro e w1 (⟨t, m, rfl, r1, o1, h1, h2, e1⟩ | ⟨v, rfl, o1, e1⟩)
    · have HE : Hid (E nmL s.data.toList = some (t, s.data.toList.drop m)) := e1
      have hsz : t.size ≤ 300 := by
        have h3 := (E_some nmL_nm).1 HE.out
        have h4 := size_le_pr t
        have h5 : s.data.toList.length = t.pr.length + (s.data.toList.drop m).length := by rw [← List.length_append, ← h3.1]
        rw [HL.out] at h5
        omega
      have HS := fun w => size_any t (by omega) w
      clear e1
      have hB : Below w.heap.size w w1 := Below.only ((Below.refl _ _).alloc (Nat.le_refl _) _) o1 (Nat.le_refl _) (by simp)
      have c1 := r1.c1
      by_cases hme : m = s.size
      · have t1 : ((m : Int) != (s.size : Int)) = false := by rw [hme]; simp
        have HE2 : Hid (E nmL s.data.toList = some (t, [])) := by have := HE.out; rw [List.drop_of_length_le (by rw [HL.out]; omega)] at this; exact this
        by_cases ht : t.size ≤ 60
        · have HG : Hid (good s.data.toList = some t) := good_yes (by rw [HL.out]; exact hs) HE2.out ht
          obtain ⟨T, hT⟩ : ∃ T, T = tyOf t := ⟨_, rfl⟩
          obtain ⟨V, hV⟩ : ∃ V, V = pay t := ⟨_, rfl⟩
          obtain ⟨N, hN⟩ : ∃ N, N = t.size := ⟨_, rfl⟩
          rw [← hT, ← hV, ← hN] at HS
          rw [← hT, ← hV]
          rw [← hN] at ht
          have HTV : Hid (T = tyOf t ∧ V = pay t) := ⟨hT, hV⟩
          have HS2 := Lib.hid HS
          clear hme hT hV hN HS
          go_wp2_with fail
          refine (HS2.out _).mono ?_
          rintro e w2 ⟨rfl, bl⟩
          go_wp2_with fail
          go_ret2
          exact ⟨.inl ⟨t, HG.out, by rw [← HTV.out.1, ← HTV.out.2]; rfl⟩, below_trans hB bl hB.size⟩
        · have HG : Hid (good s.data.toList = none) := good_great HE2.out (by omega)
          obtain ⟨T, hT⟩ : ∃ T, T = tyOf t := ⟨_, rfl⟩
          obtain ⟨V, hV⟩ : ∃ V, V = pay t := ⟨_, rfl⟩
          obtain ⟨N, hN⟩ : ∃ N, N = t.size := ⟨_, rfl⟩
          rw [← hT, ← hV, ← hN] at HS
          rw [← hT, ← hV]
          rw [← hN] at ht
          have HS2 := Lib.hid HS
          clear hme hT hV hN HS
          go_wp2_with fail
          refine (HS2.out _).mono ?_
          rintro e w2 ⟨rfl, bl⟩
          go_wp2_with fail
          go_ret2
          exact ⟨.inr ⟨HG.out, rfl⟩, below_trans hB bl hB.size⟩
      · have t1 : ((m : Int) != (s.size : Int)) = true := by simp; omega
        have HG : Hid (good s.data.toList = none) := good_rest HE.out (by intro h; have := congrArg List.length h; rw [List.length_drop, HL.out] at this; simp at this; omega)
        obtain ⟨T, hT⟩ : ∃ T, T = tyOf t := ⟨_, rfl⟩
        obtain ⟨V, hV⟩ : ∃ V, V = pay t := ⟨_, rfl⟩
        rw [← hT, ← hV]
        clear hme hT hV HS
        go_wp2_with fail
        go_ret2
        exact ⟨.inr ⟨HG.out, rfl⟩, hB⟩
    · have HG : Hid (good s.data.toList = none) := good_none e1
      have hB : Below w.heap.size w w1 := Below.only ((Below.refl _ _).alloc (Nat.le_refl _) _) o1 (Nat.le_refl _) (by simp)
      clear e1
      go_wp2_with fail
      go_ret2
      exact ⟨.inr ⟨HG.out, rfl⟩, hB⟩
  · have HG : Hid (good s.data.toList = none) := good_long (by simp; omega)
    go_enter Tryd.func41, Tryd.ntmps41
    go_wp2_with fail
    go_ret2
    exact ⟨.inr ⟨HG.out, rfl⟩, Below.refl _ _⟩

end Go.Proofs.YtinkioodkgccjaaDoor.T1
