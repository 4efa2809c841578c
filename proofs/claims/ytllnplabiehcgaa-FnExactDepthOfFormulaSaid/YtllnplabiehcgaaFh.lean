/- Formulas read whole, and how deep they are: in the program. -/
import Derived.Test.YtllnplabiehcgaaFf
import Derived.Test.YtllnplabiehcgaaFg
import Derived.Deep.RegionHeld3
namespace Go.Proofs.Ytllnplabiehcgaa.T1
open Go.RowKit
set_option maxRecDepth 100000
set_option linter.unusedVariables false
set_option linter.unusedSimpArgs false

/-- The formula that a text is. -/
def fmOf (l : List UInt8) : Option Fm := if l.length ≤ 400 then (match F l with | some (f, []) => some f | _ => none) else none
theorem fmOf_long {l : List UInt8} (h : 400 < l.length) : fmOf l = none := by rw [fmOf, if_neg (by omega)]
theorem fmOf_none {l : List UInt8} (h : F l = none) : fmOf l = none := by unfold fmOf; rw [h]; split <;> rfl
theorem fmOf_rest {l r : List UInt8} {f : Fm} (h : F l = some (f, r)) (hr : r ≠ []) : fmOf l = none := by
  unfold fmOf; rw [h]
  cases r with
  | nil => exact absurd rfl hr
  | cons c r => split <;> rfl
theorem fmOf_yes {l : List UInt8} {f : Fm} (hl : l.length ≤ 400) (h : F l = some (f, [])) : fmOf l = some f := by unfold fmOf; rw [h, if_pos hl]
theorem fmOf_out {l : List UInt8} {f : Fm} (h : fmOf l = some f) : l.length ≤ 400 ∧ l = f.pr ∧ f.ok = true := by
  unfold fmOf at h
  split at h
  · rename_i hl
    split at h
    · rename_i f' he
      cases h
      have := F_some he
      exact ⟨hl, by simpa using this.1, this.2⟩
    · cases h
  · cases h

def RfPost (s : ByteArray) (w : World) (e : Ending) (w' : World) : Prop :=
  ((∃ f, fmOf s.data.toList = some f ∧ e = .returned (.tuple #[.iface (ftyOf f) (fpay f), .bool true])) ∨ (fmOf s.data.toList = none ∧ ∃ v, IsIf2 v ∧ e = .returned (.tuple #[v, .bool false]))) ∧ Below w.heap.size w w'
theorem new_blockF (w : World) (o : Obj) : (w.alloc o).heap[w.heap.size]? = some o := by
  show (w.heap.push o)[w.heap.size]? = _
  rw [Array.getElem?_push, if_pos rfl]
set_option maxHeartbeats 1000000 in
theorem readFormula_any (s : ByteArray) (w : World) (hm : s.size ≤ 9223372036854775807) : Calls Try.prog 10 #[.string s] w (RfPost s w) := by
  by_cases hs : s.size ≤ 400
  · have HR : Hid (∀ T, RdAt (w.alloc (.cells #[.string s, .int .i64 0] T)) w.heap.size s 0) := fun T => ⟨T, new_blockF _ _⟩
    have HL : Hid (s.data.toList.length = s.size) := by simp [Hid]
    go_enter Try.func10, Try.ntmps10
    go_wp2_with fail
    refine (formula_any w.heap.size s (by omega) 0 _ (Nat.zero_le _) (HR.out _)).mono ?_
    rintro e w1 (⟨f, m, rfl, r1, o1, h1, h2, e1⟩ | ⟨v, m, hv, rfl, r1, o1, h1, h2, e1⟩)
    · have HE : Hid (F s.data.toList = some (f, s.data.toList.drop m)) := e1
      clear e1
      have hB : Below w.heap.size w w1 := Below.only ((Below.refl _ _).alloc (Nat.le_refl _) _) o1 (Nat.le_refl _) (by simp)
      have c1 := r1.c1
      obtain ⟨T, hT⟩ : ∃ T, T = ftyOf f := ⟨_, rfl⟩
      obtain ⟨V, hV⟩ : ∃ V, V = fpay f := ⟨_, rfl⟩
      rw [← hT, ← hV]
      have HTV : Hid (T = ftyOf f ∧ V = fpay f) := ⟨hT, hV⟩
      clear hT hV
      by_cases hme : m = s.size
      · have t1 : ((m : Int) == (s.size : Int)) = true := by rw [hme]; simp
        have HG : Hid (fmOf s.data.toList = some f) := by
          refine fmOf_yes (by rw [HL.out]; omega) ?_
          have := HE.out; rw [List.drop_of_length_le (by rw [HL.out]; omega)] at this; exact this
        clear hme
        go_wp2_with fail
        go_quiet (fail)
        go_wp2_with fail
        go_ret2
        exact ⟨.inl ⟨f, HG.out, by rw [← HTV.out.1, ← HTV.out.2]; rfl⟩, below_drewN' hB _⟩
      · have t1 : ((m : Int) == (s.size : Int)) = false := by rw [beq_eq_false_iff_ne]; omega
        have HG : Hid (fmOf s.data.toList = none) := fmOf_rest HE.out (by intro h; have := congrArg List.length h; rw [List.length_drop, HL.out] at this; simp at this; omega)
        clear hme
        go_wp2_with fail
        go_quiet (fail)
        go_wp2_with fail
        go_ret2
        exact ⟨.inr ⟨HG.out, _, iface_if _ _, rfl⟩, below_drewN' hB _⟩
    · have HG : Hid (fmOf s.data.toList = none) := fmOf_none e1
      have hB : Below w.heap.size w w1 := Below.only ((Below.refl _ _).alloc (Nat.le_refl _) _) o1 (Nat.le_refl _) (by simp)
      have HV := Lib.hid hv
      have c1 := r1.c1
      clear e1 hv
      go_wp2_with fail
      go_quiet (fail)
      go_wp2_with fail
      go_ret2
      exact ⟨.inr ⟨HG.out, _, HV.out, rfl⟩, below_drewN' hB _⟩
  · have HG : Hid (fmOf s.data.toList = none) := fmOf_long (by simp; omega)
    go_enter Try.func10, Try.ntmps10
    go_wp2_with fail
    go_ret2
    exact ⟨.inr ⟨HG.out, _, .inl rfl, rfl⟩, Below.refl _ _⟩
/-- On the specification's side. -/
def isFm (l : List UInt8) : Bool := (fmOf l).isSome
set_option maxHeartbeats 1000000 in
theorem biIs_any (s : ByteArray) (w : World) (hm : s.size ≤ 9223372036854775807) : Calls Try.prog 9 #[.string s] w fun e w' => e = .returned (.bool (isFm s.data.toList)) ∧ Below w.heap.size w w' := by
  by_cases hs : s.size ≤ 400
  · have HI := Lib.hid (biEnd_any s hs 0 (by omega))
    have HL : s.data.toList.length = s.size := by simp
    rcases fEnd_cases s 0 with ⟨e1, E1⟩ | ⟨f, m, h1, h2, e1, E1⟩
    · rw [e1] at HI
      have HG : Hid (isFm s.data.toList = false) := by show _ = _; unfold isFm; rw [fmOf_none (l := s.data.toList) E1]; rfl
      have t1 : ((-1 : Int) == (s.size : Int)) = false := by rw [beq_eq_false_iff_ne]; omega
      have hsI : (s.size : Int) ≤ 400 := by omega
      clear e1 E1 HL
      go_enter Try.func9, Try.ntmps9
      go_wp2_with fail
      refine (HI.out _).mono ?_
      rintro e w1 ⟨rfl, b1⟩
      go_wp2_with fail
      go_ret
      exact ⟨by rw [HG.out]; rfl, b1⟩
    · rw [e1] at HI
      have HG : Hid (isFm s.data.toList = decide (m = s.size)) := by
        show _ = _
        by_cases hme : m = s.size
        · have E1' : F s.data.toList = some (f, s.data.toList.drop m) := E1
          rw [List.drop_of_length_le (by omega)] at E1'
          unfold isFm; rw [fmOf_yes (by omega) E1']; simp [hme]
        · have E1' : F s.data.toList = some (f, s.data.toList.drop m) := E1
          unfold isFm; rw [fmOf_rest E1' (by intro h; have := congrArg List.length h; rw [List.length_drop] at this; simp at this; omega)]; simp [hme]
      have hsI : (s.size : Int) ≤ 400 := by omega
      clear e1 E1 HL
      by_cases hme : m = s.size
      · have t1 : ((m : Int) == (s.size : Int)) = true := by rw [hme]; simp
        have HM := Lib.hid hme
        clear hme
        go_enter Try.func9, Try.ntmps9
        go_wp2_with fail
        refine (HI.out _).mono ?_
        rintro e w1 ⟨rfl, b1⟩
        go_wp2_with fail
        go_ret
        exact ⟨by rw [HG.out, decide_eq_true HM.out]; rfl, b1⟩
      · have t1 : ((m : Int) == (s.size : Int)) = false := by rw [beq_eq_false_iff_ne]; omega
        have HM := Lib.hid hme
        clear hme
        go_enter Try.func9, Try.ntmps9
        go_wp2_with fail
        refine (HI.out _).mono ?_
        rintro e w1 ⟨rfl, b1⟩
        go_wp2_with fail
        go_ret
        exact ⟨by rw [HG.out, decide_eq_false HM.out]; rfl, b1⟩
  · have HG : Hid (isFm s.data.toList = false) := by show _ = _; unfold isFm; rw [fmOf_long (by simp; omega)]; rfl
    go_enter Try.func9, Try.ntmps9
    go_wp2_with fail
    go_ret
    exact ⟨by rw [HG.out]; rfl, Below.refl _ _⟩

end Go.Proofs.Ytllnplabiehcgaa.T1
