/- The specification's size of a process, and when a text is one. -/
import Derived.Test.YtabllmoeehjknaaSpecB
import Derived.Test.YtabllmoeehjknaaImplF
import Derived.LoopN
namespace Go.Proofs.Ytabllmoeehjknaa.T1
open Go.RowKit
set_option maxRecDepth 100000

theorem ok_EL (t : Tm) (h : t.ok nmL = true) : t.ok nmE = true := by
  have k : ∀ c, nmL c = true → nmE c = true := fun c h => by simp [nmL, nmE] at h ⊢; omega
  induction t <;> simp_all [Tm.ok]
theorem ok_small (t : Tm) (h : t.ok nmE = true) (hs : t.pr.all smB = true) : t.ok nmL = true := by
  have k : ∀ c, nmE c = true → smB c = true → nmL c = true := fun c h h2 => by simp [nmL, nmE, smB] at h h2 ⊢; omega
  induction t <;> simp_all [Tm.ok, Tm.pr]
theorem small_ok (t : Tm) (h : t.ok nmL = true) : t.pr.all smB = true := by
  have k : ∀ c, nmL c = true → smB c = true := fun c h => by simp [nmL, smB] at h ⊢; omega
  induction t <;> simp_all [Tm.ok, Tm.pr, smB]
/-- Is a text a process? -/
noncomputable def goodB (s : ByteArray) : Bool := (good s.data.toList).isSome

theorem good_E {l : List UInt8} {t : Tm} (h : good l = some t) : E nmE l = some (t, []) ∧ l.all smB = true := by
  obtain ⟨_, h2, h3, _⟩ := good_out h
  exact ⟨(E_some nmE_nm).2 ⟨by rw [h2, List.append_nil], ok_EL t h3⟩, by rw [h2]; exact small_ok t h3⟩
theorem goodB_no {s : ByteArray} (h : ∀ t, good s.data.toList ≠ some t) : goodB s = false := by
  unfold goodB
  cases hg : good s.data.toList with
  | none => rfl
  | some t => exact absurd hg (h t)
theorem goodB_yes {s : ByteArray} {t : Tm} (h : good s.data.toList = some t) : goodB s = true := by unfold goodB; rw [h]; rfl
theorem S_of {s : ByteArray} {t : Tm} (h : s.data.toList = t.pr) : s = S t := by
  apply ByteArray.ext
  apply Array.ext'
  exact h

end Go.Proofs.Ytabllmoeehjknaa.T1
