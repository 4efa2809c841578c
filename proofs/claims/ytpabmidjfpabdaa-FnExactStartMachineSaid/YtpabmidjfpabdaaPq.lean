/- Another process at a path, in the specification, for every process; a text, if it is a process. -/
import Derived.Test.YtpabmidjfpabdaaPp
namespace Go.Proofs.Ytpabmidjfpabdaa.T1
open Go.RowKit
set_option maxRecDepth 100000
set_option linter.unusedVariables false

theorem good_of {t : Tm} (h1 : t.ok nmL = true) (h2 : t.pr.length ≤ 300) (h3 : t.size ≤ 60) : good t.pr = some t :=
  good_yes h2 ((E_some nmL_nm).2 ⟨by rw [List.append_nil], h1⟩) h3
theorem good_not {t : Tm} (hE : t.ok nmE = true) (h : ¬ (t.ok nmL = true ∧ t.pr.length ≤ 300 ∧ t.size ≤ 60)) : good t.pr = none := by
  cases hg : good t.pr with
  | none => rfl
  | some t' =>
    obtain ⟨g1, g2, g3, g4⟩ := good_out hg
    have := (pr_inj nmE_nm t t' [] [] hE (ok_EL t' g3) (by rw [g2])).1
    subst this
    exact absurd ⟨g3, g1, g4⟩ h
/-- What is left by the question whether a tree is a process. -/
def okT (t : Tm) : Bool := t.ok nmL && decide (t.pr.length ≤ 300) && decide (t.size ≤ 60)
theorem okT_iff (t : Tm) : okT t = true ↔ t.ok nmL = true ∧ t.pr.length ≤ 300 ∧ t.size ≤ 60 := by simp [okT, and_assoc]
end Go.Proofs.Ytpabmidjfpabdaa.T1
