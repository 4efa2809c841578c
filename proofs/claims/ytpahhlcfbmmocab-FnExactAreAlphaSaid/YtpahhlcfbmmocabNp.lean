/- Congruence, plain: matches at the front, dead parts, names that are used, a process peeled. -/
import Derived.Test.YtpahhlcfbmmocabRf
namespace Go.Proofs.Ytpahhlcfbmmocab.T1
set_option linter.unusedVariables false

/-- Without matches of a name and itself at its front. -/
def Tm.strip : Tm → Tm
  | .mat a b p => if a = b then p.strip else .mat a b p
  | t => t
/-- Congruent to 0. -/
def Tm.dead : Tm → Bool
  | .nil => true
  | .snd _ _ _ => false
  | .rcv _ _ _ => false
  | .tau _ => false
  | .sum p q => p.dead && q.dead
  | .par p q => p.dead && q.dead
  | .own _ p => p.dead
  | .mat _ _ p => p.dead
  | .rep p => p.dead
/-- The free names where dead parts are left out. -/
def Tm.usd : Tm → List UInt8
  | .nil => []
  | .snd a b p => addL (addL (bothL [] p.usd) a) b
  | .rcv a x p => addL (lessL (bothL [] p.usd) x) a
  | .tau p => bothL [] p.usd
  | .sum p q => if p.dead && q.dead then [] else bothL (bothL [] p.usd) q.usd
  | .par p q => if p.dead && q.dead then [] else bothL (bothL [] p.usd) q.usd
  | .own x p => if p.dead then [] else lessL (bothL [] p.usd) x
  | .mat a b p => if a = b then p.usd else if p.dead then [] else addL (addL (bothL [] p.usd) a) b
  | .rep p => if p.dead then [] else bothL [] p.usd
/-- Without dead parts beside the first sign, and without names of its own at its front that it does not use. -/
def Tm.peel : Tm → Tm
  | .mat a b p => if a = b then p.peel else .mat a b p
  | .sum p q => if p.dead then q.peel else if q.dead then p.peel else .sum p q
  | .par p q => if p.dead then q.peel else if q.dead then p.peel else .par p q
  | .own x p => if x ∈ p.usd then .own x p else p.peel
  | t => t

theorem strip_dead (t : Tm) : t.strip.dead = t.dead := by
  induction t with
  | mat a b p ih => unfold Tm.strip; split; (rw [ih]; rfl); rfl
  | _ => rfl
theorem strip_sub (t : Tm) : (∀ nm, t.ok nm = true → t.strip.ok nm = true) ∧ t.strip.pr.length ≤ t.pr.length ∧ t.strip.size ≤ t.size ∧ t.strip.bnd.length ≤ t.bnd.length ∧ (∀ z, z ∈ t.strip.free → z ∈ t.free) := by
  induction t with
  | mat a b p ih =>
    unfold Tm.strip
    split
    · refine ⟨fun nm h => ih.1 nm (by simp only [Tm.ok, Bool.and_eq_true] at h; exact h.2), ?_, ?_, ?_, ?_⟩
      · simp only [Tm.pr, List.length_cons]; omega
      · simp only [Tm.size]; omega
      · exact ih.2.2.2.1
      · intro z hz; rw [mf_mat]; exact .inr (.inr (ih.2.2.2.2 z hz))
    · exact ⟨fun _ h => h, Nat.le_refl _, Nat.le_refl _, Nat.le_refl _, fun _ h => h⟩
  | _ => exact ⟨fun _ h => h, Nat.le_refl _, Nat.le_refl _, Nat.le_refl _, fun _ h => h⟩
theorem strip_usd (t : Tm) : t.strip.usd = t.usd := by
  induction t with
  | mat a b p ih =>
    unfold Tm.strip
    split
    · rename_i h; rw [ih]; simp only [Tm.usd]; rw [if_pos h]
    · rfl
  | _ => rfl
theorem strip_no (t : Tm) : ∀ a p, t.strip ≠ .mat a a p := by
  induction t with
  | mat a b p ih =>
    intro c q
    unfold Tm.strip
    split
    · exact ih c q
    · rename_i h; intro e; injection e with e1 e2 e3; exact h (e1.trans e2.symm)
  | _ => intro c q e; cases e
theorem srt_usd (t : Tm) : Srt t.usd := by
  induction t with
  | nil => exact srt_nil
  | snd a b p ih => exact srt_addL (srt_addL (srt_bothL _ srt_nil) a) b
  | rcv a x p ih => exact srt_addL (srt_lessL (srt_bothL _ srt_nil) x) a
  | tau p ih => exact srt_bothL _ srt_nil
  | sum p q ih ih2 => unfold Tm.usd; split; exact srt_nil; exact srt_bothL _ (srt_bothL _ srt_nil)
  | par p q ih ih2 => unfold Tm.usd; split; exact srt_nil; exact srt_bothL _ (srt_bothL _ srt_nil)
  | own x p ih => unfold Tm.usd; split; exact srt_nil; exact srt_lessL (srt_bothL _ srt_nil) x
  | mat a b p ih => unfold Tm.usd; split; exact ih; split; exact srt_nil; exact srt_addL (srt_addL (srt_bothL _ srt_nil) a) b
  | rep p ih => unfold Tm.usd; split; exact srt_nil; exact srt_bothL _ srt_nil
theorem peel_strip (t : Tm) : t.strip.peel = t.peel := by
  induction t with
  | mat a b p ih =>
    unfold Tm.strip
    split
    · rename_i h; rw [ih]; simp only [Tm.peel]; rw [if_pos h]
    · rfl
  | _ => rfl
theorem peel_sub (t : Tm) : (∀ nm, t.ok nm = true → t.peel.ok nm = true) ∧ t.peel.pr.length ≤ t.pr.length ∧ t.peel.size ≤ t.size ∧ t.peel.bnd.length ≤ t.bnd.length := by
  induction t with
  | mat a b p ih =>
    unfold Tm.peel
    split
    · exact ⟨fun nm h => ih.1 nm (by simp only [Tm.ok, Bool.and_eq_true] at h; exact h.2), by simp only [Tm.pr, List.length_cons]; omega, by simp only [Tm.size]; omega, by simp only [Tm.bnd]; omega⟩
    · exact ⟨fun _ h => h, Nat.le_refl _, Nat.le_refl _, Nat.le_refl _⟩
  | sum p q ih ih2 =>
    unfold Tm.peel
    split
    · exact ⟨fun nm h => ih2.1 nm (by simp only [Tm.ok, Bool.and_eq_true] at h; exact h.2), by simp only [Tm.pr, List.length_cons, List.length_append]; omega, by simp only [Tm.size]; omega, by simp only [Tm.bnd, List.length_append]; omega⟩
    · split
      · exact ⟨fun nm h => ih.1 nm (by simp only [Tm.ok, Bool.and_eq_true] at h; exact h.1), by simp only [Tm.pr, List.length_cons, List.length_append]; omega, by simp only [Tm.size]; omega, by simp only [Tm.bnd, List.length_append]; omega⟩
      · exact ⟨fun _ h => h, Nat.le_refl _, Nat.le_refl _, Nat.le_refl _⟩
  | par p q ih ih2 =>
    unfold Tm.peel
    split
    · exact ⟨fun nm h => ih2.1 nm (by simp only [Tm.ok, Bool.and_eq_true] at h; exact h.2), by simp only [Tm.pr, List.length_cons, List.length_append]; omega, by simp only [Tm.size]; omega, by simp only [Tm.bnd, List.length_append]; omega⟩
    · split
      · exact ⟨fun nm h => ih.1 nm (by simp only [Tm.ok, Bool.and_eq_true] at h; exact h.1), by simp only [Tm.pr, List.length_cons, List.length_append]; omega, by simp only [Tm.size]; omega, by simp only [Tm.bnd, List.length_append]; omega⟩
      · exact ⟨fun _ h => h, Nat.le_refl _, Nat.le_refl _, Nat.le_refl _⟩
  | own x p ih =>
    unfold Tm.peel
    split
    · exact ⟨fun _ h => h, Nat.le_refl _, Nat.le_refl _, Nat.le_refl _⟩
    · exact ⟨fun nm h => ih.1 nm (by simp only [Tm.ok, Bool.and_eq_true] at h; exact h.2), by simp only [Tm.pr, List.length_cons]; omega, by simp only [Tm.size]; omega, by simp only [Tm.bnd, List.length_cons]; omega⟩
  | _ => exact ⟨fun _ h => h, Nat.le_refl _, Nat.le_refl _, Nat.le_refl _⟩
/-- The parts of a sum that are no sums and not 0. -/
def Tm.sums : Nat → Tm → List Tm
  | 0, _ => []
  | n + 1, t => match t.peel with
    | .sum p q => Tm.sums n p ++ Tm.sums n q
    | u => if u.dead then [] else [u]
/-- Processes with one sign between them, brackets to the right. -/
def joinR (c : Tm → Tm → Tm) : List Tm → Tm
  | [] => .nil
  | [t] => t
  | t :: ts => c t (joinR c ts)

end Go.Proofs.Ytpahhlcfbmmocab.T1
