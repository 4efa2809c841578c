/- Texts of the proof, put together: Nw, Nx, Ny, Nz. No conditions. -/
import Derived.Test.YtpabmidjfpabdaaGreatHac
import Derived.Test.YtpabmidjfpabdaaGreatHad

/- Congruence, plain: the threads of a level, gathered behind great letters, and those of a simplified process: one by one the same. -/
namespace Go.Proofs.YtpabmidjfpabdaaGreat.T1
set_option linter.unusedVariables false

def great (z : UInt8) : Prop := (65 ≤ z.toNat ∧ z.toNat ≤ 90) ∨ 192 ≤ z.toNat
inductive All2 {α β : Type} (P : α → β → Prop) : List α → List β → Prop where
  | nil : All2 P [] []
  | cons {a b l m} : P a b → All2 P l m → All2 P (a :: l) (b :: m)
theorem All2.mono {α β : Type} {P Q : α → β → Prop} {l : List α} {m : List β} (h : All2 P l m) (hm : ∀ a b, a ∈ l → b ∈ m → P a b → Q a b) : All2 Q l m := by
  induction h with
  | nil => exact .nil
  | cons a _ ih => exact .cons (hm _ _ (by simp) (by simp) a) (ih fun a b ha hb => hm a b (by simp [ha]) (by simp [hb]))
theorem All2.len {α β : Type} {P : α → β → Prop} {l : List α} {m : List β} (h : All2 P l m) : l.length = m.length := by
  induction h with
  | nil => rfl
  | cons _ _ ih => simp [ih]

end Go.Proofs.YtpabmidjfpabdaaGreat.T1

/- Congruence, plain: the specification's normal form, and one that is made out of a simplified process by letters that stand for names. -/
namespace Go.Proofs.YtpabmidjfpabdaaGreat.T1
set_option linter.unusedVariables false

end Go.Proofs.YtpabmidjfpabdaaGreat.T1

/- Congruence, plain: the specification's normal form is the one made out of the simplified process, where letters are enough; where they are not, it is none. -/
namespace Go.Proofs.YtpabmidjfpabdaaGreat.T1
set_option linter.unusedVariables false

/-- How a process, its simplified one and their names hang together. -/
structure Cx (t : Tm) (E : UInt8 → UInt8 → Prop) (s : Tm) (L : UInt8 → UInt8) (tk : List UInt8) : Prop where
  sm : Sm t E s
  ng : ∀ z, z ∈ t.free ∨ z ∈ t.bnd → ¬ great z
  nd : s.bnd.Nodup
  rel : ∀ u v, E u v → u = L v ∧ v ∉ s.bnd ∧ u ∈ tk ∧ ¬ great u
  sz : t.size ≤ 121
theorem All2.ex {α β : Type} {P : α → β → Prop} {l : List α} {m : List β} (h : All2 P l m) : ∀ b ∈ m, ∃ a ∈ l, P a b := by
  induction h with
  | nil => intro b hb; simp at hb
  | cons p _ ih =>
    intro b hb
    rcases List.mem_cons.1 hb with rfl | hb
    · exact ⟨_, by simp, p⟩
    · obtain ⟨a, ha, e⟩ := ih b hb; exact ⟨a, by simp [ha], e⟩
end Go.Proofs.YtpabmidjfpabdaaGreat.T1

/- Congruence, plain: a simplified process whose signs bind names of their own; how many names of its own a normal form has, and that it is well spelt. -/
namespace Go.Proofs.YtpabmidjfpabdaaGreat.T1
set_option linter.unusedVariables false

end Go.Proofs.YtpabmidjfpabdaaGreat.T1
