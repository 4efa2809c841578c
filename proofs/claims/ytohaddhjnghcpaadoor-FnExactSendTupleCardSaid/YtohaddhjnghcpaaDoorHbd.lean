/- Texts of the proof, put together: Rn, Rf. No conditions. -/
import Derived.Test.YtohaddhjnghcpaaDoorHaq

/- A free name renamed, with no capture: plain lemmas. -/
namespace Go.Proofs.YtohaddhjnghcpaaDoor.T1

def sw (c o m : UInt8) : UInt8 := if c = o then m else c
/-- The name that a sign binds behind the look for a capture. -/
def capX (p : Tm) (x o m : UInt8) : UInt8 := if x = m ∧ o ∈ p.free then fresh (bothL p.free [o, m]) else x
/-- A free name renamed, in n steps at most. -/
def ren : Nat → Tm → UInt8 → UInt8 → Tm
  | 0, t, _, _ => t
  | n + 1, t, o, m =>
    if o = m ∨ o ∉ t.free then t else
    match t with
    | .nil => .nil
    | .snd a b p => .snd (sw a o m) (sw b o m) (ren n p o m)
    | .rcv a x p => .rcv (sw a o m) (capX p x o m) (if capX p x o m = o then (if x = m ∧ o ∈ p.free then ren n p x (capX p x o m) else p) else ren n (if x = m ∧ o ∈ p.free then ren n p x (capX p x o m) else p) o m)
    | .tau p => .tau (ren n p o m)
    | .sum p q => .sum (ren n p o m) (ren n q o m)
    | .par p q => .par (ren n p o m) (ren n q o m)
    | .own x p => .own (capX p x o m) (if capX p x o m = o then (if x = m ∧ o ∈ p.free then ren n p x (capX p x o m) else p) else ren n (if x = m ∧ o ∈ p.free then ren n p x (capX p x o m) else p) o m)
    | .mat a b p => .mat (sw a o m) (sw b o m) (ren n p o m)
    | .rep p => .rep (ren n p o m)
theorem nmE_iff (c : UInt8) : nmE c = true ↔ (97 ≤ c.toNat ∧ c.toNat ≤ 122) ∨ (65 ≤ c.toNat ∧ c.toNat ≤ 90) ∨ 128 ≤ c.toNat := by simp [nmE, or_assoc]
theorem fresh_nm (s : List UInt8) : nmE (fresh s) = true := by
  rw [nmE_iff]
  rcases fresh_cases s with ⟨k, h1, _, _, h4⟩ | ⟨_, ⟨k, h1, _, _, h4⟩ | ⟨_, h4⟩⟩
  · rw [h4, UInt8.toNat_ofNat']; omega
  · rw [h4, UInt8.toNat_ofNat']; omega
  · rw [h4]; decide
end Go.Proofs.YtohaddhjnghcpaaDoor.T1

/- A free name renamed: what it leaves free, and that the number of steps does not matter: plain lemmas. -/
namespace Go.Proofs.YtohaddhjnghcpaaDoor.T1
set_option linter.unusedVariables false

/-- A free name renamed. -/
def R (t : Tm) (o m : UInt8) : Tm := ren t.size t o m
section
variable {o m : UInt8}
end

end Go.Proofs.YtohaddhjnghcpaaDoor.T1
