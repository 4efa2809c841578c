/- Texts of the proof, put together: Fp, Rn, Rf. No conditions. -/
import Derived.Test.YtlhmjcfnfefliaaGreatHap

/- The first letter that is not in a list; a sign beyond the letters, if all are: plain lemmas. -/
namespace Go.Proofs.YtlhmjcfnfefliaaGreat.T1

def fresh (s : List UInt8) : UInt8 :=
  match (List.range 26).find? (fun i => decide (UInt8.ofNat (97 + i) ∉ s)) with
  | some i => UInt8.ofNat (97 + i)
  | none => match (List.range 63).find? (fun i => decide (UInt8.ofNat (128 + i) ∉ s)) with
    | some i => UInt8.ofNat (128 + i)
    | none => 191
end Go.Proofs.YtlhmjcfnfefliaaGreat.T1

/- A free name renamed, with no capture: plain lemmas. -/
namespace Go.Proofs.YtlhmjcfnfefliaaGreat.T1

def sw (c o m : UInt8) : UInt8 := if c = o then m else c
/-- The name that a sign binds behind the look for a capture. -/
def capX (p : Tm) (x o m : UInt8) : UInt8 := if x = m ∧ o ∈ p.free then fresh (bothL p.free [o, m]) else x
/-- A free name renamed, in n steps at most. -/
def ren : Nat → Tm → UInt8 → UInt8 → Tm
  | 0, t, _, _ => t
  | n + 1, t, o, m =>
    if o = m ∨ o ∉ t.free then t else
    match t with
    | .nil => .nil
    | .snd a b p => .snd (sw a o m) (sw b o m) (ren n p o m)
    | .rcv a x p => .rcv (sw a o m) (capX p x o m) (if capX p x o m = o then (if x = m ∧ o ∈ p.free then ren n p x (capX p x o m) else p) else ren n (if x = m ∧ o ∈ p.free then ren n p x (capX p x o m) else p) o m)
    | .tau p => .tau (ren n p o m)
    | .sum p q => .sum (ren n p o m) (ren n q o m)
    | .par p q => .par (ren n p o m) (ren n q o m)
    | .own x p => .own (capX p x o m) (if capX p x o m = o then (if x = m ∧ o ∈ p.free then ren n p x (capX p x o m) else p) else ren n (if x = m ∧ o ∈ p.free then ren n p x (capX p x o m) else p) o m)
    | .mat a b p => .mat (sw a o m) (sw b o m) (ren n p o m)
    | .rep p => .rep (ren n p o m)
end Go.Proofs.YtlhmjcfnfefliaaGreat.T1

/- A free name renamed: what it leaves free, and that the number of steps does not matter: plain lemmas. -/
namespace Go.Proofs.YtlhmjcfnfefliaaGreat.T1
set_option linter.unusedVariables false

theorem mf_snd (a b : UInt8) (p : Tm) (z : UInt8) : z ∈ (Tm.snd a b p).free ↔ z = a ∨ z = b ∨ z ∈ p.free := by
  simp only [Tm.free, mem_addL, mem_bothL]; grind
theorem mf_rcv (a x : UInt8) (p : Tm) (z : UInt8) : z ∈ (Tm.rcv a x p).free ↔ z = a ∨ (z ∈ p.free ∧ z ≠ x) := by
  simp only [Tm.free, mem_addL, mem_bothL, mem_lessL]; grind
theorem mf_tau (p : Tm) (z : UInt8) : z ∈ (Tm.tau p).free ↔ z ∈ p.free := by
  simp only [Tm.free, mem_bothL]; grind
theorem mf_sum (p q : Tm) (z : UInt8) : z ∈ (Tm.sum p q).free ↔ z ∈ p.free ∨ z ∈ q.free := by
  simp only [Tm.free, mem_bothL]; grind
theorem mf_par (p q : Tm) (z : UInt8) : z ∈ (Tm.par p q).free ↔ z ∈ p.free ∨ z ∈ q.free := by
  simp only [Tm.free, mem_bothL]; grind
theorem mf_own (x : UInt8) (p : Tm) (z : UInt8) : z ∈ (Tm.own x p).free ↔ z ∈ p.free ∧ z ≠ x := by
  simp only [Tm.free, mem_bothL, mem_lessL]; grind
theorem mf_mat (a b : UInt8) (p : Tm) (z : UInt8) : z ∈ (Tm.mat a b p).free ↔ z = a ∨ z = b ∨ z ∈ p.free := by
  simp only [Tm.free, mem_addL, mem_bothL]; grind
theorem mf_rep (p : Tm) (z : UInt8) : z ∈ (Tm.rep p).free ↔ z ∈ p.free := by
  simp only [Tm.free, mem_bothL]; grind
/-- A free name renamed. -/
def R (t : Tm) (o m : UInt8) : Tm := ren t.size t o m
section
variable {o m : UInt8}
end

end Go.Proofs.YtlhmjcfnfefliaaGreat.T1
