/- Texts of the proof, put together: Nm, Fp, Rn. No conditions. -/
import Derived.Test.YtajgncapgeiniaaGreatHaa

/- Names in order, free and bound names of a tree: plain lemmas. -/
namespace Go.Proofs.YtajgncapgeiniaaGreat.T1

/-- A text of one byte. -/
def one (k : UInt8) : ByteArray := ⟨#[k]⟩
/-- A letter put into a list in order, none twice. -/
def addL : List UInt8 → UInt8 → List UInt8
  | [], c => [c]
  | x :: l, c => if x < c then x :: addL l c else if x = c then x :: l else c :: x :: l
def lessL (l : List UInt8) (c : UInt8) : List UInt8 := l.filter fun x => x != c
def bothL (l m : List UInt8) : List UInt8 := m.foldl addL l
theorem u8_ext {a b : UInt8} (h : a.toNat = b.toNat) : a = b := UInt8.toNat_inj.1 h
namespace Tm
/-- The free names, in order. -/
def free : Tm → List UInt8
  | nil => []
  | snd a b p => addL (addL (bothL [] p.free) a) b
  | rcv a x p => addL (lessL (bothL [] p.free) x) a
  | tau p => bothL [] p.free
  | sum p q => bothL (bothL [] p.free) q.free
  | par p q => bothL (bothL [] p.free) q.free
  | own x p => lessL (bothL [] p.free) x
  | mat a b p => addL (addL (bothL [] p.free) a) b
  | rep p => bothL [] p.free
/-- The name that the first sign binds. -/
def binds : Tm → Option UInt8
  | rcv _ x _ => some x
  | own x _ => some x
  | _ => none
end Tm
end Go.Proofs.YtajgncapgeiniaaGreat.T1

/- The first letter that is not in a list; a sign beyond the letters, if all are: plain lemmas. -/
namespace Go.Proofs.YtajgncapgeiniaaGreat.T1

def fresh (s : List UInt8) : UInt8 :=
  match (List.range 26).find? (fun i => decide (UInt8.ofNat (97 + i) ∉ s)) with
  | some i => UInt8.ofNat (97 + i)
  | none => match (List.range 63).find? (fun i => decide (UInt8.ofNat (128 + i) ∉ s)) with
    | some i => UInt8.ofNat (128 + i)
    | none => 191
end Go.Proofs.YtajgncapgeiniaaGreat.T1

/- A free name renamed, with no capture: plain lemmas. -/
namespace Go.Proofs.YtajgncapgeiniaaGreat.T1

def sw (c o m : UInt8) : UInt8 := if c = o then m else c
/-- The name that a sign binds behind the look for a capture. -/
def capX (p : Tm) (x o m : UInt8) : UInt8 := if x = m ∧ o ∈ p.free then fresh (bothL p.free [o, m]) else x
/-- A free name renamed, in n steps at most. -/
def ren : Nat → Tm → UInt8 → UInt8 → Tm
  | 0, t, _, _ => t
  | n + 1, t, o, m =>
    if o = m ∨ o ∉ t.free then t else
    match t with
    | .nil => .nil
    | .snd a b p => .snd (sw a o m) (sw b o m) (ren n p o m)
    | .rcv a x p => .rcv (sw a o m) (capX p x o m) (if capX p x o m = o then (if x = m ∧ o ∈ p.free then ren n p x (capX p x o m) else p) else ren n (if x = m ∧ o ∈ p.free then ren n p x (capX p x o m) else p) o m)
    | .tau p => .tau (ren n p o m)
    | .sum p q => .sum (ren n p o m) (ren n q o m)
    | .par p q => .par (ren n p o m) (ren n q o m)
    | .own x p => .own (capX p x o m) (if capX p x o m = o then (if x = m ∧ o ∈ p.free then ren n p x (capX p x o m) else p) else ren n (if x = m ∧ o ∈ p.free then ren n p x (capX p x o m) else p) o m)
    | .mat a b p => .mat (sw a o m) (sw b o m) (ren n p o m)
    | .rep p => .rep (ren n p o m)
end Go.Proofs.YtajgncapgeiniaaGreat.T1
