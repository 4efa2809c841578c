/- Texts of the proof, put together: Cn, Al. No conditions. -/
import Derived.Test.YtlhmjcfnfefliaaGreatHav

/- Names bound in an order that is given: all at once, and step by step: plain lemmas. -/
namespace Go.Proofs.YtlhmjcfnfefliaaGreat.T1
set_option linter.unusedVariables false

/-- Another name stands for one letter. -/
def upd (sc : UInt8 → UInt8) (x y : UInt8) : UInt8 → UInt8 := fun z => if z = x then y else sc z
/-- The signs that bind, the first one first, bind the next of the names. -/
def can : Tm → (UInt8 → UInt8) → List UInt8 → Tm
  | .nil, _, _ => .nil
  | .snd a b p, sc, ns => .snd (sc a) (sc b) (can p sc ns)
  | .rcv a x p, sc, ns => .rcv (sc a) (ns.headD 0) (can p (upd sc x (ns.headD 0)) ns.tail)
  | .tau p, sc, ns => .tau (can p sc ns)
  | .sum p q, sc, ns => .sum (can p sc ns) (can q sc (ns.drop p.bnd.length))
  | .par p q, sc, ns => .par (can p sc ns) (can q sc (ns.drop p.bnd.length))
  | .own x p, sc, ns => .own (ns.headD 0) (can p (upd sc x (ns.headD 0)) ns.tail)
  | .mat a b p, sc, ns => .mat (sc a) (sc b) (can p sc ns)
  | .rep p, sc, ns => .rep (can p sc ns)

end Go.Proofs.YtlhmjcfnfefliaaGreat.T1

/- Processes alike by names: plain lemmas. -/
namespace Go.Proofs.YtlhmjcfnfefliaaGreat.T1
set_option linter.unusedVariables false

/-- Marks, each once, none of them a letter. -/
structure Mk (ms ns : List UInt8) : Prop where
  nd : (ms ++ ns).Nodup
  hi : ∀ z ∈ ms ++ ns, 123 ≤ z.toNat
end Go.Proofs.YtlhmjcfnfefliaaGreat.T1
