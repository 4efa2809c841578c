/- A tree of signs as the program holds it; the first signs whose part is still missing. -/
import Derived.Test.YtabllmoeehjknaaProg
import Derived.Test.YtabllmoeehjknaaPureB
import Derived.Test.YtabllmoeehjknaaMem
namespace Go.Proofs.Ytabllmoeehjknaa.T1
open Go.RowKit

def ub (c : UInt8) : Value := .int .u8 (c.toNat : Int)
/-- What is written before the part of a sign with one part. -/
inductive Hd where
  | tau | rep
  | own (x : UInt8)
  | mat (a b : UInt8)
  | snd (a b : UInt8)
  | rcv (a b : UInt8)
def Hd.put : Hd → Tm → Tm
  | .tau, p => .tau p
  | .rep, p => .rep p
  | .own x, p => .own x p
  | .mat a b, p => .mat a b p
  | .snd a b, p => .snd a b p
  | .rcv a b, p => .rcv a b p
end Go.Proofs.Ytabllmoeehjknaa.T1
