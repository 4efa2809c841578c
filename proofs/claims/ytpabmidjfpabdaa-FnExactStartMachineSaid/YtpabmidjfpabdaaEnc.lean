/- A tree of signs as the program holds it; the first signs whose part is still missing. -/
import Derived.Test.YtpabmidjfpabdaaProg
import Derived.Test.YtpabmidjfpabdaaPureB
import Derived.Test.YtpabmidjfpabdaaMem
namespace Go.Proofs.Ytpabmidjfpabdaa.T1
open Go.RowKit

def ub (c : UInt8) : Value := .int .u8 (c.toNat : Int)
/-- The dynamic type of a sign. -/
def tyOf : Tm → TypeId
  | .nil => 79
  | .snd _ _ _ => 86
  | .rcv _ _ _ => 88
  | .tau _ => 89
  | .sum _ _ => 77
  | .par _ _ => 81
  | .own _ _ => 91
  | .mat _ _ _ => 93
  | .rep _ => 65
/-- Its fields. -/
def pay : Tm → Value
  | .nil => .agg #[]
  | .snd a b p => .agg #[.int .u8 (a.toNat : Int), .int .u8 (b.toNat : Int), .iface (tyOf p) (pay p)]
  | .rcv a x p => .agg #[.int .u8 (a.toNat : Int), .int .u8 (x.toNat : Int), .iface (tyOf p) (pay p)]
  | .tau p => .agg #[.iface (tyOf p) (pay p)]
  | .sum p q => .agg #[.iface (tyOf p) (pay p), .iface (tyOf q) (pay q)]
  | .par p q => .agg #[.iface (tyOf p) (pay p), .iface (tyOf q) (pay q)]
  | .own x p => .agg #[.int .u8 (x.toNat : Int), .iface (tyOf p) (pay p)]
  | .mat a b p => .agg #[.int .u8 (a.toNat : Int), .int .u8 (b.toNat : Int), .iface (tyOf p) (pay p)]
  | .rep p => .agg #[.iface (tyOf p) (pay p)]
/-- A sign as an interface value. -/
def enc (t : Tm) : Value := .iface (tyOf t) (pay t)

/-- What is written before the part of a sign with one part. -/
inductive Hd where
  | tau | rep
  | own (x : UInt8)
  | mat (a b : UInt8)
  | snd (a b : UInt8)
  | rcv (a b : UInt8)
def Hd.put : Hd → Tm → Tm
  | .tau, p => .tau p
  | .rep, p => .rep p
  | .own x, p => .own x p
  | .mat a b, p => .mat a b p
  | .snd a b, p => .snd a b p
  | .rcv a b, p => .rcv a b p
def Hd.enc : Hd → Value
  | .tau => .iface 89 (.agg #[.nilIface])
  | .rep => .iface 65 (.agg #[.nilIface])
  | .own x => .iface 91 (.agg #[.int .u8 (x.toNat : Int), .nilIface])
  | .mat a b => .iface 93 (.agg #[.int .u8 (a.toNat : Int), .int .u8 (b.toNat : Int), .nilIface])
  | .snd a b => .iface 86 (.agg #[.int .u8 (a.toNat : Int), .int .u8 (b.toNat : Int), .nilIface])
  | .rcv a b => .iface 88 (.agg #[.int .u8 (a.toNat : Int), .int .u8 (b.toNat : Int), .nilIface])

end Go.Proofs.Ytpabmidjfpabdaa.T1
