/- Texts of the proof, put together: Oh, Op. No conditions. -/
import Derived.Test.YtmfmagfgcdaeeaaGreatHas
import Derived.Test.YtmfmagfgcdaeeaaGreatHbo
import Derived.Test.YtmfmagfgcdaeeaaGreatHbp

/- The specification's normal form of a level, for every process. -/
namespace Go.Proofs.YtmfmagfgcdaeeaaGreat.T1
open Go.RowKit
set_option maxRecDepth 100000
set_option linter.unusedVariables false
set_option linter.unusedSimpArgs false

end Go.Proofs.YtmfmagfgcdaeeaaGreat.T1

/- The specification's normal form. -/
namespace Go.Proofs.YtmfmagfgcdaeeaaGreat.T1
open Go.RowKit
set_option maxRecDepth 100000
set_option linter.unusedVariables false
set_option linter.unusedSimpArgs false

def TwoS (R : ByteArray) (b : Bool) (w : World) (e : Ending) (w' : World) : Prop := e = .returned (.tuple #[.string R, .bool b]) ∧ Below w.heap.size w w'
def optS : Option Tm → ByteArray
  | some r => S r
  | none => ⟨#[]⟩
end Go.Proofs.YtmfmagfgcdaeeaaGreat.T1
