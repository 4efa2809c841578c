/- A sign with other parts. -/
import Derived.Test.YtabllmoeehjknaaProg
import Derived.Test.YtabllmoeehjknaaPureB
import Derived.Test.YtabllmoeehjknaaMem
import Derived.Test.YtabllmoeehjknaaAsrt
import Derived.Test.YtabllmoeehjknaaEnc
import Derived.WalkKit
import Derived.WalkLawsBesides
import Derived.WalkSpells
import Derived.LoopTactic
import Derived.Lib.Hide
import Derived.RegionTactic
import Derived.BigRegion
import Derived.BigQuiet
import Derived.Deep.QuietTactic
import Derived.Outline
import Derived.IntWalk
namespace Go.Proofs.Ytabllmoeehjknaa.T1
open Go.RowKit
set_option maxRecDepth 100000

def IsIf (z : Value) : Prop := z = .nilIface ∨ ∃ t v, z = .iface t v

end Go.Proofs.Ytabllmoeehjknaa.T1
