/- Texts of the proof, put together: Ks. No conditions. -/
import Derived.Test.YtnkjbdgnmgoefaaGreatHam
import Derived.Test.YtnkjbdgnmgoefaaGreatHbx

/- What both sides answer where a normal form is asked. MADE BY gen_Ks.py. -/
namespace Go.Proofs.YtnkjbdgnmgoefaaGreat.T1
open Go.RowKit
set_option maxRecDepth 100000
set_option linter.unusedVariables false
set_option linter.unusedSimpArgs false

end Go.Proofs.YtnkjbdgnmgoefaaGreat.T1
