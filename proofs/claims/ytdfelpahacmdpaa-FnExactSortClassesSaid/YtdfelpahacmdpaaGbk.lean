/- Texts of the proof, put together: Tx. No conditions. -/
import Derived.Test.YtdfelpahacmdpaaGat
import Derived.Laws.IdiomStrings

/- The text of a tree. -/
namespace Go.Proofs.Ytdfelpahacmdpaa.T1
open Go.RowKit
set_option maxRecDepth 100000

theorem add0 (g j : Nat) : (⟨g, 0, none⟩ : Addr).add j = ⟨g, j, none⟩ := by
  unfold Addr.add
  split
  · rename_i h; rw [h]
  · rw [Nat.zero_add]
theorem conv_row {w : World} {base n : Nat} {v : Value} (l : List UInt8) (hn : n = l.length) (hne : 0 < l.length) (h : w.ownsRow base 5 1 v n (l.map ub)) :
    (convert 49 9 v).run Try.prog w = .ok (.string ⟨l.toArray⟩) w := by
  subst hn
  rcases h.2 with ⟨_, h0⟩ | ⟨g, cap, cur, rfl, _⟩
  · omega
  · refine run_convert_bytes_back w 49 9 5 ⟨g, 0, none⟩ cap l Try.underlying49 Try.underlying5 Try.underlying9 fun j hj => ?_
    rw [add0, h.cellAt j (by omega)]
    simp [ub, hj]

end Go.Proofs.Ytdfelpahacmdpaa.T1
