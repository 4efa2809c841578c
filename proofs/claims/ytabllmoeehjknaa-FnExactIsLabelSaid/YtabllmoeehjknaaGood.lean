/- A text that is a process, and one that is none: what the two parsers say. -/
import Derived.Test.YtabllmoeehjknaaSpecC
namespace Go.Proofs.Ytabllmoeehjknaa.T1
open Go.RowKit

/-- What a text that is a process gives. -/
theorem good_S {s : ByteArray} {t : Tm} (hg : good s.data.toList = some t) : s = S t ∧ t.ok nmL = true ∧ t.ok nmE = true ∧ t.pr.length ≤ 300 ∧ t.size ≤ 60 := by
  obtain ⟨h1, h2, h3, h4⟩ := good_out hg
  exact ⟨S_of h2, h3, ok_EL t h3, by rw [← h2]; exact h1, h4⟩

end Go.Proofs.Ytabllmoeehjknaa.T1
