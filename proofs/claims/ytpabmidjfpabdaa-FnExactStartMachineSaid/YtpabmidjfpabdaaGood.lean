/- A text that is a process, and one that is none: what the two parsers say. -/
import Derived.Test.YtpabmidjfpabdaaSpecC
namespace Go.Proofs.Ytpabmidjfpabdaa.T1
open Go.RowKit

theorem parse_some {s : ByteArray} {t : Tm} (hg : good s.data.toList = some t) (w : World) (hm : s.size ≤ 9223372036854775807) :
    Calls Try.prog 39 #[.string s] w fun e w' => e = .returned (.tuple #[.iface (tyOf t) (pay t), .bool true]) ∧ Below w.heap.size w w' := by
  refine (parse_any s w hm).mono ?_
  rintro e w' ⟨⟨t', h1, h2⟩ | ⟨h1, _⟩, bl⟩
  · rw [hg] at h1; cases h1; exact ⟨h2, bl⟩
  · rw [hg] at h1; cases h1
theorem parse_none {s : ByteArray} (hg : good s.data.toList = none) (w : World) (hm : s.size ≤ 9223372036854775807) :
    Calls Try.prog 39 #[.string s] w fun e w' => e = .returned (.tuple #[.nilIface, .bool false]) ∧ Below w.heap.size w w' := by
  refine (parse_any s w hm).mono ?_
  rintro e w' ⟨⟨t', h1, h2⟩ | ⟨_, h2⟩, bl⟩
  · rw [hg] at h1; cases h1
  · exact ⟨h2, bl⟩
theorem tmGood_some {s : ByteArray} {t : Tm} (hg : good s.data.toList = some t) (w : World) (hm : s.size ≤ 9223372036854775807) :
    Calls Try.prog 20 #[.string s] w fun e w' => e = .returned (.bool true) ∧ Below w.heap.size w w' := by
  have := tmGood_any s w hm
  rw [goodB_yes hg] at this
  exact this
theorem tmGood_none {s : ByteArray} (hg : good s.data.toList = none) (w : World) (hm : s.size ≤ 9223372036854775807) :
    Calls Try.prog 20 #[.string s] w fun e w' => e = .returned (.bool false) ∧ Below w.heap.size w w' := by
  have := tmGood_any s w hm
  rw [show goodB s = false from by unfold goodB; rw [hg]; rfl] at this
  exact this
/-- What a text that is a process gives. -/
theorem good_S {s : ByteArray} {t : Tm} (hg : good s.data.toList = some t) : s = S t ∧ t.ok nmL = true ∧ t.ok nmE = true ∧ t.pr.length ≤ 300 ∧ t.size ≤ 60 := by
  obtain ⟨h1, h2, h3, h4⟩ := good_out hg
  exact ⟨S_of h2, h3, ok_EL t h3, by rw [← h2]; exact h1, h4⟩

end Go.Proofs.Ytpabmidjfpabdaa.T1
