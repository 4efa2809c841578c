/- Texts of the proof, put together: Good, Bb. No conditions. -/
import Derived.Test.YtinkioodkgccjaaDoorHac
import Derived.Test.YtinkioodkgccjaaDoorHas
import Derived.Lib.OthersKept
import Derived.Deep.LoopGhost

/- A text that is a process, and one that is none: what the two parsers say. -/
namespace Go.Proofs.YtinkioodkgccjaaDoor.T1
open Go.RowKit

theorem parse_some {s : ByteArray} {t : Tm} (hg : good s.data.toList = some t) (w : World) (hm : s.size ≤ 9223372036854775807) :
    Calls Tryd.prog 41 #[.string s] w fun e w' => e = .returned (.tuple #[.iface (tyOf t) (pay t), .bool true]) ∧ Below w.heap.size w w' := by
  refine (parse_any s w hm).mono ?_
  rintro e w' ⟨⟨t', h1, h2⟩ | ⟨h1, _⟩, bl⟩
  · rw [hg] at h1; cases h1; exact ⟨h2, bl⟩
  · rw [hg] at h1; cases h1
theorem parse_none {s : ByteArray} (hg : good s.data.toList = none) (w : World) (hm : s.size ≤ 9223372036854775807) :
    Calls Tryd.prog 41 #[.string s] w fun e w' => e = .returned (.tuple #[.nilIface, .bool false]) ∧ Below w.heap.size w w' := by
  refine (parse_any s w hm).mono ?_
  rintro e w' ⟨⟨t', h1, h2⟩ | ⟨_, h2⟩, bl⟩
  · rw [hg] at h1; cases h1
  · exact ⟨h2, bl⟩
theorem tmGood_some {s : ByteArray} {t : Tm} (hg : good s.data.toList = some t) (w : World) (hm : s.size ≤ 9223372036854775807) :
    Calls Tryd.prog 11 #[.string s] w fun e w' => e = .returned (.bool true) ∧ Below w.heap.size w w' := by
  have := tmGood_any s w hm
  rw [goodB_yes hg] at this
  exact this
theorem tmGood_none {s : ByteArray} (hg : good s.data.toList = none) (w : World) (hm : s.size ≤ 9223372036854775807) :
    Calls Tryd.prog 11 #[.string s] w fun e w' => e = .returned (.bool false) ∧ Below w.heap.size w w' := by
  have := tmGood_any s w hm
  rw [show goodB s = false from by unfold goodB; rw [hg]; rfl] at this
  exact this
/-- What a text that is a process gives. -/
theorem good_S {s : ByteArray} {t : Tm} (hg : good s.data.toList = some t) : s = S t ∧ t.ok nmL = true ∧ t.ok nmE = true ∧ t.pr.length ≤ 300 ∧ t.size ≤ 60 := by
  obtain ⟨h1, h2, h3, h4⟩ := good_out hg
  exact ⟨S_of h2, h3, ok_EL t h3, by rw [← h2]; exact h1, h4⟩

end Go.Proofs.YtinkioodkgccjaaDoor.T1

/- Lists of bytes as texts; where a range over a text stands. -/
namespace Go.Proofs.YtinkioodkgccjaaDoor.T1
open Go.RowKit
set_option maxRecDepth 100000

/-- A list of bytes as a text. -/
def B (l : List UInt8) : ByteArray := ⟨l.toArray⟩
theorem B_list (l : List UInt8) : (B l).data.toList = l := rfl
theorem B_of (s : ByteArray) : B s.data.toList = s := by apply ByteArray.ext; simp [B]
theorem B_eq {s : ByteArray} {l : List UInt8} (h : s.data.toList = l) : s = B l := by rw [← h, B_of]
theorem B_size (l : List UInt8) : (B l).size = l.length := by simp [B, ByteArray.size]
end Go.Proofs.YtinkioodkgccjaaDoor.T1
