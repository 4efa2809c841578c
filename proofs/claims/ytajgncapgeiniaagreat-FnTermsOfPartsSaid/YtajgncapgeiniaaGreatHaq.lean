/- Texts of the proof, put together: Good, CSizeOf, Bb. No conditions. -/
import Derived.Test.YtajgncapgeiniaaGreatHao
import Derived.Test.YtajgncapgeiniaaGreatHap
import Derived.Test.YtajgncapgeiniaaGreatProg
import Derived.WalkKit
import Derived.ProofKit
import Derived.OpenShut
import Derived.ShutString
import Derived.ChangeOld
import Derived.Below
import Derived.Lib.OthersKept
import Derived.Deep.LoopGhost

/- A text that is a process, and one that is none: what the two parsers say. -/
namespace Go.Proofs.YtajgncapgeiniaaGreat.T1
open Go.RowKit

theorem parse_some {s : ByteArray} {t : Tm} (hg : good s.data.toList = some t) (w : World) (hm : s.size ≤ 9223372036854775807) :
    Calls Tryz.prog 50 #[.string s] w fun e w' => e = .returned (.tuple #[.iface (tyOf t) (pay t), .bool true]) ∧ Below w.heap.size w w' := by
  refine (parse_any s w hm).mono ?_
  rintro e w' ⟨⟨t', h1, h2⟩ | ⟨h1, _⟩, bl⟩
  · rw [hg] at h1; cases h1; exact ⟨h2, bl⟩
  · rw [hg] at h1; cases h1
theorem parse_none {s : ByteArray} (hg : good s.data.toList = none) (w : World) (hm : s.size ≤ 9223372036854775807) :
    Calls Tryz.prog 50 #[.string s] w fun e w' => e = .returned (.tuple #[.nilIface, .bool false]) ∧ Below w.heap.size w w' := by
  refine (parse_any s w hm).mono ?_
  rintro e w' ⟨⟨t', h1, h2⟩ | ⟨_, h2⟩, bl⟩
  · rw [hg] at h1; cases h1
  · exact ⟨h2, bl⟩
theorem tmGood_some {s : ByteArray} {t : Tm} (hg : good s.data.toList = some t) (w : World) (hm : s.size ≤ 9223372036854775807) :
    Calls Tryz.prog 52 #[.string s] w fun e w' => e = .returned (.bool true) ∧ Below w.heap.size w w' := by
  have := tmGood_any s w hm
  rw [goodB_yes hg] at this
  exact this
theorem tmGood_none {s : ByteArray} (hg : good s.data.toList = none) (w : World) (hm : s.size ≤ 9223372036854775807) :
    Calls Tryz.prog 52 #[.string s] w fun e w' => e = .returned (.bool false) ∧ Below w.heap.size w w' := by
  have := tmGood_any s w hm
  rw [show goodB s = false from by unfold goodB; rw [hg]; rfl] at this
  exact this
/-- What a text that is a process gives. -/
theorem good_S {s : ByteArray} {t : Tm} (hg : good s.data.toList = some t) : s = S t ∧ t.ok nmL = true ∧ t.ok nmE = true ∧ t.pr.length ≤ 300 ∧ t.size ≤ 60 := by
  obtain ⟨h1, h2, h3, h4⟩ := good_out hg
  exact ⟨S_of h2, h3, ok_EL t h3, by rw [← h2]; exact h1, h4⟩

end Go.Proofs.YtajgncapgeiniaaGreat.T1

/- What SizeOf answers on both sides. No conditions. -/
namespace Go.Proofs.YtajgncapgeiniaaGreat
namespace LawSizeOf
open Go.ChangeShapes Go.WideShapes Go.ChangeAt Go.RowKit Go.Proofs.YtajgncapgeiniaaGreat.T1
open Go.ChangeMaps (open_string shut_string)
set_option linter.unusedVariables false

theorem spec_none (s : ByteArray) (hg : good s.data.toList = none) (hm : s.size ≤ 9223372036854775807) (w : World) : Calls Tryz.prog 10 #[.string s] w fun e w' => e = .returned (.tuple #[.int .i64 0, .bool false]) ∧ Below w.heap.size w w' := by
  have H := Lib.hid (tmGood_none hg w hm)
  clear hg
  go_enter Tryz.func10, Tryz.ntmps10
  go_wp2_with fail
  refine (H.out).mono ?_
  rintro e w1 ⟨rfl, bl⟩
  go_wp2_with fail
  go_ret2
  exact ⟨rfl, bl⟩
theorem impl_none (s : ByteArray) (hg : good s.data.toList = none) (hm : s.size ≤ 9223372036854775807) (w : World) : Calls Tryz.prog 9 #[.string s] w fun e w' => e = .returned (.tuple #[.int .i64 0, .bool false]) ∧ Below w.heap.size w w' := by
  have H := Lib.hid (parse_none hg w hm)
  clear hg
  go_enter Tryz.func9, Tryz.ntmps9
  go_wp2_with fail
  refine (H.out).mono ?_
  rintro e w1 ⟨rfl, bl⟩
  go_wp2_with fail
  go_ret2
  exact ⟨rfl, bl⟩
set_option maxHeartbeats 1000000 in
theorem spec_some (s : ByteArray) (t : Tm) (hg : good s.data.toList = some t) (hm : s.size ≤ 9223372036854775807) (w : World) : Calls Tryz.prog 10 #[.string s] w fun e w' => e = .returned (.tuple #[.int .i64 (t.size : Nat), .bool true]) ∧ Below w.heap.size w w' := by
  have H := Lib.hid (tmGood_some hg w hm)
  obtain ⟨es, hL, hE, h300, h60⟩ := good_S hg
  have HS := tmSize_any t hE (by omega)
  rw [← es] at HS
  obtain ⟨N, hN⟩ : ∃ N, N = t.size := ⟨_, rfl⟩
  rw [← hN] at HS ⊢
  have H2 := Lib.hid HS
  clear hg es hL hE h300 h60 HS hN
  go_enter Tryz.func10, Tryz.ntmps10
  go_wp2_with fail
  refine (H.out).mono ?_
  rintro e w1 ⟨rfl, bl⟩
  go_wp2_with fail
  refine (H2.out _).mono ?_
  rintro e w2 ⟨rfl, b2⟩
  go_wp2_with fail
  go_ret2
  exact ⟨rfl, below_trans bl b2 bl.size⟩

set_option maxHeartbeats 1000000 in
theorem impl_some (s : ByteArray) (t : Tm) (hg : good s.data.toList = some t) (hm : s.size ≤ 9223372036854775807) (w : World) : Calls Tryz.prog 9 #[.string s] w fun e w' => e = .returned (.tuple #[.int .i64 (t.size : Nat), .bool true]) ∧ Below w.heap.size w w' := by
  have H := Lib.hid (parse_some hg w hm)
  obtain ⟨es, hL, hE, h300, h60⟩ := good_S hg
  have HS := size_any t (by omega)
  obtain ⟨T, hT⟩ : ∃ T, T = tyOf t := ⟨_, rfl⟩
  obtain ⟨V, hV⟩ : ∃ V, V = pay t := ⟨_, rfl⟩
  obtain ⟨N, hN⟩ : ∃ N, N = t.size := ⟨_, rfl⟩
  rw [← hT, ← hV, ← hN] at HS
  rw [← hT, ← hV] at H
  rw [← hN]
  have H2 := Lib.hid HS
  clear hg es hL hE h300 h60 HS hT hV hN
  go_enter Tryz.func9, Tryz.ntmps9
  go_wp2_with fail
  refine (H.out).mono ?_
  rintro e w1 ⟨rfl, bl⟩
  go_wp2_with fail
  refine (H2.out _).mono ?_
  rintro e w2 ⟨rfl, b2⟩
  go_wp2_with fail
  go_ret2
  exact ⟨rfl, below_trans bl b2 bl.size⟩
end LawSizeOf
end Go.Proofs.YtajgncapgeiniaaGreat

/- Lists of bytes as texts; where a range over a text stands. -/
namespace Go.Proofs.YtajgncapgeiniaaGreat.T1
open Go.RowKit
set_option maxRecDepth 100000

/-- A list of bytes as a text. -/
def B (l : List UInt8) : ByteArray := ⟨l.toArray⟩
theorem B_list (l : List UInt8) : (B l).data.toList = l := rfl
theorem B_of (s : ByteArray) : B s.data.toList = s := by apply ByteArray.ext; simp [B]
theorem B_eq {s : ByteArray} {l : List UInt8} (h : s.data.toList = l) : s = B l := by rw [← h, B_of]
theorem B_size (l : List UInt8) : (B l).size = l.length := by simp [B, ByteArray.size]
theorem iterPos_of' {w : World} {k : Nat} {s : ByteArray} {p : Nat} (h : w.heap[k]? = some (.stringIter s p)) : w.iterPos k = p := by simp [World.iterPos, h]
theorem iter_below {w w' : World} {k : Nat} {s : ByteArray} {p : Nat} (h : w.heap[k]? = some (.stringIter s p)) (b : Below w.heap.size w w') : w'.heap[k]? = some (.stringIter s p) := (b.block k (lt_of_block h)).trans h

end Go.Proofs.YtajgncapgeiniaaGreat.T1
