/- What PartsOf answers on both sides. No conditions. -/
import Derived.Test.YtpabmidjfpabdaaProg
import Derived.Test.YtpabmidjfpabdaaSt
import Derived.Test.YtpabmidjfpabdaaTx
import Derived.Test.YtpabmidjfpabdaaPa
import Derived.WalkKit
import Derived.ProofKit
import Derived.OpenShut
import Derived.ShutString
import Derived.ChangeOld
import Derived.Below
namespace Go.Proofs.Ytpabmidjfpabdaa
namespace LawPartsOf
open Go.ChangeShapes Go.WideShapes Go.ChangeAt Go.RowKit Go.Proofs.Ytpabmidjfpabdaa.T1
open Go.ChangeMaps (open_string shut_string)
set_option linter.unusedVariables false

theorem bw_go {u v w : World} (h : Below u.heap.size u v) (k : Below v.heap.size v w) : Below u.heap.size u w := below_trans h k h.size
theorem srow_nil (w : World) (g : Nat) : SRow w (.slice none 0 0) g [] := ⟨⟨_, _, rfl, fun h => absurd rfl h⟩⟩
theorem srow_own {w : World} {base : Nat} {v : Value} {xs : List ByteArray} (h : w.ownsRow base 9 1 v xs.length (xs.map .string)) : ∃ g, base ≤ g ∧ SRow w v g xs := by
  rcases h.2 with ⟨rfl, h4⟩ | ⟨g, cap, cur, rfl, h4, h5, h6, h7, h8, h9⟩
  · obtain rfl : xs = [] := List.length_eq_zero_iff.1 h4
    exact ⟨base, Nat.le_refl _, srow_nil w base⟩
  · refine ⟨g, h4, ⟨⟨_, _, rfl, fun _ => ⟨rfl, cur, h5, fun j hj => ?_⟩⟩⟩⟩
    have h10 := h.cellAt j (by omega)
    simp [World.cell?, h5] at h10
    rw [h10]; simp [hj]

set_option maxHeartbeats 4000000 in
theorem tx_0   (w : World) : Calls Try.prog 24 #[.slice none 0 0] w (fun e w' => ∃ vz g, e = .returned vz ∧ SRow w' vz g [] ∧ w.heap.size ≤ g ∧ Below w.heap.size w w') := by
  obtain ⟨i0, hi, hz0, hz1, hz2⟩ := info_parts Try.infoS
  have bl : Below w.heap.size w w := Below.refl _ _
  go_enter Try.func24, Try.ntmps24
  go_wp2_with fail
  refine wp_loop_rounds 1 ?_
  rw [rounds_succ]
  go_wp2_with fail
  go_ret
  exact ⟨_, w.heap.size, rfl, srow_nil _ _, Nat.le_refl _, bl⟩
set_option maxHeartbeats 4000000 in
theorem tx_1 (tu : TypeId) (vu : Value) (u : ByteArray) (HXu : ∀ w, Calls Try.prog 34 #[.iface tu vu] w fun e w' => e = .returned (.string u) ∧ Below w.heap.size w w') (b : Nat) (w : World) (hh : w.heap[b]? = some (.cells #[.iface tu vu] 42 (0, 0))) : Calls Try.prog 24 #[.slice (some ⟨b, 0, none⟩) 1 1] w (fun e w' => ∃ vz g, e = .returned vz ∧ SRow w' vz g [u] ∧ w.heap.size ≤ g ∧ Below w.heap.size w w') := by
  obtain ⟨i0, hi, hz0, hz1, hz2⟩ := info_parts Try.infoS
  have HXu' := Lib.hid HXu
  clear HXu
  have bl : Below w.heap.size w w := Below.refl _ _
  have c0 := cellOf1 hh
  have Hh := Lib.hid hh
  clear hh
  go_enter Try.func24, Try.ntmps24
  go_wp2_with fail
  refine wp_loop_rounds 2 ?_
  rw [rounds_succ]
  go_wp2_with fail
  refine (HXu'.out _).mono ?_
  rintro e w3 ⟨rfl, d0⟩
  replace bl := bw_go bl d0
  have own0 : w3.ownsRow w.heap.size 9 1 (.slice none 0 0) 0 [] := World.ownsRow_nil _ _ _ _
  have HO0 := Lib.hid own0
  have h0 := (d0.block b (lt_of_block Hh.out)).trans Hh.out
  have G0 := Lib.hid h0
  clear own0  c0 h0
  go_wp2_with (at_builtin; refine wpList_append_own _ rfl (.tmp 12) (.tmp 15) 24 rfl w.heap.size 9 i0 (.string ⟨#[]⟩) 1 16 Try.underlying24 hi hz0 hz1 hz2 rfl (by decide) _ _ _ rfl (HO0.out.alloc _) ⟨w3.heap.size, 0, none⟩ 1 1 [.string u] rfl rfl (cell_row w3 [.string u] 9) (fun u hu => by simp at hu; subst hu; rfl) ?c02 ?c03 ?c04 ?_)
  case c02 => first | (unfold maxLen; omega) | decide
  case c03 => first | omega | decide
  case c04 => have := bl.size; simp; omega
  intro v1 w4 hown0 hgrow0 _
  have blw4 : Below w.heap.size w w4 := Below.grown (bl.alloc bl.size _) hgrow0 (by have := bl.size; simp; omega) (fun j hj => by
    rcases HO0.out.2 with ⟨hq, _⟩ | ⟨g, cap, cur, hq, h1, _⟩
    · rw [hq] at hj; simp [Value.ownBlock] at hj
    · rw [hq] at hj; simp [Value.ownBlock] at hj; omega)
  clear bl
  have bl := blw4
  have own1x : w4.ownsRow w.heap.size 9 1 v1 1 [.string u] := hown0
  clear hown0 hgrow0
  have OX := Lib.hid own1x
  clear own1x
  go_wp2_with fail
  rw [rounds_succ]
  go_wp2_with fail
  go_ret
  obtain ⟨g, hg, hs⟩ := srow_own (xs := [u]) OX.out
  exact ⟨_, g, rfl, hs, hg, bl⟩
end LawPartsOf
end Go.Proofs.Ytpabmidjfpabdaa
