/- For every input the law FnExactCellAt returns true, and each text reads behind the call as it read before. No conditions. -/
import Derived.Test.YtohaddhjnghcpaaRows
import Derived.Test.YtohaddhjnghcpaaHbt
import Derived.WalkKit
import Derived.ProofKit
import Derived.OpenShut
import Derived.ShutString
import Derived.ChangeOld
import Derived.Below
namespace Go.Proofs.Ytohaddhjnghcpaa
namespace LawCellAt
open Go.ChangeShapes Go.WideShapes Go.ChangeAt Go.RowKit Go.Proofs.Ytohaddhjnghcpaa.T1
open Go.ChangeMaps (open_string shut_string)
set_option linter.unusedVariables false

theorem own : ownKnob Try.prog.godebug = none := by kernel_rfl
theorem laidOut : laidOutB Try.prog = true := by kernel_rfl


theorem cellup {W w1 : World} {b : Nat} {v : Value} (bl : Below W.heap.size W w1) (h : W.cell? ⟨b, 0, none⟩ = some v) : w1.cell? ⟨b, 0, none⟩ = some v := (bl.cell (p := ⟨b, 0, none⟩) (World.block_lt_of_cell? W _ h)).trans h
set_option maxHeartbeats 1000000 in
theorem both (a : ByteArray) (b : ByteArray) (ma : a.size ≤ 9223372036854775807) (mb : b.size ≤ 9223372036854775807) : ∃ (n0 : ByteArray) (y0 : Bool), (∀ w, Calls Try.prog 22 #[.string a, .string b] w fun e w' => e = .returned (.tuple #[.string n0, .bool y0]) ∧ Below w.heap.size w w') ∧ (∀ w, Calls Try.prog 23 #[.string a, .string b] w fun e w' => e = .returned (.tuple #[.string n0, .bool y0]) ∧ Below w.heap.size w w') := by
  rcases one_or a with ⟨ca, hca, rfl, Sa, Ia⟩ | ⟨Sa, Ia⟩
  · have Na := ni_yes _ _ Ia
    rcases one_or b with ⟨cb, hcb, rfl, Sb, Ib⟩ | ⟨Sb, Ib⟩
    · have Nb := ni_yes _ _ Ib
      have hlen : (Tm.snd ca cb .nil).pr.length ≤ 900 := by simp [Tm.pr]
      exact ⟨(if okT (Tm.snd ca cb .nil) then S (Tm.snd ca cb .nil) else ⟨#[]⟩), okT (Tm.snd ca cb .nil), fun w => spT_CellAt ca cb hca hcb Sa Sb w, im_CellAt _ _ _ _ (fun W b0 b1 h0 h1 => coded_yes _ _ (Tm.snd ca cb .nil) (by simp [Tm.ok, hca, hcb]) hlen (Nat.le_trans (size_le_pr _) (by omega)) cf_CellAt W (fun w1 bl => cl_CellAt_yes _ _ _ _ _ _ _ _ w1 (cellup bl h0) (cellup bl h1) Na Nb (fun w => (sendOnly_any ca cb w).mono fun e w' h => ⟨h.1, by rw [h.2]; exact Below.refl _ _⟩)))⟩
    · exact ⟨_, _, sp_CellAt_1 _ _ Sa Sb, im_CellAt _ _ _ _ (fun W b0 b1 h0 h1 => coded_no _ _ cf_CellAt W (fun w1 bl => cl_CellAt_1 _ _ _ _ _ w1 (cellup bl h0) (cellup bl h1) Na (ni_no _ Ib)))⟩
  · exact ⟨_, _, sp_CellAt_0 _ _  Sa, im_CellAt _ _ _ _ (fun W b0 b1 h0 h1 => coded_no _ _ cf_CellAt W (fun w1 bl => cl_CellAt_0 _ _ _ _ w1 (cellup bl h0) (cellup bl h1)  (ni_no _ Ia)))⟩
set_option maxHeartbeats 1000000 in
theorem walk (a0 : ByteArray) (a1 : ByteArray) (w0 : a0.size ≤ maxLen) (w1 : a1.size ≤ maxLen) (w : World) : Calls Try.prog 8 #[.string a0, .string a1] w fun e w' => e = .returned (.bool true) ∧ Below w.heap.size w w' := by
  unfold maxLen at w0 w1
  by_cases hl0 : 1048576 < a0.size
  · go_enter Try.func8, Try.ntmps8
    go_wp2_with fail
    go_ret
    exact ⟨rfl, Below.refl _ _⟩
  · by_cases hl1 : 1048576 < a1.size
    · go_enter Try.func8, Try.ntmps8
      go_wp2_with fail
      go_ret
      exact ⟨rfl, Below.refl _ _⟩
    · obtain ⟨n, b, hs, hi⟩ := both a0 a1 w0 w1
      have H1 := Lib.hid hs
      have H2 := Lib.hid hi
      clear hs hi
      go_enter Try.func8, Try.ntmps8
      go_wp2_with fail
      refine (H1.out _).mono ?_
      rintro e w2 ⟨rfl, b1⟩
      go_wp2_with fail
      refine (H2.out _).mono ?_
      rintro e w3 ⟨rfl, b2⟩
      go_wp2_with fail
      go_ret
      exact ⟨rfl, below_trans b1 b2 b1.size⟩


set_option maxRecDepth 100000 in
theorem lifted (os : Os) (started : os.Started) (H : Type) (enc : TypeId × Value → H) :
    ReturnsInHanded {} Try.checked os 8 .any (Rows.fnExactCellAtSpec.pre6 enc Try.prog Try.f8 Rows.fnExactCellAtRow.domain false) (Rows.fnExactCellAtSpec.post enc Try.prog Try.f8 false true false false) := by
  refine returnsInHanded_of_change (C := Try.checked) own started (by kernel_rfl) Try.func8
    (ChangeSpec.witness6 (enc := enc) (C := Try.checked) false ⟨#[], #[.string ByteArray.empty, .string ByteArray.empty], []⟩ 8 (by kernel_rfl) (by kernel_rfl) (by kernel_rfl) (by kernel_rfl)) ?_
  intro W base args ds gs before hval0 hW hcnd _
  have hval : ∀ (j : Nat) t v, Try.f8.params[j]? = some t → args[j]? = some v → Value.okWide Try.prog W .any base t v := hval0
  have hW' := hW
  obtain ⟨p, q, hA0, hV, rfl, hfz, hnd⟩ := hW
  have hA : DataW.TrodAll enc Try.prog W 0 (fun _ => true) true Try.f8.params.toList args.toList ds p := hA0
  rw [Try.params8] at hA hval
  obtain ⟨v0, vs0, d0, ds0, p0, q0, hargs, rfl, rfl, h0, r0⟩ := trodAll_cons hA
  obtain ⟨v1, vs1, d1, ds1, p1, q1, rfl, rfl, rfl, h1, r1⟩ := trodAll_cons r0
  obtain ⟨rfl, rfl, rfl⟩ := trodAll_nil r1
  obtain rfl : args = #[v0, v1] := by cases args; simp_all
  obtain ⟨rfl, rfl⟩ := trodVars_none hV
  obtain ⟨a0, rfl, rfl, rfl, w0⟩ := open_string Try.underlying9 (hval 0 9 v0 rfl rfl) h0
  obtain ⟨a1, rfl, rfl, rfl, w1⟩ := open_string Try.underlying9 (hval 1 9 v1 rfl rfl) h1
  clear hA0 hval0
  simp only [List.append_nil] at hW'
  refine (walk a0 a1 w0 w1 W).mono fun e W' ⟨he, bel⟩ => ?_
  subst he
  exact ⟨_, rfl, _, _, _, [], [], [], hW', trodAll_mk1 (shut_bool Try.underlying4 _), (trodAll_cons_mk (shut_string Try.underlying9 w0) (trodAll_cons_mk (shut_string Try.underlying9 w1) trodAll_mk0)), rfl, bel.frame _, fun h => by cases h⟩

theorem over : Rows.fnExactCellAtRow.holds Try.pinned (OpenSpec.ofChange Rows.fnExactCellAtSpec) :=
  OpenClaim.holds_of_wide 8 Try.f8 rfl rfl rfl rfl rfl rfl rfl ⟨rfl, rfl, rfl, rfl, rfl⟩ rfl rfl rfl rfl rfl (by kernel_rfl) Try.func8 (by kernel_rfl)
    (of_decide_eq_true (by kernel_rfl)) (by unfold Func.isWrapper; first | (rw [if_pos (by decide +kernel)]; kernel_rfl) | (rw [if_neg (by decide +kernel)]; exact ⟨rfl, rfl⟩))
    (fun os started H enc _ => lifted os started H enc)
end LawCellAt

theorem fnExactCellAt_holds : Rows.FnExactCellAtSaid := LawCellAt.over
#print axioms fnExactCellAt_holds
end Go.Proofs.Ytohaddhjnghcpaa
