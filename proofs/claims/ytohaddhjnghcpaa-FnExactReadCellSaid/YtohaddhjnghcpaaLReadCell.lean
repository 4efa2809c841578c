/- For every input the law FnExactReadCell returns true, and each text reads behind the call as it read before. No conditions. -/
import Derived.Test.YtohaddhjnghcpaaRows
import Derived.Test.YtohaddhjnghcpaaHbt
import Derived.WalkKit
import Derived.ProofKit
import Derived.OpenShut
import Derived.ShutString
import Derived.ChangeOld
import Derived.Below
namespace Go.Proofs.Ytohaddhjnghcpaa
namespace LawReadCell
open Go.ChangeShapes Go.WideShapes Go.ChangeAt Go.RowKit Go.Proofs.Ytohaddhjnghcpaa.T1
open Go.ChangeMaps (open_string shut_string)
set_option linter.unusedVariables false

theorem own : ownKnob Try.prog.godebug = none := by kernel_rfl
theorem laidOut : laidOutB Try.prog = true := by kernel_rfl


theorem cellup {W w1 : World} {b : Nat} {v : Value} (bl : Below W.heap.size W w1) (h : W.cell? ⟨b, 0, none⟩ = some v) : w1.cell? ⟨b, 0, none⟩ = some v := (bl.cell (p := ⟨b, 0, none⟩) (World.block_lt_of_cell? W _ h)).trans h
set_option maxHeartbeats 1000000 in
theorem both (a : ByteArray) (b : ByteArray) (p : ByteArray) (ma : a.size ≤ 9223372036854775807) (mb : b.size ≤ 9223372036854775807) (mp : p.size ≤ 9223372036854775807) : ∃ (n0 : ByteArray) (y0 : Bool), (∀ w, Calls Try.prog 24 #[.string a, .string b, .string p] w fun e w' => e = .returned (.tuple #[.string n0, .bool y0]) ∧ Below w.heap.size w w') ∧ (∀ w, Calls Try.prog 25 #[.string a, .string b, .string p] w fun e w' => e = .returned (.tuple #[.string n0, .bool y0]) ∧ Below w.heap.size w w') := by
  rcases one_or a with ⟨ca, hca, rfl, Sa, Ia⟩ | ⟨Sa, Ia⟩
  · have Na := ni_yes _ _ Ia
    rcases one_or b with ⟨cb, hcb, rfl, Sb, Ib⟩ | ⟨Sb, Ib⟩
    · have Nb := ni_yes _ _ Ib
      by_cases hab : ca = cb
      · subst hab
        exact ⟨_, _, sp_ReadCell_2 _ _ _ (by simp) Sa Sb, im_ReadCell _ _ _ _ _ (fun W b0 b1 b2 h0 h1 h2 => coded_no _ _ cf_ReadCell W (fun w1 bl => cl_ReadCell_eq _ _ _ _ _ _ _ _ w1 (cellup bl h0) (cellup bl h1) (cellup bl h2) Na Nb (by simp)))⟩
      · have hqs : ((B [ca]).toList == (B [cb]).toList) = false := by rw [Bt, Bt]; simpa using hab
        have hne : (((ca.toNat : Nat) : Int) != ((cb.toNat : Nat) : Int)) = true := by simp only [bne_iff_ne, ne_eq]; exact fun h => hab (u8_ext (by omega))
        cases hgp : good p.data.toList with
        | none =>
          exact ⟨_, _, sp_ReadCell_3 _ _ _ hqs Sa Sb (fun w => tmGood_none hgp w mp), im_ReadCell _ _ _ _ _ (fun W b0 b1 b2 h0 h1 h2 => coded_no _ _ cf_ReadCell W (fun w1 bl => cl_ReadCell_p _ _ _ _ _ _ _ _ w1 (cellup bl h0) (cellup bl h1) (cellup bl h2) Na Nb hne (pi_no _ (fun w => parse_none hgp w mp))))⟩
        | some tp =>
          have Gp := fun w => tmGood_some hgp w mp
          have Np := pi_yes _ _ _ (fun w => parse_some hgp w mp)
          obtain ⟨esp, hLp, hEp, h300p, h60p⟩ := good_S hgp
          subst esp
          have hlen : (cellC ca cb cb tp).pr.length ≤ 900 := by simp [cellC, Tm.pr]; omega
          exact ⟨(if okT (cellC ca cb cb tp) then S (cellC ca cb cb tp) else ⟨#[]⟩), okT (cellC ca cb cb tp), fun w => spT_ReadCell ca cb tp hab hca hcb hEp h300p Sa Sb Gp w, im_ReadCell _ _ _ _ _ (fun W b0 b1 b2 h0 h1 h2 => coded_yes _ _ (cellC ca cb cb tp) (by rw [cellC_ok, hca, hcb, hLp]; rfl) hlen (Nat.le_trans (size_le_pr _) (by omega)) cf_ReadCell W (fun w1 bl => cl_ReadCell_yes _ _ _ _ _ _ _ _ _ _ _ _ w1 (cellup bl h0) (cellup bl h1) (cellup bl h2) Na Nb hne Np (fun w => behindCell_any ca cb cb tp w)))⟩
    · exact ⟨_, _, sp_ReadCell_1 _ _ _ Sa Sb, im_ReadCell _ _ _ _ _ (fun W b0 b1 b2 h0 h1 h2 => coded_no _ _ cf_ReadCell W (fun w1 bl => cl_ReadCell_1 _ _ _ _ _ _ _ w1 (cellup bl h0) (cellup bl h1) (cellup bl h2) Na (ni_no _ Ib)))⟩
  · exact ⟨_, _, sp_ReadCell_0 _ _ _  Sa, im_ReadCell _ _ _ _ _ (fun W b0 b1 b2 h0 h1 h2 => coded_no _ _ cf_ReadCell W (fun w1 bl => cl_ReadCell_0 _ _ _ _ _ _ w1 (cellup bl h0) (cellup bl h1) (cellup bl h2)  (ni_no _ Ia)))⟩
set_option maxHeartbeats 1000000 in
theorem walk (a0 : ByteArray) (a1 : ByteArray) (a2 : ByteArray) (w0 : a0.size ≤ maxLen) (w1 : a1.size ≤ maxLen) (w2 : a2.size ≤ maxLen) (w : World) : Calls Try.prog 9 #[.string a0, .string a1, .string a2] w fun e w' => e = .returned (.bool true) ∧ Below w.heap.size w w' := by
  unfold maxLen at w0 w1 w2
  by_cases hl0 : 1048576 < a0.size
  · go_enter Try.func9, Try.ntmps9
    go_wp2_with fail
    go_ret
    exact ⟨rfl, Below.refl _ _⟩
  · by_cases hl1 : 1048576 < a1.size
    · go_enter Try.func9, Try.ntmps9
      go_wp2_with fail
      go_ret
      exact ⟨rfl, Below.refl _ _⟩
    · by_cases hl2 : 1048576 < a2.size
      · go_enter Try.func9, Try.ntmps9
        go_wp2_with fail
        go_ret
        exact ⟨rfl, Below.refl _ _⟩
      · obtain ⟨n, b, hs, hi⟩ := both a0 a1 a2 w0 w1 w2
        have H1 := Lib.hid hs
        have H2 := Lib.hid hi
        clear hs hi
        go_enter Try.func9, Try.ntmps9
        go_wp2_with fail
        refine (H1.out _).mono ?_
        rintro e w2 ⟨rfl, b1⟩
        go_wp2_with fail
        refine (H2.out _).mono ?_
        rintro e w3 ⟨rfl, b2⟩
        go_wp2_with fail
        go_ret
        exact ⟨rfl, below_trans b1 b2 b1.size⟩


set_option maxRecDepth 100000 in
theorem lifted (os : Os) (started : os.Started) (H : Type) (enc : TypeId × Value → H) :
    ReturnsInHanded {} Try.checked os 9 .any (Rows.fnExactReadCellSpec.pre6 enc Try.prog Try.f9 Rows.fnExactReadCellRow.domain false) (Rows.fnExactReadCellSpec.post enc Try.prog Try.f9 false true false false) := by
  refine returnsInHanded_of_change (C := Try.checked) own started (by kernel_rfl) Try.func9
    (ChangeSpec.witness6 (enc := enc) (C := Try.checked) false ⟨#[], #[.string ByteArray.empty, .string ByteArray.empty, .string ByteArray.empty], []⟩ 8 (by kernel_rfl) (by kernel_rfl) (by kernel_rfl) (by kernel_rfl)) ?_
  intro W base args ds gs before hval0 hW hcnd _
  have hval : ∀ (j : Nat) t v, Try.f9.params[j]? = some t → args[j]? = some v → Value.okWide Try.prog W .any base t v := hval0
  have hW' := hW
  obtain ⟨p, q, hA0, hV, rfl, hfz, hnd⟩ := hW
  have hA : DataW.TrodAll enc Try.prog W 0 (fun _ => true) true Try.f9.params.toList args.toList ds p := hA0
  rw [Try.params9] at hA hval
  obtain ⟨v0, vs0, d0, ds0, p0, q0, hargs, rfl, rfl, h0, r0⟩ := trodAll_cons hA
  obtain ⟨v1, vs1, d1, ds1, p1, q1, rfl, rfl, rfl, h1, r1⟩ := trodAll_cons r0
  obtain ⟨v2, vs2, d2, ds2, p2, q2, rfl, rfl, rfl, h2, r2⟩ := trodAll_cons r1
  obtain ⟨rfl, rfl, rfl⟩ := trodAll_nil r2
  obtain rfl : args = #[v0, v1, v2] := by cases args; simp_all
  obtain ⟨rfl, rfl⟩ := trodVars_none hV
  obtain ⟨a0, rfl, rfl, rfl, w0⟩ := open_string Try.underlying9 (hval 0 9 v0 rfl rfl) h0
  obtain ⟨a1, rfl, rfl, rfl, w1⟩ := open_string Try.underlying9 (hval 1 9 v1 rfl rfl) h1
  obtain ⟨a2, rfl, rfl, rfl, w2⟩ := open_string Try.underlying9 (hval 2 9 v2 rfl rfl) h2
  clear hA0 hval0
  simp only [List.append_nil] at hW'
  refine (walk a0 a1 a2 w0 w1 w2 W).mono fun e W' ⟨he, bel⟩ => ?_
  subst he
  exact ⟨_, rfl, _, _, _, [], [], [], hW', trodAll_mk1 (shut_bool Try.underlying4 _), (trodAll_cons_mk (shut_string Try.underlying9 w0) (trodAll_cons_mk (shut_string Try.underlying9 w1) (trodAll_cons_mk (shut_string Try.underlying9 w2) trodAll_mk0))), rfl, bel.frame _, fun h => by cases h⟩

theorem over : Rows.fnExactReadCellRow.holds Try.pinned (OpenSpec.ofChange Rows.fnExactReadCellSpec) :=
  OpenClaim.holds_of_wide 9 Try.f9 rfl rfl rfl rfl rfl rfl rfl ⟨rfl, rfl, rfl, rfl, rfl⟩ rfl rfl rfl rfl rfl (by kernel_rfl) Try.func9 (by kernel_rfl)
    (of_decide_eq_true (by kernel_rfl)) (by unfold Func.isWrapper; first | (rw [if_pos (by decide +kernel)]; kernel_rfl) | (rw [if_neg (by decide +kernel)]; exact ⟨rfl, rfl⟩))
    (fun os started H enc _ => lifted os started H enc)
end LawReadCell

theorem fnExactReadCell_holds : Rows.FnExactReadCellSaid := LawReadCell.over
#print axioms fnExactReadCell_holds
end Go.Proofs.Ytohaddhjnghcpaa
