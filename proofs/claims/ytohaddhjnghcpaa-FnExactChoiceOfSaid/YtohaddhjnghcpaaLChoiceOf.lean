/- For every input the law FnExactChoiceOf returns true, and each text reads behind the call as it read before. No conditions. -/
import Derived.Test.YtohaddhjnghcpaaRows
import Derived.Test.YtohaddhjnghcpaaHbt
import Derived.WalkKit
import Derived.ProofKit
import Derived.OpenShut
import Derived.ShutString
import Derived.ChangeOld
import Derived.Below
namespace Go.Proofs.Ytohaddhjnghcpaa
namespace LawChoiceOf
open Go.ChangeShapes Go.WideShapes Go.ChangeAt Go.RowKit Go.Proofs.Ytohaddhjnghcpaa.T1
open Go.ChangeMaps (open_string shut_string)
set_option linter.unusedVariables false

theorem own : ownKnob Try.prog.godebug = none := by kernel_rfl
theorem laidOut : laidOutB Try.prog = true := by kernel_rfl


theorem cellup {W w1 : World} {b : Nat} {v : Value} (bl : Below W.heap.size W w1) (h : W.cell? ⟨b, 0, none⟩ = some v) : w1.cell? ⟨b, 0, none⟩ = some v := (bl.cell (p := ⟨b, 0, none⟩) (World.block_lt_of_cell? W _ h)).trans h
set_option maxHeartbeats 1000000 in
theorem both (p : ByteArray) (q : ByteArray) (mp : p.size ≤ 9223372036854775807) (mq : q.size ≤ 9223372036854775807) : ∃ (n0 : ByteArray) (y0 : Bool), (∀ w, Calls Try.prog 28 #[.string p, .string q] w fun e w' => e = .returned (.tuple #[.string n0, .bool y0]) ∧ Below w.heap.size w w') ∧ (∀ w, Calls Try.prog 29 #[.string p, .string q] w fun e w' => e = .returned (.tuple #[.string n0, .bool y0]) ∧ Below w.heap.size w w') := by
  cases hgp : good p.data.toList with
  | none =>
    exact ⟨_, _, sp_ChoiceOf_0 _ _  (fun w => tmGood_none hgp w mp), im_ChoiceOf _ _ _ _ (fun W b0 b1 h0 h1 => coded_no _ _ cf_ChoiceOf W (fun w1 bl => cl_ChoiceOf_0 _ _ _ _ w1 (cellup bl h0) (cellup bl h1)  (pi_no _ (fun w => parse_none hgp w mp))))⟩
  | some tp =>
    have Gp := fun w => tmGood_some hgp w mp
    have Np := pi_yes _ _ _ (fun w => parse_some hgp w mp)
    obtain ⟨esp, hLp, hEp, h300p, h60p⟩ := good_S hgp
    subst esp
    cases hgq : good q.data.toList with
    | none =>
      exact ⟨_, _, sp_ChoiceOf_1 _ _ Gp (fun w => tmGood_none hgq w mq), im_ChoiceOf _ _ _ _ (fun W b0 b1 h0 h1 => coded_no _ _ cf_ChoiceOf W (fun w1 bl => cl_ChoiceOf_1 _ _ _ _ _ _ w1 (cellup bl h0) (cellup bl h1) Np (pi_no _ (fun w => parse_none hgq w mq))))⟩
    | some tq =>
      have Gq := fun w => tmGood_some hgq w mq
      have Nq := pi_yes _ _ _ (fun w => parse_some hgq w mq)
      obtain ⟨esq, hLq, hEq, h300q, h60q⟩ := good_S hgq
      subst esq
      obtain ⟨x, z, hxy⟩ : ∃ x z, frs 2 (tp.free ++ tq.free) = [x, z] := ⟨_, _, rfl⟩
      have hmm : ∀ x, x ∈ bothL tp.free tq.free ↔ x ∈ tp.free ++ tq.free := fun x => by rw [mem_bothL]; simp
      by_cases hoth : 2 ≤ (othL (bothL tp.free tq.free)).length
      · skip
        have hnm := frs_nm 2 (tp.free ++ tq.free) (by rw [← oth_ext hmm]; exact hoth)
        rw [hxy] at hnm
        have hx : nmL x = true := hnm x (by simp)
        have hz : nmL z = true := hnm z (by simp)
        have hlen : (choiceC x z tp tq).pr.length ≤ 900 := by rw [choiceC_len]; omega
        exact ⟨(if okT (choiceC x z tp tq) then S (choiceC x z tp tq) else ⟨#[]⟩), okT (choiceC x z tp tq), fun w => spT_ChoiceOf tp tq hEp hEq h300p h300q x z hxy Gp Gq w, im_ChoiceOf _ _ _ _ (fun W b0 b1 h0 h1 => coded_yes _ _ (choiceC x z tp tq) (by rw [choiceC_ok, hx, hz, hLp, hLq]; rfl) hlen (Nat.le_trans (size_le_pr _) (by omega)) cf_ChoiceOf W (fun w1 bl => cl_ChoiceOf_yes _ _ _ _ _ _ _ _ _ _ w1 (cellup bl h0) (cellup bl h1) Np Nq (fun w => choiceOf_yes tp tq hLp hLq x z hoth hxy w)))⟩
      · have hlt : (othL (bothL tp.free tq.free)).length < 2 := by omega
        have hno : (choiceC x z tp tq).ok nmL = false := by obtain ⟨c, h1, h2⟩ := frs_no 2 (tp.free ++ tq.free) (by rw [← oth_ext hmm]; exact hlt); rw [hxy] at h1; simp at h1; rw [choiceC_ok]; rcases h1 with rfl | rfl <;> simp [h2]
        exact ⟨_, _, fun w => (by have h := spT_ChoiceOf tp tq hEp hEq h300p h300q x z hxy Gp Gq w; rw [codedV_no hno] at h; exact h), im_ChoiceOf _ _ _ _ (fun W b0 b1 h0 h1 => coded_no _ _ cf_ChoiceOf W (fun w1 bl => cl_ChoiceOf_nofin _ _ _ _ _ _ _ _ w1 (cellup bl h0) (cellup bl h1) Np Nq (fun w => choiceOf_no tp tq hLp hLq hlt w)))⟩
set_option maxHeartbeats 1000000 in
theorem walk (a0 : ByteArray) (a1 : ByteArray) (w0 : a0.size ≤ maxLen) (w1 : a1.size ≤ maxLen) (w : World) : Calls Try.prog 11 #[.string a0, .string a1] w fun e w' => e = .returned (.bool true) ∧ Below w.heap.size w w' := by
  unfold maxLen at w0 w1
  by_cases hl0 : 1048576 < a0.size
  · go_enter Try.func11, Try.ntmps11
    go_wp2_with fail
    go_ret
    exact ⟨rfl, Below.refl _ _⟩
  · by_cases hl1 : 1048576 < a1.size
    · go_enter Try.func11, Try.ntmps11
      go_wp2_with fail
      go_ret
      exact ⟨rfl, Below.refl _ _⟩
    · obtain ⟨n, b, hs, hi⟩ := both a0 a1 w0 w1
      have H1 := Lib.hid hs
      have H2 := Lib.hid hi
      clear hs hi
      go_enter Try.func11, Try.ntmps11
      go_wp2_with fail
      refine (H1.out _).mono ?_
      rintro e w2 ⟨rfl, b1⟩
      go_wp2_with fail
      refine (H2.out _).mono ?_
      rintro e w3 ⟨rfl, b2⟩
      go_wp2_with fail
      go_ret
      exact ⟨rfl, below_trans b1 b2 b1.size⟩


set_option maxRecDepth 100000 in
theorem lifted (os : Os) (started : os.Started) (H : Type) (enc : TypeId × Value → H) :
    ReturnsInHanded {} Try.checked os 11 .any (Rows.fnExactChoiceOfSpec.pre6 enc Try.prog Try.f11 Rows.fnExactChoiceOfRow.domain false) (Rows.fnExactChoiceOfSpec.post enc Try.prog Try.f11 false true false false) := by
  refine returnsInHanded_of_change (C := Try.checked) own started (by kernel_rfl) Try.func11
    (ChangeSpec.witness6 (enc := enc) (C := Try.checked) false ⟨#[], #[.string ByteArray.empty, .string ByteArray.empty], []⟩ 8 (by kernel_rfl) (by kernel_rfl) (by kernel_rfl) (by kernel_rfl)) ?_
  intro W base args ds gs before hval0 hW hcnd _
  have hval : ∀ (j : Nat) t v, Try.f11.params[j]? = some t → args[j]? = some v → Value.okWide Try.prog W .any base t v := hval0
  have hW' := hW
  obtain ⟨p, q, hA0, hV, rfl, hfz, hnd⟩ := hW
  have hA : DataW.TrodAll enc Try.prog W 0 (fun _ => true) true Try.f11.params.toList args.toList ds p := hA0
  rw [Try.params11] at hA hval
  obtain ⟨v0, vs0, d0, ds0, p0, q0, hargs, rfl, rfl, h0, r0⟩ := trodAll_cons hA
  obtain ⟨v1, vs1, d1, ds1, p1, q1, rfl, rfl, rfl, h1, r1⟩ := trodAll_cons r0
  obtain ⟨rfl, rfl, rfl⟩ := trodAll_nil r1
  obtain rfl : args = #[v0, v1] := by cases args; simp_all
  obtain ⟨rfl, rfl⟩ := trodVars_none hV
  obtain ⟨a0, rfl, rfl, rfl, w0⟩ := open_string Try.underlying9 (hval 0 9 v0 rfl rfl) h0
  obtain ⟨a1, rfl, rfl, rfl, w1⟩ := open_string Try.underlying9 (hval 1 9 v1 rfl rfl) h1
  clear hA0 hval0
  simp only [List.append_nil] at hW'
  refine (walk a0 a1 w0 w1 W).mono fun e W' ⟨he, bel⟩ => ?_
  subst he
  exact ⟨_, rfl, _, _, _, [], [], [], hW', trodAll_mk1 (shut_bool Try.underlying4 _), (trodAll_cons_mk (shut_string Try.underlying9 w0) (trodAll_cons_mk (shut_string Try.underlying9 w1) trodAll_mk0)), rfl, bel.frame _, fun h => by cases h⟩

theorem over : Rows.fnExactChoiceOfRow.holds Try.pinned (OpenSpec.ofChange Rows.fnExactChoiceOfSpec) :=
  OpenClaim.holds_of_wide 11 Try.f11 rfl rfl rfl rfl rfl rfl rfl ⟨rfl, rfl, rfl, rfl, rfl⟩ rfl rfl rfl rfl rfl (by kernel_rfl) Try.func11 (by kernel_rfl)
    (of_decide_eq_true (by kernel_rfl)) (by unfold Func.isWrapper; first | (rw [if_pos (by decide +kernel)]; kernel_rfl) | (rw [if_neg (by decide +kernel)]; exact ⟨rfl, rfl⟩))
    (fun os started H enc _ => lifted os started H enc)
end LawChoiceOf

theorem fnExactChoiceOf_holds : Rows.FnExactChoiceOfSaid := LawChoiceOf.over
#print axioms fnExactChoiceOf_holds
end Go.Proofs.Ytohaddhjnghcpaa
