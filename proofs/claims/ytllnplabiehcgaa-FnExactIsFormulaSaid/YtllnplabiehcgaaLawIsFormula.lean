/- For every input the law FnExactIsFormula returns true, and each text reads behind the call as it read before. No conditions. -/
import Derived.Test.YtllnplabiehcgaaRows
import Derived.Test.YtllnplabiehcgaaFh
import Derived.WalkKit
import Derived.ProofKit
import Derived.OpenShut
import Derived.ShutString
import Derived.ChangeOld
import Derived.Below
namespace Go.Proofs.Ytllnplabiehcgaa
namespace LawIsFormula
open Go.ChangeShapes Go.WideShapes Go.ChangeAt Go.RowKit Go.Proofs.Ytllnplabiehcgaa.T1
open Go.ChangeMaps (open_string shut_string)
set_option linter.unusedVariables false

theorem own : ownKnob Try.prog.godebug = none := by kernel_rfl
theorem laidOut : laidOutB Try.prog = true := by kernel_rfl



theorem sI (s : ByteArray) (hm : s.size ≤ 9223372036854775807) (w : World) : Calls Try.prog 5 #[.string s] w fun e w' => e = .returned (.bool (isFm s.data.toList)) ∧ Below w.heap.size w w' := by
  have G1 := Lib.hid (fun w => biIs_any s w hm)
  go_enter Try.func5, Try.ntmps5
  go_wp2_with fail
  refine (G1.out _).mono ?_
  rintro e w1 ⟨rfl, b1⟩
  go_wp2_with fail
  go_ret
  exact ⟨rfl, b1⟩
theorem iI (s : ByteArray) (hm : s.size ≤ 9223372036854775807) (w : World) : Calls Try.prog 6 #[.string s] w fun e w' => e = .returned (.bool (isFm s.data.toList)) ∧ Below w.heap.size w w' := by
  have G1 := Lib.hid (fun w => readFormula_any s w hm)
  go_enter Try.func6, Try.ntmps6
  go_wp2_with fail
  refine (G1.out _).mono ?_
  rintro e w1 ⟨⟨f, hf, rfl⟩ | ⟨hf, v, hv, rfl⟩, b1⟩
  · have HG : Hid (isFm s.data.toList = true) := by show _ = _; unfold isFm; rw [hf]; rfl
    clear hf
    go_wp2_with fail
    go_ret
    exact ⟨by rw [HG.out]; rfl, b1⟩
  · have HG : Hid (isFm s.data.toList = false) := by show _ = _; unfold isFm; rw [hf]; rfl
    clear hf
    rcases hv with rfl | ⟨tv, vv, rfl⟩
    all_goals
      go_wp2_with fail
      go_ret
      exact ⟨by rw [HG.out]; rfl, b1⟩
theorem go (s : ByteArray) (b : Bool) (h0 : s.size ≤ maxLen) (H1 : ∀ w, Calls Try.prog 5 #[.string s] w fun e w' => e = .returned (.bool b) ∧ Below w.heap.size w w') (H2 : ∀ w, Calls Try.prog 6 #[.string s] w fun e w' => e = .returned (.bool b) ∧ Below w.heap.size w w') (w : World) : Calls Try.prog 3 #[.string s] w fun e w' => e = .returned (.bool true) ∧ Below w.heap.size w w' := by
  unfold maxLen at h0
  have H1 := Lib.hid H1
  have H2 := Lib.hid H2
  by_cases hl : 1048576 < s.size
  · go_enter Try.func3, Try.ntmps3
    go_wp2_with fail
    go_ret
    exact ⟨rfl, Below.refl _ _⟩
  · go_enter Try.func3, Try.ntmps3
    go_wp2_with fail
    refine (H1.out _).mono ?_
    rintro e w1 ⟨rfl, b1⟩
    go_wp2_with fail
    refine (H2.out _).mono ?_
    rintro e w2 ⟨rfl, b2⟩
    go_wp2_with fail
    go_ret
    exact ⟨rfl, below_trans b1 b2 b1.size⟩
theorem walk (s : ByteArray) (h0 : s.size ≤ maxLen) (w : World) : Calls Try.prog 3 #[.string s] w fun e w' => e = .returned (.bool true) ∧ Below w.heap.size w w' := go s _ h0 (sI s h0) (iI s h0) w


set_option maxRecDepth 100000 in
theorem lifted (os : Os) (started : os.Started) (H : Type) (enc : TypeId × Value → H) :
    ReturnsInHanded {} Try.checked os 3 .any (Rows.fnExactIsFormulaSpec.pre6 enc Try.prog Try.f3 Rows.fnExactIsFormulaRow.domain false) (Rows.fnExactIsFormulaSpec.post enc Try.prog Try.f3 false true false false) := by
  refine returnsInHanded_of_change (C := Try.checked) own started (by kernel_rfl) Try.func3
    (ChangeSpec.witness6 (enc := enc) (C := Try.checked) false ⟨#[], #[.string ByteArray.empty], []⟩ 8 (by kernel_rfl) (by kernel_rfl) (by kernel_rfl) (by kernel_rfl)) ?_
  intro W base args ds gs before hval0 hW hcnd _
  have hval : ∀ (j : Nat) t v, Try.f3.params[j]? = some t → args[j]? = some v → Value.okWide Try.prog W .any base t v := hval0
  have hW' := hW
  obtain ⟨p, q, hA0, hV, rfl, hfz, hnd⟩ := hW
  have hA : DataW.TrodAll enc Try.prog W 0 (fun _ => true) true Try.f3.params.toList args.toList ds p := hA0
  rw [Try.params3] at hA hval
  obtain ⟨v0, vs0, d0, ds0, p0, q0, hargs, rfl, rfl, h0, r0⟩ := trodAll_cons hA
  obtain ⟨rfl, rfl, rfl⟩ := trodAll_nil r0
  obtain rfl : args = #[v0] := by cases args; simp_all
  obtain ⟨rfl, rfl⟩ := trodVars_none hV
  obtain ⟨a0, rfl, rfl, rfl, w0⟩ := open_string Try.underlying9 (hval 0 9 v0 rfl rfl) h0
  clear hA0 hval0
  simp only [List.append_nil] at hW'
  refine (walk a0 w0 W).mono fun e W' ⟨he, bel⟩ => ?_
  subst he
  exact ⟨_, rfl, _, _, _, [], [], [], hW', trodAll_mk1 (shut_bool Try.underlying4 _), (trodAll_cons_mk (shut_string Try.underlying9 w0) trodAll_mk0), rfl, bel.frame _, fun h => by cases h⟩

theorem over : Rows.fnExactIsFormulaRow.holds Try.pinned (OpenSpec.ofChange Rows.fnExactIsFormulaSpec) :=
  OpenClaim.holds_of_wide 3 Try.f3 rfl rfl rfl rfl rfl rfl rfl ⟨rfl, rfl, rfl, rfl, rfl⟩ rfl rfl rfl rfl rfl (by kernel_rfl) Try.func3 (by kernel_rfl)
    (of_decide_eq_true (by kernel_rfl)) (by unfold Func.isWrapper; first | (rw [if_pos (by decide +kernel)]; kernel_rfl) | (rw [if_neg (by decide +kernel)]; exact ⟨rfl, rfl⟩))
    (fun os started H enc _ => lifted os started H enc)
end LawIsFormula

theorem fnExactIsFormula_holds : Rows.FnExactIsFormulaSaid := LawIsFormula.over
#print axioms fnExactIsFormula_holds
end Go.Proofs.Ytllnplabiehcgaa
