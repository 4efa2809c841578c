/- For every input the law FnExactIsNormal returns true, and each text reads behind the call as it read before. No conditions. -/
import Derived.Test.YtalegefnppbkdaaGreatRows
import Derived.Test.YtalegefnppbkdaaGreatJbu

import Derived.WalkKit
import Derived.ProofKit
import Derived.OpenShut
import Derived.ShutString
import Derived.ChangeOld
import Derived.Below
namespace Go.Proofs.YtalegefnppbkdaaGreat
namespace LawIsNormal
open Go.ChangeShapes Go.WideShapes Go.ChangeAt Go.RowKit Go.Proofs.YtalegefnppbkdaaGreat.T1
open Go.ChangeMaps (open_string shut_string)
set_option linter.unusedVariables false

theorem own : ownKnob Tryz.prog.godebug = none := by kernel_rfl
theorem laidOut : laidOutB Tryz.prog = true := by kernel_rfl


set_option maxHeartbeats 1000000 in
theorem walk (a0 : ByteArray) (w0 : a0.size ≤ maxLen) (w : World) : Calls Tryz.prog 5 #[.string a0] w fun e w' => e = .returned (.bool true) ∧ Below w.heap.size w w' := by
  unfold maxLen at w0
  by_cases hl0 : 1048576 < a0.size
  · go_enter Tryz.func5, Tryz.ntmps5
    go_wp2_with fail
    go_ret
    exact ⟨rfl, Below.refl _ _⟩
  · obtain ⟨X, b, h1, h2⟩ := bothI a0 w0
    have H1 := Lib.hid h1
    have H2 := Lib.hid h2
    clear h1 h2
    go_enter Tryz.func5, Tryz.ntmps5
    go_wp2_with fail
    refine (H1.out _).mono ?_
    rintro e w1 ⟨rfl, c1⟩
    go_wp2_with fail
    refine (H2.out _).mono ?_
    rintro e w2 ⟨rfl, c2⟩
    go_wp2_with fail
    go_ret
    exact ⟨rfl, below_trans c1 c2 c1.size⟩


set_option maxRecDepth 100000 in
theorem lifted (os : Os) (started : os.Started) (H : Type) (enc : TypeId × Value → H) :
    ReturnsInHanded {} Tryz.checked os 5 .any (Rows.fnExactIsNormalSpec.pre6 enc Tryz.prog Tryz.f5 Rows.fnExactIsNormalRow.domain false) (Rows.fnExactIsNormalSpec.post enc Tryz.prog Tryz.f5 false true false false) := by
  refine returnsInHanded_of_change (C := Tryz.checked) own started (by kernel_rfl) Tryz.func5
    (ChangeSpec.witness6 (enc := enc) (C := Tryz.checked) false ⟨#[], #[.string ByteArray.empty], []⟩ 8 (by kernel_rfl) (by kernel_rfl) (by kernel_rfl) (by kernel_rfl)) ?_
  intro W base args ds gs before hval0 hW hcnd _
  have hval : ∀ (j : Nat) t v, Tryz.f5.params[j]? = some t → args[j]? = some v → Value.okWide Tryz.prog W .any base t v := hval0
  have hW' := hW
  obtain ⟨p, q, hA0, hV, rfl, hfz, hnd⟩ := hW
  have hA : DataW.TrodAll enc Tryz.prog W 0 (fun _ => true) true Tryz.f5.params.toList args.toList ds p := hA0
  rw [Tryz.params5] at hA hval
  obtain ⟨v0, vs0, d0, ds0, p0, q0, hargs, rfl, rfl, h0, r0⟩ := trodAll_cons hA
  obtain ⟨rfl, rfl, rfl⟩ := trodAll_nil r0
  obtain rfl : args = #[v0] := by cases args; simp_all
  obtain ⟨rfl, rfl⟩ := trodVars_none hV
  obtain ⟨a0, rfl, rfl, rfl, w0⟩ := open_string Tryz.underlying9 (hval 0 9 v0 rfl rfl) h0
  clear hA0 hval0
  simp only [List.append_nil] at hW'
  refine (walk a0 w0 W).mono fun e W' ⟨he, bel⟩ => ?_
  subst he
  exact ⟨_, rfl, _, _, _, [], [], [], hW', trodAll_mk1 (shut_bool Tryz.underlying4 _), (trodAll_cons_mk (shut_string Tryz.underlying9 w0) trodAll_mk0), rfl, bel.frame _, fun h => by cases h⟩

theorem c1 : (Rows.fnExactIsNormalRow.wf (OpenSpec.ofChange Rows.fnExactIsNormalSpec) && laidOutB Tryz.prog && mapsRowed Tryz.prog && Tryz.f5.params.all (Tryz.prog.readableRec ·) && namedTie Tryz.prog Rows.fnExactIsNormalRow.named Rows.fnExactIsNormalSpec.vars && (Rows.fnExactIsNormalRow.stops == []) && (Tryz.prog.stops == []) && (Rows.fnExactIsNormalRow.knobs == []) && (Tryz.prog.stopKnobs == [])) = true := by kernel_rfl
theorem c2 : (Rows.fnExactIsNormalRow.inPlace == Tryz.prog.inPlace 5) = true := by kernel_rfl
theorem c3 : (Rows.fnExactIsNormalRow.unfollowed == Tryz.prog.unfollowed 5) = true := by kernel_rfl
theorem c4 : (Rows.fnExactIsNormalRow.recurses == Tryz.prog.recurses 5) = true := by kernel_rfl
theorem c5 : (Rows.fnExactIsNormalRow.named == Tryz.prog.varsNamed 5) = true := by kernel_rfl
theorem c6 : (Rows.fnExactIsNormalRow.maps == (Tryz.f5.params.toList ++ Rows.fnExactIsNormalSpec.plain.varTypes Tryz.prog).any (Tryz.prog.mapsRec ·)) = true := by kernel_rfl
theorem c7 : (Rows.fnExactIsNormalRow.ifaces == (Tryz.f5.params.toList ++ Rows.fnExactIsNormalSpec.plain.varTypes Tryz.prog).any (Tryz.prog.ifacesRec ·)) = true := by kernel_rfl
theorem c8 : (Rows.fnExactIsNormalRow.mapsOut == Tryz.prog.mapsAmong Tryz.f5.resultTypes.toList) = true := by kernel_rfl
theorem c9 : (Rows.fnExactIsNormalRow.loops == (Tryz.f5.params.toList ++ Rows.fnExactIsNormalSpec.plain.varTypes Tryz.prog).any (Tryz.prog.loopsFrom ·)) = true := by kernel_rfl
theorem d1 : (Rows.fnExactIsNormalRow.wideKeys == (Tryz.f5.params.toList ++ Rows.fnExactIsNormalSpec.plain.varTypes Tryz.prog ++ Tryz.f5.resultTypes.toList).any (Tryz.prog.wideKeysFrom ·)) = true := by kernel_rfl
theorem d2 : Rows.fnExactIsNormalSpec.vars.all (Tryz.prog.varReadable ·) = true := by kernel_rfl
theorem d3 : Tryz.f5.resultTypes.all (fun t => Tryz.prog.readableRec t && decide (t < Tryz.prog.types.size)) = true := by kernel_rfl
theorem d4 : (Rows.fnExactIsNormalRow.ifacesOut == Tryz.f5.resultTypes.toList.any (Tryz.prog.ifacesRec ·)) = true := by kernel_rfl
theorem d5 : (Rows.fnExactIsNormalRow.loopsOut == Tryz.f5.resultTypes.toList.any (Tryz.prog.loopsFrom ·)) = true := by kernel_rfl
theorem d6 : (Rows.fnExactIsNormalRow.plainKeys == Tryz.prog.plainKeys) = true := by kernel_rfl
theorem d7 : Rows.fnExactIsNormalRow.shortTexts.isNone = true := by kernel_rfl
theorem d8 : Tryz.prog.stopsHeard = true := by kernel_rfl
theorem d9 : Tryz.prog.mayEnter = true := by kernel_rfl
theorem e1 : (Rows.fnExactIsNormalRow.lifted == Tryz.prog.liftsFinal) = true := by kernel_rfl
theorem e2 : (Tryz.prog.make == some Rows.fnExactIsNormalRow.make) = true := by kernel_rfl
theorem e4 : (Rows.fnExactIsNormalRow.pinned == Rows.fnExactIsNormalRow.pinnedBy) = true := by kernel_rfl
theorem e5 : (Rows.fnExactIsNormalRow.veiled == (Tryz.f5.params.toList ++ Rows.fnExactIsNormalSpec.plain.varTypes Tryz.prog ++ Tryz.f5.resultTypes.toList).any (Tryz.prog.veiledRec ·)) = true := by kernel_rfl
theorem e6 : Rows.fnExactIsNormalRow.veiledFits Tryz.prog Tryz.f5.params.toList (Tryz.f5.params.toList ++ Rows.fnExactIsNormalSpec.plain.varTypes Tryz.prog ++ Tryz.f5.resultTypes.toList) = true := by kernel_rfl
theorem closed : joinedFacts Tryz.prog 5 Tryz.f5 Rows.fnExactIsNormalSpec Rows.fnExactIsNormalRow = true := by
  unfold joinedFacts
  rw [c1, c2, c3, c4, c5, c6, c7, c8, c9, d1, d2, d3, d4, d5, d6, d7, d8, d9, e1, e2, e4, e5, e6]
  rfl
theorem named : Tryz.prog.funcNamed Rows.fnExactIsNormalRow.func = some 5 := by kernel_rfl
theorem inst : Tryz.f5.isInstance Tryz.prog Rows.fnExactIsNormalRow.origin Rows.fnExactIsNormalRow.targs := of_decide_eq_true (by kernel_rfl)
theorem wrap : Tryz.f5.isWrapper Tryz.prog Rows.fnExactIsNormalRow.wrapper Rows.fnExactIsNormalRow.mainSum := by unfold Func.isWrapper; first | (rw [if_pos (by decide +kernel)]; kernel_rfl) | (rw [if_neg (by decide +kernel)]; exact ⟨rfl, rfl⟩)
theorem over : Rows.fnExactIsNormalRow.holds Tryz.pinned (OpenSpec.ofChange Rows.fnExactIsNormalSpec) :=
  OpenClaim.holds_of_wide 5 Tryz.f5 rfl rfl rfl rfl rfl rfl rfl ⟨rfl, rfl, rfl, rfl, rfl⟩ rfl rfl rfl rfl rfl named Tryz.func5 closed inst wrap
    (fun os started H enc _ => lifted os started H enc)
end LawIsNormal

theorem fnExactIsNormal_holds : Rows.FnExactIsNormalSaid := LawIsNormal.over
#print axioms fnExactIsNormal_holds
end Go.Proofs.YtalegefnppbkdaaGreat
