/- For every input the law FnExactFrontNames returns true, and each text reads behind the call as it read before. No conditions. -/
import Derived.Test.YtalegefnppbkdaaGreatRows
import Derived.Test.YtalegefnppbkdaaGreatJbv

import Derived.WalkKit
import Derived.ProofKit
import Derived.OpenShut
import Derived.ShutString
import Derived.ChangeOld
import Derived.Below
namespace Go.Proofs.YtalegefnppbkdaaGreat
namespace LawFrontNames
open Go.ChangeShapes Go.WideShapes Go.ChangeAt Go.RowKit Go.Proofs.YtalegefnppbkdaaGreat.T1
open Go.ChangeMaps (open_string shut_string)
set_option linter.unusedVariables false

theorem own : ownKnob Tryz.prog.godebug = none := by kernel_rfl
theorem laidOut : laidOutB Tryz.prog = true := by kernel_rfl


set_option maxHeartbeats 1000000 in
theorem walk (a0 : ByteArray) (w0 : a0.size ≤ maxLen) (w : World) : Calls Tryz.prog 6 #[.string a0] w fun e w' => e = .returned (.bool true) ∧ Below w.heap.size w w' := by
  unfold maxLen at w0
  by_cases hl0 : 1048576 < a0.size
  · go_enter Tryz.func6, Tryz.ntmps6
    go_wp2_with fail
    go_ret
    exact ⟨rfl, Below.refl _ _⟩
  · obtain ⟨X, b, h1, h2⟩ := bothFr a0 w0
    have H1 := Lib.hid h1
    have H2 := Lib.hid h2
    clear h1 h2
    go_enter Tryz.func6, Tryz.ntmps6
    go_wp2_with fail
    refine (H1.out _).mono ?_
    rintro e w1 ⟨rfl, c1⟩
    go_wp2_with fail
    refine (H2.out _).mono ?_
    rintro e w2 ⟨rfl, c2⟩
    go_wp2_with fail
    go_ret
    exact ⟨rfl, below_trans c1 c2 c1.size⟩


set_option maxRecDepth 100000 in
theorem lifted (os : Os) (started : os.Started) (H : Type) (enc : TypeId × Value → H) :
    ReturnsInHanded {} Tryz.checked os 6 .any (Rows.fnExactFrontNamesSpec.pre6 enc Tryz.prog Tryz.f6 Rows.fnExactFrontNamesRow.domain false) (Rows.fnExactFrontNamesSpec.post enc Tryz.prog Tryz.f6 false true false false) := by
  refine returnsInHanded_of_change (C := Tryz.checked) own started (by kernel_rfl) Tryz.func6
    (ChangeSpec.witness6 (enc := enc) (C := Tryz.checked) false ⟨#[], #[.string ByteArray.empty], []⟩ 8 (by kernel_rfl) (by kernel_rfl) (by kernel_rfl) (by kernel_rfl)) ?_
  intro W base args ds gs before hval0 hW hcnd _
  have hval : ∀ (j : Nat) t v, Tryz.f6.params[j]? = some t → args[j]? = some v → Value.okWide Tryz.prog W .any base t v := hval0
  have hW' := hW
  obtain ⟨p, q, hA0, hV, rfl, hfz, hnd⟩ := hW
  have hA : DataW.TrodAll enc Tryz.prog W 0 (fun _ => true) true Tryz.f6.params.toList args.toList ds p := hA0
  rw [Tryz.params6] at hA hval
  obtain ⟨v0, vs0, d0, ds0, p0, q0, hargs, rfl, rfl, h0, r0⟩ := trodAll_cons hA
  obtain ⟨rfl, rfl, rfl⟩ := trodAll_nil r0
  obtain rfl : args = #[v0] := by cases args; simp_all
  obtain ⟨rfl, rfl⟩ := trodVars_none hV
  obtain ⟨a0, rfl, rfl, rfl, w0⟩ := open_string Tryz.underlying9 (hval 0 9 v0 rfl rfl) h0
  clear hA0 hval0
  simp only [List.append_nil] at hW'
  refine (walk a0 w0 W).mono fun e W' ⟨he, bel⟩ => ?_
  subst he
  exact ⟨_, rfl, _, _, _, [], [], [], hW', trodAll_mk1 (shut_bool Tryz.underlying4 _), (trodAll_cons_mk (shut_string Tryz.underlying9 w0) trodAll_mk0), rfl, bel.frame _, fun h => by cases h⟩

theorem c1 : (Rows.fnExactFrontNamesRow.wf (OpenSpec.ofChange Rows.fnExactFrontNamesSpec) && laidOutB Tryz.prog && mapsRowed Tryz.prog && Tryz.f6.params.all (Tryz.prog.readableRec ·) && namedTie Tryz.prog Rows.fnExactFrontNamesRow.named Rows.fnExactFrontNamesSpec.vars && (Rows.fnExactFrontNamesRow.stops == []) && (Tryz.prog.stops == []) && (Rows.fnExactFrontNamesRow.knobs == []) && (Tryz.prog.stopKnobs == [])) = true := by kernel_rfl
theorem c2 : (Rows.fnExactFrontNamesRow.inPlace == Tryz.prog.inPlace 6) = true := by kernel_rfl
theorem c3 : (Rows.fnExactFrontNamesRow.unfollowed == Tryz.prog.unfollowed 6) = true := by kernel_rfl
theorem c4 : (Rows.fnExactFrontNamesRow.recurses == Tryz.prog.recurses 6) = true := by kernel_rfl
theorem c5 : (Rows.fnExactFrontNamesRow.named == Tryz.prog.varsNamed 6) = true := by kernel_rfl
theorem c6 : (Rows.fnExactFrontNamesRow.maps == (Tryz.f6.params.toList ++ Rows.fnExactFrontNamesSpec.plain.varTypes Tryz.prog).any (Tryz.prog.mapsRec ·)) = true := by kernel_rfl
theorem c7 : (Rows.fnExactFrontNamesRow.ifaces == (Tryz.f6.params.toList ++ Rows.fnExactFrontNamesSpec.plain.varTypes Tryz.prog).any (Tryz.prog.ifacesRec ·)) = true := by kernel_rfl
theorem c8 : (Rows.fnExactFrontNamesRow.mapsOut == Tryz.prog.mapsAmong Tryz.f6.resultTypes.toList) = true := by kernel_rfl
theorem c9 : (Rows.fnExactFrontNamesRow.loops == (Tryz.f6.params.toList ++ Rows.fnExactFrontNamesSpec.plain.varTypes Tryz.prog).any (Tryz.prog.loopsFrom ·)) = true := by kernel_rfl
theorem d1 : (Rows.fnExactFrontNamesRow.wideKeys == (Tryz.f6.params.toList ++ Rows.fnExactFrontNamesSpec.plain.varTypes Tryz.prog ++ Tryz.f6.resultTypes.toList).any (Tryz.prog.wideKeysFrom ·)) = true := by kernel_rfl
theorem d2 : Rows.fnExactFrontNamesSpec.vars.all (Tryz.prog.varReadable ·) = true := by kernel_rfl
theorem d3 : Tryz.f6.resultTypes.all (fun t => Tryz.prog.readableRec t && decide (t < Tryz.prog.types.size)) = true := by kernel_rfl
theorem d4 : (Rows.fnExactFrontNamesRow.ifacesOut == Tryz.f6.resultTypes.toList.any (Tryz.prog.ifacesRec ·)) = true := by kernel_rfl
theorem d5 : (Rows.fnExactFrontNamesRow.loopsOut == Tryz.f6.resultTypes.toList.any (Tryz.prog.loopsFrom ·)) = true := by kernel_rfl
theorem d6 : (Rows.fnExactFrontNamesRow.plainKeys == Tryz.prog.plainKeys) = true := by kernel_rfl
theorem d7 : Rows.fnExactFrontNamesRow.shortTexts.isNone = true := by kernel_rfl
theorem d8 : Tryz.prog.stopsHeard = true := by kernel_rfl
theorem d9 : Tryz.prog.mayEnter = true := by kernel_rfl
theorem e1 : (Rows.fnExactFrontNamesRow.lifted == Tryz.prog.liftsFinal) = true := by kernel_rfl
theorem e2 : (Tryz.prog.make == some Rows.fnExactFrontNamesRow.make) = true := by kernel_rfl
theorem e4 : (Rows.fnExactFrontNamesRow.pinned == Rows.fnExactFrontNamesRow.pinnedBy) = true := by kernel_rfl
theorem e5 : (Rows.fnExactFrontNamesRow.veiled == (Tryz.f6.params.toList ++ Rows.fnExactFrontNamesSpec.plain.varTypes Tryz.prog ++ Tryz.f6.resultTypes.toList).any (Tryz.prog.veiledRec ·)) = true := by kernel_rfl
theorem e6 : Rows.fnExactFrontNamesRow.veiledFits Tryz.prog Tryz.f6.params.toList (Tryz.f6.params.toList ++ Rows.fnExactFrontNamesSpec.plain.varTypes Tryz.prog ++ Tryz.f6.resultTypes.toList) = true := by kernel_rfl
theorem closed : joinedFacts Tryz.prog 6 Tryz.f6 Rows.fnExactFrontNamesSpec Rows.fnExactFrontNamesRow = true := by
  unfold joinedFacts
  rw [c1, c2, c3, c4, c5, c6, c7, c8, c9, d1, d2, d3, d4, d5, d6, d7, d8, d9, e1, e2, e4, e5, e6]
  rfl
theorem named : Tryz.prog.funcNamed Rows.fnExactFrontNamesRow.func = some 6 := by kernel_rfl
theorem inst : Tryz.f6.isInstance Tryz.prog Rows.fnExactFrontNamesRow.origin Rows.fnExactFrontNamesRow.targs := of_decide_eq_true (by kernel_rfl)
theorem wrap : Tryz.f6.isWrapper Tryz.prog Rows.fnExactFrontNamesRow.wrapper Rows.fnExactFrontNamesRow.mainSum := by unfold Func.isWrapper; first | (rw [if_pos (by decide +kernel)]; kernel_rfl) | (rw [if_neg (by decide +kernel)]; exact ⟨rfl, rfl⟩)
theorem over : Rows.fnExactFrontNamesRow.holds Tryz.pinned (OpenSpec.ofChange Rows.fnExactFrontNamesSpec) :=
  OpenClaim.holds_of_wide 6 Tryz.f6 rfl rfl rfl rfl rfl rfl rfl ⟨rfl, rfl, rfl, rfl, rfl⟩ rfl rfl rfl rfl rfl named Tryz.func6 closed inst wrap
    (fun os started H enc _ => lifted os started H enc)
end LawFrontNames

theorem fnExactFrontNames_holds : Rows.FnExactFrontNamesSaid := LawFrontNames.over
#print axioms fnExactFrontNames_holds
end Go.Proofs.YtalegefnppbkdaaGreat
