/- For every input the law FnExactHideName returns true, and each text reads behind the call as it read before. No conditions. -/
import Derived.Test.YtalegefnppbkdaaGreatRows
import Derived.Test.YtalegefnppbkdaaGreatJbu

import Derived.WalkKit
import Derived.ProofKit
import Derived.OpenShut
import Derived.ShutString
import Derived.ChangeOld
import Derived.Below
namespace Go.Proofs.YtalegefnppbkdaaGreat
namespace LawHideName
open Go.ChangeShapes Go.WideShapes Go.ChangeAt Go.RowKit Go.Proofs.YtalegefnppbkdaaGreat.T1
open Go.ChangeMaps (open_string shut_string)
set_option linter.unusedVariables false

theorem own : ownKnob Tryz.prog.godebug = none := by kernel_rfl
theorem laidOut : laidOutB Tryz.prog = true := by kernel_rfl


set_option maxHeartbeats 1000000 in
theorem walk (a0 a1 : ByteArray) (w0 : a0.size ≤ maxLen) (w1 : a1.size ≤ maxLen) (w : World) : Calls Tryz.prog 11 #[.string a0, .string a1] w fun e w' => e = .returned (.bool true) ∧ Below w.heap.size w w' := by
  unfold maxLen at w0
  unfold maxLen at w1
  by_cases hl0 : 1048576 < a0.size
  · go_enter Tryz.func11, Tryz.ntmps11
    go_wp2_with fail
    go_ret
    exact ⟨rfl, Below.refl _ _⟩
  · have hnop : True := trivial
    by_cases hl1 : 1048576 < a1.size
    · go_enter Tryz.func11, Tryz.ntmps11
      go_wp2_with fail
      go_ret
      exact ⟨rfl, Below.refl _ _⟩
    · obtain ⟨X, b, h1, h2⟩ := bothH a0 a1 w0
      have H1 := Lib.hid h1
      have H2 := Lib.hid h2
      clear h1 h2
      go_enter Tryz.func11, Tryz.ntmps11
      go_wp2_with fail
      refine (H1.out _).mono ?_
      rintro e w1 ⟨rfl, c1⟩
      go_wp2_with fail
      refine (H2.out _).mono ?_
      rintro e w2 ⟨rfl, c2⟩
      go_wp2_with fail
      go_ret
      exact ⟨rfl, below_trans c1 c2 c1.size⟩


set_option maxRecDepth 100000 in
theorem lifted (os : Os) (started : os.Started) (H : Type) (enc : TypeId × Value → H) :
    ReturnsInHanded {} Tryz.checked os 11 .any (Rows.fnExactHideNameSpec.pre6 enc Tryz.prog Tryz.f11 Rows.fnExactHideNameRow.domain false) (Rows.fnExactHideNameSpec.post enc Tryz.prog Tryz.f11 false true false false) := by
  refine returnsInHanded_of_change (C := Tryz.checked) own started (by kernel_rfl) Tryz.func11
    (ChangeSpec.witness6 (enc := enc) (C := Tryz.checked) false ⟨#[], #[.string ByteArray.empty, .string ByteArray.empty], []⟩ 8 (by kernel_rfl) (by kernel_rfl) (by kernel_rfl) (by kernel_rfl)) ?_
  intro W base args ds gs before hval0 hW hcnd _
  have hval : ∀ (j : Nat) t v, Tryz.f11.params[j]? = some t → args[j]? = some v → Value.okWide Tryz.prog W .any base t v := hval0
  have hW' := hW
  obtain ⟨p, q, hA0, hV, rfl, hfz, hnd⟩ := hW
  have hA : DataW.TrodAll enc Tryz.prog W 0 (fun _ => true) true Tryz.f11.params.toList args.toList ds p := hA0
  rw [Tryz.params11] at hA hval
  obtain ⟨v0, vs0, d0, ds0, p0, q0, hargs, rfl, rfl, h0, r0⟩ := trodAll_cons hA
  obtain ⟨v1, vs1, d1, ds1, p1, q1, rfl, rfl, rfl, h1, r1⟩ := trodAll_cons r0
  obtain ⟨rfl, rfl, rfl⟩ := trodAll_nil r1
  obtain rfl : args = #[v0, v1] := by cases args; simp_all
  obtain ⟨rfl, rfl⟩ := trodVars_none hV
  obtain ⟨a0, rfl, rfl, rfl, w0⟩ := open_string Tryz.underlying9 (hval 0 9 v0 rfl rfl) h0
  obtain ⟨a1, rfl, rfl, rfl, w1⟩ := open_string Tryz.underlying9 (hval 1 9 v1 rfl rfl) h1
  clear hA0 hval0
  simp only [List.append_nil] at hW'
  refine (walk a0 a1 w0 w1 W).mono fun e W' ⟨he, bel⟩ => ?_
  subst he
  exact ⟨_, rfl, _, _, _, [], [], [], hW', trodAll_mk1 (shut_bool Tryz.underlying4 _), (trodAll_cons_mk (shut_string Tryz.underlying9 w0) (trodAll_cons_mk (shut_string Tryz.underlying9 w1) trodAll_mk0)), rfl, bel.frame _, fun h => by cases h⟩

theorem c1 : (Rows.fnExactHideNameRow.wf (OpenSpec.ofChange Rows.fnExactHideNameSpec) && laidOutB Tryz.prog && mapsRowed Tryz.prog && Tryz.f11.params.all (Tryz.prog.readableRec ·) && namedTie Tryz.prog Rows.fnExactHideNameRow.named Rows.fnExactHideNameSpec.vars && (Rows.fnExactHideNameRow.stops == []) && (Tryz.prog.stops == []) && (Rows.fnExactHideNameRow.knobs == []) && (Tryz.prog.stopKnobs == [])) = true := by kernel_rfl
theorem c2 : (Rows.fnExactHideNameRow.inPlace == Tryz.prog.inPlace 11) = true := by kernel_rfl
theorem c3 : (Rows.fnExactHideNameRow.unfollowed == Tryz.prog.unfollowed 11) = true := by kernel_rfl
theorem c4 : (Rows.fnExactHideNameRow.recurses == Tryz.prog.recurses 11) = true := by kernel_rfl
theorem c5 : (Rows.fnExactHideNameRow.named == Tryz.prog.varsNamed 11) = true := by kernel_rfl
theorem c6 : (Rows.fnExactHideNameRow.maps == (Tryz.f11.params.toList ++ Rows.fnExactHideNameSpec.plain.varTypes Tryz.prog).any (Tryz.prog.mapsRec ·)) = true := by kernel_rfl
theorem c7 : (Rows.fnExactHideNameRow.ifaces == (Tryz.f11.params.toList ++ Rows.fnExactHideNameSpec.plain.varTypes Tryz.prog).any (Tryz.prog.ifacesRec ·)) = true := by kernel_rfl
theorem c8 : (Rows.fnExactHideNameRow.mapsOut == Tryz.prog.mapsAmong Tryz.f11.resultTypes.toList) = true := by kernel_rfl
theorem c9 : (Rows.fnExactHideNameRow.loops == (Tryz.f11.params.toList ++ Rows.fnExactHideNameSpec.plain.varTypes Tryz.prog).any (Tryz.prog.loopsFrom ·)) = true := by kernel_rfl
theorem d1 : (Rows.fnExactHideNameRow.wideKeys == (Tryz.f11.params.toList ++ Rows.fnExactHideNameSpec.plain.varTypes Tryz.prog ++ Tryz.f11.resultTypes.toList).any (Tryz.prog.wideKeysFrom ·)) = true := by kernel_rfl
theorem d2 : Rows.fnExactHideNameSpec.vars.all (Tryz.prog.varReadable ·) = true := by kernel_rfl
theorem d3 : Tryz.f11.resultTypes.all (fun t => Tryz.prog.readableRec t && decide (t < Tryz.prog.types.size)) = true := by kernel_rfl
theorem d4 : (Rows.fnExactHideNameRow.ifacesOut == Tryz.f11.resultTypes.toList.any (Tryz.prog.ifacesRec ·)) = true := by kernel_rfl
theorem d5 : (Rows.fnExactHideNameRow.loopsOut == Tryz.f11.resultTypes.toList.any (Tryz.prog.loopsFrom ·)) = true := by kernel_rfl
theorem d6 : (Rows.fnExactHideNameRow.plainKeys == Tryz.prog.plainKeys) = true := by kernel_rfl
theorem d7 : Rows.fnExactHideNameRow.shortTexts.isNone = true := by kernel_rfl
theorem d8 : Tryz.prog.stopsHeard = true := by kernel_rfl
theorem d9 : Tryz.prog.mayEnter = true := by kernel_rfl
theorem e1 : (Rows.fnExactHideNameRow.lifted == Tryz.prog.liftsFinal) = true := by kernel_rfl
theorem e2 : (Tryz.prog.make == some Rows.fnExactHideNameRow.make) = true := by kernel_rfl
theorem e4 : (Rows.fnExactHideNameRow.pinned == Rows.fnExactHideNameRow.pinnedBy) = true := by kernel_rfl
theorem e5 : (Rows.fnExactHideNameRow.veiled == (Tryz.f11.params.toList ++ Rows.fnExactHideNameSpec.plain.varTypes Tryz.prog ++ Tryz.f11.resultTypes.toList).any (Tryz.prog.veiledRec ·)) = true := by kernel_rfl
theorem e6 : Rows.fnExactHideNameRow.veiledFits Tryz.prog Tryz.f11.params.toList (Tryz.f11.params.toList ++ Rows.fnExactHideNameSpec.plain.varTypes Tryz.prog ++ Tryz.f11.resultTypes.toList) = true := by kernel_rfl
theorem closed : joinedFacts Tryz.prog 11 Tryz.f11 Rows.fnExactHideNameSpec Rows.fnExactHideNameRow = true := by
  unfold joinedFacts
  rw [c1, c2, c3, c4, c5, c6, c7, c8, c9, d1, d2, d3, d4, d5, d6, d7, d8, d9, e1, e2, e4, e5, e6]
  rfl
theorem named : Tryz.prog.funcNamed Rows.fnExactHideNameRow.func = some 11 := by kernel_rfl
theorem inst : Tryz.f11.isInstance Tryz.prog Rows.fnExactHideNameRow.origin Rows.fnExactHideNameRow.targs := of_decide_eq_true (by kernel_rfl)
theorem wrap : Tryz.f11.isWrapper Tryz.prog Rows.fnExactHideNameRow.wrapper Rows.fnExactHideNameRow.mainSum := by unfold Func.isWrapper; first | (rw [if_pos (by decide +kernel)]; kernel_rfl) | (rw [if_neg (by decide +kernel)]; exact ⟨rfl, rfl⟩)
theorem over : Rows.fnExactHideNameRow.holds Tryz.pinned (OpenSpec.ofChange Rows.fnExactHideNameSpec) :=
  OpenClaim.holds_of_wide 11 Tryz.f11 rfl rfl rfl rfl rfl rfl rfl ⟨rfl, rfl, rfl, rfl, rfl⟩ rfl rfl rfl rfl rfl named Tryz.func11 closed inst wrap
    (fun os started H enc _ => lifted os started H enc)
end LawHideName

theorem fnExactHideName_holds : Rows.FnExactHideNameSaid := LawHideName.over
#print axioms fnExactHideName_holds
end Go.Proofs.YtalegefnppbkdaaGreat
