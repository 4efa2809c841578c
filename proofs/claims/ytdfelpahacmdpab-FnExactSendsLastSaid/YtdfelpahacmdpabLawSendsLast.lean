/- For every input the law FnExactSendsLast returns true, and each text reads behind the call as it read before. No conditions. -/
import Derived.Test.YtdfelpahacmdpabRows
import Derived.Test.YtdfelpahacmdpabVl
import Derived.Test.YtdfelpahacmdpabGood
import Derived.WalkKit
import Derived.ProofKit
import Derived.OpenShut
import Derived.ShutString
import Derived.ChangeOld
import Derived.Below
namespace Go.Proofs.Ytdfelpahacmdpab
namespace LawSendsLast
open Go.ChangeShapes Go.WideShapes Go.ChangeAt Go.RowKit Go.Proofs.Ytdfelpahacmdpab.T1
open Go.ChangeMaps (open_string shut_string)
set_option linter.unusedVariables false

theorem own : ownKnob Try.prog.godebug = none := by kernel_rfl
theorem laidOut : laidOutB Try.prog = true := by kernel_rfl



theorem spec_none (s : ByteArray) (hg : good s.data.toList = none) (hm : s.size ≤ 9223372036854775807) (w : World) : Calls Try.prog 13 #[.string s] w fun e w' => e = .returned (.tuple #[.bool false, .bool false]) ∧ Below w.heap.size w w' := by
  have H := Lib.hid (tmGood_none hg w hm)
  clear hg
  go_enter Try.func13, Try.ntmps13
  go_wp2_with fail
  refine (H.out).mono ?_
  rintro e w1 ⟨rfl, bl⟩
  go_wp2_with fail
  go_ret2
  exact ⟨rfl, bl⟩
theorem impl_none (s : ByteArray) (hg : good s.data.toList = none) (hm : s.size ≤ 9223372036854775807) (w : World) : Calls Try.prog 14 #[.string s] w fun e w' => e = .returned (.tuple #[.bool false, .bool false]) ∧ Below w.heap.size w w' := by
  have H := Lib.hid (parse_none hg w hm)
  clear hg
  go_enter Try.func14, Try.ntmps14
  go_wp2_with fail
  refine (H.out).mono ?_
  rintro e w1 ⟨rfl, bl⟩
  go_wp2_with fail
  go_ret2
  exact ⟨rfl, bl⟩
set_option maxHeartbeats 1000000 in
theorem spec_some (s : ByteArray) (t : Tm) (hg : good s.data.toList = some t) (hm : s.size ≤ 9223372036854775807) (w : World) : Calls Try.prog 13 #[.string s] w fun e w' => e = .returned (.tuple #[.bool (t.last false), .bool true]) ∧ Below w.heap.size w w' := by
  have H := Lib.hid (tmGood_some hg w hm)
  obtain ⟨es, hL, hE, h300, h60⟩ := good_S hg
  have HS := soLast_any t hE (by omega) false
  rw [← es] at HS
  obtain ⟨N, hN⟩ : ∃ N, N = t.last false := ⟨_, rfl⟩
  rw [← hN] at HS ⊢
  have H2 := Lib.hid HS
  clear hg es hL hE h300 h60 HS hN
  go_enter Try.func13, Try.ntmps13
  go_wp2_with fail
  refine (H.out).mono ?_
  rintro e w1 ⟨rfl, bl⟩
  go_wp2_with fail
  refine (H2.out _).mono ?_
  rintro e w2 ⟨rfl, b2⟩
  go_wp2_with fail
  go_ret2
  exact ⟨rfl, below_trans bl b2 bl.size⟩

set_option maxHeartbeats 1000000 in
theorem impl_some (s : ByteArray) (t : Tm) (hg : good s.data.toList = some t) (hm : s.size ≤ 9223372036854775807) (w : World) : Calls Try.prog 14 #[.string s] w fun e w' => e = .returned (.tuple #[.bool (t.last false), .bool true]) ∧ Below w.heap.size w w' := by
  have H := Lib.hid (parse_some hg w hm)
  obtain ⟨es, hL, hE, h300, h60⟩ := good_S hg
  have HS := sendsLast_any t (by omega)
  obtain ⟨T, hT⟩ : ∃ T, T = tyOf t := ⟨_, rfl⟩
  obtain ⟨V, hV⟩ : ∃ V, V = pay t := ⟨_, rfl⟩
  obtain ⟨N, hN⟩ : ∃ N, N = t.last false := ⟨_, rfl⟩
  rw [← hT, ← hV, ← hN] at HS
  rw [← hT, ← hV] at H
  rw [← hN]
  have H2 := Lib.hid HS
  clear hg es hL hE h300 h60 HS hT hV hN
  go_enter Try.func14, Try.ntmps14
  go_wp2_with fail
  refine (H.out).mono ?_
  rintro e w1 ⟨rfl, bl⟩
  go_wp2_with fail
  refine (H2.out _).mono ?_
  rintro e w2 ⟨rfl, b2⟩
  go_wp2_with fail
  go_ret2
  exact ⟨rfl, below_trans bl b2 bl.size⟩

set_option maxHeartbeats 1000000 in
theorem walk (a0 : ByteArray) (w0 : a0.size ≤ maxLen) (w : World) : Calls Try.prog 6 #[.string a0] w fun e w' => e = .returned (.bool true) ∧ Below w.heap.size w w' := by
  unfold maxLen at w0
  by_cases hl : 1048576 < a0.size
  · go_enter Try.func6, Try.ntmps6
    go_wp2_with fail
    go_ret
    exact ⟨rfl, Below.refl _ _⟩
  · cases hg : good a0.data.toList with
    | none =>
      have H1 := Lib.hid (spec_none a0 hg w0)
      have H2 := Lib.hid (impl_none a0 hg w0)
      clear hg
      go_enter Try.func6, Try.ntmps6
      go_wp2_with fail
      refine (H1.out _).mono ?_
      rintro e w1 ⟨rfl, b1⟩
      go_wp2_with fail
      refine (H2.out _).mono ?_
      rintro e w2 ⟨rfl, b2⟩
      go_wp2_with fail
      go_ret
      exact ⟨rfl, below_trans b1 b2 b1.size⟩
    | some t =>
      have H1 := Lib.hid (spec_some a0 t hg w0)
      have H2 := Lib.hid (impl_some a0 t hg w0)
      obtain ⟨N, hN⟩ : ∃ N, N = t.last false := ⟨_, rfl⟩
      rw [← hN] at H1 H2
      clear hN
      clear hg
      go_enter Try.func6, Try.ntmps6
      go_wp2_with fail
      refine (H1.out _).mono ?_
      rintro e w1 ⟨rfl, b1⟩
      go_wp2_with fail
      refine (H2.out _).mono ?_
      rintro e w2 ⟨rfl, b2⟩
      go_wp2_with fail
      go_ret
      exact ⟨rfl, below_trans b1 b2 b1.size⟩


set_option maxRecDepth 100000 in
theorem lifted (os : Os) (started : os.Started) (H : Type) (enc : TypeId × Value → H) :
    ReturnsInHanded {} Try.checked os 6 .any (Rows.fnExactSendsLastSpec.pre6 enc Try.prog Try.f6 Rows.fnExactSendsLastRow.domain false) (Rows.fnExactSendsLastSpec.post enc Try.prog Try.f6 false true false false) := by
  refine returnsInHanded_of_change (C := Try.checked) own started (by kernel_rfl) Try.func6
    (ChangeSpec.witness6 (enc := enc) (C := Try.checked) false ⟨#[], #[.string ByteArray.empty], []⟩ 8 (by kernel_rfl) (by kernel_rfl) (by kernel_rfl) (by kernel_rfl)) ?_
  intro W base args ds gs before hval0 hW hcnd _
  have hval : ∀ (j : Nat) t v, Try.f6.params[j]? = some t → args[j]? = some v → Value.okWide Try.prog W .any base t v := hval0
  have hW' := hW
  obtain ⟨p, q, hA0, hV, rfl, hfz, hnd⟩ := hW
  have hA : DataW.TrodAll enc Try.prog W 0 (fun _ => true) true Try.f6.params.toList args.toList ds p := hA0
  rw [Try.params6] at hA hval
  obtain ⟨v0, vs0, d0, ds0, p0, q0, hargs, rfl, rfl, h0, r0⟩ := trodAll_cons hA
  obtain ⟨rfl, rfl, rfl⟩ := trodAll_nil r0
  obtain rfl : args = #[v0] := by cases args; simp_all
  obtain ⟨rfl, rfl⟩ := trodVars_none hV
  obtain ⟨a0, rfl, rfl, rfl, w0⟩ := open_string Try.underlying9 (hval 0 9 v0 rfl rfl) h0
  clear hA0 hval0
  simp only [List.append_nil] at hW'
  refine (walk a0 w0 W).mono fun e W' ⟨he, bel⟩ => ?_
  subst he
  exact ⟨_, rfl, _, _, _, [], [], [], hW', trodAll_mk1 (shut_bool Try.underlying4 _), (trodAll_cons_mk (shut_string Try.underlying9 w0) trodAll_mk0), rfl, bel.frame _, fun h => by cases h⟩

theorem over : Rows.fnExactSendsLastRow.holds Try.pinned (OpenSpec.ofChange Rows.fnExactSendsLastSpec) :=
  OpenClaim.holds_of_wide 6 Try.f6 rfl rfl rfl rfl rfl rfl rfl ⟨rfl, rfl, rfl, rfl, rfl⟩ rfl rfl rfl rfl rfl (by kernel_rfl) Try.func6 (by kernel_rfl)
    (of_decide_eq_true (by kernel_rfl)) (by unfold Func.isWrapper; first | (rw [if_pos (by decide +kernel)]; kernel_rfl) | (rw [if_neg (by decide +kernel)]; exact ⟨rfl, rfl⟩))
    (fun os started H enc _ => lifted os started H enc)
end LawSendsLast

theorem fnExactSendsLast_holds : Rows.FnExactSendsLastSaid := LawSendsLast.over
#print axioms fnExactSendsLast_holds
end Go.Proofs.Ytdfelpahacmdpab
