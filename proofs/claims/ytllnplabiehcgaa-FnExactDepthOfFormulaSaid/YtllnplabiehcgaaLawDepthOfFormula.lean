/- For every input the law FnExactDepthOfFormula returns true, and each text reads behind the call as it read before. No conditions. -/
import Derived.Test.YtllnplabiehcgaaRows
import Derived.Test.YtllnplabiehcgaaFj
import Derived.WalkKit
import Derived.ProofKit
import Derived.OpenShut
import Derived.ShutString
import Derived.ChangeOld
import Derived.Below
namespace Go.Proofs.Ytllnplabiehcgaa
namespace LawDepthOfFormula
open Go.ChangeShapes Go.WideShapes Go.ChangeAt Go.RowKit Go.Proofs.Ytllnplabiehcgaa.T1
open Go.ChangeMaps (open_string shut_string)
set_option linter.unusedVariables false

theorem own : ownKnob Try.prog.godebug = none := by kernel_rfl
theorem laidOut : laidOutB Try.prog = true := by kernel_rfl



set_option maxHeartbeats 1000000 in
theorem sD_no (s : ByteArray) (hm : s.size ≤ 9223372036854775807) (h : fmOf s.data.toList = none) (w : World) : Calls Try.prog 7 #[.string s] w fun e w' => e = .returned (.tuple #[.int .i64 0, .bool false]) ∧ Below w.heap.size w w' := by
  have G1 : Hid (∀ w, Calls Try.prog 9 #[.string s] w fun e w' => e = .returned (.bool false) ∧ Below w.heap.size w w') := fun w => by
    have := biIs_any s w hm; unfold isFm at this; rw [h] at this; exact this
  clear h
  go_enter Try.func7, Try.ntmps7
  go_wp2_with fail
  refine (G1.out _).mono ?_
  rintro e w1 ⟨rfl, b1⟩
  go_wp2_with fail
  go_ret2
  exact ⟨rfl, b1⟩
set_option maxHeartbeats 1000000 in
theorem sD_yes (s : ByteArray) (hm : s.size ≤ 9223372036854775807) (fm : Fm) (n : Int) (hn : n = ((fm.deep : Nat) : Int)) (h : fmOf s.data.toList = some fm) (w : World) : Calls Try.prog 7 #[.string s] w fun e w' => e = .returned (.tuple #[.int .i64 n, .bool true]) ∧ Below w.heap.size w w' := by
  have G1 : Hid (∀ w, Calls Try.prog 9 #[.string s] w fun e w' => e = .returned (.bool true) ∧ Below w.heap.size w w') := fun w => by
    have := biIs_any s w hm; unfold isFm at this; rw [h] at this; exact this
  have G2 : Hid (∀ w, Calls Try.prog 11 #[.string s] w fun e w' => e = .returned (.int .i64 n) ∧ Below w.heap.size w w') := fun w => by
    obtain ⟨hl, he, ho⟩ := fmOf_out h
    have := biDeep_any fm ho (by rw [← he]; exact hl) w
    rw [← he, B_of, ← hn] at this; exact this
  clear h hn
  go_enter Try.func7, Try.ntmps7
  go_wp2_with fail
  refine (G1.out _).mono ?_
  rintro e w1 ⟨rfl, b1⟩
  go_wp2_with fail
  refine (G2.out _).mono ?_
  rintro e w2 ⟨rfl, b2⟩
  go_wp2_with fail
  go_ret2
  exact ⟨rfl, below_trans b1 b2 b1.size⟩
set_option maxHeartbeats 1000000 in
theorem iD_no (s : ByteArray) (hm : s.size ≤ 9223372036854775807) (h : fmOf s.data.toList = none) (w : World) : Calls Try.prog 8 #[.string s] w fun e w' => e = .returned (.tuple #[.int .i64 0, .bool false]) ∧ Below w.heap.size w w' := by
  have G1 : Hid (∀ w, Calls Try.prog 10 #[.string s] w fun e w' => (∃ v, IsIf2 v ∧ e = .returned (.tuple #[v, .bool false])) ∧ Below w.heap.size w w') := fun w => (readFormula_any s w hm).mono fun e w' hh => by
    obtain ⟨⟨f, hf, _⟩ | ⟨_, hv⟩, b⟩ := hh
    · rw [h] at hf; cases hf
    · exact ⟨hv, b⟩
  clear h
  go_enter Try.func8, Try.ntmps8
  go_wp2_with fail
  refine (G1.out _).mono ?_
  rintro e w1 ⟨⟨v, hv, rfl⟩, b1⟩
  rcases hv with rfl | ⟨tv, vv, rfl⟩
  all_goals
    go_wp2_with fail
    go_ret2
    exact ⟨rfl, b1⟩
set_option maxHeartbeats 1000000 in
theorem iD_of (s : ByteArray) (T : TypeId) (V : Value) (n : Nat) (hP : DepF T V n) (H : ∀ w, Calls Try.prog 10 #[.string s] w fun e w' => e = .returned (.tuple #[.iface T V, .bool true]) ∧ Below w.heap.size w w') (w : World) : Calls Try.prog 8 #[.string s] w fun e w' => e = .returned (.tuple #[.int .i64 (n : Int), .bool true]) ∧ Below w.heap.size w w' := by
  obtain ⟨F, R, hm, hn, hc, hp⟩ := hP
  have HP := Lib.hid hp
  have G1 := Lib.hid H
  clear hp H
  go_enter Try.func8, Try.ntmps8
  go_wp2_with fail
  refine (G1.out _).mono ?_
  rintro e w1 ⟨rfl, b1⟩
  go_wp2_with fail
  refine (HP.out _).mono ?_
  rintro e w2 ⟨rfl, b2⟩
  go_wp2_with fail
  go_ret2
  exact ⟨rfl, below_trans b1 b2 b1.size⟩
theorem iD_yes (s : ByteArray) (hm : s.size ≤ 9223372036854775807) (fm : Fm) (h : fmOf s.data.toList = some fm) (w : World) : Calls Try.prog 8 #[.string s] w fun e w' => e = .returned (.tuple #[.int .i64 ((fm.deep : Nat) : Int), .bool true]) ∧ Below w.heap.size w w' := by
  obtain ⟨hl, he, ho⟩ := fmOf_out h
  refine iD_of s _ _ _ (dep_any fm (by rw [← he]; omega)) (fun w => (readFormula_any s w hm).mono fun e w' hh => ?_) w
  obtain ⟨⟨f, hf, e1⟩ | ⟨hv, _⟩, b⟩ := hh
  · rw [h] at hf; cases hf; exact ⟨e1, b⟩
  · rw [h] at hv; cases hv
set_option maxHeartbeats 1000000 in
theorem go (s : ByteArray) (n : Int) (b : Bool) (h0 : s.size ≤ maxLen) (H1 : ∀ w, Calls Try.prog 7 #[.string s] w fun e w' => e = .returned (.tuple #[.int .i64 n, .bool b]) ∧ Below w.heap.size w w') (H2 : ∀ w, Calls Try.prog 8 #[.string s] w fun e w' => e = .returned (.tuple #[.int .i64 n, .bool b]) ∧ Below w.heap.size w w') (w : World) : Calls Try.prog 4 #[.string s] w fun e w' => e = .returned (.bool true) ∧ Below w.heap.size w w' := by
  unfold maxLen at h0
  have H1 := Lib.hid H1
  have H2 := Lib.hid H2
  by_cases hl : 1048576 < s.size
  · go_enter Try.func4, Try.ntmps4
    go_wp2_with fail
    go_ret
    exact ⟨rfl, Below.refl _ _⟩
  · go_enter Try.func4, Try.ntmps4
    go_wp2_with fail
    refine (H1.out _).mono ?_
    rintro e w1 ⟨rfl, b1⟩
    go_wp2_with fail
    refine (H2.out _).mono ?_
    rintro e w2 ⟨rfl, b2⟩
    go_wp2_with fail
    go_ret
    exact ⟨rfl, below_trans b1 b2 b1.size⟩
theorem walk (s : ByteArray) (h0 : s.size ≤ maxLen) (w : World) : Calls Try.prog 4 #[.string s] w fun e w' => e = .returned (.bool true) ∧ Below w.heap.size w w' := by
  cases h : fmOf s.data.toList with
  | none => exact go s 0 false h0 (sD_no s h0 h) (iD_no s h0 h) w
  | some fm => exact go s _ true h0 (sD_yes s h0 fm _ rfl h) (iD_yes s h0 fm h) w


set_option maxRecDepth 100000 in
theorem lifted (os : Os) (started : os.Started) (H : Type) (enc : TypeId × Value → H) :
    ReturnsInHanded {} Try.checked os 4 .any (Rows.fnExactDepthOfFormulaSpec.pre6 enc Try.prog Try.f4 Rows.fnExactDepthOfFormulaRow.domain false) (Rows.fnExactDepthOfFormulaSpec.post enc Try.prog Try.f4 false true false false) := by
  refine returnsInHanded_of_change (C := Try.checked) own started (by kernel_rfl) Try.func4
    (ChangeSpec.witness6 (enc := enc) (C := Try.checked) false ⟨#[], #[.string ByteArray.empty], []⟩ 8 (by kernel_rfl) (by kernel_rfl) (by kernel_rfl) (by kernel_rfl)) ?_
  intro W base args ds gs before hval0 hW hcnd _
  have hval : ∀ (j : Nat) t v, Try.f4.params[j]? = some t → args[j]? = some v → Value.okWide Try.prog W .any base t v := hval0
  have hW' := hW
  obtain ⟨p, q, hA0, hV, rfl, hfz, hnd⟩ := hW
  have hA : DataW.TrodAll enc Try.prog W 0 (fun _ => true) true Try.f4.params.toList args.toList ds p := hA0
  rw [Try.params4] at hA hval
  obtain ⟨v0, vs0, d0, ds0, p0, q0, hargs, rfl, rfl, h0, r0⟩ := trodAll_cons hA
  obtain ⟨rfl, rfl, rfl⟩ := trodAll_nil r0
  obtain rfl : args = #[v0] := by cases args; simp_all
  obtain ⟨rfl, rfl⟩ := trodVars_none hV
  obtain ⟨a0, rfl, rfl, rfl, w0⟩ := open_string Try.underlying9 (hval 0 9 v0 rfl rfl) h0
  clear hA0 hval0
  simp only [List.append_nil] at hW'
  refine (walk a0 w0 W).mono fun e W' ⟨he, bel⟩ => ?_
  subst he
  exact ⟨_, rfl, _, _, _, [], [], [], hW', trodAll_mk1 (shut_bool Try.underlying4 _), (trodAll_cons_mk (shut_string Try.underlying9 w0) trodAll_mk0), rfl, bel.frame _, fun h => by cases h⟩

theorem over : Rows.fnExactDepthOfFormulaRow.holds Try.pinned (OpenSpec.ofChange Rows.fnExactDepthOfFormulaSpec) :=
  OpenClaim.holds_of_wide 4 Try.f4 rfl rfl rfl rfl rfl rfl rfl ⟨rfl, rfl, rfl, rfl, rfl⟩ rfl rfl rfl rfl rfl (by kernel_rfl) Try.func4 (by kernel_rfl)
    (of_decide_eq_true (by kernel_rfl)) (by unfold Func.isWrapper; first | (rw [if_pos (by decide +kernel)]; kernel_rfl) | (rw [if_neg (by decide +kernel)]; exact ⟨rfl, rfl⟩))
    (fun os started H enc _ => lifted os started H enc)
end LawDepthOfFormula

theorem fnExactDepthOfFormula_holds : Rows.FnExactDepthOfFormulaSaid := LawDepthOfFormula.over
#print axioms fnExactDepthOfFormula_holds
end Go.Proofs.Ytllnplabiehcgaa
