/- For every input the law FnExactSubjectOf returns true, and each text reads behind the call as it read before. No conditions. -/
import Derived.Test.YtabllmoeehjknaaRows
import Derived.Test.YtabllmoeehjknaaLab
import Derived.WalkKit
import Derived.ProofKit
import Derived.OpenShut
import Derived.ShutString
import Derived.ChangeOld
import Derived.Below
namespace Go.Proofs.Ytabllmoeehjknaa
namespace LawSubjectOf
open Go.ChangeShapes Go.WideShapes Go.ChangeAt Go.RowKit Go.Proofs.Ytabllmoeehjknaa.T1
open Go.ChangeMaps (open_string shut_string)
set_option linter.unusedVariables false

theorem own : ownKnob Try.prog.godebug = none := by kernel_rfl
theorem laidOut : laidOutB Try.prog = true := by kernel_rfl


open Lab
theorem go (s : ByteArray) (R : ByteArray) (b : Bool) (h0 : s.size ≤ maxLen) (H1 : ∀ w, Calls Try.prog 8 #[.string s] w fun e w' => e = .returned (.tuple #[.string R, .bool b]) ∧ Below w.heap.size w w') (H2 : ∀ w, Calls Try.prog 9 #[.string s] w fun e w' => e = .returned (.tuple #[.string R, .bool b]) ∧ Below w.heap.size w w') (w : World) : Calls Try.prog 4 #[.string s] w fun e w' => e = .returned (.bool true) ∧ Below w.heap.size w w' := by
  unfold maxLen at h0
  have H1 := Lib.hid H1
  have H2 := Lib.hid H2
  by_cases hl : 1048576 < s.size
  · go_enter Try.func4, Try.ntmps4
    go_wp2_with fail
    go_ret
    exact ⟨rfl, Below.refl _ _⟩
  · go_enter Try.func4, Try.ntmps4
    go_wp2_with fail
    refine (H1.out _).mono ?_
    rintro e w1 ⟨rfl, b1⟩
    go_wp2_with fail
    refine (H2.out _).mono ?_
    rintro e w2 ⟨rfl, b2⟩
    go_wp2_with fail
    go_ret
    exact ⟨rfl, below_trans b1 b2 b1.size⟩

theorem walk (s : ByteArray) (h0 : s.size ≤ maxLen) (w : World) : Calls Try.prog 4 #[.string s] w fun e w' => e = .returned (.bool true) ∧ Below w.heap.size w w' := by
  have hm : s.size ≤ 9223372036854775807 := h0
  rcases cls s hm with ht | hy | hn
  · exact go s ByteArray.empty false h0 (s_SubjectOf_t s ht (sl_tau s ht)) (i_SubjectOf_false s 0 0 (rt_any s _ _ 0 0 false (ra_tau s ht) to_inner)) w
  · obtain ⟨T, V, a1, a2, hr, ho, e1, e2⟩ := hy.ra
    have h3 := hy.sz
    have HI := i_SubjectOf_true s a1 a2 (rt_any s T V a1 a2 true hr ho)
    rw [e1] at HI
    exact go s _ true h0 (s_SubjectOf_y s hy.ne (by omega) hm hy.sl) HI w
  · exact go s ByteArray.empty false h0 (s_SubjectOf_n s hn.1) (i_SubjectOf_false s 0 0 (rt_no s hn.2)) w


set_option maxRecDepth 100000 in
theorem lifted (os : Os) (started : os.Started) (H : Type) (enc : TypeId × Value → H) :
    ReturnsInHanded {} Try.checked os 4 .any (Rows.fnExactSubjectOfSpec.pre6 enc Try.prog Try.f4 Rows.fnExactSubjectOfRow.domain false) (Rows.fnExactSubjectOfSpec.post enc Try.prog Try.f4 false true false false) := by
  refine returnsInHanded_of_change (C := Try.checked) own started (by kernel_rfl) Try.func4
    (ChangeSpec.witness6 (enc := enc) (C := Try.checked) false ⟨#[], #[.string ByteArray.empty], []⟩ 8 (by kernel_rfl) (by kernel_rfl) (by kernel_rfl) (by kernel_rfl)) ?_
  intro W base args ds gs before hval0 hW hcnd _
  have hval : ∀ (j : Nat) t v, Try.f4.params[j]? = some t → args[j]? = some v → Value.okWide Try.prog W .any base t v := hval0
  have hW' := hW
  obtain ⟨p, q, hA0, hV, rfl, hfz, hnd⟩ := hW
  have hA : DataW.TrodAll enc Try.prog W 0 (fun _ => true) true Try.f4.params.toList args.toList ds p := hA0
  rw [Try.params4] at hA hval
  obtain ⟨v0, vs0, d0, ds0, p0, q0, hargs, rfl, rfl, h0, r0⟩ := trodAll_cons hA
  obtain ⟨rfl, rfl, rfl⟩ := trodAll_nil r0
  obtain rfl : args = #[v0] := by cases args; simp_all
  obtain ⟨rfl, rfl⟩ := trodVars_none hV
  obtain ⟨a0, rfl, rfl, rfl, w0⟩ := open_string Try.underlying9 (hval 0 9 v0 rfl rfl) h0
  clear hA0 hval0
  simp only [List.append_nil] at hW'
  refine (walk a0 w0 W).mono fun e W' ⟨he, bel⟩ => ?_
  subst he
  exact ⟨_, rfl, _, _, _, [], [], [], hW', trodAll_mk1 (shut_bool Try.underlying4 _), (trodAll_cons_mk (shut_string Try.underlying9 w0) trodAll_mk0), rfl, bel.frame _, fun h => by cases h⟩

theorem over : Rows.fnExactSubjectOfRow.holds Try.pinned (OpenSpec.ofChange Rows.fnExactSubjectOfSpec) :=
  OpenClaim.holds_of_wide 4 Try.f4 rfl rfl rfl rfl rfl rfl rfl ⟨rfl, rfl, rfl, rfl, rfl⟩ rfl rfl rfl rfl rfl (by kernel_rfl) Try.func4 (by kernel_rfl)
    (of_decide_eq_true (by kernel_rfl)) (by unfold Func.isWrapper; first | (rw [if_pos (by decide +kernel)]; kernel_rfl) | (rw [if_neg (by decide +kernel)]; exact ⟨rfl, rfl⟩))
    (fun os started H enc _ => lifted os started H enc)
end LawSubjectOf

theorem fnExactSubjectOf_holds : Rows.FnExactSubjectOfSaid := LawSubjectOf.over
#print axioms fnExactSubjectOf_holds
end Go.Proofs.Ytabllmoeehjknaa
