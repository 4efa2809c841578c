/- For every input the law FnExactTruthAt returns true, and each text reads behind the call as it read before. No conditions. -/
import Derived.Test.YtohaddhjnghcpaaRows
import Derived.Test.YtohaddhjnghcpaaHbt
import Derived.WalkKit
import Derived.ProofKit
import Derived.OpenShut
import Derived.ShutString
import Derived.ChangeOld
import Derived.Below
namespace Go.Proofs.Ytohaddhjnghcpaa
namespace LawTruthAt
open Go.ChangeShapes Go.WideShapes Go.ChangeAt Go.RowKit Go.Proofs.Ytohaddhjnghcpaa.T1
open Go.ChangeMaps (open_string shut_string)
set_option linter.unusedVariables false

theorem own : ownKnob Try.prog.godebug = none := by kernel_rfl
theorem laidOut : laidOutB Try.prog = true := by kernel_rfl


theorem cellup {W w1 : World} {b : Nat} {v : Value} (bl : Below W.heap.size W w1) (h : W.cell? ⟨b, 0, none⟩ = some v) : w1.cell? ⟨b, 0, none⟩ = some v := (bl.cell (p := ⟨b, 0, none⟩) (World.block_lt_of_cell? W _ h)).trans h
set_option maxHeartbeats 1000000 in
theorem both (a : ByteArray) (v : Bool) (ma : a.size ≤ 9223372036854775807) : ∃ (n0 : ByteArray) (y0 : Bool), (∀ w, Calls Try.prog 12 #[.string a, .bool v] w fun e w' => e = .returned (.tuple #[.string n0, .bool y0]) ∧ Below w.heap.size w w') ∧ (∀ w, Calls Try.prog 13 #[.string a, .bool v] w fun e w' => e = .returned (.tuple #[.string n0, .bool y0]) ∧ Below w.heap.size w w') := by
  rcases one_or a with ⟨ca, hca, rfl, Sa, Ia⟩ | ⟨Sa, Ia⟩
  · have Na := ni_yes _ _ Ia
    obtain ⟨x, y, hxy⟩ : ∃ x y, frs 2 [ca] = [x, y] := ⟨_, _, rfl⟩
    have hnm := frs_nm 2 [ca] (oth_few (m := [ca]) (fun _ h => h) 2 (by simp))
    rw [hxy] at hnm
    have hx : nmL x = true := hnm x (by simp)
    have hy : nmL y = true := hnm y (by simp)
    have ht : nmL (if v then x else y) = true := by cases v <;> simp [hx, hy]
    have hlen : (truthC x y ca (if v then x else y)).pr.length ≤ 900 := by have l1 := recvC_len ca [x, y] (.snd (if v then x else y) (if v then x else y) .nil); simp [truthC, Tm.pr] at l1 ⊢; omega
    exact ⟨(if okT (truthC x y ca (if v then x else y)) then S (truthC x y ca (if v then x else y)) else ⟨#[]⟩), okT (truthC x y ca (if v then x else y)), fun w => spT_TruthAt ca v hca x y hxy Sa w, im_TruthAt _ _ _ _ (fun W b0 b1 h0 h1 => coded_yes _ _ (truthC x y ca (if v then x else y)) (truthC_ok hx hy hca ht) hlen (Nat.le_trans (size_le_pr _) (by omega)) cf_TruthAt W (fun w1 bl => cl_TruthAt_yes _ _ _ _ _ _ _ w1 (cellup bl h0) (cellup bl h1) Na (fun w => truthAt_any ca v hca x y hxy w)))⟩
  · exact ⟨_, _, sp_TruthAt_0 _ _  Sa, im_TruthAt _ _ _ _ (fun W b0 b1 h0 h1 => coded_no _ _ cf_TruthAt W (fun w1 bl => cl_TruthAt_0 _ _ _ _ w1 (cellup bl h0) (cellup bl h1)  (ni_no _ Ia)))⟩
set_option maxHeartbeats 1000000 in
theorem walk (a0 : ByteArray) (v : Bool) (w0 : a0.size ≤ maxLen) (w : World) : Calls Try.prog 3 #[.string a0, .bool v] w fun e w' => e = .returned (.bool true) ∧ Below w.heap.size w w' := by
  unfold maxLen at w0
  by_cases hl0 : 1048576 < a0.size
  · go_enter Try.func3, Try.ntmps3
    go_wp2_with fail
    go_ret
    exact ⟨rfl, Below.refl _ _⟩
  · obtain ⟨n, b, hs, hi⟩ := both a0 v w0
    have H1 := Lib.hid hs
    have H2 := Lib.hid hi
    clear hs hi
    go_enter Try.func3, Try.ntmps3
    go_wp2_with fail
    refine (H1.out _).mono ?_
    rintro e w2 ⟨rfl, b1⟩
    go_wp2_with fail
    refine (H2.out _).mono ?_
    rintro e w3 ⟨rfl, b2⟩
    go_wp2_with fail
    go_ret
    exact ⟨rfl, below_trans b1 b2 b1.size⟩


set_option maxRecDepth 100000 in
theorem lifted (os : Os) (started : os.Started) (H : Type) (enc : TypeId × Value → H) :
    ReturnsInHanded {} Try.checked os 3 .any (Rows.fnExactTruthAtSpec.pre6 enc Try.prog Try.f3 Rows.fnExactTruthAtRow.domain false) (Rows.fnExactTruthAtSpec.post enc Try.prog Try.f3 false true false false) := by
  refine returnsInHanded_of_change (C := Try.checked) own started (by kernel_rfl) Try.func3
    (ChangeSpec.witness6 (enc := enc) (C := Try.checked) false ⟨#[], #[.string ByteArray.empty, .bool false], []⟩ 8 (by kernel_rfl) (by kernel_rfl) (by kernel_rfl) (by kernel_rfl)) ?_
  intro W base args ds gs before hval0 hW hcnd _
  have hval : ∀ (j : Nat) t v, Try.f3.params[j]? = some t → args[j]? = some v → Value.okWide Try.prog W .any base t v := hval0
  have hW' := hW
  obtain ⟨p, q, hA0, hV, rfl, hfz, hnd⟩ := hW
  have hA : DataW.TrodAll enc Try.prog W 0 (fun _ => true) true Try.f3.params.toList args.toList ds p := hA0
  rw [Try.params3] at hA hval
  obtain ⟨v0, vs0, d0, ds0, p0, q0, hargs, rfl, rfl, h0, r0⟩ := trodAll_cons hA
  obtain ⟨v1, vs1, d1, ds1, p1, q1, rfl, rfl, rfl, h1, r1⟩ := trodAll_cons r0
  obtain ⟨rfl, rfl, rfl⟩ := trodAll_nil r1
  obtain rfl : args = #[v0, v1] := by cases args; simp_all
  obtain ⟨rfl, rfl⟩ := trodVars_none hV
  obtain ⟨a0, rfl, rfl, rfl, w0⟩ := open_string Try.underlying9 (hval 0 9 v0 rfl rfl) h0
  obtain ⟨a1, rfl, rfl, rfl⟩ := open_bool Try.underlying4 (hval 1 4 v1 rfl rfl) h1
  clear hA0 hval0
  simp only [List.append_nil] at hW'
  refine (walk a0 a1 w0 W).mono fun e W' ⟨he, bel⟩ => ?_
  subst he
  exact ⟨_, rfl, _, _, _, [], [], [], hW', trodAll_mk1 (shut_bool Try.underlying4 _), (trodAll_cons_mk (shut_string Try.underlying9 w0) (trodAll_cons_mk (shut_bool Try.underlying4 a1) trodAll_mk0)), rfl, bel.frame _, fun h => by cases h⟩

theorem over : Rows.fnExactTruthAtRow.holds Try.pinned (OpenSpec.ofChange Rows.fnExactTruthAtSpec) :=
  OpenClaim.holds_of_wide 3 Try.f3 rfl rfl rfl rfl rfl rfl rfl ⟨rfl, rfl, rfl, rfl, rfl⟩ rfl rfl rfl rfl rfl (by kernel_rfl) Try.func3 (by kernel_rfl)
    (of_decide_eq_true (by kernel_rfl)) (by unfold Func.isWrapper; first | (rw [if_pos (by decide +kernel)]; kernel_rfl) | (rw [if_neg (by decide +kernel)]; exact ⟨rfl, rfl⟩))
    (fun os started H enc _ => lifted os started H enc)
end LawTruthAt

theorem fnExactTruthAt_holds : Rows.FnExactTruthAtSaid := LawTruthAt.over
#print axioms fnExactTruthAt_holds
end Go.Proofs.Ytohaddhjnghcpaa
