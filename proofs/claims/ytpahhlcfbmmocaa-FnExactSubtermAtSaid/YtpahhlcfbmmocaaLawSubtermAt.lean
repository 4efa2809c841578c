/- For every input the law FnExactSubtermAt returns true, and each text reads behind the call as it read before. No conditions. -/
import Derived.Test.YtpahhlcfbmmocaaRows
import Derived.Test.YtpahhlcfbmmocaaTa
import Derived.Test.YtpahhlcfbmmocaaSa
import Derived.Test.YtpahhlcfbmmocaaTx
import Derived.WalkKit
import Derived.ProofKit
import Derived.OpenShut
import Derived.ShutString
import Derived.ChangeOld
import Derived.Below
namespace Go.Proofs.Ytpahhlcfbmmocaa
namespace LawSubtermAt
open Go.ChangeShapes Go.WideShapes Go.ChangeAt Go.RowKit Go.Proofs.Ytpahhlcfbmmocaa.T1
open Go.ChangeMaps (open_string shut_string)
set_option linter.unusedVariables false

theorem own : ownKnob Try.prog.godebug = none := by kernel_rfl
theorem laidOut : laidOutB Try.prog = true := by kernel_rfl


set_option maxHeartbeats 1000000 in
theorem spec_none (s k : ByteArray) (hg : good s.data.toList = none) (hm : s.size ≤ 9223372036854775807) (w : World) : Calls Try.prog 25 #[.string s, .string k] w fun e w' => e = .returned (.tuple #[.string ⟨#[]⟩, .bool false]) ∧ Below w.heap.size w w' := by
  have H := Lib.hid (tmGood_none hg w hm)
  clear hg
  go_enter Try.func25, Try.ntmps25
  go_wp2_with fail
  refine (H.out).mono ?_
  rintro e w1 ⟨rfl, bl⟩
  go_wp2_with fail
  go_ret2
  exact ⟨rfl, bl⟩
set_option maxHeartbeats 1000000 in
theorem impl_none (s k : ByteArray) (hg : good s.data.toList = none) (hm : s.size ≤ 9223372036854775807) (w : World) : Calls Try.prog 26 #[.string s, .string k] w fun e w' => e = .returned (.tuple #[.string ⟨#[]⟩, .bool false]) ∧ Below w.heap.size w w' := by
  have H := Lib.hid (parse_none hg w hm)
  clear hg
  go_enter Try.func26, Try.ntmps26
  go_wp2_with fail
  refine (H.out).mono ?_
  rintro e w1 ⟨rfl, bl⟩
  go_wp2_with fail
  go_ret2
  exact ⟨rfl, bl⟩
set_option maxHeartbeats 1000000 in
theorem spec_some (s k : ByteArray) (t : Tm) (hg : good s.data.toList = some t) (hm : s.size ≤ 9223372036854775807) (hmk : k.size ≤ 100000000) (w : World) : Calls Try.prog 25 #[.string s, .string k] w (AtPost (atP t k.data.toList) w) := by
  have H := Lib.hid (tmGood_some hg w hm)
  obtain ⟨es, hL, hE, h300, h60⟩ := good_S hg
  have HA := fun w => tmAt_any t hE (by omega) k hmk w
  rw [← es] at HA
  obtain ⟨o, ho⟩ : ∃ o, o = atP t k.data.toList := ⟨_, rfl⟩
  rw [← ho] at HA ⊢
  have H2 := Lib.hid HA
  clear hg es hL hE h300 h60 HA ho
  go_enter Try.func25, Try.ntmps25
  go_wp2_with fail
  refine (H.out).mono ?_
  rintro e w1 ⟨rfl, bl⟩
  go_wp2_with fail
  refine (H2.out _).mono ?_
  rintro e w2 ⟨(⟨p, h1, rfl⟩ | ⟨h1, rfl⟩), b2⟩
  · have HH := Lib.hid h1
    obtain ⟨X, hX⟩ : ∃ X, X = S p := ⟨_, rfl⟩
    rw [← hX]
    have HX := Lib.hid hX
    clear h1 hX
    go_wp2_with fail
    go_ret2
    exact AtPost.yes HH.out ⟨by rw [← HX.out]; rfl, below_trans bl b2 bl.size⟩
  · have HH := Lib.hid h1
    clear h1
    go_wp2_with fail
    go_ret2
    exact AtPost.no HH.out ⟨rfl, below_trans bl b2 bl.size⟩
set_option maxHeartbeats 1000000 in
theorem impl_some (s k : ByteArray) (t : Tm) (hg : good s.data.toList = some t) (hm : s.size ≤ 9223372036854775807) (w : World) : Calls Try.prog 26 #[.string s, .string k] w (AtPost (atP t k.data.toList) w) := by
  have H := Lib.hid (parse_some hg w hm)
  obtain ⟨es, hL, hE, h300, h60⟩ := good_S hg
  have HA := fun w => subtermAt_any t k w
  have HT : Hid (∀ p, atP t k.data.toList = some p → ∀ w, Calls Try.prog 45 #[.iface (tyOf p) (pay p)] w fun e w' => e = .returned (.string (S p)) ∧ Below w.heap.size w w') := fun p hp w =>
    textOf_any p (by have := (atP_sub _ t p hp).2; omega) w
  obtain ⟨o, ho⟩ : ∃ o, o = atP t k.data.toList := ⟨_, rfl⟩
  obtain ⟨T, hT⟩ : ∃ T, T = tyOf t := ⟨_, rfl⟩
  obtain ⟨V, hV⟩ : ∃ V, V = pay t := ⟨_, rfl⟩
  rw [← hT, ← hV] at H HA
  rw [← ho] at HA HT ⊢
  have H2 := Lib.hid HA
  clear hg es hL hE h300 h60 HA ho hT hV
  go_enter Try.func26, Try.ntmps26
  go_wp2_with fail
  refine (H.out).mono ?_
  rintro e w1 ⟨rfl, bl⟩
  go_wp2_with fail
  refine (H2.out _).mono ?_
  rintro e w2 ⟨(⟨p, h1, rfl⟩ | ⟨h1, rfl⟩), b2⟩
  · have HH := Lib.hid h1
    have H3 := Lib.hid (HT.out p h1)
    obtain ⟨X, hX⟩ : ∃ X, X = S p := ⟨_, rfl⟩
    obtain ⟨T2, hT2⟩ : ∃ T, T = tyOf p := ⟨_, rfl⟩
    obtain ⟨V2, hV2⟩ : ∃ V, V = pay p := ⟨_, rfl⟩
    rw [← hX, ← hT2, ← hV2] at H3
    rw [← hT2, ← hV2]
    have HX := Lib.hid hX
    clear h1 hX hT2 hV2
    go_wp2_with fail
    refine (H3.out _).mono ?_
    rintro e w3 ⟨rfl, b3⟩
    go_wp2_with fail
    go_ret2
    exact AtPost.yes HH.out ⟨by rw [← HX.out]; rfl, below_trans (below_trans bl b2 bl.size) b3 (Nat.le_trans bl.size b2.size)⟩
  · have HH := Lib.hid h1
    clear h1
    go_wp2_with fail
    go_ret2
    exact AtPost.no HH.out ⟨rfl, below_trans bl b2 bl.size⟩
theorem both (s k : ByteArray) (hm : s.size ≤ 9223372036854775807) (hmk : k.size ≤ 100000000) : ∃ (n : ByteArray) (b : Bool), (∀ w, Calls Try.prog 25 #[.string s, .string k] w fun e w' => e = .returned (.tuple #[.string n, .bool b]) ∧ Below w.heap.size w w') ∧ (∀ w, Calls Try.prog 26 #[.string s, .string k] w fun e w' => e = .returned (.tuple #[.string n, .bool b]) ∧ Below w.heap.size w w') := by
  cases hg : good s.data.toList with
  | none => exact ⟨⟨#[]⟩, false, spec_none s k hg hm, impl_none s k hg hm⟩
  | some t =>
    have h1 := spec_some s k t hg hm hmk
    have h2 := impl_some s k t hg hm
    cases ho : atP t k.data.toList with
    | none =>
      rw [ho] at h1 h2
      have key : ∀ w e w', AtPost none w e w' → e = .returned (.tuple #[.string ⟨#[]⟩, .bool false]) ∧ Below w.heap.size w w' := by
        rintro w e w' ⟨⟨p, h, _⟩ | ⟨_, h⟩, b⟩
        · cases h
        · exact ⟨h, b⟩
      exact ⟨⟨#[]⟩, false, fun w => (h1 w).mono (key w), fun w => (h2 w).mono (key w)⟩
    | some p =>
      rw [ho] at h1 h2
      have key : ∀ w e w', AtPost (some p) w e w' → e = .returned (.tuple #[.string (S p), .bool true]) ∧ Below w.heap.size w w' := by
        rintro w e w' ⟨⟨q, h, h'⟩ | ⟨h, _⟩, b⟩
        · cases h; exact ⟨h', b⟩
        · cases h
      exact ⟨S p, true, fun w => (h1 w).mono (key w), fun w => (h2 w).mono (key w)⟩
set_option maxHeartbeats 1000000 in
theorem walk (a0 a1 : ByteArray) (w0 : a0.size ≤ maxLen) (w1 : a1.size ≤ maxLen) (w : World) : Calls Try.prog 8 #[.string a0, .string a1] w fun e w' => e = .returned (.bool true) ∧ Below w.heap.size w w' := by
  unfold maxLen at w0 w1
  by_cases hl : 1048576 < a0.size
  · go_enter Try.func8, Try.ntmps8
    go_wp2_with fail
    go_ret
    exact ⟨rfl, Below.refl _ _⟩
  · by_cases hl2 : 1048576 < a1.size
    · go_enter Try.func8, Try.ntmps8
      go_wp2_with fail
      go_ret
      exact ⟨rfl, Below.refl _ _⟩
    · obtain ⟨n, b, hs, hi⟩ := both a0 a1 w0 (by omega)
      have H1 := Lib.hid hs
      have H2 := Lib.hid hi
      clear hs hi
      go_enter Try.func8, Try.ntmps8
      go_wp2_with fail
      refine (H1.out _).mono ?_
      rintro e w2 ⟨rfl, b1⟩
      go_wp2_with fail
      refine (H2.out _).mono ?_
      rintro e w3 ⟨rfl, b2⟩
      go_wp2_with fail
      go_ret
      exact ⟨rfl, below_trans b1 b2 b1.size⟩


set_option maxRecDepth 100000 in
theorem lifted (os : Os) (started : os.Started) (H : Type) (enc : TypeId × Value → H) :
    ReturnsInHanded {} Try.checked os 8 .any (Rows.fnExactSubtermAtSpec.pre6 enc Try.prog Try.f8 Rows.fnExactSubtermAtRow.domain false) (Rows.fnExactSubtermAtSpec.post enc Try.prog Try.f8 false true false false) := by
  refine returnsInHanded_of_change (C := Try.checked) own started (by kernel_rfl) Try.func8
    (ChangeSpec.witness6 (enc := enc) (C := Try.checked) false ⟨#[], #[.string ByteArray.empty, .string ByteArray.empty], []⟩ 8 (by kernel_rfl) (by kernel_rfl) (by kernel_rfl) (by kernel_rfl)) ?_
  intro W base args ds gs before hval0 hW hcnd _
  have hval : ∀ (j : Nat) t v, Try.f8.params[j]? = some t → args[j]? = some v → Value.okWide Try.prog W .any base t v := hval0
  have hW' := hW
  obtain ⟨p, q, hA0, hV, rfl, hfz, hnd⟩ := hW
  have hA : DataW.TrodAll enc Try.prog W 0 (fun _ => true) true Try.f8.params.toList args.toList ds p := hA0
  rw [Try.params8] at hA hval
  obtain ⟨v0, vs0, d0, ds0, p0, q0, hargs, rfl, rfl, h0, r0⟩ := trodAll_cons hA
  obtain ⟨v1, vs1, d1, ds1, p1, q1, rfl, rfl, rfl, h1, r1⟩ := trodAll_cons r0
  obtain ⟨rfl, rfl, rfl⟩ := trodAll_nil r1
  obtain rfl : args = #[v0, v1] := by cases args; simp_all
  obtain ⟨rfl, rfl⟩ := trodVars_none hV
  obtain ⟨a0, rfl, rfl, rfl, w0⟩ := open_string Try.underlying9 (hval 0 9 v0 rfl rfl) h0
  obtain ⟨a1, rfl, rfl, rfl, w1⟩ := open_string Try.underlying9 (hval 1 9 v1 rfl rfl) h1
  clear hA0 hval0
  simp only [List.append_nil] at hW'
  refine (walk a0 a1 w0 w1 W).mono fun e W' ⟨he, bel⟩ => ?_
  subst he
  exact ⟨_, rfl, _, _, _, [], [], [], hW', trodAll_mk1 (shut_bool Try.underlying4 _), (trodAll_cons_mk (shut_string Try.underlying9 w0) (trodAll_cons_mk (shut_string Try.underlying9 w1) trodAll_mk0)), rfl, bel.frame _, fun h => by cases h⟩

theorem over : Rows.fnExactSubtermAtRow.holds Try.pinned (OpenSpec.ofChange Rows.fnExactSubtermAtSpec) :=
  OpenClaim.holds_of_wide 8 Try.f8 rfl rfl rfl rfl rfl rfl rfl ⟨rfl, rfl, rfl, rfl, rfl⟩ rfl rfl rfl rfl rfl (by kernel_rfl) Try.func8 (by kernel_rfl)
    (of_decide_eq_true (by kernel_rfl)) (by unfold Func.isWrapper; first | (rw [if_pos (by decide +kernel)]; kernel_rfl) | (rw [if_neg (by decide +kernel)]; exact ⟨rfl, rfl⟩))
    (fun os started H enc _ => lifted os started H enc)
end LawSubtermAt

theorem fnExactSubtermAt_holds : Rows.FnExactSubtermAtSaid := LawSubtermAt.over
#print axioms fnExactSubtermAt_holds
end Go.Proofs.Ytpahhlcfbmmocaa
