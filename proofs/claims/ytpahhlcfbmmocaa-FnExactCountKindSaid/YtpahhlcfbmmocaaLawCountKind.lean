/- For every input the law FnExactCountKind returns true, and each text reads behind the call as it read before. No conditions. -/
import Derived.Test.YtpahhlcfbmmocaaRows
import Derived.Test.YtpahhlcfbmmocaaIk
import Derived.WalkKit
import Derived.ProofKit
import Derived.OpenShut
import Derived.ShutString
import Derived.ChangeOld
import Derived.Below
namespace Go.Proofs.Ytpahhlcfbmmocaa
namespace LawCountKind
open Go.ChangeShapes Go.WideShapes Go.ChangeAt Go.RowKit Go.Proofs.Ytpahhlcfbmmocaa.T1
open Go.ChangeMaps (open_string shut_string)
set_option linter.unusedVariables false

theorem own : ownKnob Try.prog.godebug = none := by kernel_rfl
theorem laidOut : laidOutB Try.prog = true := by kernel_rfl


theorem isK9_out (s : ByteArray) (h : isK9 s = true) : ∃ c : UInt8, s = one c ∧ inB K9 (c.toNat : Int) = true := by
  unfold isK9 at h
  rw [List.any_eq_true] at h
  obtain ⟨c, hm, hc⟩ := h
  refine ⟨c, ?_, ?_⟩
  · have hc' := eq_of_beq hc
    rw [ByteArray.toList_eq, ByteArray.toList_eq] at hc'
    apply ByteArray.ext
    apply Array.ext'
    exact hc'.symm
  · unfold inB; rw [List.any_eq_true]; exact ⟨c, hm, by simp⟩
theorem isK9_not (s : ByteArray) (hz : 0 < s.size) (h1 : s.size = 1) (h : isK9 s = false) : inB K9 ((s[0]'hz).toNat : Int) = false := by
  cases hb : inB K9 ((s[0]'hz).toNat : Int) with
  | false => rfl
  | true =>
    unfold inB at hb
    rw [List.any_eq_true] at hb
    obtain ⟨c, hm, hc⟩ := hb
    have hc' : c = s[0]'hz := by rw [← UInt8.toNat_inj]; have := eq_of_beq hc; omega
    have : isK9 s = true := by
      unfold isK9; rw [List.any_eq_true]
      refine ⟨c, hm, ?_⟩
      rw [ByteArray.toList_eq, ByteArray.toList_eq, hc']
      have e : s.data.toList = [s[0]'hz] := by
        have := drop_at s 0 hz
        rw [List.drop_zero] at this
        rw [this, List.drop_of_length_le (by simp; omega)]
      rw [e]; simp [one]
    rw [this] at h; cases h

set_option maxHeartbeats 1000000 in
theorem spec_none (s k : ByteArray) (hg : good s.data.toList = none) (hm : s.size ≤ 9223372036854775807) (w : World) : Calls Try.prog 29 #[.string s, .string k] w fun e w' => e = .returned (.tuple #[.int .i64 0, .bool false]) ∧ Below w.heap.size w w' := by
  have H := Lib.hid (tmGood_none hg w hm)
  clear hg
  go_enter Try.func29, Try.ntmps29
  go_wp2_with fail
  refine (H.out).mono ?_
  rintro e w1 ⟨rfl, bl⟩
  go_wp2_with fail
  go_ret2
  exact ⟨rfl, bl⟩
set_option maxHeartbeats 1000000 in
theorem impl_none (s k : ByteArray) (hg : good s.data.toList = none) (hm : s.size ≤ 9223372036854775807) (w : World) : Calls Try.prog 30 #[.string s, .string k] w fun e w' => e = .returned (.tuple #[.int .i64 0, .bool false]) ∧ Below w.heap.size w w' := by
  have H := Lib.hid (parse_none hg w hm)
  clear hg
  go_enter Try.func30, Try.ntmps30
  go_wp2_with fail
  refine (H.out).mono ?_
  rintro e w1 ⟨rfl, bl⟩
  go_wp2_with fail
  go_ret2
  exact ⟨rfl, bl⟩
set_option maxHeartbeats 1000000 in
theorem spec_nok (s k : ByteArray) (t : Tm) (hg : good s.data.toList = some t) (hk : isK9 k = false) (hm : s.size ≤ 9223372036854775807) (hmk : k.size ≤ 9223372036854775807) (w : World) : Calls Try.prog 29 #[.string s, .string k] w fun e w' => e = .returned (.tuple #[.int .i64 0, .bool false]) ∧ Below w.heap.size w w' := by
  have H := Lib.hid (tmGood_some hg w hm)
  by_cases h1 : k.size = 1
  · have hz : 0 < k.size := by omega
    have HT := tmIn_any K9 ((k[0]'hz).toNat : Int)
    rw [isK9_not k hz h1 hk] at HT
    have H2 : Hid (∀ w, Calls Try.prog 50 #[.string ⟨#[48, 33, 63, 126, 43, 38, 35, 61, 42]⟩, .int .u8 ((k[0]'hz).toNat : Int)] w fun e w' => e = .returned (.bool false) ∧ w = w') := fun w => HT w (by decide)
    have b1 : ((k.size : Int) != 1) = false := by simp; omega
    clear HT hk hg h1
    go_enter Try.func29, Try.ntmps29
    go_wp2_with fail
    refine (H.out).mono ?_
    rintro e w1 ⟨rfl, bl⟩
    go_wp2_with fail
    refine (H2.out _).mono ?_
    rintro e w1 ⟨rfl, rfl⟩
    go_wp2_with fail
    go_ret2
    exact ⟨rfl, bl⟩
  · have b1 : ((k.size : Int) != 1) = true := by simp; omega
    clear hk hg h1
    go_enter Try.func29, Try.ntmps29
    go_wp2_with fail
    refine (H.out).mono ?_
    rintro e w1 ⟨rfl, bl⟩
    go_wp2_with fail
    go_ret2
    exact ⟨rfl, bl⟩
set_option maxHeartbeats 1000000 in
theorem impl_nok (s k : ByteArray) (t : Tm) (hg : good s.data.toList = some t) (hk : isK9 k = false) (hm : s.size ≤ 9223372036854775807) (w : World) : Calls Try.prog 30 #[.string s, .string k] w fun e w' => e = .returned (.tuple #[.int .i64 0, .bool false]) ∧ Below w.heap.size w w' := by
  have H := Lib.hid (parse_some hg w hm)
  have HK := isKind_any k
  rw [hk] at HK
  have H2 := Lib.hid HK
  obtain ⟨T, hT⟩ : ∃ T, T = tyOf t := ⟨_, rfl⟩
  obtain ⟨V, hV⟩ : ∃ V, V = pay t := ⟨_, rfl⟩
  rw [← hT, ← hV] at H
  clear hg hk HK hT hV
  go_enter Try.func30, Try.ntmps30
  go_wp2_with fail
  refine (H.out).mono ?_
  rintro e w1 ⟨rfl, bl⟩
  go_wp2_with fail
  refine (H2.out _).mono ?_
  rintro e w2 ⟨rfl, b2⟩
  go_wp2_with fail
  go_ret2
  exact ⟨rfl, below_trans bl b2 bl.size⟩
set_option maxHeartbeats 1000000 in
theorem spec_ok (s k : ByteArray) (t : Tm) (c : UInt8) (hg : good s.data.toList = some t) (hk : k = one c) (hi : inB K9 (c.toNat : Int) = true) (hm : s.size ≤ 9223372036854775807) (w : World) : Calls Try.prog 29 #[.string s, .string k] w fun e w' => e = .returned (.tuple #[.int .i64 (t.subs.countP (isK c) : Nat), .bool true]) ∧ Below w.heap.size w w' := by
  have H := Lib.hid (tmGood_some hg w hm)
  obtain ⟨es, hL, hE, h300, h60⟩ := good_S hg
  have HS := tmCount_any c t hE (by omega)
  rw [← es] at HS
  have hz : 0 < k.size := by subst hk; exact Nat.zero_lt_one
  have h1 : k.size = 1 := by rw [hk]; rfl
  have e0 : k[0]'hz = c := by subst hk; rfl
  have HT := tmIn_any K9 ((k[0]'hz).toNat : Int)
  rw [e0, hi] at HT
  have H2 : Hid (∀ w, Calls Try.prog 50 #[.string ⟨#[48, 33, 63, 126, 43, 38, 35, 61, 42]⟩, .int .u8 ((k[0]'hz).toNat : Int)] w fun e w' => e = .returned (.bool true) ∧ w = w') := fun w => by rw [e0]; exact HT w (by decide)
  obtain ⟨N, hN⟩ : ∃ N, N = t.subs.countP (isK c) := ⟨_, rfl⟩
  rw [← hN] at HS ⊢
  have H3 : Hid (∀ w, Calls Try.prog 51 #[.string s, .int .u8 ((k[0]'hz).toNat : Int)] w fun e w' => e = .returned (.int .i64 (N : Int)) ∧ Below w.heap.size w w') := by rw [e0]; exact HS
  have b1 : ((k.size : Int) != 1) = false := by simp; omega
  clear hg es hL hE h300 h60 HS hN HT e0 h1 hk hi
  go_enter Try.func29, Try.ntmps29
  go_wp2_with fail
  refine (H.out).mono ?_
  rintro e w1 ⟨rfl, bl⟩
  go_wp2_with fail
  refine (H2.out _).mono ?_
  rintro e w1 ⟨rfl, rfl⟩
  go_wp2_with fail
  refine (H3.out _).mono ?_
  rintro e w2 ⟨rfl, b2⟩
  go_wp2_with fail
  go_ret2
  exact ⟨rfl, below_trans bl b2 bl.size⟩
set_option maxHeartbeats 1000000 in
theorem impl_ok (s k : ByteArray) (t : Tm) (c : UInt8) (hg : good s.data.toList = some t) (hk : k = one c) (hi : isK9 k = true) (hm : s.size ≤ 9223372036854775807) (w : World) : Calls Try.prog 30 #[.string s, .string k] w fun e w' => e = .returned (.tuple #[.int .i64 (t.subs.countP (isK c) : Nat), .bool true]) ∧ Below w.heap.size w w' := by
  have H := Lib.hid (parse_some hg w hm)
  obtain ⟨es, hL, hE, h300, h60⟩ := good_S hg
  have HK := isKind_any k
  rw [hi] at HK
  have H2 := Lib.hid HK
  have HS := countKind_any t (by omega) (one c)
  rw [show (fun u : Tm => (one u.kind).toList == (one c).toList) = isK c from by funext u; rw [one_eq]; rfl, ← hk] at HS
  obtain ⟨T, hT⟩ : ∃ T, T = tyOf t := ⟨_, rfl⟩
  obtain ⟨V, hV⟩ : ∃ V, V = pay t := ⟨_, rfl⟩
  obtain ⟨N, hN⟩ : ∃ N, N = t.subs.countP (isK c) := ⟨_, rfl⟩
  rw [← hT, ← hV] at H
  rw [← hT, ← hV, ← hN] at HS
  rw [← hN]
  have H3 := Lib.hid HS
  clear hg es hL hE h300 h60 HS hN HK hk hi hT hV
  go_enter Try.func30, Try.ntmps30
  go_wp2_with fail
  refine (H.out).mono ?_
  rintro e w1 ⟨rfl, bl⟩
  go_wp2_with fail
  refine (H2.out _).mono ?_
  rintro e w2 ⟨rfl, b2⟩
  go_wp2_with fail
  refine (H3.out _).mono ?_
  rintro e w3 ⟨rfl, b3⟩
  go_wp2_with fail
  go_ret2
  exact ⟨rfl, below_trans (below_trans bl b2 bl.size) b3 (Nat.le_trans bl.size b2.size)⟩
theorem both (s k : ByteArray) (hm : s.size ≤ 9223372036854775807) (hmk : k.size ≤ 9223372036854775807) : ∃ (n : Int) (b : Bool), (∀ w, Calls Try.prog 29 #[.string s, .string k] w fun e w' => e = .returned (.tuple #[.int .i64 n, .bool b]) ∧ Below w.heap.size w w') ∧ (∀ w, Calls Try.prog 30 #[.string s, .string k] w fun e w' => e = .returned (.tuple #[.int .i64 n, .bool b]) ∧ Below w.heap.size w w') := by
  cases hg : good s.data.toList with
  | none => exact ⟨0, false, spec_none s k hg hm, impl_none s k hg hm⟩
  | some t =>
    cases hk : isK9 k with
    | false => exact ⟨0, false, spec_nok s k t hg hk hm hmk, impl_nok s k t hg hk hm⟩
    | true =>
      obtain ⟨c, h1, h2⟩ := isK9_out k hk
      exact ⟨_, true, spec_ok s k t c hg h1 h2 hm, impl_ok s k t c hg h1 hk hm⟩
set_option maxHeartbeats 1000000 in
theorem walk (a0 a1 : ByteArray) (w0 : a0.size ≤ maxLen) (w1 : a1.size ≤ maxLen) (w : World) : Calls Try.prog 10 #[.string a0, .string a1] w fun e w' => e = .returned (.bool true) ∧ Below w.heap.size w w' := by
  unfold maxLen at w0 w1
  obtain ⟨n, b, hs, hi⟩ := both a0 a1 w0 w1
  have H1 := Lib.hid hs
  have H2 := Lib.hid hi
  clear hs hi
  by_cases hl : 1048576 < a0.size
  · go_enter Try.func10, Try.ntmps10
    go_wp2_with fail
    go_ret
    exact ⟨rfl, Below.refl _ _⟩
  · by_cases hl2 : 1048576 < a1.size
    · go_enter Try.func10, Try.ntmps10
      go_wp2_with fail
      go_ret
      exact ⟨rfl, Below.refl _ _⟩
    · go_enter Try.func10, Try.ntmps10
      go_wp2_with fail
      refine (H1.out _).mono ?_
      rintro e w2 ⟨rfl, b1⟩
      go_wp2_with fail
      refine (H2.out _).mono ?_
      rintro e w3 ⟨rfl, b2⟩
      go_wp2_with fail
      go_ret
      exact ⟨rfl, below_trans b1 b2 b1.size⟩


set_option maxRecDepth 100000 in
theorem lifted (os : Os) (started : os.Started) (H : Type) (enc : TypeId × Value → H) :
    ReturnsInHanded {} Try.checked os 10 .any (Rows.fnExactCountKindSpec.pre6 enc Try.prog Try.f10 Rows.fnExactCountKindRow.domain false) (Rows.fnExactCountKindSpec.post enc Try.prog Try.f10 false true false false) := by
  refine returnsInHanded_of_change (C := Try.checked) own started (by kernel_rfl) Try.func10
    (ChangeSpec.witness6 (enc := enc) (C := Try.checked) false ⟨#[], #[.string ByteArray.empty, .string ByteArray.empty], []⟩ 8 (by kernel_rfl) (by kernel_rfl) (by kernel_rfl) (by kernel_rfl)) ?_
  intro W base args ds gs before hval0 hW hcnd _
  have hval : ∀ (j : Nat) t v, Try.f10.params[j]? = some t → args[j]? = some v → Value.okWide Try.prog W .any base t v := hval0
  have hW' := hW
  obtain ⟨p, q, hA0, hV, rfl, hfz, hnd⟩ := hW
  have hA : DataW.TrodAll enc Try.prog W 0 (fun _ => true) true Try.f10.params.toList args.toList ds p := hA0
  rw [Try.params10] at hA hval
  obtain ⟨v0, vs0, d0, ds0, p0, q0, hargs, rfl, rfl, h0, r0⟩ := trodAll_cons hA
  obtain ⟨v1, vs1, d1, ds1, p1, q1, rfl, rfl, rfl, h1, r1⟩ := trodAll_cons r0
  obtain ⟨rfl, rfl, rfl⟩ := trodAll_nil r1
  obtain rfl : args = #[v0, v1] := by cases args; simp_all
  obtain ⟨rfl, rfl⟩ := trodVars_none hV
  obtain ⟨a0, rfl, rfl, rfl, w0⟩ := open_string Try.underlying9 (hval 0 9 v0 rfl rfl) h0
  obtain ⟨a1, rfl, rfl, rfl, w1⟩ := open_string Try.underlying9 (hval 1 9 v1 rfl rfl) h1
  clear hA0 hval0
  simp only [List.append_nil] at hW'
  refine (walk a0 a1 w0 w1 W).mono fun e W' ⟨he, bel⟩ => ?_
  subst he
  exact ⟨_, rfl, _, _, _, [], [], [], hW', trodAll_mk1 (shut_bool Try.underlying4 _), (trodAll_cons_mk (shut_string Try.underlying9 w0) (trodAll_cons_mk (shut_string Try.underlying9 w1) trodAll_mk0)), rfl, bel.frame _, fun h => by cases h⟩

theorem over : Rows.fnExactCountKindRow.holds Try.pinned (OpenSpec.ofChange Rows.fnExactCountKindSpec) :=
  OpenClaim.holds_of_wide 10 Try.f10 rfl rfl rfl rfl rfl rfl rfl ⟨rfl, rfl, rfl, rfl, rfl⟩ rfl rfl rfl rfl rfl (by kernel_rfl) Try.func10 (by kernel_rfl)
    (of_decide_eq_true (by kernel_rfl)) (by unfold Func.isWrapper; first | (rw [if_pos (by decide +kernel)]; kernel_rfl) | (rw [if_neg (by decide +kernel)]; exact ⟨rfl, rfl⟩))
    (fun os started H enc _ => lifted os started H enc)
end LawCountKind

theorem fnExactCountKind_holds : Rows.FnExactCountKindSaid := LawCountKind.over
#print axioms fnExactCountKind_holds
end Go.Proofs.Ytpahhlcfbmmocaa
