/- For every input the law FnExactAreAlpha returns true, and each text reads behind the call as it read before. No conditions. -/
import Derived.Test.YtpahhlcfbmmocabRows
import Derived.Test.YtpahhlcfbmmocabNb
import Derived.Test.YtpahhlcfbmmocabAr
import Derived.WalkKit
import Derived.ProofKit
import Derived.OpenShut
import Derived.ShutString
import Derived.ChangeOld
import Derived.Below
namespace Go.Proofs.Ytpahhlcfbmmocab
namespace LawAreAlpha
open Go.ChangeShapes Go.WideShapes Go.ChangeAt Go.RowKit Go.Proofs.Ytpahhlcfbmmocab.T1
open Go.ChangeMaps (open_string shut_string)
set_option linter.unusedVariables false

theorem own : ownKnob Try.prog.godebug = none := by kernel_rfl
theorem laidOut : laidOutB Try.prog = true := by kernel_rfl


theorem blw {u v w : World} (h : Below u.heap.size u v) (k : Below v.heap.size v w) : Below u.heap.size u w := below_trans h k h.size
set_option maxHeartbeats 1000000 in
theorem s_n1 (s q : ByteArray)  (G1 : ∀ w, Calls Try.prog 30 #[.string s] w fun e w' => e = .returned (.bool false) ∧ Below w.heap.size w w') (w : World) : Calls Try.prog 20 #[.string s, .string q] w fun e w' => e = .returned (.tuple #[.bool false, .bool false]) ∧ Below w.heap.size w w' := by
  have G1' := Lib.hid G1
  clear G1
  go_enter Try.func20, Try.ntmps20
  go_wp2_with fail
  refine (G1'.out _).mono ?_
  rintro e w1 ⟨rfl, b1⟩
  go_wp2_with fail
  go_ret2
  exact ⟨rfl, b1⟩
set_option maxHeartbeats 1000000 in
theorem s_n2 (s q : ByteArray)  (G1 : ∀ w, Calls Try.prog 30 #[.string s] w fun e w' => e = .returned (.bool true) ∧ Below w.heap.size w w') (G2 : ∀ w, Calls Try.prog 30 #[.string q] w fun e w' => e = .returned (.bool false) ∧ Below w.heap.size w w') (w : World) : Calls Try.prog 20 #[.string s, .string q] w fun e w' => e = .returned (.tuple #[.bool false, .bool false]) ∧ Below w.heap.size w w' := by
  have G1' := Lib.hid G1
  have G2' := Lib.hid G2
  clear G1 G2
  go_enter Try.func20, Try.ntmps20
  go_wp2_with fail
  refine (G1'.out _).mono ?_
  rintro e w1 ⟨rfl, b1⟩
  go_wp2_with fail
  refine (G2'.out _).mono ?_
  rintro e w2 ⟨rfl, b2⟩
  have bl2 := blw b1 b2
  go_wp2_with fail
  go_ret2
  exact ⟨rfl, bl2⟩
set_option maxHeartbeats 1000000 in
theorem s_yes (s q : ByteArray) (b : Bool) (G1 : ∀ w, Calls Try.prog 30 #[.string s] w fun e w' => e = .returned (.bool true) ∧ Below w.heap.size w w') (G2 : ∀ w, Calls Try.prog 30 #[.string q] w fun e w' => e = .returned (.bool true) ∧ Below w.heap.size w w') (HA : ∀ w, Calls Try.prog 55 #[.string s, .string q, .string ⟨#[]⟩, .string ⟨#[]⟩] w fun e w' => e = .returned (.bool b) ∧ Below w.heap.size w w') (w : World) : Calls Try.prog 20 #[.string s, .string q] w fun e w' => e = .returned (.tuple #[.bool b, .bool true]) ∧ Below w.heap.size w w' := by
  have G1' := Lib.hid G1
  have G2' := Lib.hid G2
  have HA' := Lib.hid HA
  clear G1 G2 HA
  go_enter Try.func20, Try.ntmps20
  go_wp2_with fail
  refine (G1'.out _).mono ?_
  rintro e w1 ⟨rfl, b1⟩
  go_wp2_with fail
  refine (G2'.out _).mono ?_
  rintro e w2 ⟨rfl, b2⟩
  have bl2 := blw b1 b2
  go_wp2_with fail
  refine (HA'.out _).mono ?_
  rintro e w3 ⟨rfl, b3⟩
  have bl3 := blw bl2 b3
  go_wp2_with fail
  go_ret2
  exact ⟨rfl, bl3⟩
set_option maxHeartbeats 1000000 in
theorem i_n1 (s q : ByteArray)  (G1 : ∀ w, Calls Try.prog 33 #[.string s] w fun e w' => e = .returned (.tuple #[.nilIface, .bool false]) ∧ Below w.heap.size w w') (G2 : ∀ w, Calls Try.prog 33 #[.string q] w fun e w' => e = .returned (.tuple #[.nilIface, .bool false]) ∧ Below w.heap.size w w') (w : World) : Calls Try.prog 21 #[.string s, .string q] w fun e w' => e = .returned (.tuple #[.bool false, .bool false]) ∧ Below w.heap.size w w' := by
  have G1' := Lib.hid G1
  have G2' := Lib.hid G2
  clear G1 G2
  go_enter Try.func21, Try.ntmps21
  go_wp2_with fail
  refine (G1'.out _).mono ?_
  rintro e w1 ⟨rfl, b1⟩
  go_wp2_with fail
  refine (G2'.out _).mono ?_
  rintro e w2 ⟨rfl, b2⟩
  have bl2 := blw b1 b2
  go_wp2_with fail
  go_ret2
  exact ⟨rfl, bl2⟩
set_option maxHeartbeats 1000000 in
theorem i_n1b (s q : ByteArray) (T2 : TypeId) (V2 : Value) (G1 : ∀ w, Calls Try.prog 33 #[.string s] w fun e w' => e = .returned (.tuple #[.nilIface, .bool false]) ∧ Below w.heap.size w w') (G2 : ∀ w, Calls Try.prog 33 #[.string q] w fun e w' => e = .returned (.tuple #[.iface T2 V2, .bool true]) ∧ Below w.heap.size w w') (w : World) : Calls Try.prog 21 #[.string s, .string q] w fun e w' => e = .returned (.tuple #[.bool false, .bool false]) ∧ Below w.heap.size w w' := by
  have G1' := Lib.hid G1
  have G2' := Lib.hid G2
  clear G1 G2
  go_enter Try.func21, Try.ntmps21
  go_wp2_with fail
  refine (G1'.out _).mono ?_
  rintro e w1 ⟨rfl, b1⟩
  go_wp2_with fail
  refine (G2'.out _).mono ?_
  rintro e w2 ⟨rfl, b2⟩
  have bl2 := blw b1 b2
  go_wp2_with fail
  go_ret2
  exact ⟨rfl, bl2⟩
set_option maxHeartbeats 1000000 in
theorem i_n2 (s q : ByteArray) (T1 : TypeId) (V1 : Value) (G1 : ∀ w, Calls Try.prog 33 #[.string s] w fun e w' => e = .returned (.tuple #[.iface T1 V1, .bool true]) ∧ Below w.heap.size w w') (G2 : ∀ w, Calls Try.prog 33 #[.string q] w fun e w' => e = .returned (.tuple #[.nilIface, .bool false]) ∧ Below w.heap.size w w') (w : World) : Calls Try.prog 21 #[.string s, .string q] w fun e w' => e = .returned (.tuple #[.bool false, .bool false]) ∧ Below w.heap.size w w' := by
  have G1' := Lib.hid G1
  have G2' := Lib.hid G2
  clear G1 G2
  go_enter Try.func21, Try.ntmps21
  go_wp2_with fail
  refine (G1'.out _).mono ?_
  rintro e w1 ⟨rfl, b1⟩
  go_wp2_with fail
  refine (G2'.out _).mono ?_
  rintro e w2 ⟨rfl, b2⟩
  have bl2 := blw b1 b2
  go_wp2_with fail
  go_ret2
  exact ⟨rfl, bl2⟩
set_option maxHeartbeats 1000000 in
theorem i_yes (s q : ByteArray) (T1 T2 T3 T4 : TypeId) (V1 V2 V3 V4 : Value) (X Y : ByteArray) (b : Bool) (hb : (X.toList == Y.toList) = b) (G1 : ∀ w, Calls Try.prog 33 #[.string s] w fun e w' => e = .returned (.tuple #[.iface T1 V1, .bool true]) ∧ Below w.heap.size w w') (G2 : ∀ w, Calls Try.prog 33 #[.string q] w fun e w' => e = .returned (.tuple #[.iface T2 V2, .bool true]) ∧ Below w.heap.size w w') (HA : ∀ w, Calls Try.prog 56 #[.iface T1 V1] w fun e w' => e = .returned (.iface T3 V3) ∧ Below w.heap.size w w') (HX : ∀ w, Calls Try.prog 54 #[.iface T3 V3] w fun e w' => e = .returned (.string X) ∧ Below w.heap.size w w') (HB : ∀ w, Calls Try.prog 56 #[.iface T2 V2] w fun e w' => e = .returned (.iface T4 V4) ∧ Below w.heap.size w w') (HY : ∀ w, Calls Try.prog 54 #[.iface T4 V4] w fun e w' => e = .returned (.string Y) ∧ Below w.heap.size w w') (w : World) : Calls Try.prog 21 #[.string s, .string q] w fun e w' => e = .returned (.tuple #[.bool b, .bool true]) ∧ Below w.heap.size w w' := by
  have G1' := Lib.hid G1
  have G2' := Lib.hid G2
  have HA' := Lib.hid HA
  have HB' := Lib.hid HB
  have HX' := Lib.hid HX
  have HY' := Lib.hid HY
  clear G1 G2 HA HB HX HY
  have HBB := Lib.hid hb
  clear hb
  go_enter Try.func21, Try.ntmps21
  go_wp2_with fail
  refine (G1'.out _).mono ?_
  rintro e w1 ⟨rfl, b1⟩
  go_wp2_with fail
  refine (G2'.out _).mono ?_
  rintro e w2 ⟨rfl, b2⟩
  have bl2 := blw b1 b2
  go_wp2_with fail
  refine (HA'.out _).mono ?_
  rintro e w3 ⟨rfl, b3⟩
  have bl3 := blw bl2 b3
  go_wp2_with fail
  refine (HX'.out _).mono ?_
  rintro e w4 ⟨rfl, b4⟩
  have bl4 := blw bl3 b4
  go_wp2_with fail
  refine (HB'.out _).mono ?_
  rintro e w5 ⟨rfl, b5⟩
  have bl5 := blw bl4 b5
  go_wp2_with fail
  refine (HY'.out _).mono ?_
  rintro e w6 ⟨rfl, b6⟩
  have bl6 := blw bl5 b6
  go_wp2_with fail
  go_ret2
  exact ⟨by rw [← HBB.out]; rfl, bl6⟩

theorem can_more (t : Tm) : ∀ (f : UInt8 → UInt8) (ns ms : List UInt8), t.bnd.length ≤ ns.length → can t f (ns ++ ms) = can t f ns := by
  induction t with
  | nil => intro f ns ms h; rfl
  | snd a b p ih => intro f ns ms h; simp only [can]; rw [ih f ns ms h]
  | tau p ih => intro f ns ms h; simp only [can]; rw [ih f ns ms h]
  | mat a b p ih => intro f ns ms h; simp only [can]; rw [ih f ns ms h]
  | rep p ih => intro f ns ms h; simp only [can]; rw [ih f ns ms h]
  | rcv a x p ih =>
    intro f ns ms h
    cases ns with
    | nil => simp [Tm.bnd] at h
    | cons n ns => simp only [can, List.cons_append, List.headD_cons, List.tail_cons]; rw [ih _ ns ms (by simp [Tm.bnd] at h; omega)]
  | own x p ih =>
    intro f ns ms h
    cases ns with
    | nil => simp [Tm.bnd] at h
    | cons n ns => simp only [can, List.cons_append, List.headD_cons, List.tail_cons]; rw [ih _ ns ms (by simp [Tm.bnd] at h; omega)]
  | sum p q ih ih2 =>
    intro f ns ms h
    simp only [Tm.bnd, List.length_append] at h
    simp only [can]
    rw [ih f ns ms (by omega), List.drop_append_of_le_length (by omega), ih2 f _ ms (by rw [List.length_drop]; omega)]
  | par p q ih ih2 =>
    intro f ns ms h
    simp only [Tm.bnd, List.length_append] at h
    simp only [can]
    rw [ih f ns ms (by omega), List.drop_append_of_le_length (by omega), ih2 f _ ms (by rw [List.length_drop]; omega)]
theorem marks_split : marksN = marks ++ marksN.drop 60 := by unfold marksN marks; decide +kernel
theorem can_marks (t : Tm) (h : t.bnd.length ≤ 60) : can t id marksN = can t id marks := by
  rw [marks_split]; exact can_more t id marks _ (by rw [marks_len]; exact h)
theorem bnd_lt (t : Tm) : t.bnd.length + 1 ≤ t.size := by
  induction t <;> simp_all [Tm.bnd, Tm.size] <;> omega
theorem both (s q : ByteArray) (hm : s.size ≤ 9223372036854775807) (hmq : q.size ≤ 9223372036854775807) : ∃ (n b : Bool), (∀ w, Calls Try.prog 20 #[.string s, .string q] w fun e w' => e = .returned (.tuple #[.bool n, .bool b]) ∧ Below w.heap.size w w') ∧ (∀ w, Calls Try.prog 21 #[.string s, .string q] w fun e w' => e = .returned (.tuple #[.bool n, .bool b]) ∧ Below w.heap.size w w') := by
  cases hg : good s.data.toList with
  | none =>
    have h1 := fun w => tmGood_none hg w hm
    have h2 := fun w => parse_none hg w hm
    cases hg2 : good q.data.toList with
    | none => exact ⟨_, _, s_n1 s q h1, i_n1 s q h2 (fun w => parse_none hg2 w hmq)⟩
    | some u => exact ⟨_, _, s_n1 s q h1, i_n1b s q _ _ h2 (fun w => parse_some hg2 w hmq)⟩
  | some t =>
    have h1 := fun w => tmGood_some hg w hm
    have h2 := fun w => parse_some hg w hm
    cases hg2 : good q.data.toList with
    | none => exact ⟨_, _, s_n2 s q h1 (fun w => tmGood_none hg2 w hmq), i_n2 s q _ _ h2 (fun w => parse_none hg2 w hmq)⟩
    | some u =>
      have h3 := fun w => tmGood_some hg2 w hmq
      have h4 := fun w => parse_some hg2 w hmq
      obtain ⟨es, hL, hE, h300, h60⟩ := good_S hg
      obtain ⟨eq, hL2, hE2, h3002, h602⟩ := good_S hg2
      have hb1 := bnd_lt t
      have hb2 := bnd_lt u
      have hA := fun w => tmAlpha_any t u [] [] w hE hE2 (by omega) (by omega) rfl (by simp; omega)
      rw [← es, ← eq] at hA
      refine ⟨alp t u [] [], true, s_yes s q _ h1 h3 hA, i_yes s q _ _ _ _ _ _ _ _ _ _ _ ?_ h2 h4 (numbered_any t hL (by omega)) (textOf_any _ (by rw [(can_len t id marksN).1]; omega)) (numbered_any u hL2 (by omega)) (textOf_any _ (by rw [(can_len u id marksN).1]; omega))⟩
      rw [alp_iff t u hL hL2 (by omega) (by omega), ByteArray.toList_eq, ByteArray.toList_eq]
      show ((can t id marksN).pr == (can u id marksN).pr) = _
      rw [can_marks t (by omega), can_marks u (by omega)]
      rw [Bool.eq_iff_iff, beq_iff_eq, decide_eq_true_iff]
set_option maxHeartbeats 1000000 in
theorem walk (a0 a1 : ByteArray) (w0 : a0.size ≤ maxLen) (w1 : a1.size ≤ maxLen) (w : World) : Calls Try.prog 7 #[.string a0, .string a1] w fun e w' => e = .returned (.bool true) ∧ Below w.heap.size w w' := by
  unfold maxLen at w0 w1
  by_cases hl : 1048576 < a0.size
  · go_enter Try.func7, Try.ntmps7
    go_wp2_with fail
    go_ret
    exact ⟨rfl, Below.refl _ _⟩
  · by_cases hl2 : 1048576 < a1.size
    · go_enter Try.func7, Try.ntmps7
      go_wp2_with fail
      go_ret
      exact ⟨rfl, Below.refl _ _⟩
    · obtain ⟨n, b, hs, hi⟩ := both a0 a1 w0 w1
      have H1 := Lib.hid hs
      have H2 := Lib.hid hi
      clear hs hi
      go_enter Try.func7, Try.ntmps7
      go_wp2_with fail
      refine (H1.out _).mono ?_
      rintro e w2 ⟨rfl, b1⟩
      go_wp2_with fail
      refine (H2.out _).mono ?_
      rintro e w3 ⟨rfl, b2⟩
      go_wp2_with fail
      go_ret
      exact ⟨rfl, below_trans b1 b2 b1.size⟩


set_option maxRecDepth 100000 in
theorem lifted (os : Os) (started : os.Started) (H : Type) (enc : TypeId × Value → H) :
    ReturnsInHanded {} Try.checked os 7 .any (Rows.fnExactAreAlphaSpec.pre6 enc Try.prog Try.f7 Rows.fnExactAreAlphaRow.domain false) (Rows.fnExactAreAlphaSpec.post enc Try.prog Try.f7 false true false false) := by
  refine returnsInHanded_of_change (C := Try.checked) own started (by kernel_rfl) Try.func7
    (ChangeSpec.witness6 (enc := enc) (C := Try.checked) false ⟨#[], #[.string ByteArray.empty, .string ByteArray.empty], []⟩ 8 (by kernel_rfl) (by kernel_rfl) (by kernel_rfl) (by kernel_rfl)) ?_
  intro W base args ds gs before hval0 hW hcnd _
  have hval : ∀ (j : Nat) t v, Try.f7.params[j]? = some t → args[j]? = some v → Value.okWide Try.prog W .any base t v := hval0
  have hW' := hW
  obtain ⟨p, q, hA0, hV, rfl, hfz, hnd⟩ := hW
  have hA : DataW.TrodAll enc Try.prog W 0 (fun _ => true) true Try.f7.params.toList args.toList ds p := hA0
  rw [Try.params7] at hA hval
  obtain ⟨v0, vs0, d0, ds0, p0, q0, hargs, rfl, rfl, h0, r0⟩ := trodAll_cons hA
  obtain ⟨v1, vs1, d1, ds1, p1, q1, rfl, rfl, rfl, h1, r1⟩ := trodAll_cons r0
  obtain ⟨rfl, rfl, rfl⟩ := trodAll_nil r1
  obtain rfl : args = #[v0, v1] := by cases args; simp_all
  obtain ⟨rfl, rfl⟩ := trodVars_none hV
  obtain ⟨a0, rfl, rfl, rfl, w0⟩ := open_string Try.underlying9 (hval 0 9 v0 rfl rfl) h0
  obtain ⟨a1, rfl, rfl, rfl, w1⟩ := open_string Try.underlying9 (hval 1 9 v1 rfl rfl) h1
  clear hA0 hval0
  simp only [List.append_nil] at hW'
  refine (walk a0 a1 w0 w1 W).mono fun e W' ⟨he, bel⟩ => ?_
  subst he
  exact ⟨_, rfl, _, _, _, [], [], [], hW', trodAll_mk1 (shut_bool Try.underlying4 _), (trodAll_cons_mk (shut_string Try.underlying9 w0) (trodAll_cons_mk (shut_string Try.underlying9 w1) trodAll_mk0)), rfl, bel.frame _, fun h => by cases h⟩

theorem over : Rows.fnExactAreAlphaRow.holds Try.pinned (OpenSpec.ofChange Rows.fnExactAreAlphaSpec) :=
  OpenClaim.holds_of_wide 7 Try.f7 rfl rfl rfl rfl rfl rfl rfl ⟨rfl, rfl, rfl, rfl, rfl⟩ rfl rfl rfl rfl rfl (by kernel_rfl) Try.func7 (by kernel_rfl)
    (of_decide_eq_true (by kernel_rfl)) (by unfold Func.isWrapper; first | (rw [if_pos (by decide +kernel)]; kernel_rfl) | (rw [if_neg (by decide +kernel)]; exact ⟨rfl, rfl⟩))
    (fun os started H enc _ => lifted os started H enc)
end LawAreAlpha

theorem fnExactAreAlpha_holds : Rows.FnExactAreAlphaSaid := LawAreAlpha.over
#print axioms fnExactAreAlpha_holds
end Go.Proofs.Ytpahhlcfbmmocab
