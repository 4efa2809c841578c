/- For every input the law FnExactReplaceAt returns true, and each text reads behind the call as it read before. No conditions. -/
import Derived.Test.YtpahhlcfbmmocaaRows
import Derived.Test.YtpahhlcfbmmocaaPq
import Derived.WalkKit
import Derived.ProofKit
import Derived.OpenShut
import Derived.ShutString
import Derived.ChangeOld
import Derived.Below
namespace Go.Proofs.Ytpahhlcfbmmocaa
namespace LawReplaceAt
open Go.ChangeShapes Go.WideShapes Go.ChangeAt Go.RowKit Go.Proofs.Ytpahhlcfbmmocaa.T1
open Go.ChangeMaps (open_string shut_string)
set_option linter.unusedVariables false

theorem own : ownKnob Try.prog.godebug = none := by kernel_rfl
theorem laidOut : laidOutB Try.prog = true := by kernel_rfl


theorem blw {u v w : World} (h : Below u.heap.size u v) (k : Below v.heap.size v w) : Below u.heap.size u w := below_trans h k h.size
set_option maxHeartbeats 1000000 in
theorem s_n1 (s k q : ByteArray)  (G1 : ∀ w, Calls Try.prog 33 #[.string s] w fun e w' => e = .returned (.bool false) ∧ Below w.heap.size w w') (w : World) : Calls Try.prog 27 #[.string s, .string k, .string q] w fun e w' => e = .returned (.tuple #[.string ⟨#[]⟩, .bool false]) ∧ Below w.heap.size w w' := by
  have G1' := Lib.hid G1
  clear G1
  go_enter Try.func27, Try.ntmps27
  go_wp2_with fail
  refine (G1'.out _).mono ?_
  rintro e w1 ⟨rfl, b1⟩
  go_wp2_with fail
  go_ret2
  exact ⟨rfl, b1⟩
set_option maxHeartbeats 1000000 in
theorem s_n2 (s k q : ByteArray)  (G1 : ∀ w, Calls Try.prog 33 #[.string s] w fun e w' => e = .returned (.bool true) ∧ Below w.heap.size w w') (G2 : ∀ w, Calls Try.prog 33 #[.string q] w fun e w' => e = .returned (.bool false) ∧ Below w.heap.size w w') (w : World) : Calls Try.prog 27 #[.string s, .string k, .string q] w fun e w' => e = .returned (.tuple #[.string ⟨#[]⟩, .bool false]) ∧ Below w.heap.size w w' := by
  have G1' := Lib.hid G1
  have G2' := Lib.hid G2
  clear G1 G2
  go_enter Try.func27, Try.ntmps27
  go_wp2_with fail
  refine (G1'.out _).mono ?_
  rintro e w1 ⟨rfl, b1⟩
  go_wp2_with fail
  refine (G2'.out _).mono ?_
  rintro e w2 ⟨rfl, b2⟩
  have bl2 := blw b1 b2
  go_wp2_with fail
  go_ret2
  exact ⟨rfl, bl2⟩
set_option maxHeartbeats 1000000 in
theorem s_n3 (s k q : ByteArray)  (G1 : ∀ w, Calls Try.prog 33 #[.string s] w fun e w' => e = .returned (.bool true) ∧ Below w.heap.size w w') (G2 : ∀ w, Calls Try.prog 33 #[.string q] w fun e w' => e = .returned (.bool true) ∧ Below w.heap.size w w') (HA : ∀ w, Calls Try.prog 43 #[.string s, .string k] w fun e w' => e = .returned (.tuple #[.string ⟨#[]⟩, .bool false]) ∧ Below w.heap.size w w') (w : World) : Calls Try.prog 27 #[.string s, .string k, .string q] w fun e w' => e = .returned (.tuple #[.string ⟨#[]⟩, .bool false]) ∧ Below w.heap.size w w' := by
  have G1' := Lib.hid G1
  have G2' := Lib.hid G2
  have HA' := Lib.hid HA
  clear G1 G2 HA
  go_enter Try.func27, Try.ntmps27
  go_wp2_with fail
  refine (G1'.out _).mono ?_
  rintro e w1 ⟨rfl, b1⟩
  go_wp2_with fail
  refine (G2'.out _).mono ?_
  rintro e w2 ⟨rfl, b2⟩
  have bl2 := blw b1 b2
  go_wp2_with fail
  refine (HA'.out _).mono ?_
  rintro e w3 ⟨rfl, b3⟩
  have bl3 := blw bl2 b3
  go_wp2_with fail
  go_ret2
  exact ⟨rfl, bl3⟩
set_option maxHeartbeats 1000000 in
theorem s_yes (s k q : ByteArray) (X R Y : ByteArray) (y : Bool) (G1 : ∀ w, Calls Try.prog 33 #[.string s] w fun e w' => e = .returned (.bool true) ∧ Below w.heap.size w w') (G2 : ∀ w, Calls Try.prog 33 #[.string q] w fun e w' => e = .returned (.bool true) ∧ Below w.heap.size w w') (HA : ∀ w, Calls Try.prog 43 #[.string s, .string k] w fun e w' => e = .returned (.tuple #[.string X, .bool true]) ∧ Below w.heap.size w w') (HP : ∀ w, Calls Try.prog 47 #[.string s, .string k, .string q] w fun e w' => e = .returned (.string R) ∧ Below w.heap.size w w') (HI : ∀ w, Calls Try.prog 46 #[.string R] w fun e w' => e = .returned (.tuple #[.string Y, .bool y]) ∧ Below w.heap.size w w') (w : World) : Calls Try.prog 27 #[.string s, .string k, .string q] w fun e w' => e = .returned (.tuple #[.string Y, .bool y]) ∧ Below w.heap.size w w' := by
  have G1' := Lib.hid G1
  have G2' := Lib.hid G2
  have HA' := Lib.hid HA
  have HP' := Lib.hid HP
  have HI' := Lib.hid HI
  clear G1 G2 HA HP HI
  go_enter Try.func27, Try.ntmps27
  go_wp2_with fail
  refine (G1'.out _).mono ?_
  rintro e w1 ⟨rfl, b1⟩
  go_wp2_with fail
  refine (G2'.out _).mono ?_
  rintro e w2 ⟨rfl, b2⟩
  have bl2 := blw b1 b2
  go_wp2_with fail
  refine (HA'.out _).mono ?_
  rintro e w3 ⟨rfl, b3⟩
  have bl3 := blw bl2 b3
  go_wp2_with fail
  refine (HP'.out _).mono ?_
  rintro e w4 ⟨rfl, b4⟩
  have bl4 := blw bl3 b4
  go_wp2_with fail
  refine (HI'.out _).mono ?_
  rintro e w5 ⟨rfl, b5⟩
  have bl5 := blw bl4 b5
  go_wp2_with fail
  go_ret2
  exact ⟨rfl, bl5⟩
set_option maxHeartbeats 1000000 in
theorem i_n1 (s k q : ByteArray)  (G1 : ∀ w, Calls Try.prog 34 #[.string s] w fun e w' => e = .returned (.tuple #[.nilIface, .bool false]) ∧ Below w.heap.size w w') (G2 : ∀ w, Calls Try.prog 34 #[.string q] w fun e w' => e = .returned (.tuple #[.nilIface, .bool false]) ∧ Below w.heap.size w w') (w : World) : Calls Try.prog 28 #[.string s, .string k, .string q] w fun e w' => e = .returned (.tuple #[.string ⟨#[]⟩, .bool false]) ∧ Below w.heap.size w w' := by
  have G1' := Lib.hid G1
  have G2' := Lib.hid G2
  clear G1 G2
  go_enter Try.func28, Try.ntmps28
  go_wp2_with fail
  refine (G1'.out _).mono ?_
  rintro e w1 ⟨rfl, b1⟩
  go_wp2_with fail
  refine (G2'.out _).mono ?_
  rintro e w2 ⟨rfl, b2⟩
  have bl2 := blw b1 b2
  go_wp2_with fail
  go_ret2
  exact ⟨rfl, bl2⟩
set_option maxHeartbeats 1000000 in
theorem i_n1b (s k q : ByteArray) (T2 : TypeId) (V2 : Value) (G1 : ∀ w, Calls Try.prog 34 #[.string s] w fun e w' => e = .returned (.tuple #[.nilIface, .bool false]) ∧ Below w.heap.size w w') (G2 : ∀ w, Calls Try.prog 34 #[.string q] w fun e w' => e = .returned (.tuple #[.iface T2 V2, .bool true]) ∧ Below w.heap.size w w') (w : World) : Calls Try.prog 28 #[.string s, .string k, .string q] w fun e w' => e = .returned (.tuple #[.string ⟨#[]⟩, .bool false]) ∧ Below w.heap.size w w' := by
  have G1' := Lib.hid G1
  have G2' := Lib.hid G2
  clear G1 G2
  go_enter Try.func28, Try.ntmps28
  go_wp2_with fail
  refine (G1'.out _).mono ?_
  rintro e w1 ⟨rfl, b1⟩
  go_wp2_with fail
  refine (G2'.out _).mono ?_
  rintro e w2 ⟨rfl, b2⟩
  have bl2 := blw b1 b2
  go_wp2_with fail
  go_ret2
  exact ⟨rfl, bl2⟩
set_option maxHeartbeats 1000000 in
theorem i_n2 (s k q : ByteArray) (T1 : TypeId) (V1 : Value) (G1 : ∀ w, Calls Try.prog 34 #[.string s] w fun e w' => e = .returned (.tuple #[.iface T1 V1, .bool true]) ∧ Below w.heap.size w w') (G2 : ∀ w, Calls Try.prog 34 #[.string q] w fun e w' => e = .returned (.tuple #[.nilIface, .bool false]) ∧ Below w.heap.size w w') (w : World) : Calls Try.prog 28 #[.string s, .string k, .string q] w fun e w' => e = .returned (.tuple #[.string ⟨#[]⟩, .bool false]) ∧ Below w.heap.size w w' := by
  have G1' := Lib.hid G1
  have G2' := Lib.hid G2
  clear G1 G2
  go_enter Try.func28, Try.ntmps28
  go_wp2_with fail
  refine (G1'.out _).mono ?_
  rintro e w1 ⟨rfl, b1⟩
  go_wp2_with fail
  refine (G2'.out _).mono ?_
  rintro e w2 ⟨rfl, b2⟩
  have bl2 := blw b1 b2
  go_wp2_with fail
  go_ret2
  exact ⟨rfl, bl2⟩
set_option maxHeartbeats 1000000 in
theorem i_n3 (s k q : ByteArray) (T1 T2 : TypeId) (V1 V2 : Value) (G1 : ∀ w, Calls Try.prog 34 #[.string s] w fun e w' => e = .returned (.tuple #[.iface T1 V1, .bool true]) ∧ Below w.heap.size w w') (G2 : ∀ w, Calls Try.prog 34 #[.string q] w fun e w' => e = .returned (.tuple #[.iface T2 V2, .bool true]) ∧ Below w.heap.size w w') (HA : ∀ w, Calls Try.prog 48 #[.iface T1 V1, .string k, .iface T2 V2] w fun e w' => e = .returned (.tuple #[.nilIface, .bool false]) ∧ Below w.heap.size w w') (w : World) : Calls Try.prog 28 #[.string s, .string k, .string q] w fun e w' => e = .returned (.tuple #[.string ⟨#[]⟩, .bool false]) ∧ Below w.heap.size w w' := by
  have G1' := Lib.hid G1
  have G2' := Lib.hid G2
  have HA' := Lib.hid HA
  clear G1 G2 HA
  go_enter Try.func28, Try.ntmps28
  go_wp2_with fail
  refine (G1'.out _).mono ?_
  rintro e w1 ⟨rfl, b1⟩
  go_wp2_with fail
  refine (G2'.out _).mono ?_
  rintro e w2 ⟨rfl, b2⟩
  have bl2 := blw b1 b2
  go_wp2_with fail
  refine (HA'.out _).mono ?_
  rintro e w3 ⟨rfl, b3⟩
  have bl3 := blw bl2 b3
  go_wp2_with fail
  go_ret2
  exact ⟨rfl, bl3⟩
set_option maxHeartbeats 1000000 in
theorem i_yes (s k q : ByteArray) (T1 T2 T3 : TypeId) (V1 V2 V3 : Value) (Y : ByteArray) (y : Bool) (G1 : ∀ w, Calls Try.prog 34 #[.string s] w fun e w' => e = .returned (.tuple #[.iface T1 V1, .bool true]) ∧ Below w.heap.size w w') (G2 : ∀ w, Calls Try.prog 34 #[.string q] w fun e w' => e = .returned (.tuple #[.iface T2 V2, .bool true]) ∧ Below w.heap.size w w') (HA : ∀ w, Calls Try.prog 48 #[.iface T1 V1, .string k, .iface T2 V2] w fun e w' => e = .returned (.tuple #[.iface T3 V3, .bool true]) ∧ Below w.heap.size w w') (HI : ∀ w, Calls Try.prog 49 #[.iface T3 V3] w fun e w' => e = .returned (.tuple #[.string Y, .bool y]) ∧ Below w.heap.size w w') (w : World) : Calls Try.prog 28 #[.string s, .string k, .string q] w fun e w' => e = .returned (.tuple #[.string Y, .bool y]) ∧ Below w.heap.size w w' := by
  have G1' := Lib.hid G1
  have G2' := Lib.hid G2
  have HA' := Lib.hid HA
  have HI' := Lib.hid HI
  clear G1 G2 HA HI
  go_enter Try.func28, Try.ntmps28
  go_wp2_with fail
  refine (G1'.out _).mono ?_
  rintro e w1 ⟨rfl, b1⟩
  go_wp2_with fail
  refine (G2'.out _).mono ?_
  rintro e w2 ⟨rfl, b2⟩
  have bl2 := blw b1 b2
  go_wp2_with fail
  refine (HA'.out _).mono ?_
  rintro e w3 ⟨rfl, b3⟩
  have bl3 := blw bl2 b3
  go_wp2_with fail
  refine (HI'.out _).mono ?_
  rintro e w4 ⟨rfl, b4⟩
  have bl4 := blw bl3 b4
  go_wp2_with fail
  go_ret2
  exact ⟨rfl, bl4⟩

theorem out_if (b : Bool) (X Y : ByteArray) : (if b = true then (.tuple #[.string X, .bool true] : Value) else .tuple #[.string Y, .bool false]) = .tuple #[.string (if b then X else Y), .bool b] := by cases b <;> rfl
theorem both (s k q : ByteArray) (hm : s.size ≤ 9223372036854775807) (hmk : k.size ≤ 100000000) (hmq : q.size ≤ 9223372036854775807) : ∃ (n : ByteArray) (b : Bool), (∀ w, Calls Try.prog 27 #[.string s, .string k, .string q] w fun e w' => e = .returned (.tuple #[.string n, .bool b]) ∧ Below w.heap.size w w') ∧ (∀ w, Calls Try.prog 28 #[.string s, .string k, .string q] w fun e w' => e = .returned (.tuple #[.string n, .bool b]) ∧ Below w.heap.size w w') := by
  cases hg : good s.data.toList with
  | none =>
    have h1 := fun w => tmGood_none hg w hm
    have h2 := fun w => parse_none hg w hm
    cases hg2 : good q.data.toList with
    | none => exact ⟨_, _, s_n1 s k q h1, i_n1 s k q h2 (fun w => parse_none hg2 w hmq)⟩
    | some u => exact ⟨_, _, s_n1 s k q h1, i_n1b s k q _ _ h2 (fun w => parse_some hg2 w hmq)⟩
  | some t =>
    have h1 := fun w => tmGood_some hg w hm
    have h2 := fun w => parse_some hg w hm
    cases hg2 : good q.data.toList with
    | none => exact ⟨_, _, s_n2 s k q h1 (fun w => tmGood_none hg2 w hmq), i_n2 s k q _ _ h2 (fun w => parse_none hg2 w hmq)⟩
    | some u =>
      have h3 := fun w => tmGood_some hg2 w hmq
      have h4 := fun w => parse_some hg2 w hmq
      obtain ⟨es, hL, hE, h300, h60⟩ := good_S hg
      obtain ⟨eq, hL2, hE2, h3002, h602⟩ := good_S hg2
      have hA := fun w => tmAt_any t hE (by omega) k hmk w
      have hR := fun w => replaceAt_any u k.data.toList t w
      rw [B_of] at hR
      rw [← es] at hA
      cases hp : putP t k.data.toList u with
      | none =>
        have ha := (putP_none _ t u).1 hp
        rw [ha] at hA
        rw [hp] at hR
        exact ⟨_, _, s_n3 s k q h1 h3 (fun w => (hA w).mono fun e w' h => by
          rcases h with ⟨⟨p, h, _⟩ | ⟨_, h⟩, b⟩
          · cases h
          · exact ⟨h, b⟩), i_n3 s k q _ _ _ _ h2 h4 (fun w => (hR w).mono fun e w' h => by
          rcases h with ⟨⟨p, h, _⟩ | ⟨_, h⟩, b⟩
          · cases h
          · exact ⟨h, b⟩)⟩
      | some r =>
        rw [hp] at hR
        obtain ⟨p, ha⟩ : ∃ p, atP t k.data.toList = some p := by
          cases ha : atP t k.data.toList with
          | none => have := (putP_none _ t u).2 ha; rw [hp] at this; cases this
          | some p => exact ⟨p, rfl⟩
        rw [ha] at hA
        obtain ⟨o1, o2, o3⟩ := putP_ok _ t u r hp
        have hP := fun w => tmPut_any u (by omega) k.data.toList t r hE (by omega) hp w
        rw [B_of, ← es, ← eq] at hP
        have hI := fun w => tmIf_any r (o1 nmE hE hE2) (by omega) w
        have hX := fun w => processText_any r (by omega) (by omega) w
        refine ⟨if okT r then S r else ⟨#[]⟩, okT r, s_yes s k q (S p) (S r) _ _ h1 h3 (fun w => (hA w).mono fun e w' h => by
          rcases h with ⟨⟨p', h, h'⟩ | ⟨h, _⟩, b⟩
          · cases h; exact ⟨h', b⟩
          · cases h) hP (fun w => by rw [← out_if]; exact hI w), i_yes s k q _ _ _ _ _ _ _ _ h2 h4 (fun w => (hR w).mono fun e w' h => by
          rcases h with ⟨⟨p', h, h'⟩ | ⟨h, _⟩, b⟩
          · cases h; exact ⟨h', b⟩
          · cases h) (fun w => (hX w).mono fun e w' h => ?_)⟩
        have hrl := o1 nmL hL hL2
        rcases h with ⟨⟨g1, g2, rfl⟩ | ⟨g, rfl⟩, b⟩
        · have : okT r = true := (okT_iff r).2 ⟨hrl, g1, g2⟩
          rw [this]; exact ⟨rfl, b⟩
        · have : okT r = false := by
            cases h : okT r with
            | false => rfl
            | true => exact absurd ((okT_iff r).1 h).2 g
          rw [this]; exact ⟨rfl, b⟩
set_option maxHeartbeats 1000000 in
theorem walk (a0 a1 a2 : ByteArray) (w0 : a0.size ≤ maxLen) (w1 : a1.size ≤ maxLen) (w2 : a2.size ≤ maxLen) (w : World) : Calls Try.prog 9 #[.string a0, .string a1, .string a2] w fun e w' => e = .returned (.bool true) ∧ Below w.heap.size w w' := by
  unfold maxLen at w0 w1 w2
  by_cases hl : 1048576 < a0.size
  · go_enter Try.func9, Try.ntmps9
    go_wp2_with fail
    go_ret
    exact ⟨rfl, Below.refl _ _⟩
  · by_cases hl2 : 1048576 < a1.size
    · go_enter Try.func9, Try.ntmps9
      go_wp2_with fail
      go_ret
      exact ⟨rfl, Below.refl _ _⟩
    · by_cases hl3 : 1048576 < a2.size
      · go_enter Try.func9, Try.ntmps9
        go_wp2_with fail
        go_ret
        exact ⟨rfl, Below.refl _ _⟩
      · obtain ⟨n, b, hs, hi⟩ := both a0 a1 a2 w0 (by omega) w2
        have H1 := Lib.hid hs
        have H2 := Lib.hid hi
        clear hs hi
        go_enter Try.func9, Try.ntmps9
        go_wp2_with fail
        refine (H1.out _).mono ?_
        rintro e w2 ⟨rfl, b1⟩
        go_wp2_with fail
        refine (H2.out _).mono ?_
        rintro e w3 ⟨rfl, b2⟩
        go_wp2_with fail
        go_ret
        exact ⟨rfl, below_trans b1 b2 b1.size⟩


set_option maxRecDepth 100000 in
theorem lifted (os : Os) (started : os.Started) (H : Type) (enc : TypeId × Value → H) :
    ReturnsInHanded {} Try.checked os 9 .any (Rows.fnExactReplaceAtSpec.pre6 enc Try.prog Try.f9 Rows.fnExactReplaceAtRow.domain false) (Rows.fnExactReplaceAtSpec.post enc Try.prog Try.f9 false true false false) := by
  refine returnsInHanded_of_change (C := Try.checked) own started (by kernel_rfl) Try.func9
    (ChangeSpec.witness6 (enc := enc) (C := Try.checked) false ⟨#[], #[.string ByteArray.empty, .string ByteArray.empty, .string ByteArray.empty], []⟩ 8 (by kernel_rfl) (by kernel_rfl) (by kernel_rfl) (by kernel_rfl)) ?_
  intro W base args ds gs before hval0 hW hcnd _
  have hval : ∀ (j : Nat) t v, Try.f9.params[j]? = some t → args[j]? = some v → Value.okWide Try.prog W .any base t v := hval0
  have hW' := hW
  obtain ⟨p, q, hA0, hV, rfl, hfz, hnd⟩ := hW
  have hA : DataW.TrodAll enc Try.prog W 0 (fun _ => true) true Try.f9.params.toList args.toList ds p := hA0
  rw [Try.params9] at hA hval
  obtain ⟨v0, vs0, d0, ds0, p0, q0, hargs, rfl, rfl, h0, r0⟩ := trodAll_cons hA
  obtain ⟨v1, vs1, d1, ds1, p1, q1, rfl, rfl, rfl, h1, r1⟩ := trodAll_cons r0
  obtain ⟨v2, vs2, d2, ds2, p2, q2, rfl, rfl, rfl, h2, r2⟩ := trodAll_cons r1
  obtain ⟨rfl, rfl, rfl⟩ := trodAll_nil r2
  obtain rfl : args = #[v0, v1, v2] := by cases args; simp_all
  obtain ⟨rfl, rfl⟩ := trodVars_none hV
  obtain ⟨a0, rfl, rfl, rfl, w0⟩ := open_string Try.underlying9 (hval 0 9 v0 rfl rfl) h0
  obtain ⟨a1, rfl, rfl, rfl, w1⟩ := open_string Try.underlying9 (hval 1 9 v1 rfl rfl) h1
  obtain ⟨a2, rfl, rfl, rfl, w2⟩ := open_string Try.underlying9 (hval 2 9 v2 rfl rfl) h2
  clear hA0 hval0
  simp only [List.append_nil] at hW'
  refine (walk a0 a1 a2 w0 w1 w2 W).mono fun e W' ⟨he, bel⟩ => ?_
  subst he
  exact ⟨_, rfl, _, _, _, [], [], [], hW', trodAll_mk1 (shut_bool Try.underlying4 _), (trodAll_cons_mk (shut_string Try.underlying9 w0) (trodAll_cons_mk (shut_string Try.underlying9 w1) (trodAll_cons_mk (shut_string Try.underlying9 w2) trodAll_mk0))), rfl, bel.frame _, fun h => by cases h⟩

theorem over : Rows.fnExactReplaceAtRow.holds Try.pinned (OpenSpec.ofChange Rows.fnExactReplaceAtSpec) :=
  OpenClaim.holds_of_wide 9 Try.f9 rfl rfl rfl rfl rfl rfl rfl ⟨rfl, rfl, rfl, rfl, rfl⟩ rfl rfl rfl rfl rfl (by kernel_rfl) Try.func9 (by kernel_rfl)
    (of_decide_eq_true (by kernel_rfl)) (by unfold Func.isWrapper; first | (rw [if_pos (by decide +kernel)]; kernel_rfl) | (rw [if_neg (by decide +kernel)]; exact ⟨rfl, rfl⟩))
    (fun os started H enc _ => lifted os started H enc)
end LawReplaceAt

theorem fnExactReplaceAt_holds : Rows.FnExactReplaceAtSaid := LawReplaceAt.over
#print axioms fnExactReplaceAt_holds
end Go.Proofs.Ytpahhlcfbmmocaa
