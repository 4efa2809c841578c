/- The reader of formulas: in the program. MADE BY gen_Fg.py. -/
import Derived.Test.YtllnplabiehcgaaFx
import Derived.Test.YtllnplabiehcgaaImplC
namespace Go.Proofs.Ytllnplabiehcgaa.T1
open Go.RowKit
set_option maxRecDepth 100000
set_option linter.unusedVariables false
set_option linter.unusedSimpArgs false

/-- A formula in the program: its type, its fields. -/
def ftyOf : Fm → TypeId
  | .tt => 42
  | .neg _ => 44
  | .and _ _ => 46
  | .dia _ _ => 54
def fpay : Fm → Value
  | .tt => .agg #[]
  | .neg f => .agg #[.iface (ftyOf f) (fpay f)]
  | .and f g => .agg #[.iface (ftyOf f) (fpay f), .iface (ftyOf g) (fpay g)]
  | .dia l f => .agg #[actV l, .iface (ftyOf f) (fpay f)]

/-- What the reader of a formula leaves: 'l' is what stands from the place on. -/
def FPost (b : Nat) (s : ByteArray) (a : Nat) (l : List UInt8) (w : World) (e : Ending) (w' : World) : Prop :=
  (∃ f m, e = .returned (.tuple #[.iface (ftyOf f) (fpay f), .bool true]) ∧ RdAt w' b s m ∧ Only b w w' ∧ a < m ∧ m ≤ s.size ∧ F l = some (f, s.data.toList.drop m)) ∨
  (∃ v m, IsIf2 v ∧ e = .returned (.tuple #[v, .bool false]) ∧ RdAt w' b s m ∧ Only b w w' ∧ a ≤ m ∧ m ≤ s.size ∧ F l = none)
theorem FPost.yes {b : Nat} {s : ByteArray} {a : Nat} {l : List UInt8} {w : World} {e : Ending} {w' : World} (f : Fm) (m : Nat) (h1 : e = .returned (.tuple #[.iface (ftyOf f) (fpay f), .bool true])) (h2 : RdAt w' b s m) (h3 : Only b w w') (h4 : a < m) (h5 : m ≤ s.size)
    (h6 : F l = some (f, s.data.toList.drop m)) : FPost b s a l w e w' := .inl ⟨f, m, h1, h2, h3, h4, h5, h6⟩
theorem FPost.no {b : Nat} {s : ByteArray} {a : Nat} {l : List UInt8} {w : World} {e : Ending} {w' : World} (v : Value) (m : Nat) (h0 : IsIf2 v) (h1 : e = .returned (.tuple #[v, .bool false])) (h2 : RdAt w' b s m) (h3 : Only b w w') (h4 : a ≤ m) (h5 : m ≤ s.size)
    (h6 : F l = none) : FPost b s a l w e w' := .inr ⟨v, m, h0, h1, h2, h3, h4, h5, h6⟩

/-- A formula read from the place a on, whenever at least that place is reached. -/
def FmAt (b : Nat) (s : ByteArray) (a : Nat) : Prop := ∀ (a' : Nat) (w : World), a ≤ a' → a' ≤ s.size → RdAt w b s a' →
  Calls Try.prog 13 #[.pointer (some ⟨b, 0, none⟩)] w (FPost b s a' (s.data.toList.drop a') w)
theorem iface_if (t : TypeId) (v : Value) : IsIf2 (.iface t v) := .inr ⟨t, v, rfl⟩

set_option maxHeartbeats 2000000 in
theorem fm_T (b : Nat) (s : ByteArray) (a : Nat) (w : World) (hs : s.size ≤ 700) (ha : a ≤ s.size) (r0 : RdAt w b s a) (ih0 : FmAt b s (a + 1)) (h84 : tk s a 84 = true) : Calls Try.prog 13 #[.pointer (some ⟨b, 0, none⟩)] w (FPost b s a (s.data.toList.drop a) w) := by
  have ih := Lib.hid ih0
  clear ih0
  have a1 := (tk_drop 84 rfl h84).2
  have HE : Hid (F (s.data.toList.drop a) = some (.tt, s.data.toList.drop (a + 1))) := by rw [(tk_drop 84 rfl h84).1]; exact F_T _
  go_enter Try.func13, Try.ntmps13
  go_wp2_with fail
  refine (take_any7 b s a 84 _ hs (by omega) r0).mono ?_
  rintro e w1 ⟨rfl, r1, o1⟩
  rw [tkN_yes h84] at r1
  go_wp2_with fail

  go_ret2
  exact FPost.yes .tt (a + 1) rfl r1 (o1) (by omega) (by omega) HE.out
set_option maxHeartbeats 2000000 in
theorem fm_neg (b : Nat) (s : ByteArray) (a : Nat) (w : World) (hs : s.size ≤ 700) (ha : a ≤ s.size) (r0 : RdAt w b s a) (ih0 : FmAt b s (a + 1)) (h84 : tk s a 84 = false)  (h33 : tk s a 33 = true) : Calls Try.prog 13 #[.pointer (some ⟨b, 0, none⟩)] w (FPost b s a (s.data.toList.drop a) w) := by
  have ih := Lib.hid ih0
  clear ih0
  have a1 := (tk_drop 33 rfl h33).2
  have HD : Hid (F (s.data.toList.drop a) = (F (s.data.toList.drop (a + 1))).map fun x => (.neg x.1, x.2)) := by rw [(tk_drop 33 rfl h33).1]; exact F_neg _
  go_enter Try.func13, Try.ntmps13
  go_wp2_with fail
  refine (take_any7 b s a 84 _ hs (by omega) r0).mono ?_
  rintro e w1 ⟨rfl, r1, o1⟩
  rw [tkN_no h84] at r1
  go_wp2_with fail
  refine (take_any7 b s a 33 _ hs (by omega) r1).mono ?_
  rintro e w2 ⟨rfl, r2, o2⟩
  rw [tkN_yes h33] at r2
  go_wp2_with fail

  refine (ih.out (a + 1) _ (by omega) (by omega) r2).mono ?_
  rintro e w3 (⟨f, m, rfl, r3, o3, l1, l2, e1⟩ | ⟨v, m, hv, rfl, r3, o3, l1, l2, e1⟩)
  · have HE : Hid (F (s.data.toList.drop a) = some (.neg f, s.data.toList.drop m)) := by have := HD.out; rw [e1] at this; exact this
    clear e1
    go_wp2_with fail
    go_ret2
    exact FPost.yes (.neg f) m rfl r3 (((o1).trans o2).trans o3) (by omega) (by omega) HE.out
  · have HE : Hid (F (s.data.toList.drop a) = none) := by have := HD.out; rw [e1] at this; exact this
    clear e1
    rcases hv with rfl | ⟨tv, vv, rfl⟩
    all_goals
      go_wp2_with fail
      go_ret2
      exact FPost.no _ m (iface_if _ _) rfl r3 (((o1).trans o2).trans o3) (by omega) (by omega) HE.out
set_option maxHeartbeats 4000000 in
theorem fm_and (b : Nat) (s : ByteArray) (a : Nat) (w : World) (hs : s.size ≤ 700) (ha : a ≤ s.size) (r0 : RdAt w b s a) (ih0 : FmAt b s (a + 1)) (h84 : tk s a 84 = false)  (h33 : tk s a 33 = false)  (h40 : tk s a 40 = true) : Calls Try.prog 13 #[.pointer (some ⟨b, 0, none⟩)] w (FPost b s a (s.data.toList.drop a) w) := by
  have ih := Lib.hid ih0
  clear ih0
  have a1 := (tk_drop 40 rfl h40).2
  have HD : Hid (s.data.toList.drop a = 40 :: s.data.toList.drop (a + 1)) := (tk_drop 40 rfl h40).1
  go_enter Try.func13, Try.ntmps13
  go_wp2_with fail
  refine (take_any7 b s a 84 _ hs (by omega) r0).mono ?_
  rintro e w1 ⟨rfl, r1, o1⟩
  rw [tkN_no h84] at r1
  go_wp2_with fail
  refine (take_any7 b s a 33 _ hs (by omega) r1).mono ?_
  rintro e w2 ⟨rfl, r2, o2⟩
  rw [tkN_no h33] at r2
  go_wp2_with fail
  refine (take_any7 b s a 40 _ hs (by omega) r2).mono ?_
  rintro e w3 ⟨rfl, r3, o3⟩
  rw [tkN_yes h40] at r3
  go_wp2_with fail

  refine (ih.out (a + 1) _ (by omega) (by omega) r3).mono ?_
  rintro e w4 (⟨f, m, rfl, r4, o4, l1, l2, e1⟩ | ⟨v, m, hv, rfl, r4, o4, l1, l2, e1⟩)
  · have E1 := Lib.hid e1
    clear e1
    cases h38 : tk s m 38 with
    | true =>
      have a2 := (tk_drop 38 rfl h38).2
      go_wp2_with fail
      refine (take_any7 b s m 38 _ hs (by omega) r4).mono ?_
      rintro e w5 ⟨rfl, r5, o5⟩
      rw [tkN_yes h38] at r5
      go_wp2_with fail
      refine (ih.out (m + 1) _ (by omega) (by omega) r5).mono ?_
      rintro e w6 (⟨g, n, rfl, r6, o6, k1, k2, e2⟩ | ⟨v2, n, hv2, rfl, r6, o6, k1, k2, e2⟩)
      · have E2 := Lib.hid e2
        clear e2
        cases h41 : tk s n 41 with
        | true =>
          have a4 := (tk_drop 41 rfl h41).2
          have HE : Hid (F (s.data.toList.drop a) = some (.and f g, s.data.toList.drop (n + 1))) := by
            have h1 := E1.out
            have h2 := E2.out
            rw [(tk_drop 38 rfl h38).1] at h1
            rw [(tk_drop 41 rfl h41).1] at h2
            rw [HD.out]; exact F_and h1 h2
          go_wp2_with fail
          refine (take_any7 b s n 41 _ hs (by omega) r6).mono ?_
          rintro e w7 ⟨rfl, r7, o7⟩
          rw [tkN_yes h41] at r7
          go_wp2_with fail
          go_ret2
          exact FPost.yes (.and f g) (n + 1) rfl r7 (((((((o1).trans o2).trans o3).trans o4).trans o5).trans o6).trans o7) (by omega) (by omega) HE.out
        | false =>
          have HE : Hid (F (s.data.toList.drop a) = none) := by
            have h1 := E1.out
            rw [(tk_drop 38 rfl h38).1] at h1
            rw [HD.out]; exact F_and_no4 h1 E2.out fun r3 e3 => tk_not 41 rfl h41 r3 e3
          go_wp2_with fail
          refine (take_any7 b s n 41 _ hs (by omega) r6).mono ?_
          rintro e w7 ⟨rfl, r7, o7⟩
          rw [tkN_no h41] at r7
          go_wp2_with fail
          go_ret2
          exact FPost.no _ n (iface_if _ _) rfl r7 (((((((o1).trans o2).trans o3).trans o4).trans o5).trans o6).trans o7) (by omega) (by omega) HE.out
      · have HE : Hid (F (s.data.toList.drop a) = none) := by
          have h1 := E1.out
          rw [(tk_drop 38 rfl h38).1] at h1
          rw [HD.out]; exact F_and_no3 h1 e2
        clear e2
        rcases hv2 with rfl | ⟨tv2, vv2, rfl⟩
        all_goals
          go_wp2_with fail
          go_ret2
          exact FPost.no _ n (iface_if _ _) rfl r6 ((((((o1).trans o2).trans o3).trans o4).trans o5).trans o6) (by omega) (by omega) HE.out
    | false =>
      have HE : Hid (F (s.data.toList.drop a) = none) := by rw [HD.out]; exact F_and_no2 E1.out fun r2 e2 => tk_not 38 rfl h38 r2 e2
      go_wp2_with fail
      refine (take_any7 b s m 38 _ hs (by omega) r4).mono ?_
      rintro e w5 ⟨rfl, r5, o5⟩
      rw [tkN_no h38] at r5
      go_wp2_with fail
      refine (ih.out m _ (by omega) (by omega) r5).mono ?_
      rintro e w6 (⟨g, n, rfl, r6, o6, k1, k2, e2⟩ | ⟨v2, n, hv2, rfl, r6, o6, k1, k2, e2⟩)
      · clear e2
        go_wp2_with fail
        go_ret2
        exact FPost.no _ n (iface_if _ _) rfl r6 ((((((o1).trans o2).trans o3).trans o4).trans o5).trans o6) (by omega) (by omega) HE.out
      · clear e2
        rcases hv2 with rfl | ⟨tv2, vv2, rfl⟩
        all_goals
          go_wp2_with fail
          go_ret2
          exact FPost.no _ n (iface_if _ _) rfl r6 ((((((o1).trans o2).trans o3).trans o4).trans o5).trans o6) (by omega) (by omega) HE.out
  · have HE : Hid (F (s.data.toList.drop a) = none) := by rw [HD.out]; exact F_and_no1 e1
    clear e1
    rcases hv with rfl | ⟨tv, vv, rfl⟩
    all_goals
      cases h38 : tk s m 38 with
      | true =>
        have a2 := (tk_drop 38 rfl h38).2
        go_wp2_with fail
        refine (take_any7 b s m 38 _ hs (by omega) r4).mono ?_
        rintro e w5 ⟨rfl, r5, o5⟩
        rw [tkN_yes h38] at r5
        go_wp2_with fail
        refine (ih.out (m + 1) _ (by omega) (by omega) r5).mono ?_
        rintro e w6 (⟨g, n, rfl, r6, o6, k1, k2, e2⟩ | ⟨v2, n, hv2, rfl, r6, o6, k1, k2, e2⟩)
        · clear e2
          go_wp2_with fail
          go_ret2
          exact FPost.no _ n (iface_if _ _) rfl r6 ((((((o1).trans o2).trans o3).trans o4).trans o5).trans o6) (by omega) (by omega) HE.out
        · clear e2
          rcases hv2 with rfl | ⟨tv2, vv2, rfl⟩
          all_goals
            go_wp2_with fail
            go_ret2
            exact FPost.no _ n (iface_if _ _) rfl r6 ((((((o1).trans o2).trans o3).trans o4).trans o5).trans o6) (by omega) (by omega) HE.out
      | false =>
        go_wp2_with fail
        refine (take_any7 b s m 38 _ hs (by omega) r4).mono ?_
        rintro e w5 ⟨rfl, r5, o5⟩
        rw [tkN_no h38] at r5
        go_wp2_with fail
        refine (ih.out m _ (by omega) (by omega) r5).mono ?_
        rintro e w6 (⟨g, n, rfl, r6, o6, k1, k2, e2⟩ | ⟨v2, n, hv2, rfl, r6, o6, k1, k2, e2⟩)
        · clear e2
          go_wp2_with fail
          go_ret2
          exact FPost.no _ n (iface_if _ _) rfl r6 ((((((o1).trans o2).trans o3).trans o4).trans o5).trans o6) (by omega) (by omega) HE.out
        · clear e2
          rcases hv2 with rfl | ⟨tv2, vv2, rfl⟩
          all_goals
            go_wp2_with fail
            go_ret2
            exact FPost.no _ n (iface_if _ _) rfl r6 ((((((o1).trans o2).trans o3).trans o4).trans o5).trans o6) (by omega) (by omega) HE.out
set_option maxHeartbeats 4000000 in
theorem fm_dia1 (b : Nat) (s : ByteArray) (a : Nat) (w : World) (hs : s.size ≤ 700) (ha : a ≤ s.size) (r0 : RdAt w b s a) (ih0 : FmAt b s (a + 1)) (h84 : tk s a 84 = false)  (h33 : tk s a 33 = false)  (h40 : tk s a 40 = false)  (h60 : tk s a 60 = true) (L R X : ByteArray) (b0 : Bool) (hX : X = s.extract (a + 1) s.size) (HC0 : ∀ w, Calls Try.prog 18 #[.string X, .string ⟨#[62]⟩] w fun e w' => e = .returned (.tuple #[.string L, .string R, .bool b0]) ∧ ∃ n, w' = w.drewN n) (m : Nat) (hm : m + R.size = s.size) (hm1 : a + 1 ≤ m) (T : TypeId) (V : Value) (HA0 : ∀ w, Calls Try.prog 19 #[.string L] w fun e w' => e = .returned (.tuple #[.iface T V, .bool true]) ∧ Below w.heap.size w w') (l : List UInt8) (hV : actV l = .iface T V) (hd : s.data.toList.drop a = 60 :: s.data.toList.drop (a + 1) → F (s.data.toList.drop a) = (F (s.data.toList.drop m)).map fun x => (.dia l x.1, x.2)) : Calls Try.prog 13 #[.pointer (some ⟨b, 0, none⟩)] w (FPost b s a (s.data.toList.drop a) w) := by
  have ih := Lib.hid ih0
  clear ih0
  have HV := Lib.hid hV
  have HD := Lib.hid (hd (tk_drop 60 rfl h60).1)
  clear hV hd
  have a1 := (tk_drop 60 rfl h60).2
  have HC := Lib.hid HC0
  have HA := Lib.hid HA0
  have hrs : R.size ≤ s.size := by omega
  have hsub : (s.size : Int) - (R.size : Int) = (m : Int) := by omega
  have HX := Lib.hid hX
  have HS := Lib.hid hsub
  have hm2 : m ≤ s.size := by omega
  clear HC0 HA0 hX hsub hm
  go_enter Try.func13, Try.ntmps13
  go_wp2_with fail
  refine (take_any7 b s a 84 _ hs (by omega) r0).mono ?_
  rintro e w1 ⟨rfl, r1, o1⟩
  rw [tkN_no h84] at r1
  go_wp2_with fail
  refine (take_any7 b s a 33 _ hs (by omega) r1).mono ?_
  rintro e w2 ⟨rfl, r2, o2⟩
  rw [tkN_no h33] at r2
  go_wp2_with fail
  refine (take_any7 b s a 40 _ hs (by omega) r2).mono ?_
  rintro e w3 ⟨rfl, r3, o3⟩
  rw [tkN_no h40] at r3
  go_wp2_with fail
  refine (take_any7 b s a 60 _ hs (by omega) r3).mono ?_
  rintro e w4 ⟨rfl, r4, o4⟩
  rw [tkN_yes h60] at r4
  go_wp2_with fail

  have c0 := r4.c0
  have c1 := r4.c1
  have f1 := r4.f1
  go_quiet ((go_at_call 18; rw [← HX.out]; exact Calls.quiet_of (HC.out _)))
  have rq := r4.drewN
  clear r4
  go_wp2_with fail
  rw [HS.out]
  have rs := (rq nq).set m
  have os : Only b w4 ((w4.drewN nq).setCell ⟨b, 1, none⟩ (.int .i64 (m : Int))) := ((Only.refl b w4).drewN nq).setCell _ _ _
  clear c0 c1 f1 rq
  refine (HA.out _).mono ?_
  rintro e w5 ⟨rfl, bA⟩
  have r5 := rs.below bA
  have o5 := os.below bA
  clear rs os bA
  go_wp2_with fail
  refine (ih.out m _ (by omega) (by omega) r5).mono ?_
  rintro e w6 (⟨f, n, rfl, r6, o6, l1, l2, e1⟩ | ⟨v, n, hv, rfl, r6, o6, l1, l2, e1⟩)
  · have HE : Hid (F (s.data.toList.drop a) = some (.dia l f, s.data.toList.drop n)) := by have := HD.out; rw [e1] at this; exact this
    clear e1
    go_wp2_with fail
    go_ret2
    exact FPost.yes (.dia l f) n (by rw [fpay, HV.out]; rfl) r6 ((((((o1).trans o2).trans o3).trans o4).trans o5).trans o6) (by omega) (by omega) HE.out
  · have HE : Hid (F (s.data.toList.drop a) = none) := by have := HD.out; rw [e1] at this; exact this
    clear e1
    rcases hv with rfl | ⟨tv, vv, rfl⟩
    all_goals
      go_wp2_with fail
      go_ret2
      exact FPost.no _ n (iface_if _ _) rfl r6 ((((((o1).trans o2).trans o3).trans o4).trans o5).trans o6) (by omega) (by omega) HE.out
set_option maxHeartbeats 4000000 in
theorem fm_dia0 (b : Nat) (s : ByteArray) (a : Nat) (w : World) (hs : s.size ≤ 700) (ha : a ≤ s.size) (r0 : RdAt w b s a) (ih0 : FmAt b s (a + 1)) (h84 : tk s a 84 = false)  (h33 : tk s a 33 = false)  (h40 : tk s a 40 = false)  (h60 : tk s a 60 = true) (L R X : ByteArray) (b0 : Bool) (hX : X = s.extract (a + 1) s.size) (HC0 : ∀ w, Calls Try.prog 18 #[.string X, .string ⟨#[62]⟩] w fun e w' => e = .returned (.tuple #[.string L, .string R, .bool b0]) ∧ ∃ n, w' = w.drewN n) (m : Nat) (hm : m + R.size = s.size) (hm1 : a + 1 ≤ m) (Z : Value) (b1 : Bool) (hZ : (b1 = false ∧ Z = .nilIface) ∨ ∃ T V, Z = .iface T V) (HA0 : ∀ w, Calls Try.prog 19 #[.string L] w fun e w' => e = .returned (.tuple #[Z, .bool b1]) ∧ Below w.heap.size w w') (hd : F (s.data.toList.drop a) = none) (he : b1 = true → F (s.data.toList.drop m) = none) : Calls Try.prog 13 #[.pointer (some ⟨b, 0, none⟩)] w (FPost b s a (s.data.toList.drop a) w) := by
  have ih := Lib.hid ih0
  clear ih0
  have HD := Lib.hid hd
  have HM := Lib.hid he
  clear hd he
  have a1 := (tk_drop 60 rfl h60).2
  have HC := Lib.hid HC0
  have HA := Lib.hid HA0
  have hrs : R.size ≤ s.size := by omega
  have hsub : (s.size : Int) - (R.size : Int) = (m : Int) := by omega
  have HX := Lib.hid hX
  have HS := Lib.hid hsub
  have hm2 : m ≤ s.size := by omega
  clear HC0 HA0 hX hsub hm
  go_enter Try.func13, Try.ntmps13
  go_wp2_with fail
  refine (take_any7 b s a 84 _ hs (by omega) r0).mono ?_
  rintro e w1 ⟨rfl, r1, o1⟩
  rw [tkN_no h84] at r1
  go_wp2_with fail
  refine (take_any7 b s a 33 _ hs (by omega) r1).mono ?_
  rintro e w2 ⟨rfl, r2, o2⟩
  rw [tkN_no h33] at r2
  go_wp2_with fail
  refine (take_any7 b s a 40 _ hs (by omega) r2).mono ?_
  rintro e w3 ⟨rfl, r3, o3⟩
  rw [tkN_no h40] at r3
  go_wp2_with fail
  refine (take_any7 b s a 60 _ hs (by omega) r3).mono ?_
  rintro e w4 ⟨rfl, r4, o4⟩
  rw [tkN_yes h60] at r4
  go_wp2_with fail

  have c0 := r4.c0
  have c1 := r4.c1
  have f1 := r4.f1
  go_quiet ((go_at_call 18; rw [← HX.out]; exact Calls.quiet_of (HC.out _)))
  have rq := r4.drewN
  clear r4
  go_wp2_with fail
  rw [HS.out]
  have rs := (rq nq).set m
  have os : Only b w4 ((w4.drewN nq).setCell ⟨b, 1, none⟩ (.int .i64 (m : Int))) := ((Only.refl b w4).drewN nq).setCell _ _ _
  clear c0 c1 f1 rq
  refine (HA.out _).mono ?_
  rintro e w5 ⟨rfl, bA⟩
  have r5 := rs.below bA
  have o5 := os.below bA
  clear rs os bA
  go_wp2_with fail
  refine (ih.out m _ (by omega) (by omega) r5).mono ?_
  rintro e w6 (⟨f, n, rfl, r6, o6, l1, l2, e1⟩ | ⟨v, n, hv, rfl, r6, o6, l1, l2, e1⟩)
  · cases b1 with
    | true => rw [HM.out rfl] at e1; cases e1
    | false =>
      clear e1
      rcases hZ with ⟨-, rfl⟩ | ⟨T, V, rfl⟩
      all_goals
        go_wp2_with fail
        go_ret2
        exact FPost.no _ n (iface_if _ _) rfl r6 ((((((o1).trans o2).trans o3).trans o4).trans o5).trans o6) (by omega) (by omega) HD.out
  · clear e1
    rcases hv with rfl | ⟨tv, vv, rfl⟩
    all_goals
      rcases hZ with ⟨rfl, rfl⟩ | ⟨T, V, rfl⟩
    all_goals
      first
      | (cases b1
         all_goals
           go_wp2_with fail
           go_ret2
           exact FPost.no _ n (iface_if _ _) rfl r6 ((((((o1).trans o2).trans o3).trans o4).trans o5).trans o6) (by omega) (by omega) HD.out)
      | (go_wp2_with fail
         go_ret2
         exact FPost.no _ n (iface_if _ _) rfl r6 ((((((o1).trans o2).trans o3).trans o4).trans o5).trans o6) (by omega) (by omega) HD.out)
theorem fm_dia (b : Nat) (s : ByteArray) (a : Nat) (w : World) (hs : s.size ≤ 700) (ha : a ≤ s.size) (r0 : RdAt w b s a) (ih0 : FmAt b s (a + 1)) (h84 : tk s a 84 = false)  (h33 : tk s a 33 = false)  (h40 : tk s a 40 = false)  (h60 : tk s a 60 = true) : Calls Try.prog 13 #[.pointer (some ⟨b, 0, none⟩)] w (FPost b s a (s.data.toList.drop a) w) := by
  have ih := Lib.hid ih0
  clear ih0
  have a1 := (tk_drop 60 rfl h60).2
  have HD := (tk_drop 60 rfl h60).1
  obtain ⟨X, hX⟩ : ∃ X, X = s.extract (a + 1) s.size := ⟨_, rfl⟩
  have hx : X.data.toList = s.data.toList.drop (a + 1) := by
    rw [hX, Lab.ext_d, List.take_of_length_le (by simp)]
  have hz : X.size = s.size - (a + 1) := by rw [hX]; simp
  rcases cut_any X (by omega) with ⟨hc, HC⟩ | ⟨n, hn, hc, HC⟩
  · rw [hx] at hc
    have hF : F (s.data.toList.drop a) = none := by rw [HD]; exact F_dia_no1 hc
    have hend : F (s.data.toList.drop s.size) = none := by rw [List.drop_of_length_le (by simp)]; exact F_nil
    refine fm_dia0 b s a w hs ha r0 ih.out h84 h33 h40 h60 X ByteArray.empty X false hX HC s.size (by simp) (by omega) _ _ ?_ (Lab.ra_any X (by omega)) hF (fun _ => hend)
    cases hl : labB X.data.toList with
    | false => exact .inl ⟨rfl, rfl⟩
    | true => obtain ⟨T, V, e⟩ := actV_if X.data.toList; exact .inr ⟨T, V, by rw [if_pos rfl, e]⟩
  · have hL : (X.extract 0 n).data.toList = (s.data.toList.drop (a + 1)).take n := by rw [Lab.ext_d, hx]; simp
    have hR : (X.extract (n + 1) X.size).size = s.size - (a + 2 + n) := by rw [ByteArray.size_extract]; omega
    have hc' : cutGt (s.data.toList.drop (a + 1)) = some ((X.extract 0 n).data.toList, s.data.toList.drop (a + 2 + n)) := by
      rw [hx] at hc; rw [hc, hL, List.drop_drop, show a + 1 + (n + 1) = a + 2 + n by omega]
    have hsz : (X.extract 0 n).size ≤ 9223372036854775807 := by rw [ByteArray.size_extract]; omega
    obtain ⟨L, hLe⟩ : ∃ L, L = X.extract 0 n := ⟨_, rfl⟩
    rw [← hLe] at hc' hsz HC
    have HA := Lab.ra_any L hsz
    cases hl : labB L.data.toList with
    | true =>
      obtain ⟨T, V, e⟩ := actV_if L.data.toList
      rw [hl, if_pos rfl, e] at HA
      exact fm_dia1 b s a w hs ha r0 ih.out h84 h33 h40 h60 L _ X true hX HC (a + 2 + n) (by rw [hR]; omega) (by omega) T V HA L.data.toList e fun hd => by rw [hd, F_dia hc' hl]
    | false =>
      rw [hl] at HA
      exact fm_dia0 b s a w hs ha r0 ih.out h84 h33 h40 h60 L _ X true hX HC (a + 2 + n) (by rw [hR]; omega) (by omega) .nilIface false (.inl ⟨rfl, rfl⟩) HA (by rw [HD]; exact F_dia_no2 hc' hl) (fun h => by cases h)
set_option maxHeartbeats 2000000 in
theorem fm_none (b : Nat) (s : ByteArray) (a : Nat) (w : World) (hs : s.size ≤ 700) (ha : a ≤ s.size) (r0 : RdAt w b s a) (ih0 : FmAt b s (a + 1)) (h84 : tk s a 84 = false)  (h33 : tk s a 33 = false)  (h40 : tk s a 40 = false)  (h60 : tk s a 60 = false) : Calls Try.prog 13 #[.pointer (some ⟨b, 0, none⟩)] w (FPost b s a (s.data.toList.drop a) w) := by
  have ih := Lib.hid ih0
  clear ih0
  have HE : Hid (F (s.data.toList.drop a) = none) := by
    show _ = _
    cases hd : s.data.toList.drop a with
    | nil => exact F_nil
    | cons c r =>
      refine F_other r ?_ ?_ ?_ ?_ <;> rintro rfl
      · exact tk_not 84 rfl h84 r hd
      · exact tk_not 33 rfl h33 r hd
      · exact tk_not 40 rfl h40 r hd
      · exact tk_not 60 rfl h60 r hd
  go_enter Try.func13, Try.ntmps13
  go_wp2_with fail
  refine (take_any7 b s a 84 _ hs (by omega) r0).mono ?_
  rintro e w1 ⟨rfl, r1, o1⟩
  rw [tkN_no h84] at r1
  go_wp2_with fail
  refine (take_any7 b s a 33 _ hs (by omega) r1).mono ?_
  rintro e w2 ⟨rfl, r2, o2⟩
  rw [tkN_no h33] at r2
  go_wp2_with fail
  refine (take_any7 b s a 40 _ hs (by omega) r2).mono ?_
  rintro e w3 ⟨rfl, r3, o3⟩
  rw [tkN_no h40] at r3
  go_wp2_with fail
  refine (take_any7 b s a 60 _ hs (by omega) r3).mono ?_
  rintro e w4 ⟨rfl, r4, o4⟩
  rw [tkN_no h60] at r4
  go_wp2_with fail

  go_ret2
  exact FPost.no _ a (.inl rfl) rfl r4 ((((o1).trans o2).trans o3).trans o4) (by omega) (by omega) HE.out
theorem fm_step (b : Nat) (s : ByteArray) (a : Nat) (w : World) (hs : s.size ≤ 700) (ha : a ≤ s.size) (r0 : RdAt w b s a) (ih0 : FmAt b s (a + 1)) : Calls Try.prog 13 #[.pointer (some ⟨b, 0, none⟩)] w (FPost b s a (s.data.toList.drop a) w) := by
  have ih := Lib.hid ih0
  clear ih0
  cases h84 : tk s a 84 with
  | true => exact fm_T b s a w hs ha r0 ih.out h84
  | false =>
    cases h33 : tk s a 33 with
    | true => exact fm_neg b s a w hs ha r0 ih.out h84 h33
    | false =>
      cases h40 : tk s a 40 with
      | true => exact fm_and b s a w hs ha r0 ih.out h84 h33 h40
      | false =>
        cases h60 : tk s a 60 with
        | true => exact fm_dia b s a w hs ha r0 ih.out h84 h33 h40 h60
        | false => exact fm_none b s a w hs ha r0 ih.out h84 h33 h40 h60
theorem fm_all (b : Nat) (s : ByteArray) (hs : s.size ≤ 700) (k : Nat) : ∀ a, s.size + 1 - a ≤ k → FmAt b s a := by
  induction k with
  | zero => exact fun a hk a' w h1 h2 _ => by omega
  | succ k ih => exact fun a hk a' w h1 h2 hr => fm_step b s a' w hs h2 hr (ih (a' + 1) (by omega))
theorem formula_any (b : Nat) (s : ByteArray) (hs : s.size ≤ 700) (a : Nat) (w : World) (ha : a ≤ s.size) (hr : RdAt w b s a) : Calls Try.prog 13 #[.pointer (some ⟨b, 0, none⟩)] w (FPost b s a (s.data.toList.drop a) w) :=
  fm_all b s hs (s.size + 1) a (by omega) a w (Nat.le_refl _) ha hr

end Go.Proofs.Ytllnplabiehcgaa.T1
