/- Texts of the proof, put together: ImplD, ImplE. No conditions. -/
import Derived.Test.YtmfmagfgcdaeeaaGreatHad
import Derived.Test.YtmfmagfgcdaeeaaGreatHaf

/- The reader: the first sign with one part, whichever. -/
namespace Go.Proofs.YtmfmagfgcdaeeaaGreat.T1
open Go.RowKit
set_option maxRecDepth 100000

theorem Eh_rep {s : ByteArray} {a : Nat} (h : tk s a 42 = true) : E nmL (s.data.toList.drop a) = (E nmL (s.data.toList.drop (a + 1))).map fun x => (Hd.rep.put x.1, x.2) := by
  rw [(tk_drop 42 rfl h).1, E_rep nmL_nm]; rfl
theorem Eh_tau {s : ByteArray} {a : Nat} (h : tk s a 126 = true) (h1 : tk s (a + 1) 46 = true) : E nmL (s.data.toList.drop a) = (E nmL (s.data.toList.drop (a + 2))).map fun x => (Hd.tau.put x.1, x.2) := by
  rw [(tk_drop 126 rfl h).1, (tk_drop 46 rfl h1).1, E_tau nmL_nm]; rfl
theorem Eh_tau_no {s : ByteArray} {a : Nat} (h : tk s a 126 = true) (h1 : tk s (a + 1) 46 = false) : E nmL (s.data.toList.drop a) = none := by
  rw [(tk_drop 126 rfl h).1]; exact E_tau_no nmL_nm (tk_not 46 rfl h1)
theorem Eh_own {s : ByteArray} {a : Nat} (h : tk s a 35 = true) (h1 : nmT s (a + 1) = true) (h2 : tk s (a + 2) 46 = true) : E nmL (s.data.toList.drop a) = (E nmL (s.data.toList.drop (a + 3))).map fun x => ((Hd.own (nmV s (a + 1))).put x.1, x.2) := by
  rw [(tk_drop 35 rfl h).1, (nm_drop h1).1, (tk_drop 46 rfl h2).1, E_own nmL_nm (nm_drop h1).2.2]; rfl
theorem Eh_own_no {s : ByteArray} {a : Nat} (h : tk s a 35 = true) (hno : nmT s (a + 1) = true → tk s (a + 2) 46 = true → False) : E nmL (s.data.toList.drop a) = none := by
  rw [(tk_drop 35 rfl h).1]
  refine E_own_no nmL_nm fun x l' e => ?_
  obtain ⟨b1, e1, e⟩ := drop_cons_lt e
  obtain ⟨b2, e2, e⟩ := drop_cons_lt e
  cases hx : nmL x with
  | false => rfl
  | true => exact (hno (by rw [nmT_lt b1, e1]; exact hx) (by rw [tk_lt b2, e2]; rfl)).elim
theorem Eh_mat {s : ByteArray} {a : Nat} (h : tk s a 91 = true) (h1 : nmT s (a + 1) = true) (h2 : tk s (a + 2) 61 = true) (h3 : nmT s (a + 3) = true) (h4 : tk s (a + 4) 93 = true) :
    E nmL (s.data.toList.drop a) = (E nmL (s.data.toList.drop (a + 5))).map fun x => ((Hd.mat (nmV s (a + 1)) (nmV s (a + 3))).put x.1, x.2) := by
  rw [(tk_drop 91 rfl h).1, (nm_drop h1).1, (tk_drop 61 rfl h2).1, (nm_drop h3).1, (tk_drop 93 rfl h4).1, E_mat nmL_nm (nm_drop h1).2.2 (nm_drop h3).2.2]; rfl
theorem Eh_mat_no {s : ByteArray} {a : Nat} (h : tk s a 91 = true) (hno : nmT s (a + 1) = true → tk s (a + 2) 61 = true → nmT s (a + 3) = true → tk s (a + 4) 93 = true → False) : E nmL (s.data.toList.drop a) = none := by
  rw [(tk_drop 91 rfl h).1]
  refine E_mat_no nmL_nm fun x y l' e hx => ?_
  obtain ⟨b1, e1, e⟩ := drop_cons_lt e
  obtain ⟨b2, e2, e⟩ := drop_cons_lt e
  obtain ⟨b3, e3, e⟩ := drop_cons_lt e
  obtain ⟨b4, e4, e⟩ := drop_cons_lt e
  cases hy : nmL y with
  | false => rfl
  | true => exact (hno (by rw [nmT_lt b1, e1]; exact hx) (by rw [tk_lt b2, e2]; rfl) (by rw [nmT_lt b3, e3]; exact hy) (by rw [tk_lt b4, e4]; rfl)).elim

set_option maxHeartbeats 2000000 in
theorem head_tau (b : Nat) (s : ByteArray) (a : Nat) (w : World) (hs : s.size ≤ 300) (ha : a ≤ s.size) (r0 : RdAt w b s a) (h126 : tk s a 126 = true) :
    Calls Tryz.prog 151 #[.pointer (some ⟨b, 0, none⟩)] w (HdPost b s a w) := by
  have a1 := (tk_drop 126 rfl h126).2
  cases m1 : tk s (a + 1) 46 with
  | false =>
    have HE : Hid _ := Lib.hid (Eh_tau_no h126 m1)
    go_enter Tryz.func151, Tryz.ntmps151
    go_wp2_with fail
    refine (take_any b s (a) 126 _ hs (by omega) r0).mono ?_
    rintro e w1 ⟨rfl, r1, o1⟩
    rw [tkN_yes h126] at r1
    go_wp2_with fail
    refine (take_any b s (a + 1) 46 _ hs (by omega) r1).mono ?_
    rintro e w2 ⟨rfl, r2, o2⟩

    go_wp2_with fail
    go_ret2
    exact HdPost.no _ rfl ((o1).trans o2) HE.out
  | true =>
    have a2 := (tk_drop 46 rfl m1).2
    have HE : Hid _ := Lib.hid (Eh_tau h126 m1)
    go_enter Tryz.func151, Tryz.ntmps151
    go_wp2_with fail
    refine (take_any b s (a) 126 _ hs (by omega) r0).mono ?_
    rintro e w1 ⟨rfl, r1, o1⟩
    rw [tkN_yes h126] at r1
    go_wp2_with fail
    refine (take_any b s (a + 1) 46 _ hs (by omega) r1).mono ?_
    rintro e w2 ⟨rfl, r2, o2⟩
    rw [tkN_yes m1] at r2
    go_wp2_with fail
    go_ret2
    exact HdPost.yes Hd.tau (a + 2) rfl r2 ((o1).trans o2) (by omega) (by omega) HE.out

set_option maxHeartbeats 2000000 in
theorem head_rep (b : Nat) (s : ByteArray) (a : Nat) (w : World) (hs : s.size ≤ 300) (ha : a ≤ s.size) (r0 : RdAt w b s a) (h126 : tk s a 126 = false) (h42 : tk s a 42 = true) :
    Calls Tryz.prog 151 #[.pointer (some ⟨b, 0, none⟩)] w (HdPost b s a w) := by
  have a1 := (tk_drop 42 rfl h42).2
  have HE : Hid _ := Lib.hid (Eh_rep h42)
  go_enter Tryz.func151, Tryz.ntmps151
  go_wp2_with fail
  refine (take_any b s (a) 126 _ hs (by omega) r0).mono ?_
  rintro e w1 ⟨rfl, r1, o1⟩
  rw [tkN_no h126] at r1
  go_wp2_with fail
  refine (take_any b s (a) 42 _ hs (by omega) r1).mono ?_
  rintro e w2 ⟨rfl, r2, o2⟩
  rw [tkN_yes h42] at r2
  go_wp2_with fail
  go_ret2
  exact HdPost.yes Hd.rep (a + 1) rfl r2 ((o1).trans o2) (by omega) (by omega) HE.out

set_option maxHeartbeats 2000000 in
theorem head_own (b : Nat) (s : ByteArray) (a : Nat) (w : World) (hs : s.size ≤ 300) (ha : a ≤ s.size) (r0 : RdAt w b s a) (h126 : tk s a 126 = false) (h42 : tk s a 42 = false) (h35 : tk s a 35 = true) :
    Calls Tryz.prog 151 #[.pointer (some ⟨b, 0, none⟩)] w (HdPost b s a w) := by
  have a1 := (tk_drop 35 rfl h35).2
  cases n1 : nmT s (a + 1) with
  | false =>
    have HE : Hid (E nmL (s.data.toList.drop a) = none) := Eh_own_no h35 (fun q1 q2 => by simp_all)
    go_enter Tryz.func151, Tryz.ntmps151
    go_wp2_with fail
    refine (take_any b s (a) 126 _ hs (by omega) r0).mono ?_
    rintro e w1 ⟨rfl, r1, o1⟩
    rw [tkN_no h126] at r1
    go_wp2_with fail
    refine (take_any b s (a) 42 _ hs (by omega) r1).mono ?_
    rintro e w2 ⟨rfl, r2, o2⟩
    rw [tkN_no h42] at r2
    go_wp2_with fail
    refine (take_any b s (a) 35 _ hs (by omega) r2).mono ?_
    rintro e w3 ⟨rfl, r3, o3⟩
    rw [tkN_yes h35] at r3
    go_wp2_with fail
    refine (name_any b s (a + 1) _ hs (by omega) r3).mono ?_
    rintro e w4 ⟨rfl, r4, o4⟩

    go_wp2_with fail
    go_ret2
    exact HdPost.no _ rfl ((((o1).trans o2).trans o3).trans o4) HE.out
  | true =>
    have a2 := (nm_drop n1).2.1
    cases m1 : tk s (a + 2) 46 with
    | false =>
      have HE : Hid (E nmL (s.data.toList.drop a) = none) := Eh_own_no h35 (fun q1 q2 => by simp_all)
      go_enter Tryz.func151, Tryz.ntmps151
      go_wp2_with fail
      refine (take_any b s (a) 126 _ hs (by omega) r0).mono ?_
      rintro e w1 ⟨rfl, r1, o1⟩
      rw [tkN_no h126] at r1
      go_wp2_with fail
      refine (take_any b s (a) 42 _ hs (by omega) r1).mono ?_
      rintro e w2 ⟨rfl, r2, o2⟩
      rw [tkN_no h42] at r2
      go_wp2_with fail
      refine (take_any b s (a) 35 _ hs (by omega) r2).mono ?_
      rintro e w3 ⟨rfl, r3, o3⟩
      rw [tkN_yes h35] at r3
      go_wp2_with fail
      refine (name_any b s (a + 1) _ hs (by omega) r3).mono ?_
      rintro e w4 ⟨rfl, r4, o4⟩
      rw [nmN_yes n1] at r4
      go_wp2_with fail
      refine (take_any b s (a + 2) 46 _ hs (by omega) r4).mono ?_
      rintro e w5 ⟨rfl, r5, o5⟩

      go_wp2_with fail
      go_ret2
      exact HdPost.no _ rfl (((((o1).trans o2).trans o3).trans o4).trans o5) HE.out
    | true =>
      have a3 := (tk_drop 46 rfl m1).2
      have HE : Hid _ := Lib.hid (Eh_own h35 n1 m1)
      go_enter Tryz.func151, Tryz.ntmps151
      go_wp2_with fail
      refine (take_any b s (a) 126 _ hs (by omega) r0).mono ?_
      rintro e w1 ⟨rfl, r1, o1⟩
      rw [tkN_no h126] at r1
      go_wp2_with fail
      refine (take_any b s (a) 42 _ hs (by omega) r1).mono ?_
      rintro e w2 ⟨rfl, r2, o2⟩
      rw [tkN_no h42] at r2
      go_wp2_with fail
      refine (take_any b s (a) 35 _ hs (by omega) r2).mono ?_
      rintro e w3 ⟨rfl, r3, o3⟩
      rw [tkN_yes h35] at r3
      go_wp2_with fail
      refine (name_any b s (a + 1) _ hs (by omega) r3).mono ?_
      rintro e w4 ⟨rfl, r4, o4⟩
      rw [nmN_yes n1] at r4
      go_wp2_with fail
      refine (take_any b s (a + 2) 46 _ hs (by omega) r4).mono ?_
      rintro e w5 ⟨rfl, r5, o5⟩
      rw [tkN_yes m1] at r5
      go_wp2_with fail
      go_ret2
      exact HdPost.yes (Hd.own (nmV s (a + 1))) (a + 3) rfl r5 (((((o1).trans o2).trans o3).trans o4).trans o5) (by omega) (by omega) HE.out

set_option maxHeartbeats 2000000 in
theorem head_mat (b : Nat) (s : ByteArray) (a : Nat) (w : World) (hs : s.size ≤ 300) (ha : a ≤ s.size) (r0 : RdAt w b s a) (h126 : tk s a 126 = false) (h42 : tk s a 42 = false) (h35 : tk s a 35 = false) (h91 : tk s a 91 = true) :
    Calls Tryz.prog 151 #[.pointer (some ⟨b, 0, none⟩)] w (HdPost b s a w) := by
  have a1 := (tk_drop 91 rfl h91).2
  have q1 := nmN_le (s := s) (a := a + 1) (by omega)
  have q2 := tkN_le (s := s) 61 q1.2
  have q3 := nmN_le (s := s) q2.2
  cases n1 : nmT s (a + 1) with
  | false =>
    have HE : Hid (E nmL (s.data.toList.drop a) = none) := Eh_mat_no h91 (fun q1 q2 q3 q4 => by simp_all)
    go_enter Tryz.func151, Tryz.ntmps151
    go_wp2_with fail
    refine (take_any b s (a) 126 _ hs (by omega) r0).mono ?_
    rintro e w1 ⟨rfl, r1, o1⟩
    rw [tkN_no h126] at r1
    go_wp2_with fail
    refine (take_any b s (a) 42 _ hs (by omega) r1).mono ?_
    rintro e w2 ⟨rfl, r2, o2⟩
    rw [tkN_no h42] at r2
    go_wp2_with fail
    refine (take_any b s (a) 35 _ hs (by omega) r2).mono ?_
    rintro e w3 ⟨rfl, r3, o3⟩
    rw [tkN_no h35] at r3
    go_wp2_with fail
    refine (take_any b s (a) 91 _ hs (by omega) r3).mono ?_
    rintro e w4 ⟨rfl, r4, o4⟩
    rw [tkN_yes h91] at r4
    go_wp2_with fail
    refine (name_any b s (a + 1) _ hs (by omega) r4).mono ?_
    rintro e w5 ⟨rfl, r5, o5⟩

    go_wp2_with fail
    refine (take_any b s (nmN s (a + 1)) 61 _ hs (by exact q1.2) r5).mono ?_
    rintro e w6 ⟨rfl, r6, o6⟩

    go_wp2_with fail
    refine (name_any b s (tkN s (nmN s (a + 1)) 61) _ hs (by exact q2.2) r6).mono ?_
    rintro e w7 ⟨rfl, r7, o7⟩

    go_wp2_with fail
    go_ret2
    exact HdPost.no _ rfl (((((((o1).trans o2).trans o3).trans o4).trans o5).trans o6).trans o7) HE.out
  | true =>
    have a2 := (nm_drop n1).2.1
    cases m1 : tk s (a + 2) 61 with
    | false =>
      have HE : Hid (E nmL (s.data.toList.drop a) = none) := Eh_mat_no h91 (fun q1 q2 q3 q4 => by simp_all)
      go_enter Tryz.func151, Tryz.ntmps151
      go_wp2_with fail
      refine (take_any b s (a) 126 _ hs (by omega) r0).mono ?_
      rintro e w1 ⟨rfl, r1, o1⟩
      rw [tkN_no h126] at r1
      go_wp2_with fail
      refine (take_any b s (a) 42 _ hs (by omega) r1).mono ?_
      rintro e w2 ⟨rfl, r2, o2⟩
      rw [tkN_no h42] at r2
      go_wp2_with fail
      refine (take_any b s (a) 35 _ hs (by omega) r2).mono ?_
      rintro e w3 ⟨rfl, r3, o3⟩
      rw [tkN_no h35] at r3
      go_wp2_with fail
      refine (take_any b s (a) 91 _ hs (by omega) r3).mono ?_
      rintro e w4 ⟨rfl, r4, o4⟩
      rw [tkN_yes h91] at r4
      go_wp2_with fail
      refine (name_any b s (a + 1) _ hs (by omega) r4).mono ?_
      rintro e w5 ⟨rfl, r5, o5⟩
      rw [nmN_yes n1] at r5
      go_wp2_with fail
      refine (take_any b s (a + 2) 61 _ hs (by omega) r5).mono ?_
      rintro e w6 ⟨rfl, r6, o6⟩
      rw [tkN_no m1] at r6
      go_wp2_with fail
      refine (name_any b s (a + 2) _ hs (by omega) r6).mono ?_
      rintro e w7 ⟨rfl, r7, o7⟩

      go_wp2_with fail
      go_ret2
      exact HdPost.no _ rfl (((((((o1).trans o2).trans o3).trans o4).trans o5).trans o6).trans o7) HE.out
    | true =>
      have a3 := (tk_drop 61 rfl m1).2
      cases n2 : nmT s (a + 3) with
      | false =>
        have HE : Hid (E nmL (s.data.toList.drop a) = none) := Eh_mat_no h91 (fun q1 q2 q3 q4 => by simp_all)
        go_enter Tryz.func151, Tryz.ntmps151
        go_wp2_with fail
        refine (take_any b s (a) 126 _ hs (by omega) r0).mono ?_
        rintro e w1 ⟨rfl, r1, o1⟩
        rw [tkN_no h126] at r1
        go_wp2_with fail
        refine (take_any b s (a) 42 _ hs (by omega) r1).mono ?_
        rintro e w2 ⟨rfl, r2, o2⟩
        rw [tkN_no h42] at r2
        go_wp2_with fail
        refine (take_any b s (a) 35 _ hs (by omega) r2).mono ?_
        rintro e w3 ⟨rfl, r3, o3⟩
        rw [tkN_no h35] at r3
        go_wp2_with fail
        refine (take_any b s (a) 91 _ hs (by omega) r3).mono ?_
        rintro e w4 ⟨rfl, r4, o4⟩
        rw [tkN_yes h91] at r4
        go_wp2_with fail
        refine (name_any b s (a + 1) _ hs (by omega) r4).mono ?_
        rintro e w5 ⟨rfl, r5, o5⟩
        rw [nmN_yes n1] at r5
        go_wp2_with fail
        refine (take_any b s (a + 2) 61 _ hs (by omega) r5).mono ?_
        rintro e w6 ⟨rfl, r6, o6⟩
        rw [tkN_yes m1] at r6
        go_wp2_with fail
        refine (name_any b s (a + 3) _ hs (by omega) r6).mono ?_
        rintro e w7 ⟨rfl, r7, o7⟩

        go_wp2_with fail
        go_ret2
        exact HdPost.no _ rfl (((((((o1).trans o2).trans o3).trans o4).trans o5).trans o6).trans o7) HE.out
      | true =>
        have a4 := (nm_drop n2).2.1
        cases m2 : tk s (a + 4) 93 with
        | false =>
          have HE : Hid (E nmL (s.data.toList.drop a) = none) := Eh_mat_no h91 (fun q1 q2 q3 q4 => by simp_all)
          go_enter Tryz.func151, Tryz.ntmps151
          go_wp2_with fail
          refine (take_any b s (a) 126 _ hs (by omega) r0).mono ?_
          rintro e w1 ⟨rfl, r1, o1⟩
          rw [tkN_no h126] at r1
          go_wp2_with fail
          refine (take_any b s (a) 42 _ hs (by omega) r1).mono ?_
          rintro e w2 ⟨rfl, r2, o2⟩
          rw [tkN_no h42] at r2
          go_wp2_with fail
          refine (take_any b s (a) 35 _ hs (by omega) r2).mono ?_
          rintro e w3 ⟨rfl, r3, o3⟩
          rw [tkN_no h35] at r3
          go_wp2_with fail
          refine (take_any b s (a) 91 _ hs (by omega) r3).mono ?_
          rintro e w4 ⟨rfl, r4, o4⟩
          rw [tkN_yes h91] at r4
          go_wp2_with fail
          refine (name_any b s (a + 1) _ hs (by omega) r4).mono ?_
          rintro e w5 ⟨rfl, r5, o5⟩
          rw [nmN_yes n1] at r5
          go_wp2_with fail
          refine (take_any b s (a + 2) 61 _ hs (by omega) r5).mono ?_
          rintro e w6 ⟨rfl, r6, o6⟩
          rw [tkN_yes m1] at r6
          go_wp2_with fail
          refine (name_any b s (a + 3) _ hs (by omega) r6).mono ?_
          rintro e w7 ⟨rfl, r7, o7⟩
          rw [nmN_yes n2] at r7
          go_wp2_with fail
          refine (take_any b s (a + 4) 93 _ hs (by omega) r7).mono ?_
          rintro e w8 ⟨rfl, r8, o8⟩

          go_wp2_with fail
          go_ret2
          exact HdPost.no _ rfl ((((((((o1).trans o2).trans o3).trans o4).trans o5).trans o6).trans o7).trans o8) HE.out
        | true =>
          have a5 := (tk_drop 93 rfl m2).2
          have HE : Hid _ := Lib.hid (Eh_mat h91 n1 m1 n2 m2)
          go_enter Tryz.func151, Tryz.ntmps151
          go_wp2_with fail
          refine (take_any b s (a) 126 _ hs (by omega) r0).mono ?_
          rintro e w1 ⟨rfl, r1, o1⟩
          rw [tkN_no h126] at r1
          go_wp2_with fail
          refine (take_any b s (a) 42 _ hs (by omega) r1).mono ?_
          rintro e w2 ⟨rfl, r2, o2⟩
          rw [tkN_no h42] at r2
          go_wp2_with fail
          refine (take_any b s (a) 35 _ hs (by omega) r2).mono ?_
          rintro e w3 ⟨rfl, r3, o3⟩
          rw [tkN_no h35] at r3
          go_wp2_with fail
          refine (take_any b s (a) 91 _ hs (by omega) r3).mono ?_
          rintro e w4 ⟨rfl, r4, o4⟩
          rw [tkN_yes h91] at r4
          go_wp2_with fail
          refine (name_any b s (a + 1) _ hs (by omega) r4).mono ?_
          rintro e w5 ⟨rfl, r5, o5⟩
          rw [nmN_yes n1] at r5
          go_wp2_with fail
          refine (take_any b s (a + 2) 61 _ hs (by omega) r5).mono ?_
          rintro e w6 ⟨rfl, r6, o6⟩
          rw [tkN_yes m1] at r6
          go_wp2_with fail
          refine (name_any b s (a + 3) _ hs (by omega) r6).mono ?_
          rintro e w7 ⟨rfl, r7, o7⟩
          rw [nmN_yes n2] at r7
          go_wp2_with fail
          refine (take_any b s (a + 4) 93 _ hs (by omega) r7).mono ?_
          rintro e w8 ⟨rfl, r8, o8⟩
          rw [tkN_yes m2] at r8
          go_wp2_with fail
          go_ret2
          exact HdPost.yes (Hd.mat (nmV s (a + 1)) (nmV s (a + 3))) (a + 5) rfl r8 ((((((((o1).trans o2).trans o3).trans o4).trans o5).trans o6).trans o7).trans o8) (by omega) (by omega) HE.out

set_option maxHeartbeats 2000000 in
theorem head_any (b : Nat) (s : ByteArray) (a : Nat) (w : World) (hs : s.size ≤ 300) (ha : a ≤ s.size) (r0 : RdAt w b s a) (h48 : tk s a 48 = false) (h40 : tk s a 40 = false) :
    Calls Tryz.prog 151 #[.pointer (some ⟨b, 0, none⟩)] w (HdPost b s a w) := by
  cases h126 : tk s a 126 with
  | true => exact head_tau b s a w hs ha r0 h126
  | false =>
    cases h42 : tk s a 42 with
    | true => exact head_rep b s a w hs ha r0 h126 h42
    | false =>
      cases h35 : tk s a 35 with
      | true => exact head_own b s a w hs ha r0 h126 h42 h35
      | false =>
        cases h91 : tk s a 91 with
        | true => exact head_mat b s a w hs ha r0 h126 h42 h35 h91
        | false =>
          go_enter Tryz.func151, Tryz.ntmps151
          go_wp2_with fail
          refine (take_any b s (a) 126 _ hs (by omega) r0).mono ?_
          rintro e w1 ⟨rfl, r1, o1⟩
          rw [tkN_no h126] at r1
          go_wp2_with fail
          refine (take_any b s (a) 42 _ hs (by omega) r1).mono ?_
          rintro e w2 ⟨rfl, r2, o2⟩
          rw [tkN_no h42] at r2
          go_wp2_with fail
          refine (take_any b s (a) 35 _ hs (by omega) r2).mono ?_
          rintro e w3 ⟨rfl, r3, o3⟩
          rw [tkN_no h35] at r3
          go_wp2_with fail
          refine (take_any b s (a) 91 _ hs (by omega) r3).mono ?_
          rintro e w4 ⟨rfl, r4, o4⟩
          rw [tkN_no h91] at r4
          go_wp2_with fail
          refine (transfer_any b s a _ hs ha r4 h48 h42 h126 h35 h91 h40).mono ?_
          rintro e w5 (⟨h, a', rfl, r5, o5, l1, l2, e5⟩ | ⟨v, rfl, o5, e5⟩)
          · have HE := Lib.hid e5
            clear e5
            go_wp2_with fail
            go_ret2
            exact HdPost.yes h a' rfl r5 (((((o1).trans o2).trans o3).trans o4).trans o5) l1 l2 HE.out
          · have HE := Lib.hid e5
            clear e5
            go_wp2_with fail
            go_ret2
            exact HdPost.no v rfl (((((o1).trans o2).trans o3).trans o4).trans o5) HE.out

end Go.Proofs.YtmfmagfgcdaeeaaGreat.T1

/- The reader: a process from a place on. -/
namespace Go.Proofs.YtmfmagfgcdaeeaaGreat.T1
open Go.RowKit
set_option maxRecDepth 100000

/-- What the reader of a process leaves: 'l' is what stands from the place on. -/
def PrPost (b : Nat) (s : ByteArray) (a : Nat) (l : List UInt8) (w : World) (e : Ending) (w' : World) : Prop :=
  (∃ t m, e = .returned (.tuple #[.iface (tyOf t) (pay t), .bool true]) ∧ RdAt w' b s m ∧ Only b w w' ∧ a < m ∧ m ≤ s.size ∧ E nmL l = some (t, s.data.toList.drop m)) ∨
  (∃ v, e = .returned (.tuple #[v, .bool false]) ∧ Only b w w' ∧ E nmL l = none)
theorem PrPost.yes {b : Nat} {s : ByteArray} {a : Nat} {l : List UInt8} {w : World} {e : Ending} {w' : World} (t : Tm) (m : Nat) (h1 : e = .returned (.tuple #[.iface (tyOf t) (pay t), .bool true])) (h2 : RdAt w' b s m) (h3 : Only b w w') (h4 : a < m) (h5 : m ≤ s.size)
    (h6 : E nmL l = some (t, s.data.toList.drop m)) : PrPost b s a l w e w' := .inl ⟨t, m, h1, h2, h3, h4, h5, h6⟩
theorem PrPost.no {b : Nat} {s : ByteArray} {a : Nat} {l : List UInt8} {w : World} {e : Ending} {w' : World} (v : Value) (h1 : e = .returned (.tuple #[v, .bool false])) (h3 : Only b w w')
    (h6 : E nmL l = none) : PrPost b s a l w e w' := .inr ⟨v, h1, h3, h6⟩

/-- A process read from the place a on, whenever at least that place is reached. -/
def ProcAt (b : Nat) (s : ByteArray) (a : Nat) : Prop := ∀ (a' : Nat) (w : World), a ≤ a' → a' ≤ s.size → RdAt w b s a' →
  Calls Tryz.prog 111 #[.pointer (some ⟨b, 0, none⟩)] w (PrPost b s a' (s.data.toList.drop a') w)

theorem cell_new1 (w : World) (x : Value) (T : TypeId) : (w.alloc (.cells #[x] T)).cell? ⟨w.heap.size, 0, none⟩ = some x := by rw [World.cell?_alloc_new]; rfl
theorem cell_new2a (w : World) (x y : Value) (T : TypeId) : (w.alloc (.cells #[x, y] T)).cell? ⟨w.heap.size, 0, none⟩ = some x := by rw [World.cell?_alloc_new]; rfl
theorem cell_new2b (w : World) (x y : Value) (T : TypeId) : (w.alloc (.cells #[x, y] T)).cell? ⟨w.heap.size, 1, none⟩ = some y := by rw [World.cell?_alloc_new]; rfl
set_option maxHeartbeats 2000000 in
theorem pair_any (b : Nat) (s : ByteArray) (a : Nat) (w : World) (hs : s.size ≤ 300) (ha : a ≤ s.size) (r0 : RdAt w b s a) (ih0 : ProcAt b s a) :
    Calls Tryz.prog 150 #[.pointer (some ⟨b, 0, none⟩)] w (PrPost b s a (40 :: s.data.toList.drop a) w) := by
  have ih := Lib.hid ih0
  clear ih0
  go_enter Tryz.func150, Tryz.ntmps150
  go_wp2_with fail
  refine (ih.out a _ (Nat.le_refl _) ha r0).mono ?_
  rintro e w1 (⟨t, m, rfl, r1, o1, lm1, lm2, e1⟩ | ⟨v, rfl, o1, e1⟩)
  · have E1 := Lib.hid e1
    clear e1
    cases h38 : tk s m 38 with
    | true =>
      have a1 := (tk_drop 38 rfl h38).2
      have E1' : Hid (E nmL (s.data.toList.drop a) = some (t, 38 :: s.data.toList.drop (m + 1))) := by have := E1.out; rw [(tk_drop 38 rfl h38).1] at this; exact this
      go_wp2_with fail
      refine (take_any b s (m) 38 _ hs (by omega) r1).mono ?_
      rintro e w2 ⟨rfl, r2, o2⟩
      rw [tkN_yes h38] at r2
      go_wp2_with fail
      refine (ih.out (m + 1) _ (by omega) (by omega) r2).mono ?_
      rintro e w3 (⟨q, n, rfl, r3, o3, ln1, ln2, e2⟩ | ⟨v, rfl, o3, e2⟩)
      · have E2 := Lib.hid e2
        clear e2
        cases h41 : tk s n 41 with
        | true =>
          have a2 := (tk_drop 41 rfl h41).2
          have E2' : Hid (E nmL (s.data.toList.drop (m + 1)) = some (q, 41 :: s.data.toList.drop (n + 1))) := by have := E2.out; rw [(tk_drop 41 rfl h41).1] at this; exact this
          have HE : Hid (E nmL (40 :: s.data.toList.drop a) = some (.par t q, s.data.toList.drop (n + 1))) := E_par nmL_nm E1'.out E2'.out
          go_wp2_with fail
          refine (take_any b s (n) 41 _ hs (by omega) r3).mono ?_
          rintro e w4 ⟨rfl, r4, o4⟩
          rw [tkN_yes h41] at r4
          go_wp2_with fail
          refine (wp_beside _ _ _ _ _ _ _ _ _ (.inl rfl) (.inl rfl) (Nat.le_refl _) (cell_new2a _ _ _ _) (cell_new2b _ _ _ _)).mono ?_
          rintro e w5 ⟨rfl, b5⟩
          go_wp2_with fail
          go_ret2
          exact PrPost.yes (.par t q) (n + 1) rfl ((r4.alloc _).below b5) ((((((o1).trans o2).trans o3).trans o4).alloc _).below b5) (by omega) (by omega) HE.out
        | false =>
          have HE : Hid (E nmL (40 :: s.data.toList.drop a) = none) := E_pair_no4 nmL_nm E1'.out E2.out (tk_not 41 rfl h41)
          go_wp2_with fail
          refine (take_any b s (n) 41 _ hs (by omega) r3).mono ?_
          rintro e w4 ⟨rfl, r4, o4⟩

          go_wp2_with fail
          go_ret2
          exact PrPost.no _ rfl ((((o1).trans o2).trans o3).trans o4) HE.out
      · have HE : Hid (E nmL (40 :: s.data.toList.drop a) = none) := E_pair_no3 nmL_nm E1'.out e2
        clear e2
        go_wp2_with fail
        go_ret2
        exact PrPost.no _ rfl (((o1).trans o2).trans o3) HE.out
    | false =>
      go_wp2_with fail
      refine (take_any b s (m) 38 _ hs (by omega) r1).mono ?_
      rintro e w2 ⟨rfl, r2, o2⟩
      rw [tkN_no h38] at r2
      cases h43 : tk s m 43 with
      | true =>
        have a1 := (tk_drop 43 rfl h43).2
        have E1' : Hid (E nmL (s.data.toList.drop a) = some (t, 43 :: s.data.toList.drop (m + 1))) := by have := E1.out; rw [(tk_drop 43 rfl h43).1] at this; exact this
        go_wp2_with fail
        refine (take_any b s (m) 43 _ hs (by omega) r2).mono ?_
        rintro e w3 ⟨rfl, r3, o3⟩
        rw [tkN_yes h43] at r3
        go_wp2_with fail
        refine (ih.out (m + 1) _ (by omega) (by omega) r3).mono ?_
        rintro e w4 (⟨q, n, rfl, r4, o4, ln1, ln2, e2⟩ | ⟨v, rfl, o4, e2⟩)
        · have E2 := Lib.hid e2
          clear e2
          cases h41 : tk s n 41 with
          | true =>
            have a2 := (tk_drop 41 rfl h41).2
            have E2' : Hid (E nmL (s.data.toList.drop (m + 1)) = some (q, 41 :: s.data.toList.drop (n + 1))) := by have := E2.out; rw [(tk_drop 41 rfl h41).1] at this; exact this
            have HE : Hid (E nmL (40 :: s.data.toList.drop a) = some (.sum t q, s.data.toList.drop (n + 1))) := E_sum nmL_nm E1'.out E2'.out
            go_wp2_with fail
            refine (take_any b s (n) 41 _ hs (by omega) r4).mono ?_
            rintro e w5 ⟨rfl, r5, o5⟩
            rw [tkN_yes h41] at r5
            go_wp2_with fail
            refine (wp_choice _ _ _ _ _ _ _ _ _ (.inl rfl) (.inl rfl) (Nat.le_refl _) (cell_new2a _ _ _ _) (cell_new2b _ _ _ _)).mono ?_
            rintro e w6 ⟨rfl, b6⟩
            go_wp2_with fail
            go_ret2
            exact PrPost.yes (.sum t q) (n + 1) rfl ((r5.alloc _).below b6) (((((((o1).trans o2).trans o3).trans o4).trans o5).alloc _).below b6) (by omega) (by omega) HE.out
          | false =>
            have HE : Hid (E nmL (40 :: s.data.toList.drop a) = none) := E_pair_no4 nmL_nm E1'.out E2.out (tk_not 41 rfl h41)
            go_wp2_with fail
            refine (take_any b s (n) 41 _ hs (by omega) r4).mono ?_
            rintro e w5 ⟨rfl, r5, o5⟩

            go_wp2_with fail
            go_ret2
            exact PrPost.no _ rfl (((((o1).trans o2).trans o3).trans o4).trans o5) HE.out
        · have HE : Hid (E nmL (40 :: s.data.toList.drop a) = none) := E_pair_no3 nmL_nm E1'.out e2
          clear e2
          go_wp2_with fail
          go_ret2
          exact PrPost.no _ rfl ((((o1).trans o2).trans o3).trans o4) HE.out
      | false =>
        have HE : Hid (E nmL (40 :: s.data.toList.drop a) = none) := E_pair_no2 nmL_nm E1.out (fun r' => ⟨tk_not 43 rfl h43 r', tk_not 38 rfl h38 r'⟩)
        go_wp2_with fail
        refine (take_any b s (m) 43 _ hs (by omega) r2).mono ?_
        rintro e w3 ⟨rfl, r3, o3⟩

        go_wp2_with fail
        go_ret2
        exact PrPost.no _ rfl (((o1).trans o2).trans o3) HE.out
  · have HE : Hid (E nmL (40 :: s.data.toList.drop a) = none) := E_pair_no1 nmL_nm e1
    clear e1
    go_wp2_with fail
    go_ret2
    exact PrPost.no _ rfl o1 HE.out

set_option maxHeartbeats 2000000 in
theorem process_step (b : Nat) (s : ByteArray) (a : Nat) (w : World) (hs : s.size ≤ 300) (ha : a ≤ s.size) (r0 : RdAt w b s a) (ih0 : ProcAt b s (a + 1)) :
    Calls Tryz.prog 111 #[.pointer (some ⟨b, 0, none⟩)] w (PrPost b s a (s.data.toList.drop a) w) := by
  have ih := Lib.hid ih0
  clear ih0
  cases h48 : tk s a 48 with
  | true =>
    have a1 := (tk_drop 48 rfl h48).2
    have HE : Hid (E nmL (s.data.toList.drop a) = some (.nil, s.data.toList.drop (a + 1))) := by rw [(tk_drop 48 rfl h48).1]; exact E_zero nmL_nm _
    go_enter Tryz.func111, Tryz.ntmps111
    go_wp2_with fail
    refine (take_any b s (a) 48 _ hs (by omega) r0).mono ?_
    rintro e w1 ⟨rfl, r1, o1⟩
    rw [tkN_yes h48] at r1
    go_wp2_with fail
    go_ret2
    exact PrPost.yes .nil (a + 1) rfl r1 o1 (by omega) (by omega) HE.out
  | false =>
    cases h40 : tk s a 40 with
    | true =>
      have a1 := (tk_drop 40 rfl h40).2
      have HD : Hid (s.data.toList.drop a = 40 :: s.data.toList.drop (a + 1)) := (tk_drop 40 rfl h40).1
      go_enter Tryz.func111, Tryz.ntmps111
      go_wp2_with fail
      refine (take_any b s (a) 48 _ hs (by omega) r0).mono ?_
      rintro e w1 ⟨rfl, r1, o1⟩
      rw [tkN_no h48] at r1
      go_wp2_with fail
      refine (take_any b s (a) 40 _ hs (by omega) r1).mono ?_
      rintro e w2 ⟨rfl, r2, o2⟩
      rw [tkN_yes h40] at r2
      go_wp2_with fail
      refine (pair_any b s (a + 1) _ hs (by omega) r2 ih.out).mono ?_
      rintro e w3 (⟨t, m, rfl, r3, o3, l1, l2, e1⟩ | ⟨v, rfl, o3, e1⟩)
      · have HE := Lib.hid e1
        clear e1
        go_wp2_with fail
        go_ret2
        exact PrPost.yes t m rfl r3 ((o1.trans o2).trans o3) (by omega) (by omega) (by rw [HD.out]; exact HE.out)
      · have HE := Lib.hid e1
        clear e1
        go_wp2_with fail
        go_ret2
        exact PrPost.no v rfl ((o1.trans o2).trans o3) (by rw [HD.out]; exact HE.out)
    | false =>
      go_enter Tryz.func111, Tryz.ntmps111
      go_wp2_with fail
      refine (take_any b s (a) 48 _ hs (by omega) r0).mono ?_
      rintro e w1 ⟨rfl, r1, o1⟩
      rw [tkN_no h48] at r1
      go_wp2_with fail
      refine (take_any b s (a) 40 _ hs (by omega) r1).mono ?_
      rintro e w2 ⟨rfl, r2, o2⟩
      rw [tkN_no h40] at r2
      go_wp2_with fail
      refine (head_any b s a _ hs ha r2 h48 h40).mono ?_
      rintro e w3 (⟨h, a', rfl, r3, o3, l1, l2, e1⟩ | ⟨v, rfl, o3, e1⟩)
      · have E1 := Lib.hid e1
        clear e1
        go_wp2_with fail
        refine (ih.out a' _ (by omega) (by omega) r3).mono ?_
        rintro e w4 (⟨t, m, rfl, r4, o4, k1, k2, e2⟩ | ⟨v, rfl, o4, e2⟩)
        · have HE : Hid (E nmL (s.data.toList.drop a) = some (h.put t, s.data.toList.drop m)) := by have := E1.out; rw [e2] at this; exact this
          clear e2
          go_wp2_with fail
          refine (withParts_hd h t _ _ _ (Nat.le_refl _) (cell_new1 _ _ _)).mono ?_
          rintro e w5 ⟨rfl, b5⟩
          go_wp2_with fail
          go_ret2
          exact PrPost.yes (h.put t) m rfl ((r4.alloc _).below b5) (((((o1.trans o2).trans o3).trans o4).alloc _).below b5) (by omega) (by omega) HE.out
        · have HE : Hid (E nmL (s.data.toList.drop a) = none) := by have := E1.out; rw [e2] at this; exact this
          clear e2
          go_wp2_with fail
          go_ret2
          exact PrPost.no _ rfl (((o1.trans o2).trans o3).trans o4) HE.out
      · have HE := Lib.hid e1
        clear e1
        go_wp2_with fail
        go_ret2
        exact PrPost.no _ rfl ((o1.trans o2).trans o3) HE.out

theorem process_all (b : Nat) (s : ByteArray) (hs : s.size ≤ 300) (k : Nat) : ∀ a, s.size + 1 - a ≤ k → ProcAt b s a := by
  induction k with
  | zero => exact fun a hk a' w h1 h2 _ => by omega
  | succ k ih => exact fun a hk a' w h1 h2 hr => process_step b s a' w hs h2 hr (ih (a' + 1) (by omega))
theorem process_any (b : Nat) (s : ByteArray) (hs : s.size ≤ 300) (a : Nat) (w : World) (ha : a ≤ s.size) (hr : RdAt w b s a) :
    Calls Tryz.prog 111 #[.pointer (some ⟨b, 0, none⟩)] w (PrPost b s a (s.data.toList.drop a) w) :=
  process_all b s hs (s.size + 1) a (by omega) a w (Nat.le_refl _) ha hr

end Go.Proofs.YtmfmagfgcdaeeaaGreat.T1
