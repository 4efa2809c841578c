/- Texts of the proof, put together: ImplE. No conditions. -/
import Derived.Test.YtinkioodkgccjaaDoorHaj
import Derived.Test.YtinkioodkgccjaaDoorHap

/- The reader: a process from a place on. -/
namespace Go.Proofs.YtinkioodkgccjaaDoor.T1
open Go.RowKit
set_option maxRecDepth 100000

/-- What the reader of a process leaves: 'l' is what stands from the place on. -/
def PrPost (b : Nat) (s : ByteArray) (a : Nat) (l : List UInt8) (w : World) (e : Ending) (w' : World) : Prop :=
  (∃ t m, e = .returned (.tuple #[.iface (tyOf t) (pay t), .bool true]) ∧ RdAt w' b s m ∧ Only b w w' ∧ a < m ∧ m ≤ s.size ∧ E nmL l = some (t, s.data.toList.drop m)) ∨
  (∃ v, e = .returned (.tuple #[v, .bool false]) ∧ Only b w w' ∧ E nmL l = none)
theorem PrPost.yes {b : Nat} {s : ByteArray} {a : Nat} {l : List UInt8} {w : World} {e : Ending} {w' : World} (t : Tm) (m : Nat) (h1 : e = .returned (.tuple #[.iface (tyOf t) (pay t), .bool true])) (h2 : RdAt w' b s m) (h3 : Only b w w') (h4 : a < m) (h5 : m ≤ s.size)
    (h6 : E nmL l = some (t, s.data.toList.drop m)) : PrPost b s a l w e w' := .inl ⟨t, m, h1, h2, h3, h4, h5, h6⟩
theorem PrPost.no {b : Nat} {s : ByteArray} {a : Nat} {l : List UInt8} {w : World} {e : Ending} {w' : World} (v : Value) (h1 : e = .returned (.tuple #[v, .bool false])) (h3 : Only b w w')
    (h6 : E nmL l = none) : PrPost b s a l w e w' := .inr ⟨v, h1, h3, h6⟩

/-- A process read from the place a on, whenever at least that place is reached. -/
def ProcAt (b : Nat) (s : ByteArray) (a : Nat) : Prop := ∀ (a' : Nat) (w : World), a ≤ a' → a' ≤ s.size → RdAt w b s a' →
  Calls Tryd.prog 62 #[.pointer (some ⟨b, 0, none⟩)] w (PrPost b s a' (s.data.toList.drop a') w)

theorem cell_new1 (w : World) (x : Value) (T : TypeId) : (w.alloc (.cells #[x] T)).cell? ⟨w.heap.size, 0, none⟩ = some x := by rw [World.cell?_alloc_new]; rfl
theorem cell_new2a (w : World) (x y : Value) (T : TypeId) : (w.alloc (.cells #[x, y] T)).cell? ⟨w.heap.size, 0, none⟩ = some x := by rw [World.cell?_alloc_new]; rfl
theorem cell_new2b (w : World) (x y : Value) (T : TypeId) : (w.alloc (.cells #[x, y] T)).cell? ⟨w.heap.size, 1, none⟩ = some y := by rw [World.cell?_alloc_new]; rfl
set_option maxHeartbeats 2000000 in
theorem pair_any (b : Nat) (s : ByteArray) (a : Nat) (w : World) (hs : s.size ≤ 300) (ha : a ≤ s.size) (r0 : RdAt w b s a) (ih0 : ProcAt b s a) :
    Calls Tryd.prog 74 #[.pointer (some ⟨b, 0, none⟩)] w (PrPost b s a (40 :: s.data.toList.drop a) w) := by
  have ih := Lib.hid ih0
  clear ih0
  go_enter Tryd.func74, Tryd.ntmps74
  go_wp2_with fail
  refine (ih.out a _ (Nat.le_refl _) ha r0).mono ?_
  rintro e w1 (⟨t, m, rfl, r1, o1, lm1, lm2, e1⟩ | ⟨v, rfl, o1, e1⟩)
  · have E1 := Lib.hid e1
    clear e1
    cases h38 : tk s m 38 with
    | true =>
      have a1 := (tk_drop 38 rfl h38).2
      have E1' : Hid (E nmL (s.data.toList.drop a) = some (t, 38 :: s.data.toList.drop (m + 1))) := by have := E1.out; rw [(tk_drop 38 rfl h38).1] at this; exact this
      go_wp2_with fail
      refine (take_any b s (m) 38 _ hs (by omega) r1).mono ?_
      rintro e w2 ⟨rfl, r2, o2⟩
      rw [tkN_yes h38] at r2
      go_wp2_with fail
      refine (ih.out (m + 1) _ (by omega) (by omega) r2).mono ?_
      rintro e w3 (⟨q, n, rfl, r3, o3, ln1, ln2, e2⟩ | ⟨v, rfl, o3, e2⟩)
      · have E2 := Lib.hid e2
        clear e2
        cases h41 : tk s n 41 with
        | true =>
          have a2 := (tk_drop 41 rfl h41).2
          have E2' : Hid (E nmL (s.data.toList.drop (m + 1)) = some (q, 41 :: s.data.toList.drop (n + 1))) := by have := E2.out; rw [(tk_drop 41 rfl h41).1] at this; exact this
          have HE : Hid (E nmL (40 :: s.data.toList.drop a) = some (.par t q, s.data.toList.drop (n + 1))) := E_par nmL_nm E1'.out E2'.out
          go_wp2_with fail
          refine (take_any b s (n) 41 _ hs (by omega) r3).mono ?_
          rintro e w4 ⟨rfl, r4, o4⟩
          rw [tkN_yes h41] at r4
          go_wp2_with fail
          refine (wp_beside _ _ _ _ _ _ _ _ _ (.inl rfl) (.inl rfl) (Nat.le_refl _) (cell_new2a _ _ _ _) (cell_new2b _ _ _ _)).mono ?_
          rintro e w5 ⟨rfl, b5⟩
          go_wp2_with fail
          go_ret2
          exact PrPost.yes (.par t q) (n + 1) rfl ((r4.alloc _).below b5) ((((((o1).trans o2).trans o3).trans o4).alloc _).below b5) (by omega) (by omega) HE.out
        | false =>
          have HE : Hid (E nmL (40 :: s.data.toList.drop a) = none) := E_pair_no4 nmL_nm E1'.out E2.out (tk_not 41 rfl h41)
          go_wp2_with fail
          refine (take_any b s (n) 41 _ hs (by omega) r3).mono ?_
          rintro e w4 ⟨rfl, r4, o4⟩

          go_wp2_with fail
          go_ret2
          exact PrPost.no _ rfl ((((o1).trans o2).trans o3).trans o4) HE.out
      · have HE : Hid (E nmL (40 :: s.data.toList.drop a) = none) := E_pair_no3 nmL_nm E1'.out e2
        clear e2
        go_wp2_with fail
        go_ret2
        exact PrPost.no _ rfl (((o1).trans o2).trans o3) HE.out
    | false =>
      go_wp2_with fail
      refine (take_any b s (m) 38 _ hs (by omega) r1).mono ?_
      rintro e w2 ⟨rfl, r2, o2⟩
      rw [tkN_no h38] at r2
      cases h43 : tk s m 43 with
      | true =>
        have a1 := (tk_drop 43 rfl h43).2
        have E1' : Hid (E nmL (s.data.toList.drop a) = some (t, 43 :: s.data.toList.drop (m + 1))) := by have := E1.out; rw [(tk_drop 43 rfl h43).1] at this; exact this
        go_wp2_with fail
        refine (take_any b s (m) 43 _ hs (by omega) r2).mono ?_
        rintro e w3 ⟨rfl, r3, o3⟩
        rw [tkN_yes h43] at r3
        go_wp2_with fail
        refine (ih.out (m + 1) _ (by omega) (by omega) r3).mono ?_
        rintro e w4 (⟨q, n, rfl, r4, o4, ln1, ln2, e2⟩ | ⟨v, rfl, o4, e2⟩)
        · have E2 := Lib.hid e2
          clear e2
          cases h41 : tk s n 41 with
          | true =>
            have a2 := (tk_drop 41 rfl h41).2
            have E2' : Hid (E nmL (s.data.toList.drop (m + 1)) = some (q, 41 :: s.data.toList.drop (n + 1))) := by have := E2.out; rw [(tk_drop 41 rfl h41).1] at this; exact this
            have HE : Hid (E nmL (40 :: s.data.toList.drop a) = some (.sum t q, s.data.toList.drop (n + 1))) := E_sum nmL_nm E1'.out E2'.out
            go_wp2_with fail
            refine (take_any b s (n) 41 _ hs (by omega) r4).mono ?_
            rintro e w5 ⟨rfl, r5, o5⟩
            rw [tkN_yes h41] at r5
            go_wp2_with fail
            refine (wp_choice _ _ _ _ _ _ _ _ _ (.inl rfl) (.inl rfl) (Nat.le_refl _) (cell_new2a _ _ _ _) (cell_new2b _ _ _ _)).mono ?_
            rintro e w6 ⟨rfl, b6⟩
            go_wp2_with fail
            go_ret2
            exact PrPost.yes (.sum t q) (n + 1) rfl ((r5.alloc _).below b6) (((((((o1).trans o2).trans o3).trans o4).trans o5).alloc _).below b6) (by omega) (by omega) HE.out
          | false =>
            have HE : Hid (E nmL (40 :: s.data.toList.drop a) = none) := E_pair_no4 nmL_nm E1'.out E2.out (tk_not 41 rfl h41)
            go_wp2_with fail
            refine (take_any b s (n) 41 _ hs (by omega) r4).mono ?_
            rintro e w5 ⟨rfl, r5, o5⟩

            go_wp2_with fail
            go_ret2
            exact PrPost.no _ rfl (((((o1).trans o2).trans o3).trans o4).trans o5) HE.out
        · have HE : Hid (E nmL (40 :: s.data.toList.drop a) = none) := E_pair_no3 nmL_nm E1'.out e2
          clear e2
          go_wp2_with fail
          go_ret2
          exact PrPost.no _ rfl ((((o1).trans o2).trans o3).trans o4) HE.out
      | false =>
        have HE : Hid (E nmL (40 :: s.data.toList.drop a) = none) := E_pair_no2 nmL_nm E1.out (fun r' => ⟨tk_not 43 rfl h43 r', tk_not 38 rfl h38 r'⟩)
        go_wp2_with fail
        refine (take_any b s (m) 43 _ hs (by omega) r2).mono ?_
        rintro e w3 ⟨rfl, r3, o3⟩

        go_wp2_with fail
        go_ret2
        exact PrPost.no _ rfl (((o1).trans o2).trans o3) HE.out
  · have HE : Hid (E nmL (40 :: s.data.toList.drop a) = none) := E_pair_no1 nmL_nm e1
    clear e1
    go_wp2_with fail
    go_ret2
    exact PrPost.no _ rfl o1 HE.out

set_option maxHeartbeats 2000000 in
theorem process_step (b : Nat) (s : ByteArray) (a : Nat) (w : World) (hs : s.size ≤ 300) (ha : a ≤ s.size) (r0 : RdAt w b s a) (ih0 : ProcAt b s (a + 1)) :
    Calls Tryd.prog 62 #[.pointer (some ⟨b, 0, none⟩)] w (PrPost b s a (s.data.toList.drop a) w) := by
  have ih := Lib.hid ih0
  clear ih0
  cases h48 : tk s a 48 with
  | true =>
    have a1 := (tk_drop 48 rfl h48).2
    have HE : Hid (E nmL (s.data.toList.drop a) = some (.nil, s.data.toList.drop (a + 1))) := by rw [(tk_drop 48 rfl h48).1]; exact E_zero nmL_nm _
    go_enter Tryd.func62, Tryd.ntmps62
    go_wp2_with fail
    refine (take_any b s (a) 48 _ hs (by omega) r0).mono ?_
    rintro e w1 ⟨rfl, r1, o1⟩
    rw [tkN_yes h48] at r1
    go_wp2_with fail
    go_ret2
    exact PrPost.yes .nil (a + 1) rfl r1 o1 (by omega) (by omega) HE.out
  | false =>
    cases h40 : tk s a 40 with
    | true =>
      have a1 := (tk_drop 40 rfl h40).2
      have HD : Hid (s.data.toList.drop a = 40 :: s.data.toList.drop (a + 1)) := (tk_drop 40 rfl h40).1
      go_enter Tryd.func62, Tryd.ntmps62
      go_wp2_with fail
      refine (take_any b s (a) 48 _ hs (by omega) r0).mono ?_
      rintro e w1 ⟨rfl, r1, o1⟩
      rw [tkN_no h48] at r1
      go_wp2_with fail
      refine (take_any b s (a) 40 _ hs (by omega) r1).mono ?_
      rintro e w2 ⟨rfl, r2, o2⟩
      rw [tkN_yes h40] at r2
      go_wp2_with fail
      refine (pair_any b s (a + 1) _ hs (by omega) r2 ih.out).mono ?_
      rintro e w3 (⟨t, m, rfl, r3, o3, l1, l2, e1⟩ | ⟨v, rfl, o3, e1⟩)
      · have HE := Lib.hid e1
        clear e1
        go_wp2_with fail
        go_ret2
        exact PrPost.yes t m rfl r3 ((o1.trans o2).trans o3) (by omega) (by omega) (by rw [HD.out]; exact HE.out)
      · have HE := Lib.hid e1
        clear e1
        go_wp2_with fail
        go_ret2
        exact PrPost.no v rfl ((o1.trans o2).trans o3) (by rw [HD.out]; exact HE.out)
    | false =>
      go_enter Tryd.func62, Tryd.ntmps62
      go_wp2_with fail
      refine (take_any b s (a) 48 _ hs (by omega) r0).mono ?_
      rintro e w1 ⟨rfl, r1, o1⟩
      rw [tkN_no h48] at r1
      go_wp2_with fail
      refine (take_any b s (a) 40 _ hs (by omega) r1).mono ?_
      rintro e w2 ⟨rfl, r2, o2⟩
      rw [tkN_no h40] at r2
      go_wp2_with fail
      refine (head_any b s a _ hs ha r2 h48 h40).mono ?_
      rintro e w3 (⟨h, a', rfl, r3, o3, l1, l2, e1⟩ | ⟨v, rfl, o3, e1⟩)
      · have E1 := Lib.hid e1
        clear e1
        go_wp2_with fail
        refine (ih.out a' _ (by omega) (by omega) r3).mono ?_
        rintro e w4 (⟨t, m, rfl, r4, o4, k1, k2, e2⟩ | ⟨v, rfl, o4, e2⟩)
        · have HE : Hid (E nmL (s.data.toList.drop a) = some (h.put t, s.data.toList.drop m)) := by have := E1.out; rw [e2] at this; exact this
          clear e2
          go_wp2_with fail
          refine (withParts_hd h t _ _ _ (Nat.le_refl _) (cell_new1 _ _ _)).mono ?_
          rintro e w5 ⟨rfl, b5⟩
          go_wp2_with fail
          go_ret2
          exact PrPost.yes (h.put t) m rfl ((r4.alloc _).below b5) (((((o1.trans o2).trans o3).trans o4).alloc _).below b5) (by omega) (by omega) HE.out
        · have HE : Hid (E nmL (s.data.toList.drop a) = none) := by have := E1.out; rw [e2] at this; exact this
          clear e2
          go_wp2_with fail
          go_ret2
          exact PrPost.no _ rfl (((o1.trans o2).trans o3).trans o4) HE.out
      · have HE := Lib.hid e1
        clear e1
        go_wp2_with fail
        go_ret2
        exact PrPost.no _ rfl ((o1.trans o2).trans o3) HE.out

theorem process_all (b : Nat) (s : ByteArray) (hs : s.size ≤ 300) (k : Nat) : ∀ a, s.size + 1 - a ≤ k → ProcAt b s a := by
  induction k with
  | zero => exact fun a hk a' w h1 h2 _ => by omega
  | succ k ih => exact fun a hk a' w h1 h2 hr => process_step b s a' w hs h2 hr (ih (a' + 1) (by omega))
theorem process_any (b : Nat) (s : ByteArray) (hs : s.size ≤ 300) (a : Nat) (w : World) (ha : a ≤ s.size) (hr : RdAt w b s a) :
    Calls Tryd.prog 62 #[.pointer (some ⟨b, 0, none⟩)] w (PrPost b s a (s.data.toList.drop a) w) :=
  process_all b s hs (s.size + 1) a (by omega) a w (Nat.le_refl _) ha hr

end Go.Proofs.YtinkioodkgccjaaDoor.T1
