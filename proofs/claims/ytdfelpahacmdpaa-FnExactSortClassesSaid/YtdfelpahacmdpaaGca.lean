/- Texts of the proof, put together: Qd. No conditions. -/
import Derived.Test.YtdfelpahacmdpaaGbo
import Derived.Test.YtdfelpahacmdpaaGbz

/- What both sides answer: whether a process can be sorted, whether two names have one sort, levels. MADE BY gen_Qd.py. -/
namespace Go.Proofs.Ytdfelpahacmdpaa.T1
open Go.RowKit
set_option maxRecDepth 100000
set_option linter.unusedVariables false
set_option linter.unusedSimpArgs false

theorem go6 {u v w : World} (h : Below u.heap.size u v) (k : Below v.heap.size v w) : Below u.heap.size u w := below_trans h k h.size
theorem same_dec (t : Tm) {a b : UInt8} (ha : a ∈ t.free) (hb : b ∈ t.free) {r : Nat → Nat} (hr : ∀ i j, r i = r j ↔ Eqv (S6 (ask6 t (idx6 t.free 0) t.free.length).1) (C6 (ask6 t (idx6 t.free 0) t.free.length).1) i j) (hl : Lets t.free) : ((r (idx6 t.free 0 a) : Int) == (r (idx6 t.free 0 b) : Int)) = decB (same6 t a b) := by
  rw [Bool.eq_iff_iff, decB_iff, same6_idx (nd6 t) hl ha hb, ← hr, beq_iff_eq]
  exact ⟨fun h => by omega, fun h => by omega⟩
set_option maxHeartbeats 1000000 in
theorem can_s0 (s : ByteArray) (HG : (∀ w, Calls Try.prog 27 #[.string s] w fun e w' => e = .returned (.bool false) ∧ Below w.heap.size w w')) (w : World) : Calls Try.prog 10 #[.string s] w fun e w' => e = .returned (.tuple #[.bool false, .bool false]) ∧ Below w.heap.size w w' := by
  have XHG := Lib.hid HG
  clear HG
  go_enter Try.func10, Try.ntmps10
  have bl : Below w.heap.size w w := Below.refl _ _
  go_wp2_with fail
  refine (XHG.out _).mono ?_
  rintro e w1 ⟨rfl, b1⟩
  replace bl := go6 bl b1
  clear b1
  go_wp2_with fail
  go_ret2
  exact ⟨rfl, bl⟩
set_option maxHeartbeats 1000000 in
theorem can_s1 (s : ByteArray) (t : Tm) (hl : Lets t.free) (h60 : t.size ≤ 60) (HG : (∀ w, Calls Try.prog 27 #[.string s] w fun e w' => e = .returned (.bool true) ∧ Below w.heap.size w w')) (HO : (∀ w, Calls Try.prog 29 #[.string s] w fun e w' => (∃ b, e = .returned (.pointer (some ⟨b, 0, none⟩)) ∧ w.heap.size ≤ b ∧ SpSo w' b t) ∧ Below w.heap.size w w')) (w : World) : Calls Try.prog 10 #[.string s] w fun e w' => e = .returned (.tuple #[.bool (decB (able6 t)), .bool true]) ∧ Below w.heap.size w w' := by
  have XHG := Lib.hid HG
  have XHO := Lib.hid HO
  have XC := Lib.hid (fun (w1 : World) (b : Nat) (h : SpSo w1 b t) => sb_can h hl h60)
  obtain ⟨q, hq⟩ : ∃ q, q = decB (able6 t) := ⟨_, rfl⟩
  rw [← hq] at XC ⊢
  clear hq hl h60
  clear HG HO
  go_enter Try.func10, Try.ntmps10
  have bl : Below w.heap.size w w := Below.refl _ _
  go_wp2_with fail
  refine (XHG.out _).mono ?_
  rintro e w1 ⟨rfl, b1⟩
  replace bl := go6 bl b1
  clear b1
  go_wp2_with fail
  refine (XHO.out _).mono ?_
  rintro e w1 ⟨⟨b, rfl, hb, hs⟩, b1⟩
  replace bl := go6 bl b1
  have HS := Lib.hid hs
  clear b1 hs
  go_wp2_with fail
  refine (XC.out _ _ HS.out).mono ?_
  rintro e w1 ⟨rfl, rfl⟩
  go_wp2_with fail
  go_ret2
  exact ⟨rfl, bl⟩
set_option maxHeartbeats 1000000 in
theorem can_i0 (s : ByteArray) (HO : (∀ w, Calls Try.prog 30 #[.string s] w fun e w' => e = .returned (.tuple #[.pointer none, .bool false]) ∧ Below w.heap.size w w')) (w : World) : Calls Try.prog 11 #[.string s] w fun e w' => e = .returned (.tuple #[.bool false, .bool false]) ∧ Below w.heap.size w w' := by
  have XHO := Lib.hid HO
  clear HO
  go_enter Try.func11, Try.ntmps11
  have bl : Below w.heap.size w w := Below.refl _ _
  go_wp2_with fail
  refine (XHO.out _).mono ?_
  rintro e w1 ⟨rfl, b1⟩
  replace bl := go6 bl b1
  clear b1
  go_wp2_with fail
  go_ret2
  exact ⟨rfl, bl⟩
set_option maxHeartbeats 1000000 in
theorem can_i1 (s : ByteArray) (t : Tm) (hl : Lets t.free) (h60 : t.size ≤ 60) (HO : (∀ w, Calls Try.prog 30 #[.string s] w fun e w' => (∃ b, e = .returned (.tuple #[.pointer (some ⟨b, 0, none⟩), .bool true]) ∧ w.heap.size ≤ b ∧ ImSo w' b t) ∧ Below w.heap.size w w')) (w : World) : Calls Try.prog 11 #[.string s] w fun e w' => e = .returned (.tuple #[.bool (decB (able6 t)), .bool true]) ∧ Below w.heap.size w w' := by
  have XHO := Lib.hid HO
  have XC := Lib.hid (fun (w1 : World) (b : Nat) (h : ImSo w1 b t) => ib_can h hl)
  obtain ⟨q, hq⟩ : ∃ q, q = decB (able6 t) := ⟨_, rfl⟩
  rw [← hq] at XC ⊢
  clear hq hl h60
  clear HO
  go_enter Try.func11, Try.ntmps11
  have bl : Below w.heap.size w w := Below.refl _ _
  go_wp2_with fail
  refine (XHO.out _).mono ?_
  rintro e w1 ⟨⟨b, rfl, hb, hs⟩, b1⟩
  replace bl := go6 bl b1
  have HS := Lib.hid hs
  clear b1 hs
  go_wp2_with fail
  refine (XC.out _ _ HS.out).mono ?_
  rintro e w1 ⟨rfl, b1⟩
  replace bl := go6 bl b1
  have HS := Lib.hid (HS.out.below b1)
  clear b1
  go_wp2_with fail
  go_ret2
  exact ⟨rfl, bl⟩
theorem bothCan (s  : ByteArray) (hm : s.size ≤ 9223372036854775807) : ∃ (p : Bool) (q : Bool), (∀ w, Calls Try.prog 10 #[.string s] w fun e w' => e = .returned (.tuple #[.bool p, .bool q]) ∧ Below w.heap.size w w') ∧ (∀ w, Calls Try.prog 11 #[.string s] w fun e w' => e = .returned (.tuple #[.bool p, .bool q]) ∧ Below w.heap.size w w') := by
  cases hg : good s.data.toList with
  | none =>
    have g0 := fun w => tmGood_none hg w hm
    have i0 := readSorts_none s hg hm
    have p0 := fun k => soPlace_bad s k g0
    exact ⟨_, _, can_s0 s g0, can_i0 s i0⟩
  | some t =>
    obtain ⟨es, hL, hE, h300, h60⟩ := good_S hg
    have hl := lets_free t hL
    have g1 := fun w => tmGood_some hg w hm
    have o1 := soOf_good s t hg
    have i1 := readSorts_some s t hg hm
    have p1 := soPlace_good s t hg hm
    exact ⟨_, _, can_s1 s t hl h60 g1 o1, can_i1 s t hl h60 i1⟩
set_option maxHeartbeats 1000000 in
theorem same_s0 (s a b : ByteArray) (n m : Int) (q r : Bool) (hqr : (q && r) = false) (P1 : (∀ w, Calls Try.prog 32 #[.string s, .string a] w fun e w' => e = .returned (.tuple #[.int .i64 n, .bool q]) ∧ Below w.heap.size w w')) (P2 : (∀ w, Calls Try.prog 32 #[.string s, .string b] w fun e w' => e = .returned (.tuple #[.int .i64 m, .bool r]) ∧ Below w.heap.size w w')) (w : World) : Calls Try.prog 12 #[.string s, .string a, .string b] w fun e w' => e = .returned (.tuple #[.bool false, .bool false]) ∧ Below w.heap.size w w' := by
  have XP1 := Lib.hid P1
  have XP2 := Lib.hid P2
  have hn : Hid ((q && r) = false) := hqr
  clear P1 P2
  go_enter Try.func12, Try.ntmps12
  have bl : Below w.heap.size w w := Below.refl _ _
  go_wp2_with fail
  refine (XP1.out _).mono ?_
  rintro e w1 ⟨rfl, b1⟩
  replace bl := go6 bl b1
  clear b1
  go_wp2_with fail
  refine (XP2.out _).mono ?_
  rintro e w1 ⟨rfl, b1⟩
  replace bl := go6 bl b1
  clear b1
  cases q <;> cases r <;> first | (exact absurd hn.out (by decide)) | skip
  all_goals (go_wp2_with fail; go_ret2; exact ⟨rfl, bl⟩)
set_option maxHeartbeats 1000000 in
theorem same_s1 (s : ByteArray) (t : Tm) (hl : Lets t.free) (h60 : t.size ≤ 60) (a b : ByteArray) (x y : UInt8) (hx : x ∈ t.free) (hy : y ∈ t.free) (P1 : (∀ w, Calls Try.prog 32 #[.string s, .string a] w fun e w' => e = .returned (.tuple #[.int .i64 (idx6 t.free 0 x : Int), .bool true]) ∧ Below w.heap.size w w')) (P2 : (∀ w, Calls Try.prog 32 #[.string s, .string b] w fun e w' => e = .returned (.tuple #[.int .i64 (idx6 t.free 0 y : Int), .bool true]) ∧ Below w.heap.size w w')) (HO : (∀ w, Calls Try.prog 29 #[.string s] w fun e w' => (∃ b, e = .returned (.pointer (some ⟨b, 0, none⟩)) ∧ w.heap.size ≤ b ∧ SpSo w' b t) ∧ Below w.heap.size w w')) (w : World) : Calls Try.prog 12 #[.string s, .string a, .string b] w fun e w' => e = .returned (.tuple #[.bool (decB (same6 t x y)), .bool true]) ∧ Below w.heap.size w w' := by
  have XP1 := Lib.hid P1
  have XP2 := Lib.hid P2
  have XHO := Lib.hid HO
  have hx1 := idx_lt t hx
  have hy1 := idx_lt t hy
  have HD := Lib.hid (fun (r : Nat → Nat) hr => same_dec t hx hy (r := r) hr hl)
  obtain ⟨Q, hQ⟩ : ∃ Q, Q = decB (same6 t x y) := ⟨_, rfl⟩
  obtain ⟨i, hi⟩ : ∃ i, i = idx6 t.free 0 x := ⟨_, rfl⟩
  obtain ⟨j, hj⟩ : ∃ j, j = idx6 t.free 0 y := ⟨_, rfl⟩
  rw [← hQ, ← hi, ← hj] at HD
  rw [← hi] at XP1 hx1
  rw [← hj] at XP2 hy1
  rw [← hQ]
  have HL1 := Lib.hid hx1
  have HL2 := Lib.hid hy1
  clear hi hj hQ hx hy hx1 hy1
  clear P1 P2 HO
  go_enter Try.func12, Try.ntmps12
  have bl : Below w.heap.size w w := Below.refl _ _
  go_wp2_with fail
  refine (XP1.out _).mono ?_
  rintro e w1 ⟨rfl, b1⟩
  replace bl := go6 bl b1
  clear b1
  go_wp2_with fail
  refine (XP2.out _).mono ?_
  rintro e w1 ⟨rfl, b1⟩
  replace bl := go6 bl b1
  clear b1
  go_wp2_with fail
  refine (XHO.out _).mono ?_
  rintro e w1 ⟨⟨b, rfl, hb, hs⟩, b1⟩
  replace bl := go6 bl b1
  have HS := Lib.hid hs
  clear b1 hs
  obtain ⟨r, hr, hrr⟩ := sb_root HS.out
  have R1 := Lib.hid (hr i HL1.out)
  have R2 := Lib.hid (hr j HL2.out)
  have e := HD.out r hrr
  obtain ⟨ri, hri⟩ : ∃ ri, ri = r i := ⟨_, rfl⟩
  obtain ⟨rj, hrj⟩ : ∃ rj, rj = r j := ⟨_, rfl⟩
  rw [← hri] at R1 e
  rw [← hrj] at R2 e
  clear hri hrj hr hrr
  go_wp2_with fail
  refine (R1.out).mono ?_
  rintro e w2 ⟨rfl, rfl⟩
  go_wp2_with fail
  refine (R2.out).mono ?_
  rintro e w2 ⟨rfl, rfl⟩
  go_wp2_with fail
  go_ret2
  exact ⟨rfl, bl⟩
set_option maxHeartbeats 1000000 in
theorem same_i0 (s a b : ByteArray) (HO : (∀ w, Calls Try.prog 30 #[.string s] w fun e w' => e = .returned (.tuple #[.pointer none, .bool false]) ∧ Below w.heap.size w w')) (w : World) : Calls Try.prog 13 #[.string s, .string a, .string b] w fun e w' => e = .returned (.tuple #[.bool false, .bool false]) ∧ Below w.heap.size w w' := by
  have XHO := Lib.hid HO
  clear HO
  go_enter Try.func13, Try.ntmps13
  have bl : Below w.heap.size w w := Below.refl _ _
  go_wp2_with fail
  refine (XHO.out _).mono ?_
  rintro e w1 ⟨rfl, b1⟩
  replace bl := go6 bl b1
  clear b1
  go_wp2_with fail
  go_ret2
  exact ⟨rfl, bl⟩
set_option maxHeartbeats 1000000 in
theorem same_i1 (s : ByteArray) (t : Tm) (a b : ByteArray) (n m : Int) (q r : Bool) (hqr : (q && r) = false) (HO : (∀ w, Calls Try.prog 30 #[.string s] w fun e w' => (∃ b, e = .returned (.tuple #[.pointer (some ⟨b, 0, none⟩), .bool true]) ∧ w.heap.size ≤ b ∧ ImSo w' b t) ∧ Below w.heap.size w w')) (P1 : (∀ w1 bp, ImSo w1 bp t → Calls Try.prog 34 #[.pointer (some ⟨bp, 0, none⟩), .string a] w1 fun e w' => e = .returned (.tuple #[.int .i64 n, .bool q]) ∧ Below w1.heap.size w1 w')) (P2 : (∀ w1 bp, ImSo w1 bp t → Calls Try.prog 34 #[.pointer (some ⟨bp, 0, none⟩), .string b] w1 fun e w' => e = .returned (.tuple #[.int .i64 m, .bool r]) ∧ Below w1.heap.size w1 w')) (w : World) : Calls Try.prog 13 #[.string s, .string a, .string b] w fun e w' => e = .returned (.tuple #[.bool false, .bool false]) ∧ Below w.heap.size w w' := by
  have XHO := Lib.hid HO
  have XP1 := Lib.hid P1
  have XP2 := Lib.hid P2
  have hn : Hid ((q && r) = false) := hqr
  clear HO P1 P2
  go_enter Try.func13, Try.ntmps13
  have bl : Below w.heap.size w w := Below.refl _ _
  go_wp2_with fail
  refine (XHO.out _).mono ?_
  rintro e w1 ⟨⟨b, rfl, hb, hs⟩, b1⟩
  replace bl := go6 bl b1
  have HS := Lib.hid hs
  clear b1 hs
  go_wp2_with fail
  refine (XP1.out _ _ HS.out).mono ?_
  rintro e w1 ⟨rfl, b1⟩
  replace bl := go6 bl b1
  have HS := Lib.hid (HS.out.below b1)
  clear b1
  go_wp2_with fail
  refine (XP2.out _ _ HS.out).mono ?_
  rintro e w1 ⟨rfl, b1⟩
  replace bl := go6 bl b1
  have HS := Lib.hid (HS.out.below b1)
  clear b1
  cases q <;> cases r <;> first | (exact absurd hn.out (by decide)) | skip
  all_goals (go_wp2_with fail; go_ret2; exact ⟨rfl, bl⟩)
set_option maxHeartbeats 1000000 in
theorem same_i2 (s : ByteArray) (t : Tm) (hl : Lets t.free) (h60 : t.size ≤ 60) (a b : ByteArray) (x y : UInt8) (hx : x ∈ t.free) (hy : y ∈ t.free) (HO : (∀ w, Calls Try.prog 30 #[.string s] w fun e w' => (∃ b, e = .returned (.tuple #[.pointer (some ⟨b, 0, none⟩), .bool true]) ∧ w.heap.size ≤ b ∧ ImSo w' b t) ∧ Below w.heap.size w w')) (P1 : (∀ w1 bp, ImSo w1 bp t → Calls Try.prog 34 #[.pointer (some ⟨bp, 0, none⟩), .string a] w1 fun e w' => e = .returned (.tuple #[.int .i64 (lt6 x : Int), .bool true]) ∧ Below w1.heap.size w1 w')) (P2 : (∀ w1 bp, ImSo w1 bp t → Calls Try.prog 34 #[.pointer (some ⟨bp, 0, none⟩), .string b] w1 fun e w' => e = .returned (.tuple #[.int .i64 (lt6 y : Int), .bool true]) ∧ Below w1.heap.size w1 w')) (w : World) : Calls Try.prog 13 #[.string s, .string a, .string b] w fun e w' => e = .returned (.tuple #[.bool (decB (same6 t x y)), .bool true]) ∧ Below w.heap.size w w' := by
  have XHO := Lib.hid HO
  have XP1 := Lib.hid P1
  have XP2 := Lib.hid P2
  have XS := Lib.hid (fun (w1 : World) (b : Nat) (h : ImSo w1 b t) => ib_same h (lt6_lt hl hx) (lt6_lt hl hy))
  rw [show Eqv (S6 (ask6 t lt6 26).1) (C6 (ask6 t lt6 26).1) (lt6 x) (lt6 y) = same6 t x y from rfl] at XS
  obtain ⟨Q, hQ⟩ : ∃ Q, Q = decB (same6 t x y) := ⟨_, rfl⟩
  obtain ⟨i, hi⟩ : ∃ i, i = lt6 x := ⟨_, rfl⟩
  obtain ⟨j, hj⟩ : ∃ j, j = lt6 y := ⟨_, rfl⟩
  rw [← hQ, ← hi, ← hj] at XS
  rw [← hi] at XP1
  rw [← hj] at XP2
  rw [← hQ]
  clear hi hj hQ hx hy
  clear HO P1 P2
  go_enter Try.func13, Try.ntmps13
  have bl : Below w.heap.size w w := Below.refl _ _
  go_wp2_with fail
  refine (XHO.out _).mono ?_
  rintro e w1 ⟨⟨b, rfl, hb, hs⟩, b1⟩
  replace bl := go6 bl b1
  have HS := Lib.hid hs
  clear b1 hs
  go_wp2_with fail
  refine (XP1.out _ _ HS.out).mono ?_
  rintro e w1 ⟨rfl, b1⟩
  replace bl := go6 bl b1
  have HS := Lib.hid (HS.out.below b1)
  clear b1
  go_wp2_with fail
  refine (XP2.out _ _ HS.out).mono ?_
  rintro e w1 ⟨rfl, b1⟩
  replace bl := go6 bl b1
  have HS := Lib.hid (HS.out.below b1)
  clear b1
  go_wp2_with fail
  refine (XS.out _ _ HS.out).mono ?_
  rintro e w1 ⟨rfl, rfl⟩
  go_wp2_with fail
  go_ret2
  exact ⟨rfl, bl⟩
theorem bothSame (s a b : ByteArray) (hm : s.size ≤ 9223372036854775807) : ∃ (p : Bool) (q : Bool), (∀ w, Calls Try.prog 12 #[.string s, .string a, .string b] w fun e w' => e = .returned (.tuple #[.bool p, .bool q]) ∧ Below w.heap.size w w') ∧ (∀ w, Calls Try.prog 13 #[.string s, .string a, .string b] w fun e w' => e = .returned (.tuple #[.bool p, .bool q]) ∧ Below w.heap.size w w') := by
  cases hg : good s.data.toList with
  | none =>
    have g0 := fun w => tmGood_none hg w hm
    have i0 := readSorts_none s hg hm
    have p0 := fun k => soPlace_bad s k g0
    exact ⟨_, _, same_s0 s a b _ _ _ _ (by rfl) (p0 a) (p0 b), same_i0 s a b i0⟩
  | some t =>
    obtain ⟨es, hL, hE, h300, h60⟩ := good_S hg
    have hl := lets_free t hL
    have g1 := fun w => tmGood_some hg w hm
    have o1 := soOf_good s t hg
    have i1 := readSorts_some s t hg hm
    have p1 := soPlace_good s t hg hm
    have m1 := fun k (w1 : World) b (h : ImSo w1 b t) => ib_named h hL k
    have p1a := p1 a
    have p1b := p1 b
    have m1a := m1 a
    have m1b := m1 b
    cases ea : nameOf t.free a with
    | none =>
      rw [ea] at p1a m1a
      exact ⟨_, _, same_s0 s a b _ _ _ _ (by rfl) p1a p1b, same_i1 s t a b _ _ _ _ (by rfl) i1 m1a m1b⟩
    | some x =>
      rw [ea] at p1a m1a
      cases eb : nameOf t.free b with
      | none =>
        rw [eb] at p1b m1b
        exact ⟨_, _, same_s0 s a b _ _ _ _ (by rfl) p1a p1b, same_i1 s t a b _ _ _ _ (by rfl) i1 m1a m1b⟩
      | some y =>
        rw [eb] at p1b m1b
        exact ⟨_, _, same_s1 s t hl h60 a b x y (nameOf_mem ea) (nameOf_mem eb) p1a p1b o1, same_i2 s t hl h60 a b x y (nameOf_mem ea) (nameOf_mem eb) i1 m1a m1b⟩
set_option maxHeartbeats 1000000 in
theorem lev_s0 (s a : ByteArray) (n : Int) (P1 : (∀ w, Calls Try.prog 32 #[.string s, .string a] w fun e w' => e = .returned (.tuple #[.int .i64 n, .bool false]) ∧ Below w.heap.size w w')) (w : World) : Calls Try.prog 41 #[.string s, .string a] w fun e w' => e = .returned (.tuple #[.int .i64 0, .bool false]) ∧ Below w.heap.size w w' := by
  have XP1 := Lib.hid P1
  clear P1
  go_enter Try.func41, Try.ntmps41
  have bl : Below w.heap.size w w := Below.refl _ _
  go_wp2_with fail
  refine (XP1.out _).mono ?_
  rintro e w1 ⟨rfl, b1⟩
  replace bl := go6 bl b1
  clear b1
  go_wp2_with fail
  go_ret2
  exact ⟨rfl, bl⟩
set_option maxHeartbeats 1000000 in
theorem lev_s1 (s : ByteArray) (t : Tm) (hl : Lets t.free) (h60 : t.size ≤ 60) (a : ByteArray) (n : Int) (hn : decB (able6 t) = false) (P1 : (∀ w, Calls Try.prog 32 #[.string s, .string a] w fun e w' => e = .returned (.tuple #[.int .i64 n, .bool true]) ∧ Below w.heap.size w w')) (HO : (∀ w, Calls Try.prog 29 #[.string s] w fun e w' => (∃ b, e = .returned (.pointer (some ⟨b, 0, none⟩)) ∧ w.heap.size ≤ b ∧ SpSo w' b t) ∧ Below w.heap.size w w')) (w : World) : Calls Try.prog 41 #[.string s, .string a] w fun e w' => e = .returned (.tuple #[.int .i64 0, .bool false]) ∧ Below w.heap.size w w' := by
  have XP1 := Lib.hid P1
  have XHO := Lib.hid HO
  have XC := Lib.hid (fun (w1 : World) (b : Nat) (h : SpSo w1 b t) => sb_can h hl h60)
  rw [hn] at XC
  clear hl h60
  clear P1 HO
  go_enter Try.func41, Try.ntmps41
  have bl : Below w.heap.size w w := Below.refl _ _
  go_wp2_with fail
  refine (XP1.out _).mono ?_
  rintro e w1 ⟨rfl, b1⟩
  replace bl := go6 bl b1
  clear b1
  go_wp2_with fail
  refine (XHO.out _).mono ?_
  rintro e w1 ⟨⟨b, rfl, hb, hs⟩, b1⟩
  replace bl := go6 bl b1
  have HS := Lib.hid hs
  clear b1 hs
  go_wp2_with fail
  refine (XC.out _ _ HS.out).mono ?_
  rintro e w1 ⟨rfl, rfl⟩
  go_wp2_with fail
  go_ret2
  exact ⟨rfl, bl⟩
set_option maxHeartbeats 1000000 in
theorem lev_s2 (s : ByteArray) (t : Tm) (hl : Lets t.free) (h60 : t.size ≤ 60) (a : ByteArray) (x : UInt8) (hx : x ∈ t.free) (hn : decB (able6 t) = true) (m : Nat) (hm : levO t x = some m) (P1 : (∀ w, Calls Try.prog 32 #[.string s, .string a] w fun e w' => e = .returned (.tuple #[.int .i64 (idx6 t.free 0 x : Int), .bool true]) ∧ Below w.heap.size w w')) (HO : (∀ w, Calls Try.prog 29 #[.string s] w fun e w' => (∃ b, e = .returned (.pointer (some ⟨b, 0, none⟩)) ∧ w.heap.size ≤ b ∧ SpSo w' b t) ∧ Below w.heap.size w w')) (w : World) : Calls Try.prog 41 #[.string s, .string a] w fun e w' => e = .returned (.tuple #[.int .i64 (m : Int), .bool true]) ∧ Below w.heap.size w w' := by
  have XP1 := Lib.hid P1
  have XHO := Lib.hid HO
  have XC := Lib.hid (fun (w1 : World) (b : Nat) (h : SpSo w1 b t) => sb_can h hl h60)
  have XL := Lib.hid (fun (w1 : World) (b : Nat) (h : SpSo w1 b t) => sb_level h hl h60 hx)
  rw [hn] at XC
  rw [hm, show oS (some m) = (m : Int) from rfl, show (some m).isSome = true from rfl] at XL
  obtain ⟨i, hi⟩ : ∃ i, i = idx6 t.free 0 x := ⟨_, rfl⟩
  rw [← hi] at XL XP1
  clear hl h60 hi hx hm
  clear P1 HO
  go_enter Try.func41, Try.ntmps41
  have bl : Below w.heap.size w w := Below.refl _ _
  go_wp2_with fail
  refine (XP1.out _).mono ?_
  rintro e w1 ⟨rfl, b1⟩
  replace bl := go6 bl b1
  clear b1
  go_wp2_with fail
  refine (XHO.out _).mono ?_
  rintro e w1 ⟨⟨b, rfl, hb, hs⟩, b1⟩
  replace bl := go6 bl b1
  have HS := Lib.hid hs
  clear b1 hs
  go_wp2_with fail
  refine (XC.out _ _ HS.out).mono ?_
  rintro e w1 ⟨rfl, rfl⟩
  go_wp2_with fail
  refine (XL.out _ _ HS.out).mono ?_
  rintro e w1 ⟨rfl, rfl⟩
  go_wp2_with fail
  go_ret2
  exact ⟨rfl, bl⟩
set_option maxHeartbeats 1000000 in
theorem lev_s3 (s a : ByteArray) (n : Int) (q : Bool) (P1 : (∀ w, Calls Try.prog 41 #[.string s, .string a] w fun e w' => e = .returned (.tuple #[.int .i64 n, .bool q]) ∧ Below w.heap.size w w')) (w : World) : Calls Try.prog 19 #[.string s, .string a] w fun e w' => e = .returned (.tuple #[.int .i64 n, .bool q]) ∧ Below w.heap.size w w' := by
  have XP1 := Lib.hid P1
  clear P1
  go_enter Try.func19, Try.ntmps19
  have bl : Below w.heap.size w w := Below.refl _ _
  go_wp2_with fail
  refine (XP1.out _).mono ?_
  rintro e w1 ⟨rfl, b1⟩
  replace bl := go6 bl b1
  clear b1
  go_wp2_with fail
  go_ret2
  exact ⟨rfl, bl⟩
set_option maxHeartbeats 1000000 in
theorem lev_i0 (s a : ByteArray) (HO : (∀ w, Calls Try.prog 30 #[.string s] w fun e w' => e = .returned (.tuple #[.pointer none, .bool false]) ∧ Below w.heap.size w w')) (w : World) : Calls Try.prog 20 #[.string s, .string a] w fun e w' => e = .returned (.tuple #[.int .i64 0, .bool false]) ∧ Below w.heap.size w w' := by
  have XHO := Lib.hid HO
  clear HO
  go_enter Try.func20, Try.ntmps20
  have bl : Below w.heap.size w w := Below.refl _ _
  go_wp2_with fail
  refine (XHO.out _).mono ?_
  rintro e w1 ⟨rfl, b1⟩
  replace bl := go6 bl b1
  clear b1
  go_wp2_with fail
  go_ret2
  exact ⟨rfl, bl⟩
set_option maxHeartbeats 1000000 in
theorem lev_i1 (s : ByteArray) (t : Tm) (hl : Lets t.free) (h60 : t.size ≤ 60) (a : ByteArray) (hn : decB (able6 t) = false) (HO : (∀ w, Calls Try.prog 30 #[.string s] w fun e w' => (∃ b, e = .returned (.tuple #[.pointer (some ⟨b, 0, none⟩), .bool true]) ∧ w.heap.size ≤ b ∧ ImSo w' b t) ∧ Below w.heap.size w w')) (w : World) : Calls Try.prog 20 #[.string s, .string a] w fun e w' => e = .returned (.tuple #[.int .i64 0, .bool false]) ∧ Below w.heap.size w w' := by
  have XHO := Lib.hid HO
  have XC := Lib.hid (fun (w1 : World) (b : Nat) (h : ImSo w1 b t) => ib_can h hl)
  rw [hn] at XC
  clear hl h60
  clear HO
  go_enter Try.func20, Try.ntmps20
  have bl : Below w.heap.size w w := Below.refl _ _
  go_wp2_with fail
  refine (XHO.out _).mono ?_
  rintro e w1 ⟨⟨b, rfl, hb, hs⟩, b1⟩
  replace bl := go6 bl b1
  have HS := Lib.hid hs
  clear b1 hs
  go_wp2_with fail
  refine (XC.out _ _ HS.out).mono ?_
  rintro e w1 ⟨rfl, b1⟩
  replace bl := go6 bl b1
  have HS := Lib.hid (HS.out.below b1)
  clear b1
  go_wp2_with fail
  go_ret2
  exact ⟨rfl, bl⟩
set_option maxHeartbeats 1000000 in
theorem lev_i2 (s : ByteArray) (t : Tm) (hl : Lets t.free) (h60 : t.size ≤ 60) (a : ByteArray) (hn : decB (able6 t) = true) (n : Int) (HO : (∀ w, Calls Try.prog 30 #[.string s] w fun e w' => (∃ b, e = .returned (.tuple #[.pointer (some ⟨b, 0, none⟩), .bool true]) ∧ w.heap.size ≤ b ∧ ImSo w' b t) ∧ Below w.heap.size w w')) (P1 : (∀ w1 bp, ImSo w1 bp t → Calls Try.prog 34 #[.pointer (some ⟨bp, 0, none⟩), .string a] w1 fun e w' => e = .returned (.tuple #[.int .i64 n, .bool false]) ∧ Below w1.heap.size w1 w')) (w : World) : Calls Try.prog 20 #[.string s, .string a] w fun e w' => e = .returned (.tuple #[.int .i64 0, .bool false]) ∧ Below w.heap.size w w' := by
  have XHO := Lib.hid HO
  have XP1 := Lib.hid P1
  have XC := Lib.hid (fun (w1 : World) (b : Nat) (h : ImSo w1 b t) => ib_can h hl)
  rw [hn] at XC
  clear hl h60
  clear HO P1
  go_enter Try.func20, Try.ntmps20
  have bl : Below w.heap.size w w := Below.refl _ _
  go_wp2_with fail
  refine (XHO.out _).mono ?_
  rintro e w1 ⟨⟨b, rfl, hb, hs⟩, b1⟩
  replace bl := go6 bl b1
  have HS := Lib.hid hs
  clear b1 hs
  go_wp2_with fail
  refine (XC.out _ _ HS.out).mono ?_
  rintro e w1 ⟨rfl, b1⟩
  replace bl := go6 bl b1
  have HS := Lib.hid (HS.out.below b1)
  clear b1
  go_wp2_with fail
  refine (XP1.out _ _ HS.out).mono ?_
  rintro e w1 ⟨rfl, b1⟩
  replace bl := go6 bl b1
  have HS := Lib.hid (HS.out.below b1)
  clear b1
  go_wp2_with fail
  go_ret2
  exact ⟨rfl, bl⟩
set_option maxHeartbeats 1000000 in
theorem lev_i3 (s : ByteArray) (t : Tm) (hl : Lets t.free) (h60 : t.size ≤ 60) (a : ByteArray) (x : UInt8) (hx : x ∈ t.free) (hn : decB (able6 t) = true) (m : Nat) (hm : levO t x = some m) (HO : (∀ w, Calls Try.prog 30 #[.string s] w fun e w' => (∃ b, e = .returned (.tuple #[.pointer (some ⟨b, 0, none⟩), .bool true]) ∧ w.heap.size ≤ b ∧ ImSo w' b t) ∧ Below w.heap.size w w')) (P1 : (∀ w1 bp, ImSo w1 bp t → Calls Try.prog 34 #[.pointer (some ⟨bp, 0, none⟩), .string a] w1 fun e w' => e = .returned (.tuple #[.int .i64 (lt6 x : Int), .bool true]) ∧ Below w1.heap.size w1 w')) (w : World) : Calls Try.prog 20 #[.string s, .string a] w fun e w' => e = .returned (.tuple #[.int .i64 (m : Int), .bool true]) ∧ Below w.heap.size w w' := by
  have XHO := Lib.hid HO
  have XP1 := Lib.hid P1
  have XC := Lib.hid (fun (w1 : World) (b : Nat) (h : ImSo w1 b t) => ib_can h hl)
  have XL := Lib.hid (fun (w1 : World) (b : Nat) (h : ImSo w1 b t) => ib_level h hl hx)
  rw [hn] at XC
  rw [hm, show oI (some m) = (m : Int) from rfl, show (some m).isSome = true from rfl] at XL
  obtain ⟨i, hi⟩ : ∃ i, i = lt6 x := ⟨_, rfl⟩
  rw [← hi] at XL XP1
  clear hl h60 hi hx hm
  clear HO P1
  go_enter Try.func20, Try.ntmps20
  have bl : Below w.heap.size w w := Below.refl _ _
  go_wp2_with fail
  refine (XHO.out _).mono ?_
  rintro e w1 ⟨⟨b, rfl, hb, hs⟩, b1⟩
  replace bl := go6 bl b1
  have HS := Lib.hid hs
  clear b1 hs
  go_wp2_with fail
  refine (XC.out _ _ HS.out).mono ?_
  rintro e w1 ⟨rfl, b1⟩
  replace bl := go6 bl b1
  have HS := Lib.hid (HS.out.below b1)
  clear b1
  go_wp2_with fail
  refine (XP1.out _ _ HS.out).mono ?_
  rintro e w1 ⟨rfl, b1⟩
  replace bl := go6 bl b1
  have HS := Lib.hid (HS.out.below b1)
  clear b1
  go_wp2_with fail
  refine (XL.out _ _ HS.out).mono ?_
  rintro e w1 ⟨rfl, b1⟩
  replace bl := go6 bl b1
  have HS := Lib.hid (HS.out.below b1)
  clear b1
  go_wp2_with fail
  go_ret2
  exact ⟨rfl, bl⟩
theorem lev_able {t : Tm} (h : decB (able6 t) = true) (a : UInt8) : ∃ m, levO t a = some m := by
  obtain ⟨m, hm⟩ := (decB_iff _).1 h (lt6 a)
  exact ⟨m, (levO_iff t a m).2 hm⟩
theorem bothLev0 (s a : ByteArray) (hm : s.size ≤ 9223372036854775807) : ∃ (p : Int) (q : Bool), (∀ w, Calls Try.prog 41 #[.string s, .string a] w fun e w' => e = .returned (.tuple #[.int .i64 p, .bool q]) ∧ Below w.heap.size w w') ∧ (∀ w, Calls Try.prog 20 #[.string s, .string a] w fun e w' => e = .returned (.tuple #[.int .i64 p, .bool q]) ∧ Below w.heap.size w w') := by
  cases hg : good s.data.toList with
  | none =>
    have g0 := fun w => tmGood_none hg w hm
    have i0 := readSorts_none s hg hm
    have p0 := fun k => soPlace_bad s k g0
    exact ⟨_, _, (lev_s0 s a _ (p0 a)), lev_i0 s a i0⟩
  | some t =>
    obtain ⟨es, hL, hE, h300, h60⟩ := good_S hg
    have hl := lets_free t hL
    have g1 := fun w => tmGood_some hg w hm
    have o1 := soOf_good s t hg
    have i1 := readSorts_some s t hg hm
    have p1 := soPlace_good s t hg hm
    have m1a := fun (w1 : World) b (h : ImSo w1 b t) => ib_named h hL a
    have p1a := p1 a
    cases en : decB (able6 t) with
    | false =>
      cases ea : nameOf t.free a with
      | none =>
        rw [ea] at p1a
        exact ⟨_, _, (lev_s0 s a _ p1a), lev_i1 s t hl h60 a en i1⟩
      | some x =>
        rw [ea] at p1a
        exact ⟨_, _, (lev_s1 s t hl h60 a _ en p1a o1), lev_i1 s t hl h60 a en i1⟩
    | true =>
      cases ea : nameOf t.free a with
      | none =>
        rw [ea] at p1a m1a
        exact ⟨_, _, (lev_s0 s a _ p1a), lev_i2 s t hl h60 a en _ i1 m1a⟩
      | some x =>
        rw [ea] at p1a m1a
        obtain ⟨m, hm⟩ := lev_able en x
        exact ⟨_, _, (lev_s2 s t hl h60 a x (nameOf_mem ea) en m hm p1a o1), lev_i3 s t hl h60 a x (nameOf_mem ea) en m hm i1 m1a⟩
theorem bothLev (s a : ByteArray) (hm : s.size ≤ 9223372036854775807) : ∃ (p : Int) (q : Bool), (∀ w, Calls Try.prog 19 #[.string s, .string a] w fun e w' => e = .returned (.tuple #[.int .i64 p, .bool q]) ∧ Below w.heap.size w w') ∧ (∀ w, Calls Try.prog 20 #[.string s, .string a] w fun e w' => e = .returned (.tuple #[.int .i64 p, .bool q]) ∧ Below w.heap.size w w') := by
  obtain ⟨p, q, h1, h2⟩ := bothLev0 s a hm
  exact ⟨p, q, lev_s3 s a p q h1, h2⟩
end Go.Proofs.Ytdfelpahacmdpaa.T1
