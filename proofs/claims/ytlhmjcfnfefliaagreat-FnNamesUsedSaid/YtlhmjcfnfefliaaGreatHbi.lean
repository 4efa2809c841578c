/- Texts of the proof, put together: Qb, Qd, Sh, Qf. No conditions. -/
import Derived.Test.YtlhmjcfnfefliaaGreatHba
import Derived.Test.YtlhmjcfnfefliaaGreatHbc
import Derived.Test.YtlhmjcfnfefliaaGreatHbh
import Derived.Shelf.SlGeneric
import Derived.Ground.SlgnProg
import Derived.Shelf.Strings.Builder1
import Derived.Shelf.Strings.Builder2
import Derived.Shelf.Strings.BuilderF
import Derived.Shelf.Strings.Prefix
import Derived.Shelf.Bits.Mul64
import Derived.Shelf.Strings.Repeat
import Derived.Test.YtlhmjcfnfefliaaGreatProg

/- Sorts in the program: what is asked of those of a process. -/
namespace Go.Proofs.YtlhmjcfnfefliaaGreat.T1
open Go.RowKit
set_option maxRecDepth 100000
set_option linter.unusedVariables false
set_option linter.unusedSimpArgs false

/-- Block b has the sorts of a process. -/
def ImSo (w : World) (b : Nat) (t : Tm) : Prop := Sta w b (setN t.free) (ask6 t lt6 26).2 (ask6 t lt6 26).1
theorem ImSo.below {w w' : World} {b : Nat} {t : Tm} (h : ImSo w b t) (k : Below w.heap.size w w') : ImSo w' b t := Sta.below h k
theorem N26 (t : Tm) : 26 ≤ (ask6 t lt6 26).2 := (ask6_next t lt6 26).1
theorem lt6_lt {t : Tm} (hl : Lets t.free) {c : UInt8} (h : c ∈ t.free) : lt6 c < (ask6 t lt6 26).2 := by
  have := hl c h; have := N26 t; have e : lt6 c = c.toNat - 97 := rfl; omega
theorem bnd6 {t : Tm} (hl : Lets t.free) : ∀ i x, C6 (ask6 t lt6 26).1 i x → i < (ask6 t lt6 26).2 ∧ x < (ask6 t lt6 26).2 :=
  (bounds6 t lt6 26 (fun c hc => by have := hl c hc; unfold lt6; omega)).2
theorem ib_can {w : World} {b : Nat} {t : Tm} (h : ImSo w b t) (hl : Lets t.free) : Calls Tryz.prog 22 #[.pointer (some ⟨b, 0, none⟩)] w fun e w' => e = .returned (.bool (decB (able6 t))) ∧ Below w.heap.size w w' := by
  obtain ⟨f, r, c, h1, h2⟩ := h
  refine (canBeSorted_any h1 h2 (bnd6 hl)).mono ?_
  rintro e w' ⟨⟨q, he, hq⟩, bl⟩
  refine ⟨?_, bl⟩
  rw [he, show q = decB (able6 t) from by rw [Bool.eq_iff_iff, decB_iff, hq, able6_lt t hl]]
theorem ib_same {w : World} {b : Nat} {t : Tm} (h : ImSo w b t) {i j : Nat} (hi : i < (ask6 t lt6 26).2) (hj : j < (ask6 t lt6 26).2) : Calls Tryz.prog 58 #[.pointer (some ⟨b, 0, none⟩), .int .i64 (i : Int), .int .i64 (j : Int)] w fun e w' => e = .returned (.bool (decB (Eqv (S6 (ask6 t lt6 26).1) (C6 (ask6 t lt6 26).1) i j))) ∧ w = w' := by
  obtain ⟨f, r, c, h1, h2⟩ := h
  refine (areSame_any h1 h2 hi hj).mono ?_
  rintro e w' ⟨⟨q, he, hq⟩, bl⟩
  refine ⟨?_, bl⟩
  rw [he, show q = decB (Eqv (S6 (ask6 t lt6 26).1) (C6 (ask6 t lt6 26).1) i j) from by rw [Bool.eq_iff_iff, decB_iff, hq]]
theorem ib_level {w : World} {b : Nat} {t : Tm} (h : ImSo w b t) (hl : Lets t.free) {a : UInt8} (ha : a ∈ t.free) : Calls Tryz.prog 24 #[.pointer (some ⟨b, 0, none⟩), .int .i64 (lt6 a : Int)] w fun e w' => e = .returned (.tuple #[.int .i64 (oI (levO t a)), .bool (levO t a).isSome]) ∧ Below w.heap.size w w' := by
  obtain ⟨f, r, c, h1, h2⟩ := h
  refine (level_any h1 h2 (bnd6 hl) (lt6_lt hl ha)).mono ?_
  rintro e w' ⟨⟨o, he, ho⟩, bl⟩
  refine ⟨?_, bl⟩
  rw [he, levO_eq (o := o) ho]
theorem ib_behind {w : World} {b : Nat} {t : Tm} (h : ImSo w b t) {k : Nat} (hk : k < (ask6 t lt6 26).2) : Calls Tryz.prog 27 #[.pointer (some ⟨b, 0, none⟩), .int .i64 (k : Int)] w fun e w' => (∃ o : Option Nat, e = .returned (.tuple #[.int .i64 (cI o), .bool o.isSome]) ∧ (∀ x, o = some x → x < (ask6 t lt6 26).2 ∧ Car (S6 (ask6 t lt6 26).1) (C6 (ask6 t lt6 26).1) k x) ∧ (o = none → ∀ x, ¬ Car (S6 (ask6 t lt6 26).1) (C6 (ask6 t lt6 26).1) k x)) ∧ Below w.heap.size w w' := by
  obtain ⟨f, r, c, h1, h2⟩ := h
  refine (behind_any h1 h2.rt h2.lt hk).mono ?_
  rintro e w' ⟨he, bl⟩
  exact ⟨⟨c (r k), he, fun x hx => ⟨h2.clt _ _ hx, (h2.cls.carries k).1 x hx⟩, fun hn => (h2.cls.carries k).2 hn⟩, bl⟩
theorem cf_no1 (args : Array Value) (w : World) : (callFunc 57 args).run Tryz.prog w = .ok (.enter 57 args) w := by kernel_rfl
set_option maxHeartbeats 1000000 in
theorem no1_any {w : World} {b c1 c2 n : Nat} {t : Tm} (h : ImSo w b t) (hl : Lets t.free) (hn : n < (ask6 t lt6 26).2) (h1 : w.cell? ⟨c1, 0, none⟩ = some (.pointer (some ⟨b, 0, none⟩))) (h2 : w.cell? ⟨c2, 0, none⟩ = some (.int .i64 (n : Int))) (a : UInt8) (ha : a ∈ t.free) :
    Calls Tryz.prog 57 (#[.int .i64 (lt6 a : Int)] ++ #[.pointer (some ⟨c1, 0, none⟩), .pointer (some ⟨c2, 0, none⟩)]) w fun e w' => e = .returned (.bool (decB (Eqv (S6 (ask6 t lt6 26).1) (C6 (ask6 t lt6 26).1) (lt6 a) n))) ∧ Below w.heap.size w w' := by
  show Calls Tryz.prog 57 #[.int .i64 (lt6 a : Int), .pointer (some ⟨c1, 0, none⟩), .pointer (some ⟨c2, 0, none⟩)] w _
  have H := Lib.hid (ib_same h (lt6_lt hl ha) hn)
  obtain ⟨q, hq⟩ : ∃ q, q = decB (Eqv (S6 (ask6 t lt6 26).1) (C6 (ask6 t lt6 26).1) (lt6 a) n) := ⟨_, rfl⟩
  rw [← hq] at H ⊢
  clear h hq
  go_enter Tryz.func57, Tryz.ntmps57
  go_wp2_with fail
  refine (H.out).mono ?_
  rintro e w1 ⟨rfl, rfl⟩
  go_wp2_with fail
  go_ret
  exact ⟨rfl, Below.refl _ _⟩
set_option maxHeartbeats 1000000 in
theorem ib_namesOf {w : World} {b n : Nat} {t : Tm} (h : ImSo w b t) (hl : Lets t.free) (h26 : t.free.length ≤ 26) (hn : n < (ask6 t lt6 26).2) :
    Calls Tryz.prog 28 #[.pointer (some ⟨b, 0, none⟩), .int .i64 (n : Int)] w fun e w' => e = .returned (.string (B (t.free.filter fun a => decB (Eqv (S6 (ask6 t lt6 26).1) (C6 (ask6 t lt6 26).1) (lt6 a) n)))) ∧ Below w.heap.size w w' := by
  have t1 := first_block w (.cells #[.pointer (some ⟨b, 0, none⟩)] 40) (.cells #[.int .i64 (n : Int)] 3)
  have t2 := last_block w (.cells #[.pointer (some ⟨b, 0, none⟩)] 40) (.cells #[.int .i64 (n : Int)] 3)
  have bW := below_two w (.cells #[.pointer (some ⟨b, 0, none⟩)] 40) (.cells #[.int .i64 (n : Int)] 3)
  have hW := h.below bW
  have HN := Lib.hid (namesWith_any (b := b) hl (srt_free t) rfl h26 57 #[.pointer (some ⟨w.heap.size, 0, none⟩), .pointer (some ⟨w.heap.size + 1, 0, none⟩)] (fun a => decB (Eqv (S6 (ask6 t lt6 26).1) (C6 (ask6 t lt6 26).1) (lt6 a) n))
    (fun w1 => ImSo w1 b t ∧ (∃ T, w1.heap[w.heap.size]? = some (.cells #[.pointer (some ⟨b, 0, none⟩)] T (0, 0))) ∧ ∃ T, w1.heap[w.heap.size + 1]? = some (.cells #[.int .i64 (n : Int)] T (0, 0))) cf_no1
    (fun w1 w2 ⟨j1, ⟨T1, j2⟩, ⟨T2, j3⟩⟩ bl => ⟨j1.below bl, ⟨T1, (bl.block _ (lt_of_block j2)).trans j2⟩, ⟨T2, (bl.block _ (lt_of_block j3)).trans j3⟩⟩)
    (fun w1 j => j.1.u_at)
    (fun a w1 ha ⟨j1, ⟨T1, j2⟩, ⟨T2, j3⟩⟩ => no1_any j1 hl hn (cellOf1 j2) (cellOf1 j3) a ha) _ ⟨hW, ⟨_, t1⟩, ⟨_, t2⟩⟩)
  have HB := Lib.hid bW
  have HT := Lib.hid (cellOf1 t1)
  obtain ⟨X, hX⟩ : ∃ X, X = B (t.free.filter fun a => decB (Eqv (S6 (ask6 t lt6 26).1) (C6 (ask6 t lt6 26).1) (lt6 a) n)) := ⟨_, rfl⟩
  rw [← hX] at HN ⊢
  obtain ⟨W, hWe⟩ : ∃ W, W = (w.alloc (.cells #[.pointer (some ⟨b, 0, none⟩)] 40)).alloc (.cells #[.int .i64 (n : Int)] 3) := ⟨_, rfl⟩
  rw [← hWe] at HN HB HT
  have cx := HT.out
  clear t1 t2 bW hW h hX
  go_enter Tryz.func28, Tryz.ntmps28
  go_wp2_with fail
  rw [← hWe]
  clear hWe
  go_wp2_with fail
  refine (HN.out).mono ?_
  rintro e w1 ⟨rfl, bl⟩
  go_wp2_with fail
  go_ret
  exact ⟨rfl, below_trans HB.out bl HB.out.size⟩
theorem ib_named {w : World} {b : Nat} {t : Tm} (h : ImSo w b t) (ho : t.ok nmL = true) (k : ByteArray) : Calls Tryz.prog 23 #[.pointer (some ⟨b, 0, none⟩), .string k] w fun e w' => e = .returned (.tuple #[.int .i64 (nmI (nameOf t.free k)), .bool (nameOf t.free k).isSome]) ∧ Below w.heap.size w w' := by
  rcases one_or2 k with ⟨c, hc, ek, _, o2⟩ | ⟨hn, _, o2⟩
  · have H := named_name h k c hc (decide (c ∈ t.free)) o2 (has_freeS t ho c hc)
    subst ek
    by_cases hm : c ∈ t.free
    · rw [decide_eq_true hm] at H
      rw [nameOf_yes hc hm]
      exact H
    · rw [decide_eq_false hm] at H
      rw [nameOf_out hm]
      exact H
  · rw [nameOf_no hn]
    exact named_text h k o2

end Go.Proofs.YtlhmjcfnfefliaaGreat.T1

/- What both sides answer: whether a process can be sorted, whether two names have one sort, levels. MADE BY gen_Qd.py. -/
namespace Go.Proofs.YtlhmjcfnfefliaaGreat.T1
open Go.RowKit
set_option maxRecDepth 100000
set_option linter.unusedVariables false
set_option linter.unusedSimpArgs false

theorem go6 {u v w : World} (h : Below u.heap.size u v) (k : Below v.heap.size v w) : Below u.heap.size u w := below_trans h k h.size
set_option maxHeartbeats 1000000 in
theorem lev_s0 (s a : ByteArray) (n : Int) (P1 : (∀ w, Calls Tryz.prog 29 #[.string s, .string a] w fun e w' => e = .returned (.tuple #[.int .i64 n, .bool false]) ∧ Below w.heap.size w w')) (w : World) : Calls Tryz.prog 25 #[.string s, .string a] w fun e w' => e = .returned (.tuple #[.int .i64 0, .bool false]) ∧ Below w.heap.size w w' := by
  have XP1 := Lib.hid P1
  clear P1
  go_enter Tryz.func25, Tryz.ntmps25
  have bl : Below w.heap.size w w := Below.refl _ _
  go_wp2_with fail
  refine (XP1.out _).mono ?_
  rintro e w1 ⟨rfl, b1⟩
  replace bl := go6 bl b1
  clear b1
  go_wp2_with fail
  go_ret2
  exact ⟨rfl, bl⟩
set_option maxHeartbeats 1000000 in
theorem lev_s1 (s : ByteArray) (t : Tm) (hl : Lets t.free) (h60 : t.size ≤ 60) (a : ByteArray) (n : Int) (hn : decB (able6 t) = false) (P1 : (∀ w, Calls Tryz.prog 29 #[.string s, .string a] w fun e w' => e = .returned (.tuple #[.int .i64 n, .bool true]) ∧ Below w.heap.size w w')) (HO : (∀ w, Calls Tryz.prog 30 #[.string s] w fun e w' => (∃ b, e = .returned (.pointer (some ⟨b, 0, none⟩)) ∧ w.heap.size ≤ b ∧ SpSo w' b t) ∧ Below w.heap.size w w')) (w : World) : Calls Tryz.prog 25 #[.string s, .string a] w fun e w' => e = .returned (.tuple #[.int .i64 0, .bool false]) ∧ Below w.heap.size w w' := by
  have XP1 := Lib.hid P1
  have XHO := Lib.hid HO
  have XC := Lib.hid (fun (w1 : World) (b : Nat) (h : SpSo w1 b t) => sb_can h hl h60)
  rw [hn] at XC
  clear hl h60
  clear P1 HO
  go_enter Tryz.func25, Tryz.ntmps25
  have bl : Below w.heap.size w w := Below.refl _ _
  go_wp2_with fail
  refine (XP1.out _).mono ?_
  rintro e w1 ⟨rfl, b1⟩
  replace bl := go6 bl b1
  clear b1
  go_wp2_with fail
  refine (XHO.out _).mono ?_
  rintro e w1 ⟨⟨b, rfl, hb, hs⟩, b1⟩
  replace bl := go6 bl b1
  have HS := Lib.hid hs
  clear b1 hs
  go_wp2_with fail
  refine (XC.out _ _ HS.out).mono ?_
  rintro e w1 ⟨rfl, rfl⟩
  go_wp2_with fail
  go_ret2
  exact ⟨rfl, bl⟩
set_option maxHeartbeats 1000000 in
theorem lev_s2 (s : ByteArray) (t : Tm) (hl : Lets t.free) (h60 : t.size ≤ 60) (a : ByteArray) (x : UInt8) (hx : x ∈ t.free) (hn : decB (able6 t) = true) (m : Nat) (hm : levO t x = some m) (P1 : (∀ w, Calls Tryz.prog 29 #[.string s, .string a] w fun e w' => e = .returned (.tuple #[.int .i64 (idx6 t.free 0 x : Int), .bool true]) ∧ Below w.heap.size w w')) (HO : (∀ w, Calls Tryz.prog 30 #[.string s] w fun e w' => (∃ b, e = .returned (.pointer (some ⟨b, 0, none⟩)) ∧ w.heap.size ≤ b ∧ SpSo w' b t) ∧ Below w.heap.size w w')) (w : World) : Calls Tryz.prog 25 #[.string s, .string a] w fun e w' => e = .returned (.tuple #[.int .i64 (m : Int), .bool true]) ∧ Below w.heap.size w w' := by
  have XP1 := Lib.hid P1
  have XHO := Lib.hid HO
  have XC := Lib.hid (fun (w1 : World) (b : Nat) (h : SpSo w1 b t) => sb_can h hl h60)
  have XL := Lib.hid (fun (w1 : World) (b : Nat) (h : SpSo w1 b t) => sb_level h hl h60 hx)
  rw [hn] at XC
  rw [hm, show oS (some m) = (m : Int) from rfl, show (some m).isSome = true from rfl] at XL
  obtain ⟨i, hi⟩ : ∃ i, i = idx6 t.free 0 x := ⟨_, rfl⟩
  rw [← hi] at XL XP1
  clear hl h60 hi hx hm
  clear P1 HO
  go_enter Tryz.func25, Tryz.ntmps25
  have bl : Below w.heap.size w w := Below.refl _ _
  go_wp2_with fail
  refine (XP1.out _).mono ?_
  rintro e w1 ⟨rfl, b1⟩
  replace bl := go6 bl b1
  clear b1
  go_wp2_with fail
  refine (XHO.out _).mono ?_
  rintro e w1 ⟨⟨b, rfl, hb, hs⟩, b1⟩
  replace bl := go6 bl b1
  have HS := Lib.hid hs
  clear b1 hs
  go_wp2_with fail
  refine (XC.out _ _ HS.out).mono ?_
  rintro e w1 ⟨rfl, rfl⟩
  go_wp2_with fail
  refine (XL.out _ _ HS.out).mono ?_
  rintro e w1 ⟨rfl, rfl⟩
  go_wp2_with fail
  go_ret2
  exact ⟨rfl, bl⟩
set_option maxHeartbeats 1000000 in
theorem lev_s3 (s a : ByteArray) (n : Int) (q : Bool) (P1 : (∀ w, Calls Tryz.prog 25 #[.string s, .string a] w fun e w' => e = .returned (.tuple #[.int .i64 n, .bool q]) ∧ Below w.heap.size w w')) (w : World) : Calls Tryz.prog 7 #[.string s, .string a] w fun e w' => e = .returned (.tuple #[.int .i64 n, .bool q]) ∧ Below w.heap.size w w' := by
  have XP1 := Lib.hid P1
  clear P1
  go_enter Tryz.func7, Tryz.ntmps7
  have bl : Below w.heap.size w w := Below.refl _ _
  go_wp2_with fail
  refine (XP1.out _).mono ?_
  rintro e w1 ⟨rfl, b1⟩
  replace bl := go6 bl b1
  clear b1
  go_wp2_with fail
  go_ret2
  exact ⟨rfl, bl⟩
set_option maxHeartbeats 1000000 in
theorem lev_i0 (s a : ByteArray) (HO : (∀ w, Calls Tryz.prog 21 #[.string s] w fun e w' => e = .returned (.tuple #[.pointer none, .bool false]) ∧ Below w.heap.size w w')) (w : World) : Calls Tryz.prog 6 #[.string s, .string a] w fun e w' => e = .returned (.tuple #[.int .i64 0, .bool false]) ∧ Below w.heap.size w w' := by
  have XHO := Lib.hid HO
  clear HO
  go_enter Tryz.func6, Tryz.ntmps6
  have bl : Below w.heap.size w w := Below.refl _ _
  go_wp2_with fail
  refine (XHO.out _).mono ?_
  rintro e w1 ⟨rfl, b1⟩
  replace bl := go6 bl b1
  clear b1
  go_wp2_with fail
  go_ret2
  exact ⟨rfl, bl⟩
set_option maxHeartbeats 1000000 in
theorem lev_i1 (s : ByteArray) (t : Tm) (hl : Lets t.free) (h60 : t.size ≤ 60) (a : ByteArray) (hn : decB (able6 t) = false) (HO : (∀ w, Calls Tryz.prog 21 #[.string s] w fun e w' => (∃ b, e = .returned (.tuple #[.pointer (some ⟨b, 0, none⟩), .bool true]) ∧ w.heap.size ≤ b ∧ ImSo w' b t) ∧ Below w.heap.size w w')) (w : World) : Calls Tryz.prog 6 #[.string s, .string a] w fun e w' => e = .returned (.tuple #[.int .i64 0, .bool false]) ∧ Below w.heap.size w w' := by
  have XHO := Lib.hid HO
  have XC := Lib.hid (fun (w1 : World) (b : Nat) (h : ImSo w1 b t) => ib_can h hl)
  rw [hn] at XC
  clear hl h60
  clear HO
  go_enter Tryz.func6, Tryz.ntmps6
  have bl : Below w.heap.size w w := Below.refl _ _
  go_wp2_with fail
  refine (XHO.out _).mono ?_
  rintro e w1 ⟨⟨b, rfl, hb, hs⟩, b1⟩
  replace bl := go6 bl b1
  have HS := Lib.hid hs
  clear b1 hs
  go_wp2_with fail
  refine (XC.out _ _ HS.out).mono ?_
  rintro e w1 ⟨rfl, b1⟩
  replace bl := go6 bl b1
  have HS := Lib.hid (HS.out.below b1)
  clear b1
  go_wp2_with fail
  go_ret2
  exact ⟨rfl, bl⟩
set_option maxHeartbeats 1000000 in
theorem lev_i2 (s : ByteArray) (t : Tm) (hl : Lets t.free) (h60 : t.size ≤ 60) (a : ByteArray) (hn : decB (able6 t) = true) (n : Int) (HO : (∀ w, Calls Tryz.prog 21 #[.string s] w fun e w' => (∃ b, e = .returned (.tuple #[.pointer (some ⟨b, 0, none⟩), .bool true]) ∧ w.heap.size ≤ b ∧ ImSo w' b t) ∧ Below w.heap.size w w')) (P1 : (∀ w1 bp, ImSo w1 bp t → Calls Tryz.prog 23 #[.pointer (some ⟨bp, 0, none⟩), .string a] w1 fun e w' => e = .returned (.tuple #[.int .i64 n, .bool false]) ∧ Below w1.heap.size w1 w')) (w : World) : Calls Tryz.prog 6 #[.string s, .string a] w fun e w' => e = .returned (.tuple #[.int .i64 0, .bool false]) ∧ Below w.heap.size w w' := by
  have XHO := Lib.hid HO
  have XP1 := Lib.hid P1
  have XC := Lib.hid (fun (w1 : World) (b : Nat) (h : ImSo w1 b t) => ib_can h hl)
  rw [hn] at XC
  clear hl h60
  clear HO P1
  go_enter Tryz.func6, Tryz.ntmps6
  have bl : Below w.heap.size w w := Below.refl _ _
  go_wp2_with fail
  refine (XHO.out _).mono ?_
  rintro e w1 ⟨⟨b, rfl, hb, hs⟩, b1⟩
  replace bl := go6 bl b1
  have HS := Lib.hid hs
  clear b1 hs
  go_wp2_with fail
  refine (XC.out _ _ HS.out).mono ?_
  rintro e w1 ⟨rfl, b1⟩
  replace bl := go6 bl b1
  have HS := Lib.hid (HS.out.below b1)
  clear b1
  go_wp2_with fail
  refine (XP1.out _ _ HS.out).mono ?_
  rintro e w1 ⟨rfl, b1⟩
  replace bl := go6 bl b1
  have HS := Lib.hid (HS.out.below b1)
  clear b1
  go_wp2_with fail
  go_ret2
  exact ⟨rfl, bl⟩
theorem lev_able {t : Tm} (h : decB (able6 t) = true) (a : UInt8) : ∃ m, levO t a = some m := by
  obtain ⟨m, hm⟩ := (decB_iff _).1 h (lt6 a)
  exact ⟨m, (levO_iff t a m).2 hm⟩
end Go.Proofs.YtlhmjcfnfefliaaGreat.T1

/-
  DERIVED: THE SHELF's CONTRACTS AT THIS DUMP, IN PLAIN WORDS (tools/lay-plain.mjs out of 'TryzShelf.lean', which tools/lay-shelf.mjs wrote): THE SAME DECLARATIONS UNDER THE SAME NAMES: 'import', 'namespace', 'open', 'def', 'theorem' AND NOTHING ELSE: no command of the shelf's: FOR A HAND-IN. Each laying: the table of numbers ('.._ren') and one theorem, a field a fact of the dump's own or the kernel's comparison; each contract: ONE APPLICATION.
-/
namespace Go.Proofs
open Go.Shelf
def Tryz.lays170_ren : Go.Shelf.Ren := ⟨fun | 170 => 53 | n => n, fun | 70 => 85 | 3 => 3 | 0 => 0 | 72 => 87 | 37 => 22 | 5 => 5 | n => n, fun | n => n⟩
theorem Tryz.lays170 : Go.Proofs.Lays.n170 Tryz.prog Tryz.lays170_ren := {
  mixed := by kernel_rfl
  f170 := Tryz.func53.trans (congrArg some (by kernel_rfl))
  t0 := Tryz.underlying0
  a0 := Tryz.isAgg0
  z0 := Tryz.sizeOf0
  v0 := Tryz.zeroValue0
  t3 := Tryz.underlying3
  a3 := Tryz.isAgg3
  z3 := Tryz.sizeOf3
  v3 := Tryz.zeroValue3
  t37 := Tryz.underlying22
  a37 := Tryz.isAgg22
  z37 := Tryz.sizeOf22
  v37 := Tryz.zeroValue22
  t70 := Tryz.underlying85
  a70 := Tryz.isAgg85
  z70 := Tryz.sizeOf85
  v70 := Tryz.zeroValue85
  t72 := Tryz.underlying87
  a72 := Tryz.isAgg87
  z72 := Tryz.sizeOf87
  v72 := Tryz.zeroValue87 }
open Go.RowKit in
/-- (*strings.Builder).Len: "Len returns the number of accumulated bytes; b.Len() == len(b.String()).": the world is as it was. (LAID: no walk: one application.) -/
theorem Tryz.Builder_Len (B b : Nat) (bs : List Value) (w : World) (h : Lib.IsBuilder 87 5 B b bs w) :
    Calls Tryz.prog 53 #[.pointer (some ⟨b, 0, none⟩)] w fun e w' => e = .returned (.int .i64 bs.length) ∧ w' = w := Any.Builder_Len Tryz.lays170 B b bs w h
def Tryz.lays169_ren : Go.Shelf.Ren := ⟨fun | 169 => 54 | n => n, fun | 70 => 85 | 9 => 9 | 0 => 0 | 72 => 87 | 37 => 22 | 127 => 132 | 3 => 3 | 5 => 5 | n => n, fun | n => n⟩
theorem Tryz.lays169 : Go.Proofs.Lays.n169 Tryz.prog Tryz.lays169_ren := {
  mixed := by kernel_rfl
  f169 := Tryz.func54.trans (congrArg some (by kernel_rfl))
  t0 := Tryz.underlying0
  a0 := Tryz.isAgg0
  z0 := Tryz.sizeOf0
  v0 := Tryz.zeroValue0
  t3 := Tryz.underlying3
  a3 := Tryz.isAgg3
  z3 := Tryz.sizeOf3
  v3 := Tryz.zeroValue3
  t9 := Tryz.underlying9
  a9 := Tryz.isAgg9
  z9 := Tryz.sizeOf9
  v9 := Tryz.zeroValue9
  t37 := Tryz.underlying22
  a37 := Tryz.isAgg22
  z37 := Tryz.sizeOf22
  v37 := Tryz.zeroValue22
  t70 := Tryz.underlying85
  a70 := Tryz.isAgg85
  z70 := Tryz.sizeOf85
  v70 := Tryz.zeroValue85
  t72 := Tryz.underlying87
  a72 := Tryz.isAgg87
  z72 := Tryz.sizeOf87
  v72 := Tryz.zeroValue87
  t127 := Tryz.underlying132
  a127 := Tryz.isAgg132
  z127 := Tryz.sizeOf132
  v127 := Tryz.zeroValue132 }
theorem Tryz.Builder_Extra_169 : Builder.Extra Tryz.prog Tryz.lays169_ren := {
  sizeBuilder := by kernel_rfl
  liesBuilder := by kernel_rfl
  t5 := Tryz.underlying5
  a5 := Tryz.isAgg5
  z5 := Tryz.sizeOf5
  v5 := Tryz.zeroValue5
  infoByte := by kernel_rfl
  cellsByte := by kernel_rfl
  sizeByte := by kernel_rfl
  neB5 := by decide }
open Go.RowKit in
/-- (*strings.Builder).String: "String returns the accumulated string.": OF A BUILDER THAT HOLDS AT LEAST ONE BYTE. ✋ THE MODEL FREEZES THOSE BYTES IN THE BUFFER (unsafe.String): a later write INTO them ends the model's run without an answer; a later append BEHIND them goes on. The statement's order of evaluation is drawn: one draw. (LAID: no walk: one application.) -/
theorem Tryz.Builder_String (B b : Nat) (l : List UInt8) (w : World) (h : Lib.IsBuilder 87 5 B b (Lib.byteCells l) w) (h0 : l ≠ []) :
    Calls Tryz.prog 54 #[.pointer (some ⟨b, 0, none⟩)] w fun e w' => e = .returned (.string ⟨l.toArray⟩) ∧ Below B w w' := Any.Builder_String Tryz.lays169 Tryz.Builder_Extra_169 B b l w h h0
open Go.RowKit in
/-- (*strings.Builder).String OF A BUILDER THAT HOLDS NO BYTE: the empty string. (Its buffer is nil, or a row of which it has taken nothing yet; where that row has NO capacity the model lays one new block for unsafe.SliceData's 'some address'.) One draw. (LAID: no walk: one application.) -/
theorem Tryz.Builder_String_empty (B b : Nat) (w : World) (h : Lib.IsBuilder 87 5 B b [] w) (hBw : B ≤ w.heap.size) :
    Calls Tryz.prog 54 #[.pointer (some ⟨b, 0, none⟩)] w fun e w' => e = .returned (.string ⟨#[]⟩) ∧ Below B w w' := Any.Builder_String_empty Tryz.lays169 Tryz.Builder_Extra_169 B b w h hBw
open Go.RowKit in
/-- (*strings.Builder).String: "String returns the accumulated string.": WHATEVER THE BUILDER HOLDS. (LAID: no walk: one application.) -/
theorem Tryz.Builder_String_any (B b : Nat) (l : List UInt8) (w : World) (h : Lib.IsBuilder 87 5 B b (Lib.byteCells l) w) (hBw : B ≤ w.heap.size) :
    Calls Tryz.prog 54 #[.pointer (some ⟨b, 0, none⟩)] w fun e w' => e = .returned (.string ⟨l.toArray⟩) ∧ Below B w w' := Any.Builder_String_any Tryz.lays169 Tryz.Builder_Extra_169 B b l w h hBw
def Tryz.lays241_ren : Go.Shelf.Ren := ⟨fun | 241 => 91 | 277 => 113 | n => n, fun | 70 => 85 | 3 => 3 | 0 => 0 | 72 => 87 | 37 => 22 | 5 => 5 | n => n, fun | n => n⟩
theorem Tryz.lays241 : Go.Proofs.Lays.n241 Tryz.prog Tryz.lays241_ren := {
  mixed := by kernel_rfl
  f241 := Tryz.func91.trans (congrArg some (by kernel_rfl))
  f277 := Tryz.func113.trans (congrArg some (by kernel_rfl))
  t0 := Tryz.underlying0
  a0 := Tryz.isAgg0
  z0 := Tryz.sizeOf0
  v0 := Tryz.zeroValue0
  t3 := Tryz.underlying3
  a3 := Tryz.isAgg3
  z3 := Tryz.sizeOf3
  v3 := Tryz.zeroValue3
  t37 := Tryz.underlying22
  a37 := Tryz.isAgg22
  z37 := Tryz.sizeOf22
  v37 := Tryz.zeroValue22
  t70 := Tryz.underlying85
  a70 := Tryz.isAgg85
  z70 := Tryz.sizeOf85
  v70 := Tryz.zeroValue85
  t72 := Tryz.underlying87
  a72 := Tryz.isAgg87
  z72 := Tryz.sizeOf87
  v72 := Tryz.zeroValue87 }
theorem Tryz.Builder_Extra_241 : Builder.Extra Tryz.prog Tryz.lays241_ren := {
  sizeBuilder := by kernel_rfl
  liesBuilder := by kernel_rfl
  t5 := Tryz.underlying5
  a5 := Tryz.isAgg5
  z5 := Tryz.sizeOf5
  v5 := Tryz.zeroValue5
  infoByte := by kernel_rfl
  cellsByte := by kernel_rfl
  sizeByte := by kernel_rfl
  neB5 := by decide }
open Go.RowKit in
/-- (*strings.Builder).grow (no doc but "grow copies the buffer to a new, larger buffer so that there are at least n bytes of capacity beyond len(b.buf)."): AT A BUILDER WITHOUT A BUFFER: a new row of whatever bytes for its buffer, none of them its own yet. Three draws. (LAID: no walk: one application.) -/
theorem Tryz.Builder_grow_fresh (B b n : Nat) (w : World) (hB : B ≤ b) (hbk : w.heap[b]? = some (.cells #[.pointer (some ⟨b, 0, none⟩), .slice none 0 0] 87 (0, 0))) (hBw : B ≤ w.heap.size) (hn : n ≤ 281474976710656) :
    Calls Tryz.prog 91 #[.pointer (some ⟨b, 0, none⟩), .int .i64 n] w fun e w' => e = .returned (.tuple #[]) ∧ (Lib.BuilderAt 87 5 B b (.pointer (some ⟨b, 0, none⟩)) [] w' ∧ Below B w w') := Any.Builder_grow_fresh Tryz.lays241 Tryz.Builder_Extra_241 B b n w hB hbk hBw hn
def Tryz.lays165_ren : Go.Shelf.Ren := ⟨fun | 165 => 51 | 240 => 90 | 241 => 91 | 276 => 112 | 277 => 113 | n => n, fun | 70 => 85 | 3 => 3 | 0 => 0 | 4 => 4 | 9 => 9 | 20 => 20 | 72 => 87 | 37 => 22 | 164 => 150 | 5 => 5 | n => n, fun | n => n⟩
theorem Tryz.lays165 : Go.Proofs.Lays.n165 Tryz.prog Tryz.lays165_ren := {
  mixed := by kernel_rfl
  f165 := Tryz.func51.trans (congrArg some (by kernel_rfl))
  f240 := Tryz.func90.trans (congrArg some (by kernel_rfl))
  f241 := Tryz.func91.trans (congrArg some (by kernel_rfl))
  f276 := Tryz.func112.trans (congrArg some (by kernel_rfl))
  f277 := Tryz.func113.trans (congrArg some (by kernel_rfl))
  t0 := Tryz.underlying0
  a0 := Tryz.isAgg0
  z0 := Tryz.sizeOf0
  v0 := Tryz.zeroValue0
  t3 := Tryz.underlying3
  a3 := Tryz.isAgg3
  z3 := Tryz.sizeOf3
  v3 := Tryz.zeroValue3
  t4 := Tryz.underlying4
  a4 := Tryz.isAgg4
  z4 := Tryz.sizeOf4
  v4 := Tryz.zeroValue4
  t9 := Tryz.underlying9
  a9 := Tryz.isAgg9
  z9 := Tryz.sizeOf9
  v9 := Tryz.zeroValue9
  t20 := Tryz.underlying20
  a20 := Tryz.isAgg20
  z20 := Tryz.sizeOf20
  v20 := Tryz.zeroValue20
  t37 := Tryz.underlying22
  a37 := Tryz.isAgg22
  z37 := Tryz.sizeOf22
  v37 := Tryz.zeroValue22
  t70 := Tryz.underlying85
  a70 := Tryz.isAgg85
  z70 := Tryz.sizeOf85
  v70 := Tryz.zeroValue85
  t72 := Tryz.underlying87
  a72 := Tryz.isAgg87
  z72 := Tryz.sizeOf87
  v72 := Tryz.zeroValue87
  t164 := Tryz.underlying150
  a164 := Tryz.isAgg150
  z164 := Tryz.sizeOf150
  v164 := Tryz.zeroValue150 }
theorem Tryz.Builder_Extra_165 : Builder.Extra Tryz.prog Tryz.lays165_ren := {
  sizeBuilder := by kernel_rfl
  liesBuilder := by kernel_rfl
  t5 := Tryz.underlying5
  a5 := Tryz.isAgg5
  z5 := Tryz.sizeOf5
  v5 := Tryz.zeroValue5
  infoByte := by kernel_rfl
  cellsByte := by kernel_rfl
  sizeByte := by kernel_rfl
  neB5 := by decide }
open Go.RowKit in
/-- (*strings.Builder).Grow AT A BUILDER THAT HAS NOT BEEN WRITTEN ('var b strings.Builder; b.Grow(n)'): "Grow grows b's capacity, if necessary, to guarantee space for another n bytes.": it holds no byte behind it as before it. (LAID: no walk: one application.) -/
theorem Tryz.Builder_Grow_fresh (B b n : Nat) (w : World) (hB : B ≤ b) (hbk : w.heap[b]? = some (.cells #[.pointer none, .slice none 0 0] 87 (0, 0))) (hBw : B ≤ w.heap.size) (hn : n ≤ 281474976710656) :
    Calls Tryz.prog 51 #[.pointer (some ⟨b, 0, none⟩), .int .i64 n] w fun e w' => e = .returned (.tuple #[]) ∧ (Lib.BuilderAt 87 5 B b (.pointer (some ⟨b, 0, none⟩)) [] w' ∧ Below B w w') := Any.Builder_Grow_fresh Tryz.lays165 Tryz.Builder_Extra_165 B b n w hB hbk hBw hn
open Go.RowKit in
/-- (*strings.Builder).Len: "Len returns the number of accumulated bytes; b.Len() == len(b.String()).": the world is as it was. (THE FORM '_f': 'Lib.IsBuilderF'.) (LAID: no walk: one application.) -/
theorem Tryz.Builder_Len_f (B b : Nat) (bs : List Value) (w : World) (h : Lib.IsBuilderF 87 5 B b bs w) :
    Calls Tryz.prog 53 #[.pointer (some ⟨b, 0, none⟩)] w fun e w' => e = .returned (.int .i64 bs.length) ∧ w' = w := Any.Builder_Len_f Tryz.lays170 B b bs w h
open Go.RowKit in
/-- (*strings.Builder).String: "String returns the accumulated string.": OF A BUILDER THAT HOLDS AT LEAST ONE BYTE. ✋ THE MODEL FREEZES THOSE BYTES IN THE BUFFER (unsafe.String): a later write INTO them ends the model's run without an answer; a later append BEHIND them goes on. The statement's order of evaluation is drawn: one draw. THE FORM '_f': IT SAYS BESIDES THAT THE BUILDER IS A BUILDER STILL ('Lib.IsBuilderF', the same bytes): SO IT CAN BE WRITTEN ON: 'b.WriteString(b.String()[:k])'. (LAID: no walk: one application.) -/
theorem Tryz.Builder_String_f (B b : Nat) (l : List UInt8) (w : World) (h : Lib.IsBuilderF 87 5 B b (Lib.byteCells l) w) (h0 : l ≠ []) :
    Calls Tryz.prog 54 #[.pointer (some ⟨b, 0, none⟩)] w fun e w' => e = .returned (.string ⟨l.toArray⟩) ∧ (Lib.IsBuilderF 87 5 B b (Lib.byteCells l) w' ∧ Below B w w') := Any.Builder_String_f Tryz.lays169 Tryz.Builder_Extra_169 B b l w h h0
open Go.RowKit in
/-- (*strings.Builder).String OF A BUILDER THAT HOLDS NO BYTE: the empty string; THE FORM '_f': a builder still. (LAID: no walk: one application.) -/
theorem Tryz.Builder_String_empty_f (B b : Nat) (w : World) (h : Lib.IsBuilderF 87 5 B b [] w) (hBw : B ≤ w.heap.size) :
    Calls Tryz.prog 54 #[.pointer (some ⟨b, 0, none⟩)] w fun e w' => e = .returned (.string ⟨#[]⟩) ∧ (Lib.IsBuilderF 87 5 B b [] w' ∧ Below B w w') := Any.Builder_String_empty_f Tryz.lays169 Tryz.Builder_Extra_169 B b w h hBw
open Go.RowKit in
/-- (*strings.Builder).String: "String returns the accumulated string.": WHATEVER THE BUILDER HOLDS; THE FORM '_f': OF A BUILDER THAT MAY HAVE BEEN READ BEFORE; AND IT IS A BUILDER STILL, holding the same bytes: it can be written on. (LAID: no walk: one application.) -/
theorem Tryz.Builder_String_any_f (B b : Nat) (l : List UInt8) (w : World) (h : Lib.IsBuilderF 87 5 B b (Lib.byteCells l) w) (hBw : B ≤ w.heap.size) :
    Calls Tryz.prog 54 #[.pointer (some ⟨b, 0, none⟩)] w fun e w' => e = .returned (.string ⟨l.toArray⟩) ∧ (Lib.IsBuilderF 87 5 B b (Lib.byteCells l) w' ∧ Below B w w') := Any.Builder_String_any_f Tryz.lays169 Tryz.Builder_Extra_169 B b l w h hBw
def Tryz.lays206_ren : Go.Shelf.Ren := ⟨fun | 206 => 89 | n => n, fun | 9 => 9 | 4 => 4 | 3 => 3 | n => n, fun | n => n⟩
theorem Tryz.lays206 : Go.Proofs.Lays.n206 Tryz.prog Tryz.lays206_ren := {
  mixed := by kernel_rfl
  f206 := Tryz.func89.trans (congrArg some (by kernel_rfl))
  t3 := Tryz.underlying3
  a3 := Tryz.isAgg3
  z3 := Tryz.sizeOf3
  v3 := Tryz.zeroValue3
  t4 := Tryz.underlying4
  a4 := Tryz.isAgg4
  z4 := Tryz.sizeOf4
  v4 := Tryz.zeroValue4
  t9 := Tryz.underlying9
  a9 := Tryz.isAgg9
  z9 := Tryz.sizeOf9
  v9 := Tryz.zeroValue9 }
open Go.RowKit Go.Lib in
/-- internal/stringslite.HasPrefix (what strings.HasPrefix calls). (LAID: no walk: one application.) -/
theorem Tryz.stringslite_HasPrefix (s p : ByteArray) (w : World) :
    Calls Tryz.prog 89 #[.string s, .string p] w fun e w' => e = .returned (.bool (Lib.hasPrefix s.data.toList p.data.toList)) ∧ w' = w := Any.stringslite_HasPrefix Tryz.lays206 s p w
def Tryz.lays99_ren : Go.Shelf.Ren := ⟨fun | 99 => 50 | 206 => 89 | n => n, fun | 9 => 9 | 4 => 4 | 3 => 3 | n => n, fun | n => n⟩
theorem Tryz.lays99 : Go.Proofs.Lays.n99 Tryz.prog Tryz.lays99_ren := {
  mixed := by kernel_rfl
  f99 := Tryz.func50.trans (congrArg some (by kernel_rfl))
  f206 := Tryz.func89.trans (congrArg some (by kernel_rfl))
  t3 := Tryz.underlying3
  a3 := Tryz.isAgg3
  z3 := Tryz.sizeOf3
  v3 := Tryz.zeroValue3
  t4 := Tryz.underlying4
  a4 := Tryz.isAgg4
  z4 := Tryz.sizeOf4
  v4 := Tryz.zeroValue4
  t9 := Tryz.underlying9
  a9 := Tryz.isAgg9
  z9 := Tryz.sizeOf9
  v9 := Tryz.zeroValue9 }
open Go.RowKit Go.Lib in
/-- strings.HasPrefix: "HasPrefix reports whether the string s begins with prefix.": IT RETURNS 'Lib.hasPrefix s prefix'; the world is as it was. (LAID: no walk: one application.) -/
theorem Tryz.strings_HasPrefix (s p : ByteArray) (w : World) :
    Calls Tryz.prog 50 #[.string s, .string p] w fun e w' => e = .returned (.bool (Lib.hasPrefix s.data.toList p.data.toList)) ∧ w' = w := Any.strings_HasPrefix Tryz.lays99 s p w
def Tryz.lays264_ren : Go.Shelf.Ren := ⟨fun | 264 => 88 | n => n, fun | 53 => 36 | 46 => 81 | n => n, fun | n => n⟩
theorem Tryz.lays264 : Go.Proofs.Lays.n264 Tryz.prog Tryz.lays264_ren := {
  mixed := by kernel_rfl
  f264 := Tryz.func88.trans (congrArg some (by kernel_rfl))
  t46 := Tryz.underlying81
  a46 := Tryz.isAgg81
  z46 := Tryz.sizeOf81
  v46 := Tryz.zeroValue81
  t53 := Tryz.underlying36
  a53 := Tryz.isAgg36
  z53 := Tryz.sizeOf36
  v53 := Tryz.zeroValue36 }
open Go.RowKit Go.Lib in
theorem Tryz.bits_Mul64 (x y : Nat) (hx : x < 18446744073709551616) (hy : y < 18446744073709551616) (w : World) :
    Calls Tryz.prog 88 #[.int .u64 x, .int .u64 y] w fun e w' => e = .returned (.tuple #[.int .u64 ((x * y / 18446744073709551616 : Nat) : Int), .int .u64 ((x * y % 18446744073709551616 : Nat) : Int)]) ∧ w' = w := Any.bits_Mul64 Tryz.lays264 x y hx hy w
def Tryz.lays212_ren : Go.Shelf.Ren := ⟨fun | 212 => 49 | 263 => 87 | 264 => 88 | n => n, fun | 46 => 81 | 51 => 71 | 146 => 128 | 53 => 36 | 148 => 130 | n => n, fun | n => n⟩
theorem Tryz.lays212 : Go.Proofs.Lays.n212 Tryz.prog Tryz.lays212_ren := {
  mixed := by kernel_rfl
  f212 := Tryz.func49.trans (congrArg some (by kernel_rfl))
  f263 := Tryz.func87.trans (congrArg some (by kernel_rfl))
  f264 := Tryz.func88.trans (congrArg some (by kernel_rfl))
  t46 := Tryz.underlying81
  a46 := Tryz.isAgg81
  z46 := Tryz.sizeOf81
  v46 := Tryz.zeroValue81
  t51 := Tryz.underlying71
  a51 := Tryz.isAgg71
  z51 := Tryz.sizeOf71
  v51 := Tryz.zeroValue71
  t53 := Tryz.underlying36
  a53 := Tryz.isAgg36
  z53 := Tryz.sizeOf36
  v53 := Tryz.zeroValue36
  t146 := Tryz.underlying128
  a146 := Tryz.isAgg128
  z146 := Tryz.sizeOf128
  v146 := Tryz.zeroValue128
  t148 := Tryz.underlying130
  a148 := Tryz.isAgg130
  z148 := Tryz.sizeOf130
  v148 := Tryz.zeroValue130 }
open Go.RowKit Go.Lib in
/-- math/bits.Mul: "Mul returns the full-width product of x and y": on a machine of 64 bits: Mul64's. (LAID: no walk: one application.) -/
theorem Tryz.bits_Mul (x y : Nat) (hx : x < 18446744073709551616) (hy : y < 18446744073709551616) (w : World) :
    Calls Tryz.prog 49 #[.int .u64 x, .int .u64 y] w fun e w' => e = .returned (.tuple #[.int .u64 ((x * y / 18446744073709551616 : Nat) : Int), .int .u64 ((x * y % 18446744073709551616 : Nat) : Int)]) ∧ w' = w := Any.bits_Mul Tryz.lays212 x y hx hy w
def Tryz.lays105_ren : Go.Shelf.Ren := ⟨fun | 105 => 26 | 212 => 49 | 99 => 50 | 165 => 51 | 166 => 52 | 170 => 53 | 169 => 54 | 263 => 87 | 264 => 88 | 206 => 89 | 240 => 90 | 241 => 91 | 276 => 112 | 277 => 113 | n => n, fun | 9 => 9 | 3 => 3 | 4 => 4 | 20 => 20 | 0 => 0 | 46 => 81 | 109 => 82 | 5 => 5 | 72 => 87 | 76 => 91 | 51 => 71 | 146 => 128 | 53 => 36 | 148 => 130 | 70 => 85 | 37 => 22 | 75 => 90 | 127 => 132 | 164 => 150 | 80 => 65 | n => n, fun | n => n⟩
theorem Tryz.lays105 : Go.Proofs.Lays.n105 Tryz.prog Tryz.lays105_ren := {
  mixed := by kernel_rfl
  f99 := Tryz.func50.trans (congrArg some (by kernel_rfl))
  f105 := Tryz.func26.trans (congrArg some (by kernel_rfl))
  f165 := Tryz.func51.trans (congrArg some (by kernel_rfl))
  f166 := Tryz.func52.trans (congrArg some (by kernel_rfl))
  f169 := Tryz.func54.trans (congrArg some (by kernel_rfl))
  f170 := Tryz.func53.trans (congrArg some (by kernel_rfl))
  f206 := Tryz.func89.trans (congrArg some (by kernel_rfl))
  f212 := Tryz.func49.trans (congrArg some (by kernel_rfl))
  f240 := Tryz.func90.trans (congrArg some (by kernel_rfl))
  f241 := Tryz.func91.trans (congrArg some (by kernel_rfl))
  f263 := Tryz.func87.trans (congrArg some (by kernel_rfl))
  f264 := Tryz.func88.trans (congrArg some (by kernel_rfl))
  f276 := Tryz.func112.trans (congrArg some (by kernel_rfl))
  f277 := Tryz.func113.trans (congrArg some (by kernel_rfl))
  t0 := Tryz.underlying0
  a0 := Tryz.isAgg0
  z0 := Tryz.sizeOf0
  v0 := Tryz.zeroValue0
  t3 := Tryz.underlying3
  a3 := Tryz.isAgg3
  z3 := Tryz.sizeOf3
  v3 := Tryz.zeroValue3
  t4 := Tryz.underlying4
  a4 := Tryz.isAgg4
  z4 := Tryz.sizeOf4
  v4 := Tryz.zeroValue4
  t5 := Tryz.underlying5
  a5 := Tryz.isAgg5
  z5 := Tryz.sizeOf5
  v5 := Tryz.zeroValue5
  t9 := Tryz.underlying9
  a9 := Tryz.isAgg9
  z9 := Tryz.sizeOf9
  v9 := Tryz.zeroValue9
  t20 := Tryz.underlying20
  a20 := Tryz.isAgg20
  z20 := Tryz.sizeOf20
  v20 := Tryz.zeroValue20
  t37 := Tryz.underlying22
  a37 := Tryz.isAgg22
  z37 := Tryz.sizeOf22
  v37 := Tryz.zeroValue22
  t46 := Tryz.underlying81
  a46 := Tryz.isAgg81
  z46 := Tryz.sizeOf81
  v46 := Tryz.zeroValue81
  t51 := Tryz.underlying71
  a51 := Tryz.isAgg71
  z51 := Tryz.sizeOf71
  v51 := Tryz.zeroValue71
  t53 := Tryz.underlying36
  a53 := Tryz.isAgg36
  z53 := Tryz.sizeOf36
  v53 := Tryz.zeroValue36
  t70 := Tryz.underlying85
  a70 := Tryz.isAgg85
  z70 := Tryz.sizeOf85
  v70 := Tryz.zeroValue85
  t72 := Tryz.underlying87
  a72 := Tryz.isAgg87
  z72 := Tryz.sizeOf87
  v72 := Tryz.zeroValue87
  t75 := Tryz.underlying90
  a75 := Tryz.isAgg90
  z75 := Tryz.sizeOf90
  v75 := Tryz.zeroValue90
  t76 := Tryz.underlying91
  a76 := Tryz.isAgg91
  z76 := Tryz.sizeOf91
  v76 := Tryz.zeroValue91
  t109 := Tryz.underlying82
  a109 := Tryz.isAgg82
  z109 := Tryz.sizeOf82
  v109 := Tryz.zeroValue82
  t127 := Tryz.underlying132
  a127 := Tryz.isAgg132
  z127 := Tryz.sizeOf132
  v127 := Tryz.zeroValue132
  t146 := Tryz.underlying128
  a146 := Tryz.isAgg128
  z146 := Tryz.sizeOf128
  v146 := Tryz.zeroValue128
  t148 := Tryz.underlying130
  a148 := Tryz.isAgg130
  z148 := Tryz.sizeOf130
  v148 := Tryz.zeroValue130
  t164 := Tryz.underlying150
  a164 := Tryz.isAgg150
  z164 := Tryz.sizeOf150
  v164 := Tryz.zeroValue150 }
theorem Tryz.Builder_Extra_105 : Builder.Extra Tryz.prog Tryz.lays105_ren := {
  sizeBuilder := by kernel_rfl
  liesBuilder := by kernel_rfl
  t5 := Tryz.underlying5
  a5 := Tryz.isAgg5
  z5 := Tryz.sizeOf5
  v5 := Tryz.zeroValue5
  infoByte := by kernel_rfl
  cellsByte := by kernel_rfl
  sizeByte := by kernel_rfl
  neB5 := by decide }
open Go.RowKit Go.Lib in
/-- THE MAIN CASE: at least two copies of a string that is not empty. (LAID: no walk: one application.) -/
theorem Tryz.strings_Repeat_main (s : ByteArray) (c : Nat) (w : World) (hc2 : 2 ≤ c) (hc : c ≤ 9223372036854775807) (hlen : s.size * c ≤ 140737488355328) (h0 : 0 < s.size) :
    Calls Tryz.prog 26 #[.string s, .int .i64 c] w fun e w' => e = .returned (.string ⟨(Lib.repeatL s.data.toList c).toArray⟩) ∧ Below w.heap.size w w' := Any.strings_Repeat_main Tryz.lays105 Tryz.Builder_Extra_105 s c w hc2 hc hlen h0
open Go.RowKit Go.Lib in
theorem Tryz.strings_Repeat_zero (s : ByteArray) (w : World) :
    Calls Tryz.prog 26 #[.string s, .int .i64 0] w fun e w' => e = .returned (.string ⟨#[]⟩) ∧ w' = w := Any.strings_Repeat_zero Tryz.lays105 s w
open Go.RowKit Go.Lib in
theorem Tryz.strings_Repeat_one (s : ByteArray) (w : World) :
    Calls Tryz.prog 26 #[.string s, .int .i64 1] w fun e w' => e = .returned (.string s) ∧ w' = w := Any.strings_Repeat_one Tryz.lays105 s w
open Go.RowKit Go.Lib in
/-- Copies of the empty string. (LAID: no walk: one application.) -/
theorem Tryz.strings_Repeat_empty (s : ByteArray) (c : Nat) (w : World) (hc2 : 2 ≤ c) (hc : c ≤ 9223372036854775807) (h0 : s.size = 0) :
    Calls Tryz.prog 26 #[.string s, .int .i64 c] w fun e w' => e = .returned (.string ⟨#[]⟩) ∧ w' = w := Any.strings_Repeat_empty Tryz.lays105 s c w hc2 hc h0
open Go.RowKit Go.Lib in
/-- count < 0: "It panics if count is negative". (LAID: no walk: one application.) -/
theorem Tryz.strings_Repeat_negative (s : ByteArray) (c : Int) (w : World) (hc : c < 0) :
    Calls Tryz.prog 26 #[.string s, .int .i64 c] w fun e w' => e = .panicked [{ v := repeatPanic Tryz.lays105_ren "strings: negative Repeat count", recovered := false }] ∧ w' = w := Any.strings_Repeat_negative Tryz.lays105 s c w hc
open Go.RowKit Go.Lib in
/-- len(s) * count is no int: ".. or if the result of (len(s) * count) overflows". (LAID: no walk: one application.) -/
theorem Tryz.strings_Repeat_overflow (s : ByteArray) (c : Nat) (w : World) (hc : c ≤ 9223372036854775807) (hs : s.size ≤ 9223372036854775807) (hbig : 9223372036854775807 < s.size * c) :
    Calls Tryz.prog 26 #[.string s, .int .i64 c] w fun e w' => e = .panicked [{ v := repeatPanic Tryz.lays105_ren "strings: Repeat output length overflow", recovered := false }] ∧ w' = w := Any.strings_Repeat_overflow Tryz.lays105 s c w hc hs hbig
open Go.RowKit Go.Lib in
/-- **strings.Repeat: count ≥ 0, the result within one allocation: count copies of s.** (LAID: no walk: one application.) -/
theorem Tryz.strings_Repeat (s : ByteArray) (c : Nat) (w : World) (hc : c ≤ 9223372036854775807) (hlen : s.size * c ≤ 140737488355328) :
    Calls Tryz.prog 26 #[.string s, .int .i64 c] w fun e w' => e = .returned (.string ⟨(Lib.repeatL s.data.toList c).toArray⟩) ∧ Below w.heap.size w w' := Any.strings_Repeat Tryz.lays105 Tryz.Builder_Extra_105 s c w hc hlen
end Go.Proofs

/- What both sides answer: levels as texts. MADE BY gen_Qf.py. -/
namespace Go.Proofs.YtlhmjcfnfefliaaGreat.T1
open Go.RowKit
set_option maxRecDepth 100000
set_option linter.unusedVariables false
set_option linter.unusedSimpArgs false

theorem sb_bound {w : World} {b : Nat} {t : Tm} (h : SpSo w b t) (hl : Lets t.free) (h60 : t.size ≤ 60) {x : UInt8} (hx : x ∈ t.free) {m : Nat} (hm : levO t x = some m) : m ≤ 1000 := by
  obtain ⟨f, r, c, v1, v2, h1, h2⟩ := h
  have h3 := (lev6_idx (nd6 t) hl hx m).1 ((levO_iff t x m).1 hm)
  have := h2.cls.lev_lt (fun i hi => h2.rlt hi) (bndS t) (fun i x e => h2.clt _ x e) (idx_lt t hx) h3
  have := (NS t).2
  have := srt_lenL (srt_free t) hl
  omega
theorem ib_bound {w : World} {b : Nat} {t : Tm} (h : ImSo w b t) (hl : Lets t.free) (h60 : t.size ≤ 60) {x : UInt8} (hx : x ∈ t.free) {m : Nat} (hm : levO t x = some m) : m ≤ 1000 := by
  obtain ⟨f, r, c, h1, h2⟩ := h
  have h3 := (levO_iff t x m).1 hm
  have := h2.cls.lev_lt (fun i hi => h2.rlt hi) (bnd6 hl) (fun i x e => h2.clt _ x e) (lt6_lt hl hx) h3
  have := (ask6_next t lt6 26).2
  omega
def PS (k : Nat) : ByteArray := B (List.replicate k 40 ++ 111 :: List.replicate k 41)
theorem PS_size (k : Nat) : (PS k).size = 2 * k + 1 := by unfold PS; rw [B_size]; simp; omega
theorem PS_step (k : Nat) : (⟨#[40]⟩ : ByteArray) ++ PS k ++ ⟨#[41]⟩ = PS (k + 1) := by
  apply ByteArray.ext
  apply Array.ext'
  rw [ByteArray.data_append, ByteArray.data_append, Array.toList_append, Array.toList_append]
  show [40] ++ (List.replicate k (40 : UInt8) ++ 111 :: List.replicate k 41) ++ [41] = List.replicate (k + 1) 40 ++ 111 :: List.replicate (k + 1) 41
  rw [List.replicate_succ, List.replicate_succ']
  simp
theorem rep_one (c : UInt8) : ∀ k, Lib.repeatL [c] k = List.replicate k c
  | 0 => rfl
  | k + 1 => by rw [Lib.repeatL, rep_one c k]; rfl
theorem PS_rep (m : Nat) : (⟨(Lib.repeatL [40] m).toArray⟩ : ByteArray) ++ ⟨#[111]⟩ ++ ⟨(Lib.repeatL [41] m).toArray⟩ = PS m := by
  apply ByteArray.ext
  apply Array.ext'
  rw [ByteArray.data_append, ByteArray.data_append, Array.toList_append, Array.toList_append, rep_one, rep_one]
  show (List.replicate m (40 : UInt8)) ++ [111] ++ List.replicate m 41 = List.replicate m 40 ++ 111 :: List.replicate m 41
  simp
theorem rep_size (c : UInt8) (m : Nat) : (⟨(Lib.repeatL [c] m).toArray⟩ : ByteArray).size = m := by
  rw [rep_one]
  show (List.replicate m c).toArray.size = m
  simp
set_option maxHeartbeats 1000000 in
theorem lev_s4 (s : ByteArray) (t : Tm) (hl : Lets t.free) (h60 : t.size ≤ 60) (a : ByteArray) (x : UInt8) (hx : x ∈ t.free) (hn : decB (able6 t) = true) (m : Nat) (hm : levO t x = some m) (P1 : (∀ w, Calls Tryz.prog 29 #[.string s, .string a] w fun e w' => e = .returned (.tuple #[.int .i64 (idx6 t.free 0 x : Int), .bool true]) ∧ Below w.heap.size w w')) (HO : (∀ w, Calls Tryz.prog 30 #[.string s] w fun e w' => (∃ b, e = .returned (.pointer (some ⟨b, 0, none⟩)) ∧ w.heap.size ≤ b ∧ SpSo w' b t) ∧ Below w.heap.size w w')) (w : World) : Calls Tryz.prog 25 #[.string s, .string a] w fun e w' => e = .returned (.tuple #[.int .i64 (m : Int), .bool true]) ∧ m ≤ 1000 ∧ Below w.heap.size w w' := by
  have XP1 := Lib.hid P1
  have XHO := Lib.hid HO
  have XC := Lib.hid (fun (w1 : World) (b : Nat) (h : SpSo w1 b t) => sb_can h hl h60)
  have XL := Lib.hid (fun (w1 : World) (b : Nat) (h : SpSo w1 b t) => sb_level h hl h60 hx)
  have XB := Lib.hid (fun (w1 : World) (b : Nat) (h : SpSo w1 b t) => sb_bound h hl h60 hx hm)
  rw [hn] at XC
  rw [hm, show oS (some m) = (m : Int) from rfl, show (some m).isSome = true from rfl] at XL
  obtain ⟨i, hi⟩ : ∃ i, i = idx6 t.free 0 x := ⟨_, rfl⟩
  rw [← hi] at XL XP1
  clear hl h60 hi hx hm
  clear P1 HO
  go_enter Tryz.func25, Tryz.ntmps25
  have bl : Below w.heap.size w w := Below.refl _ _
  go_wp2_with fail
  refine (XP1.out _).mono ?_
  rintro e w1 ⟨rfl, b1⟩
  replace bl := go6 bl b1
  clear b1
  go_wp2_with fail
  refine (XHO.out _).mono ?_
  rintro e w1 ⟨⟨b, rfl, hb, hs⟩, b1⟩
  replace bl := go6 bl b1
  have HS := Lib.hid hs
  clear b1 hs
  have HB := Lib.hid (XB.out _ _ HS.out)
  go_wp2_with fail
  refine (XC.out _ _ HS.out).mono ?_
  rintro e w1 ⟨rfl, rfl⟩
  go_wp2_with fail
  refine (XL.out _ _ HS.out).mono ?_
  rintro e w1 ⟨rfl, rfl⟩
  go_wp2_with fail
  go_ret2
  exact ⟨rfl, HB.out, bl⟩
set_option maxHeartbeats 1000000 in
theorem lev_i4 (s : ByteArray) (t : Tm) (hl : Lets t.free) (h60 : t.size ≤ 60) (a : ByteArray) (x : UInt8) (hx : x ∈ t.free) (hn : decB (able6 t) = true) (m : Nat) (hm : levO t x = some m) (HO : (∀ w, Calls Tryz.prog 21 #[.string s] w fun e w' => (∃ b, e = .returned (.tuple #[.pointer (some ⟨b, 0, none⟩), .bool true]) ∧ w.heap.size ≤ b ∧ ImSo w' b t) ∧ Below w.heap.size w w')) (P1 : (∀ w1 bp, ImSo w1 bp t → Calls Tryz.prog 23 #[.pointer (some ⟨bp, 0, none⟩), .string a] w1 fun e w' => e = .returned (.tuple #[.int .i64 (lt6 x : Int), .bool true]) ∧ Below w1.heap.size w1 w')) (w : World) : Calls Tryz.prog 6 #[.string s, .string a] w fun e w' => e = .returned (.tuple #[.int .i64 (m : Int), .bool true]) ∧ m ≤ 1000 ∧ Below w.heap.size w w' := by
  have XHO := Lib.hid HO
  have XP1 := Lib.hid P1
  have XC := Lib.hid (fun (w1 : World) (b : Nat) (h : ImSo w1 b t) => ib_can h hl)
  have XL := Lib.hid (fun (w1 : World) (b : Nat) (h : ImSo w1 b t) => ib_level h hl hx)
  have XB := Lib.hid (fun (w1 : World) (b : Nat) (h : ImSo w1 b t) => ib_bound h hl h60 hx hm)
  rw [hn] at XC
  rw [hm, show oI (some m) = (m : Int) from rfl, show (some m).isSome = true from rfl] at XL
  obtain ⟨i, hi⟩ : ∃ i, i = lt6 x := ⟨_, rfl⟩
  rw [← hi] at XL XP1
  clear hl h60 hi hx hm
  clear HO P1
  go_enter Tryz.func6, Tryz.ntmps6
  have bl : Below w.heap.size w w := Below.refl _ _
  go_wp2_with fail
  refine (XHO.out _).mono ?_
  rintro e w1 ⟨⟨b, rfl, hb, hs⟩, b1⟩
  replace bl := go6 bl b1
  have HS := Lib.hid hs
  clear b1 hs
  have HB := Lib.hid (XB.out _ _ HS.out)
  go_wp2_with fail
  refine (XC.out _ _ HS.out).mono ?_
  rintro e w1 ⟨rfl, b1⟩
  replace bl := go6 bl b1
  have HS := Lib.hid (HS.out.below b1)
  clear b1
  go_wp2_with fail
  refine (XP1.out _ _ HS.out).mono ?_
  rintro e w1 ⟨rfl, b1⟩
  replace bl := go6 bl b1
  have HS := Lib.hid (HS.out.below b1)
  clear b1
  go_wp2_with fail
  refine (XL.out _ _ HS.out).mono ?_
  rintro e w1 ⟨rfl, b1⟩
  replace bl := go6 bl b1
  have HS := Lib.hid (HS.out.below b1)
  clear b1
  go_wp2_with fail
  go_ret2
  exact ⟨rfl, HB.out, bl⟩
set_option maxHeartbeats 1000000 in
theorem st_s0 (s a : ByteArray) (P1 : (∀ w, Calls Tryz.prog 25 #[.string s, .string a] w fun e w' => e = .returned (.tuple #[.int .i64 0, .bool false]) ∧ Below w.heap.size w w')) (w : World) : Calls Tryz.prog 9 #[.string s, .string a] w fun e w' => e = .returned (.tuple #[.string ⟨#[]⟩, .bool false]) ∧ Below w.heap.size w w' := by
  have XP1 := Lib.hid P1
  clear P1
  go_enter Tryz.func9, Tryz.ntmps9
  have bl : Below w.heap.size w w := Below.refl _ _
  go_wp2_with fail
  refine (XP1.out _).mono ?_
  rintro e w1 ⟨rfl, b1⟩
  replace bl := go6 bl b1
  clear b1
  go_wp2_with fail
  go_ret2
  exact ⟨rfl, bl⟩
set_option maxHeartbeats 1000000 in
theorem st_i0 (s a : ByteArray) (P1 : (∀ w, Calls Tryz.prog 6 #[.string s, .string a] w fun e w' => e = .returned (.tuple #[.int .i64 0, .bool false]) ∧ Below w.heap.size w w')) (w : World) : Calls Tryz.prog 8 #[.string s, .string a] w fun e w' => e = .returned (.tuple #[.string ⟨#[]⟩, .bool false]) ∧ Below w.heap.size w w' := by
  have XP1 := Lib.hid P1
  clear P1
  go_enter Tryz.func8, Tryz.ntmps8
  have bl : Below w.heap.size w w := Below.refl _ _
  go_wp2_with fail
  refine (XP1.out _).mono ?_
  rintro e w1 ⟨rfl, b1⟩
  replace bl := go6 bl b1
  clear b1
  go_wp2_with fail
  go_ret2
  exact ⟨rfl, bl⟩
set_option maxHeartbeats 2000000 in
theorem st_s1 (s a : ByteArray) (m : Nat) (P1 : (∀ w, Calls Tryz.prog 25 #[.string s, .string a] w fun e w' => e = .returned (.tuple #[.int .i64 (m : Int), .bool true]) ∧ m ≤ 1000 ∧ Below w.heap.size w w')) (w : World) : Calls Tryz.prog 9 #[.string s, .string a] w fun e w' => e = .returned (.tuple #[.string (PS m), .bool true]) ∧ Below w.heap.size w w' := by
  have XP1 := Lib.hid P1
  have XS := Lib.hid PS_size
  have XT := Lib.hid PS_step
  obtain ⟨F, hF⟩ : ∃ F : Nat → ByteArray, F = PS := ⟨_, rfl⟩
  have f0 : F 0 = ⟨#[111]⟩ := by rw [hF]; rfl
  rw [← hF] at XS XT ⊢
  have F0 := Lib.hid f0
  clear P1 hF f0
  go_enter Tryz.func9, Tryz.ntmps9
  have bl : Below w.heap.size w w := Below.refl _ _
  go_wp2_with fail
  refine (XP1.out _).mono ?_
  rintro e w1 ⟨rfl, hm1, b1⟩
  replace bl := go6 bl b1
  clear b1
  go_wp2_with fail
  go_loopg [6, 8] m (fun gk s6 s8 wr => (s6 = .int .i64 (gk : Int) ∧ gk ≤ m ∧ s8 = .string (F (m - gk))) ∧ wr = w1)
  case atStart => exact ⟨⟨rfl, Nat.le_refl _, by rw [Nat.sub_self, F0.out]⟩, rfl⟩
  case round =>
    obtain ⟨⟨rfl, hg, rfl⟩, rfl⟩ := hrel
    obtain ⟨k, hk⟩ : ∃ k, k = m - gk := ⟨_, rfl⟩
    rw [← hk]
    have z := XS.out k
    have st := Lib.hid (XT.out k)
    obtain ⟨s0, hs0⟩ : ∃ s0, s0 = F k := ⟨_, rfl⟩
    rw [← hs0] at z st ⊢
    by_cases hg0 : 0 < gk
    · have q0 : (0 : Int) < (gk : Int) := by omega
      have hc1 : ¬ 9223372036854775807 < (⟨#[40]⟩ : ByteArray).size + s0.size := by show ¬ 9223372036854775807 < 1 + s0.size; omega
      have hc2 : ¬ 9223372036854775807 < ((⟨#[40]⟩ : ByteArray) ++ s0).size + (⟨#[41]⟩ : ByteArray).size := by rw [ByteArray.size_append]; show ¬ 9223372036854775807 < 1 + s0.size + 1; omega
      have e2 := Lib.hid (show F (m - (gk - 1)) = (⟨#[40]⟩ : ByteArray) ++ s0 ++ ⟨#[41]⟩ by rw [st.out, show m - (gk - 1) = k + 1 by omega])
      clear hs0 st
      go_wp2_with fail
      go_roundg (gk - 1)
      case measure => omega
      case rel => exact ⟨⟨by go_num, by omega, by rw [e2.out]; try rfl⟩, rfl⟩
    · have q0 : ¬ (0 : Int) < (gk : Int) := by omega
      have e2 := Lib.hid (show s0 = F m by rw [hs0, hk, show gk = 0 by omega, Nat.sub_zero])
      clear hs0 st
      go_wp2_with fail
      go_ret2
      exact ⟨by rw [← e2.out]; rfl, bl⟩
set_option maxHeartbeats 2000000 in
theorem st_i1 (s a : ByteArray) (m : Nat) (P1 : (∀ w, Calls Tryz.prog 6 #[.string s, .string a] w fun e w' => e = .returned (.tuple #[.int .i64 (m : Int), .bool true]) ∧ m ≤ 1000 ∧ Below w.heap.size w w')) (w : World) : Calls Tryz.prog 8 #[.string s, .string a] w fun e w' => e = .returned (.tuple #[.string (PS m), .bool true]) ∧ Below w.heap.size w w' := by
  have XP1 := Lib.hid P1
  have R1 : Hid (m ≤ 1000 → ∀ w, Calls Tryz.prog 26 #[.string ⟨#[40]⟩, .int .i64 (m : Int)] w fun e w' => e = .returned (.string ⟨(Lib.repeatL [40] m).toArray⟩) ∧ Below w.heap.size w w') := fun h w => Tryz.strings_Repeat ⟨#[40]⟩ m w (by omega) (by show 1 * m ≤ _; omega)
  have R2 : Hid (m ≤ 1000 → ∀ w, Calls Tryz.prog 26 #[.string ⟨#[41]⟩, .int .i64 (m : Int)] w fun e w' => e = .returned (.string ⟨(Lib.repeatL [41] m).toArray⟩) ∧ Below w.heap.size w w') := fun h w => Tryz.strings_Repeat ⟨#[41]⟩ m w (by omega) (by show 1 * m ≤ _; omega)
  have HP := Lib.hid (PS_rep m)
  have z1 := rep_size 40 m
  have z2 := rep_size 41 m
  obtain ⟨X1, h1⟩ : ∃ X : ByteArray, X = ⟨(Lib.repeatL [40] m).toArray⟩ := ⟨_, rfl⟩
  obtain ⟨X2, h2⟩ : ∃ X : ByteArray, X = ⟨(Lib.repeatL [41] m).toArray⟩ := ⟨_, rfl⟩
  rw [← h1] at R1 HP z1
  rw [← h2] at R2 HP z2
  clear P1 h1 h2
  go_enter Tryz.func8, Tryz.ntmps8
  have bl : Below w.heap.size w w := Below.refl _ _
  go_wp2_with fail
  refine (XP1.out _).mono ?_
  rintro e w1 ⟨rfl, hm1, b1⟩
  replace bl := go6 bl b1
  clear b1
  have RR1 := Lib.hid (R1.out hm1)
  have RR2 := Lib.hid (R2.out hm1)
  have hc1 : ¬ 9223372036854775807 < X1.size + (⟨#[111]⟩ : ByteArray).size := by show ¬ 9223372036854775807 < X1.size + 1; omega
  have hc2 : ¬ 9223372036854775807 < (X1 ++ (⟨#[111]⟩ : ByteArray)).size + X2.size := by rw [ByteArray.size_append]; show ¬ 9223372036854775807 < X1.size + 1 + X2.size; omega
  go_wp2_with fail
  refine (RR1.out _).mono ?_
  rintro e w1 ⟨rfl, b1⟩
  replace bl := go6 bl b1
  clear b1
  go_wp2_with fail
  refine (RR2.out _).mono ?_
  rintro e w1 ⟨rfl, b1⟩
  replace bl := go6 bl b1
  clear b1
  go_wp2_with fail
  go_ret2
  exact ⟨by rw [← HP.out]; rfl, bl⟩
end Go.Proofs.YtlhmjcfnfefliaaGreat.T1
