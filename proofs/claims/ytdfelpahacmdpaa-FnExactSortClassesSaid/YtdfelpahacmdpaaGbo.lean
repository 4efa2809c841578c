/- Texts of the proof, put together: Qb. No conditions. -/
import Derived.Test.YtdfelpahacmdpaaGbm
import Derived.Test.YtdfelpahacmdpaaGbn

/- Sorts in the program: what is asked of those of a process. -/
namespace Go.Proofs.Ytdfelpahacmdpaa.T1
open Go.RowKit
set_option maxRecDepth 100000
set_option linter.unusedVariables false
set_option linter.unusedSimpArgs false

/-- Block b has the sorts of a process. -/
def ImSo (w : World) (b : Nat) (t : Tm) : Prop := Sta w b (setN t.free) (ask6 t lt6 26).2 (ask6 t lt6 26).1
theorem ImSo.below {w w' : World} {b : Nat} {t : Tm} (h : ImSo w b t) (k : Below w.heap.size w w') : ImSo w' b t := Sta.below h k
theorem N26 (t : Tm) : 26 ≤ (ask6 t lt6 26).2 := (ask6_next t lt6 26).1
theorem lt6_lt {t : Tm} (hl : Lets t.free) {c : UInt8} (h : c ∈ t.free) : lt6 c < (ask6 t lt6 26).2 := by
  have := hl c h; have := N26 t; have e : lt6 c = c.toNat - 97 := rfl; omega
theorem bnd6 {t : Tm} (hl : Lets t.free) : ∀ i x, C6 (ask6 t lt6 26).1 i x → i < (ask6 t lt6 26).2 ∧ x < (ask6 t lt6 26).2 :=
  (bounds6 t lt6 26 (fun c hc => by have := hl c hc; unfold lt6; omega)).2
theorem ib_can {w : World} {b : Nat} {t : Tm} (h : ImSo w b t) (hl : Lets t.free) : Calls Try.prog 31 #[.pointer (some ⟨b, 0, none⟩)] w fun e w' => e = .returned (.bool (decB (able6 t))) ∧ Below w.heap.size w w' := by
  obtain ⟨f, r, c, h1, h2⟩ := h
  refine (canBeSorted_any h1 h2 (bnd6 hl)).mono ?_
  rintro e w' ⟨⟨q, he, hq⟩, bl⟩
  refine ⟨?_, bl⟩
  rw [he, show q = decB (able6 t) from by rw [Bool.eq_iff_iff, decB_iff, hq, able6_lt t hl]]
theorem ib_same {w : World} {b : Nat} {t : Tm} (h : ImSo w b t) {i j : Nat} (hi : i < (ask6 t lt6 26).2) (hj : j < (ask6 t lt6 26).2) : Calls Try.prog 35 #[.pointer (some ⟨b, 0, none⟩), .int .i64 (i : Int), .int .i64 (j : Int)] w fun e w' => e = .returned (.bool (decB (Eqv (S6 (ask6 t lt6 26).1) (C6 (ask6 t lt6 26).1) i j))) ∧ w = w' := by
  obtain ⟨f, r, c, h1, h2⟩ := h
  refine (areSame_any h1 h2 hi hj).mono ?_
  rintro e w' ⟨⟨q, he, hq⟩, bl⟩
  refine ⟨?_, bl⟩
  rw [he, show q = decB (Eqv (S6 (ask6 t lt6 26).1) (C6 (ask6 t lt6 26).1) i j) from by rw [Bool.eq_iff_iff, decB_iff, hq]]
theorem ib_level {w : World} {b : Nat} {t : Tm} (h : ImSo w b t) (hl : Lets t.free) {a : UInt8} (ha : a ∈ t.free) : Calls Try.prog 42 #[.pointer (some ⟨b, 0, none⟩), .int .i64 (lt6 a : Int)] w fun e w' => e = .returned (.tuple #[.int .i64 (oI (levO t a)), .bool (levO t a).isSome]) ∧ Below w.heap.size w w' := by
  obtain ⟨f, r, c, h1, h2⟩ := h
  refine (level_any h1 h2 (bnd6 hl) (lt6_lt hl ha)).mono ?_
  rintro e w' ⟨⟨o, he, ho⟩, bl⟩
  refine ⟨?_, bl⟩
  rw [he, levO_eq (o := o) ho]
theorem ib_behind {w : World} {b : Nat} {t : Tm} (h : ImSo w b t) {k : Nat} (hk : k < (ask6 t lt6 26).2) : Calls Try.prog 44 #[.pointer (some ⟨b, 0, none⟩), .int .i64 (k : Int)] w fun e w' => (∃ o : Option Nat, e = .returned (.tuple #[.int .i64 (cI o), .bool o.isSome]) ∧ (∀ x, o = some x → x < (ask6 t lt6 26).2 ∧ Car (S6 (ask6 t lt6 26).1) (C6 (ask6 t lt6 26).1) k x) ∧ (o = none → ∀ x, ¬ Car (S6 (ask6 t lt6 26).1) (C6 (ask6 t lt6 26).1) k x)) ∧ Below w.heap.size w w' := by
  obtain ⟨f, r, c, h1, h2⟩ := h
  refine (behind_any h1 h2.rt h2.lt hk).mono ?_
  rintro e w' ⟨he, bl⟩
  exact ⟨⟨c (r k), he, fun x hx => ⟨h2.clt _ _ hx, (h2.cls.carries k).1 x hx⟩, fun hn => (h2.cls.carries k).2 hn⟩, bl⟩
theorem cf_no1 (args : Array Value) (w : World) : (callFunc 65 args).run Try.prog w = .ok (.enter 65 args) w := by kernel_rfl
theorem cf_cy1 (args : Array Value) (w : World) : (callFunc 47 args).run Try.prog w = .ok (.enter 47 args) w := by kernel_rfl
set_option maxHeartbeats 1000000 in
theorem no1_any {w : World} {b c1 c2 n : Nat} {t : Tm} (h : ImSo w b t) (hl : Lets t.free) (hn : n < (ask6 t lt6 26).2) (h1 : w.cell? ⟨c1, 0, none⟩ = some (.pointer (some ⟨b, 0, none⟩))) (h2 : w.cell? ⟨c2, 0, none⟩ = some (.int .i64 (n : Int))) (a : UInt8) (ha : a ∈ t.free) :
    Calls Try.prog 65 (#[.int .i64 (lt6 a : Int)] ++ #[.pointer (some ⟨c1, 0, none⟩), .pointer (some ⟨c2, 0, none⟩)]) w fun e w' => e = .returned (.bool (decB (Eqv (S6 (ask6 t lt6 26).1) (C6 (ask6 t lt6 26).1) (lt6 a) n))) ∧ Below w.heap.size w w' := by
  show Calls Try.prog 65 #[.int .i64 (lt6 a : Int), .pointer (some ⟨c1, 0, none⟩), .pointer (some ⟨c2, 0, none⟩)] w _
  have H := Lib.hid (ib_same h (lt6_lt hl ha) hn)
  obtain ⟨q, hq⟩ : ∃ q, q = decB (Eqv (S6 (ask6 t lt6 26).1) (C6 (ask6 t lt6 26).1) (lt6 a) n) := ⟨_, rfl⟩
  rw [← hq] at H ⊢
  clear h hq
  go_enter Try.func65, Try.ntmps65
  go_wp2_with fail
  refine (H.out).mono ?_
  rintro e w1 ⟨rfl, rfl⟩
  go_wp2_with fail
  go_ret
  exact ⟨rfl, Below.refl _ _⟩
set_option maxHeartbeats 1000000 in
theorem cy1_any {w : World} {b c1 : Nat} {t : Tm} (h : ImSo w b t) (hl : Lets t.free) (h1 : w.cell? ⟨c1, 0, none⟩ = some (.pointer (some ⟨b, 0, none⟩))) (a : UInt8) (ha : a ∈ t.free) :
    Calls Try.prog 47 (#[.int .i64 (lt6 a : Int)] ++ #[.pointer (some ⟨c1, 0, none⟩)]) w fun e w' => e = .returned (.bool (!(levO t a).isSome)) ∧ Below w.heap.size w w' := by
  show Calls Try.prog 47 #[.int .i64 (lt6 a : Int), .pointer (some ⟨c1, 0, none⟩)] w _
  have H := Lib.hid (ib_level h hl ha)
  obtain ⟨q, hq⟩ : ∃ q, q = (levO t a).isSome := ⟨_, rfl⟩
  obtain ⟨n, hn⟩ : ∃ n, n = oI (levO t a) := ⟨_, rfl⟩
  rw [← hq, ← hn] at H
  rw [← hq]
  clear h hq hn
  go_enter Try.func47, Try.ntmps47
  go_wp2_with fail
  refine (H.out).mono ?_
  rintro e w1 ⟨rfl, bl⟩
  go_wp2_with fail
  go_ret
  exact ⟨rfl, bl⟩
set_option maxHeartbeats 1000000 in
theorem ib_namesOf {w : World} {b n : Nat} {t : Tm} (h : ImSo w b t) (hl : Lets t.free) (h26 : t.free.length ≤ 26) (hn : n < (ask6 t lt6 26).2) :
    Calls Try.prog 38 #[.pointer (some ⟨b, 0, none⟩), .int .i64 (n : Int)] w fun e w' => e = .returned (.string (B (t.free.filter fun a => decB (Eqv (S6 (ask6 t lt6 26).1) (C6 (ask6 t lt6 26).1) (lt6 a) n)))) ∧ Below w.heap.size w w' := by
  have t1 := first_block w (.cells #[.pointer (some ⟨b, 0, none⟩)] 41) (.cells #[.int .i64 (n : Int)] 3)
  have t2 := last_block w (.cells #[.pointer (some ⟨b, 0, none⟩)] 41) (.cells #[.int .i64 (n : Int)] 3)
  have bW := below_two w (.cells #[.pointer (some ⟨b, 0, none⟩)] 41) (.cells #[.int .i64 (n : Int)] 3)
  have hW := h.below bW
  have HN := Lib.hid (namesWith_any (b := b) hl (srt_free t) rfl h26 65 #[.pointer (some ⟨w.heap.size, 0, none⟩), .pointer (some ⟨w.heap.size + 1, 0, none⟩)] (fun a => decB (Eqv (S6 (ask6 t lt6 26).1) (C6 (ask6 t lt6 26).1) (lt6 a) n))
    (fun w1 => ImSo w1 b t ∧ (∃ T, w1.heap[w.heap.size]? = some (.cells #[.pointer (some ⟨b, 0, none⟩)] T (0, 0))) ∧ ∃ T, w1.heap[w.heap.size + 1]? = some (.cells #[.int .i64 (n : Int)] T (0, 0))) cf_no1
    (fun w1 w2 ⟨j1, ⟨T1, j2⟩, ⟨T2, j3⟩⟩ bl => ⟨j1.below bl, ⟨T1, (bl.block _ (lt_of_block j2)).trans j2⟩, ⟨T2, (bl.block _ (lt_of_block j3)).trans j3⟩⟩)
    (fun w1 j => j.1.u_at)
    (fun a w1 ha ⟨j1, ⟨T1, j2⟩, ⟨T2, j3⟩⟩ => no1_any j1 hl hn (cellOf1 j2) (cellOf1 j3) a ha) _ ⟨hW, ⟨_, t1⟩, ⟨_, t2⟩⟩)
  have HB := Lib.hid bW
  have HT := Lib.hid (cellOf1 t1)
  obtain ⟨X, hX⟩ : ∃ X, X = B (t.free.filter fun a => decB (Eqv (S6 (ask6 t lt6 26).1) (C6 (ask6 t lt6 26).1) (lt6 a) n)) := ⟨_, rfl⟩
  rw [← hX] at HN ⊢
  obtain ⟨W, hWe⟩ : ∃ W, W = (w.alloc (.cells #[.pointer (some ⟨b, 0, none⟩)] 41)).alloc (.cells #[.int .i64 (n : Int)] 3) := ⟨_, rfl⟩
  rw [← hWe] at HN HB HT
  have cx := HT.out
  clear t1 t2 bW hW h hX
  go_enter Try.func38, Try.ntmps38
  go_wp2_with fail
  rw [← hWe]
  clear hWe
  go_wp2_with fail
  refine (HN.out).mono ?_
  rintro e w1 ⟨rfl, bl⟩
  go_wp2_with fail
  go_ret
  exact ⟨rfl, below_trans HB.out bl HB.out.size⟩
theorem ib_named {w : World} {b : Nat} {t : Tm} (h : ImSo w b t) (ho : t.ok nmL = true) (k : ByteArray) : Calls Try.prog 34 #[.pointer (some ⟨b, 0, none⟩), .string k] w fun e w' => e = .returned (.tuple #[.int .i64 (nmI (nameOf t.free k)), .bool (nameOf t.free k).isSome]) ∧ Below w.heap.size w w' := by
  rcases one_or2 k with ⟨c, hc, ek, _, o2⟩ | ⟨hn, _, o2⟩
  · have H := named_name h k c hc (decide (c ∈ t.free)) o2 (has_freeS t ho c hc)
    subst ek
    by_cases hm : c ∈ t.free
    · rw [decide_eq_true hm] at H
      rw [nameOf_yes hc hm]
      exact H
    · rw [decide_eq_false hm] at H
      rw [nameOf_out hm]
      exact H
  · rw [nameOf_no hn]
    exact named_text h k o2

end Go.Proofs.Ytdfelpahacmdpaa.T1
