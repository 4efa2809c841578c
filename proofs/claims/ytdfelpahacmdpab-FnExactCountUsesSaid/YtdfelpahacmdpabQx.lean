/- Uses of a free name in the program: all of a process. MADE BY gen_Qx.py. -/
import Derived.Test.YtdfelpahacmdpabQw
import Derived.Test.YtdfelpahacmdpabGood
import Derived.Laws.Rows
import Derived.Test.YtdfelpahacmdpabRf
namespace Go.Proofs.Ytdfelpahacmdpab.T1
open Go.RowKit
set_option maxRecDepth 100000
set_option linter.unusedVariables false
set_option linter.unusedSimpArgs false

/-- What has been counted at some subterms. -/
def UsOf (b0 b2 b3 : Nat) (a : UInt8) (acc : List Tm) (w : World) : Prop := UsAt w b0 b2 b3 a (wrap64 (acc.countP (us0 a) : Nat)) (wrap64 (acc.countP (us1 a) : Nat)) (wrap64 (acc.countP (us2 a) : Nat)) (acc.any (us3 a)) (acc.any (us4 a))
theorem wrap64_two (x : Int) : wrap64 x = wrap64 (wrap64 x) := by unfold wrap64; omega
theorem wrap64_cond (k : Nat) (b : Bool) : wrap64 (wrap64 (k : Int) + cond b 1 0) = wrap64 ((k + (if b = true then 1 else 0) : Nat) : Int) := by
  cases b <;> simp <;> unfold wrap64 <;> omega
theorem cnt_snoc (acc : List Tm) (f : Tm → Bool) (t : Tm) : (acc ++ [t]).countP f = acc.countP f + (if f t = true then 1 else 0) := by
  rw [List.countP_append, List.countP_singleton]
theorem any_snoc (acc : List Tm) (f : Tm → Bool) (t : Tm) : (acc ++ [t]).any f = (acc.any f || f t) := by simp
theorem bit_two (x y a : UInt8) (hx : nmL x = true) (hy : nmL y = true) (ha : nmL a = true) : ((0 ||| 2 ^ (x.toNat - 97)) ||| 2 ^ (y.toNat - 97)).testBit (a.toNat - 97) = (x == a || y == a) := by
  have h1 := (nmL_iff x).1 hx
  have h2 := (nmL_iff y).1 hy
  have h3 := (nmL_iff a).1 ha
  rw [Nat.zero_or, Nat.testBit_or, Nat.testBit_two_pow, Nat.testBit_two_pow]
  rw [Bool.eq_iff_iff]
  simp only [Bool.or_eq_true, decide_eq_true_eq, beq_iff_eq]
  constructor
  · rintro (h | h)
    · exact .inl (u8_ext (by omega))
    · exact .inr (u8_ext (by omega))
  · rintro (h | h)
    · subst h; exact .inl rfl
    · subst h; exact .inr rfl
theorem us_same {w : World} {b0 b2 b3 : Nat} {a : UInt8} {x0 x1 x2 y0 y1 y2 : Int} {q3 q4 r3 r4 : Bool} (h : UsAt w b0 b2 b3 a x0 x1 x2 q3 q4) (e0 : x0 = y0) (e1 : x1 = y1) (e2 : x2 = y2) (e3 : q3 = r3) (e4 : q4 = r4) : UsAt w b0 b2 b3 a y0 y1 y2 r3 r4 := by
  subst e0 e1 e2 e3 e4; exact h
/-- What a subterm adds. -/
theorem us_add {w : World} {b0 b2 b3 : Nat} {a : UInt8} {acc : List Tm} {t : Tm} (h : UsAt w b0 b2 b3 a (wrap64 ((acc.countP (us0 a) + (if us0 a t = true then 1 else 0) : Nat))) (wrap64 ((acc.countP (us1 a) + (if us1 a t = true then 1 else 0) : Nat))) (wrap64 ((acc.countP (us2 a) + (if us2 a t = true then 1 else 0) : Nat))) (acc.any (us3 a) || us3 a t) (acc.any (us4 a) || us4 a t)) : UsOf b0 b2 b3 a (acc ++ [t]) w := by
  unfold UsOf
  rw [cnt_snoc, cnt_snoc, cnt_snoc, any_snoc, any_snoc]
  exact h
theorem us_none {w : World} {b0 b2 b3 : Nat} {a : UInt8} {acc : List Tm} {t : Tm} (h : UsOf b0 b2 b3 a acc w) (h0 : us0 a t = false) (h1 : us1 a t = false) (h2 : us2 a t = false) (h3 : us3 a t = false) (h4 : us4 a t = false) : UsOf b0 b2 b3 a (acc ++ [t]) w := us_add (by
  rw [h0, h1, h2, h3, h4]
  simpa [UsOf] using h)
theorem UsOf.below {b0 b2 b3 : Nat} {a : UInt8} {acc : List Tm} {w w' : World} (h : UsOf b0 b2 b3 a acc w) (k : Below w.heap.size w w') : UsOf b0 b2 b3 a acc w' := UsAt.below h k
theorem u2_any (b0 b2 b3 : Nat) (a : UInt8) (ha : nmL a = true) (t : Tm) (acc : List Tm) (w : World) (ho : t.ok nmL = true) (h : UsOf b0 b2 b3 a acc w) : Calls Try.prog 52 (#[.iface (tyOf t) (pay t)] ++ #[.pointer (some ⟨b3, 0, none⟩), .pointer (some ⟨b2, 0, none⟩), .pointer (some ⟨b0, 0, none⟩)]) w (VisPost b2 (UsOf b0 b2 b3 a) (acc ++ [t]) w) := by
  have h0 : UsAt w b0 b2 b3 a (wrap64 (acc.countP (us0 a) : Nat)) (wrap64 (acc.countP (us1 a) : Nat)) (wrap64 (acc.countP (us2 a) : Nat)) (acc.any (us3 a)) (acc.any (us4 a)) := h
  have h3 := (nmL_iff a).1 ha
  cases t with
  | nil  => exact (u2_other h0 _ _ (ta_nothing_send _) (ta_nothing_receive _) (ta_nothing_match _) (ta_nothing_repeat _)).mono fun e w' ⟨e1, e2, e3⟩ => ⟨e1, us_none e2 rfl rfl rfl rfl rfl, e3⟩
  | tau p => exact (u2_other h0 _ _ (ta_silent_send _) (ta_silent_receive _) (ta_silent_match _) (ta_silent_repeat _)).mono fun e w' ⟨e1, e2, e3⟩ => ⟨e1, us_none e2 rfl rfl rfl rfl rfl, e3⟩
  | sum p q => exact (u2_other h0 _ _ (ta_choice_send _) (ta_choice_receive _) (ta_choice_match _) (ta_choice_repeat _)).mono fun e w' ⟨e1, e2, e3⟩ => ⟨e1, us_none e2 rfl rfl rfl rfl rfl, e3⟩
  | par p q => exact (u2_other h0 _ _ (ta_beside_send _) (ta_beside_receive _) (ta_beside_match _) (ta_beside_repeat _)).mono fun e w' ⟨e1, e2, e3⟩ => ⟨e1, us_none e2 rfl rfl rfl rfl rfl, e3⟩
  | own x p => exact (u2_other h0 _ _ (ta_own_send _) (ta_own_receive _) (ta_own_match _) (ta_own_repeat _)).mono fun e w' ⟨e1, e2, e3⟩ => ⟨e1, us_none e2 rfl rfl rfl rfl rfl, e3⟩
  | snd x y p =>
    exact (u2_send h0 x y _ _ (wrap64_two _) (wrap64_two _)).mono fun e w' ⟨e1, e2, e3⟩ => ⟨e1, us_add (us_same e2 (wrap64_cond _ _) (by simp [us1]) (wrap64_cond _ _) (by simp [us3]) (by simp [us4])), e3⟩
  | rcv x y p =>
    exact (u2_receive h0 x y _ _ (wrap64_two _)).mono fun e w' ⟨e1, e2, e3⟩ => ⟨e1, us_add (us_same e2 (by simp [us0]) (wrap64_cond _ _) (by simp [us2]) (by simp [us3]) (by simp [us4])), e3⟩
  | mat x y p =>
    have ho' := ho
    simp only [Tm.ok, Bool.and_eq_true] at ho'
    have HH := fun w => has_any (usedN (.mat x y p)) a.toNat (two_lt x y ho'.1.1 ho'.1.2).2 h3.1 h3.2 w
    rw [show (usedN (.mat x y p)).testBit (a.toNat - 97) = us3 a (.mat x y p) from bit_two x y a ho'.1.1 ho'.1.2 ha] at HH
    cases e : acc.any (us3 a)
    · rw [e] at h0
      exact (u2_matF (q3 := false) h0 x y _ _ _ _ (usedBy_any (.mat x y p) ho) HH).mono fun e w' ⟨e1, e2, e3⟩ => ⟨e1, us_add (us_same e2 (by simp [us0]) (by simp [us1]) (by simp [us2]) (by simp [*]) (by simp [us4])), e3⟩
    · rw [e] at h0
      exact (u2_matT (q3 := true) h0 x y _ _).mono fun e w' ⟨e1, e2, e3⟩ => ⟨e1, us_add (us_same e2 (by simp [us0]) (by simp [us1]) (by simp [us2]) (by simp [*]) (by simp [us4])), e3⟩
  | rep p =>
    have HH := has_freeS (.rep p) ho a ha
    rw [show decide (a ∈ (Tm.rep p).free) = us4 a (.rep p) from decide_eq_decide.2 (mf_rep p a)] at HH
    cases e : acc.any (us4 a)
    · rw [e] at h0
      exact (u2_repF (q4 := false) h0 _ _ _ _ (freeNames_any (.rep p) ho) HH).mono fun e w' ⟨e1, e2, e3⟩ => ⟨e1, us_add (us_same e2 (by simp [us0]) (by simp [us1]) (by simp [us2]) (by simp [us3]) (by simp [*])), e3⟩
    · rw [e] at h0
      exact (u2_repT (q4 := true) h0 _ _).mono fun e w' ⟨e1, e2, e3⟩ => ⟨e1, us_add (us_same e2 (by simp [us0]) (by simp [us1]) (by simp [us2]) (by simp [us3]) (by simp [*])), e3⟩
theorem usVis (b0 b2 b3 : Nat) (a : UInt8) (ha : nmL a = true) (t : Tm) (ho : t.ok nmL = true) (w : World) (h : UsOf b0 b2 b3 a [] w) : Calls Try.prog 51 #[.iface (tyOf t) (pay t), .int .u8 (a.toNat : Int), .func (.func 52) #[] #[.pointer (some ⟨b3, 0, none⟩), .pointer (some ⟨b2, 0, none⟩), .pointer (some ⟨b0, 0, none⟩)]] w (VisPost b2 (UsOf b0 b2 b3 a) (t.vis a) w) := by
  have := visitFree_any 52 #[.pointer (some ⟨b3, 0, none⟩), .pointer (some ⟨b2, 0, none⟩), .pointer (some ⟨b0, 0, none⟩)] b2 (UsOf b0 b2 b3 a) cf_u2 (fun acc w w' h k => h.below k) (fun acc w h => UsAt.lt h) a t ho (fun t acc w ho h => u2_any b0 b2 b3 a ha t acc w ho h) [] w h
  exact this
theorem four_blocks (w : World) (o1 o2 o3 o4 : Obj) : ((((w.alloc o1).alloc o2).alloc o3).alloc o4).heap[w.heap.size]? = some o1 ∧ ((((w.alloc o1).alloc o2).alloc o3).alloc o4).heap[w.heap.size + 1]? = some o2 ∧ ((((w.alloc o1).alloc o2).alloc o3).alloc o4).heap[w.heap.size + 1 + 1]? = some o3 ∧ ((((w.alloc o1).alloc o2).alloc o3).alloc o4).heap[w.heap.size + 1 + 1 + 1]? = some o4 ∧ Below w.heap.size w ((((w.alloc o1).alloc o2).alloc o3).alloc o4) := by
  refine ⟨?_, ?_, ?_, ?_, ((((Below.refl _ _).alloc (Nat.le_refl _) o1).alloc (by simp) o2).alloc (by simp; omega) o3).alloc (by simp; omega) o4⟩
  · rw [Below.heap_alloc _ _ _ (by simp; omega), Below.heap_alloc _ _ _ (by simp; omega)]; exact first_block w o1 o2
  · rw [Below.heap_alloc _ _ _ (by simp), Below.heap_alloc _ _ _ (by simp)]; exact last_block w o1 o2
  · rw [Below.heap_alloc _ _ _ (by simp)]
    have := new_block ((w.alloc o1).alloc o2) o3
    simpa using this
  · have := new_block (((w.alloc o1).alloc o2).alloc o3) o4
    simpa using this
theorem set_five {w : World} (b : Nat) {z0 z1 z2 z3 z4 : Value} {T : TypeId} (h : w.heap[b]? = some (.cells #[z0, z1, z2, z3, z4] T (0, 0))) (v0 v1 v2 v3 v4 : Value) : (((((w.setCell ⟨b, 0, none⟩ v0).setCell ⟨b, 1, none⟩ v1).setCell ⟨b, 2, none⟩ v2).setCell ⟨b, 3, none⟩ v3).setCell ⟨b, 4, none⟩ v4).heap[b]? = some (.cells #[v0, v1, v2, v3, v4] T (0, 0)) := by
  have h1 : (w.setCell ⟨b, 0, none⟩ v0).heap[b]? = some (.cells #[v0, z1, z2, z3, z4] T (0, 0)) := by rw [set_cells h]; rfl
  have h2 : ((w.setCell ⟨b, 0, none⟩ v0).setCell ⟨b, 1, none⟩ v1).heap[b]? = some (.cells #[v0, v1, z2, z3, z4] T (0, 0)) := by rw [set_cells h1]; rfl
  have h3 : (((w.setCell ⟨b, 0, none⟩ v0).setCell ⟨b, 1, none⟩ v1).setCell ⟨b, 2, none⟩ v2).heap[b]? = some (.cells #[v0, v1, v2, z3, z4] T (0, 0)) := by rw [set_cells h2]; rfl
  have h4 : ((((w.setCell ⟨b, 0, none⟩ v0).setCell ⟨b, 1, none⟩ v1).setCell ⟨b, 2, none⟩ v2).setCell ⟨b, 3, none⟩ v3).heap[b]? = some (.cells #[v0, v1, v2, v3, z4] T (0, 0)) := by rw [set_cells h3]; rfl
  rw [set_cells h4]; rfl
theorem below_five {B b : Nat} {w0 w : World} (h : Below B w0 w) (hb : B ≤ b) (v0 v1 v2 v3 v4 : Value) : Below B w0 (((((w.setCell ⟨b, 0, none⟩ v0).setCell ⟨b, 1, none⟩ v1).setCell ⟨b, 2, none⟩ v2).setCell ⟨b, 3, none⟩ v3).setCell ⟨b, 4, none⟩ v4) := ((((h.setCell hb _).setCell hb _).setCell hb _).setCell hb _).setCell hb _
/-- What is counted of a name. -/
def usV (a : UInt8) (t : Tm) : Value := .agg #[.int .i64 ((t.vis a).countP (us0 a) : Nat), .int .i64 ((t.vis a).countP (us1 a) : Nat), .int .i64 ((t.vis a).countP (us2 a) : Nat), .bool ((t.vis a).any (us3 a)), .bool ((t.vis a).any (us4 a))]
set_option maxHeartbeats 2000000 in
theorem usesOf0 (T : TypeId) (V : Value) (a : UInt8) (y0 y1 y2 : Int) (r3 r4 : Bool) (HV : ∀ b0 b2 b3 w, UsAt w b0 b2 b3 a 0 0 0 false false → Calls Try.prog 51 #[.iface T V, .int .u8 (a.toNat : Int), .func (.func 52) #[] #[.pointer (some ⟨b3, 0, none⟩), .pointer (some ⟨b2, 0, none⟩), .pointer (some ⟨b0, 0, none⟩)]] w fun e w' => e = .returned (.tuple #[]) ∧ UsAt w' b0 b2 b3 a y0 y1 y2 r3 r4 ∧ Only b2 w w') (w : World) :
    Calls Try.prog 31 #[.iface T V, .int .u8 (a.toNat : Int)] w fun e w' => e = .returned (.agg #[.int .i64 y0, .int .i64 y1, .int .i64 y2, .bool r3, .bool r4]) ∧ Below w.heap.size w w' := by
  have XV := Lib.hid HV
  clear HV
  have f4 := four_blocks w (.cells #[.int .u8 (a.toNat : Int)] 5) (.cells #[.int .i64 0, .int .i64 0, .int .i64 0, .bool false, .bool false] 36) (.cells #[.int .i64 0, .int .i64 0, .int .i64 0, .bool false, .bool false] 36) (.cells #[.nilFunc] 81)
  obtain ⟨W, hW⟩ : ∃ W, W = (((w.alloc (.cells #[.int .u8 (a.toNat : Int)] 5)).alloc (.cells #[.int .i64 0, .int .i64 0, .int .i64 0, .bool false, .bool false] 36)).alloc (.cells #[.int .i64 0, .int .i64 0, .int .i64 0, .bool false, .bool false] 36)).alloc (.cells #[.nilFunc] 81) := ⟨_, rfl⟩
  rw [← hW] at f4
  obtain ⟨g1, g2, g3, g4, bl⟩ := f4
  have c9 := cellOf1 g4
  have f9 := free_of_one g4
  have hst : (store ⟨w.heap.size + 1 + 1 + 1, 0, none⟩ (.func (.func 50) #[] #[.pointer (some ⟨w.heap.size, 0, none⟩)])).run Try.prog W = .ok () (W.setCell ⟨w.heap.size + 1 + 1 + 1, 0, none⟩ (.func (.func 50) #[] #[.pointer (some ⟨w.heap.size, 0, none⟩)])) := by
    rw [run_store _ _ _ _ _ rfl, c9]
    simp [f9]
  have hA : UsAt (W.setCell ⟨w.heap.size + 1 + 1 + 1, 0, none⟩ (.func (.func 50) #[] #[.pointer (some ⟨w.heap.size, 0, none⟩)])) w.heap.size (w.heap.size + 1 + 1) (w.heap.size + 1 + 1 + 1) a 0 0 0 false false := ⟨⟨_, (Below.heap_setCell _ _ _ _ (by show w.heap.size ≠ w.heap.size + 1 + 1 + 1; omega)).trans g1⟩, ⟨_, (Below.heap_setCell _ _ _ _ (by show w.heap.size + 1 + 1 ≠ w.heap.size + 1 + 1 + 1; omega)).trans g3⟩, ⟨_, by rw [set_cells g4]; rfl⟩, by omega, by omega⟩
  have hb1 := (Below.heap_setCell W ⟨w.heap.size + 1 + 1 + 1, 0, none⟩ (.func (.func 50) #[] #[.pointer (some ⟨w.heap.size, 0, none⟩)]) (w.heap.size + 1) (by show w.heap.size + 1 ≠ w.heap.size + 1 + 1 + 1; omega)).trans g2
  have bl2 : Below w.heap.size w (W.setCell ⟨w.heap.size + 1 + 1 + 1, 0, none⟩ (.func (.func 50) #[] #[.pointer (some ⟨w.heap.size, 0, none⟩)])) := bl.setCell (by show w.heap.size ≤ w.heap.size + 1 + 1 + 1; omega) _
  obtain ⟨W2, hW2⟩ : ∃ W2, W2 = W.setCell ⟨w.heap.size + 1 + 1 + 1, 0, none⟩ (.func (.func 50) #[] #[.pointer (some ⟨w.heap.size, 0, none⟩)]) := ⟨_, rfl⟩
  rw [← hW2] at hst hA hb1 bl2
  have HA := Lib.hid hA
  have HB1 := Lib.hid hb1
  have BL := Lib.hid bl2
  have cn := hA.cn
  have XV2 := Lib.hid (XV.out _ _ _ _ HA.out)
  rw [hW] at hst
  clear g1 g2 g3 g4 c9 f9 hA hb1 bl bl2 hW2 hW
  go_enter Try.func31, Try.ntmps31
  go_wp2_with fail
  refine (XV2.out).mono ?_
  rintro e w3 ⟨rfl, j3, o3⟩
  have h1 := (o3.block (w.heap.size + 1) (lt_of_block HB1.out) (by show w.heap.size + 1 ≠ w.heap.size + 1 + 1; omega)).trans HB1.out
  have k0 := j3.c0
  have k1 := j3.c1
  have k2 := j3.c2
  have k3 := j3.c3
  have k4 := j3.c4
  have m0 := cellsAt h1 0 _ rfl
  have m1 := cellsAt h1 1 _ rfl
  have m2 := cellsAt h1 2 _ rfl
  have m3 := cellsAt h1 3 _ rfl
  have m4 := cellsAt h1 4 _ rfl
  have n := fun j => cellsFree h1 j
  have n0 := n 0
  have n1 := n 1
  have n2 := n 2
  have n3 := n 3
  have n4 := n 4
  have H1 := Lib.hid h1
  have B3 := Lib.hid (Below.only BL.out o3 (by omega) BL.out.size)
  clear n h1 o3 cn hst
  go_wp2_with fail
  have h5 := set_five (w.heap.size + 1) H1.out (.int .i64 y0) (.int .i64 y1) (.int .i64 y2) (.bool r3) (.bool r4)
  have b5 := below_five B3.out (show w.heap.size ≤ w.heap.size + 1 by omega) (.int .i64 y0) (.int .i64 y1) (.int .i64 y2) (.bool r3) (.bool r4)
  clear k0 k1 k2 k3 k4 m0 m1 m2 m3 m4 n0 n1 n2 n3 n4
  exact bodyPost_ret (v := .agg #[.int .i64 y0, .int .i64 y1, .int .i64 y2, .bool r3, .bool r4]) (results_cell_row (t := 36) (fr := (0, 0)) rfl _ _ (w.heap.size + 1) _ _ rfl h5 Try.underlying36 rfl (by kernel_rfl)) rfl ⟨rfl, b5⟩
theorem usesOf_any (t : Tm) (ho : t.ok nmL = true) (h60 : t.size ≤ 60) (a : UInt8) (ha : nmL a = true) (w : World) : Calls Try.prog 31 #[.iface (tyOf t) (pay t), .int .u8 (a.toNat : Int)] w fun e w' => e = .returned (usV a t) ∧ Below w.heap.size w w' := by
  have hv := vis_len a t
  have hw : ∀ f : Tm → Bool, wrap64 ((t.vis a).countP f : Nat) = ((t.vis a).countP f : Nat) := fun f => IntWalk.wrap64_in _ (by have := List.countP_le_length (p := f) (l := t.vis a); omega)
  refine usesOf0 _ _ a ((t.vis a).countP (us0 a) : Nat) ((t.vis a).countP (us1 a) : Nat) ((t.vis a).countP (us2 a) : Nat) ((t.vis a).any (us3 a)) ((t.vis a).any (us4 a)) (fun b0 b2 b3 w h => ?_) w
  refine (usVis b0 b2 b3 a ha t ho w (us_same h (by simp [wrap64]) (by simp [wrap64]) (by simp [wrap64]) (by simp) (by simp))).mono ?_
  rintro e w' ⟨e1, e2, e3⟩
  exact ⟨e1, us_same e2 (hw _) (hw _) (hw _) rfl rfl, e3⟩
theorem results_cell_tmp6 {fn : Func} {p u : Tmp} {ty : TypeId} (P : Program) (h : fn.results = #[.cell p ty, .tmp u]) (tmps : Array Value) (w : World) (g : Nat) (t : TypeId) (cs : Array Value) (fr : Nat × Nat) (d : TypeDesc)
    (hp : tmps.getD p undef = .pointer (some ⟨g, 0, none⟩)) (hg : w.heap[g]? = some (.cells cs t fr))
    (hu : P.underlying ty = some d) (hd : (match (generalizing := false) d with | .struct _ | .array _ _ => true | _ => false) = true) (hi : (P.info? ty).map (·.size) = some cs.size) :
    (results fn tmps).run P w = .ok (.tuple #[.agg cs, tmps.getD u undef]) w := by
  have hp' : tmps[p]?.getD undef = .pointer (some ⟨g, 0, none⟩) := by simpa using hp
  have hl := run_loadVar_row w g t ty cs fr d hg hu (by cases d <;> first | exact hd | rfl) hi
  simp [results, h, hp', asAddr, hl]
set_option maxHeartbeats 1000000 in
theorem ru_a (s k : ByteArray) (T : TypeId) (V : Value) (c : UInt8) (n : Nat) (qq : Bool) (y0 y1 y2 : Int) (r3 r4 : Bool) (HP : (∀ w, Calls Try.prog 21 #[.string s] w fun e w' => e = .returned (.tuple #[.nilIface, .bool false]) ∧ Below w.heap.size w w')) (HR : (∀ w, Calls Try.prog 28 #[.string k] w fun e w' => e = .returned (.tuple #[.int .u8 y0, .bool qq]) ∧ Below w.heap.size w w')) (w : World) : Calls Try.prog 17 #[.string s, .string k] w fun e w' => e = .returned (.tuple #[.agg #[.int .i64 0, .int .i64 0, .int .i64 0, .bool false, .bool false], .bool false]) ∧ Below w.heap.size w w' := by
  have XHP := Lib.hid HP
  have XHR := Lib.hid HR
  clear HP HR
  have nb := new_block w (.cells #[.int .i64 0, .int .i64 0, .int .i64 0, .bool false, .bool false] 36)
  have bl := (Below.refl w.heap.size w).alloc (Nat.le_refl _) (.cells #[.int .i64 0, .int .i64 0, .int .i64 0, .bool false, .bool false] 36)
  obtain ⟨W, hW⟩ : ∃ W, W = w.alloc (.cells #[.int .i64 0, .int .i64 0, .int .i64 0, .bool false, .bool false] 36) := ⟨_, rfl⟩
  rw [← hW] at nb bl
  go_enter Try.func17, Try.ntmps17
  go_wp2_with fail
  rw [← hW]
  clear hW
  refine (XHP.out _).mono ?_
  rintro e w1 ⟨rfl, b1⟩
  have nb := (b1.block _ (lt_of_block nb)).trans nb
  replace bl := below_trans bl b1 bl.size
  clear b1
  go_wp2_with fail
  refine (XHR.out _).mono ?_
  rintro e w1 ⟨rfl, b1⟩
  have nb := (b1.block _ (lt_of_block nb)).trans nb
  replace bl := below_trans bl b1 bl.size
  clear b1
  have m0 := cellsAt nb 0 _ rfl
  have n0 := cellsFree nb 0
  have m1 := cellsAt nb 1 _ rfl
  have n1 := cellsFree nb 1
  have m2 := cellsAt nb 2 _ rfl
  have n2 := cellsFree nb 2
  have m3 := cellsAt nb 3 _ rfl
  have n3 := cellsFree nb 3
  have m4 := cellsAt nb 4 _ rfl
  have n4 := cellsFree nb 4
  go_wp2_with fail
  have h5 := set_five w.heap.size nb (.int .i64 0) (.int .i64 0) (.int .i64 0) (.bool false) (.bool false)
  have b5 := below_five bl (Nat.le_refl _) (.int .i64 0) (.int .i64 0) (.int .i64 0) (.bool false) (.bool false)
  exact bodyPost_ret (results_cell_tmp6 _ rfl _ _ w.heap.size _ _ _ _ rfl h5 Try.underlying36 rfl (by kernel_rfl)) rfl ⟨rfl, b5⟩
set_option maxHeartbeats 1000000 in
theorem ru_b (s k : ByteArray) (T : TypeId) (V : Value) (c : UInt8) (n : Nat) (qq : Bool) (y0 y1 y2 : Int) (r3 r4 : Bool) (HP : (∀ w, Calls Try.prog 21 #[.string s] w fun e w' => e = .returned (.tuple #[.iface T V, .bool true]) ∧ Below w.heap.size w w')) (HR : (∀ w, Calls Try.prog 28 #[.string k] w fun e w' => e = .returned (.tuple #[.int .u8 0, .bool false]) ∧ Below w.heap.size w w')) (w : World) : Calls Try.prog 17 #[.string s, .string k] w fun e w' => e = .returned (.tuple #[.agg #[.int .i64 0, .int .i64 0, .int .i64 0, .bool false, .bool false], .bool false]) ∧ Below w.heap.size w w' := by
  have XHP := Lib.hid HP
  have XHR := Lib.hid HR
  clear HP HR
  have nb := new_block w (.cells #[.int .i64 0, .int .i64 0, .int .i64 0, .bool false, .bool false] 36)
  have bl := (Below.refl w.heap.size w).alloc (Nat.le_refl _) (.cells #[.int .i64 0, .int .i64 0, .int .i64 0, .bool false, .bool false] 36)
  obtain ⟨W, hW⟩ : ∃ W, W = w.alloc (.cells #[.int .i64 0, .int .i64 0, .int .i64 0, .bool false, .bool false] 36) := ⟨_, rfl⟩
  rw [← hW] at nb bl
  go_enter Try.func17, Try.ntmps17
  go_wp2_with fail
  rw [← hW]
  clear hW
  refine (XHP.out _).mono ?_
  rintro e w1 ⟨rfl, b1⟩
  have nb := (b1.block _ (lt_of_block nb)).trans nb
  replace bl := below_trans bl b1 bl.size
  clear b1
  go_wp2_with fail
  refine (XHR.out _).mono ?_
  rintro e w1 ⟨rfl, b1⟩
  have nb := (b1.block _ (lt_of_block nb)).trans nb
  replace bl := below_trans bl b1 bl.size
  clear b1
  have m0 := cellsAt nb 0 _ rfl
  have n0 := cellsFree nb 0
  have m1 := cellsAt nb 1 _ rfl
  have n1 := cellsFree nb 1
  have m2 := cellsAt nb 2 _ rfl
  have n2 := cellsFree nb 2
  have m3 := cellsAt nb 3 _ rfl
  have n3 := cellsFree nb 3
  have m4 := cellsAt nb 4 _ rfl
  have n4 := cellsFree nb 4
  go_wp2_with fail
  have h5 := set_five w.heap.size nb (.int .i64 0) (.int .i64 0) (.int .i64 0) (.bool false) (.bool false)
  have b5 := below_five bl (Nat.le_refl _) (.int .i64 0) (.int .i64 0) (.int .i64 0) (.bool false) (.bool false)
  exact bodyPost_ret (results_cell_tmp6 _ rfl _ _ w.heap.size _ _ _ _ rfl h5 Try.underlying36 rfl (by kernel_rfl)) rfl ⟨rfl, b5⟩
set_option maxHeartbeats 1000000 in
theorem ru_c (s k : ByteArray) (T : TypeId) (V : Value) (c : UInt8) (n : Nat) (qq : Bool) (y0 y1 y2 : Int) (r3 r4 : Bool) (HP : (∀ w, Calls Try.prog 21 #[.string s] w fun e w' => e = .returned (.tuple #[.iface T V, .bool true]) ∧ Below w.heap.size w w')) (HR : (∀ w, Calls Try.prog 28 #[.string k] w fun e w' => e = .returned (.tuple #[.int .u8 (c.toNat : Int), .bool true]) ∧ Below w.heap.size w w')) (HF : (∀ w, Calls Try.prog 29 #[.iface T V] w fun e w' => e = .returned (.int .u32 (n : Int)) ∧ Below w.heap.size w w')) (HH : (∀ w, Calls Try.prog 30 #[.int .u32 (n : Int), .int .u8 (c.toNat : Int)] w fun e w' => e = .returned (.bool false) ∧ w = w')) (w : World) : Calls Try.prog 17 #[.string s, .string k] w fun e w' => e = .returned (.tuple #[.agg #[.int .i64 0, .int .i64 0, .int .i64 0, .bool false, .bool false], .bool false]) ∧ Below w.heap.size w w' := by
  have XHP := Lib.hid HP
  have XHR := Lib.hid HR
  have XHF := Lib.hid HF
  have XHH := Lib.hid HH
  clear HP HR HF HH
  have nb := new_block w (.cells #[.int .i64 0, .int .i64 0, .int .i64 0, .bool false, .bool false] 36)
  have bl := (Below.refl w.heap.size w).alloc (Nat.le_refl _) (.cells #[.int .i64 0, .int .i64 0, .int .i64 0, .bool false, .bool false] 36)
  obtain ⟨W, hW⟩ : ∃ W, W = w.alloc (.cells #[.int .i64 0, .int .i64 0, .int .i64 0, .bool false, .bool false] 36) := ⟨_, rfl⟩
  rw [← hW] at nb bl
  go_enter Try.func17, Try.ntmps17
  go_wp2_with fail
  rw [← hW]
  clear hW
  refine (XHP.out _).mono ?_
  rintro e w1 ⟨rfl, b1⟩
  have nb := (b1.block _ (lt_of_block nb)).trans nb
  replace bl := below_trans bl b1 bl.size
  clear b1
  go_wp2_with fail
  refine (XHR.out _).mono ?_
  rintro e w1 ⟨rfl, b1⟩
  have nb := (b1.block _ (lt_of_block nb)).trans nb
  replace bl := below_trans bl b1 bl.size
  clear b1
  go_wp2_with fail
  refine (XHF.out _).mono ?_
  rintro e w1 ⟨rfl, b1⟩
  have nb := (b1.block _ (lt_of_block nb)).trans nb
  replace bl := below_trans bl b1 bl.size
  clear b1
  go_wp2_with fail
  refine (XHH.out _).mono ?_
  rintro e w1 ⟨rfl, rfl⟩
  have m0 := cellsAt nb 0 _ rfl
  have n0 := cellsFree nb 0
  have m1 := cellsAt nb 1 _ rfl
  have n1 := cellsFree nb 1
  have m2 := cellsAt nb 2 _ rfl
  have n2 := cellsFree nb 2
  have m3 := cellsAt nb 3 _ rfl
  have n3 := cellsFree nb 3
  have m4 := cellsAt nb 4 _ rfl
  have n4 := cellsFree nb 4
  go_wp2_with fail
  have h5 := set_five w.heap.size nb (.int .i64 0) (.int .i64 0) (.int .i64 0) (.bool false) (.bool false)
  have b5 := below_five bl (Nat.le_refl _) (.int .i64 0) (.int .i64 0) (.int .i64 0) (.bool false) (.bool false)
  exact bodyPost_ret (results_cell_tmp6 _ rfl _ _ w.heap.size _ _ _ _ rfl h5 Try.underlying36 rfl (by kernel_rfl)) rfl ⟨rfl, b5⟩
set_option maxHeartbeats 1000000 in
theorem ru_d (s k : ByteArray) (T : TypeId) (V : Value) (c : UInt8) (n : Nat) (qq : Bool) (y0 y1 y2 : Int) (r3 r4 : Bool) (HP : (∀ w, Calls Try.prog 21 #[.string s] w fun e w' => e = .returned (.tuple #[.iface T V, .bool true]) ∧ Below w.heap.size w w')) (HR : (∀ w, Calls Try.prog 28 #[.string k] w fun e w' => e = .returned (.tuple #[.int .u8 (c.toNat : Int), .bool true]) ∧ Below w.heap.size w w')) (HF : (∀ w, Calls Try.prog 29 #[.iface T V] w fun e w' => e = .returned (.int .u32 (n : Int)) ∧ Below w.heap.size w w')) (HH : (∀ w, Calls Try.prog 30 #[.int .u32 (n : Int), .int .u8 (c.toNat : Int)] w fun e w' => e = .returned (.bool true) ∧ w = w')) (HU : (∀ w, Calls Try.prog 31 #[.iface T V, .int .u8 (c.toNat : Int)] w fun e w' => e = .returned (.agg #[.int .i64 y0, .int .i64 y1, .int .i64 y2, .bool r3, .bool r4]) ∧ Below w.heap.size w w')) (w : World) : Calls Try.prog 17 #[.string s, .string k] w fun e w' => e = .returned (.tuple #[.agg #[.int .i64 y0, .int .i64 y1, .int .i64 y2, .bool r3, .bool r4], .bool true]) ∧ Below w.heap.size w w' := by
  have XHP := Lib.hid HP
  have XHR := Lib.hid HR
  have XHF := Lib.hid HF
  have XHH := Lib.hid HH
  have XHU := Lib.hid HU
  clear HP HR HF HH HU
  have nb := new_block w (.cells #[.int .i64 0, .int .i64 0, .int .i64 0, .bool false, .bool false] 36)
  have bl := (Below.refl w.heap.size w).alloc (Nat.le_refl _) (.cells #[.int .i64 0, .int .i64 0, .int .i64 0, .bool false, .bool false] 36)
  obtain ⟨W, hW⟩ : ∃ W, W = w.alloc (.cells #[.int .i64 0, .int .i64 0, .int .i64 0, .bool false, .bool false] 36) := ⟨_, rfl⟩
  rw [← hW] at nb bl
  go_enter Try.func17, Try.ntmps17
  go_wp2_with fail
  rw [← hW]
  clear hW
  refine (XHP.out _).mono ?_
  rintro e w1 ⟨rfl, b1⟩
  have nb := (b1.block _ (lt_of_block nb)).trans nb
  replace bl := below_trans bl b1 bl.size
  clear b1
  go_wp2_with fail
  refine (XHR.out _).mono ?_
  rintro e w1 ⟨rfl, b1⟩
  have nb := (b1.block _ (lt_of_block nb)).trans nb
  replace bl := below_trans bl b1 bl.size
  clear b1
  go_wp2_with fail
  refine (XHF.out _).mono ?_
  rintro e w1 ⟨rfl, b1⟩
  have nb := (b1.block _ (lt_of_block nb)).trans nb
  replace bl := below_trans bl b1 bl.size
  clear b1
  go_wp2_with fail
  refine (XHH.out _).mono ?_
  rintro e w1 ⟨rfl, rfl⟩
  go_wp2_with fail
  refine (XHU.out _).mono ?_
  rintro e w1 ⟨rfl, b1⟩
  have nb := (b1.block _ (lt_of_block nb)).trans nb
  replace bl := below_trans bl b1 bl.size
  clear b1
  have m0 := cellsAt nb 0 _ rfl
  have n0 := cellsFree nb 0
  have m1 := cellsAt nb 1 _ rfl
  have n1 := cellsFree nb 1
  have m2 := cellsAt nb 2 _ rfl
  have n2 := cellsFree nb 2
  have m3 := cellsAt nb 3 _ rfl
  have n3 := cellsFree nb 3
  have m4 := cellsAt nb 4 _ rfl
  have n4 := cellsFree nb 4
  go_wp2_with fail
  have h5 := set_five w.heap.size nb (.int .i64 y0) (.int .i64 y1) (.int .i64 y2) (.bool r3) (.bool r4)
  have b5 := below_five bl (Nat.le_refl _) (.int .i64 y0) (.int .i64 y1) (.int .i64 y2) (.bool r3) (.bool r4)
  exact bodyPost_ret (results_cell_tmp6 _ rfl _ _ w.heap.size _ _ _ _ rfl h5 Try.underlying36 rfl (by kernel_rfl)) rfl ⟨rfl, b5⟩
end Go.Proofs.Ytdfelpahacmdpab.T1
