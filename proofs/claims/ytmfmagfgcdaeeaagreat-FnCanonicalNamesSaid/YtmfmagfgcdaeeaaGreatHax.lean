/- Texts of the proof, put together: Bi. No conditions. -/
import Derived.Test.YtmfmagfgcdaeeaaGreatHaw
import Derived.Laws.Rows
import Derived.Deep.DeepCutAuto

/- Names bound in an order that is given: the ways through the program's function. -/
namespace Go.Proofs.YtmfmagfgcdaeeaaGreat.T1
open Go.RowKit
set_option maxRecDepth 100000
set_option linter.unusedVariables false

theorem Tryz.infoSc : (Tryz.prog.info? 54).map (·.size) = some 256 := by kernel_rfl
/-- What is left: a sign, and the names that are left. -/
def BiPost (T : TypeId) (V : Value) (Q : Value → World → Prop) (w : World) (e : Ending) (w' : World) : Prop := ∃ v', e = .returned (.tuple #[.iface T V, v']) ∧ Q v' w' ∧ Below w.heap.size w w'
theorem row_below {w w' : World} {g : Nat} {o : Obj} (h : w.heap[g]? = some o) (k : Below w.heap.size w w') : w'.heap[g]? = some o := (k.block g (lt_of_block h)).trans h
theorem row_set {w : World} {g b j : Nat} {o : Obj} {x : Value} (h : w.heap[g]? = some o) (hne : g ≠ b) : (w.setCell ⟨b, j, none⟩ x).heap[g]? = some o := by
  show (w.heap.modify b _)[g]? = _
  rw [Array.getElem?_modify, if_neg (fun e => hne e.symm)]; exact h
set_option maxHeartbeats 4000000 in
theorem bo_0 (T T1 : TypeId) (V V1 v : Value) (C : Array Value) (hC : C.size = 256)  (w : World) (hP : PartsFact T1 V1 [])
    (HU : ∀ v : World, v.heap[w.heap.size]? = some (.cells C 54 (0, 0)) → Calls Tryz.prog 116 #[.iface T V, .func (.func 117) #[] #[.pointer (some ⟨w.heap.size, 0, none⟩)]] v fun e v' => e = .returned (.iface T1 V1) ∧ Below v.heap.size v v') (HB : ∀ w, Calls Tryz.prog 112 #[.iface T1 V1] w fun e w' => e = .returned (.tuple #[.int .u8 0, .bool false]) ∧ Below w.heap.size w w') (HW : ∀ x w, Calls Tryz.prog 119 #[.iface T1 V1, x] w fun e w' => e = .returned (.iface T1 V1) ∧ Below w.heap.size w w') :
    Calls Tryz.prog 63 #[.iface T V, .agg C, v] w (fun e w' => e = .returned (.tuple #[.iface T1 V1, v]) ∧ Below w.heap.size w w') := by
  obtain ⟨F, RR, hm, hn, hc, hp⟩ := hP
  have HP := Lib.hid hp
  have HU' := Lib.hid HU
  have hC26 : (Tryz.prog.info? 54).map (·.size) = some C.size := by rw [Tryz.infoSc, hC]
  have HB' := Lib.hid HB
  have HW' := Lib.hid HW
  have HC26 := Lib.hid hC26
  clear hp HU hC26 hC HB HW
  go_enter Tryz.func63, Tryz.ntmps63
  go_wp2_with fail
  refine (HU'.out _ (new_block0 _ _)).mono ?_
  rintro e w1 ⟨rfl, b1⟩
  have hr := Lib.hid (row_below (new_block0 w (.cells C 54)) b1)
  have bl := below_go (below_go' (Below.refl _ _) _) b1
  clear b1
  go_wp2_with fail
  refine (HB'.out _).mono ?_
  rintro e w2 ⟨rfl, b2⟩
  replace hr := Lib.hid (row_below hr.out b2)
  replace bl := below_go bl b2
  clear b2
  go_wp2_with fail
  refine (HP.out _).mono ?_
  rintro e w3 ⟨rfl, b3⟩
  replace bl := below_go bl b3
  go_wp2_with fail
  refine wp_loop_rounds 1 ?_
  rw [rounds_succ]
  go_wp2_with fail
  refine (HW'.out _ _).mono ?_
  rintro e w4 ⟨rfl, b4⟩
  replace bl := below_go bl b4
  go_wp2_with fail
  go_ret2
  exact ⟨rfl, bl⟩
set_option maxHeartbeats 4000000 in
theorem bo_1 (T T1 : TypeId) (V V1 v : Value) (C : Array Value) (hC : C.size = 256) (tp tr T2 : TypeId) (vp vr V2 : Value) (Q : Value → World → Prop) (w0 : Nat) (w : World) (hP : ∃ (F : FuncId) (R : Value), (∀ n w, (method (n + 1) T1 V1 "loop.example/g01175/impl.parts").run Tryz.prog w = .ok (F, R) w) ∧ (∀ n w, (nilAhead (n + 1) T1 V1 "loop.example/g01175/impl.parts").run Tryz.prog w = .ok (some false) w) ∧ (∀ args w, (callFunc F args).run Tryz.prog w = .ok (.enter F args) w) ∧ ∀ w, Calls Tryz.prog F #[R] w fun e w' => ∃ b, e = .returned (.slice (some ⟨b, 0, none⟩) 1 1) ∧ w.heap.size ≤ b ∧ w'.heap[b]? = some (.cells #[.iface tp vp] 43 (0, 0)) ∧ Below w.heap.size w w')
    (HU : ∀ v : World, v.heap[w.heap.size]? = some (.cells C 54 (0, 0)) → Calls Tryz.prog 116 #[.iface T V, .func (.func 117) #[] #[.pointer (some ⟨w.heap.size, 0, none⟩)]] v fun e v' => e = .returned (.iface T1 V1) ∧ Below v.heap.size v v') (hw0 : w0 ≤ w.heap.size) (HB : ∀ w, Calls Tryz.prog 112 #[.iface T1 V1] w fun e w' => e = .returned (.tuple #[.int .u8 0, .bool false]) ∧ Below w.heap.size w w') (HQ : ∀ v w w', Q v w → Below w.heap.size w w' → Q v w') (HQS : ∀ v (w : World) b x, w0 < b → Q v w → Q v (w.setCell ⟨b, 0, none⟩ x)) (IH : ∀ w1, Below w.heap.size w w1 → Calls Tryz.prog 63 #[.iface tp vp, .agg C, v] w1 (BiPost tr vr Q w1)) (HW : ∀ (b : Nat) (w : World), w.cell? ⟨b, 0, none⟩ = some (.iface tr vr) → Calls Tryz.prog 119 #[.iface T1 V1, .slice (some ⟨b, 0, none⟩) 1 1] w fun e w' => e = .returned (.iface T2 V2) ∧ Below w.heap.size w w') :
    Calls Tryz.prog 63 #[.iface T V, .agg C, v] w (BiPost T2 V2 Q w) := by
  obtain ⟨F, RR, hm, hn, hc, hp⟩ := hP
  have HP := Lib.hid hp
  have HU' := Lib.hid HU
  have hC26 : (Tryz.prog.info? 54).map (·.size) = some C.size := by rw [Tryz.infoSc, hC]
  have hw0' := Lib.hid hw0
  have HB' := Lib.hid HB
  have HQ' := Lib.hid HQ
  have HQS' := Lib.hid HQS
  have IH' := Lib.hid IH
  have HW' := Lib.hid HW
  have HC26 := Lib.hid hC26
  clear hp HU hC26 hC hw0 HB HQ HQS IH HW
  go_enter Tryz.func63, Tryz.ntmps63
  go_wp2_with fail
  refine (HU'.out _ (new_block0 _ _)).mono ?_
  rintro e w1 ⟨rfl, b1⟩
  have hr := Lib.hid (row_below (new_block0 w (.cells C 54)) b1)
  have bl := below_go (below_go' (Below.refl _ _) _) b1
  clear b1
  go_wp2_with fail
  refine (HB'.out _).mono ?_
  rintro e w2 ⟨rfl, b2⟩
  replace hr := Lib.hid (row_below hr.out b2)
  replace bl := below_go bl b2
  clear b2
  have hw0 := hw0'.out
  go_wp2_with fail
  refine (HP.out _).mono ?_
  rintro e w3 ⟨b, rfl, hb, hh, b3⟩
  have hkb : w.heap.size < b := Nat.lt_of_lt_of_le (lt_of_block hr.out) hb
  replace hr := Lib.hid (row_below hr.out b3)
  replace bl := below_go bl b3
  have d0 := cellOf1 hh
  have f0 := free_of_one hh
  have Hh := Lib.hid hh
  clear hb hh b3
  go_wp2_with fail
  refine wp_loop_rounds 2 ?_
  rw [rounds_succ]
  go_wp2_with (refine wpList_load_row rfl 54 (.tmp 4) rfl w.heap.size rfl 54 C (0, 0) _ hr.out Tryz.underlying54 rfl HC26.out ?_)
  refine (IH'.out _ bl).mono ?_
  rintro e w4 ⟨v2, rfl, q, b4⟩
  replace hr := Lib.hid (row_below hr.out b4)
  replace bl := below_go bl b4
  have h4 := row_below Hh.out b4
  clear d0 f0 b4
  have d0 := cellOf1 h4
  have f0 := free_of_one h4
  have e0 := Lib.hid (cellOf1 (one_setCell (u := .iface tr vr) h4))
  replace q := Lib.hid (HQS'.out v2 _ b (.iface tr vr) (by omega) q)
  replace bl := bl.setCell (p := ⟨b, 0, none⟩) (by show w.heap.size ≤ b; omega) (.iface tr vr)
  clear h4 hr
  go_wp2_with fail
  rw [rounds_succ]
  go_wp2_with fail
  refine (HW'.out b _ e0.out).mono ?_
  rintro e w5 ⟨rfl, b5⟩
  replace q := Lib.hid (HQ'.out _ _ _ q.out b5)
  replace bl := below_go bl b5
  go_wp2_with fail
  go_ret2
  exact ⟨_, rfl, q.out, bl⟩
set_option maxHeartbeats 4000000 in
theorem bo_2 (T T1 : TypeId) (V V1 v : Value) (C : Array Value) (hC : C.size = 256) (tp tq tr ts T2 : TypeId) (vp vq vr vs V2 : Value) (Q Q2 : Value → World → Prop) (w0 : Nat) (w : World) (hP : ∃ (F : FuncId) (R : Value), (∀ n w, (method (n + 1) T1 V1 "loop.example/g01175/impl.parts").run Tryz.prog w = .ok (F, R) w) ∧ (∀ n w, (nilAhead (n + 1) T1 V1 "loop.example/g01175/impl.parts").run Tryz.prog w = .ok (some false) w) ∧ (∀ args w, (callFunc F args).run Tryz.prog w = .ok (.enter F args) w) ∧ ∀ w, Calls Tryz.prog F #[R] w fun e w' => ∃ b, e = .returned (.slice (some ⟨b, 0, none⟩) 2 2) ∧ w.heap.size ≤ b ∧ w'.heap[b]? = some (.cells #[.iface tp vp, .iface tq vq] 43 (0, 0)) ∧ Below w.heap.size w w')
    (HU : ∀ v : World, v.heap[w.heap.size]? = some (.cells C 54 (0, 0)) → Calls Tryz.prog 116 #[.iface T V, .func (.func 117) #[] #[.pointer (some ⟨w.heap.size, 0, none⟩)]] v fun e v' => e = .returned (.iface T1 V1) ∧ Below v.heap.size v v') (hw0 : w0 ≤ w.heap.size) (HB : ∀ w, Calls Tryz.prog 112 #[.iface T1 V1] w fun e w' => e = .returned (.tuple #[.int .u8 0, .bool false]) ∧ Below w.heap.size w w') (HQ2 : ∀ v w w', Q2 v w → Below w.heap.size w w' → Q2 v w') (HQS0 : ∀ v (w : World) b x, w0 < b → Q v w → Q v (w.setCell ⟨b, 0, none⟩ x)) (HQS1 : ∀ v (w : World) b x, w0 < b → Q2 v w → Q2 v (w.setCell ⟨b, 1, none⟩ x)) (IH : ∀ w1, Below w.heap.size w w1 → Calls Tryz.prog 63 #[.iface tp vp, .agg C, v] w1 (BiPost tr vr Q w1)) (IH2 : ∀ v2 w1, Below w.heap.size w w1 → Q v2 w1 → Calls Tryz.prog 63 #[.iface tq vq, .agg C, v2] w1 (BiPost ts vs Q2 w1)) (HW : ∀ (b : Nat) (w : World), w.cell? ⟨b, 0, none⟩ = some (.iface tr vr) → w.cell? ⟨b, 1, none⟩ = some (.iface ts vs) → Calls Tryz.prog 119 #[.iface T1 V1, .slice (some ⟨b, 0, none⟩) 2 2] w fun e w' => e = .returned (.iface T2 V2) ∧ Below w.heap.size w w') :
    Calls Tryz.prog 63 #[.iface T V, .agg C, v] w (BiPost T2 V2 Q2 w) := by
  obtain ⟨F, RR, hm, hn, hc, hp⟩ := hP
  have HP := Lib.hid hp
  have HU' := Lib.hid HU
  have hC26 : (Tryz.prog.info? 54).map (·.size) = some C.size := by rw [Tryz.infoSc, hC]
  have hw0' := Lib.hid hw0
  have HB' := Lib.hid HB
  have HQ2' := Lib.hid HQ2
  have HQS0' := Lib.hid HQS0
  have HQS1' := Lib.hid HQS1
  have IH' := Lib.hid IH
  have IH2' := Lib.hid IH2
  have HW' := Lib.hid HW
  have HC26 := Lib.hid hC26
  clear hp HU hC26 hC hw0 HB HQ2 HQS0 HQS1 IH IH2 HW
  go_enter Tryz.func63, Tryz.ntmps63
  go_wp2_with fail
  refine (HU'.out _ (new_block0 _ _)).mono ?_
  rintro e w1 ⟨rfl, b1⟩
  have hr := Lib.hid (row_below (new_block0 w (.cells C 54)) b1)
  have bl := below_go (below_go' (Below.refl _ _) _) b1
  clear b1
  go_wp2_with fail
  refine (HB'.out _).mono ?_
  rintro e w2 ⟨rfl, b2⟩
  replace hr := Lib.hid (row_below hr.out b2)
  replace bl := below_go bl b2
  clear b2
  have hw0 := hw0'.out
  go_wp2_with fail
  refine (HP.out _).mono ?_
  rintro e w3 ⟨b, rfl, hb, hh, b3⟩
  have hkb : w.heap.size < b := Nat.lt_of_lt_of_le (lt_of_block hr.out) hb
  replace hr := Lib.hid (row_below hr.out b3)
  replace bl := below_go bl b3
  have d0 := cellOf2a hh
  have f0 := two_free hh 0
  have Hh := Lib.hid hh
  clear hb hh b3
  go_wp2_with fail
  refine wp_loop_rounds 3 ?_
  rw [rounds_succ]
  go_wp2_with (refine wpList_load_row rfl 54 (.tmp 4) rfl w.heap.size rfl 54 C (0, 0) _ hr.out Tryz.underlying54 rfl HC26.out ?_)
  refine (IH'.out _ bl).mono ?_
  rintro e w4 ⟨v2, rfl, q, b4⟩
  replace hr := Lib.hid (row_below hr.out b4)
  replace bl := below_go bl b4
  have h4 := row_below Hh.out b4
  clear d0 f0 b4
  have d0 := cellOf2a h4
  have f0 := two_free h4 0
  have e4 := Lib.hid (two_set0 h4 (.iface tr vr))
  have x1 := cellOf2b e4.out
  replace q := Lib.hid (HQS0'.out _ _ b (.iface tr vr) (by omega) q)
  replace hr := Lib.hid (row_set (b := b) (j := 0) (x := .iface tr vr) hr.out (by omega))
  replace bl := bl.setCell (p := ⟨b, 0, none⟩) (by show w.heap.size ≤ b; omega) (.iface tr vr)
  have Q4 := Lib.hid q.out
  clear h4 q
  go_wp2_with fail
  rw [rounds_succ]
  go_wp2_with (refine wpList_load_row rfl 54 (.tmp 4) rfl w.heap.size rfl 54 C (0, 0) _ hr.out Tryz.underlying54 rfl HC26.out ?_)
  refine (IH2'.out _ _ bl Q4.out).mono ?_
  rintro e w5 ⟨v3, rfl, q, b5⟩
  replace hr := Lib.hid (row_below hr.out b5)
  replace bl := below_go bl b5
  have h5 := row_below e4.out b5
  clear d0 f0 x1 b5
  have d1 := cellOf2b h5
  have f1 := two_free h5 1
  have e5 := two_set1 h5 (.iface ts vs)
  have E0 := Lib.hid (cellOf2a e5)
  have E1 := Lib.hid (cellOf2b e5)
  replace q := Lib.hid (HQS1'.out _ _ b (.iface ts vs) (by omega) q)
  replace hr := Lib.hid (row_set (b := b) (j := 1) (x := .iface ts vs) hr.out (by omega))
  replace bl := bl.setCell (p := ⟨b, 1, none⟩) (by show w.heap.size ≤ b; omega) (.iface ts vs)
  clear h5 e5 hr
  go_wp2_with fail
  rw [rounds_succ]
  go_wp2_with fail
  refine (HW'.out b _ E0.out E1.out).mono ?_
  rintro e w6 ⟨rfl, b6⟩
  replace q := Lib.hid (HQ2'.out _ _ _ q.out b6)
  replace bl := below_go bl b6
  go_wp2_with fail
  go_ret2
  exact ⟨_, rfl, q.out, bl⟩
set_option maxHeartbeats 4000000 in
theorem bo_B (T T1 : TypeId) (V V1 v : Value) (C : Array Value) (hC : C.size = 256) (tp tr T2 T3 : TypeId) (vp vr V2 V3 : Value) (Q : Value → World → Prop) (w0 j g off n cap : Nat) (n0 : Int) (hj : j < 256) (hcap : 1 < cap) (hnc : n + 1 ≤ cap) (w : World) (hP : ∃ (F : FuncId) (R : Value), (∀ n w, (method (n + 1) T2 V2 "loop.example/g01175/impl.parts").run Tryz.prog w = .ok (F, R) w) ∧ (∀ n w, (nilAhead (n + 1) T2 V2 "loop.example/g01175/impl.parts").run Tryz.prog w = .ok (some false) w) ∧ (∀ args w, (callFunc F args).run Tryz.prog w = .ok (.enter F args) w) ∧ ∀ w, Calls Tryz.prog F #[R] w fun e w' => ∃ b, e = .returned (.slice (some ⟨b, 0, none⟩) 1 1) ∧ w.heap.size ≤ b ∧ w'.heap[b]? = some (.cells #[.iface tp vp] 43 (0, 0)) ∧ Below w.heap.size w w')
    (HU : ∀ v : World, v.heap[w.heap.size]? = some (.cells C 54 (0, 0)) → Calls Tryz.prog 116 #[.iface T V, .func (.func 117) #[] #[.pointer (some ⟨w.heap.size, 0, none⟩)]] v fun e v' => e = .returned (.iface T1 V1) ∧ Below v.heap.size v v') (hw0 : w0 ≤ w.heap.size) (hv : v = .slice (some ⟨g, off, none⟩) (n + 1) cap) (HC : ∀ w1, Below w.heap.size w w1 → w1.cell? ⟨g, off, none⟩ = some (.int .u8 n0)) (HB : ∀ w, Calls Tryz.prog 112 #[.iface T1 V1] w fun e w' => e = .returned (.tuple #[.int .u8 ((j : Int)), .bool true]) ∧ Below w.heap.size w w') (HWB : ∀ w, Calls Tryz.prog 118 #[.iface T1 V1, .int .u8 n0] w fun e w' => e = .returned (.iface T2 V2) ∧ Below w.heap.size w w') (HQ : ∀ v w w', Q v w → Below w.heap.size w w' → Q v w') (HQS0 : ∀ v (w : World) b x, w0 < b → Q v w → Q v (w.setCell ⟨b, 0, none⟩ x)) (IH : ∀ w1, Below w.heap.size w w1 → Calls Tryz.prog 63 #[.iface tp vp, .agg (C.setIfInBounds j (.int .u8 n0)), .slice (some ⟨g, off + 1, none⟩) n (cap - 1)] w1 (BiPost tr vr Q w1)) (HW : ∀ (b : Nat) (w : World), w.cell? ⟨b, 0, none⟩ = some (.iface tr vr) → Calls Tryz.prog 119 #[.iface T2 V2, .slice (some ⟨b, 0, none⟩) 1 1] w fun e w' => e = .returned (.iface T3 V3) ∧ Below w.heap.size w w') :
    Calls Tryz.prog 63 #[.iface T V, .agg C, v] w (BiPost T3 V3 Q w) := by
  obtain ⟨F, RR, hm, hn, hc, hp⟩ := hP
  have HP := Lib.hid hp
  have HU' := Lib.hid HU
  have hC26 : (Tryz.prog.info? 54).map (·.size) = some C.size := by rw [Tryz.infoSc, hC]
  have hw0' := Lib.hid hw0
  have hv' := Lib.hid hv
  have HC' := Lib.hid HC
  have HB' := Lib.hid HB
  have HWB' := Lib.hid HWB
  have HQ' := Lib.hid HQ
  have HQS0' := Lib.hid HQS0
  have IH' := Lib.hid IH
  have HW' := Lib.hid HW
  have HC26 := Lib.hid hC26
  clear hp HU hC26 hC hw0 hv HC HB HWB HQ HQS0 IH HW
  go_enter Tryz.func63, Tryz.ntmps63
  go_wp2_with fail
  refine (HU'.out _ (new_block0 _ _)).mono ?_
  rintro e w1 ⟨rfl, b1⟩
  have hr := Lib.hid (row_below (new_block0 w (.cells C 54)) b1)
  have bl := below_go (below_go' (Below.refl _ _) _) b1
  clear b1
  go_wp2_with fail
  obtain rfl := hv'.out
  have n0' : (0 : Int) < ((n + 1 : Nat) : Int) := by omega
  have hj2 : (j : Int) < 256 := by omega
  refine (HB'.out _).mono ?_
  rintro e w2 ⟨rfl, b2⟩
  replace hr := Lib.hid (row_below hr.out b2)
  replace bl := below_go bl b2
  clear b2
  have hw0 := hw0'.out
  have hgc := HC'.out _ bl
  obtain ⟨y, hy⟩ : ∃ y, C[j]? = some y := by
    have : j < C.size := by have := HC26.out; rw [Tryz.infoSc] at this; simp at this; omega
    exact ⟨_, Array.getElem?_eq_getElem this⟩
  have c4 : w2.cell? ⟨w.heap.size, j, none⟩ = some y := by rw [cell_of_row w2 w.heap.size j C _ _ hr.out]; exact hy
  have f4 := frozen_of_row w2 w.heap.size j C _ hr.out
  go_wp2_with fail
  obtain ⟨W2, hW2⟩ : ∃ W2, W2 = w2.setCell ⟨w.heap.size, j, none⟩ (.int .u8 n0) := ⟨_, rfl⟩
  have bl2 : Below w.heap.size w W2 := by rw [hW2]; exact bl.setCell (p := ⟨w.heap.size, j, none⟩) (Nat.le_refl _) _
  have hr2 : W2.heap[w.heap.size]? = some (.cells (C.setIfInBounds j (.int .u8 n0)) 54 (0, 0)) := by rw [hW2]; exact heap_setCell_same w2 w.heap.size j C _ _ hr.out
  rw [← hW2]
  clear hW2 c4 f4 hgc hr bl hy
  have hg0 := HC'.out _ bl2
  have hg1 := HC'.out _ bl2.drew
  have hr := Lib.hid hr2
  clear hr2
  go_cut [0, 2] (fun s0 s2 wx => s0 = .iface T2 V2 ∧ s2 = .slice (some ⟨g, off + 1, none⟩) n (cap - 1) ∧ Below w.heap.size w wx ∧ wx.heap[w.heap.size]? = some (.cells (C.setIfInBounds j (.int .u8 n0)) 54 (0, 0)))
  case first =>
    go_region_with ((go_at_call 118; refine (HWB'.out _).mono ?_; rintro e w5 ⟨rfl, b5⟩; have bl5 := below_go bl2.drew b5; have hr5 := Lib.hid (row_below (w := W2.drew) hr.out b5); have hg5 := HC'.out _ bl5))
    all_goals (go_wp2_with fail; go_meet; refine ⟨rfl, ?_, bl5, hr5.out⟩)
    all_goals rfl
  case rest =>
    obtain ⟨rfl, rfl, bl, hr0⟩ := hcut
    clear hr bl2 hg0 hg1
    have hr := Lib.hid hr0
    clear hr0
    go_wp2_with fail
    refine (HP.out _).mono ?_
    rintro e w3 ⟨b, rfl, hb, hh, b3⟩
    have hkb : w.heap.size < b := Nat.lt_of_lt_of_le (lt_of_block hr.out) hb
    replace hr := Lib.hid (row_below hr.out b3)
    replace bl := below_go bl b3
    have d0 := cellOf1 hh
    have f0 := free_of_one hh
    have Hh := Lib.hid hh
    clear hb hh b3
    go_wp2_with fail
    refine wp_loop_rounds 2 ?_
    rw [rounds_succ]
    go_wp2_with (refine wpList_load_row rfl 54 (.tmp 4) rfl w.heap.size rfl 54 (C.setIfInBounds j (.int .u8 n0)) (0, 0) _ hr.out Tryz.underlying54 rfl (by rw [Array.size_setIfInBounds]; exact HC26.out) ?_)
    refine (IH'.out _ bl).mono ?_
    rintro e w4 ⟨v2, rfl, q, b4⟩
    replace hr := Lib.hid (row_below hr.out b4)
    replace bl := below_go bl b4
    have h4 := row_below Hh.out b4
    clear d0 f0 b4
    have d0 := cellOf1 h4
    have f0 := free_of_one h4
    have e0 := Lib.hid (cellOf1 (one_setCell (u := .iface tr vr) h4))
    replace q := Lib.hid (HQS0'.out v2 _ b (.iface tr vr) (by omega) q)
    replace bl := bl.setCell (p := ⟨b, 0, none⟩) (by show w.heap.size ≤ b; omega) (.iface tr vr)
    clear h4 hr
    go_wp2_with fail
    rw [rounds_succ]
    go_wp2_with fail
    refine (HW'.out b _ e0.out).mono ?_
    rintro e w5 ⟨rfl, b5⟩
    replace q := Lib.hid (HQ'.out _ _ _ q.out b5)
    replace bl := below_go bl b5
    go_wp2_with fail
    go_ret2
    exact ⟨_, rfl, q.out, bl⟩
set_option maxHeartbeats 4000000 in
theorem bo_Bz (T T1 : TypeId) (V V1 v : Value) (C : Array Value) (hC : C.size = 256) (tp tr T2 T3 : TypeId) (vp vr V2 V3 : Value) (Q : Value → World → Prop) (w0 j g off : Nat) (n0 : Int) (hj : j < 256) (w : World) (hP : ∃ (F : FuncId) (R : Value), (∀ n w, (method (n + 1) T2 V2 "loop.example/g01175/impl.parts").run Tryz.prog w = .ok (F, R) w) ∧ (∀ n w, (nilAhead (n + 1) T2 V2 "loop.example/g01175/impl.parts").run Tryz.prog w = .ok (some false) w) ∧ (∀ args w, (callFunc F args).run Tryz.prog w = .ok (.enter F args) w) ∧ ∀ w, Calls Tryz.prog F #[R] w fun e w' => ∃ b, e = .returned (.slice (some ⟨b, 0, none⟩) 1 1) ∧ w.heap.size ≤ b ∧ w'.heap[b]? = some (.cells #[.iface tp vp] 43 (0, 0)) ∧ Below w.heap.size w w')
    (HU : ∀ v : World, v.heap[w.heap.size]? = some (.cells C 54 (0, 0)) → Calls Tryz.prog 116 #[.iface T V, .func (.func 117) #[] #[.pointer (some ⟨w.heap.size, 0, none⟩)]] v fun e v' => e = .returned (.iface T1 V1) ∧ Below v.heap.size v v') (hw0 : w0 ≤ w.heap.size) (hv : v = .slice (some ⟨g, off, none⟩) (0 + 1) 1) (HC : ∀ w1, Below w.heap.size w w1 → w1.cell? ⟨g, off, none⟩ = some (.int .u8 n0)) (HB : ∀ w, Calls Tryz.prog 112 #[.iface T1 V1] w fun e w' => e = .returned (.tuple #[.int .u8 ((j : Int)), .bool true]) ∧ Below w.heap.size w w') (HWB : ∀ w, Calls Tryz.prog 118 #[.iface T1 V1, .int .u8 n0] w fun e w' => e = .returned (.iface T2 V2) ∧ Below w.heap.size w w') (HQ : ∀ v w w', Q v w → Below w.heap.size w w' → Q v w') (HQS0 : ∀ v (w : World) b x, w0 < b → Q v w → Q v (w.setCell ⟨b, 0, none⟩ x)) (IH : ∀ w1, Below w.heap.size w w1 → Calls Tryz.prog 63 #[.iface tp vp, .agg (C.setIfInBounds j (.int .u8 n0)), .slice (some ⟨g, off, none⟩) 0 0] w1 (BiPost tr vr Q w1)) (HW : ∀ (b : Nat) (w : World), w.cell? ⟨b, 0, none⟩ = some (.iface tr vr) → Calls Tryz.prog 119 #[.iface T2 V2, .slice (some ⟨b, 0, none⟩) 1 1] w fun e w' => e = .returned (.iface T3 V3) ∧ Below w.heap.size w w') :
    Calls Tryz.prog 63 #[.iface T V, .agg C, v] w (BiPost T3 V3 Q w) := by
  obtain ⟨F, RR, hm, hn, hc, hp⟩ := hP
  have HP := Lib.hid hp
  have HU' := Lib.hid HU
  have hC26 : (Tryz.prog.info? 54).map (·.size) = some C.size := by rw [Tryz.infoSc, hC]
  have hw0' := Lib.hid hw0
  have hv' := Lib.hid hv
  have HC' := Lib.hid HC
  have HB' := Lib.hid HB
  have HWB' := Lib.hid HWB
  have HQ' := Lib.hid HQ
  have HQS0' := Lib.hid HQS0
  have IH' := Lib.hid IH
  have HW' := Lib.hid HW
  have HC26 := Lib.hid hC26
  clear hp HU hC26 hC hw0 hv HC HB HWB HQ HQS0 IH HW
  go_enter Tryz.func63, Tryz.ntmps63
  go_wp2_with fail
  refine (HU'.out _ (new_block0 _ _)).mono ?_
  rintro e w1 ⟨rfl, b1⟩
  have hr := Lib.hid (row_below (new_block0 w (.cells C 54)) b1)
  have bl := below_go (below_go' (Below.refl _ _) _) b1
  clear b1
  go_wp2_with fail
  obtain rfl := hv'.out
  have n0' : (0 : Int) < ((0 + 1 : Nat) : Int) := by omega
  have hj2 : (j : Int) < 256 := by omega
  refine (HB'.out _).mono ?_
  rintro e w2 ⟨rfl, b2⟩
  replace hr := Lib.hid (row_below hr.out b2)
  replace bl := below_go bl b2
  clear b2
  have hw0 := hw0'.out
  have hgc := HC'.out _ bl
  obtain ⟨y, hy⟩ : ∃ y, C[j]? = some y := by
    have : j < C.size := by have := HC26.out; rw [Tryz.infoSc] at this; simp at this; omega
    exact ⟨_, Array.getElem?_eq_getElem this⟩
  have c4 : w2.cell? ⟨w.heap.size, j, none⟩ = some y := by rw [cell_of_row w2 w.heap.size j C _ _ hr.out]; exact hy
  have f4 := frozen_of_row w2 w.heap.size j C _ hr.out
  go_wp2_with fail
  obtain ⟨W2, hW2⟩ : ∃ W2, W2 = w2.setCell ⟨w.heap.size, j, none⟩ (.int .u8 n0) := ⟨_, rfl⟩
  have bl2 : Below w.heap.size w W2 := by rw [hW2]; exact bl.setCell (p := ⟨w.heap.size, j, none⟩) (Nat.le_refl _) _
  have hr2 : W2.heap[w.heap.size]? = some (.cells (C.setIfInBounds j (.int .u8 n0)) 54 (0, 0)) := by rw [hW2]; exact heap_setCell_same w2 w.heap.size j C _ _ hr.out
  rw [← hW2]
  clear hW2 c4 f4 hgc hr bl hy
  have hg0 := HC'.out _ bl2
  have hg1 := HC'.out _ bl2.drew
  have hr := Lib.hid hr2
  clear hr2
  go_cut [0, 2] (fun s0 s2 wx => s0 = .iface T2 V2 ∧ s2 = .slice (some ⟨g, off, none⟩) 0 0 ∧ Below w.heap.size w wx ∧ wx.heap[w.heap.size]? = some (.cells (C.setIfInBounds j (.int .u8 n0)) 54 (0, 0)))
  case first =>
    go_region_with ((go_at_call 118; refine (HWB'.out _).mono ?_; rintro e w5 ⟨rfl, b5⟩; have bl5 := below_go bl2.drew b5; have hr5 := Lib.hid (row_below (w := W2.drew) hr.out b5); have hg5 := HC'.out _ bl5))
    all_goals (go_wp2_with fail; go_meet; refine ⟨rfl, ?_, bl5, hr5.out⟩)
    all_goals rfl
  case rest =>
    obtain ⟨rfl, rfl, bl, hr0⟩ := hcut
    clear hr bl2 hg0 hg1
    have hr := Lib.hid hr0
    clear hr0
    go_wp2_with fail
    refine (HP.out _).mono ?_
    rintro e w3 ⟨b, rfl, hb, hh, b3⟩
    have hkb : w.heap.size < b := Nat.lt_of_lt_of_le (lt_of_block hr.out) hb
    replace hr := Lib.hid (row_below hr.out b3)
    replace bl := below_go bl b3
    have d0 := cellOf1 hh
    have f0 := free_of_one hh
    have Hh := Lib.hid hh
    clear hb hh b3
    go_wp2_with fail
    refine wp_loop_rounds 2 ?_
    rw [rounds_succ]
    go_wp2_with (refine wpList_load_row rfl 54 (.tmp 4) rfl w.heap.size rfl 54 (C.setIfInBounds j (.int .u8 n0)) (0, 0) _ hr.out Tryz.underlying54 rfl (by rw [Array.size_setIfInBounds]; exact HC26.out) ?_)
    refine (IH'.out _ bl).mono ?_
    rintro e w4 ⟨v2, rfl, q, b4⟩
    replace hr := Lib.hid (row_below hr.out b4)
    replace bl := below_go bl b4
    have h4 := row_below Hh.out b4
    clear d0 f0 b4
    have d0 := cellOf1 h4
    have f0 := free_of_one h4
    have e0 := Lib.hid (cellOf1 (one_setCell (u := .iface tr vr) h4))
    replace q := Lib.hid (HQS0'.out v2 _ b (.iface tr vr) (by omega) q)
    replace bl := bl.setCell (p := ⟨b, 0, none⟩) (by show w.heap.size ≤ b; omega) (.iface tr vr)
    clear h4 hr
    go_wp2_with fail
    rw [rounds_succ]
    go_wp2_with fail
    refine (HW'.out b _ e0.out).mono ?_
    rintro e w5 ⟨rfl, b5⟩
    replace q := Lib.hid (HQ'.out _ _ _ q.out b5)
    replace bl := below_go bl b5
    go_wp2_with fail
    go_ret2
    exact ⟨_, rfl, q.out, bl⟩

end Go.Proofs.YtmfmagfgcdaeeaaGreat.T1
