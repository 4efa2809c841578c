/- Uses of a free name in the specification: counted. MADE BY gen_Qz.py. -/
import Derived.Test.YtdfelpahacmdpabQu
import Derived.Test.YtdfelpahacmdpabTg
import Derived.Test.YtdfelpahacmdpabGood
namespace Go.Proofs.Ytdfelpahacmdpab.T1
open Go.RowKit
set_option maxRecDepth 100000
set_option linter.unusedVariables false
set_option linter.unusedSimpArgs false

theorem mk4 (w : World) : (Instr.makeSlice 33 (.int .i64 4) (.int .i64 4)).run Try.prog w = .ok (.slice (some ⟨w.heap.size, 0, none⟩) 4 4) (w.alloc (.cells #[.int .i64 0, .int .i64 0, .int .i64 0, .int .i64 0] 3)) := by kernel_rfl
set_option maxHeartbeats 4000000 in
theorem su_nil (s : ByteArray) (a : UInt8) (kd : Int) (hz : s.size ≤ 700) (k33 : (kd == 33) = false) (k63 : (kd == 63) = false) (k61 : (kd == 61) = false) (HK : ∀ w, Calls Try.prog 25 #[.string s] w fun e w' => e = .returned (.int .u8 kd) ∧ w = w') (HB : ∀ w, Calls Try.prog 26 #[.string s] w fun e w' => e = .returned (.tuple #[.int .u8 0, .bool false]) ∧ w = w') (HP : ∀ w, Calls Try.prog 27 #[.string s] w (PartsS [] w)) (w : World) : Calls Try.prog 16 #[.string s, .int .u8 (a.toNat : Int)] w fun e w' => ∃ g, e = .returned (.slice (some ⟨g, 0, none⟩) 4 4) ∧ w.heap.size ≤ g ∧ w'.heap[g]? = some (.cells #[.int .i64 (0), .int .i64 (0), .int .i64 (0), .int .i64 (0)] 3 (0, 0)) ∧ Below w.heap.size w w' := by
  have XK := Lib.hid HK
  have XB := Lib.hid HB
  have XP := Lib.hid HP
  clear HK HB HP
  have nb := new_block w (.cells #[.int .i64 0, .int .i64 0, .int .i64 0, .int .i64 0] 3)
  have bl := (Below.refl w.heap.size w).alloc (Nat.le_refl _) (.cells #[.int .i64 0, .int .i64 0, .int .i64 0, .int .i64 0] 3)
  obtain ⟨W, hW⟩ : ∃ W, W = w.alloc (.cells #[.int .i64 0, .int .i64 0, .int .i64 0, .int .i64 0] 3) := ⟨_, rfl⟩
  have hmk := mk4 w
  rw [← hW] at nb bl hmk
  obtain ⟨g, hg⟩ : ∃ g, g = w.heap.size := ⟨_, rfl⟩
  have hgw : w.heap.size ≤ g := by omega
  rw [← hg] at nb hmk
  clear hW hg
  go_enter Try.func16, Try.ntmps16
  go_wp2_with fail
  clear hmk
  refine (XK.out _).mono ?_
  rintro e w2 ⟨rfl, rfl⟩
  have m0 := cellsAt nb 0 _ rfl
  have n0 := cellsFree nb 0
  have m1 := cellsAt nb 1 _ rfl
  have n1 := cellsFree nb 1
  have m2 := cellsAt nb 2 _ rfl
  have n2 := cellsFree nb 2
  have m3 := cellsAt nb 3 _ rfl
  have n3 := cellsFree nb 3
  go_wp2_with fail
  clear m0 m1 m2 m3 n0 n1 n2 n3
  refine (XB.out _).mono ?_
  rintro e w2 ⟨rfl, rfl⟩
  go_wp2_with fail
  refine (XP.out _).mono ?_
  rintro e w3 ⟨rfl, b3⟩
  replace nb := (b3.block _ (lt_of_block nb)).trans nb
  replace bl := below_trans bl b3 bl.size
  clear b3
  go_wp2_with fail
  refine wp_loop_rounds 1 ?_
  rw [rounds_succ]
  go_wp2_with fail
  go_ret
  exact ⟨g, rfl, hgw, nb, bl⟩
set_option maxHeartbeats 4000000 in
theorem su_one (s : ByteArray) (a : UInt8) (kd : Int) (u : ByteArray) (c0 c1 c2 c3 : Int) (hz : s.size ≤ 700) (k33 : (kd == 33) = false) (k63 : (kd == 63) = false) (k61 : (kd == 61) = false) (HK : ∀ w, Calls Try.prog 25 #[.string s] w fun e w' => e = .returned (.int .u8 kd) ∧ w = w') (HB : ∀ w, Calls Try.prog 26 #[.string s] w fun e w' => e = .returned (.tuple #[.int .u8 0, .bool false]) ∧ w = w') (HP : ∀ w, Calls Try.prog 27 #[.string s] w fun e w' => ∃ b, e = .returned (.slice (some ⟨b, 0, none⟩) 1 1) ∧ w.heap.size ≤ b ∧ w'.heap[b]? = some (.cells #[.string u] 9 (0, 0)) ∧ Below w.heap.size w w') (ih : ∀ w, Calls Try.prog 16 #[.string u, .int .u8 (a.toNat : Int)] w fun e w' => ∃ g, e = .returned (.slice (some ⟨g, 0, none⟩) 4 4) ∧ w.heap.size ≤ g ∧ w'.heap[g]? = some (.cells #[.int .i64 c0, .int .i64 c1, .int .i64 c2, .int .i64 c3] 3 (0, 0)) ∧ Below w.heap.size w w') (w : World) : Calls Try.prog 16 #[.string s, .int .u8 (a.toNat : Int)] w fun e w' => ∃ g, e = .returned (.slice (some ⟨g, 0, none⟩) 4 4) ∧ w.heap.size ≤ g ∧ w'.heap[g]? = some (.cells #[.int .i64 (wrap64 (0 + c0)), .int .i64 (wrap64 (0 + c1)), .int .i64 (wrap64 (0 + c2)), .int .i64 (wrap64 (0 + c3))] 3 (0, 0)) ∧ Below w.heap.size w w' := by
  have XK := Lib.hid HK
  have XB := Lib.hid HB
  have XP := Lib.hid HP
  have I1 := Lib.hid ih
  clear HK HB HP ih
  have nb := new_block w (.cells #[.int .i64 0, .int .i64 0, .int .i64 0, .int .i64 0] 3)
  have bl := (Below.refl w.heap.size w).alloc (Nat.le_refl _) (.cells #[.int .i64 0, .int .i64 0, .int .i64 0, .int .i64 0] 3)
  obtain ⟨W, hW⟩ : ∃ W, W = w.alloc (.cells #[.int .i64 0, .int .i64 0, .int .i64 0, .int .i64 0] 3) := ⟨_, rfl⟩
  have hmk := mk4 w
  rw [← hW] at nb bl hmk
  obtain ⟨g, hg⟩ : ∃ g, g = w.heap.size := ⟨_, rfl⟩
  have hgw : w.heap.size ≤ g := by omega
  rw [← hg] at nb hmk
  clear hW hg
  go_enter Try.func16, Try.ntmps16
  go_wp2_with fail
  clear hmk
  refine (XK.out _).mono ?_
  rintro e w2 ⟨rfl, rfl⟩
  have m0 := cellsAt nb 0 _ rfl
  have n0 := cellsFree nb 0
  have m1 := cellsAt nb 1 _ rfl
  have n1 := cellsFree nb 1
  have m2 := cellsAt nb 2 _ rfl
  have n2 := cellsFree nb 2
  have m3 := cellsAt nb 3 _ rfl
  have n3 := cellsFree nb 3
  go_wp2_with fail
  clear m0 m1 m2 m3 n0 n1 n2 n3
  refine (XB.out _).mono ?_
  rintro e w2 ⟨rfl, rfl⟩
  go_wp2_with fail
  obtain ⟨i0, e0⟩ : ∃ i : Int, i = 0 := ⟨_, rfl⟩
  obtain ⟨i1, e1⟩ : ∃ i : Int, i = 0 := ⟨_, rfl⟩
  obtain ⟨i2, e2⟩ : ∃ i : Int, i = 0 := ⟨_, rfl⟩
  obtain ⟨i3, e3⟩ : ∃ i : Int, i = 0 := ⟨_, rfl⟩
  replace nb := nb.trans (show some (Obj.cells #[.int .i64 0, .int .i64 0, .int .i64 0, .int .i64 0] 3 (0, 0)) = some (Obj.cells #[.int .i64 i0, .int .i64 i1, .int .i64 i2, .int .i64 i3] 3 (0, 0)) from by rw [e0, e1, e2, e3])
  have E0 := Lib.hid e0
  have E1 := Lib.hid e1
  have E2 := Lib.hid e2
  have E3 := Lib.hid e3
  clear e0 e1 e2 e3
  refine (XP.out _).mono ?_
  rintro e w3 ⟨b, rfl, hb, hh, b3⟩
  have hgb : g < b := Nat.lt_of_lt_of_le (lt_of_block nb) hb
  replace nb := (b3.block _ (lt_of_block nb)).trans nb
  replace bl := below_trans bl b3 bl.size
  clear b3
  have cu := cellOf1 hh
  have Hh := Lib.hid hh
  clear hh
  go_wp2_with fail
  refine wp_loop_rounds 2 ?_
  rw [rounds_succ]
  go_wp2_with fail
  refine (I1.out _).mono ?_
  rintro e w4 ⟨g2, rfl, hg2, hc, b4⟩
  have hgg : g ≠ g2 := by have := lt_of_block nb; omega
  have hgb2 : b ≠ g2 := by have := lt_of_block Hh.out; omega
  replace nb := (b4.block _ (lt_of_block nb)).trans nb
  have Hh := Lib.hid ((b4.block _ (lt_of_block Hh.out)).trans Hh.out)
  replace bl := below_trans bl b4 bl.size
  clear b4 cu
  go_wp2_with fail
  refine wp_loop_rounds 5 ?_
  rw [rounds_succ]
  have m := cellsAt nb 0 _ rfl
  have n := cellsFree nb 0
  have k := cellsAt hc 0 _ rfl
  go_wp2_with fail
  clear m n k
  obtain ⟨w5, h5⟩ : ∃ w5, w5 = w4.setCell ⟨g, 0, none⟩ (.int .i64 (wrap64 (i0 + c0))) := ⟨_, rfl⟩
  rw [← h5]
  have nb2 : w5.heap[g]? = some (.cells #[.int .i64 (wrap64 (i0 + c0)), .int .i64 i1, .int .i64 i2, .int .i64 i3] 3 (0, 0)) := by rw [h5, set_cells nb]; rfl
  have hc2 : w5.heap[g2]? = some (.cells #[.int .i64 c0, .int .i64 c1, .int .i64 c2, .int .i64 c3] 3 (0, 0)) := by rw [h5]; exact (Below.heap_setCell _ _ _ _ hgg.symm).trans hc
  have Hh := Lib.hid (show w5.heap[b]? = some (.cells #[.string u] 9 (0, 0)) from by rw [h5]; exact (Below.heap_setCell _ _ _ _ (by show b ≠ g; omega)).trans Hh.out)
  have bl2 : Below w.heap.size w w5 := by rw [h5]; exact bl.setCell hgw _
  clear h5 nb hc bl
  obtain ⟨w4, hw4⟩ : ∃ w4, w4 = w5 := ⟨_, rfl⟩
  rw [← hw4] at nb2 hc2 Hh bl2 ⊢
  clear hw4
  have nb := nb2
  have hc := hc2
  have bl := bl2
  clear nb2 hc2 bl2
  rw [rounds_succ]
  have m := cellsAt nb 1 _ rfl
  have n := cellsFree nb 1
  have k := cellsAt hc 1 _ rfl
  go_wp2_with fail
  clear m n k
  obtain ⟨w5, h5⟩ : ∃ w5, w5 = w4.setCell ⟨g, 1, none⟩ (.int .i64 (wrap64 (i1 + c1))) := ⟨_, rfl⟩
  rw [← h5]
  have nb2 : w5.heap[g]? = some (.cells #[.int .i64 (wrap64 (i0 + c0)), .int .i64 (wrap64 (i1 + c1)), .int .i64 i2, .int .i64 i3] 3 (0, 0)) := by rw [h5, set_cells nb]; rfl
  have hc2 : w5.heap[g2]? = some (.cells #[.int .i64 c0, .int .i64 c1, .int .i64 c2, .int .i64 c3] 3 (0, 0)) := by rw [h5]; exact (Below.heap_setCell _ _ _ _ hgg.symm).trans hc
  have Hh := Lib.hid (show w5.heap[b]? = some (.cells #[.string u] 9 (0, 0)) from by rw [h5]; exact (Below.heap_setCell _ _ _ _ (by show b ≠ g; omega)).trans Hh.out)
  have bl2 : Below w.heap.size w w5 := by rw [h5]; exact bl.setCell hgw _
  clear h5 nb hc bl
  obtain ⟨w4, hw4⟩ : ∃ w4, w4 = w5 := ⟨_, rfl⟩
  rw [← hw4] at nb2 hc2 Hh bl2 ⊢
  clear hw4
  have nb := nb2
  have hc := hc2
  have bl := bl2
  clear nb2 hc2 bl2
  rw [rounds_succ]
  have m := cellsAt nb 2 _ rfl
  have n := cellsFree nb 2
  have k := cellsAt hc 2 _ rfl
  go_wp2_with fail
  clear m n k
  obtain ⟨w5, h5⟩ : ∃ w5, w5 = w4.setCell ⟨g, 2, none⟩ (.int .i64 (wrap64 (i2 + c2))) := ⟨_, rfl⟩
  rw [← h5]
  have nb2 : w5.heap[g]? = some (.cells #[.int .i64 (wrap64 (i0 + c0)), .int .i64 (wrap64 (i1 + c1)), .int .i64 (wrap64 (i2 + c2)), .int .i64 i3] 3 (0, 0)) := by rw [h5, set_cells nb]; rfl
  have hc2 : w5.heap[g2]? = some (.cells #[.int .i64 c0, .int .i64 c1, .int .i64 c2, .int .i64 c3] 3 (0, 0)) := by rw [h5]; exact (Below.heap_setCell _ _ _ _ hgg.symm).trans hc
  have Hh := Lib.hid (show w5.heap[b]? = some (.cells #[.string u] 9 (0, 0)) from by rw [h5]; exact (Below.heap_setCell _ _ _ _ (by show b ≠ g; omega)).trans Hh.out)
  have bl2 : Below w.heap.size w w5 := by rw [h5]; exact bl.setCell hgw _
  clear h5 nb hc bl
  obtain ⟨w4, hw4⟩ : ∃ w4, w4 = w5 := ⟨_, rfl⟩
  rw [← hw4] at nb2 hc2 Hh bl2 ⊢
  clear hw4
  have nb := nb2
  have hc := hc2
  have bl := bl2
  clear nb2 hc2 bl2
  rw [rounds_succ]
  have m := cellsAt nb 3 _ rfl
  have n := cellsFree nb 3
  have k := cellsAt hc 3 _ rfl
  go_wp2_with fail
  clear m n k
  obtain ⟨w5, h5⟩ : ∃ w5, w5 = w4.setCell ⟨g, 3, none⟩ (.int .i64 (wrap64 (i3 + c3))) := ⟨_, rfl⟩
  rw [← h5]
  have nb2 : w5.heap[g]? = some (.cells #[.int .i64 (wrap64 (i0 + c0)), .int .i64 (wrap64 (i1 + c1)), .int .i64 (wrap64 (i2 + c2)), .int .i64 (wrap64 (i3 + c3))] 3 (0, 0)) := by rw [h5, set_cells nb]; rfl
  have hc2 : w5.heap[g2]? = some (.cells #[.int .i64 c0, .int .i64 c1, .int .i64 c2, .int .i64 c3] 3 (0, 0)) := by rw [h5]; exact (Below.heap_setCell _ _ _ _ hgg.symm).trans hc
  have Hh := Lib.hid (show w5.heap[b]? = some (.cells #[.string u] 9 (0, 0)) from by rw [h5]; exact (Below.heap_setCell _ _ _ _ (by show b ≠ g; omega)).trans Hh.out)
  have bl2 : Below w.heap.size w w5 := by rw [h5]; exact bl.setCell hgw _
  clear h5 nb hc bl
  obtain ⟨w4, hw4⟩ : ∃ w4, w4 = w5 := ⟨_, rfl⟩
  rw [← hw4] at nb2 hc2 Hh bl2 ⊢
  clear hw4
  have nb := nb2
  have hc := hc2
  have bl := bl2
  clear nb2 hc2 bl2
  rw [rounds_succ]
  skip
  go_wp2_with fail
  clear hc
  rw [rounds_succ]
  go_wp2_with fail
  go_ret
  exact ⟨g, rfl, hgw, by have h := nb; rw [E0.out, E1.out, E2.out, E3.out] at h; exact h, bl⟩
set_option maxHeartbeats 4000000 in
theorem su_two (s : ByteArray) (a : UInt8) (kd : Int) (u : ByteArray) (c0 c1 c2 c3 : Int) (v : ByteArray) (d0 d1 d2 d3 : Int) (hz : s.size ≤ 700) (k33 : (kd == 33) = false) (k63 : (kd == 63) = false) (k61 : (kd == 61) = false) (HK : ∀ w, Calls Try.prog 25 #[.string s] w fun e w' => e = .returned (.int .u8 kd) ∧ w = w') (HB : ∀ w, Calls Try.prog 26 #[.string s] w fun e w' => e = .returned (.tuple #[.int .u8 0, .bool false]) ∧ w = w') (HP : ∀ w, Calls Try.prog 27 #[.string s] w fun e w' => ∃ b, e = .returned (.slice (some ⟨b, 0, none⟩) 2 2) ∧ w.heap.size ≤ b ∧ w'.heap[b]? = some (.cells #[.string u, .string v] 9 (0, 0)) ∧ Below w.heap.size w w') (ih : ∀ w, Calls Try.prog 16 #[.string u, .int .u8 (a.toNat : Int)] w fun e w' => ∃ g, e = .returned (.slice (some ⟨g, 0, none⟩) 4 4) ∧ w.heap.size ≤ g ∧ w'.heap[g]? = some (.cells #[.int .i64 c0, .int .i64 c1, .int .i64 c2, .int .i64 c3] 3 (0, 0)) ∧ Below w.heap.size w w') (ih2 : ∀ w, Calls Try.prog 16 #[.string v, .int .u8 (a.toNat : Int)] w fun e w' => ∃ g, e = .returned (.slice (some ⟨g, 0, none⟩) 4 4) ∧ w.heap.size ≤ g ∧ w'.heap[g]? = some (.cells #[.int .i64 d0, .int .i64 d1, .int .i64 d2, .int .i64 d3] 3 (0, 0)) ∧ Below w.heap.size w w') (w : World) : Calls Try.prog 16 #[.string s, .int .u8 (a.toNat : Int)] w fun e w' => ∃ g, e = .returned (.slice (some ⟨g, 0, none⟩) 4 4) ∧ w.heap.size ≤ g ∧ w'.heap[g]? = some (.cells #[.int .i64 (wrap64 ((wrap64 (0 + c0)) + d0)), .int .i64 (wrap64 ((wrap64 (0 + c1)) + d1)), .int .i64 (wrap64 ((wrap64 (0 + c2)) + d2)), .int .i64 (wrap64 ((wrap64 (0 + c3)) + d3))] 3 (0, 0)) ∧ Below w.heap.size w w' := by
  have XK := Lib.hid HK
  have XB := Lib.hid HB
  have XP := Lib.hid HP
  have I1 := Lib.hid ih
  have I2 := Lib.hid ih2
  clear HK HB HP ih ih2
  have nb := new_block w (.cells #[.int .i64 0, .int .i64 0, .int .i64 0, .int .i64 0] 3)
  have bl := (Below.refl w.heap.size w).alloc (Nat.le_refl _) (.cells #[.int .i64 0, .int .i64 0, .int .i64 0, .int .i64 0] 3)
  obtain ⟨W, hW⟩ : ∃ W, W = w.alloc (.cells #[.int .i64 0, .int .i64 0, .int .i64 0, .int .i64 0] 3) := ⟨_, rfl⟩
  have hmk := mk4 w
  rw [← hW] at nb bl hmk
  obtain ⟨g, hg⟩ : ∃ g, g = w.heap.size := ⟨_, rfl⟩
  have hgw : w.heap.size ≤ g := by omega
  rw [← hg] at nb hmk
  clear hW hg
  go_enter Try.func16, Try.ntmps16
  go_wp2_with fail
  clear hmk
  refine (XK.out _).mono ?_
  rintro e w2 ⟨rfl, rfl⟩
  have m0 := cellsAt nb 0 _ rfl
  have n0 := cellsFree nb 0
  have m1 := cellsAt nb 1 _ rfl
  have n1 := cellsFree nb 1
  have m2 := cellsAt nb 2 _ rfl
  have n2 := cellsFree nb 2
  have m3 := cellsAt nb 3 _ rfl
  have n3 := cellsFree nb 3
  go_wp2_with fail
  clear m0 m1 m2 m3 n0 n1 n2 n3
  refine (XB.out _).mono ?_
  rintro e w2 ⟨rfl, rfl⟩
  go_wp2_with fail
  obtain ⟨i0, e0⟩ : ∃ i : Int, i = 0 := ⟨_, rfl⟩
  obtain ⟨i1, e1⟩ : ∃ i : Int, i = 0 := ⟨_, rfl⟩
  obtain ⟨i2, e2⟩ : ∃ i : Int, i = 0 := ⟨_, rfl⟩
  obtain ⟨i3, e3⟩ : ∃ i : Int, i = 0 := ⟨_, rfl⟩
  replace nb := nb.trans (show some (Obj.cells #[.int .i64 0, .int .i64 0, .int .i64 0, .int .i64 0] 3 (0, 0)) = some (Obj.cells #[.int .i64 i0, .int .i64 i1, .int .i64 i2, .int .i64 i3] 3 (0, 0)) from by rw [e0, e1, e2, e3])
  have E0 := Lib.hid e0
  have E1 := Lib.hid e1
  have E2 := Lib.hid e2
  have E3 := Lib.hid e3
  clear e0 e1 e2 e3
  refine (XP.out _).mono ?_
  rintro e w3 ⟨b, rfl, hb, hh, b3⟩
  have hgb : g < b := Nat.lt_of_lt_of_le (lt_of_block nb) hb
  replace nb := (b3.block _ (lt_of_block nb)).trans nb
  replace bl := below_trans bl b3 bl.size
  clear b3
  have cu := cellOf2a hh
  have Hh := Lib.hid hh
  clear hh
  go_wp2_with fail
  refine wp_loop_rounds 3 ?_
  rw [rounds_succ]
  go_wp2_with fail
  refine (I1.out _).mono ?_
  rintro e w4 ⟨g2, rfl, hg2, hc, b4⟩
  have hgg : g ≠ g2 := by have := lt_of_block nb; omega
  have hgb2 : b ≠ g2 := by have := lt_of_block Hh.out; omega
  replace nb := (b4.block _ (lt_of_block nb)).trans nb
  have Hh := Lib.hid ((b4.block _ (lt_of_block Hh.out)).trans Hh.out)
  replace bl := below_trans bl b4 bl.size
  clear b4 cu
  go_wp2_with fail
  refine wp_loop_rounds 5 ?_
  rw [rounds_succ]
  have m := cellsAt nb 0 _ rfl
  have n := cellsFree nb 0
  have k := cellsAt hc 0 _ rfl
  go_wp2_with fail
  clear m n k
  obtain ⟨w5, h5⟩ : ∃ w5, w5 = w4.setCell ⟨g, 0, none⟩ (.int .i64 (wrap64 (i0 + c0))) := ⟨_, rfl⟩
  rw [← h5]
  have nb2 : w5.heap[g]? = some (.cells #[.int .i64 (wrap64 (i0 + c0)), .int .i64 i1, .int .i64 i2, .int .i64 i3] 3 (0, 0)) := by rw [h5, set_cells nb]; rfl
  have hc2 : w5.heap[g2]? = some (.cells #[.int .i64 c0, .int .i64 c1, .int .i64 c2, .int .i64 c3] 3 (0, 0)) := by rw [h5]; exact (Below.heap_setCell _ _ _ _ hgg.symm).trans hc
  have Hh := Lib.hid (show w5.heap[b]? = some (.cells #[.string u, .string v] 9 (0, 0)) from by rw [h5]; exact (Below.heap_setCell _ _ _ _ (by show b ≠ g; omega)).trans Hh.out)
  have bl2 : Below w.heap.size w w5 := by rw [h5]; exact bl.setCell hgw _
  clear h5 nb hc bl
  obtain ⟨w4, hw4⟩ : ∃ w4, w4 = w5 := ⟨_, rfl⟩
  rw [← hw4] at nb2 hc2 Hh bl2 ⊢
  clear hw4
  have nb := nb2
  have hc := hc2
  have bl := bl2
  clear nb2 hc2 bl2
  rw [rounds_succ]
  have m := cellsAt nb 1 _ rfl
  have n := cellsFree nb 1
  have k := cellsAt hc 1 _ rfl
  go_wp2_with fail
  clear m n k
  obtain ⟨w5, h5⟩ : ∃ w5, w5 = w4.setCell ⟨g, 1, none⟩ (.int .i64 (wrap64 (i1 + c1))) := ⟨_, rfl⟩
  rw [← h5]
  have nb2 : w5.heap[g]? = some (.cells #[.int .i64 (wrap64 (i0 + c0)), .int .i64 (wrap64 (i1 + c1)), .int .i64 i2, .int .i64 i3] 3 (0, 0)) := by rw [h5, set_cells nb]; rfl
  have hc2 : w5.heap[g2]? = some (.cells #[.int .i64 c0, .int .i64 c1, .int .i64 c2, .int .i64 c3] 3 (0, 0)) := by rw [h5]; exact (Below.heap_setCell _ _ _ _ hgg.symm).trans hc
  have Hh := Lib.hid (show w5.heap[b]? = some (.cells #[.string u, .string v] 9 (0, 0)) from by rw [h5]; exact (Below.heap_setCell _ _ _ _ (by show b ≠ g; omega)).trans Hh.out)
  have bl2 : Below w.heap.size w w5 := by rw [h5]; exact bl.setCell hgw _
  clear h5 nb hc bl
  obtain ⟨w4, hw4⟩ : ∃ w4, w4 = w5 := ⟨_, rfl⟩
  rw [← hw4] at nb2 hc2 Hh bl2 ⊢
  clear hw4
  have nb := nb2
  have hc := hc2
  have bl := bl2
  clear nb2 hc2 bl2
  rw [rounds_succ]
  have m := cellsAt nb 2 _ rfl
  have n := cellsFree nb 2
  have k := cellsAt hc 2 _ rfl
  go_wp2_with fail
  clear m n k
  obtain ⟨w5, h5⟩ : ∃ w5, w5 = w4.setCell ⟨g, 2, none⟩ (.int .i64 (wrap64 (i2 + c2))) := ⟨_, rfl⟩
  rw [← h5]
  have nb2 : w5.heap[g]? = some (.cells #[.int .i64 (wrap64 (i0 + c0)), .int .i64 (wrap64 (i1 + c1)), .int .i64 (wrap64 (i2 + c2)), .int .i64 i3] 3 (0, 0)) := by rw [h5, set_cells nb]; rfl
  have hc2 : w5.heap[g2]? = some (.cells #[.int .i64 c0, .int .i64 c1, .int .i64 c2, .int .i64 c3] 3 (0, 0)) := by rw [h5]; exact (Below.heap_setCell _ _ _ _ hgg.symm).trans hc
  have Hh := Lib.hid (show w5.heap[b]? = some (.cells #[.string u, .string v] 9 (0, 0)) from by rw [h5]; exact (Below.heap_setCell _ _ _ _ (by show b ≠ g; omega)).trans Hh.out)
  have bl2 : Below w.heap.size w w5 := by rw [h5]; exact bl.setCell hgw _
  clear h5 nb hc bl
  obtain ⟨w4, hw4⟩ : ∃ w4, w4 = w5 := ⟨_, rfl⟩
  rw [← hw4] at nb2 hc2 Hh bl2 ⊢
  clear hw4
  have nb := nb2
  have hc := hc2
  have bl := bl2
  clear nb2 hc2 bl2
  rw [rounds_succ]
  have m := cellsAt nb 3 _ rfl
  have n := cellsFree nb 3
  have k := cellsAt hc 3 _ rfl
  go_wp2_with fail
  clear m n k
  obtain ⟨w5, h5⟩ : ∃ w5, w5 = w4.setCell ⟨g, 3, none⟩ (.int .i64 (wrap64 (i3 + c3))) := ⟨_, rfl⟩
  rw [← h5]
  have nb2 : w5.heap[g]? = some (.cells #[.int .i64 (wrap64 (i0 + c0)), .int .i64 (wrap64 (i1 + c1)), .int .i64 (wrap64 (i2 + c2)), .int .i64 (wrap64 (i3 + c3))] 3 (0, 0)) := by rw [h5, set_cells nb]; rfl
  have hc2 : w5.heap[g2]? = some (.cells #[.int .i64 c0, .int .i64 c1, .int .i64 c2, .int .i64 c3] 3 (0, 0)) := by rw [h5]; exact (Below.heap_setCell _ _ _ _ hgg.symm).trans hc
  have Hh := Lib.hid (show w5.heap[b]? = some (.cells #[.string u, .string v] 9 (0, 0)) from by rw [h5]; exact (Below.heap_setCell _ _ _ _ (by show b ≠ g; omega)).trans Hh.out)
  have bl2 : Below w.heap.size w w5 := by rw [h5]; exact bl.setCell hgw _
  clear h5 nb hc bl
  obtain ⟨w4, hw4⟩ : ∃ w4, w4 = w5 := ⟨_, rfl⟩
  rw [← hw4] at nb2 hc2 Hh bl2 ⊢
  clear hw4
  have nb := nb2
  have hc := hc2
  have bl := bl2
  clear nb2 hc2 bl2
  rw [rounds_succ]
  have cu := cellOf2b Hh.out
  go_wp2_with fail
  clear hc
  rw [rounds_succ]
  go_wp2_with fail
  refine (I2.out _).mono ?_
  rintro e w4 ⟨g2, rfl, hg2, hc, b4⟩
  have hgg : g ≠ g2 := by have := lt_of_block nb; omega
  have hgb2 : b ≠ g2 := by have := lt_of_block Hh.out; omega
  replace nb := (b4.block _ (lt_of_block nb)).trans nb
  have Hh := Lib.hid ((b4.block _ (lt_of_block Hh.out)).trans Hh.out)
  replace bl := below_trans bl b4 bl.size
  clear b4 cu
  go_wp2_with fail
  refine wp_loop_rounds 5 ?_
  rw [rounds_succ]
  have m := cellsAt nb 0 _ rfl
  have n := cellsFree nb 0
  have k := cellsAt hc 0 _ rfl
  go_wp2_with fail
  clear m n k
  obtain ⟨w5, h5⟩ : ∃ w5, w5 = w4.setCell ⟨g, 0, none⟩ (.int .i64 (wrap64 ((wrap64 (i0 + c0)) + d0))) := ⟨_, rfl⟩
  rw [← h5]
  have nb2 : w5.heap[g]? = some (.cells #[.int .i64 (wrap64 ((wrap64 (i0 + c0)) + d0)), .int .i64 (wrap64 (i1 + c1)), .int .i64 (wrap64 (i2 + c2)), .int .i64 (wrap64 (i3 + c3))] 3 (0, 0)) := by rw [h5, set_cells nb]; rfl
  have hc2 : w5.heap[g2]? = some (.cells #[.int .i64 d0, .int .i64 d1, .int .i64 d2, .int .i64 d3] 3 (0, 0)) := by rw [h5]; exact (Below.heap_setCell _ _ _ _ hgg.symm).trans hc
  have Hh := Lib.hid (show w5.heap[b]? = some (.cells #[.string u, .string v] 9 (0, 0)) from by rw [h5]; exact (Below.heap_setCell _ _ _ _ (by show b ≠ g; omega)).trans Hh.out)
  have bl2 : Below w.heap.size w w5 := by rw [h5]; exact bl.setCell hgw _
  clear h5 nb hc bl
  obtain ⟨w4, hw4⟩ : ∃ w4, w4 = w5 := ⟨_, rfl⟩
  rw [← hw4] at nb2 hc2 Hh bl2 ⊢
  clear hw4
  have nb := nb2
  have hc := hc2
  have bl := bl2
  clear nb2 hc2 bl2
  rw [rounds_succ]
  have m := cellsAt nb 1 _ rfl
  have n := cellsFree nb 1
  have k := cellsAt hc 1 _ rfl
  go_wp2_with fail
  clear m n k
  obtain ⟨w5, h5⟩ : ∃ w5, w5 = w4.setCell ⟨g, 1, none⟩ (.int .i64 (wrap64 ((wrap64 (i1 + c1)) + d1))) := ⟨_, rfl⟩
  rw [← h5]
  have nb2 : w5.heap[g]? = some (.cells #[.int .i64 (wrap64 ((wrap64 (i0 + c0)) + d0)), .int .i64 (wrap64 ((wrap64 (i1 + c1)) + d1)), .int .i64 (wrap64 (i2 + c2)), .int .i64 (wrap64 (i3 + c3))] 3 (0, 0)) := by rw [h5, set_cells nb]; rfl
  have hc2 : w5.heap[g2]? = some (.cells #[.int .i64 d0, .int .i64 d1, .int .i64 d2, .int .i64 d3] 3 (0, 0)) := by rw [h5]; exact (Below.heap_setCell _ _ _ _ hgg.symm).trans hc
  have Hh := Lib.hid (show w5.heap[b]? = some (.cells #[.string u, .string v] 9 (0, 0)) from by rw [h5]; exact (Below.heap_setCell _ _ _ _ (by show b ≠ g; omega)).trans Hh.out)
  have bl2 : Below w.heap.size w w5 := by rw [h5]; exact bl.setCell hgw _
  clear h5 nb hc bl
  obtain ⟨w4, hw4⟩ : ∃ w4, w4 = w5 := ⟨_, rfl⟩
  rw [← hw4] at nb2 hc2 Hh bl2 ⊢
  clear hw4
  have nb := nb2
  have hc := hc2
  have bl := bl2
  clear nb2 hc2 bl2
  rw [rounds_succ]
  have m := cellsAt nb 2 _ rfl
  have n := cellsFree nb 2
  have k := cellsAt hc 2 _ rfl
  go_wp2_with fail
  clear m n k
  obtain ⟨w5, h5⟩ : ∃ w5, w5 = w4.setCell ⟨g, 2, none⟩ (.int .i64 (wrap64 ((wrap64 (i2 + c2)) + d2))) := ⟨_, rfl⟩
  rw [← h5]
  have nb2 : w5.heap[g]? = some (.cells #[.int .i64 (wrap64 ((wrap64 (i0 + c0)) + d0)), .int .i64 (wrap64 ((wrap64 (i1 + c1)) + d1)), .int .i64 (wrap64 ((wrap64 (i2 + c2)) + d2)), .int .i64 (wrap64 (i3 + c3))] 3 (0, 0)) := by rw [h5, set_cells nb]; rfl
  have hc2 : w5.heap[g2]? = some (.cells #[.int .i64 d0, .int .i64 d1, .int .i64 d2, .int .i64 d3] 3 (0, 0)) := by rw [h5]; exact (Below.heap_setCell _ _ _ _ hgg.symm).trans hc
  have Hh := Lib.hid (show w5.heap[b]? = some (.cells #[.string u, .string v] 9 (0, 0)) from by rw [h5]; exact (Below.heap_setCell _ _ _ _ (by show b ≠ g; omega)).trans Hh.out)
  have bl2 : Below w.heap.size w w5 := by rw [h5]; exact bl.setCell hgw _
  clear h5 nb hc bl
  obtain ⟨w4, hw4⟩ : ∃ w4, w4 = w5 := ⟨_, rfl⟩
  rw [← hw4] at nb2 hc2 Hh bl2 ⊢
  clear hw4
  have nb := nb2
  have hc := hc2
  have bl := bl2
  clear nb2 hc2 bl2
  rw [rounds_succ]
  have m := cellsAt nb 3 _ rfl
  have n := cellsFree nb 3
  have k := cellsAt hc 3 _ rfl
  go_wp2_with fail
  clear m n k
  obtain ⟨w5, h5⟩ : ∃ w5, w5 = w4.setCell ⟨g, 3, none⟩ (.int .i64 (wrap64 ((wrap64 (i3 + c3)) + d3))) := ⟨_, rfl⟩
  rw [← h5]
  have nb2 : w5.heap[g]? = some (.cells #[.int .i64 (wrap64 ((wrap64 (i0 + c0)) + d0)), .int .i64 (wrap64 ((wrap64 (i1 + c1)) + d1)), .int .i64 (wrap64 ((wrap64 (i2 + c2)) + d2)), .int .i64 (wrap64 ((wrap64 (i3 + c3)) + d3))] 3 (0, 0)) := by rw [h5, set_cells nb]; rfl
  have hc2 : w5.heap[g2]? = some (.cells #[.int .i64 d0, .int .i64 d1, .int .i64 d2, .int .i64 d3] 3 (0, 0)) := by rw [h5]; exact (Below.heap_setCell _ _ _ _ hgg.symm).trans hc
  have Hh := Lib.hid (show w5.heap[b]? = some (.cells #[.string u, .string v] 9 (0, 0)) from by rw [h5]; exact (Below.heap_setCell _ _ _ _ (by show b ≠ g; omega)).trans Hh.out)
  have bl2 : Below w.heap.size w w5 := by rw [h5]; exact bl.setCell hgw _
  clear h5 nb hc bl
  obtain ⟨w4, hw4⟩ : ∃ w4, w4 = w5 := ⟨_, rfl⟩
  rw [← hw4] at nb2 hc2 Hh bl2 ⊢
  clear hw4
  have nb := nb2
  have hc := hc2
  have bl := bl2
  clear nb2 hc2 bl2
  rw [rounds_succ]
  skip
  go_wp2_with fail
  clear hc
  rw [rounds_succ]
  go_wp2_with fail
  go_ret
  exact ⟨g, rfl, hgw, by have h := nb; rw [E0.out, E1.out, E2.out, E3.out] at h; exact h, bl⟩
set_option maxHeartbeats 4000000 in
theorem su_snd (s : ByteArray) (a : UInt8) (kd : Int) (u : ByteArray) (c0 c1 c2 c3 : Int) (hz : s.size ≤ 700) (k33 : (kd == 33) = true) (k63 : (kd == 63) = false) (k61 : (kd == 61) = false) (h0 : 0 < s.size) (p0 : Bool) (q0 : (((s[0]'h0).toNat : Int) == (a.toNat : Int)) = p0) (h2 : 2 < s.size) (p2 : Bool) (q2 : (((s[2]'h2).toNat : Int) == (a.toNat : Int)) = p2) (HK : ∀ w, Calls Try.prog 25 #[.string s] w fun e w' => e = .returned (.int .u8 kd) ∧ w = w') (HB : ∀ w, Calls Try.prog 26 #[.string s] w fun e w' => e = .returned (.tuple #[.int .u8 0, .bool false]) ∧ w = w') (HP : ∀ w, Calls Try.prog 27 #[.string s] w fun e w' => ∃ b, e = .returned (.slice (some ⟨b, 0, none⟩) 1 1) ∧ w.heap.size ≤ b ∧ w'.heap[b]? = some (.cells #[.string u] 9 (0, 0)) ∧ Below w.heap.size w w') (ih : ∀ w, Calls Try.prog 16 #[.string u, .int .u8 (a.toNat : Int)] w fun e w' => ∃ g, e = .returned (.slice (some ⟨g, 0, none⟩) 4 4) ∧ w.heap.size ≤ g ∧ w'.heap[g]? = some (.cells #[.int .i64 c0, .int .i64 c1, .int .i64 c2, .int .i64 c3] 3 (0, 0)) ∧ Below w.heap.size w w') (w : World) : Calls Try.prog 16 #[.string s, .int .u8 (a.toNat : Int)] w fun e w' => ∃ g, e = .returned (.slice (some ⟨g, 0, none⟩) 4 4) ∧ w.heap.size ≤ g ∧ w'.heap[g]? = some (.cells #[.int .i64 (wrap64 (cond p0 1 0 + c0)), .int .i64 (wrap64 (0 + c1)), .int .i64 (wrap64 (cond p2 1 0 + c2)), .int .i64 (wrap64 (0 + c3))] 3 (0, 0)) ∧ Below w.heap.size w w' := by
  have XK := Lib.hid HK
  have XB := Lib.hid HB
  have XP := Lib.hid HP
  have I1 := Lib.hid ih
  clear HK HB HP ih
  have nb := new_block w (.cells #[.int .i64 0, .int .i64 0, .int .i64 0, .int .i64 0] 3)
  have bl := (Below.refl w.heap.size w).alloc (Nat.le_refl _) (.cells #[.int .i64 0, .int .i64 0, .int .i64 0, .int .i64 0] 3)
  obtain ⟨W, hW⟩ : ∃ W, W = w.alloc (.cells #[.int .i64 0, .int .i64 0, .int .i64 0, .int .i64 0] 3) := ⟨_, rfl⟩
  have hmk := mk4 w
  rw [← hW] at nb bl hmk
  obtain ⟨g, hg⟩ : ∃ g, g = w.heap.size := ⟨_, rfl⟩
  have hgw : w.heap.size ≤ g := by omega
  rw [← hg] at nb hmk
  clear hW hg
  cases p0
  · cases p2
    · go_enter Try.func16, Try.ntmps16
      go_wp2_with fail
      clear hmk
      refine (XK.out _).mono ?_
      rintro e w2 ⟨rfl, rfl⟩
      have m0 := cellsAt nb 0 _ rfl
      have n0 := cellsFree nb 0
      have m1 := cellsAt nb 1 _ rfl
      have n1 := cellsFree nb 1
      have m2 := cellsAt nb 2 _ rfl
      have n2 := cellsFree nb 2
      have m3 := cellsAt nb 3 _ rfl
      have n3 := cellsFree nb 3
      go_wp2_with fail
      clear m0 m1 m2 m3 n0 n1 n2 n3
      refine (XB.out _).mono ?_
      rintro e w2 ⟨rfl, rfl⟩
      go_wp2_with fail
      obtain ⟨i0, e0⟩ : ∃ i : Int, i = 0 := ⟨_, rfl⟩
      obtain ⟨i1, e1⟩ : ∃ i : Int, i = 0 := ⟨_, rfl⟩
      obtain ⟨i2, e2⟩ : ∃ i : Int, i = 0 := ⟨_, rfl⟩
      obtain ⟨i3, e3⟩ : ∃ i : Int, i = 0 := ⟨_, rfl⟩
      replace nb := nb.trans (show some (Obj.cells #[.int .i64 0, .int .i64 0, .int .i64 0, .int .i64 0] 3 (0, 0)) = some (Obj.cells #[.int .i64 i0, .int .i64 i1, .int .i64 i2, .int .i64 i3] 3 (0, 0)) from by rw [e0, e1, e2, e3])
      have E0 := Lib.hid e0
      have E1 := Lib.hid e1
      have E2 := Lib.hid e2
      have E3 := Lib.hid e3
      clear e0 e1 e2 e3
      refine (XP.out _).mono ?_
      rintro e w3 ⟨b, rfl, hb, hh, b3⟩
      have hgb : g < b := Nat.lt_of_lt_of_le (lt_of_block nb) hb
      replace nb := (b3.block _ (lt_of_block nb)).trans nb
      replace bl := below_trans bl b3 bl.size
      clear b3
      have cu := cellOf1 hh
      have Hh := Lib.hid hh
      clear hh
      go_wp2_with fail
      refine wp_loop_rounds 2 ?_
      rw [rounds_succ]
      go_wp2_with fail
      refine (I1.out _).mono ?_
      rintro e w4 ⟨g2, rfl, hg2, hc, b4⟩
      have hgg : g ≠ g2 := by have := lt_of_block nb; omega
      have hgb2 : b ≠ g2 := by have := lt_of_block Hh.out; omega
      replace nb := (b4.block _ (lt_of_block nb)).trans nb
      have Hh := Lib.hid ((b4.block _ (lt_of_block Hh.out)).trans Hh.out)
      replace bl := below_trans bl b4 bl.size
      clear b4 cu
      go_wp2_with fail
      refine wp_loop_rounds 5 ?_
      rw [rounds_succ]
      have m := cellsAt nb 0 _ rfl
      have n := cellsFree nb 0
      have k := cellsAt hc 0 _ rfl
      go_wp2_with fail
      clear m n k
      obtain ⟨w5, h5⟩ : ∃ w5, w5 = w4.setCell ⟨g, 0, none⟩ (.int .i64 (wrap64 (i0 + c0))) := ⟨_, rfl⟩
      rw [← h5]
      have nb2 : w5.heap[g]? = some (.cells #[.int .i64 (wrap64 (i0 + c0)), .int .i64 i1, .int .i64 i2, .int .i64 i3] 3 (0, 0)) := by rw [h5, set_cells nb]; rfl
      have hc2 : w5.heap[g2]? = some (.cells #[.int .i64 c0, .int .i64 c1, .int .i64 c2, .int .i64 c3] 3 (0, 0)) := by rw [h5]; exact (Below.heap_setCell _ _ _ _ hgg.symm).trans hc
      have Hh := Lib.hid (show w5.heap[b]? = some (.cells #[.string u] 9 (0, 0)) from by rw [h5]; exact (Below.heap_setCell _ _ _ _ (by show b ≠ g; omega)).trans Hh.out)
      have bl2 : Below w.heap.size w w5 := by rw [h5]; exact bl.setCell hgw _
      clear h5 nb hc bl
      obtain ⟨w4, hw4⟩ : ∃ w4, w4 = w5 := ⟨_, rfl⟩
      rw [← hw4] at nb2 hc2 Hh bl2 ⊢
      clear hw4
      have nb := nb2
      have hc := hc2
      have bl := bl2
      clear nb2 hc2 bl2
      rw [rounds_succ]
      have m := cellsAt nb 1 _ rfl
      have n := cellsFree nb 1
      have k := cellsAt hc 1 _ rfl
      go_wp2_with fail
      clear m n k
      obtain ⟨w5, h5⟩ : ∃ w5, w5 = w4.setCell ⟨g, 1, none⟩ (.int .i64 (wrap64 (i1 + c1))) := ⟨_, rfl⟩
      rw [← h5]
      have nb2 : w5.heap[g]? = some (.cells #[.int .i64 (wrap64 (i0 + c0)), .int .i64 (wrap64 (i1 + c1)), .int .i64 i2, .int .i64 i3] 3 (0, 0)) := by rw [h5, set_cells nb]; rfl
      have hc2 : w5.heap[g2]? = some (.cells #[.int .i64 c0, .int .i64 c1, .int .i64 c2, .int .i64 c3] 3 (0, 0)) := by rw [h5]; exact (Below.heap_setCell _ _ _ _ hgg.symm).trans hc
      have Hh := Lib.hid (show w5.heap[b]? = some (.cells #[.string u] 9 (0, 0)) from by rw [h5]; exact (Below.heap_setCell _ _ _ _ (by show b ≠ g; omega)).trans Hh.out)
      have bl2 : Below w.heap.size w w5 := by rw [h5]; exact bl.setCell hgw _
      clear h5 nb hc bl
      obtain ⟨w4, hw4⟩ : ∃ w4, w4 = w5 := ⟨_, rfl⟩
      rw [← hw4] at nb2 hc2 Hh bl2 ⊢
      clear hw4
      have nb := nb2
      have hc := hc2
      have bl := bl2
      clear nb2 hc2 bl2
      rw [rounds_succ]
      have m := cellsAt nb 2 _ rfl
      have n := cellsFree nb 2
      have k := cellsAt hc 2 _ rfl
      go_wp2_with fail
      clear m n k
      obtain ⟨w5, h5⟩ : ∃ w5, w5 = w4.setCell ⟨g, 2, none⟩ (.int .i64 (wrap64 (i2 + c2))) := ⟨_, rfl⟩
      rw [← h5]
      have nb2 : w5.heap[g]? = some (.cells #[.int .i64 (wrap64 (i0 + c0)), .int .i64 (wrap64 (i1 + c1)), .int .i64 (wrap64 (i2 + c2)), .int .i64 i3] 3 (0, 0)) := by rw [h5, set_cells nb]; rfl
      have hc2 : w5.heap[g2]? = some (.cells #[.int .i64 c0, .int .i64 c1, .int .i64 c2, .int .i64 c3] 3 (0, 0)) := by rw [h5]; exact (Below.heap_setCell _ _ _ _ hgg.symm).trans hc
      have Hh := Lib.hid (show w5.heap[b]? = some (.cells #[.string u] 9 (0, 0)) from by rw [h5]; exact (Below.heap_setCell _ _ _ _ (by show b ≠ g; omega)).trans Hh.out)
      have bl2 : Below w.heap.size w w5 := by rw [h5]; exact bl.setCell hgw _
      clear h5 nb hc bl
      obtain ⟨w4, hw4⟩ : ∃ w4, w4 = w5 := ⟨_, rfl⟩
      rw [← hw4] at nb2 hc2 Hh bl2 ⊢
      clear hw4
      have nb := nb2
      have hc := hc2
      have bl := bl2
      clear nb2 hc2 bl2
      rw [rounds_succ]
      have m := cellsAt nb 3 _ rfl
      have n := cellsFree nb 3
      have k := cellsAt hc 3 _ rfl
      go_wp2_with fail
      clear m n k
      obtain ⟨w5, h5⟩ : ∃ w5, w5 = w4.setCell ⟨g, 3, none⟩ (.int .i64 (wrap64 (i3 + c3))) := ⟨_, rfl⟩
      rw [← h5]
      have nb2 : w5.heap[g]? = some (.cells #[.int .i64 (wrap64 (i0 + c0)), .int .i64 (wrap64 (i1 + c1)), .int .i64 (wrap64 (i2 + c2)), .int .i64 (wrap64 (i3 + c3))] 3 (0, 0)) := by rw [h5, set_cells nb]; rfl
      have hc2 : w5.heap[g2]? = some (.cells #[.int .i64 c0, .int .i64 c1, .int .i64 c2, .int .i64 c3] 3 (0, 0)) := by rw [h5]; exact (Below.heap_setCell _ _ _ _ hgg.symm).trans hc
      have Hh := Lib.hid (show w5.heap[b]? = some (.cells #[.string u] 9 (0, 0)) from by rw [h5]; exact (Below.heap_setCell _ _ _ _ (by show b ≠ g; omega)).trans Hh.out)
      have bl2 : Below w.heap.size w w5 := by rw [h5]; exact bl.setCell hgw _
      clear h5 nb hc bl
      obtain ⟨w4, hw4⟩ : ∃ w4, w4 = w5 := ⟨_, rfl⟩
      rw [← hw4] at nb2 hc2 Hh bl2 ⊢
      clear hw4
      have nb := nb2
      have hc := hc2
      have bl := bl2
      clear nb2 hc2 bl2
      rw [rounds_succ]
      skip
      go_wp2_with fail
      clear hc
      rw [rounds_succ]
      go_wp2_with fail
      go_ret
      exact ⟨g, rfl, hgw, by have h := nb; rw [E0.out, E1.out, E2.out, E3.out] at h; exact h, bl⟩
    · go_enter Try.func16, Try.ntmps16
      go_wp2_with fail
      clear hmk
      refine (XK.out _).mono ?_
      rintro e w2 ⟨rfl, rfl⟩
      have m0 := cellsAt nb 0 _ rfl
      have n0 := cellsFree nb 0
      have m1 := cellsAt nb 1 _ rfl
      have n1 := cellsFree nb 1
      have m2 := cellsAt nb 2 _ rfl
      have n2 := cellsFree nb 2
      have m3 := cellsAt nb 3 _ rfl
      have n3 := cellsFree nb 3
      go_wp2_with fail
      clear m0 m1 m2 m3 n0 n1 n2 n3
      have nb1 : (W.setCell ⟨g, 2, none⟩ (.int .i64 1)).heap[g]? = some (.cells #[.int .i64 0, .int .i64 0, .int .i64 1, .int .i64 0] 3 (0, 0)) := by rw [set_cells nb]; rfl
      replace bl := bl.setCell (p := ⟨g, 2, none⟩) hgw (.int .i64 1)
      obtain ⟨W1, hW1⟩ : ∃ W1, W1 = (W.setCell ⟨g, 2, none⟩ (.int .i64 1)) := ⟨_, rfl⟩
      rw [← hW1] at nb1 bl ⊢
      clear hW1
      replace nb := nb1
      refine (XB.out _).mono ?_
      rintro e w2 ⟨rfl, rfl⟩
      go_wp2_with fail
      obtain ⟨i0, e0⟩ : ∃ i : Int, i = 0 := ⟨_, rfl⟩
      obtain ⟨i1, e1⟩ : ∃ i : Int, i = 0 := ⟨_, rfl⟩
      obtain ⟨i2, e2⟩ : ∃ i : Int, i = 1 := ⟨_, rfl⟩
      obtain ⟨i3, e3⟩ : ∃ i : Int, i = 0 := ⟨_, rfl⟩
      replace nb := nb.trans (show some (Obj.cells #[.int .i64 0, .int .i64 0, .int .i64 1, .int .i64 0] 3 (0, 0)) = some (Obj.cells #[.int .i64 i0, .int .i64 i1, .int .i64 i2, .int .i64 i3] 3 (0, 0)) from by rw [e0, e1, e2, e3])
      have E0 := Lib.hid e0
      have E1 := Lib.hid e1
      have E2 := Lib.hid e2
      have E3 := Lib.hid e3
      clear e0 e1 e2 e3
      refine (XP.out _).mono ?_
      rintro e w3 ⟨b, rfl, hb, hh, b3⟩
      have hgb : g < b := Nat.lt_of_lt_of_le (lt_of_block nb) hb
      replace nb := (b3.block _ (lt_of_block nb)).trans nb
      replace bl := below_trans bl b3 bl.size
      clear b3
      have cu := cellOf1 hh
      have Hh := Lib.hid hh
      clear hh
      go_wp2_with fail
      refine wp_loop_rounds 2 ?_
      rw [rounds_succ]
      go_wp2_with fail
      refine (I1.out _).mono ?_
      rintro e w4 ⟨g2, rfl, hg2, hc, b4⟩
      have hgg : g ≠ g2 := by have := lt_of_block nb; omega
      have hgb2 : b ≠ g2 := by have := lt_of_block Hh.out; omega
      replace nb := (b4.block _ (lt_of_block nb)).trans nb
      have Hh := Lib.hid ((b4.block _ (lt_of_block Hh.out)).trans Hh.out)
      replace bl := below_trans bl b4 bl.size
      clear b4 cu
      go_wp2_with fail
      refine wp_loop_rounds 5 ?_
      rw [rounds_succ]
      have m := cellsAt nb 0 _ rfl
      have n := cellsFree nb 0
      have k := cellsAt hc 0 _ rfl
      go_wp2_with fail
      clear m n k
      obtain ⟨w5, h5⟩ : ∃ w5, w5 = w4.setCell ⟨g, 0, none⟩ (.int .i64 (wrap64 (i0 + c0))) := ⟨_, rfl⟩
      rw [← h5]
      have nb2 : w5.heap[g]? = some (.cells #[.int .i64 (wrap64 (i0 + c0)), .int .i64 i1, .int .i64 i2, .int .i64 i3] 3 (0, 0)) := by rw [h5, set_cells nb]; rfl
      have hc2 : w5.heap[g2]? = some (.cells #[.int .i64 c0, .int .i64 c1, .int .i64 c2, .int .i64 c3] 3 (0, 0)) := by rw [h5]; exact (Below.heap_setCell _ _ _ _ hgg.symm).trans hc
      have Hh := Lib.hid (show w5.heap[b]? = some (.cells #[.string u] 9 (0, 0)) from by rw [h5]; exact (Below.heap_setCell _ _ _ _ (by show b ≠ g; omega)).trans Hh.out)
      have bl2 : Below w.heap.size w w5 := by rw [h5]; exact bl.setCell hgw _
      clear h5 nb hc bl
      obtain ⟨w4, hw4⟩ : ∃ w4, w4 = w5 := ⟨_, rfl⟩
      rw [← hw4] at nb2 hc2 Hh bl2 ⊢
      clear hw4
      have nb := nb2
      have hc := hc2
      have bl := bl2
      clear nb2 hc2 bl2
      rw [rounds_succ]
      have m := cellsAt nb 1 _ rfl
      have n := cellsFree nb 1
      have k := cellsAt hc 1 _ rfl
      go_wp2_with fail
      clear m n k
      obtain ⟨w5, h5⟩ : ∃ w5, w5 = w4.setCell ⟨g, 1, none⟩ (.int .i64 (wrap64 (i1 + c1))) := ⟨_, rfl⟩
      rw [← h5]
      have nb2 : w5.heap[g]? = some (.cells #[.int .i64 (wrap64 (i0 + c0)), .int .i64 (wrap64 (i1 + c1)), .int .i64 i2, .int .i64 i3] 3 (0, 0)) := by rw [h5, set_cells nb]; rfl
      have hc2 : w5.heap[g2]? = some (.cells #[.int .i64 c0, .int .i64 c1, .int .i64 c2, .int .i64 c3] 3 (0, 0)) := by rw [h5]; exact (Below.heap_setCell _ _ _ _ hgg.symm).trans hc
      have Hh := Lib.hid (show w5.heap[b]? = some (.cells #[.string u] 9 (0, 0)) from by rw [h5]; exact (Below.heap_setCell _ _ _ _ (by show b ≠ g; omega)).trans Hh.out)
      have bl2 : Below w.heap.size w w5 := by rw [h5]; exact bl.setCell hgw _
      clear h5 nb hc bl
      obtain ⟨w4, hw4⟩ : ∃ w4, w4 = w5 := ⟨_, rfl⟩
      rw [← hw4] at nb2 hc2 Hh bl2 ⊢
      clear hw4
      have nb := nb2
      have hc := hc2
      have bl := bl2
      clear nb2 hc2 bl2
      rw [rounds_succ]
      have m := cellsAt nb 2 _ rfl
      have n := cellsFree nb 2
      have k := cellsAt hc 2 _ rfl
      go_wp2_with fail
      clear m n k
      obtain ⟨w5, h5⟩ : ∃ w5, w5 = w4.setCell ⟨g, 2, none⟩ (.int .i64 (wrap64 (i2 + c2))) := ⟨_, rfl⟩
      rw [← h5]
      have nb2 : w5.heap[g]? = some (.cells #[.int .i64 (wrap64 (i0 + c0)), .int .i64 (wrap64 (i1 + c1)), .int .i64 (wrap64 (i2 + c2)), .int .i64 i3] 3 (0, 0)) := by rw [h5, set_cells nb]; rfl
      have hc2 : w5.heap[g2]? = some (.cells #[.int .i64 c0, .int .i64 c1, .int .i64 c2, .int .i64 c3] 3 (0, 0)) := by rw [h5]; exact (Below.heap_setCell _ _ _ _ hgg.symm).trans hc
      have Hh := Lib.hid (show w5.heap[b]? = some (.cells #[.string u] 9 (0, 0)) from by rw [h5]; exact (Below.heap_setCell _ _ _ _ (by show b ≠ g; omega)).trans Hh.out)
      have bl2 : Below w.heap.size w w5 := by rw [h5]; exact bl.setCell hgw _
      clear h5 nb hc bl
      obtain ⟨w4, hw4⟩ : ∃ w4, w4 = w5 := ⟨_, rfl⟩
      rw [← hw4] at nb2 hc2 Hh bl2 ⊢
      clear hw4
      have nb := nb2
      have hc := hc2
      have bl := bl2
      clear nb2 hc2 bl2
      rw [rounds_succ]
      have m := cellsAt nb 3 _ rfl
      have n := cellsFree nb 3
      have k := cellsAt hc 3 _ rfl
      go_wp2_with fail
      clear m n k
      obtain ⟨w5, h5⟩ : ∃ w5, w5 = w4.setCell ⟨g, 3, none⟩ (.int .i64 (wrap64 (i3 + c3))) := ⟨_, rfl⟩
      rw [← h5]
      have nb2 : w5.heap[g]? = some (.cells #[.int .i64 (wrap64 (i0 + c0)), .int .i64 (wrap64 (i1 + c1)), .int .i64 (wrap64 (i2 + c2)), .int .i64 (wrap64 (i3 + c3))] 3 (0, 0)) := by rw [h5, set_cells nb]; rfl
      have hc2 : w5.heap[g2]? = some (.cells #[.int .i64 c0, .int .i64 c1, .int .i64 c2, .int .i64 c3] 3 (0, 0)) := by rw [h5]; exact (Below.heap_setCell _ _ _ _ hgg.symm).trans hc
      have Hh := Lib.hid (show w5.heap[b]? = some (.cells #[.string u] 9 (0, 0)) from by rw [h5]; exact (Below.heap_setCell _ _ _ _ (by show b ≠ g; omega)).trans Hh.out)
      have bl2 : Below w.heap.size w w5 := by rw [h5]; exact bl.setCell hgw _
      clear h5 nb hc bl
      obtain ⟨w4, hw4⟩ : ∃ w4, w4 = w5 := ⟨_, rfl⟩
      rw [← hw4] at nb2 hc2 Hh bl2 ⊢
      clear hw4
      have nb := nb2
      have hc := hc2
      have bl := bl2
      clear nb2 hc2 bl2
      rw [rounds_succ]
      skip
      go_wp2_with fail
      clear hc
      rw [rounds_succ]
      go_wp2_with fail
      go_ret
      exact ⟨g, rfl, hgw, by have h := nb; rw [E0.out, E1.out, E2.out, E3.out] at h; exact h, bl⟩
  · cases p2
    · go_enter Try.func16, Try.ntmps16
      go_wp2_with fail
      clear hmk
      refine (XK.out _).mono ?_
      rintro e w2 ⟨rfl, rfl⟩
      have m0 := cellsAt nb 0 _ rfl
      have n0 := cellsFree nb 0
      have m1 := cellsAt nb 1 _ rfl
      have n1 := cellsFree nb 1
      have m2 := cellsAt nb 2 _ rfl
      have n2 := cellsFree nb 2
      have m3 := cellsAt nb 3 _ rfl
      have n3 := cellsFree nb 3
      go_wp2_with fail
      clear m0 m1 m2 m3 n0 n1 n2 n3
      have nb1 : (W.setCell ⟨g, 0, none⟩ (.int .i64 1)).heap[g]? = some (.cells #[.int .i64 1, .int .i64 0, .int .i64 0, .int .i64 0] 3 (0, 0)) := by rw [set_cells nb]; rfl
      replace bl := bl.setCell (p := ⟨g, 0, none⟩) hgw (.int .i64 1)
      obtain ⟨W1, hW1⟩ : ∃ W1, W1 = (W.setCell ⟨g, 0, none⟩ (.int .i64 1)) := ⟨_, rfl⟩
      rw [← hW1] at nb1 bl ⊢
      clear hW1
      replace nb := nb1
      refine (XB.out _).mono ?_
      rintro e w2 ⟨rfl, rfl⟩
      go_wp2_with fail
      obtain ⟨i0, e0⟩ : ∃ i : Int, i = 1 := ⟨_, rfl⟩
      obtain ⟨i1, e1⟩ : ∃ i : Int, i = 0 := ⟨_, rfl⟩
      obtain ⟨i2, e2⟩ : ∃ i : Int, i = 0 := ⟨_, rfl⟩
      obtain ⟨i3, e3⟩ : ∃ i : Int, i = 0 := ⟨_, rfl⟩
      replace nb := nb.trans (show some (Obj.cells #[.int .i64 1, .int .i64 0, .int .i64 0, .int .i64 0] 3 (0, 0)) = some (Obj.cells #[.int .i64 i0, .int .i64 i1, .int .i64 i2, .int .i64 i3] 3 (0, 0)) from by rw [e0, e1, e2, e3])
      have E0 := Lib.hid e0
      have E1 := Lib.hid e1
      have E2 := Lib.hid e2
      have E3 := Lib.hid e3
      clear e0 e1 e2 e3
      refine (XP.out _).mono ?_
      rintro e w3 ⟨b, rfl, hb, hh, b3⟩
      have hgb : g < b := Nat.lt_of_lt_of_le (lt_of_block nb) hb
      replace nb := (b3.block _ (lt_of_block nb)).trans nb
      replace bl := below_trans bl b3 bl.size
      clear b3
      have cu := cellOf1 hh
      have Hh := Lib.hid hh
      clear hh
      go_wp2_with fail
      refine wp_loop_rounds 2 ?_
      rw [rounds_succ]
      go_wp2_with fail
      refine (I1.out _).mono ?_
      rintro e w4 ⟨g2, rfl, hg2, hc, b4⟩
      have hgg : g ≠ g2 := by have := lt_of_block nb; omega
      have hgb2 : b ≠ g2 := by have := lt_of_block Hh.out; omega
      replace nb := (b4.block _ (lt_of_block nb)).trans nb
      have Hh := Lib.hid ((b4.block _ (lt_of_block Hh.out)).trans Hh.out)
      replace bl := below_trans bl b4 bl.size
      clear b4 cu
      go_wp2_with fail
      refine wp_loop_rounds 5 ?_
      rw [rounds_succ]
      have m := cellsAt nb 0 _ rfl
      have n := cellsFree nb 0
      have k := cellsAt hc 0 _ rfl
      go_wp2_with fail
      clear m n k
      obtain ⟨w5, h5⟩ : ∃ w5, w5 = w4.setCell ⟨g, 0, none⟩ (.int .i64 (wrap64 (i0 + c0))) := ⟨_, rfl⟩
      rw [← h5]
      have nb2 : w5.heap[g]? = some (.cells #[.int .i64 (wrap64 (i0 + c0)), .int .i64 i1, .int .i64 i2, .int .i64 i3] 3 (0, 0)) := by rw [h5, set_cells nb]; rfl
      have hc2 : w5.heap[g2]? = some (.cells #[.int .i64 c0, .int .i64 c1, .int .i64 c2, .int .i64 c3] 3 (0, 0)) := by rw [h5]; exact (Below.heap_setCell _ _ _ _ hgg.symm).trans hc
      have Hh := Lib.hid (show w5.heap[b]? = some (.cells #[.string u] 9 (0, 0)) from by rw [h5]; exact (Below.heap_setCell _ _ _ _ (by show b ≠ g; omega)).trans Hh.out)
      have bl2 : Below w.heap.size w w5 := by rw [h5]; exact bl.setCell hgw _
      clear h5 nb hc bl
      obtain ⟨w4, hw4⟩ : ∃ w4, w4 = w5 := ⟨_, rfl⟩
      rw [← hw4] at nb2 hc2 Hh bl2 ⊢
      clear hw4
      have nb := nb2
      have hc := hc2
      have bl := bl2
      clear nb2 hc2 bl2
      rw [rounds_succ]
      have m := cellsAt nb 1 _ rfl
      have n := cellsFree nb 1
      have k := cellsAt hc 1 _ rfl
      go_wp2_with fail
      clear m n k
      obtain ⟨w5, h5⟩ : ∃ w5, w5 = w4.setCell ⟨g, 1, none⟩ (.int .i64 (wrap64 (i1 + c1))) := ⟨_, rfl⟩
      rw [← h5]
      have nb2 : w5.heap[g]? = some (.cells #[.int .i64 (wrap64 (i0 + c0)), .int .i64 (wrap64 (i1 + c1)), .int .i64 i2, .int .i64 i3] 3 (0, 0)) := by rw [h5, set_cells nb]; rfl
      have hc2 : w5.heap[g2]? = some (.cells #[.int .i64 c0, .int .i64 c1, .int .i64 c2, .int .i64 c3] 3 (0, 0)) := by rw [h5]; exact (Below.heap_setCell _ _ _ _ hgg.symm).trans hc
      have Hh := Lib.hid (show w5.heap[b]? = some (.cells #[.string u] 9 (0, 0)) from by rw [h5]; exact (Below.heap_setCell _ _ _ _ (by show b ≠ g; omega)).trans Hh.out)
      have bl2 : Below w.heap.size w w5 := by rw [h5]; exact bl.setCell hgw _
      clear h5 nb hc bl
      obtain ⟨w4, hw4⟩ : ∃ w4, w4 = w5 := ⟨_, rfl⟩
      rw [← hw4] at nb2 hc2 Hh bl2 ⊢
      clear hw4
      have nb := nb2
      have hc := hc2
      have bl := bl2
      clear nb2 hc2 bl2
      rw [rounds_succ]
      have m := cellsAt nb 2 _ rfl
      have n := cellsFree nb 2
      have k := cellsAt hc 2 _ rfl
      go_wp2_with fail
      clear m n k
      obtain ⟨w5, h5⟩ : ∃ w5, w5 = w4.setCell ⟨g, 2, none⟩ (.int .i64 (wrap64 (i2 + c2))) := ⟨_, rfl⟩
      rw [← h5]
      have nb2 : w5.heap[g]? = some (.cells #[.int .i64 (wrap64 (i0 + c0)), .int .i64 (wrap64 (i1 + c1)), .int .i64 (wrap64 (i2 + c2)), .int .i64 i3] 3 (0, 0)) := by rw [h5, set_cells nb]; rfl
      have hc2 : w5.heap[g2]? = some (.cells #[.int .i64 c0, .int .i64 c1, .int .i64 c2, .int .i64 c3] 3 (0, 0)) := by rw [h5]; exact (Below.heap_setCell _ _ _ _ hgg.symm).trans hc
      have Hh := Lib.hid (show w5.heap[b]? = some (.cells #[.string u] 9 (0, 0)) from by rw [h5]; exact (Below.heap_setCell _ _ _ _ (by show b ≠ g; omega)).trans Hh.out)
      have bl2 : Below w.heap.size w w5 := by rw [h5]; exact bl.setCell hgw _
      clear h5 nb hc bl
      obtain ⟨w4, hw4⟩ : ∃ w4, w4 = w5 := ⟨_, rfl⟩
      rw [← hw4] at nb2 hc2 Hh bl2 ⊢
      clear hw4
      have nb := nb2
      have hc := hc2
      have bl := bl2
      clear nb2 hc2 bl2
      rw [rounds_succ]
      have m := cellsAt nb 3 _ rfl
      have n := cellsFree nb 3
      have k := cellsAt hc 3 _ rfl
      go_wp2_with fail
      clear m n k
      obtain ⟨w5, h5⟩ : ∃ w5, w5 = w4.setCell ⟨g, 3, none⟩ (.int .i64 (wrap64 (i3 + c3))) := ⟨_, rfl⟩
      rw [← h5]
      have nb2 : w5.heap[g]? = some (.cells #[.int .i64 (wrap64 (i0 + c0)), .int .i64 (wrap64 (i1 + c1)), .int .i64 (wrap64 (i2 + c2)), .int .i64 (wrap64 (i3 + c3))] 3 (0, 0)) := by rw [h5, set_cells nb]; rfl
      have hc2 : w5.heap[g2]? = some (.cells #[.int .i64 c0, .int .i64 c1, .int .i64 c2, .int .i64 c3] 3 (0, 0)) := by rw [h5]; exact (Below.heap_setCell _ _ _ _ hgg.symm).trans hc
      have Hh := Lib.hid (show w5.heap[b]? = some (.cells #[.string u] 9 (0, 0)) from by rw [h5]; exact (Below.heap_setCell _ _ _ _ (by show b ≠ g; omega)).trans Hh.out)
      have bl2 : Below w.heap.size w w5 := by rw [h5]; exact bl.setCell hgw _
      clear h5 nb hc bl
      obtain ⟨w4, hw4⟩ : ∃ w4, w4 = w5 := ⟨_, rfl⟩
      rw [← hw4] at nb2 hc2 Hh bl2 ⊢
      clear hw4
      have nb := nb2
      have hc := hc2
      have bl := bl2
      clear nb2 hc2 bl2
      rw [rounds_succ]
      skip
      go_wp2_with fail
      clear hc
      rw [rounds_succ]
      go_wp2_with fail
      go_ret
      exact ⟨g, rfl, hgw, by have h := nb; rw [E0.out, E1.out, E2.out, E3.out] at h; exact h, bl⟩
    · go_enter Try.func16, Try.ntmps16
      go_wp2_with fail
      clear hmk
      refine (XK.out _).mono ?_
      rintro e w2 ⟨rfl, rfl⟩
      have m0 := cellsAt nb 0 _ rfl
      have n0 := cellsFree nb 0
      have m1 := cellsAt nb 1 _ rfl
      have n1 := cellsFree nb 1
      have m2 := cellsAt nb 2 _ rfl
      have n2 := cellsFree nb 2
      have m3 := cellsAt nb 3 _ rfl
      have n3 := cellsFree nb 3
      go_wp2_with fail
      clear m0 m1 m2 m3 n0 n1 n2 n3
      have nb1 : (W.setCell ⟨g, 0, none⟩ (.int .i64 1)).heap[g]? = some (.cells #[.int .i64 1, .int .i64 0, .int .i64 0, .int .i64 0] 3 (0, 0)) := by rw [set_cells nb]; rfl
      replace bl := bl.setCell (p := ⟨g, 0, none⟩) hgw (.int .i64 1)
      have nb2 : ((W.setCell ⟨g, 0, none⟩ (.int .i64 1)).setCell ⟨g, 2, none⟩ (.int .i64 1)).heap[g]? = some (.cells #[.int .i64 1, .int .i64 0, .int .i64 1, .int .i64 0] 3 (0, 0)) := by rw [set_cells nb1]; rfl
      replace bl := bl.setCell (p := ⟨g, 2, none⟩) hgw (.int .i64 1)
      obtain ⟨W1, hW1⟩ : ∃ W1, W1 = ((W.setCell ⟨g, 0, none⟩ (.int .i64 1)).setCell ⟨g, 2, none⟩ (.int .i64 1)) := ⟨_, rfl⟩
      rw [← hW1] at nb2 bl ⊢
      clear hW1
      replace nb := nb2
      refine (XB.out _).mono ?_
      rintro e w2 ⟨rfl, rfl⟩
      go_wp2_with fail
      obtain ⟨i0, e0⟩ : ∃ i : Int, i = 1 := ⟨_, rfl⟩
      obtain ⟨i1, e1⟩ : ∃ i : Int, i = 0 := ⟨_, rfl⟩
      obtain ⟨i2, e2⟩ : ∃ i : Int, i = 1 := ⟨_, rfl⟩
      obtain ⟨i3, e3⟩ : ∃ i : Int, i = 0 := ⟨_, rfl⟩
      replace nb := nb.trans (show some (Obj.cells #[.int .i64 1, .int .i64 0, .int .i64 1, .int .i64 0] 3 (0, 0)) = some (Obj.cells #[.int .i64 i0, .int .i64 i1, .int .i64 i2, .int .i64 i3] 3 (0, 0)) from by rw [e0, e1, e2, e3])
      have E0 := Lib.hid e0
      have E1 := Lib.hid e1
      have E2 := Lib.hid e2
      have E3 := Lib.hid e3
      clear e0 e1 e2 e3
      refine (XP.out _).mono ?_
      rintro e w3 ⟨b, rfl, hb, hh, b3⟩
      have hgb : g < b := Nat.lt_of_lt_of_le (lt_of_block nb) hb
      replace nb := (b3.block _ (lt_of_block nb)).trans nb
      replace bl := below_trans bl b3 bl.size
      clear b3
      have cu := cellOf1 hh
      have Hh := Lib.hid hh
      clear hh
      go_wp2_with fail
      refine wp_loop_rounds 2 ?_
      rw [rounds_succ]
      go_wp2_with fail
      refine (I1.out _).mono ?_
      rintro e w4 ⟨g2, rfl, hg2, hc, b4⟩
      have hgg : g ≠ g2 := by have := lt_of_block nb; omega
      have hgb2 : b ≠ g2 := by have := lt_of_block Hh.out; omega
      replace nb := (b4.block _ (lt_of_block nb)).trans nb
      have Hh := Lib.hid ((b4.block _ (lt_of_block Hh.out)).trans Hh.out)
      replace bl := below_trans bl b4 bl.size
      clear b4 cu
      go_wp2_with fail
      refine wp_loop_rounds 5 ?_
      rw [rounds_succ]
      have m := cellsAt nb 0 _ rfl
      have n := cellsFree nb 0
      have k := cellsAt hc 0 _ rfl
      go_wp2_with fail
      clear m n k
      obtain ⟨w5, h5⟩ : ∃ w5, w5 = w4.setCell ⟨g, 0, none⟩ (.int .i64 (wrap64 (i0 + c0))) := ⟨_, rfl⟩
      rw [← h5]
      have nb2 : w5.heap[g]? = some (.cells #[.int .i64 (wrap64 (i0 + c0)), .int .i64 i1, .int .i64 i2, .int .i64 i3] 3 (0, 0)) := by rw [h5, set_cells nb]; rfl
      have hc2 : w5.heap[g2]? = some (.cells #[.int .i64 c0, .int .i64 c1, .int .i64 c2, .int .i64 c3] 3 (0, 0)) := by rw [h5]; exact (Below.heap_setCell _ _ _ _ hgg.symm).trans hc
      have Hh := Lib.hid (show w5.heap[b]? = some (.cells #[.string u] 9 (0, 0)) from by rw [h5]; exact (Below.heap_setCell _ _ _ _ (by show b ≠ g; omega)).trans Hh.out)
      have bl2 : Below w.heap.size w w5 := by rw [h5]; exact bl.setCell hgw _
      clear h5 nb hc bl
      obtain ⟨w4, hw4⟩ : ∃ w4, w4 = w5 := ⟨_, rfl⟩
      rw [← hw4] at nb2 hc2 Hh bl2 ⊢
      clear hw4
      have nb := nb2
      have hc := hc2
      have bl := bl2
      clear nb2 hc2 bl2
      rw [rounds_succ]
      have m := cellsAt nb 1 _ rfl
      have n := cellsFree nb 1
      have k := cellsAt hc 1 _ rfl
      go_wp2_with fail
      clear m n k
      obtain ⟨w5, h5⟩ : ∃ w5, w5 = w4.setCell ⟨g, 1, none⟩ (.int .i64 (wrap64 (i1 + c1))) := ⟨_, rfl⟩
      rw [← h5]
      have nb2 : w5.heap[g]? = some (.cells #[.int .i64 (wrap64 (i0 + c0)), .int .i64 (wrap64 (i1 + c1)), .int .i64 i2, .int .i64 i3] 3 (0, 0)) := by rw [h5, set_cells nb]; rfl
      have hc2 : w5.heap[g2]? = some (.cells #[.int .i64 c0, .int .i64 c1, .int .i64 c2, .int .i64 c3] 3 (0, 0)) := by rw [h5]; exact (Below.heap_setCell _ _ _ _ hgg.symm).trans hc
      have Hh := Lib.hid (show w5.heap[b]? = some (.cells #[.string u] 9 (0, 0)) from by rw [h5]; exact (Below.heap_setCell _ _ _ _ (by show b ≠ g; omega)).trans Hh.out)
      have bl2 : Below w.heap.size w w5 := by rw [h5]; exact bl.setCell hgw _
      clear h5 nb hc bl
      obtain ⟨w4, hw4⟩ : ∃ w4, w4 = w5 := ⟨_, rfl⟩
      rw [← hw4] at nb2 hc2 Hh bl2 ⊢
      clear hw4
      have nb := nb2
      have hc := hc2
      have bl := bl2
      clear nb2 hc2 bl2
      rw [rounds_succ]
      have m := cellsAt nb 2 _ rfl
      have n := cellsFree nb 2
      have k := cellsAt hc 2 _ rfl
      go_wp2_with fail
      clear m n k
      obtain ⟨w5, h5⟩ : ∃ w5, w5 = w4.setCell ⟨g, 2, none⟩ (.int .i64 (wrap64 (i2 + c2))) := ⟨_, rfl⟩
      rw [← h5]
      have nb2 : w5.heap[g]? = some (.cells #[.int .i64 (wrap64 (i0 + c0)), .int .i64 (wrap64 (i1 + c1)), .int .i64 (wrap64 (i2 + c2)), .int .i64 i3] 3 (0, 0)) := by rw [h5, set_cells nb]; rfl
      have hc2 : w5.heap[g2]? = some (.cells #[.int .i64 c0, .int .i64 c1, .int .i64 c2, .int .i64 c3] 3 (0, 0)) := by rw [h5]; exact (Below.heap_setCell _ _ _ _ hgg.symm).trans hc
      have Hh := Lib.hid (show w5.heap[b]? = some (.cells #[.string u] 9 (0, 0)) from by rw [h5]; exact (Below.heap_setCell _ _ _ _ (by show b ≠ g; omega)).trans Hh.out)
      have bl2 : Below w.heap.size w w5 := by rw [h5]; exact bl.setCell hgw _
      clear h5 nb hc bl
      obtain ⟨w4, hw4⟩ : ∃ w4, w4 = w5 := ⟨_, rfl⟩
      rw [← hw4] at nb2 hc2 Hh bl2 ⊢
      clear hw4
      have nb := nb2
      have hc := hc2
      have bl := bl2
      clear nb2 hc2 bl2
      rw [rounds_succ]
      have m := cellsAt nb 3 _ rfl
      have n := cellsFree nb 3
      have k := cellsAt hc 3 _ rfl
      go_wp2_with fail
      clear m n k
      obtain ⟨w5, h5⟩ : ∃ w5, w5 = w4.setCell ⟨g, 3, none⟩ (.int .i64 (wrap64 (i3 + c3))) := ⟨_, rfl⟩
      rw [← h5]
      have nb2 : w5.heap[g]? = some (.cells #[.int .i64 (wrap64 (i0 + c0)), .int .i64 (wrap64 (i1 + c1)), .int .i64 (wrap64 (i2 + c2)), .int .i64 (wrap64 (i3 + c3))] 3 (0, 0)) := by rw [h5, set_cells nb]; rfl
      have hc2 : w5.heap[g2]? = some (.cells #[.int .i64 c0, .int .i64 c1, .int .i64 c2, .int .i64 c3] 3 (0, 0)) := by rw [h5]; exact (Below.heap_setCell _ _ _ _ hgg.symm).trans hc
      have Hh := Lib.hid (show w5.heap[b]? = some (.cells #[.string u] 9 (0, 0)) from by rw [h5]; exact (Below.heap_setCell _ _ _ _ (by show b ≠ g; omega)).trans Hh.out)
      have bl2 : Below w.heap.size w w5 := by rw [h5]; exact bl.setCell hgw _
      clear h5 nb hc bl
      obtain ⟨w4, hw4⟩ : ∃ w4, w4 = w5 := ⟨_, rfl⟩
      rw [← hw4] at nb2 hc2 Hh bl2 ⊢
      clear hw4
      have nb := nb2
      have hc := hc2
      have bl := bl2
      clear nb2 hc2 bl2
      rw [rounds_succ]
      skip
      go_wp2_with fail
      clear hc
      rw [rounds_succ]
      go_wp2_with fail
      go_ret
      exact ⟨g, rfl, hgw, by have h := nb; rw [E0.out, E1.out, E2.out, E3.out] at h; exact h, bl⟩
set_option maxHeartbeats 4000000 in
theorem su_rcvS (s : ByteArray) (a : UInt8) (kd : Int) (u : ByteArray) (c0 c1 c2 c3 : Int) (hz : s.size ≤ 700) (k33 : (kd == 33) = false) (k63 : (kd == 63) = true) (k61 : (kd == 61) = false) (h0 : 0 < s.size) (p0 : Bool) (q0 : (((s[0]'h0).toNat : Int) == (a.toNat : Int)) = p0) (HK : ∀ w, Calls Try.prog 25 #[.string s] w fun e w' => e = .returned (.int .u8 kd) ∧ w = w') (x : UInt8) (qx : ((x.toNat : Int) == (a.toNat : Int)) = true) (HB : ∀ w, Calls Try.prog 26 #[.string s] w fun e w' => e = .returned (.tuple #[.int .u8 (x.toNat : Int), .bool true]) ∧ w = w') (w : World) : Calls Try.prog 16 #[.string s, .int .u8 (a.toNat : Int)] w fun e w' => ∃ g, e = .returned (.slice (some ⟨g, 0, none⟩) 4 4) ∧ w.heap.size ≤ g ∧ w'.heap[g]? = some (.cells #[.int .i64 (0), .int .i64 (cond p0 1 0), .int .i64 (0), .int .i64 (0)] 3 (0, 0)) ∧ Below w.heap.size w w' := by
  have XK := Lib.hid HK
  have XB := Lib.hid HB
  clear HK HB
  have nb := new_block w (.cells #[.int .i64 0, .int .i64 0, .int .i64 0, .int .i64 0] 3)
  have bl := (Below.refl w.heap.size w).alloc (Nat.le_refl _) (.cells #[.int .i64 0, .int .i64 0, .int .i64 0, .int .i64 0] 3)
  obtain ⟨W, hW⟩ : ∃ W, W = w.alloc (.cells #[.int .i64 0, .int .i64 0, .int .i64 0, .int .i64 0] 3) := ⟨_, rfl⟩
  have hmk := mk4 w
  rw [← hW] at nb bl hmk
  obtain ⟨g, hg⟩ : ∃ g, g = w.heap.size := ⟨_, rfl⟩
  have hgw : w.heap.size ≤ g := by omega
  rw [← hg] at nb hmk
  clear hW hg
  cases p0
  · go_enter Try.func16, Try.ntmps16
    go_wp2_with fail
    clear hmk
    refine (XK.out _).mono ?_
    rintro e w2 ⟨rfl, rfl⟩
    have m0 := cellsAt nb 0 _ rfl
    have n0 := cellsFree nb 0
    have m1 := cellsAt nb 1 _ rfl
    have n1 := cellsFree nb 1
    have m2 := cellsAt nb 2 _ rfl
    have n2 := cellsFree nb 2
    have m3 := cellsAt nb 3 _ rfl
    have n3 := cellsFree nb 3
    go_wp2_with fail
    clear m0 m1 m2 m3 n0 n1 n2 n3
    refine (XB.out _).mono ?_
    rintro e w2 ⟨rfl, rfl⟩
    go_wp2_with fail
    go_ret
    exact ⟨g, rfl, hgw, nb, bl⟩
  · go_enter Try.func16, Try.ntmps16
    go_wp2_with fail
    clear hmk
    refine (XK.out _).mono ?_
    rintro e w2 ⟨rfl, rfl⟩
    have m0 := cellsAt nb 0 _ rfl
    have n0 := cellsFree nb 0
    have m1 := cellsAt nb 1 _ rfl
    have n1 := cellsFree nb 1
    have m2 := cellsAt nb 2 _ rfl
    have n2 := cellsFree nb 2
    have m3 := cellsAt nb 3 _ rfl
    have n3 := cellsFree nb 3
    go_wp2_with fail
    clear m0 m1 m2 m3 n0 n1 n2 n3
    have nb1 : (W.setCell ⟨g, 1, none⟩ (.int .i64 1)).heap[g]? = some (.cells #[.int .i64 0, .int .i64 1, .int .i64 0, .int .i64 0] 3 (0, 0)) := by rw [set_cells nb]; rfl
    replace bl := bl.setCell (p := ⟨g, 1, none⟩) hgw (.int .i64 1)
    obtain ⟨W1, hW1⟩ : ∃ W1, W1 = (W.setCell ⟨g, 1, none⟩ (.int .i64 1)) := ⟨_, rfl⟩
    rw [← hW1] at nb1 bl ⊢
    clear hW1
    replace nb := nb1
    refine (XB.out _).mono ?_
    rintro e w2 ⟨rfl, rfl⟩
    go_wp2_with fail
    go_ret
    exact ⟨g, rfl, hgw, nb, bl⟩
set_option maxHeartbeats 4000000 in
theorem su_rcvD (s : ByteArray) (a : UInt8) (kd : Int) (u : ByteArray) (c0 c1 c2 c3 : Int) (hz : s.size ≤ 700) (k33 : (kd == 33) = false) (k63 : (kd == 63) = true) (k61 : (kd == 61) = false) (h0 : 0 < s.size) (p0 : Bool) (q0 : (((s[0]'h0).toNat : Int) == (a.toNat : Int)) = p0) (HK : ∀ w, Calls Try.prog 25 #[.string s] w fun e w' => e = .returned (.int .u8 kd) ∧ w = w') (x : UInt8) (qx : ((x.toNat : Int) == (a.toNat : Int)) = false) (HB : ∀ w, Calls Try.prog 26 #[.string s] w fun e w' => e = .returned (.tuple #[.int .u8 (x.toNat : Int), .bool true]) ∧ w = w') (HP : ∀ w, Calls Try.prog 27 #[.string s] w fun e w' => ∃ b, e = .returned (.slice (some ⟨b, 0, none⟩) 1 1) ∧ w.heap.size ≤ b ∧ w'.heap[b]? = some (.cells #[.string u] 9 (0, 0)) ∧ Below w.heap.size w w') (ih : ∀ w, Calls Try.prog 16 #[.string u, .int .u8 (a.toNat : Int)] w fun e w' => ∃ g, e = .returned (.slice (some ⟨g, 0, none⟩) 4 4) ∧ w.heap.size ≤ g ∧ w'.heap[g]? = some (.cells #[.int .i64 c0, .int .i64 c1, .int .i64 c2, .int .i64 c3] 3 (0, 0)) ∧ Below w.heap.size w w') (w : World) : Calls Try.prog 16 #[.string s, .int .u8 (a.toNat : Int)] w fun e w' => ∃ g, e = .returned (.slice (some ⟨g, 0, none⟩) 4 4) ∧ w.heap.size ≤ g ∧ w'.heap[g]? = some (.cells #[.int .i64 (wrap64 (0 + c0)), .int .i64 (wrap64 (cond p0 1 0 + c1)), .int .i64 (wrap64 (0 + c2)), .int .i64 (wrap64 (0 + c3))] 3 (0, 0)) ∧ Below w.heap.size w w' := by
  have XK := Lib.hid HK
  have XB := Lib.hid HB
  have XP := Lib.hid HP
  have I1 := Lib.hid ih
  clear HK HB HP ih
  have nb := new_block w (.cells #[.int .i64 0, .int .i64 0, .int .i64 0, .int .i64 0] 3)
  have bl := (Below.refl w.heap.size w).alloc (Nat.le_refl _) (.cells #[.int .i64 0, .int .i64 0, .int .i64 0, .int .i64 0] 3)
  obtain ⟨W, hW⟩ : ∃ W, W = w.alloc (.cells #[.int .i64 0, .int .i64 0, .int .i64 0, .int .i64 0] 3) := ⟨_, rfl⟩
  have hmk := mk4 w
  rw [← hW] at nb bl hmk
  obtain ⟨g, hg⟩ : ∃ g, g = w.heap.size := ⟨_, rfl⟩
  have hgw : w.heap.size ≤ g := by omega
  rw [← hg] at nb hmk
  clear hW hg
  cases p0
  · go_enter Try.func16, Try.ntmps16
    go_wp2_with fail
    clear hmk
    refine (XK.out _).mono ?_
    rintro e w2 ⟨rfl, rfl⟩
    have m0 := cellsAt nb 0 _ rfl
    have n0 := cellsFree nb 0
    have m1 := cellsAt nb 1 _ rfl
    have n1 := cellsFree nb 1
    have m2 := cellsAt nb 2 _ rfl
    have n2 := cellsFree nb 2
    have m3 := cellsAt nb 3 _ rfl
    have n3 := cellsFree nb 3
    go_wp2_with fail
    clear m0 m1 m2 m3 n0 n1 n2 n3
    refine (XB.out _).mono ?_
    rintro e w2 ⟨rfl, rfl⟩
    go_wp2_with fail
    obtain ⟨i0, e0⟩ : ∃ i : Int, i = 0 := ⟨_, rfl⟩
    obtain ⟨i1, e1⟩ : ∃ i : Int, i = 0 := ⟨_, rfl⟩
    obtain ⟨i2, e2⟩ : ∃ i : Int, i = 0 := ⟨_, rfl⟩
    obtain ⟨i3, e3⟩ : ∃ i : Int, i = 0 := ⟨_, rfl⟩
    replace nb := nb.trans (show some (Obj.cells #[.int .i64 0, .int .i64 0, .int .i64 0, .int .i64 0] 3 (0, 0)) = some (Obj.cells #[.int .i64 i0, .int .i64 i1, .int .i64 i2, .int .i64 i3] 3 (0, 0)) from by rw [e0, e1, e2, e3])
    have E0 := Lib.hid e0
    have E1 := Lib.hid e1
    have E2 := Lib.hid e2
    have E3 := Lib.hid e3
    clear e0 e1 e2 e3
    refine (XP.out _).mono ?_
    rintro e w3 ⟨b, rfl, hb, hh, b3⟩
    have hgb : g < b := Nat.lt_of_lt_of_le (lt_of_block nb) hb
    replace nb := (b3.block _ (lt_of_block nb)).trans nb
    replace bl := below_trans bl b3 bl.size
    clear b3
    have cu := cellOf1 hh
    have Hh := Lib.hid hh
    clear hh
    go_wp2_with fail
    refine wp_loop_rounds 2 ?_
    rw [rounds_succ]
    go_wp2_with fail
    refine (I1.out _).mono ?_
    rintro e w4 ⟨g2, rfl, hg2, hc, b4⟩
    have hgg : g ≠ g2 := by have := lt_of_block nb; omega
    have hgb2 : b ≠ g2 := by have := lt_of_block Hh.out; omega
    replace nb := (b4.block _ (lt_of_block nb)).trans nb
    have Hh := Lib.hid ((b4.block _ (lt_of_block Hh.out)).trans Hh.out)
    replace bl := below_trans bl b4 bl.size
    clear b4 cu
    go_wp2_with fail
    refine wp_loop_rounds 5 ?_
    rw [rounds_succ]
    have m := cellsAt nb 0 _ rfl
    have n := cellsFree nb 0
    have k := cellsAt hc 0 _ rfl
    go_wp2_with fail
    clear m n k
    obtain ⟨w5, h5⟩ : ∃ w5, w5 = w4.setCell ⟨g, 0, none⟩ (.int .i64 (wrap64 (i0 + c0))) := ⟨_, rfl⟩
    rw [← h5]
    have nb2 : w5.heap[g]? = some (.cells #[.int .i64 (wrap64 (i0 + c0)), .int .i64 i1, .int .i64 i2, .int .i64 i3] 3 (0, 0)) := by rw [h5, set_cells nb]; rfl
    have hc2 : w5.heap[g2]? = some (.cells #[.int .i64 c0, .int .i64 c1, .int .i64 c2, .int .i64 c3] 3 (0, 0)) := by rw [h5]; exact (Below.heap_setCell _ _ _ _ hgg.symm).trans hc
    have Hh := Lib.hid (show w5.heap[b]? = some (.cells #[.string u] 9 (0, 0)) from by rw [h5]; exact (Below.heap_setCell _ _ _ _ (by show b ≠ g; omega)).trans Hh.out)
    have bl2 : Below w.heap.size w w5 := by rw [h5]; exact bl.setCell hgw _
    clear h5 nb hc bl
    obtain ⟨w4, hw4⟩ : ∃ w4, w4 = w5 := ⟨_, rfl⟩
    rw [← hw4] at nb2 hc2 Hh bl2 ⊢
    clear hw4
    have nb := nb2
    have hc := hc2
    have bl := bl2
    clear nb2 hc2 bl2
    rw [rounds_succ]
    have m := cellsAt nb 1 _ rfl
    have n := cellsFree nb 1
    have k := cellsAt hc 1 _ rfl
    go_wp2_with fail
    clear m n k
    obtain ⟨w5, h5⟩ : ∃ w5, w5 = w4.setCell ⟨g, 1, none⟩ (.int .i64 (wrap64 (i1 + c1))) := ⟨_, rfl⟩
    rw [← h5]
    have nb2 : w5.heap[g]? = some (.cells #[.int .i64 (wrap64 (i0 + c0)), .int .i64 (wrap64 (i1 + c1)), .int .i64 i2, .int .i64 i3] 3 (0, 0)) := by rw [h5, set_cells nb]; rfl
    have hc2 : w5.heap[g2]? = some (.cells #[.int .i64 c0, .int .i64 c1, .int .i64 c2, .int .i64 c3] 3 (0, 0)) := by rw [h5]; exact (Below.heap_setCell _ _ _ _ hgg.symm).trans hc
    have Hh := Lib.hid (show w5.heap[b]? = some (.cells #[.string u] 9 (0, 0)) from by rw [h5]; exact (Below.heap_setCell _ _ _ _ (by show b ≠ g; omega)).trans Hh.out)
    have bl2 : Below w.heap.size w w5 := by rw [h5]; exact bl.setCell hgw _
    clear h5 nb hc bl
    obtain ⟨w4, hw4⟩ : ∃ w4, w4 = w5 := ⟨_, rfl⟩
    rw [← hw4] at nb2 hc2 Hh bl2 ⊢
    clear hw4
    have nb := nb2
    have hc := hc2
    have bl := bl2
    clear nb2 hc2 bl2
    rw [rounds_succ]
    have m := cellsAt nb 2 _ rfl
    have n := cellsFree nb 2
    have k := cellsAt hc 2 _ rfl
    go_wp2_with fail
    clear m n k
    obtain ⟨w5, h5⟩ : ∃ w5, w5 = w4.setCell ⟨g, 2, none⟩ (.int .i64 (wrap64 (i2 + c2))) := ⟨_, rfl⟩
    rw [← h5]
    have nb2 : w5.heap[g]? = some (.cells #[.int .i64 (wrap64 (i0 + c0)), .int .i64 (wrap64 (i1 + c1)), .int .i64 (wrap64 (i2 + c2)), .int .i64 i3] 3 (0, 0)) := by rw [h5, set_cells nb]; rfl
    have hc2 : w5.heap[g2]? = some (.cells #[.int .i64 c0, .int .i64 c1, .int .i64 c2, .int .i64 c3] 3 (0, 0)) := by rw [h5]; exact (Below.heap_setCell _ _ _ _ hgg.symm).trans hc
    have Hh := Lib.hid (show w5.heap[b]? = some (.cells #[.string u] 9 (0, 0)) from by rw [h5]; exact (Below.heap_setCell _ _ _ _ (by show b ≠ g; omega)).trans Hh.out)
    have bl2 : Below w.heap.size w w5 := by rw [h5]; exact bl.setCell hgw _
    clear h5 nb hc bl
    obtain ⟨w4, hw4⟩ : ∃ w4, w4 = w5 := ⟨_, rfl⟩
    rw [← hw4] at nb2 hc2 Hh bl2 ⊢
    clear hw4
    have nb := nb2
    have hc := hc2
    have bl := bl2
    clear nb2 hc2 bl2
    rw [rounds_succ]
    have m := cellsAt nb 3 _ rfl
    have n := cellsFree nb 3
    have k := cellsAt hc 3 _ rfl
    go_wp2_with fail
    clear m n k
    obtain ⟨w5, h5⟩ : ∃ w5, w5 = w4.setCell ⟨g, 3, none⟩ (.int .i64 (wrap64 (i3 + c3))) := ⟨_, rfl⟩
    rw [← h5]
    have nb2 : w5.heap[g]? = some (.cells #[.int .i64 (wrap64 (i0 + c0)), .int .i64 (wrap64 (i1 + c1)), .int .i64 (wrap64 (i2 + c2)), .int .i64 (wrap64 (i3 + c3))] 3 (0, 0)) := by rw [h5, set_cells nb]; rfl
    have hc2 : w5.heap[g2]? = some (.cells #[.int .i64 c0, .int .i64 c1, .int .i64 c2, .int .i64 c3] 3 (0, 0)) := by rw [h5]; exact (Below.heap_setCell _ _ _ _ hgg.symm).trans hc
    have Hh := Lib.hid (show w5.heap[b]? = some (.cells #[.string u] 9 (0, 0)) from by rw [h5]; exact (Below.heap_setCell _ _ _ _ (by show b ≠ g; omega)).trans Hh.out)
    have bl2 : Below w.heap.size w w5 := by rw [h5]; exact bl.setCell hgw _
    clear h5 nb hc bl
    obtain ⟨w4, hw4⟩ : ∃ w4, w4 = w5 := ⟨_, rfl⟩
    rw [← hw4] at nb2 hc2 Hh bl2 ⊢
    clear hw4
    have nb := nb2
    have hc := hc2
    have bl := bl2
    clear nb2 hc2 bl2
    rw [rounds_succ]
    skip
    go_wp2_with fail
    clear hc
    rw [rounds_succ]
    go_wp2_with fail
    go_ret
    exact ⟨g, rfl, hgw, by have h := nb; rw [E0.out, E1.out, E2.out, E3.out] at h; exact h, bl⟩
  · go_enter Try.func16, Try.ntmps16
    go_wp2_with fail
    clear hmk
    refine (XK.out _).mono ?_
    rintro e w2 ⟨rfl, rfl⟩
    have m0 := cellsAt nb 0 _ rfl
    have n0 := cellsFree nb 0
    have m1 := cellsAt nb 1 _ rfl
    have n1 := cellsFree nb 1
    have m2 := cellsAt nb 2 _ rfl
    have n2 := cellsFree nb 2
    have m3 := cellsAt nb 3 _ rfl
    have n3 := cellsFree nb 3
    go_wp2_with fail
    clear m0 m1 m2 m3 n0 n1 n2 n3
    have nb1 : (W.setCell ⟨g, 1, none⟩ (.int .i64 1)).heap[g]? = some (.cells #[.int .i64 0, .int .i64 1, .int .i64 0, .int .i64 0] 3 (0, 0)) := by rw [set_cells nb]; rfl
    replace bl := bl.setCell (p := ⟨g, 1, none⟩) hgw (.int .i64 1)
    obtain ⟨W1, hW1⟩ : ∃ W1, W1 = (W.setCell ⟨g, 1, none⟩ (.int .i64 1)) := ⟨_, rfl⟩
    rw [← hW1] at nb1 bl ⊢
    clear hW1
    replace nb := nb1
    refine (XB.out _).mono ?_
    rintro e w2 ⟨rfl, rfl⟩
    go_wp2_with fail
    obtain ⟨i0, e0⟩ : ∃ i : Int, i = 0 := ⟨_, rfl⟩
    obtain ⟨i1, e1⟩ : ∃ i : Int, i = 1 := ⟨_, rfl⟩
    obtain ⟨i2, e2⟩ : ∃ i : Int, i = 0 := ⟨_, rfl⟩
    obtain ⟨i3, e3⟩ : ∃ i : Int, i = 0 := ⟨_, rfl⟩
    replace nb := nb.trans (show some (Obj.cells #[.int .i64 0, .int .i64 1, .int .i64 0, .int .i64 0] 3 (0, 0)) = some (Obj.cells #[.int .i64 i0, .int .i64 i1, .int .i64 i2, .int .i64 i3] 3 (0, 0)) from by rw [e0, e1, e2, e3])
    have E0 := Lib.hid e0
    have E1 := Lib.hid e1
    have E2 := Lib.hid e2
    have E3 := Lib.hid e3
    clear e0 e1 e2 e3
    refine (XP.out _).mono ?_
    rintro e w3 ⟨b, rfl, hb, hh, b3⟩
    have hgb : g < b := Nat.lt_of_lt_of_le (lt_of_block nb) hb
    replace nb := (b3.block _ (lt_of_block nb)).trans nb
    replace bl := below_trans bl b3 bl.size
    clear b3
    have cu := cellOf1 hh
    have Hh := Lib.hid hh
    clear hh
    go_wp2_with fail
    refine wp_loop_rounds 2 ?_
    rw [rounds_succ]
    go_wp2_with fail
    refine (I1.out _).mono ?_
    rintro e w4 ⟨g2, rfl, hg2, hc, b4⟩
    have hgg : g ≠ g2 := by have := lt_of_block nb; omega
    have hgb2 : b ≠ g2 := by have := lt_of_block Hh.out; omega
    replace nb := (b4.block _ (lt_of_block nb)).trans nb
    have Hh := Lib.hid ((b4.block _ (lt_of_block Hh.out)).trans Hh.out)
    replace bl := below_trans bl b4 bl.size
    clear b4 cu
    go_wp2_with fail
    refine wp_loop_rounds 5 ?_
    rw [rounds_succ]
    have m := cellsAt nb 0 _ rfl
    have n := cellsFree nb 0
    have k := cellsAt hc 0 _ rfl
    go_wp2_with fail
    clear m n k
    obtain ⟨w5, h5⟩ : ∃ w5, w5 = w4.setCell ⟨g, 0, none⟩ (.int .i64 (wrap64 (i0 + c0))) := ⟨_, rfl⟩
    rw [← h5]
    have nb2 : w5.heap[g]? = some (.cells #[.int .i64 (wrap64 (i0 + c0)), .int .i64 i1, .int .i64 i2, .int .i64 i3] 3 (0, 0)) := by rw [h5, set_cells nb]; rfl
    have hc2 : w5.heap[g2]? = some (.cells #[.int .i64 c0, .int .i64 c1, .int .i64 c2, .int .i64 c3] 3 (0, 0)) := by rw [h5]; exact (Below.heap_setCell _ _ _ _ hgg.symm).trans hc
    have Hh := Lib.hid (show w5.heap[b]? = some (.cells #[.string u] 9 (0, 0)) from by rw [h5]; exact (Below.heap_setCell _ _ _ _ (by show b ≠ g; omega)).trans Hh.out)
    have bl2 : Below w.heap.size w w5 := by rw [h5]; exact bl.setCell hgw _
    clear h5 nb hc bl
    obtain ⟨w4, hw4⟩ : ∃ w4, w4 = w5 := ⟨_, rfl⟩
    rw [← hw4] at nb2 hc2 Hh bl2 ⊢
    clear hw4
    have nb := nb2
    have hc := hc2
    have bl := bl2
    clear nb2 hc2 bl2
    rw [rounds_succ]
    have m := cellsAt nb 1 _ rfl
    have n := cellsFree nb 1
    have k := cellsAt hc 1 _ rfl
    go_wp2_with fail
    clear m n k
    obtain ⟨w5, h5⟩ : ∃ w5, w5 = w4.setCell ⟨g, 1, none⟩ (.int .i64 (wrap64 (i1 + c1))) := ⟨_, rfl⟩
    rw [← h5]
    have nb2 : w5.heap[g]? = some (.cells #[.int .i64 (wrap64 (i0 + c0)), .int .i64 (wrap64 (i1 + c1)), .int .i64 i2, .int .i64 i3] 3 (0, 0)) := by rw [h5, set_cells nb]; rfl
    have hc2 : w5.heap[g2]? = some (.cells #[.int .i64 c0, .int .i64 c1, .int .i64 c2, .int .i64 c3] 3 (0, 0)) := by rw [h5]; exact (Below.heap_setCell _ _ _ _ hgg.symm).trans hc
    have Hh := Lib.hid (show w5.heap[b]? = some (.cells #[.string u] 9 (0, 0)) from by rw [h5]; exact (Below.heap_setCell _ _ _ _ (by show b ≠ g; omega)).trans Hh.out)
    have bl2 : Below w.heap.size w w5 := by rw [h5]; exact bl.setCell hgw _
    clear h5 nb hc bl
    obtain ⟨w4, hw4⟩ : ∃ w4, w4 = w5 := ⟨_, rfl⟩
    rw [← hw4] at nb2 hc2 Hh bl2 ⊢
    clear hw4
    have nb := nb2
    have hc := hc2
    have bl := bl2
    clear nb2 hc2 bl2
    rw [rounds_succ]
    have m := cellsAt nb 2 _ rfl
    have n := cellsFree nb 2
    have k := cellsAt hc 2 _ rfl
    go_wp2_with fail
    clear m n k
    obtain ⟨w5, h5⟩ : ∃ w5, w5 = w4.setCell ⟨g, 2, none⟩ (.int .i64 (wrap64 (i2 + c2))) := ⟨_, rfl⟩
    rw [← h5]
    have nb2 : w5.heap[g]? = some (.cells #[.int .i64 (wrap64 (i0 + c0)), .int .i64 (wrap64 (i1 + c1)), .int .i64 (wrap64 (i2 + c2)), .int .i64 i3] 3 (0, 0)) := by rw [h5, set_cells nb]; rfl
    have hc2 : w5.heap[g2]? = some (.cells #[.int .i64 c0, .int .i64 c1, .int .i64 c2, .int .i64 c3] 3 (0, 0)) := by rw [h5]; exact (Below.heap_setCell _ _ _ _ hgg.symm).trans hc
    have Hh := Lib.hid (show w5.heap[b]? = some (.cells #[.string u] 9 (0, 0)) from by rw [h5]; exact (Below.heap_setCell _ _ _ _ (by show b ≠ g; omega)).trans Hh.out)
    have bl2 : Below w.heap.size w w5 := by rw [h5]; exact bl.setCell hgw _
    clear h5 nb hc bl
    obtain ⟨w4, hw4⟩ : ∃ w4, w4 = w5 := ⟨_, rfl⟩
    rw [← hw4] at nb2 hc2 Hh bl2 ⊢
    clear hw4
    have nb := nb2
    have hc := hc2
    have bl := bl2
    clear nb2 hc2 bl2
    rw [rounds_succ]
    have m := cellsAt nb 3 _ rfl
    have n := cellsFree nb 3
    have k := cellsAt hc 3 _ rfl
    go_wp2_with fail
    clear m n k
    obtain ⟨w5, h5⟩ : ∃ w5, w5 = w4.setCell ⟨g, 3, none⟩ (.int .i64 (wrap64 (i3 + c3))) := ⟨_, rfl⟩
    rw [← h5]
    have nb2 : w5.heap[g]? = some (.cells #[.int .i64 (wrap64 (i0 + c0)), .int .i64 (wrap64 (i1 + c1)), .int .i64 (wrap64 (i2 + c2)), .int .i64 (wrap64 (i3 + c3))] 3 (0, 0)) := by rw [h5, set_cells nb]; rfl
    have hc2 : w5.heap[g2]? = some (.cells #[.int .i64 c0, .int .i64 c1, .int .i64 c2, .int .i64 c3] 3 (0, 0)) := by rw [h5]; exact (Below.heap_setCell _ _ _ _ hgg.symm).trans hc
    have Hh := Lib.hid (show w5.heap[b]? = some (.cells #[.string u] 9 (0, 0)) from by rw [h5]; exact (Below.heap_setCell _ _ _ _ (by show b ≠ g; omega)).trans Hh.out)
    have bl2 : Below w.heap.size w w5 := by rw [h5]; exact bl.setCell hgw _
    clear h5 nb hc bl
    obtain ⟨w4, hw4⟩ : ∃ w4, w4 = w5 := ⟨_, rfl⟩
    rw [← hw4] at nb2 hc2 Hh bl2 ⊢
    clear hw4
    have nb := nb2
    have hc := hc2
    have bl := bl2
    clear nb2 hc2 bl2
    rw [rounds_succ]
    skip
    go_wp2_with fail
    clear hc
    rw [rounds_succ]
    go_wp2_with fail
    go_ret
    exact ⟨g, rfl, hgw, by have h := nb; rw [E0.out, E1.out, E2.out, E3.out] at h; exact h, bl⟩
set_option maxHeartbeats 4000000 in
theorem su_ownS (s : ByteArray) (a : UInt8) (kd : Int) (u : ByteArray) (c0 c1 c2 c3 : Int) (hz : s.size ≤ 700) (k33 : (kd == 33) = false) (k63 : (kd == 63) = false) (k61 : (kd == 61) = false) (HK : ∀ w, Calls Try.prog 25 #[.string s] w fun e w' => e = .returned (.int .u8 kd) ∧ w = w') (x : UInt8) (qx : ((x.toNat : Int) == (a.toNat : Int)) = true) (HB : ∀ w, Calls Try.prog 26 #[.string s] w fun e w' => e = .returned (.tuple #[.int .u8 (x.toNat : Int), .bool true]) ∧ w = w') (w : World) : Calls Try.prog 16 #[.string s, .int .u8 (a.toNat : Int)] w fun e w' => ∃ g, e = .returned (.slice (some ⟨g, 0, none⟩) 4 4) ∧ w.heap.size ≤ g ∧ w'.heap[g]? = some (.cells #[.int .i64 (0), .int .i64 (0), .int .i64 (0), .int .i64 (0)] 3 (0, 0)) ∧ Below w.heap.size w w' := by
  have XK := Lib.hid HK
  have XB := Lib.hid HB
  clear HK HB
  have nb := new_block w (.cells #[.int .i64 0, .int .i64 0, .int .i64 0, .int .i64 0] 3)
  have bl := (Below.refl w.heap.size w).alloc (Nat.le_refl _) (.cells #[.int .i64 0, .int .i64 0, .int .i64 0, .int .i64 0] 3)
  obtain ⟨W, hW⟩ : ∃ W, W = w.alloc (.cells #[.int .i64 0, .int .i64 0, .int .i64 0, .int .i64 0] 3) := ⟨_, rfl⟩
  have hmk := mk4 w
  rw [← hW] at nb bl hmk
  obtain ⟨g, hg⟩ : ∃ g, g = w.heap.size := ⟨_, rfl⟩
  have hgw : w.heap.size ≤ g := by omega
  rw [← hg] at nb hmk
  clear hW hg
  go_enter Try.func16, Try.ntmps16
  go_wp2_with fail
  clear hmk
  refine (XK.out _).mono ?_
  rintro e w2 ⟨rfl, rfl⟩
  have m0 := cellsAt nb 0 _ rfl
  have n0 := cellsFree nb 0
  have m1 := cellsAt nb 1 _ rfl
  have n1 := cellsFree nb 1
  have m2 := cellsAt nb 2 _ rfl
  have n2 := cellsFree nb 2
  have m3 := cellsAt nb 3 _ rfl
  have n3 := cellsFree nb 3
  go_wp2_with fail
  clear m0 m1 m2 m3 n0 n1 n2 n3
  refine (XB.out _).mono ?_
  rintro e w2 ⟨rfl, rfl⟩
  go_wp2_with fail
  go_ret
  exact ⟨g, rfl, hgw, nb, bl⟩
set_option maxHeartbeats 4000000 in
theorem su_ownD (s : ByteArray) (a : UInt8) (kd : Int) (u : ByteArray) (c0 c1 c2 c3 : Int) (hz : s.size ≤ 700) (k33 : (kd == 33) = false) (k63 : (kd == 63) = false) (k61 : (kd == 61) = false) (HK : ∀ w, Calls Try.prog 25 #[.string s] w fun e w' => e = .returned (.int .u8 kd) ∧ w = w') (x : UInt8) (qx : ((x.toNat : Int) == (a.toNat : Int)) = false) (HB : ∀ w, Calls Try.prog 26 #[.string s] w fun e w' => e = .returned (.tuple #[.int .u8 (x.toNat : Int), .bool true]) ∧ w = w') (HP : ∀ w, Calls Try.prog 27 #[.string s] w fun e w' => ∃ b, e = .returned (.slice (some ⟨b, 0, none⟩) 1 1) ∧ w.heap.size ≤ b ∧ w'.heap[b]? = some (.cells #[.string u] 9 (0, 0)) ∧ Below w.heap.size w w') (ih : ∀ w, Calls Try.prog 16 #[.string u, .int .u8 (a.toNat : Int)] w fun e w' => ∃ g, e = .returned (.slice (some ⟨g, 0, none⟩) 4 4) ∧ w.heap.size ≤ g ∧ w'.heap[g]? = some (.cells #[.int .i64 c0, .int .i64 c1, .int .i64 c2, .int .i64 c3] 3 (0, 0)) ∧ Below w.heap.size w w') (w : World) : Calls Try.prog 16 #[.string s, .int .u8 (a.toNat : Int)] w fun e w' => ∃ g, e = .returned (.slice (some ⟨g, 0, none⟩) 4 4) ∧ w.heap.size ≤ g ∧ w'.heap[g]? = some (.cells #[.int .i64 (wrap64 (0 + c0)), .int .i64 (wrap64 (0 + c1)), .int .i64 (wrap64 (0 + c2)), .int .i64 (wrap64 (0 + c3))] 3 (0, 0)) ∧ Below w.heap.size w w' := by
  have XK := Lib.hid HK
  have XB := Lib.hid HB
  have XP := Lib.hid HP
  have I1 := Lib.hid ih
  clear HK HB HP ih
  have nb := new_block w (.cells #[.int .i64 0, .int .i64 0, .int .i64 0, .int .i64 0] 3)
  have bl := (Below.refl w.heap.size w).alloc (Nat.le_refl _) (.cells #[.int .i64 0, .int .i64 0, .int .i64 0, .int .i64 0] 3)
  obtain ⟨W, hW⟩ : ∃ W, W = w.alloc (.cells #[.int .i64 0, .int .i64 0, .int .i64 0, .int .i64 0] 3) := ⟨_, rfl⟩
  have hmk := mk4 w
  rw [← hW] at nb bl hmk
  obtain ⟨g, hg⟩ : ∃ g, g = w.heap.size := ⟨_, rfl⟩
  have hgw : w.heap.size ≤ g := by omega
  rw [← hg] at nb hmk
  clear hW hg
  go_enter Try.func16, Try.ntmps16
  go_wp2_with fail
  clear hmk
  refine (XK.out _).mono ?_
  rintro e w2 ⟨rfl, rfl⟩
  have m0 := cellsAt nb 0 _ rfl
  have n0 := cellsFree nb 0
  have m1 := cellsAt nb 1 _ rfl
  have n1 := cellsFree nb 1
  have m2 := cellsAt nb 2 _ rfl
  have n2 := cellsFree nb 2
  have m3 := cellsAt nb 3 _ rfl
  have n3 := cellsFree nb 3
  go_wp2_with fail
  clear m0 m1 m2 m3 n0 n1 n2 n3
  refine (XB.out _).mono ?_
  rintro e w2 ⟨rfl, rfl⟩
  go_wp2_with fail
  obtain ⟨i0, e0⟩ : ∃ i : Int, i = 0 := ⟨_, rfl⟩
  obtain ⟨i1, e1⟩ : ∃ i : Int, i = 0 := ⟨_, rfl⟩
  obtain ⟨i2, e2⟩ : ∃ i : Int, i = 0 := ⟨_, rfl⟩
  obtain ⟨i3, e3⟩ : ∃ i : Int, i = 0 := ⟨_, rfl⟩
  replace nb := nb.trans (show some (Obj.cells #[.int .i64 0, .int .i64 0, .int .i64 0, .int .i64 0] 3 (0, 0)) = some (Obj.cells #[.int .i64 i0, .int .i64 i1, .int .i64 i2, .int .i64 i3] 3 (0, 0)) from by rw [e0, e1, e2, e3])
  have E0 := Lib.hid e0
  have E1 := Lib.hid e1
  have E2 := Lib.hid e2
  have E3 := Lib.hid e3
  clear e0 e1 e2 e3
  refine (XP.out _).mono ?_
  rintro e w3 ⟨b, rfl, hb, hh, b3⟩
  have hgb : g < b := Nat.lt_of_lt_of_le (lt_of_block nb) hb
  replace nb := (b3.block _ (lt_of_block nb)).trans nb
  replace bl := below_trans bl b3 bl.size
  clear b3
  have cu := cellOf1 hh
  have Hh := Lib.hid hh
  clear hh
  go_wp2_with fail
  refine wp_loop_rounds 2 ?_
  rw [rounds_succ]
  go_wp2_with fail
  refine (I1.out _).mono ?_
  rintro e w4 ⟨g2, rfl, hg2, hc, b4⟩
  have hgg : g ≠ g2 := by have := lt_of_block nb; omega
  have hgb2 : b ≠ g2 := by have := lt_of_block Hh.out; omega
  replace nb := (b4.block _ (lt_of_block nb)).trans nb
  have Hh := Lib.hid ((b4.block _ (lt_of_block Hh.out)).trans Hh.out)
  replace bl := below_trans bl b4 bl.size
  clear b4 cu
  go_wp2_with fail
  refine wp_loop_rounds 5 ?_
  rw [rounds_succ]
  have m := cellsAt nb 0 _ rfl
  have n := cellsFree nb 0
  have k := cellsAt hc 0 _ rfl
  go_wp2_with fail
  clear m n k
  obtain ⟨w5, h5⟩ : ∃ w5, w5 = w4.setCell ⟨g, 0, none⟩ (.int .i64 (wrap64 (i0 + c0))) := ⟨_, rfl⟩
  rw [← h5]
  have nb2 : w5.heap[g]? = some (.cells #[.int .i64 (wrap64 (i0 + c0)), .int .i64 i1, .int .i64 i2, .int .i64 i3] 3 (0, 0)) := by rw [h5, set_cells nb]; rfl
  have hc2 : w5.heap[g2]? = some (.cells #[.int .i64 c0, .int .i64 c1, .int .i64 c2, .int .i64 c3] 3 (0, 0)) := by rw [h5]; exact (Below.heap_setCell _ _ _ _ hgg.symm).trans hc
  have Hh := Lib.hid (show w5.heap[b]? = some (.cells #[.string u] 9 (0, 0)) from by rw [h5]; exact (Below.heap_setCell _ _ _ _ (by show b ≠ g; omega)).trans Hh.out)
  have bl2 : Below w.heap.size w w5 := by rw [h5]; exact bl.setCell hgw _
  clear h5 nb hc bl
  obtain ⟨w4, hw4⟩ : ∃ w4, w4 = w5 := ⟨_, rfl⟩
  rw [← hw4] at nb2 hc2 Hh bl2 ⊢
  clear hw4
  have nb := nb2
  have hc := hc2
  have bl := bl2
  clear nb2 hc2 bl2
  rw [rounds_succ]
  have m := cellsAt nb 1 _ rfl
  have n := cellsFree nb 1
  have k := cellsAt hc 1 _ rfl
  go_wp2_with fail
  clear m n k
  obtain ⟨w5, h5⟩ : ∃ w5, w5 = w4.setCell ⟨g, 1, none⟩ (.int .i64 (wrap64 (i1 + c1))) := ⟨_, rfl⟩
  rw [← h5]
  have nb2 : w5.heap[g]? = some (.cells #[.int .i64 (wrap64 (i0 + c0)), .int .i64 (wrap64 (i1 + c1)), .int .i64 i2, .int .i64 i3] 3 (0, 0)) := by rw [h5, set_cells nb]; rfl
  have hc2 : w5.heap[g2]? = some (.cells #[.int .i64 c0, .int .i64 c1, .int .i64 c2, .int .i64 c3] 3 (0, 0)) := by rw [h5]; exact (Below.heap_setCell _ _ _ _ hgg.symm).trans hc
  have Hh := Lib.hid (show w5.heap[b]? = some (.cells #[.string u] 9 (0, 0)) from by rw [h5]; exact (Below.heap_setCell _ _ _ _ (by show b ≠ g; omega)).trans Hh.out)
  have bl2 : Below w.heap.size w w5 := by rw [h5]; exact bl.setCell hgw _
  clear h5 nb hc bl
  obtain ⟨w4, hw4⟩ : ∃ w4, w4 = w5 := ⟨_, rfl⟩
  rw [← hw4] at nb2 hc2 Hh bl2 ⊢
  clear hw4
  have nb := nb2
  have hc := hc2
  have bl := bl2
  clear nb2 hc2 bl2
  rw [rounds_succ]
  have m := cellsAt nb 2 _ rfl
  have n := cellsFree nb 2
  have k := cellsAt hc 2 _ rfl
  go_wp2_with fail
  clear m n k
  obtain ⟨w5, h5⟩ : ∃ w5, w5 = w4.setCell ⟨g, 2, none⟩ (.int .i64 (wrap64 (i2 + c2))) := ⟨_, rfl⟩
  rw [← h5]
  have nb2 : w5.heap[g]? = some (.cells #[.int .i64 (wrap64 (i0 + c0)), .int .i64 (wrap64 (i1 + c1)), .int .i64 (wrap64 (i2 + c2)), .int .i64 i3] 3 (0, 0)) := by rw [h5, set_cells nb]; rfl
  have hc2 : w5.heap[g2]? = some (.cells #[.int .i64 c0, .int .i64 c1, .int .i64 c2, .int .i64 c3] 3 (0, 0)) := by rw [h5]; exact (Below.heap_setCell _ _ _ _ hgg.symm).trans hc
  have Hh := Lib.hid (show w5.heap[b]? = some (.cells #[.string u] 9 (0, 0)) from by rw [h5]; exact (Below.heap_setCell _ _ _ _ (by show b ≠ g; omega)).trans Hh.out)
  have bl2 : Below w.heap.size w w5 := by rw [h5]; exact bl.setCell hgw _
  clear h5 nb hc bl
  obtain ⟨w4, hw4⟩ : ∃ w4, w4 = w5 := ⟨_, rfl⟩
  rw [← hw4] at nb2 hc2 Hh bl2 ⊢
  clear hw4
  have nb := nb2
  have hc := hc2
  have bl := bl2
  clear nb2 hc2 bl2
  rw [rounds_succ]
  have m := cellsAt nb 3 _ rfl
  have n := cellsFree nb 3
  have k := cellsAt hc 3 _ rfl
  go_wp2_with fail
  clear m n k
  obtain ⟨w5, h5⟩ : ∃ w5, w5 = w4.setCell ⟨g, 3, none⟩ (.int .i64 (wrap64 (i3 + c3))) := ⟨_, rfl⟩
  rw [← h5]
  have nb2 : w5.heap[g]? = some (.cells #[.int .i64 (wrap64 (i0 + c0)), .int .i64 (wrap64 (i1 + c1)), .int .i64 (wrap64 (i2 + c2)), .int .i64 (wrap64 (i3 + c3))] 3 (0, 0)) := by rw [h5, set_cells nb]; rfl
  have hc2 : w5.heap[g2]? = some (.cells #[.int .i64 c0, .int .i64 c1, .int .i64 c2, .int .i64 c3] 3 (0, 0)) := by rw [h5]; exact (Below.heap_setCell _ _ _ _ hgg.symm).trans hc
  have Hh := Lib.hid (show w5.heap[b]? = some (.cells #[.string u] 9 (0, 0)) from by rw [h5]; exact (Below.heap_setCell _ _ _ _ (by show b ≠ g; omega)).trans Hh.out)
  have bl2 : Below w.heap.size w w5 := by rw [h5]; exact bl.setCell hgw _
  clear h5 nb hc bl
  obtain ⟨w4, hw4⟩ : ∃ w4, w4 = w5 := ⟨_, rfl⟩
  rw [← hw4] at nb2 hc2 Hh bl2 ⊢
  clear hw4
  have nb := nb2
  have hc := hc2
  have bl := bl2
  clear nb2 hc2 bl2
  rw [rounds_succ]
  skip
  go_wp2_with fail
  clear hc
  rw [rounds_succ]
  go_wp2_with fail
  go_ret
  exact ⟨g, rfl, hgw, by have h := nb; rw [E0.out, E1.out, E2.out, E3.out] at h; exact h, bl⟩
set_option maxHeartbeats 4000000 in
theorem su_mat (s : ByteArray) (a : UInt8) (kd : Int) (u : ByteArray) (c0 c1 c2 c3 : Int) (hz : s.size ≤ 700) (k33 : (kd == 33) = false) (k63 : (kd == 63) = false) (k61 : (kd == 61) = true) (h1 : 1 < s.size) (p1 : Bool) (q1 : (((s[1]'h1).toNat : Int) == (a.toNat : Int)) = p1) (h3 : 3 < s.size) (p3 : Bool) (q3 : (((s[3]'h3).toNat : Int) == (a.toNat : Int)) = p3) (HK : ∀ w, Calls Try.prog 25 #[.string s] w fun e w' => e = .returned (.int .u8 kd) ∧ w = w') (HB : ∀ w, Calls Try.prog 26 #[.string s] w fun e w' => e = .returned (.tuple #[.int .u8 0, .bool false]) ∧ w = w') (HP : ∀ w, Calls Try.prog 27 #[.string s] w fun e w' => ∃ b, e = .returned (.slice (some ⟨b, 0, none⟩) 1 1) ∧ w.heap.size ≤ b ∧ w'.heap[b]? = some (.cells #[.string u] 9 (0, 0)) ∧ Below w.heap.size w w') (ih : ∀ w, Calls Try.prog 16 #[.string u, .int .u8 (a.toNat : Int)] w fun e w' => ∃ g, e = .returned (.slice (some ⟨g, 0, none⟩) 4 4) ∧ w.heap.size ≤ g ∧ w'.heap[g]? = some (.cells #[.int .i64 c0, .int .i64 c1, .int .i64 c2, .int .i64 c3] 3 (0, 0)) ∧ Below w.heap.size w w') (w : World) : Calls Try.prog 16 #[.string s, .int .u8 (a.toNat : Int)] w fun e w' => ∃ g, e = .returned (.slice (some ⟨g, 0, none⟩) 4 4) ∧ w.heap.size ≤ g ∧ w'.heap[g]? = some (.cells #[.int .i64 (wrap64 (0 + c0)), .int .i64 (wrap64 (0 + c1)), .int .i64 (wrap64 (0 + c2)), .int .i64 (wrap64 (cond (p1 || p3) 1 0 + c3))] 3 (0, 0)) ∧ Below w.heap.size w w' := by
  have XK := Lib.hid HK
  have XB := Lib.hid HB
  have XP := Lib.hid HP
  have I1 := Lib.hid ih
  clear HK HB HP ih
  have nb := new_block w (.cells #[.int .i64 0, .int .i64 0, .int .i64 0, .int .i64 0] 3)
  have bl := (Below.refl w.heap.size w).alloc (Nat.le_refl _) (.cells #[.int .i64 0, .int .i64 0, .int .i64 0, .int .i64 0] 3)
  obtain ⟨W, hW⟩ : ∃ W, W = w.alloc (.cells #[.int .i64 0, .int .i64 0, .int .i64 0, .int .i64 0] 3) := ⟨_, rfl⟩
  have hmk := mk4 w
  rw [← hW] at nb bl hmk
  obtain ⟨g, hg⟩ : ∃ g, g = w.heap.size := ⟨_, rfl⟩
  have hgw : w.heap.size ≤ g := by omega
  rw [← hg] at nb hmk
  clear hW hg
  cases p1
  · cases p3
    · go_enter Try.func16, Try.ntmps16
      go_wp2_with fail
      clear hmk
      refine (XK.out _).mono ?_
      rintro e w2 ⟨rfl, rfl⟩
      have m0 := cellsAt nb 0 _ rfl
      have n0 := cellsFree nb 0
      have m1 := cellsAt nb 1 _ rfl
      have n1 := cellsFree nb 1
      have m2 := cellsAt nb 2 _ rfl
      have n2 := cellsFree nb 2
      have m3 := cellsAt nb 3 _ rfl
      have n3 := cellsFree nb 3
      go_wp2_with fail
      clear m0 m1 m2 m3 n0 n1 n2 n3
      refine (XB.out _).mono ?_
      rintro e w2 ⟨rfl, rfl⟩
      go_wp2_with fail
      obtain ⟨i0, e0⟩ : ∃ i : Int, i = 0 := ⟨_, rfl⟩
      obtain ⟨i1, e1⟩ : ∃ i : Int, i = 0 := ⟨_, rfl⟩
      obtain ⟨i2, e2⟩ : ∃ i : Int, i = 0 := ⟨_, rfl⟩
      obtain ⟨i3, e3⟩ : ∃ i : Int, i = 0 := ⟨_, rfl⟩
      replace nb := nb.trans (show some (Obj.cells #[.int .i64 0, .int .i64 0, .int .i64 0, .int .i64 0] 3 (0, 0)) = some (Obj.cells #[.int .i64 i0, .int .i64 i1, .int .i64 i2, .int .i64 i3] 3 (0, 0)) from by rw [e0, e1, e2, e3])
      have E0 := Lib.hid e0
      have E1 := Lib.hid e1
      have E2 := Lib.hid e2
      have E3 := Lib.hid e3
      clear e0 e1 e2 e3
      refine (XP.out _).mono ?_
      rintro e w3 ⟨b, rfl, hb, hh, b3⟩
      have hgb : g < b := Nat.lt_of_lt_of_le (lt_of_block nb) hb
      replace nb := (b3.block _ (lt_of_block nb)).trans nb
      replace bl := below_trans bl b3 bl.size
      clear b3
      have cu := cellOf1 hh
      have Hh := Lib.hid hh
      clear hh
      go_wp2_with fail
      refine wp_loop_rounds 2 ?_
      rw [rounds_succ]
      go_wp2_with fail
      refine (I1.out _).mono ?_
      rintro e w4 ⟨g2, rfl, hg2, hc, b4⟩
      have hgg : g ≠ g2 := by have := lt_of_block nb; omega
      have hgb2 : b ≠ g2 := by have := lt_of_block Hh.out; omega
      replace nb := (b4.block _ (lt_of_block nb)).trans nb
      have Hh := Lib.hid ((b4.block _ (lt_of_block Hh.out)).trans Hh.out)
      replace bl := below_trans bl b4 bl.size
      clear b4 cu
      go_wp2_with fail
      refine wp_loop_rounds 5 ?_
      rw [rounds_succ]
      have m := cellsAt nb 0 _ rfl
      have n := cellsFree nb 0
      have k := cellsAt hc 0 _ rfl
      go_wp2_with fail
      clear m n k
      obtain ⟨w5, h5⟩ : ∃ w5, w5 = w4.setCell ⟨g, 0, none⟩ (.int .i64 (wrap64 (i0 + c0))) := ⟨_, rfl⟩
      rw [← h5]
      have nb2 : w5.heap[g]? = some (.cells #[.int .i64 (wrap64 (i0 + c0)), .int .i64 i1, .int .i64 i2, .int .i64 i3] 3 (0, 0)) := by rw [h5, set_cells nb]; rfl
      have hc2 : w5.heap[g2]? = some (.cells #[.int .i64 c0, .int .i64 c1, .int .i64 c2, .int .i64 c3] 3 (0, 0)) := by rw [h5]; exact (Below.heap_setCell _ _ _ _ hgg.symm).trans hc
      have Hh := Lib.hid (show w5.heap[b]? = some (.cells #[.string u] 9 (0, 0)) from by rw [h5]; exact (Below.heap_setCell _ _ _ _ (by show b ≠ g; omega)).trans Hh.out)
      have bl2 : Below w.heap.size w w5 := by rw [h5]; exact bl.setCell hgw _
      clear h5 nb hc bl
      obtain ⟨w4, hw4⟩ : ∃ w4, w4 = w5 := ⟨_, rfl⟩
      rw [← hw4] at nb2 hc2 Hh bl2 ⊢
      clear hw4
      have nb := nb2
      have hc := hc2
      have bl := bl2
      clear nb2 hc2 bl2
      rw [rounds_succ]
      have m := cellsAt nb 1 _ rfl
      have n := cellsFree nb 1
      have k := cellsAt hc 1 _ rfl
      go_wp2_with fail
      clear m n k
      obtain ⟨w5, h5⟩ : ∃ w5, w5 = w4.setCell ⟨g, 1, none⟩ (.int .i64 (wrap64 (i1 + c1))) := ⟨_, rfl⟩
      rw [← h5]
      have nb2 : w5.heap[g]? = some (.cells #[.int .i64 (wrap64 (i0 + c0)), .int .i64 (wrap64 (i1 + c1)), .int .i64 i2, .int .i64 i3] 3 (0, 0)) := by rw [h5, set_cells nb]; rfl
      have hc2 : w5.heap[g2]? = some (.cells #[.int .i64 c0, .int .i64 c1, .int .i64 c2, .int .i64 c3] 3 (0, 0)) := by rw [h5]; exact (Below.heap_setCell _ _ _ _ hgg.symm).trans hc
      have Hh := Lib.hid (show w5.heap[b]? = some (.cells #[.string u] 9 (0, 0)) from by rw [h5]; exact (Below.heap_setCell _ _ _ _ (by show b ≠ g; omega)).trans Hh.out)
      have bl2 : Below w.heap.size w w5 := by rw [h5]; exact bl.setCell hgw _
      clear h5 nb hc bl
      obtain ⟨w4, hw4⟩ : ∃ w4, w4 = w5 := ⟨_, rfl⟩
      rw [← hw4] at nb2 hc2 Hh bl2 ⊢
      clear hw4
      have nb := nb2
      have hc := hc2
      have bl := bl2
      clear nb2 hc2 bl2
      rw [rounds_succ]
      have m := cellsAt nb 2 _ rfl
      have n := cellsFree nb 2
      have k := cellsAt hc 2 _ rfl
      go_wp2_with fail
      clear m n k
      obtain ⟨w5, h5⟩ : ∃ w5, w5 = w4.setCell ⟨g, 2, none⟩ (.int .i64 (wrap64 (i2 + c2))) := ⟨_, rfl⟩
      rw [← h5]
      have nb2 : w5.heap[g]? = some (.cells #[.int .i64 (wrap64 (i0 + c0)), .int .i64 (wrap64 (i1 + c1)), .int .i64 (wrap64 (i2 + c2)), .int .i64 i3] 3 (0, 0)) := by rw [h5, set_cells nb]; rfl
      have hc2 : w5.heap[g2]? = some (.cells #[.int .i64 c0, .int .i64 c1, .int .i64 c2, .int .i64 c3] 3 (0, 0)) := by rw [h5]; exact (Below.heap_setCell _ _ _ _ hgg.symm).trans hc
      have Hh := Lib.hid (show w5.heap[b]? = some (.cells #[.string u] 9 (0, 0)) from by rw [h5]; exact (Below.heap_setCell _ _ _ _ (by show b ≠ g; omega)).trans Hh.out)
      have bl2 : Below w.heap.size w w5 := by rw [h5]; exact bl.setCell hgw _
      clear h5 nb hc bl
      obtain ⟨w4, hw4⟩ : ∃ w4, w4 = w5 := ⟨_, rfl⟩
      rw [← hw4] at nb2 hc2 Hh bl2 ⊢
      clear hw4
      have nb := nb2
      have hc := hc2
      have bl := bl2
      clear nb2 hc2 bl2
      rw [rounds_succ]
      have m := cellsAt nb 3 _ rfl
      have n := cellsFree nb 3
      have k := cellsAt hc 3 _ rfl
      go_wp2_with fail
      clear m n k
      obtain ⟨w5, h5⟩ : ∃ w5, w5 = w4.setCell ⟨g, 3, none⟩ (.int .i64 (wrap64 (i3 + c3))) := ⟨_, rfl⟩
      rw [← h5]
      have nb2 : w5.heap[g]? = some (.cells #[.int .i64 (wrap64 (i0 + c0)), .int .i64 (wrap64 (i1 + c1)), .int .i64 (wrap64 (i2 + c2)), .int .i64 (wrap64 (i3 + c3))] 3 (0, 0)) := by rw [h5, set_cells nb]; rfl
      have hc2 : w5.heap[g2]? = some (.cells #[.int .i64 c0, .int .i64 c1, .int .i64 c2, .int .i64 c3] 3 (0, 0)) := by rw [h5]; exact (Below.heap_setCell _ _ _ _ hgg.symm).trans hc
      have Hh := Lib.hid (show w5.heap[b]? = some (.cells #[.string u] 9 (0, 0)) from by rw [h5]; exact (Below.heap_setCell _ _ _ _ (by show b ≠ g; omega)).trans Hh.out)
      have bl2 : Below w.heap.size w w5 := by rw [h5]; exact bl.setCell hgw _
      clear h5 nb hc bl
      obtain ⟨w4, hw4⟩ : ∃ w4, w4 = w5 := ⟨_, rfl⟩
      rw [← hw4] at nb2 hc2 Hh bl2 ⊢
      clear hw4
      have nb := nb2
      have hc := hc2
      have bl := bl2
      clear nb2 hc2 bl2
      rw [rounds_succ]
      skip
      go_wp2_with fail
      clear hc
      rw [rounds_succ]
      go_wp2_with fail
      go_ret
      exact ⟨g, rfl, hgw, by have h := nb; rw [E0.out, E1.out, E2.out, E3.out] at h; exact h, bl⟩
    · go_enter Try.func16, Try.ntmps16
      go_wp2_with fail
      clear hmk
      refine (XK.out _).mono ?_
      rintro e w2 ⟨rfl, rfl⟩
      have m0 := cellsAt nb 0 _ rfl
      have n0 := cellsFree nb 0
      have m1 := cellsAt nb 1 _ rfl
      have n1 := cellsFree nb 1
      have m2 := cellsAt nb 2 _ rfl
      have n2 := cellsFree nb 2
      have m3 := cellsAt nb 3 _ rfl
      have n3 := cellsFree nb 3
      go_wp2_with fail
      clear m0 m1 m2 m3 n0 n1 n2 n3
      have nb1 : (W.setCell ⟨g, 3, none⟩ (.int .i64 1)).heap[g]? = some (.cells #[.int .i64 0, .int .i64 0, .int .i64 0, .int .i64 1] 3 (0, 0)) := by rw [set_cells nb]; rfl
      replace bl := bl.setCell (p := ⟨g, 3, none⟩) hgw (.int .i64 1)
      obtain ⟨W1, hW1⟩ : ∃ W1, W1 = (W.setCell ⟨g, 3, none⟩ (.int .i64 1)) := ⟨_, rfl⟩
      rw [← hW1] at nb1 bl ⊢
      clear hW1
      replace nb := nb1
      refine (XB.out _).mono ?_
      rintro e w2 ⟨rfl, rfl⟩
      go_wp2_with fail
      obtain ⟨i0, e0⟩ : ∃ i : Int, i = 0 := ⟨_, rfl⟩
      obtain ⟨i1, e1⟩ : ∃ i : Int, i = 0 := ⟨_, rfl⟩
      obtain ⟨i2, e2⟩ : ∃ i : Int, i = 0 := ⟨_, rfl⟩
      obtain ⟨i3, e3⟩ : ∃ i : Int, i = 1 := ⟨_, rfl⟩
      replace nb := nb.trans (show some (Obj.cells #[.int .i64 0, .int .i64 0, .int .i64 0, .int .i64 1] 3 (0, 0)) = some (Obj.cells #[.int .i64 i0, .int .i64 i1, .int .i64 i2, .int .i64 i3] 3 (0, 0)) from by rw [e0, e1, e2, e3])
      have E0 := Lib.hid e0
      have E1 := Lib.hid e1
      have E2 := Lib.hid e2
      have E3 := Lib.hid e3
      clear e0 e1 e2 e3
      refine (XP.out _).mono ?_
      rintro e w3 ⟨b, rfl, hb, hh, b3⟩
      have hgb : g < b := Nat.lt_of_lt_of_le (lt_of_block nb) hb
      replace nb := (b3.block _ (lt_of_block nb)).trans nb
      replace bl := below_trans bl b3 bl.size
      clear b3
      have cu := cellOf1 hh
      have Hh := Lib.hid hh
      clear hh
      go_wp2_with fail
      refine wp_loop_rounds 2 ?_
      rw [rounds_succ]
      go_wp2_with fail
      refine (I1.out _).mono ?_
      rintro e w4 ⟨g2, rfl, hg2, hc, b4⟩
      have hgg : g ≠ g2 := by have := lt_of_block nb; omega
      have hgb2 : b ≠ g2 := by have := lt_of_block Hh.out; omega
      replace nb := (b4.block _ (lt_of_block nb)).trans nb
      have Hh := Lib.hid ((b4.block _ (lt_of_block Hh.out)).trans Hh.out)
      replace bl := below_trans bl b4 bl.size
      clear b4 cu
      go_wp2_with fail
      refine wp_loop_rounds 5 ?_
      rw [rounds_succ]
      have m := cellsAt nb 0 _ rfl
      have n := cellsFree nb 0
      have k := cellsAt hc 0 _ rfl
      go_wp2_with fail
      clear m n k
      obtain ⟨w5, h5⟩ : ∃ w5, w5 = w4.setCell ⟨g, 0, none⟩ (.int .i64 (wrap64 (i0 + c0))) := ⟨_, rfl⟩
      rw [← h5]
      have nb2 : w5.heap[g]? = some (.cells #[.int .i64 (wrap64 (i0 + c0)), .int .i64 i1, .int .i64 i2, .int .i64 i3] 3 (0, 0)) := by rw [h5, set_cells nb]; rfl
      have hc2 : w5.heap[g2]? = some (.cells #[.int .i64 c0, .int .i64 c1, .int .i64 c2, .int .i64 c3] 3 (0, 0)) := by rw [h5]; exact (Below.heap_setCell _ _ _ _ hgg.symm).trans hc
      have Hh := Lib.hid (show w5.heap[b]? = some (.cells #[.string u] 9 (0, 0)) from by rw [h5]; exact (Below.heap_setCell _ _ _ _ (by show b ≠ g; omega)).trans Hh.out)
      have bl2 : Below w.heap.size w w5 := by rw [h5]; exact bl.setCell hgw _
      clear h5 nb hc bl
      obtain ⟨w4, hw4⟩ : ∃ w4, w4 = w5 := ⟨_, rfl⟩
      rw [← hw4] at nb2 hc2 Hh bl2 ⊢
      clear hw4
      have nb := nb2
      have hc := hc2
      have bl := bl2
      clear nb2 hc2 bl2
      rw [rounds_succ]
      have m := cellsAt nb 1 _ rfl
      have n := cellsFree nb 1
      have k := cellsAt hc 1 _ rfl
      go_wp2_with fail
      clear m n k
      obtain ⟨w5, h5⟩ : ∃ w5, w5 = w4.setCell ⟨g, 1, none⟩ (.int .i64 (wrap64 (i1 + c1))) := ⟨_, rfl⟩
      rw [← h5]
      have nb2 : w5.heap[g]? = some (.cells #[.int .i64 (wrap64 (i0 + c0)), .int .i64 (wrap64 (i1 + c1)), .int .i64 i2, .int .i64 i3] 3 (0, 0)) := by rw [h5, set_cells nb]; rfl
      have hc2 : w5.heap[g2]? = some (.cells #[.int .i64 c0, .int .i64 c1, .int .i64 c2, .int .i64 c3] 3 (0, 0)) := by rw [h5]; exact (Below.heap_setCell _ _ _ _ hgg.symm).trans hc
      have Hh := Lib.hid (show w5.heap[b]? = some (.cells #[.string u] 9 (0, 0)) from by rw [h5]; exact (Below.heap_setCell _ _ _ _ (by show b ≠ g; omega)).trans Hh.out)
      have bl2 : Below w.heap.size w w5 := by rw [h5]; exact bl.setCell hgw _
      clear h5 nb hc bl
      obtain ⟨w4, hw4⟩ : ∃ w4, w4 = w5 := ⟨_, rfl⟩
      rw [← hw4] at nb2 hc2 Hh bl2 ⊢
      clear hw4
      have nb := nb2
      have hc := hc2
      have bl := bl2
      clear nb2 hc2 bl2
      rw [rounds_succ]
      have m := cellsAt nb 2 _ rfl
      have n := cellsFree nb 2
      have k := cellsAt hc 2 _ rfl
      go_wp2_with fail
      clear m n k
      obtain ⟨w5, h5⟩ : ∃ w5, w5 = w4.setCell ⟨g, 2, none⟩ (.int .i64 (wrap64 (i2 + c2))) := ⟨_, rfl⟩
      rw [← h5]
      have nb2 : w5.heap[g]? = some (.cells #[.int .i64 (wrap64 (i0 + c0)), .int .i64 (wrap64 (i1 + c1)), .int .i64 (wrap64 (i2 + c2)), .int .i64 i3] 3 (0, 0)) := by rw [h5, set_cells nb]; rfl
      have hc2 : w5.heap[g2]? = some (.cells #[.int .i64 c0, .int .i64 c1, .int .i64 c2, .int .i64 c3] 3 (0, 0)) := by rw [h5]; exact (Below.heap_setCell _ _ _ _ hgg.symm).trans hc
      have Hh := Lib.hid (show w5.heap[b]? = some (.cells #[.string u] 9 (0, 0)) from by rw [h5]; exact (Below.heap_setCell _ _ _ _ (by show b ≠ g; omega)).trans Hh.out)
      have bl2 : Below w.heap.size w w5 := by rw [h5]; exact bl.setCell hgw _
      clear h5 nb hc bl
      obtain ⟨w4, hw4⟩ : ∃ w4, w4 = w5 := ⟨_, rfl⟩
      rw [← hw4] at nb2 hc2 Hh bl2 ⊢
      clear hw4
      have nb := nb2
      have hc := hc2
      have bl := bl2
      clear nb2 hc2 bl2
      rw [rounds_succ]
      have m := cellsAt nb 3 _ rfl
      have n := cellsFree nb 3
      have k := cellsAt hc 3 _ rfl
      go_wp2_with fail
      clear m n k
      obtain ⟨w5, h5⟩ : ∃ w5, w5 = w4.setCell ⟨g, 3, none⟩ (.int .i64 (wrap64 (i3 + c3))) := ⟨_, rfl⟩
      rw [← h5]
      have nb2 : w5.heap[g]? = some (.cells #[.int .i64 (wrap64 (i0 + c0)), .int .i64 (wrap64 (i1 + c1)), .int .i64 (wrap64 (i2 + c2)), .int .i64 (wrap64 (i3 + c3))] 3 (0, 0)) := by rw [h5, set_cells nb]; rfl
      have hc2 : w5.heap[g2]? = some (.cells #[.int .i64 c0, .int .i64 c1, .int .i64 c2, .int .i64 c3] 3 (0, 0)) := by rw [h5]; exact (Below.heap_setCell _ _ _ _ hgg.symm).trans hc
      have Hh := Lib.hid (show w5.heap[b]? = some (.cells #[.string u] 9 (0, 0)) from by rw [h5]; exact (Below.heap_setCell _ _ _ _ (by show b ≠ g; omega)).trans Hh.out)
      have bl2 : Below w.heap.size w w5 := by rw [h5]; exact bl.setCell hgw _
      clear h5 nb hc bl
      obtain ⟨w4, hw4⟩ : ∃ w4, w4 = w5 := ⟨_, rfl⟩
      rw [← hw4] at nb2 hc2 Hh bl2 ⊢
      clear hw4
      have nb := nb2
      have hc := hc2
      have bl := bl2
      clear nb2 hc2 bl2
      rw [rounds_succ]
      skip
      go_wp2_with fail
      clear hc
      rw [rounds_succ]
      go_wp2_with fail
      go_ret
      exact ⟨g, rfl, hgw, by have h := nb; rw [E0.out, E1.out, E2.out, E3.out] at h; exact h, bl⟩
  · cases p3
    · go_enter Try.func16, Try.ntmps16
      go_wp2_with fail
      clear hmk
      refine (XK.out _).mono ?_
      rintro e w2 ⟨rfl, rfl⟩
      have m0 := cellsAt nb 0 _ rfl
      have n0 := cellsFree nb 0
      have m1 := cellsAt nb 1 _ rfl
      have n1 := cellsFree nb 1
      have m2 := cellsAt nb 2 _ rfl
      have n2 := cellsFree nb 2
      have m3 := cellsAt nb 3 _ rfl
      have n3 := cellsFree nb 3
      go_wp2_with fail
      clear m0 m1 m2 m3 n0 n1 n2 n3
      have nb1 : (W.setCell ⟨g, 3, none⟩ (.int .i64 1)).heap[g]? = some (.cells #[.int .i64 0, .int .i64 0, .int .i64 0, .int .i64 1] 3 (0, 0)) := by rw [set_cells nb]; rfl
      replace bl := bl.setCell (p := ⟨g, 3, none⟩) hgw (.int .i64 1)
      obtain ⟨W1, hW1⟩ : ∃ W1, W1 = (W.setCell ⟨g, 3, none⟩ (.int .i64 1)) := ⟨_, rfl⟩
      rw [← hW1] at nb1 bl ⊢
      clear hW1
      replace nb := nb1
      refine (XB.out _).mono ?_
      rintro e w2 ⟨rfl, rfl⟩
      go_wp2_with fail
      obtain ⟨i0, e0⟩ : ∃ i : Int, i = 0 := ⟨_, rfl⟩
      obtain ⟨i1, e1⟩ : ∃ i : Int, i = 0 := ⟨_, rfl⟩
      obtain ⟨i2, e2⟩ : ∃ i : Int, i = 0 := ⟨_, rfl⟩
      obtain ⟨i3, e3⟩ : ∃ i : Int, i = 1 := ⟨_, rfl⟩
      replace nb := nb.trans (show some (Obj.cells #[.int .i64 0, .int .i64 0, .int .i64 0, .int .i64 1] 3 (0, 0)) = some (Obj.cells #[.int .i64 i0, .int .i64 i1, .int .i64 i2, .int .i64 i3] 3 (0, 0)) from by rw [e0, e1, e2, e3])
      have E0 := Lib.hid e0
      have E1 := Lib.hid e1
      have E2 := Lib.hid e2
      have E3 := Lib.hid e3
      clear e0 e1 e2 e3
      refine (XP.out _).mono ?_
      rintro e w3 ⟨b, rfl, hb, hh, b3⟩
      have hgb : g < b := Nat.lt_of_lt_of_le (lt_of_block nb) hb
      replace nb := (b3.block _ (lt_of_block nb)).trans nb
      replace bl := below_trans bl b3 bl.size
      clear b3
      have cu := cellOf1 hh
      have Hh := Lib.hid hh
      clear hh
      go_wp2_with fail
      refine wp_loop_rounds 2 ?_
      rw [rounds_succ]
      go_wp2_with fail
      refine (I1.out _).mono ?_
      rintro e w4 ⟨g2, rfl, hg2, hc, b4⟩
      have hgg : g ≠ g2 := by have := lt_of_block nb; omega
      have hgb2 : b ≠ g2 := by have := lt_of_block Hh.out; omega
      replace nb := (b4.block _ (lt_of_block nb)).trans nb
      have Hh := Lib.hid ((b4.block _ (lt_of_block Hh.out)).trans Hh.out)
      replace bl := below_trans bl b4 bl.size
      clear b4 cu
      go_wp2_with fail
      refine wp_loop_rounds 5 ?_
      rw [rounds_succ]
      have m := cellsAt nb 0 _ rfl
      have n := cellsFree nb 0
      have k := cellsAt hc 0 _ rfl
      go_wp2_with fail
      clear m n k
      obtain ⟨w5, h5⟩ : ∃ w5, w5 = w4.setCell ⟨g, 0, none⟩ (.int .i64 (wrap64 (i0 + c0))) := ⟨_, rfl⟩
      rw [← h5]
      have nb2 : w5.heap[g]? = some (.cells #[.int .i64 (wrap64 (i0 + c0)), .int .i64 i1, .int .i64 i2, .int .i64 i3] 3 (0, 0)) := by rw [h5, set_cells nb]; rfl
      have hc2 : w5.heap[g2]? = some (.cells #[.int .i64 c0, .int .i64 c1, .int .i64 c2, .int .i64 c3] 3 (0, 0)) := by rw [h5]; exact (Below.heap_setCell _ _ _ _ hgg.symm).trans hc
      have Hh := Lib.hid (show w5.heap[b]? = some (.cells #[.string u] 9 (0, 0)) from by rw [h5]; exact (Below.heap_setCell _ _ _ _ (by show b ≠ g; omega)).trans Hh.out)
      have bl2 : Below w.heap.size w w5 := by rw [h5]; exact bl.setCell hgw _
      clear h5 nb hc bl
      obtain ⟨w4, hw4⟩ : ∃ w4, w4 = w5 := ⟨_, rfl⟩
      rw [← hw4] at nb2 hc2 Hh bl2 ⊢
      clear hw4
      have nb := nb2
      have hc := hc2
      have bl := bl2
      clear nb2 hc2 bl2
      rw [rounds_succ]
      have m := cellsAt nb 1 _ rfl
      have n := cellsFree nb 1
      have k := cellsAt hc 1 _ rfl
      go_wp2_with fail
      clear m n k
      obtain ⟨w5, h5⟩ : ∃ w5, w5 = w4.setCell ⟨g, 1, none⟩ (.int .i64 (wrap64 (i1 + c1))) := ⟨_, rfl⟩
      rw [← h5]
      have nb2 : w5.heap[g]? = some (.cells #[.int .i64 (wrap64 (i0 + c0)), .int .i64 (wrap64 (i1 + c1)), .int .i64 i2, .int .i64 i3] 3 (0, 0)) := by rw [h5, set_cells nb]; rfl
      have hc2 : w5.heap[g2]? = some (.cells #[.int .i64 c0, .int .i64 c1, .int .i64 c2, .int .i64 c3] 3 (0, 0)) := by rw [h5]; exact (Below.heap_setCell _ _ _ _ hgg.symm).trans hc
      have Hh := Lib.hid (show w5.heap[b]? = some (.cells #[.string u] 9 (0, 0)) from by rw [h5]; exact (Below.heap_setCell _ _ _ _ (by show b ≠ g; omega)).trans Hh.out)
      have bl2 : Below w.heap.size w w5 := by rw [h5]; exact bl.setCell hgw _
      clear h5 nb hc bl
      obtain ⟨w4, hw4⟩ : ∃ w4, w4 = w5 := ⟨_, rfl⟩
      rw [← hw4] at nb2 hc2 Hh bl2 ⊢
      clear hw4
      have nb := nb2
      have hc := hc2
      have bl := bl2
      clear nb2 hc2 bl2
      rw [rounds_succ]
      have m := cellsAt nb 2 _ rfl
      have n := cellsFree nb 2
      have k := cellsAt hc 2 _ rfl
      go_wp2_with fail
      clear m n k
      obtain ⟨w5, h5⟩ : ∃ w5, w5 = w4.setCell ⟨g, 2, none⟩ (.int .i64 (wrap64 (i2 + c2))) := ⟨_, rfl⟩
      rw [← h5]
      have nb2 : w5.heap[g]? = some (.cells #[.int .i64 (wrap64 (i0 + c0)), .int .i64 (wrap64 (i1 + c1)), .int .i64 (wrap64 (i2 + c2)), .int .i64 i3] 3 (0, 0)) := by rw [h5, set_cells nb]; rfl
      have hc2 : w5.heap[g2]? = some (.cells #[.int .i64 c0, .int .i64 c1, .int .i64 c2, .int .i64 c3] 3 (0, 0)) := by rw [h5]; exact (Below.heap_setCell _ _ _ _ hgg.symm).trans hc
      have Hh := Lib.hid (show w5.heap[b]? = some (.cells #[.string u] 9 (0, 0)) from by rw [h5]; exact (Below.heap_setCell _ _ _ _ (by show b ≠ g; omega)).trans Hh.out)
      have bl2 : Below w.heap.size w w5 := by rw [h5]; exact bl.setCell hgw _
      clear h5 nb hc bl
      obtain ⟨w4, hw4⟩ : ∃ w4, w4 = w5 := ⟨_, rfl⟩
      rw [← hw4] at nb2 hc2 Hh bl2 ⊢
      clear hw4
      have nb := nb2
      have hc := hc2
      have bl := bl2
      clear nb2 hc2 bl2
      rw [rounds_succ]
      have m := cellsAt nb 3 _ rfl
      have n := cellsFree nb 3
      have k := cellsAt hc 3 _ rfl
      go_wp2_with fail
      clear m n k
      obtain ⟨w5, h5⟩ : ∃ w5, w5 = w4.setCell ⟨g, 3, none⟩ (.int .i64 (wrap64 (i3 + c3))) := ⟨_, rfl⟩
      rw [← h5]
      have nb2 : w5.heap[g]? = some (.cells #[.int .i64 (wrap64 (i0 + c0)), .int .i64 (wrap64 (i1 + c1)), .int .i64 (wrap64 (i2 + c2)), .int .i64 (wrap64 (i3 + c3))] 3 (0, 0)) := by rw [h5, set_cells nb]; rfl
      have hc2 : w5.heap[g2]? = some (.cells #[.int .i64 c0, .int .i64 c1, .int .i64 c2, .int .i64 c3] 3 (0, 0)) := by rw [h5]; exact (Below.heap_setCell _ _ _ _ hgg.symm).trans hc
      have Hh := Lib.hid (show w5.heap[b]? = some (.cells #[.string u] 9 (0, 0)) from by rw [h5]; exact (Below.heap_setCell _ _ _ _ (by show b ≠ g; omega)).trans Hh.out)
      have bl2 : Below w.heap.size w w5 := by rw [h5]; exact bl.setCell hgw _
      clear h5 nb hc bl
      obtain ⟨w4, hw4⟩ : ∃ w4, w4 = w5 := ⟨_, rfl⟩
      rw [← hw4] at nb2 hc2 Hh bl2 ⊢
      clear hw4
      have nb := nb2
      have hc := hc2
      have bl := bl2
      clear nb2 hc2 bl2
      rw [rounds_succ]
      skip
      go_wp2_with fail
      clear hc
      rw [rounds_succ]
      go_wp2_with fail
      go_ret
      exact ⟨g, rfl, hgw, by have h := nb; rw [E0.out, E1.out, E2.out, E3.out] at h; exact h, bl⟩
    · go_enter Try.func16, Try.ntmps16
      go_wp2_with fail
      clear hmk
      refine (XK.out _).mono ?_
      rintro e w2 ⟨rfl, rfl⟩
      have m0 := cellsAt nb 0 _ rfl
      have n0 := cellsFree nb 0
      have m1 := cellsAt nb 1 _ rfl
      have n1 := cellsFree nb 1
      have m2 := cellsAt nb 2 _ rfl
      have n2 := cellsFree nb 2
      have m3 := cellsAt nb 3 _ rfl
      have n3 := cellsFree nb 3
      go_wp2_with fail
      clear m0 m1 m2 m3 n0 n1 n2 n3
      have nb1 : (W.setCell ⟨g, 3, none⟩ (.int .i64 1)).heap[g]? = some (.cells #[.int .i64 0, .int .i64 0, .int .i64 0, .int .i64 1] 3 (0, 0)) := by rw [set_cells nb]; rfl
      replace bl := bl.setCell (p := ⟨g, 3, none⟩) hgw (.int .i64 1)
      obtain ⟨W1, hW1⟩ : ∃ W1, W1 = (W.setCell ⟨g, 3, none⟩ (.int .i64 1)) := ⟨_, rfl⟩
      rw [← hW1] at nb1 bl ⊢
      clear hW1
      replace nb := nb1
      refine (XB.out _).mono ?_
      rintro e w2 ⟨rfl, rfl⟩
      go_wp2_with fail
      obtain ⟨i0, e0⟩ : ∃ i : Int, i = 0 := ⟨_, rfl⟩
      obtain ⟨i1, e1⟩ : ∃ i : Int, i = 0 := ⟨_, rfl⟩
      obtain ⟨i2, e2⟩ : ∃ i : Int, i = 0 := ⟨_, rfl⟩
      obtain ⟨i3, e3⟩ : ∃ i : Int, i = 1 := ⟨_, rfl⟩
      replace nb := nb.trans (show some (Obj.cells #[.int .i64 0, .int .i64 0, .int .i64 0, .int .i64 1] 3 (0, 0)) = some (Obj.cells #[.int .i64 i0, .int .i64 i1, .int .i64 i2, .int .i64 i3] 3 (0, 0)) from by rw [e0, e1, e2, e3])
      have E0 := Lib.hid e0
      have E1 := Lib.hid e1
      have E2 := Lib.hid e2
      have E3 := Lib.hid e3
      clear e0 e1 e2 e3
      refine (XP.out _).mono ?_
      rintro e w3 ⟨b, rfl, hb, hh, b3⟩
      have hgb : g < b := Nat.lt_of_lt_of_le (lt_of_block nb) hb
      replace nb := (b3.block _ (lt_of_block nb)).trans nb
      replace bl := below_trans bl b3 bl.size
      clear b3
      have cu := cellOf1 hh
      have Hh := Lib.hid hh
      clear hh
      go_wp2_with fail
      refine wp_loop_rounds 2 ?_
      rw [rounds_succ]
      go_wp2_with fail
      refine (I1.out _).mono ?_
      rintro e w4 ⟨g2, rfl, hg2, hc, b4⟩
      have hgg : g ≠ g2 := by have := lt_of_block nb; omega
      have hgb2 : b ≠ g2 := by have := lt_of_block Hh.out; omega
      replace nb := (b4.block _ (lt_of_block nb)).trans nb
      have Hh := Lib.hid ((b4.block _ (lt_of_block Hh.out)).trans Hh.out)
      replace bl := below_trans bl b4 bl.size
      clear b4 cu
      go_wp2_with fail
      refine wp_loop_rounds 5 ?_
      rw [rounds_succ]
      have m := cellsAt nb 0 _ rfl
      have n := cellsFree nb 0
      have k := cellsAt hc 0 _ rfl
      go_wp2_with fail
      clear m n k
      obtain ⟨w5, h5⟩ : ∃ w5, w5 = w4.setCell ⟨g, 0, none⟩ (.int .i64 (wrap64 (i0 + c0))) := ⟨_, rfl⟩
      rw [← h5]
      have nb2 : w5.heap[g]? = some (.cells #[.int .i64 (wrap64 (i0 + c0)), .int .i64 i1, .int .i64 i2, .int .i64 i3] 3 (0, 0)) := by rw [h5, set_cells nb]; rfl
      have hc2 : w5.heap[g2]? = some (.cells #[.int .i64 c0, .int .i64 c1, .int .i64 c2, .int .i64 c3] 3 (0, 0)) := by rw [h5]; exact (Below.heap_setCell _ _ _ _ hgg.symm).trans hc
      have Hh := Lib.hid (show w5.heap[b]? = some (.cells #[.string u] 9 (0, 0)) from by rw [h5]; exact (Below.heap_setCell _ _ _ _ (by show b ≠ g; omega)).trans Hh.out)
      have bl2 : Below w.heap.size w w5 := by rw [h5]; exact bl.setCell hgw _
      clear h5 nb hc bl
      obtain ⟨w4, hw4⟩ : ∃ w4, w4 = w5 := ⟨_, rfl⟩
      rw [← hw4] at nb2 hc2 Hh bl2 ⊢
      clear hw4
      have nb := nb2
      have hc := hc2
      have bl := bl2
      clear nb2 hc2 bl2
      rw [rounds_succ]
      have m := cellsAt nb 1 _ rfl
      have n := cellsFree nb 1
      have k := cellsAt hc 1 _ rfl
      go_wp2_with fail
      clear m n k
      obtain ⟨w5, h5⟩ : ∃ w5, w5 = w4.setCell ⟨g, 1, none⟩ (.int .i64 (wrap64 (i1 + c1))) := ⟨_, rfl⟩
      rw [← h5]
      have nb2 : w5.heap[g]? = some (.cells #[.int .i64 (wrap64 (i0 + c0)), .int .i64 (wrap64 (i1 + c1)), .int .i64 i2, .int .i64 i3] 3 (0, 0)) := by rw [h5, set_cells nb]; rfl
      have hc2 : w5.heap[g2]? = some (.cells #[.int .i64 c0, .int .i64 c1, .int .i64 c2, .int .i64 c3] 3 (0, 0)) := by rw [h5]; exact (Below.heap_setCell _ _ _ _ hgg.symm).trans hc
      have Hh := Lib.hid (show w5.heap[b]? = some (.cells #[.string u] 9 (0, 0)) from by rw [h5]; exact (Below.heap_setCell _ _ _ _ (by show b ≠ g; omega)).trans Hh.out)
      have bl2 : Below w.heap.size w w5 := by rw [h5]; exact bl.setCell hgw _
      clear h5 nb hc bl
      obtain ⟨w4, hw4⟩ : ∃ w4, w4 = w5 := ⟨_, rfl⟩
      rw [← hw4] at nb2 hc2 Hh bl2 ⊢
      clear hw4
      have nb := nb2
      have hc := hc2
      have bl := bl2
      clear nb2 hc2 bl2
      rw [rounds_succ]
      have m := cellsAt nb 2 _ rfl
      have n := cellsFree nb 2
      have k := cellsAt hc 2 _ rfl
      go_wp2_with fail
      clear m n k
      obtain ⟨w5, h5⟩ : ∃ w5, w5 = w4.setCell ⟨g, 2, none⟩ (.int .i64 (wrap64 (i2 + c2))) := ⟨_, rfl⟩
      rw [← h5]
      have nb2 : w5.heap[g]? = some (.cells #[.int .i64 (wrap64 (i0 + c0)), .int .i64 (wrap64 (i1 + c1)), .int .i64 (wrap64 (i2 + c2)), .int .i64 i3] 3 (0, 0)) := by rw [h5, set_cells nb]; rfl
      have hc2 : w5.heap[g2]? = some (.cells #[.int .i64 c0, .int .i64 c1, .int .i64 c2, .int .i64 c3] 3 (0, 0)) := by rw [h5]; exact (Below.heap_setCell _ _ _ _ hgg.symm).trans hc
      have Hh := Lib.hid (show w5.heap[b]? = some (.cells #[.string u] 9 (0, 0)) from by rw [h5]; exact (Below.heap_setCell _ _ _ _ (by show b ≠ g; omega)).trans Hh.out)
      have bl2 : Below w.heap.size w w5 := by rw [h5]; exact bl.setCell hgw _
      clear h5 nb hc bl
      obtain ⟨w4, hw4⟩ : ∃ w4, w4 = w5 := ⟨_, rfl⟩
      rw [← hw4] at nb2 hc2 Hh bl2 ⊢
      clear hw4
      have nb := nb2
      have hc := hc2
      have bl := bl2
      clear nb2 hc2 bl2
      rw [rounds_succ]
      have m := cellsAt nb 3 _ rfl
      have n := cellsFree nb 3
      have k := cellsAt hc 3 _ rfl
      go_wp2_with fail
      clear m n k
      obtain ⟨w5, h5⟩ : ∃ w5, w5 = w4.setCell ⟨g, 3, none⟩ (.int .i64 (wrap64 (i3 + c3))) := ⟨_, rfl⟩
      rw [← h5]
      have nb2 : w5.heap[g]? = some (.cells #[.int .i64 (wrap64 (i0 + c0)), .int .i64 (wrap64 (i1 + c1)), .int .i64 (wrap64 (i2 + c2)), .int .i64 (wrap64 (i3 + c3))] 3 (0, 0)) := by rw [h5, set_cells nb]; rfl
      have hc2 : w5.heap[g2]? = some (.cells #[.int .i64 c0, .int .i64 c1, .int .i64 c2, .int .i64 c3] 3 (0, 0)) := by rw [h5]; exact (Below.heap_setCell _ _ _ _ hgg.symm).trans hc
      have Hh := Lib.hid (show w5.heap[b]? = some (.cells #[.string u] 9 (0, 0)) from by rw [h5]; exact (Below.heap_setCell _ _ _ _ (by show b ≠ g; omega)).trans Hh.out)
      have bl2 : Below w.heap.size w w5 := by rw [h5]; exact bl.setCell hgw _
      clear h5 nb hc bl
      obtain ⟨w4, hw4⟩ : ∃ w4, w4 = w5 := ⟨_, rfl⟩
      rw [← hw4] at nb2 hc2 Hh bl2 ⊢
      clear hw4
      have nb := nb2
      have hc := hc2
      have bl := bl2
      clear nb2 hc2 bl2
      rw [rounds_succ]
      skip
      go_wp2_with fail
      clear hc
      rw [rounds_succ]
      go_wp2_with fail
      go_ret
      exact ⟨g, rfl, hgw, by have h := nb; rw [E0.out, E1.out, E2.out, E3.out] at h; exact h, bl⟩
end Go.Proofs.Ytdfelpahacmdpab.T1
