/- Canonical names in the specification: the ways through. -/
import Derived.Test.YtpahhlcfbmmocabTz
namespace Go.Proofs.Ytpahhlcfbmmocab.T1
open Go.RowKit
set_option maxRecDepth 100000
set_option linter.unusedVariables false

set_option maxHeartbeats 1000000 in
theorem tw_nil (s : ByteArray) (v : Value) (HK : ∀ w, Calls Try.prog 76 #[.string s] w fun e w' => e = .returned (.int .u8 48) ∧ w = w') (w : World) : Calls Try.prog 78 #[.string s, v] w fun e w' => e = .returned (.string s) ∧ Below w.heap.size w w' := by
  have H := Lib.hid HK
  clear HK
  go_enter Try.func78, Try.ntmps78
  go_wp2_with fail
  refine (H.out _).mono ?_
  rintro e w1 ⟨rfl, rfl⟩
  go_wp2_with fail
  go_ret
  exact ⟨rfl, Below.refl _ _⟩
set_option maxHeartbeats 1000000 in
theorem cb_no (s L : ByteArray) (x y : UInt8) (hy : 122 < (y.toNat : Int)) (HB : ∀ w, Calls Try.prog 67 #[.string s] w fun e w' => e = .returned (.tuple #[.int .u8 (x.toNat : Int), .bool true]) ∧ w = w') (HFS : ∀ w, Calls Try.prog 36 #[.string L] w fun e w' => e = .returned (.int .u8 (y.toNat : Int)) ∧ w = w') (w : World) :
    Calls Try.prog 46 #[.string s, .string L] w fun e w' => e = .returned (.tuple #[.string s, .string ⟨#[0]⟩]) ∧ Below w.heap.size w w' := by
  have HB' := Lib.hid HB
  have HFS' := Lib.hid HFS
  clear HB HFS
  go_enter Try.func46, Try.ntmps46
  go_wp2_with fail
  refine (HB'.out _).mono ?_
  rintro e w1 ⟨rfl, rfl⟩
  go_wp2_with fail
  refine (HFS'.out _).mono ?_
  rintro e w2 ⟨rfl, rfl⟩
  go_wp2_with fail
  go_ret2
  exact ⟨rfl, Below.refl _ _⟩
set_option maxHeartbeats 2000000 in
theorem cb_R (s L HD Q1 L2 P2 L3 : ByteArray) (a x y : UInt8) (hP : P2.size ≤ 700) (hs : 4 ≤ s.size) (hs3 : s.size ≤ 700) (hy : (y.toNat : Int) ≤ 122) (hl : (s.extract 0 4).data.toList = [a, 63, x, 46]) (hHB : HD = B [a, 63, y, 46])
    (HB : ∀ w, Calls Try.prog 67 #[.string s] w fun e w' => e = .returned (.tuple #[.int .u8 (x.toNat : Int), .bool true]) ∧ w = w') (HFS : ∀ w, Calls Try.prog 36 #[.string L] w fun e w' => e = .returned (.int .u8 (y.toNat : Int)) ∧ w = w') (HH : ∀ w, Calls Try.prog 75 #[.string s] w fun e w' => e = .returned (.int .i64 4) ∧ w = w') (HR : ∀ w, Calls Try.prog 42 #[.string (s.extract 4 s.size), .int .u8 (x.toNat : Int), .int .u8 (y.toNat : Int)] w fun e w' => e = .returned (.string Q1) ∧ Below w.heap.size w w') (HA : ∀ w, Calls Try.prog 66 #[.string L, .int .u8 (y.toNat : Int)] w fun e w' => e = .returned (.string L2) ∧ Below w.heap.size w w') (HC : ∀ w, Calls Try.prog 46 #[.string Q1, .string L2] w fun e w' => e = .returned (.tuple #[.string P2, .string L3]) ∧ Below w.heap.size w w') (HK : ∀ w, Calls Try.prog 76 #[.string s] w fun e w' => e = .returned (.int .u8 63) ∧ w = w') (w : World) :
    Calls Try.prog 46 #[.string s, .string L] w fun e w' => e = .returned (.tuple #[.string (HD ++ P2), .string L3]) ∧ Below w.heap.size w w' := by
  have Hl := Lib.hid hl
  have HHB := Lib.hid hHB
  clear hl hHB
  have HB' := Lib.hid HB
  have HFS' := Lib.hid HFS
  have HH' := Lib.hid HH
  have HR' := Lib.hid HR
  have HA' := Lib.hid HA
  have HC' := Lib.hid HC
  have HK' := Lib.hid HK
  clear HB HFS HH HR HA HC HK
  go_enter Try.func46, Try.ntmps46
  go_wp2_with fail
  refine (HB'.out _).mono ?_
  rintro e w1 ⟨rfl, rfl⟩
  go_wp2_with fail
  refine (HFS'.out _).mono ?_
  rintro e w2 ⟨rfl, rfl⟩
  go_wp2_with fail
  refine (HH'.out _).mono ?_
  rintro e w3 ⟨rfl, rfl⟩
  obtain ⟨cap, W, hcv, bW, hr⟩ := conv_head (s.extract 0 4) _ 4 Hl.out rfl w
  have bl := bW
  have hgw : w.heap.size ≤ w.heap.size := Nat.le_refl _
  obtain ⟨g, hg⟩ : ∃ g, g = w.heap.size := ⟨_, rfl⟩
  have hgw : w.heap.size ≤ g := by omega
  rw [← hg] at hcv hr
  clear bW hg
  have Hr := Lib.hid hr
  clear hr
  go_wp2_with fail
  clear hcv
  refine (HR'.out _).mono ?_
  rintro e w4 ⟨rfl, b4⟩
  replace Hr := Lib.hid (Hr.out.below b4)
  replace bl := blow_go bl b4
  clear b4
  go_wp2_with fail
  refine (HA'.out _).mono ?_
  rintro e w5 ⟨rfl, b5⟩
  replace Hr := Lib.hid (Hr.out.below b5)
  replace bl := blow_go bl b5
  clear b5
  go_wp2_with fail
  refine (HC'.out _).mono ?_
  rintro e w6 ⟨rfl, b6⟩
  replace Hr := Lib.hid (Hr.out.below b6)
  replace bl := blow_go bl b6
  clear b6
  go_wp2_with fail
  have x1 := Hr.out.cell 2 (by simp)
  have y1 := Hr.out.free 2 (by simp)
  simp only [List.getElem_cons_zero, List.getElem_cons_succ] at x1
  refine (HK'.out _).mono ?_
  rintro e w7 ⟨rfl, rfl⟩
  have HCv : (convert 37 9 (.slice (some ⟨g, 0, none⟩) 4 cap)).run Try.prog (w6.setCell ⟨g, 2, none⟩ (.int .u8 (y.toNat : Int))) = .ok (.string HD) (w6.setCell ⟨g, 2, none⟩ (.int .u8 (y.toNat : Int))) := by
    rw [HHB.out]; exact (Hr.out.set 2 (by simp) y).conv 4 cap rfl
  have hH4 : HD.size ≤ 4 := by rw [HHB.out]; exact Nat.le_refl _
  have bX : Below w.heap.size w (w6.setCell ⟨g, 2, none⟩ (.int .u8 (y.toNat : Int))) := bl.setCell (p := ⟨g, 2, none⟩) hgw _
  clear Hr HHB
  go_wp2_with fail
  go_ret2
  exact ⟨rfl, bX⟩
set_option maxHeartbeats 2000000 in
theorem cb_O (s L HD Q1 L2 P2 L3 : ByteArray) (x y : UInt8) (hP : P2.size ≤ 700) (hs : 3 ≤ s.size) (hs3 : s.size ≤ 700) (hy : (y.toNat : Int) ≤ 122) (hl : (s.extract 0 3).data.toList = [35, x, 46]) (hHB : HD = B [35, y, 46])
    (HB : ∀ w, Calls Try.prog 67 #[.string s] w fun e w' => e = .returned (.tuple #[.int .u8 (x.toNat : Int), .bool true]) ∧ w = w') (HFS : ∀ w, Calls Try.prog 36 #[.string L] w fun e w' => e = .returned (.int .u8 (y.toNat : Int)) ∧ w = w') (HH : ∀ w, Calls Try.prog 75 #[.string s] w fun e w' => e = .returned (.int .i64 3) ∧ w = w') (HR : ∀ w, Calls Try.prog 42 #[.string (s.extract 3 s.size), .int .u8 (x.toNat : Int), .int .u8 (y.toNat : Int)] w fun e w' => e = .returned (.string Q1) ∧ Below w.heap.size w w') (HA : ∀ w, Calls Try.prog 66 #[.string L, .int .u8 (y.toNat : Int)] w fun e w' => e = .returned (.string L2) ∧ Below w.heap.size w w') (HC : ∀ w, Calls Try.prog 46 #[.string Q1, .string L2] w fun e w' => e = .returned (.tuple #[.string P2, .string L3]) ∧ Below w.heap.size w w') (HK : ∀ w, Calls Try.prog 76 #[.string s] w fun e w' => e = .returned (.int .u8 35) ∧ w = w') (w : World) :
    Calls Try.prog 46 #[.string s, .string L] w fun e w' => e = .returned (.tuple #[.string (HD ++ P2), .string L3]) ∧ Below w.heap.size w w' := by
  have Hl := Lib.hid hl
  have HHB := Lib.hid hHB
  clear hl hHB
  have HB' := Lib.hid HB
  have HFS' := Lib.hid HFS
  have HH' := Lib.hid HH
  have HR' := Lib.hid HR
  have HA' := Lib.hid HA
  have HC' := Lib.hid HC
  have HK' := Lib.hid HK
  clear HB HFS HH HR HA HC HK
  go_enter Try.func46, Try.ntmps46
  go_wp2_with fail
  refine (HB'.out _).mono ?_
  rintro e w1 ⟨rfl, rfl⟩
  go_wp2_with fail
  refine (HFS'.out _).mono ?_
  rintro e w2 ⟨rfl, rfl⟩
  go_wp2_with fail
  refine (HH'.out _).mono ?_
  rintro e w3 ⟨rfl, rfl⟩
  obtain ⟨cap, W, hcv, bW, hr⟩ := conv_head (s.extract 0 3) _ 3 Hl.out rfl w
  have bl := bW
  have hgw : w.heap.size ≤ w.heap.size := Nat.le_refl _
  obtain ⟨g, hg⟩ : ∃ g, g = w.heap.size := ⟨_, rfl⟩
  have hgw : w.heap.size ≤ g := by omega
  rw [← hg] at hcv hr
  clear bW hg
  have Hr := Lib.hid hr
  clear hr
  go_wp2_with fail
  clear hcv
  refine (HR'.out _).mono ?_
  rintro e w4 ⟨rfl, b4⟩
  replace Hr := Lib.hid (Hr.out.below b4)
  replace bl := blow_go bl b4
  clear b4
  go_wp2_with fail
  refine (HA'.out _).mono ?_
  rintro e w5 ⟨rfl, b5⟩
  replace Hr := Lib.hid (Hr.out.below b5)
  replace bl := blow_go bl b5
  clear b5
  go_wp2_with fail
  refine (HC'.out _).mono ?_
  rintro e w6 ⟨rfl, b6⟩
  replace Hr := Lib.hid (Hr.out.below b6)
  replace bl := blow_go bl b6
  clear b6
  go_wp2_with fail
  have x1 := Hr.out.cell 1 (by simp)
  have y1 := Hr.out.free 1 (by simp)
  simp only [List.getElem_cons_zero, List.getElem_cons_succ] at x1
  refine (HK'.out _).mono ?_
  rintro e w7 ⟨rfl, rfl⟩
  have HCv : (convert 37 9 (.slice (some ⟨g, 0, none⟩) 3 cap)).run Try.prog (w6.setCell ⟨g, 1, none⟩ (.int .u8 (y.toNat : Int))) = .ok (.string HD) (w6.setCell ⟨g, 1, none⟩ (.int .u8 (y.toNat : Int))) := by
    rw [HHB.out]; exact (Hr.out.set 1 (by simp) y).conv 3 cap rfl
  have hH4 : HD.size ≤ 3 := by rw [HHB.out]; exact Nat.le_refl _
  have bX : Below w.heap.size w (w6.setCell ⟨g, 1, none⟩ (.int .u8 (y.toNat : Int))) := bl.setCell (p := ⟨g, 1, none⟩) hgw _
  clear Hr HHB
  go_wp2_with fail
  go_ret2
  exact ⟨rfl, bX⟩
set_option maxHeartbeats 2000000 in
theorem cn_0 (s L : ByteArray) (HB : ∀ w, Calls Try.prog 67 #[.string s] w fun e w' => e = .returned (.tuple #[.int .u8 0, .bool false]) ∧ w = w') (HP : ∀ w, Calls Try.prog 68 #[.string s] w fun e w' => e = .returned (.slice none 0 0) ∧ Below w.heap.size w w') (HW : ∀ (v : Value) w, Calls Try.prog 78 #[.string s, v] w fun e w' => e = .returned (.string s) ∧ Below w.heap.size w w') (w : World) :
    Calls Try.prog 46 #[.string s, .string L] w fun e w' => e = .returned (.tuple #[.string s, .string L]) ∧ Below w.heap.size w w' := by
  have HB' := Lib.hid HB
  have HP' := Lib.hid HP
  have HW' := Lib.hid HW
  clear HB HP HW
  go_enter Try.func46, Try.ntmps46
  go_wp2_with fail
  refine (HB'.out _).mono ?_
  rintro e w1 ⟨rfl, rfl⟩
  go_wp2_with fail
  refine (HP'.out _).mono ?_
  rintro e w2 ⟨rfl, b2⟩
  have bl := below_trans ((Below.refl _ _).alloc (Nat.le_refl _) _) b2 (by simp)
  go_wp2_with fail
  refine wp_loop_rounds 1 ?_
  rw [rounds_succ]
  go_wp2_with fail
  refine (HW'.out _ _).mono ?_
  rintro e w3 ⟨rfl, b3⟩
  have bl3 := blow_go bl b3
  go_wp2_with fail
  go_ret2
  exact ⟨rfl, bl3⟩
set_option maxHeartbeats 2000000 in
theorem cn_1 (s L u U L2 R : ByteArray) (HB : ∀ w, Calls Try.prog 67 #[.string s] w fun e w' => e = .returned (.tuple #[.int .u8 0, .bool false]) ∧ w = w') (HP : ∀ w, Calls Try.prog 68 #[.string s] w fun e w' => ∃ b, e = .returned (.slice (some ⟨b, 0, none⟩) 1 1) ∧ w.heap.size ≤ b ∧ w'.heap[b]? = some (.cells #[.string u] 9 (0, 0)) ∧ Below w.heap.size w w') (HC : ∀ w, Calls Try.prog 46 #[.string u, .string L] w fun e w' => e = .returned (.tuple #[.string U, .string L2]) ∧ Below w.heap.size w w') (HW : ∀ (g n cap : Nat) (w : World), 1 ≤ n → w.cell? ⟨g, 0, none⟩ = some (.string U) → Calls Try.prog 78 #[.string s, .slice (some ⟨g, 0, none⟩) n cap] w fun e w' => e = .returned (.string R) ∧ Below w.heap.size w w') (w : World) :
    Calls Try.prog 46 #[.string s, .string L] w fun e w' => e = .returned (.tuple #[.string R, .string L2]) ∧ Below w.heap.size w w' := by
  have HB' := Lib.hid HB
  have HP' := Lib.hid HP
  have HC' := Lib.hid HC
  have HW' := Lib.hid HW
  clear HB HP HC HW
  obtain ⟨i0, hi, hz0, hz1, hz2⟩ := info_parts Try.infoS
  go_enter Try.func46, Try.ntmps46
  go_wp2_with fail
  refine (HB'.out _).mono ?_
  rintro e w0 ⟨rfl, rfl⟩
  go_wp2_with fail
  refine (HP'.out _).mono ?_
  rintro e w1 ⟨b, rfl, hb, hh, b1⟩
  have c0 := cellOf1 hh
  have bl1 := below_trans ((Below.refl _ _).alloc (Nat.le_refl _) _) b1 (by simp)
  clear hh hb
  go_wp2_with fail
  obtain ⟨cp, hcp⟩ : ∃ cp, cp = (Question.appendCap 1 0 9).cut (w1.tape w1.drawn (Question.appendCap 1 0 9)) := ⟨_, rfl⟩
  rw [← hcp]
  obtain ⟨C, hC⟩ : ∃ C, C = #[.string u] ++ Builtin.zeroCells #[.string ⟨#[]⟩] (cp - 1) := ⟨_, rfl⟩
  rw [← hC]
  have hC0 : C[0]? = some (.string u) := by rw [hC, Array.getElem?_append_left (by simp)]; rfl

  obtain ⟨W, hW⟩ : ∃ W, W = (w1.alloc (.cells C 9)).drew := ⟨_, rfl⟩
  have hWg : W.heap[w1.heap.size]? = some (.cells C 9 (0, 0)) := by rw [hW]; exact new_block0 _ _
  have bl : Below w.heap.size w W := by rw [hW]; exact (bl1.alloc bl1.size _).drew
  have hgg : w.heap.size ≤ w1.heap.size := bl1.size
  rw [← hW]
  obtain ⟨g, hg⟩ : ∃ g, g = w1.heap.size := ⟨_, rfl⟩
  rw [← hg] at hWg hgg ⊢
  have d0 := cellsAt hWg 0 _ hC0
  have Hg := Lib.hid hWg
  have HC0 := Lib.hid hC0
  skip
  clear hcp hC hW hWg hg c0 b1 bl1 hC0 
  go_wp2_with fail
  refine wp_loop_rounds 2 ?_
  rw [rounds_succ]
  go_wp2_with fail
  refine (HC'.out _).mono ?_
  rintro e w2 ⟨rfl, b2⟩
  have g2 := (b2.block g (lt_of_block Hg.out)).trans Hg.out
  clear d0
  have d0 := cellsAt g2 0 _ HC0.out
  have f0 := cellsFree g2 0
  have e2 := Lib.hid (set_cells g2 0 (.string U))
  replace bl := (blow_go bl b2).setCell (p := ⟨g, 0, none⟩) hgg (.string U)
  clear b2 g2
  have HD0 : Hid ((C.setIfInBounds 0 (.string U))[0]? = some (.string U)) := setAt HC0.out
  go_wp2_with fail
  rw [rounds_succ]
  go_wp2_with fail
  refine (HW'.out _ _ _ _ (by omega) (cellsAt e2.out 0 _ HD0.out)).mono ?_
  rintro e w9 ⟨rfl, b9⟩
  have bl9 := blow_go bl b9
  go_wp2_with fail
  go_ret2
  exact ⟨rfl, bl9⟩
set_option maxHeartbeats 2000000 in
theorem cn_2 (s L u v U L2 R V L3 : ByteArray) (HB : ∀ w, Calls Try.prog 67 #[.string s] w fun e w' => e = .returned (.tuple #[.int .u8 0, .bool false]) ∧ w = w') (HP : ∀ w, Calls Try.prog 68 #[.string s] w fun e w' => ∃ b, e = .returned (.slice (some ⟨b, 0, none⟩) 2 2) ∧ w.heap.size ≤ b ∧ w'.heap[b]? = some (.cells #[.string u, .string v] 9 (0, 0)) ∧ Below w.heap.size w w') (HC : ∀ w, Calls Try.prog 46 #[.string u, .string L] w fun e w' => e = .returned (.tuple #[.string U, .string L2]) ∧ Below w.heap.size w w') (HC2 : ∀ w, Calls Try.prog 46 #[.string v, .string L2] w fun e w' => e = .returned (.tuple #[.string V, .string L3]) ∧ Below w.heap.size w w') (HW : ∀ (g n cap : Nat) (w : World), 2 ≤ n → w.cell? ⟨g, 0, none⟩ = some (.string U) → w.cell? ⟨g, 1, none⟩ = some (.string V) → Calls Try.prog 78 #[.string s, .slice (some ⟨g, 0, none⟩) n cap] w fun e w' => e = .returned (.string R) ∧ Below w.heap.size w w') (w : World) :
    Calls Try.prog 46 #[.string s, .string L] w fun e w' => e = .returned (.tuple #[.string R, .string L3]) ∧ Below w.heap.size w w' := by
  have HB' := Lib.hid HB
  have HP' := Lib.hid HP
  have HC' := Lib.hid HC
  have HC2' := Lib.hid HC2
  have HW' := Lib.hid HW
  clear HB HP HC HC2 HW
  obtain ⟨i0, hi, hz0, hz1, hz2⟩ := info_parts Try.infoS
  go_enter Try.func46, Try.ntmps46
  go_wp2_with fail
  refine (HB'.out _).mono ?_
  rintro e w0 ⟨rfl, rfl⟩
  go_wp2_with fail
  refine (HP'.out _).mono ?_
  rintro e w1 ⟨b, rfl, hb, hh, b1⟩
  have c0 := cellOf2a hh
  have c1 := cellOf2b hh
  have bl1 := below_trans ((Below.refl _ _).alloc (Nat.le_refl _) _) b1 (by simp)
  clear hh hb
  go_wp2_with fail
  obtain ⟨cp, hcp⟩ : ∃ cp, cp = (Question.appendCap 2 0 9).cut (w1.tape w1.drawn (Question.appendCap 2 0 9)) := ⟨_, rfl⟩
  rw [← hcp]
  obtain ⟨C, hC⟩ : ∃ C, C = #[.string u, .string v] ++ Builtin.zeroCells #[.string ⟨#[]⟩] (cp - 2) := ⟨_, rfl⟩
  rw [← hC]
  have hC0 : C[0]? = some (.string u) := by rw [hC, Array.getElem?_append_left (by simp)]; rfl
  have hC1 : C[1]? = some (.string v) := by rw [hC, Array.getElem?_append_left (by simp)]; rfl
  obtain ⟨W, hW⟩ : ∃ W, W = (w1.alloc (.cells C 9)).drew := ⟨_, rfl⟩
  have hWg : W.heap[w1.heap.size]? = some (.cells C 9 (0, 0)) := by rw [hW]; exact new_block0 _ _
  have bl : Below w.heap.size w W := by rw [hW]; exact (bl1.alloc bl1.size _).drew
  have hgg : w.heap.size ≤ w1.heap.size := bl1.size
  rw [← hW]
  obtain ⟨g, hg⟩ : ∃ g, g = w1.heap.size := ⟨_, rfl⟩
  rw [← hg] at hWg hgg ⊢
  have d0 := cellsAt hWg 0 _ hC0
  have Hg := Lib.hid hWg
  have HC0 := Lib.hid hC0
  have HC1 := Lib.hid hC1
  clear hcp hC hW hWg hg c0 b1 bl1 hC0 hC1
  go_wp2_with fail
  refine wp_loop_rounds 3 ?_
  rw [rounds_succ]
  go_wp2_with fail
  refine (HC'.out _).mono ?_
  rintro e w2 ⟨rfl, b2⟩
  have g2 := (b2.block g (lt_of_block Hg.out)).trans Hg.out
  clear d0
  have d0 := cellsAt g2 0 _ HC0.out
  have f0 := cellsFree g2 0
  have e2 := Lib.hid (set_cells g2 0 (.string U))
  replace bl := (blow_go bl b2).setCell (p := ⟨g, 0, none⟩) hgg (.string U)
  clear b2 g2
  have HD1 : Hid ((C.setIfInBounds 0 (.string U))[1]? = some (.string v)) := by show _ = _; rw [Array.getElem?_setIfInBounds_ne (by decide)]; exact HC1.out
  have HD0 : Hid ((C.setIfInBounds 0 (.string U))[0]? = some (.string U)) := setAt HC0.out
  have x1 := cellsAt e2.out 1 _ HD1.out
  go_wp2_with fail
  rw [rounds_succ]
  go_wp2_with fail
  refine (HC2'.out _).mono ?_
  rintro e w3 ⟨rfl, b3⟩
  have g3 := (b3.block g (lt_of_block e2.out)).trans e2.out
  clear d0 f0 x1
  have d1 := cellsAt g3 1 _ HD1.out
  have f1 := cellsFree g3 1
  have e3 := Lib.hid (set_cells g3 1 (.string V))
  replace bl := (blow_go bl b3).setCell (p := ⟨g, 1, none⟩) hgg (.string V)
  clear b3 g3
  have HE0 : Hid (((C.setIfInBounds 0 (.string U)).setIfInBounds 1 (.string V))[0]? = some (.string U)) := by show _ = _; rw [Array.getElem?_setIfInBounds_ne (by decide)]; exact HD0.out
  have HE1 : Hid (((C.setIfInBounds 0 (.string U)).setIfInBounds 1 (.string V))[1]? = some (.string V)) := setAt HD1.out
  go_wp2_with fail
  rw [rounds_succ]
  go_wp2_with fail
  refine (HW'.out _ _ _ _ (by omega) (cellsAt e3.out 0 _ HE0.out) (cellsAt e3.out 1 _ HE1.out)).mono ?_
  rintro e w9 ⟨rfl, b9⟩
  have bl9 := blow_go bl b9
  go_wp2_with fail
  go_ret2
  exact ⟨rfl, bl9⟩

end Go.Proofs.Ytpahhlcfbmmocab.T1
