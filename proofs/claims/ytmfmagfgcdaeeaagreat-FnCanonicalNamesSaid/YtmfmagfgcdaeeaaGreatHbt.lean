/- Texts of the proof, put together: Tq, Ty, CCanonicalNames, CFreeNames, Tj, Tk. No conditions. -/
import Derived.Test.YtmfmagfgcdaeeaaGreatHaq
import Derived.Test.YtmfmagfgcdaeeaaGreatHas
import Derived.Test.YtmfmagfgcdaeeaaGreatHau
import Derived.Test.YtmfmagfgcdaeeaaGreatHav
import Derived.Test.YtmfmagfgcdaeeaaGreatHba
import Derived.Test.YtmfmagfgcdaeeaaGreatHbg
import Derived.Test.YtmfmagfgcdaeeaaGreatHbs
import Derived.Test.YtmfmagfgcdaeeaaGreatProg
import Derived.WalkKit
import Derived.ProofKit
import Derived.OpenShut
import Derived.ShutString
import Derived.ChangeOld
import Derived.Below

/- Canonical names in the specification: the ways through. -/
namespace Go.Proofs.YtmfmagfgcdaeeaaGreat.T1
open Go.RowKit
set_option maxRecDepth 100000
set_option linter.unusedVariables false

set_option maxHeartbeats 1000000 in
theorem tw_nil (s : ByteArray) (v : Value) (HK : ∀ w, Calls Tryz.prog 100 #[.string s] w fun e w' => e = .returned (.int .u8 48) ∧ w = w') (w : World) : Calls Tryz.prog 128 #[.string s, v] w fun e w' => e = .returned (.string s) ∧ Below w.heap.size w w' := by
  have H := Lib.hid HK
  clear HK
  go_enter Tryz.func128, Tryz.ntmps128
  go_wp2_with fail
  refine (H.out _).mono ?_
  rintro e w1 ⟨rfl, rfl⟩
  go_wp2_with fail
  go_ret
  exact ⟨rfl, Below.refl _ _⟩
set_option maxHeartbeats 1000000 in
theorem cb_no (s L : ByteArray) (x y : UInt8) (hy : 122 < (y.toNat : Int)) (HB : ∀ w, Calls Tryz.prog 124 #[.string s] w fun e w' => e = .returned (.tuple #[.int .u8 (x.toNat : Int), .bool true]) ∧ w = w') (HFS : ∀ w, Calls Tryz.prog 125 #[.string L] w fun e w' => e = .returned (.int .u8 (y.toNat : Int)) ∧ w = w') (w : World) :
    Calls Tryz.prog 67 #[.string s, .string L] w fun e w' => e = .returned (.tuple #[.string s, .string ⟨#[0]⟩]) ∧ Below w.heap.size w w' := by
  have HB' := Lib.hid HB
  have HFS' := Lib.hid HFS
  clear HB HFS
  go_enter Tryz.func67, Tryz.ntmps67
  go_wp2_with fail
  refine (HB'.out _).mono ?_
  rintro e w1 ⟨rfl, rfl⟩
  go_wp2_with fail
  refine (HFS'.out _).mono ?_
  rintro e w2 ⟨rfl, rfl⟩
  go_wp2_with fail
  go_ret2
  exact ⟨rfl, Below.refl _ _⟩
set_option maxHeartbeats 2000000 in
theorem cb_R (s L HD Q1 L2 P2 L3 : ByteArray) (a x y : UInt8) (hP : P2.size ≤ 700) (hs : 4 ≤ s.size) (hs3 : s.size ≤ 700) (hy : (y.toNat : Int) ≤ 122) (hl : (s.extract 0 4).data.toList = [a, 63, x, 46]) (hHB : HD = B [a, 63, y, 46])
    (HB : ∀ w, Calls Tryz.prog 124 #[.string s] w fun e w' => e = .returned (.tuple #[.int .u8 (x.toNat : Int), .bool true]) ∧ w = w') (HFS : ∀ w, Calls Tryz.prog 125 #[.string L] w fun e w' => e = .returned (.int .u8 (y.toNat : Int)) ∧ w = w') (HH : ∀ w, Calls Tryz.prog 126 #[.string s] w fun e w' => e = .returned (.int .i64 4) ∧ w = w') (HR : ∀ w, Calls Tryz.prog 76 #[.string (s.extract 4 s.size), .int .u8 (x.toNat : Int), .int .u8 (y.toNat : Int)] w fun e w' => e = .returned (.string Q1) ∧ Below w.heap.size w w') (HA : ∀ w, Calls Tryz.prog 127 #[.string L, .int .u8 (y.toNat : Int)] w fun e w' => e = .returned (.string L2) ∧ Below w.heap.size w w') (HC : ∀ w, Calls Tryz.prog 67 #[.string Q1, .string L2] w fun e w' => e = .returned (.tuple #[.string P2, .string L3]) ∧ Below w.heap.size w w') (HK : ∀ w, Calls Tryz.prog 100 #[.string s] w fun e w' => e = .returned (.int .u8 63) ∧ w = w') (w : World) :
    Calls Tryz.prog 67 #[.string s, .string L] w fun e w' => e = .returned (.tuple #[.string (HD ++ P2), .string L3]) ∧ Below w.heap.size w w' := by
  have Hl := Lib.hid hl
  have HHB := Lib.hid hHB
  clear hl hHB
  have HB' := Lib.hid HB
  have HFS' := Lib.hid HFS
  have HH' := Lib.hid HH
  have HR' := Lib.hid HR
  have HA' := Lib.hid HA
  have HC' := Lib.hid HC
  have HK' := Lib.hid HK
  clear HB HFS HH HR HA HC HK
  go_enter Tryz.func67, Tryz.ntmps67
  go_wp2_with fail
  refine (HB'.out _).mono ?_
  rintro e w1 ⟨rfl, rfl⟩
  go_wp2_with fail
  refine (HFS'.out _).mono ?_
  rintro e w2 ⟨rfl, rfl⟩
  go_wp2_with fail
  refine (HH'.out _).mono ?_
  rintro e w3 ⟨rfl, rfl⟩
  obtain ⟨cap, W, hcv, bW, hr⟩ := conv_head (s.extract 0 4) _ 4 Hl.out rfl w
  have bl := bW
  have hgw : w.heap.size ≤ w.heap.size := Nat.le_refl _
  obtain ⟨g, hg⟩ : ∃ g, g = w.heap.size := ⟨_, rfl⟩
  have hgw : w.heap.size ≤ g := by omega
  rw [← hg] at hcv hr
  clear bW hg
  have Hr := Lib.hid hr
  clear hr
  go_wp2_with fail
  clear hcv
  refine (HR'.out _).mono ?_
  rintro e w4 ⟨rfl, b4⟩
  replace Hr := Lib.hid (Hr.out.below b4)
  replace bl := blow_go bl b4
  clear b4
  go_wp2_with fail
  refine (HA'.out _).mono ?_
  rintro e w5 ⟨rfl, b5⟩
  replace Hr := Lib.hid (Hr.out.below b5)
  replace bl := blow_go bl b5
  clear b5
  go_wp2_with fail
  refine (HC'.out _).mono ?_
  rintro e w6 ⟨rfl, b6⟩
  replace Hr := Lib.hid (Hr.out.below b6)
  replace bl := blow_go bl b6
  clear b6
  go_wp2_with fail
  have x1 := Hr.out.cell 2 (by simp)
  have y1 := Hr.out.free 2 (by simp)
  simp only [List.getElem_cons_zero, List.getElem_cons_succ] at x1
  refine (HK'.out _).mono ?_
  rintro e w7 ⟨rfl, rfl⟩
  have HCv : (convert 22 9 (.slice (some ⟨g, 0, none⟩) 4 cap)).run Tryz.prog (w6.setCell ⟨g, 2, none⟩ (.int .u8 (y.toNat : Int))) = .ok (.string HD) (w6.setCell ⟨g, 2, none⟩ (.int .u8 (y.toNat : Int))) := by
    rw [HHB.out]; exact (Hr.out.set 2 (by simp) y).conv 4 cap rfl
  have hH4 : HD.size ≤ 4 := by rw [HHB.out]; exact Nat.le_refl _
  have bX : Below w.heap.size w (w6.setCell ⟨g, 2, none⟩ (.int .u8 (y.toNat : Int))) := bl.setCell (p := ⟨g, 2, none⟩) hgw _
  clear Hr HHB
  go_wp2_with fail
  go_ret2
  exact ⟨rfl, bX⟩
set_option maxHeartbeats 2000000 in
theorem cb_O (s L HD Q1 L2 P2 L3 : ByteArray) (x y : UInt8) (hP : P2.size ≤ 700) (hs : 3 ≤ s.size) (hs3 : s.size ≤ 700) (hy : (y.toNat : Int) ≤ 122) (hl : (s.extract 0 3).data.toList = [35, x, 46]) (hHB : HD = B [35, y, 46])
    (HB : ∀ w, Calls Tryz.prog 124 #[.string s] w fun e w' => e = .returned (.tuple #[.int .u8 (x.toNat : Int), .bool true]) ∧ w = w') (HFS : ∀ w, Calls Tryz.prog 125 #[.string L] w fun e w' => e = .returned (.int .u8 (y.toNat : Int)) ∧ w = w') (HH : ∀ w, Calls Tryz.prog 126 #[.string s] w fun e w' => e = .returned (.int .i64 3) ∧ w = w') (HR : ∀ w, Calls Tryz.prog 76 #[.string (s.extract 3 s.size), .int .u8 (x.toNat : Int), .int .u8 (y.toNat : Int)] w fun e w' => e = .returned (.string Q1) ∧ Below w.heap.size w w') (HA : ∀ w, Calls Tryz.prog 127 #[.string L, .int .u8 (y.toNat : Int)] w fun e w' => e = .returned (.string L2) ∧ Below w.heap.size w w') (HC : ∀ w, Calls Tryz.prog 67 #[.string Q1, .string L2] w fun e w' => e = .returned (.tuple #[.string P2, .string L3]) ∧ Below w.heap.size w w') (HK : ∀ w, Calls Tryz.prog 100 #[.string s] w fun e w' => e = .returned (.int .u8 35) ∧ w = w') (w : World) :
    Calls Tryz.prog 67 #[.string s, .string L] w fun e w' => e = .returned (.tuple #[.string (HD ++ P2), .string L3]) ∧ Below w.heap.size w w' := by
  have Hl := Lib.hid hl
  have HHB := Lib.hid hHB
  clear hl hHB
  have HB' := Lib.hid HB
  have HFS' := Lib.hid HFS
  have HH' := Lib.hid HH
  have HR' := Lib.hid HR
  have HA' := Lib.hid HA
  have HC' := Lib.hid HC
  have HK' := Lib.hid HK
  clear HB HFS HH HR HA HC HK
  go_enter Tryz.func67, Tryz.ntmps67
  go_wp2_with fail
  refine (HB'.out _).mono ?_
  rintro e w1 ⟨rfl, rfl⟩
  go_wp2_with fail
  refine (HFS'.out _).mono ?_
  rintro e w2 ⟨rfl, rfl⟩
  go_wp2_with fail
  refine (HH'.out _).mono ?_
  rintro e w3 ⟨rfl, rfl⟩
  obtain ⟨cap, W, hcv, bW, hr⟩ := conv_head (s.extract 0 3) _ 3 Hl.out rfl w
  have bl := bW
  have hgw : w.heap.size ≤ w.heap.size := Nat.le_refl _
  obtain ⟨g, hg⟩ : ∃ g, g = w.heap.size := ⟨_, rfl⟩
  have hgw : w.heap.size ≤ g := by omega
  rw [← hg] at hcv hr
  clear bW hg
  have Hr := Lib.hid hr
  clear hr
  go_wp2_with fail
  clear hcv
  refine (HR'.out _).mono ?_
  rintro e w4 ⟨rfl, b4⟩
  replace Hr := Lib.hid (Hr.out.below b4)
  replace bl := blow_go bl b4
  clear b4
  go_wp2_with fail
  refine (HA'.out _).mono ?_
  rintro e w5 ⟨rfl, b5⟩
  replace Hr := Lib.hid (Hr.out.below b5)
  replace bl := blow_go bl b5
  clear b5
  go_wp2_with fail
  refine (HC'.out _).mono ?_
  rintro e w6 ⟨rfl, b6⟩
  replace Hr := Lib.hid (Hr.out.below b6)
  replace bl := blow_go bl b6
  clear b6
  go_wp2_with fail
  have x1 := Hr.out.cell 1 (by simp)
  have y1 := Hr.out.free 1 (by simp)
  simp only [List.getElem_cons_zero, List.getElem_cons_succ] at x1
  refine (HK'.out _).mono ?_
  rintro e w7 ⟨rfl, rfl⟩
  have HCv : (convert 22 9 (.slice (some ⟨g, 0, none⟩) 3 cap)).run Tryz.prog (w6.setCell ⟨g, 1, none⟩ (.int .u8 (y.toNat : Int))) = .ok (.string HD) (w6.setCell ⟨g, 1, none⟩ (.int .u8 (y.toNat : Int))) := by
    rw [HHB.out]; exact (Hr.out.set 1 (by simp) y).conv 3 cap rfl
  have hH4 : HD.size ≤ 3 := by rw [HHB.out]; exact Nat.le_refl _
  have bX : Below w.heap.size w (w6.setCell ⟨g, 1, none⟩ (.int .u8 (y.toNat : Int))) := bl.setCell (p := ⟨g, 1, none⟩) hgw _
  clear Hr HHB
  go_wp2_with fail
  go_ret2
  exact ⟨rfl, bX⟩
set_option maxHeartbeats 2000000 in
theorem cn_0 (s L : ByteArray) (HB : ∀ w, Calls Tryz.prog 124 #[.string s] w fun e w' => e = .returned (.tuple #[.int .u8 0, .bool false]) ∧ w = w') (HP : ∀ w, Calls Tryz.prog 101 #[.string s] w fun e w' => e = .returned (.slice none 0 0) ∧ Below w.heap.size w w') (HW : ∀ (v : Value) w, Calls Tryz.prog 128 #[.string s, v] w fun e w' => e = .returned (.string s) ∧ Below w.heap.size w w') (w : World) :
    Calls Tryz.prog 67 #[.string s, .string L] w fun e w' => e = .returned (.tuple #[.string s, .string L]) ∧ Below w.heap.size w w' := by
  have HB' := Lib.hid HB
  have HP' := Lib.hid HP
  have HW' := Lib.hid HW
  clear HB HP HW
  go_enter Tryz.func67, Tryz.ntmps67
  go_wp2_with fail
  refine (HB'.out _).mono ?_
  rintro e w1 ⟨rfl, rfl⟩
  go_wp2_with fail
  refine (HP'.out _).mono ?_
  rintro e w2 ⟨rfl, b2⟩
  have bl := below_trans ((Below.refl _ _).alloc (Nat.le_refl _) _) b2 (by simp)
  go_wp2_with fail
  refine wp_loop_rounds 1 ?_
  rw [rounds_succ]
  go_wp2_with fail
  refine (HW'.out _ _).mono ?_
  rintro e w3 ⟨rfl, b3⟩
  have bl3 := blow_go bl b3
  go_wp2_with fail
  go_ret2
  exact ⟨rfl, bl3⟩
set_option maxHeartbeats 2000000 in
theorem cn_1 (s L u U L2 R : ByteArray) (HB : ∀ w, Calls Tryz.prog 124 #[.string s] w fun e w' => e = .returned (.tuple #[.int .u8 0, .bool false]) ∧ w = w') (HP : ∀ w, Calls Tryz.prog 101 #[.string s] w fun e w' => ∃ b, e = .returned (.slice (some ⟨b, 0, none⟩) 1 1) ∧ w.heap.size ≤ b ∧ w'.heap[b]? = some (.cells #[.string u] 9 (0, 0)) ∧ Below w.heap.size w w') (HC : ∀ w, Calls Tryz.prog 67 #[.string u, .string L] w fun e w' => e = .returned (.tuple #[.string U, .string L2]) ∧ Below w.heap.size w w') (HW : ∀ (g n cap : Nat) (w : World), 1 ≤ n → w.cell? ⟨g, 0, none⟩ = some (.string U) → Calls Tryz.prog 128 #[.string s, .slice (some ⟨g, 0, none⟩) n cap] w fun e w' => e = .returned (.string R) ∧ Below w.heap.size w w') (w : World) :
    Calls Tryz.prog 67 #[.string s, .string L] w fun e w' => e = .returned (.tuple #[.string R, .string L2]) ∧ Below w.heap.size w w' := by
  have HB' := Lib.hid HB
  have HP' := Lib.hid HP
  have HC' := Lib.hid HC
  have HW' := Lib.hid HW
  clear HB HP HC HW
  obtain ⟨i0, hi, hz0, hz1, hz2⟩ := info_parts Tryz.infoS
  go_enter Tryz.func67, Tryz.ntmps67
  go_wp2_with fail
  refine (HB'.out _).mono ?_
  rintro e w0 ⟨rfl, rfl⟩
  go_wp2_with fail
  refine (HP'.out _).mono ?_
  rintro e w1 ⟨b, rfl, hb, hh, b1⟩
  have c0 := cellOf1 hh
  have bl1 := below_trans ((Below.refl _ _).alloc (Nat.le_refl _) _) b1 (by simp)
  clear hh hb
  go_wp2_with fail
  obtain ⟨cp, hcp⟩ : ∃ cp, cp = (Question.appendCap 1 0 9).cut (w1.tape w1.drawn (Question.appendCap 1 0 9)) := ⟨_, rfl⟩
  rw [← hcp]
  obtain ⟨C, hC⟩ : ∃ C, C = #[.string u] ++ Builtin.zeroCells #[.string ⟨#[]⟩] (cp - 1) := ⟨_, rfl⟩
  rw [← hC]
  have hC0 : C[0]? = some (.string u) := by rw [hC, Array.getElem?_append_left (by simp)]; rfl

  obtain ⟨W, hW⟩ : ∃ W, W = (w1.alloc (.cells C 9)).drew := ⟨_, rfl⟩
  have hWg : W.heap[w1.heap.size]? = some (.cells C 9 (0, 0)) := by rw [hW]; exact new_block0 _ _
  have bl : Below w.heap.size w W := by rw [hW]; exact (bl1.alloc bl1.size _).drew
  have hgg : w.heap.size ≤ w1.heap.size := bl1.size
  rw [← hW]
  obtain ⟨g, hg⟩ : ∃ g, g = w1.heap.size := ⟨_, rfl⟩
  rw [← hg] at hWg hgg ⊢
  have d0 := cellsAt hWg 0 _ hC0
  have Hg := Lib.hid hWg
  have HC0 := Lib.hid hC0
  skip
  clear hcp hC hW hWg hg c0 b1 bl1 hC0 
  go_wp2_with fail
  refine wp_loop_rounds 2 ?_
  rw [rounds_succ]
  go_wp2_with fail
  refine (HC'.out _).mono ?_
  rintro e w2 ⟨rfl, b2⟩
  have g2 := (b2.block g (lt_of_block Hg.out)).trans Hg.out
  clear d0
  have d0 := cellsAt g2 0 _ HC0.out
  have f0 := cellsFree g2 0
  have e2 := Lib.hid (set_cells g2 0 (.string U))
  replace bl := (blow_go bl b2).setCell (p := ⟨g, 0, none⟩) hgg (.string U)
  clear b2 g2
  have HD0 : Hid ((C.setIfInBounds 0 (.string U))[0]? = some (.string U)) := setAt HC0.out
  go_wp2_with fail
  rw [rounds_succ]
  go_wp2_with fail
  refine (HW'.out _ _ _ _ (by omega) (cellsAt e2.out 0 _ HD0.out)).mono ?_
  rintro e w9 ⟨rfl, b9⟩
  have bl9 := blow_go bl b9
  go_wp2_with fail
  go_ret2
  exact ⟨rfl, bl9⟩
set_option maxHeartbeats 2000000 in
theorem cn_2 (s L u v U L2 R V L3 : ByteArray) (HB : ∀ w, Calls Tryz.prog 124 #[.string s] w fun e w' => e = .returned (.tuple #[.int .u8 0, .bool false]) ∧ w = w') (HP : ∀ w, Calls Tryz.prog 101 #[.string s] w fun e w' => ∃ b, e = .returned (.slice (some ⟨b, 0, none⟩) 2 2) ∧ w.heap.size ≤ b ∧ w'.heap[b]? = some (.cells #[.string u, .string v] 9 (0, 0)) ∧ Below w.heap.size w w') (HC : ∀ w, Calls Tryz.prog 67 #[.string u, .string L] w fun e w' => e = .returned (.tuple #[.string U, .string L2]) ∧ Below w.heap.size w w') (HC2 : ∀ w, Calls Tryz.prog 67 #[.string v, .string L2] w fun e w' => e = .returned (.tuple #[.string V, .string L3]) ∧ Below w.heap.size w w') (HW : ∀ (g n cap : Nat) (w : World), 2 ≤ n → w.cell? ⟨g, 0, none⟩ = some (.string U) → w.cell? ⟨g, 1, none⟩ = some (.string V) → Calls Tryz.prog 128 #[.string s, .slice (some ⟨g, 0, none⟩) n cap] w fun e w' => e = .returned (.string R) ∧ Below w.heap.size w w') (w : World) :
    Calls Tryz.prog 67 #[.string s, .string L] w fun e w' => e = .returned (.tuple #[.string R, .string L3]) ∧ Below w.heap.size w w' := by
  have HB' := Lib.hid HB
  have HP' := Lib.hid HP
  have HC' := Lib.hid HC
  have HC2' := Lib.hid HC2
  have HW' := Lib.hid HW
  clear HB HP HC HC2 HW
  obtain ⟨i0, hi, hz0, hz1, hz2⟩ := info_parts Tryz.infoS
  go_enter Tryz.func67, Tryz.ntmps67
  go_wp2_with fail
  refine (HB'.out _).mono ?_
  rintro e w0 ⟨rfl, rfl⟩
  go_wp2_with fail
  refine (HP'.out _).mono ?_
  rintro e w1 ⟨b, rfl, hb, hh, b1⟩
  have c0 := cellOf2a hh
  have c1 := cellOf2b hh
  have bl1 := below_trans ((Below.refl _ _).alloc (Nat.le_refl _) _) b1 (by simp)
  clear hh hb
  go_wp2_with fail
  obtain ⟨cp, hcp⟩ : ∃ cp, cp = (Question.appendCap 2 0 9).cut (w1.tape w1.drawn (Question.appendCap 2 0 9)) := ⟨_, rfl⟩
  rw [← hcp]
  obtain ⟨C, hC⟩ : ∃ C, C = #[.string u, .string v] ++ Builtin.zeroCells #[.string ⟨#[]⟩] (cp - 2) := ⟨_, rfl⟩
  rw [← hC]
  have hC0 : C[0]? = some (.string u) := by rw [hC, Array.getElem?_append_left (by simp)]; rfl
  have hC1 : C[1]? = some (.string v) := by rw [hC, Array.getElem?_append_left (by simp)]; rfl
  obtain ⟨W, hW⟩ : ∃ W, W = (w1.alloc (.cells C 9)).drew := ⟨_, rfl⟩
  have hWg : W.heap[w1.heap.size]? = some (.cells C 9 (0, 0)) := by rw [hW]; exact new_block0 _ _
  have bl : Below w.heap.size w W := by rw [hW]; exact (bl1.alloc bl1.size _).drew
  have hgg : w.heap.size ≤ w1.heap.size := bl1.size
  rw [← hW]
  obtain ⟨g, hg⟩ : ∃ g, g = w1.heap.size := ⟨_, rfl⟩
  rw [← hg] at hWg hgg ⊢
  have d0 := cellsAt hWg 0 _ hC0
  have Hg := Lib.hid hWg
  have HC0 := Lib.hid hC0
  have HC1 := Lib.hid hC1
  clear hcp hC hW hWg hg c0 b1 bl1 hC0 hC1
  go_wp2_with fail
  refine wp_loop_rounds 3 ?_
  rw [rounds_succ]
  go_wp2_with fail
  refine (HC'.out _).mono ?_
  rintro e w2 ⟨rfl, b2⟩
  have g2 := (b2.block g (lt_of_block Hg.out)).trans Hg.out
  clear d0
  have d0 := cellsAt g2 0 _ HC0.out
  have f0 := cellsFree g2 0
  have e2 := Lib.hid (set_cells g2 0 (.string U))
  replace bl := (blow_go bl b2).setCell (p := ⟨g, 0, none⟩) hgg (.string U)
  clear b2 g2
  have HD1 : Hid ((C.setIfInBounds 0 (.string U))[1]? = some (.string v)) := by show _ = _; rw [Array.getElem?_setIfInBounds_ne (by decide)]; exact HC1.out
  have HD0 : Hid ((C.setIfInBounds 0 (.string U))[0]? = some (.string U)) := setAt HC0.out
  have x1 := cellsAt e2.out 1 _ HD1.out
  go_wp2_with fail
  rw [rounds_succ]
  go_wp2_with fail
  refine (HC2'.out _).mono ?_
  rintro e w3 ⟨rfl, b3⟩
  have g3 := (b3.block g (lt_of_block e2.out)).trans e2.out
  clear d0 f0 x1
  have d1 := cellsAt g3 1 _ HD1.out
  have f1 := cellsFree g3 1
  have e3 := Lib.hid (set_cells g3 1 (.string V))
  replace bl := (blow_go bl b3).setCell (p := ⟨g, 1, none⟩) hgg (.string V)
  clear b3 g3
  have HE0 : Hid (((C.setIfInBounds 0 (.string U)).setIfInBounds 1 (.string V))[0]? = some (.string U)) := by show _ = _; rw [Array.getElem?_setIfInBounds_ne (by decide)]; exact HD0.out
  have HE1 : Hid (((C.setIfInBounds 0 (.string U)).setIfInBounds 1 (.string V))[1]? = some (.string V)) := setAt HD1.out
  go_wp2_with fail
  rw [rounds_succ]
  go_wp2_with fail
  refine (HW'.out _ _ _ _ (by omega) (cellsAt e3.out 0 _ HE0.out) (cellsAt e3.out 1 _ HE1.out)).mono ?_
  rintro e w9 ⟨rfl, b9⟩
  have bl9 := blow_go bl b9
  go_wp2_with fail
  go_ret2
  exact ⟨rfl, bl9⟩

end Go.Proofs.YtmfmagfgcdaeeaaGreat.T1

/- Canonical names in the specification, for every process. -/
namespace Go.Proofs.YtmfmagfgcdaeeaaGreat.T1
open Go.RowKit
set_option maxRecDepth 100000
set_option linter.unusedVariables false
set_option linter.unusedSimpArgs false

theorem canS_len (n : Nat) : ∀ (t : Tm) (l : List UInt8), (canS n t l).2.length ≤ max 1 l.length + t.size ∧ (canS n t l).1.pr.length = t.pr.length ∧ (canS n t l).1.size = t.size := by
  induction n with
  | zero => intro t l; exact ⟨by simp only [canS]; omega, rfl, rfl⟩
  | succ n ih =>
    intro t l
    have ha := fun c => addL_len c l
    cases t with
    | nil => simp only [canS]; exact ⟨by omega, by simp, by simp⟩
    | sum p q =>
      have h1 := ih p l; have h2 := ih q (canS n p l).2
      simp only [canS, Tm.pr, Tm.size, List.length_cons, List.length_append]; omega
    | par p q =>
      have h1 := ih p l; have h2 := ih q (canS n p l).2
      simp only [canS, Tm.pr, Tm.size, List.length_cons, List.length_append]; omega
    | rcv a x p =>
      have h1 := ih (R p x (fresh l)) (addL l (fresh l))
      have h2 := ha (fresh l)
      rw [R_size, R_len] at h1
      simp only [canS, Tm.size]
      split
      · simp [Tm.size]; omega
      · simp only [Tm.pr, Tm.size, List.length_cons]; omega
    | own x p =>
      have h1 := ih (R p x (fresh l)) (addL l (fresh l))
      have h2 := ha (fresh l)
      rw [R_size, R_len] at h1
      simp only [canS, Tm.size]
      split
      · simp [Tm.size]; omega
      · simp only [Tm.pr, Tm.size, List.length_cons]; omega
    | snd a b p => have h1 := ih p l; simp only [canS, Tm.pr, Tm.size, List.length_cons]; omega
    | mat a b p => have h1 := ih p l; simp only [canS, Tm.pr, Tm.size, List.length_cons]; omega
    | tau p => have h1 := ih p l; simp only [canS, Tm.pr, Tm.size, List.length_cons]; omega
    | rep p => have h1 := ih p l; simp only [canS, Tm.pr, Tm.size, List.length_cons]; omega

set_option maxHeartbeats 4000000 in
theorem tmCanonical_any (n : Nat) : ∀ (t : Tm) (l : List UInt8), t.size ≤ n → t.ok nmE = true → t.pr.length ≤ 700 → max 1 l.length + t.size ≤ 1000 → ∀ w, Calls Tryz.prog 67 #[.string (S t), .string (B l)] w fun e w' => e = .returned (.tuple #[.string (S (canS n t l).1), .string (B (canS n t l).2)]) ∧ Below w.heap.size w w' := by
  induction n with
  | zero => intro t l h; have := size_pos t; omega
  | succ n ih =>
    intro t l hn ht hl hll w
    have hH := tmHead_any t ht hl
    have hB := tmBinds_any t ht hl
    have hK := tmKind_any t ht hl
    have hP := tmParts_any t ht hl
    have hs3 : (S t).size ≤ 700 := by rw [S_size]; exact hl
    have hFS := fun w => tmFresh_exact (B l) (by rw [B_size]; omega) w
    rw [B_list] at hFS
    have hAd := fun w => tmAdd_any (B l) (fresh l) (by rw [B_size]; omega) w
    rw [B_list] at hAd
    cases t with
    | nil => exact cn_0 _ _ hB hP (fun v => tw_nil _ v hK) w
    | snd a b p =>
      simp only [Tm.size] at hn hll
      have ht0 := ht
      have hlp : p.pr.length ≤ (Tm.pr (.snd a b p)).length := by simp [Tm.pr]; try omega
      simp only [Tm.ok, Bool.and_eq_true] at ht
      have hC := ih p l (by omega) ht.2 (by omega) (by omega)
      have hc := canS_len n p l
      simp only [canS]
      obtain ⟨r, hr⟩ : ∃ r, r = (canS n p l).1 := ⟨_, rfl⟩
      rw [← hr] at hC hc ⊢
      exact cn_1 _ _ _ _ _ _ hB hP hC (fun g n cap w hn c0 => tmWith_1 (.snd a b p) p r rfl ht0 hl (by omega) g n cap w hn c0) w
    | mat a b p =>
      simp only [Tm.size] at hn hll
      have ht0 := ht
      have hlp : p.pr.length ≤ (Tm.pr (.mat a b p)).length := by simp [Tm.pr]; try omega
      simp only [Tm.ok, Bool.and_eq_true] at ht
      have hC := ih p l (by omega) ht.2 (by omega) (by omega)
      have hc := canS_len n p l
      simp only [canS]
      obtain ⟨r, hr⟩ : ∃ r, r = (canS n p l).1 := ⟨_, rfl⟩
      rw [← hr] at hC hc ⊢
      exact cn_1 _ _ _ _ _ _ hB hP hC (fun g n cap w hn c0 => tmWith_1 (.mat a b p) p r rfl ht0 hl (by omega) g n cap w hn c0) w
    | tau p =>
      simp only [Tm.size] at hn hll
      have ht0 := ht
      have hlp : p.pr.length ≤ (Tm.pr (.tau p)).length := by simp [Tm.pr]; try omega
      simp only [Tm.ok, Bool.and_eq_true] at ht
      have hC := ih p l (by omega) ht (by omega) (by omega)
      have hc := canS_len n p l
      simp only [canS]
      obtain ⟨r, hr⟩ : ∃ r, r = (canS n p l).1 := ⟨_, rfl⟩
      rw [← hr] at hC hc ⊢
      exact cn_1 _ _ _ _ _ _ hB hP hC (fun g n cap w hn c0 => tmWith_1 (.tau p) p r rfl ht0 hl (by omega) g n cap w hn c0) w
    | rep p =>
      simp only [Tm.size] at hn hll
      have ht0 := ht
      have hlp : p.pr.length ≤ (Tm.pr (.rep p)).length := by simp [Tm.pr]; try omega
      simp only [Tm.ok, Bool.and_eq_true] at ht
      have hC := ih p l (by omega) ht (by omega) (by omega)
      have hc := canS_len n p l
      simp only [canS]
      obtain ⟨r, hr⟩ : ∃ r, r = (canS n p l).1 := ⟨_, rfl⟩
      rw [← hr] at hC hc ⊢
      exact cn_1 _ _ _ _ _ _ hB hP hC (fun g n cap w hn c0 => tmWith_1 (.rep p) p r rfl ht0 hl (by omega) g n cap w hn c0) w
    | sum p q =>
      simp only [Tm.size] at hn hll
      have ht0 := ht
      have hlp : p.pr.length + q.pr.length ≤ (Tm.pr (.sum p q)).length := by simp [Tm.pr]; omega
      simp only [Tm.ok, Bool.and_eq_true] at ht
      have hc := canS_len n p l
      have hC := ih p l (by omega) ht.1 (by omega) (by omega)
      have hC2 := ih q (canS n p l).2 (by omega) ht.2 (by omega) (by omega)
      have hc2 := canS_len n q (canS n p l).2
      simp only [canS]
      obtain ⟨r2, hr2⟩ : ∃ r, r = (canS n q (canS n p l).2).1 := ⟨_, rfl⟩
      rw [← hr2] at hC2 hc2 ⊢
      obtain ⟨r, hr⟩ : ∃ r, r = (canS n p l).1 := ⟨_, rfl⟩
      rw [← hr] at hC hc ⊢
      exact cn_2 _ _ _ _ _ _ _ _ _ hB hP hC hC2 (fun g n cap w hn c0 c1 => tmWith_2 (.sum p q) p q r r2 rfl ht0 hl (by omega) (by omega) g n cap w hn c0 c1) w
    | par p q =>
      simp only [Tm.size] at hn hll
      have ht0 := ht
      have hlp : p.pr.length + q.pr.length ≤ (Tm.pr (.par p q)).length := by simp [Tm.pr]; omega
      simp only [Tm.ok, Bool.and_eq_true] at ht
      have hc := canS_len n p l
      have hC := ih p l (by omega) ht.1 (by omega) (by omega)
      have hC2 := ih q (canS n p l).2 (by omega) ht.2 (by omega) (by omega)
      have hc2 := canS_len n q (canS n p l).2
      simp only [canS]
      obtain ⟨r2, hr2⟩ : ∃ r, r = (canS n q (canS n p l).2).1 := ⟨_, rfl⟩
      rw [← hr2] at hC2 hc2 ⊢
      obtain ⟨r, hr⟩ : ∃ r, r = (canS n p l).1 := ⟨_, rfl⟩
      rw [← hr] at hC hc ⊢
      exact cn_2 _ _ _ _ _ _ _ _ _ hB hP hC hC2 (fun g n cap w hn c0 c1 => tmWith_2 (.par p q) p q r r2 rfl ht0 hl (by omega) (by omega) g n cap w hn c0 c1) w
    | rcv a x p =>
      simp only [Tm.size] at hn hll
      have hlp : p.pr.length + 4 = (Tm.pr (.rcv a x p)).length := by simp [Tm.pr]
      simp only [Tm.ok, Bool.and_eq_true] at ht
      simp only [canS]
      by_cases hbig : 122 < (fresh l).toNat
      · rw [if_pos hbig]
        exact cb_no _ _ x _ (by omega) hB hFS w
      · rw [if_neg hbig]
        have hx' : (S (.rcv a x p)).extract 4 (S (.rcv a x p)).size = S p := S_sub (.rcv a x p) p rfl
        have hR := tmRename_any p.size p x (fresh l) (Nat.le_refl _) ht.2 (by omega) (fresh_nm _)
        rw [← hx'] at hR
        have hal := addL_len (fresh l) l
        have hC := ih (R p x (fresh l)) (addL l (fresh l)) (by rw [R_size]; omega) (R_okE _ _ ht.2 (fresh_nm _)) (by rw [R_len]; omega) (by rw [R_size]; omega)
        have hc := canS_len n (R p x (fresh l)) (addL l (fresh l))
        rw [R_len] at hc
        obtain ⟨y, hy⟩ : ∃ y, y = fresh l := ⟨_, rfl⟩
        rw [← hy] at hR hC hc hFS hAd hbig ⊢
        obtain ⟨r, hr⟩ : ∃ r, r = (canS n (R p x y) (addL l y)).1 := ⟨_, rfl⟩
        rw [← hr] at hC hc ⊢
        have := cb_R (S (.rcv a x p)) (B l) (B [a, 63, y, 46]) _ _ (S r) _ a x y (by rw [S_size]; omega) (by rw [S_size]; omega) hs3 (by omega) (head_l (.rcv a x p) 4 _ rfl) rfl hB hFS hH hR hAd hC hK w
        rw [B_S _ _ (.rcv a y r) rfl] at this
        exact this
    | own x p =>
      simp only [Tm.size] at hn hll
      have hlp : p.pr.length + 3 = (Tm.pr (.own x p)).length := by simp [Tm.pr]
      simp only [Tm.ok, Bool.and_eq_true] at ht
      simp only [canS]
      by_cases hbig : 122 < (fresh l).toNat
      · rw [if_pos hbig]
        exact cb_no _ _ x _ (by omega) hB hFS w
      · rw [if_neg hbig]
        have hx' : (S (.own x p)).extract 3 (S (.own x p)).size = S p := S_sub (.own x p) p rfl
        have hR := tmRename_any p.size p x (fresh l) (Nat.le_refl _) ht.2 (by omega) (fresh_nm _)
        rw [← hx'] at hR
        have hal := addL_len (fresh l) l
        have hC := ih (R p x (fresh l)) (addL l (fresh l)) (by rw [R_size]; omega) (R_okE _ _ ht.2 (fresh_nm _)) (by rw [R_len]; omega) (by rw [R_size]; omega)
        have hc := canS_len n (R p x (fresh l)) (addL l (fresh l))
        rw [R_len] at hc
        obtain ⟨y, hy⟩ : ∃ y, y = fresh l := ⟨_, rfl⟩
        rw [← hy] at hR hC hc hFS hAd hbig ⊢
        obtain ⟨r, hr⟩ : ∃ r, r = (canS n (R p x y) (addL l y)).1 := ⟨_, rfl⟩
        rw [← hr] at hC hc ⊢
        have := cb_O (S (.own x p)) (B l) (B [35, y, 46]) _ _ (S r) _ x y (by rw [S_size]; omega) (by rw [S_size]; omega) hs3 (by omega) (head_l (.own x p) 3 _ rfl) rfl hB hFS hH hR hAd hC hK w
        rw [B_S _ _ (.own y r) rfl] at this
        exact this

end Go.Proofs.YtmfmagfgcdaeeaaGreat.T1

/- What CanonicalNames answers on both sides. No conditions. -/
namespace Go.Proofs.YtmfmagfgcdaeeaaGreat
namespace LawCanonicalNames
open Go.ChangeShapes Go.WideShapes Go.ChangeAt Go.RowKit Go.Proofs.YtmfmagfgcdaeeaaGreat.T1
open Go.ChangeMaps (open_string shut_string)
set_option linter.unusedVariables false

theorem blw {u v w : World} (h : Below u.heap.size u v) (k : Below v.heap.size v w) : Below u.heap.size u w := below_trans h k h.size
/-- A slice of names in some block. -/
def NmX (w : World) (v : Value) (ns : List UInt8) : Prop := ∃ g, g ≤ w.heap.size ∧ NmS w g v ns
theorem NmX.below {w w' : World} {v : Value} {ns : List UInt8} (h : NmX w v ns) (k : Below w.heap.size w w') : NmX w' v ns := by
  obtain ⟨g, h1, h2⟩ := h
  exact ⟨g, Nat.le_trans h1 k.size, h2.below k⟩
theorem nm_of_row {w : World} {base : Nat} {v : Value} {ns : List UInt8} (h : w.ownsRow base 5 1 v ns.length (ns.map ub)) : ∃ a c, v = .slice a ns.length c ∧ NmX w v ns := by
  rcases h.2 with ⟨rfl, h4⟩ | ⟨g, cap, cur, rfl, h4, h5⟩
  · have hl : ns = [] := List.length_eq_zero_iff.1 h4
    subst hl
    exact ⟨_, _, rfl, 0, Nat.zero_le _, ⟨⟨_, _, rfl, by simp, fun h => absurd rfl h⟩⟩⟩
  · refine ⟨_, _, rfl, ?_⟩
    cases hns : ns with
    | nil => exact ⟨0, Nat.zero_le _, ⟨⟨_, _, rfl, by simp, fun h => absurd rfl h⟩⟩⟩
    | cons n0 r =>
      rw [← hns]
      have hc : ∀ j (hj : j < ns.length), w.cell? ⟨g, j, none⟩ = some (.int .u8 (ns[j].toNat : Int)) := fun j hj => by
        rw [h.cellAt j (by omega)]; simp [ub, hj]
      have hpos : 0 < ns.length := by rw [hns]; simp
      refine ⟨g, Nat.le_of_lt (lt_cell (hc 0 hpos)), ⟨⟨_, _, rfl, h5.2.1, fun _ => ⟨0, rfl, fun j hj => by rw [Nat.zero_add]; exact hc j hj⟩⟩⟩⟩
set_option maxHeartbeats 2000000 in
theorem s_no (s : ByteArray) (F X L : ByteArray) (G1 : ∀ w, Calls Tryz.prog 66 #[.string s] w fun e w' => e = .returned (.bool true) ∧ Below w.heap.size w w') (HF : ∀ w, Calls Tryz.prog 68 #[.string s] w fun e w' => e = .returned (.string F) ∧ Below w.heap.size w w') (HT : ∀ w, Calls Tryz.prog 67 #[.string s, .string F] w fun e w' => e = .returned (.tuple #[.string X, .string L]) ∧ Below w.heap.size w w') (HI : ∀ w, Calls Tryz.prog 69 #[.string L, .int .u8 0] w fun e w' => e = .returned (.bool true) ∧ w = w') (w : World) : Calls Tryz.prog 10 #[.string s] w fun e w' => e = .returned (.tuple #[.string ⟨#[]⟩, .bool false]) ∧ Below w.heap.size w w' := by
  have G1' := Lib.hid G1
  have HF' := Lib.hid HF
  have HT' := Lib.hid HT
  have HI' := Lib.hid HI
  clear G1 HF HT HI
  go_enter Tryz.func10, Tryz.ntmps10
  go_wp2_with fail
  refine (G1'.out _).mono ?_
  rintro e w1 ⟨rfl, b1⟩
  go_wp2_with fail
  refine (HF'.out _).mono ?_
  rintro e w2 ⟨rfl, b2⟩
  have bl2 := blw b1 b2
  go_wp2_with fail
  refine (HT'.out _).mono ?_
  rintro e w3 ⟨rfl, b3⟩
  have bl3 := blw bl2 b3
  go_wp2_with fail
  refine (HI'.out _).mono ?_
  rintro e w4 ⟨rfl, rfl⟩
  go_wp2_with fail
  go_ret2
  exact ⟨rfl, bl3⟩
set_option maxHeartbeats 2000000 in
theorem s_yes (s : ByteArray) (F X L Y : ByteArray) (y : Bool) (G1 : ∀ w, Calls Tryz.prog 66 #[.string s] w fun e w' => e = .returned (.bool true) ∧ Below w.heap.size w w') (HF : ∀ w, Calls Tryz.prog 68 #[.string s] w fun e w' => e = .returned (.string F) ∧ Below w.heap.size w w') (HT : ∀ w, Calls Tryz.prog 67 #[.string s, .string F] w fun e w' => e = .returned (.tuple #[.string X, .string L]) ∧ Below w.heap.size w w') (HI : ∀ w, Calls Tryz.prog 69 #[.string L, .int .u8 0] w fun e w' => e = .returned (.bool false) ∧ w = w') (HY : ∀ w, Calls Tryz.prog 70 #[.string X] w fun e w' => e = .returned (.tuple #[.string Y, .bool y]) ∧ Below w.heap.size w w') (w : World) : Calls Tryz.prog 10 #[.string s] w fun e w' => e = .returned (.tuple #[.string Y, .bool y]) ∧ Below w.heap.size w w' := by
  have G1' := Lib.hid G1
  have HF' := Lib.hid HF
  have HT' := Lib.hid HT
  have HI' := Lib.hid HI
  have HY' := Lib.hid HY
  clear G1 HF HT HI HY
  go_enter Tryz.func10, Tryz.ntmps10
  go_wp2_with fail
  refine (G1'.out _).mono ?_
  rintro e w1 ⟨rfl, b1⟩
  go_wp2_with fail
  refine (HF'.out _).mono ?_
  rintro e w2 ⟨rfl, b2⟩
  have bl2 := blw b1 b2
  go_wp2_with fail
  refine (HT'.out _).mono ?_
  rintro e w3 ⟨rfl, b3⟩
  have bl3 := blw bl2 b3
  go_wp2_with fail
  refine (HI'.out _).mono ?_
  rintro e w4 ⟨rfl, rfl⟩
  go_wp2_with fail
  refine (HY'.out _).mono ?_
  rintro e w5 ⟨rfl, b5⟩
  have bl5 := blw bl3 b5
  go_wp2_with fail
  go_ret2
  exact ⟨rfl, bl5⟩
set_option maxHeartbeats 2000000 in
theorem i_no (s : ByteArray) (T : TypeId) (V : Value) (Fi : Int) (K : Nat) (ns : List UInt8) (hK : ns.length < K) (hK2 : K ≤ 1000) (G1 : ∀ w, Calls Tryz.prog 59 #[.string s] w fun e w' => e = .returned (.tuple #[.iface T V, .bool true]) ∧ Below w.heap.size w w') (HF : ∀ w, Calls Tryz.prog 60 #[.iface T V] w fun e w' => e = .returned (.int .u32 Fi) ∧ Below w.heap.size w w') (HO : ∀ w, Calls Tryz.prog 61 #[.int .u32 Fi] w fun e w' => ∃ a c, e = .returned (.slice a ns.length c) ∧ NmX w' (.slice a ns.length c) ns ∧ Below w.heap.size w w') (HB : ∀ w, Calls Tryz.prog 62 #[.iface T V] w fun e w' => e = .returned (.int .i64 (K : Int)) ∧ Below w.heap.size w w') (w : World) : Calls Tryz.prog 9 #[.string s] w fun e w' => e = .returned (.tuple #[.string ⟨#[]⟩, .bool false]) ∧ Below w.heap.size w w' := by
  have G1' := Lib.hid G1
  have HF' := Lib.hid HF
  have HO' := Lib.hid HO
  have HB' := Lib.hid HB
  clear G1 HF HO HB
  go_enter Tryz.func9, Tryz.ntmps9
  go_wp2_with fail
  refine (G1'.out _).mono ?_
  rintro e w1 ⟨rfl, b1⟩
  go_wp2_with fail
  refine (HF'.out _).mono ?_
  rintro e w2 ⟨rfl, b2⟩
  have bl2 := blw b1 b2
  go_wp2_with fail
  refine (HO'.out _).mono ?_
  rintro e w3 ⟨a, c, rfl, nx, b3⟩
  have bl3 := blw bl2 b3
  go_wp2_with fail
  refine (HB'.out _).mono ?_
  rintro e w4 ⟨rfl, b4⟩
  have bl4 := blw bl3 b4
  go_wp2_with fail
  go_ret2
  exact ⟨rfl, bl4⟩
set_option maxHeartbeats 2000000 in
theorem i_yes (s : ByteArray) (T T2 : TypeId) (V V2 : Value) (Fi : Int) (K : Nat) (ns : List UInt8) (hK : K ≤ ns.length) (hK2 : ns.length ≤ 1000) (Y : ByteArray) (G1 : ∀ w, Calls Tryz.prog 59 #[.string s] w fun e w' => e = .returned (.tuple #[.iface T V, .bool true]) ∧ Below w.heap.size w w') (HF : ∀ w, Calls Tryz.prog 60 #[.iface T V] w fun e w' => e = .returned (.int .u32 Fi) ∧ Below w.heap.size w w') (HO : ∀ w, Calls Tryz.prog 61 #[.int .u32 Fi] w fun e w' => ∃ a c, e = .returned (.slice a ns.length c) ∧ NmX w' (.slice a ns.length c) ns ∧ Below w.heap.size w w') (HB : ∀ w, Calls Tryz.prog 62 #[.iface T V] w fun e w' => e = .returned (.int .i64 (K : Int)) ∧ Below w.heap.size w w') (HS : ∀ w, Calls Tryz.prog 64 #[] w fun e w' => ∃ C, e = .returned (.agg C) ∧ ScOf C id ∧ Below w.heap.size w w') (HBI : ∀ C v w, ScOf C id → NmX w v ns → Calls Tryz.prog 63 #[.iface T V, .agg C, v] w fun e w' => ∃ v', e = .returned (.tuple #[.iface T2 V2, v']) ∧ Below w.heap.size w w') (HX : ∀ w, Calls Tryz.prog 65 #[.iface T2 V2] w fun e w' => e = .returned (.string Y) ∧ Below w.heap.size w w') (w : World) : Calls Tryz.prog 9 #[.string s] w fun e w' => e = .returned (.tuple #[.string Y, .bool true]) ∧ Below w.heap.size w w' := by
  have G1' := Lib.hid G1
  have HF' := Lib.hid HF
  have HO' := Lib.hid HO
  have HB' := Lib.hid HB
  have HS' := Lib.hid HS
  have HBI' := Lib.hid HBI
  have HX' := Lib.hid HX
  clear G1 HF HO HB HS HBI HX
  go_enter Tryz.func9, Tryz.ntmps9
  go_wp2_with fail
  refine (G1'.out _).mono ?_
  rintro e w1 ⟨rfl, b1⟩
  go_wp2_with fail
  refine (HF'.out _).mono ?_
  rintro e w2 ⟨rfl, b2⟩
  have bl2 := blw b1 b2
  go_wp2_with fail
  refine (HO'.out _).mono ?_
  rintro e w3 ⟨a, c, rfl, nx, b3⟩
  have bl3 := blw bl2 b3
  go_wp2_with fail
  refine (HB'.out _).mono ?_
  rintro e w4 ⟨rfl, b4⟩
  have bl4 := blw bl3 b4
  have NX := Lib.hid (nx.below b4)
  clear nx
  go_wp2_with fail
  refine (HS'.out _).mono ?_
  rintro e w5 ⟨C, rfl, hsc, b5⟩
  have HSC := Lib.hid hsc
  have bl5 := blw bl4 b5
  have NX5 := Lib.hid (NX.out.below b5)
  clear hsc
  go_wp2_with fail
  refine (HBI'.out _ _ _ HSC.out NX5.out).mono ?_
  rintro e w6 ⟨v6, rfl, b6⟩
  have bl6 := blw bl5 b6
  go_wp2_with fail
  refine (HX'.out _).mono ?_
  rintro e w7 ⟨rfl, b7⟩
  have bl7 := blw bl6 b7
  go_wp2_with fail
  go_ret2
  exact ⟨rfl, bl7⟩

set_option maxHeartbeats 1000000 in
theorem spec_none (s : ByteArray) (hg : good s.data.toList = none) (hm : s.size ≤ 9223372036854775807) (w : World) : Calls Tryz.prog 10 #[.string s] w fun e w' => e = .returned (.tuple #[.string ⟨#[]⟩, .bool false]) ∧ Below w.heap.size w w' := by
  have H := Lib.hid (tmGood_none hg w hm)
  clear hg
  go_enter Tryz.func10, Tryz.ntmps10
  go_wp2_with fail
  refine (H.out).mono ?_
  rintro e w1 ⟨rfl, bl⟩
  go_wp2_with fail
  go_ret2
  exact ⟨rfl, bl⟩
set_option maxHeartbeats 1000000 in
theorem impl_none (s : ByteArray) (hg : good s.data.toList = none) (hm : s.size ≤ 9223372036854775807) (w : World) : Calls Tryz.prog 9 #[.string s] w fun e w' => e = .returned (.tuple #[.string ⟨#[]⟩, .bool false]) ∧ Below w.heap.size w w' := by
  have H := Lib.hid (parse_none hg w hm)
  clear hg
  go_enter Tryz.func9, Tryz.ntmps9
  go_wp2_with fail
  refine (H.out).mono ?_
  rintro e w1 ⟨rfl, bl⟩
  go_wp2_with fail
  go_ret2
  exact ⟨rfl, bl⟩
theorem oth_len (l : List UInt8) : (othL l).length ≤ 26 := by
  unfold othL
  have := List.length_filter_le (fun c => decide (c ∉ l)) ((List.range 26).map fun i => UInt8.ofNat (97 + i))
  simpa using this
theorem free_len (t : Tm) (h : t.ok nmL = true) : t.free.length ≤ 26 := by
  have := srt_sub (srt_free t) lowL_srt (fun z hz => (mem_low z).2 (lets_free t h z hz))
  have h2 : lowL.length = 26 := by unfold lowL; simp
  omega
theorem bnd_lt (t : Tm) : t.bnd.length + 1 ≤ t.size := by
  induction t <;> simp_all [Tm.bnd, Tm.size] <;> omega
theorem both (s : ByteArray) (hm : s.size ≤ 9223372036854775807) : ∃ (n : ByteArray) (b : Bool), (∀ w, Calls Tryz.prog 10 #[.string s] w fun e w' => e = .returned (.tuple #[.string n, .bool b]) ∧ Below w.heap.size w w') ∧ (∀ w, Calls Tryz.prog 9 #[.string s] w fun e w' => e = .returned (.tuple #[.string n, .bool b]) ∧ Below w.heap.size w w') := by
  cases hg : good s.data.toList with
  | none => exact ⟨_, _, spec_none s hg hm, impl_none s hg hm⟩
  | some t =>
    have h1 := fun w => tmGood_some hg w hm
    have h2 := fun w => parse_some hg w hm
    obtain ⟨es, hL, hE, h300, h60⟩ := good_S hg
    have hfl := free_len t hL
    have hbl := bnd_lt t
    have hF := tmFree_any t hE (by omega)
    have hT := tmCanonical_any t.size t t.free (Nat.le_refl _) hE (by omega) (by omega)
    have hk : Tk t t.free := ⟨srt_free t, fun z h => h, by omega⟩
    have hOT : ∀ w, Calls Tryz.prog 61 #[.int .u32 (setN t.free : Nat)] w fun e w' => ∃ a c, e = .returned (.slice a (othL t.free).length c) ∧ NmX w' (.slice a (othL t.free).length c) (othL t.free) ∧ Below w.heap.size w w' := fun w =>
      (others_set t.free (lets_free t hL) w).mono fun e w' ⟨v, h1, h2, h3⟩ => by
        obtain ⟨a, c, rfl, h4⟩ := nm_of_row h2
        exact ⟨a, c, h1, h4, h3⟩
    have hol := oth_len t.free
    have hlen := canS_len t.size t t.free
    have hIn : ∀ w, Calls Tryz.prog 69 #[.string (B (canS t.size t t.free).2), .int .u8 0] w fun e w' => e = .returned (.bool (decide (0 ∈ (canS t.size t t.free).2))) ∧ w = w' := fun w => by
      have h := tmIn_any (B (canS t.size t t.free).2) (((0 : UInt8).toNat : Nat) : Int) w (by rw [B_size]; omega)
      rw [inB_of, B_list] at h
      exact h
    rw [← es] at hT hF
    rcases Nat.lt_or_ge (othL t.free).length t.bnd.length with hlt | hge
    · have h0 := canS_no t.size t t.free (Nat.le_refl _) hk hlt
      rw [decide_eq_true h0] at hIn
      exact ⟨_, _, s_no s _ _ _ h1 hF hT hIn, i_no s _ _ _ _ _ hlt (by omega) h2 (freeNames_any t hL) hOT (bindersIn_any t (by omega))⟩
    · have hok := canS_ok t.size t t.free (Nat.le_refl _) hk hge
      have h0 : (0 : UInt8) ∉ (canS t.size t t.free).2 := by
        rw [hok]
        show (0 : UInt8) ∉ bothL t.free _
        rw [mem_bothL]
        rintro (h | h)
        · have := lets_free t hL 0 h; simp at this
        · have := (mem_oth _ _).1 (List.mem_of_mem_take h); simp at this
      rw [decide_eq_false h0] at hIn
      have hcl := can_len t id (othL t.free)
      have hcok : (can t id (othL t.free)).ok nmL = true := can_ok t id (othL t.free) (fun z hz => (nmL_iff z).2 (lets_free t hL z hz)) (fun z hz => (nmL_iff z).2 ((mem_oth _ z).1 hz).1) hge
      have hY := tmIf_any (can t id (othL t.free)) (ok_EL _ hcok) (by omega)
      have hokT : okT (can t id (othL t.free)) = true := (okT_iff _).2 ⟨hcok, by omega, by omega⟩
      rw [hokT, if_pos rfl] at hY
      rw [hok] at hT hIn
      have hX := textOf_any (can t id (othL t.free)) (by omega)
      exact ⟨_, _, s_yes s _ _ _ _ _ h1 hF hT hIn hY, i_yes s _ _ _ _ _ _ _ hge (by omega) _ h2 (freeNames_any t hL) hOT (bindersIn_any t (by omega)) (fun w => freeScope_any w) (fun C v w hsc ⟨g, hg, hn⟩ => (bindInOrder_any t id C _ v g w hL hsc hg hn hge).mono fun e w' ⟨v', h1, _, h3⟩ => ⟨v', h1, h3⟩) hX⟩
end LawCanonicalNames
end Go.Proofs.YtmfmagfgcdaeeaaGreat

/- What FreeNames answers on both sides. No conditions. -/
namespace Go.Proofs.YtmfmagfgcdaeeaaGreat
namespace LawFreeNames
open Go.ChangeShapes Go.WideShapes Go.ChangeAt Go.RowKit Go.Proofs.YtmfmagfgcdaeeaaGreat.T1
open Go.ChangeMaps (open_string shut_string)
set_option linter.unusedVariables false

theorem impl_none (s : ByteArray) (hg : good s.data.toList = none) (hm : s.size ≤ 9223372036854775807) (w : World) : Calls Tryz.prog 13 #[.string s] w fun e w' => e = .returned (.tuple #[.string ⟨#[]⟩, .bool false]) ∧ Below w.heap.size w w' := by
  have H := Lib.hid (parse_none hg w hm)
  clear hg
  go_enter Tryz.func13, Tryz.ntmps13
  go_wp2_with fail
  refine (H.out).mono ?_
  rintro e w1 ⟨rfl, bl⟩
  go_wp2_with fail
  go_ret2
  exact ⟨rfl, bl⟩
set_option maxHeartbeats 1000000 in
theorem impl_some (s : ByteArray) (t : Tm) (hg : good s.data.toList = some t) (hm : s.size ≤ 9223372036854775807) (w : World) : Calls Tryz.prog 13 #[.string s] w fun e w' => e = .returned (.tuple #[.string (B (t.free)), .bool true]) ∧ Below w.heap.size w w' := by
  have H := Lib.hid (parse_some hg w hm)
  obtain ⟨es, hL, hE, h300, h60⟩ := good_S hg
  have HS := freeNames_any t hL
  have HL := letters_any (setN (t.free)) (setN_lt32 _ (lets_free t hL))
  rw [lets_setN _ (srt_free t) (lets_free t hL)] at HL
  have HV : Hid (∀ (w1 : World) (b n : Nat) (v : Value), n = (t.free).length → w1.ownsRow b 5 1 v n ((t.free).map ub) → (convert 22 9 v).run Tryz.prog w1 = .ok (.string (B (t.free))) w1) := fun w1 b n v hn h => conv_rowE _ hn h
  obtain ⟨T, hT⟩ : ∃ T, T = tyOf t := ⟨_, rfl⟩
  obtain ⟨V, hV⟩ : ∃ V, V = pay t := ⟨_, rfl⟩
  obtain ⟨L, hLL⟩ : ∃ L, L = t.free := ⟨_, rfl⟩
  obtain ⟨N, hN⟩ : ∃ N, N = setN L := ⟨_, rfl⟩
  rw [← hT, ← hV] at H HS
  rw [← hLL] at HL HV HS ⊢
  rw [← hN] at HL HS
  obtain ⟨X, hX⟩ : ∃ X, X = B L := ⟨_, rfl⟩
  rw [← hX] at HV ⊢
  have H2 := Lib.hid HS
  have H3 := Lib.hid HL
  clear hg es hL hE h300 h60 HS HL hT hV hLL hN hX
  go_enter Tryz.func13, Tryz.ntmps13
  go_wp2_with fail
  refine (H.out).mono ?_
  rintro e w1 ⟨rfl, bl⟩
  go_wp2_with fail
  refine (H2.out _).mono ?_
  rintro e w2 ⟨rfl, b2⟩
  have bl2 := below_trans bl b2 bl.size
  go_wp2_with fail
  refine (H3.out _).mono ?_
  rintro e w3 ⟨v3, rfl, ho, b3⟩
  have bl3 := below_trans bl2 b3 bl2.size
  have hcv := HV.out w3 _ _ v3 rfl ho
  clear ho
  go_wp2_with fail
  go_ret2
  exact ⟨rfl, bl3⟩
end LawFreeNames
end Go.Proofs.YtmfmagfgcdaeeaaGreat

/- What canonical names, likeness and congruence answer, as values. No conditions. -/
namespace Go.Proofs.YtmfmagfgcdaeeaaGreat.T1
open Go.RowKit
set_option maxRecDepth 100000
set_option linter.unusedVariables false
set_option linter.unusedSimpArgs false

def AnsJ (F : FuncId) (args : Array Value) (v : Value) : Prop := ∀ w, Calls Tryz.prog F args w fun e w' => e = .returned v ∧ Below w.heap.size w w'
/-- Canonical names there are: letters enough that are not free. -/
def canB (t : Tm) : Bool := decide (t.bnd.length ≤ (othL t.free).length)
def cnT : Option Tm → ByteArray | some t => if canB t then S (cano t) else ⟨#[]⟩ | none => ⟨#[]⟩
def cnB : Option Tm → Bool | some t => canB t | none => false
def wnJ : Option Tm → Bool | some t => decide t.wellN | none => false
open LawCanonicalNames in
theorem canoJ (s : ByteArray) (hm : s.size ≤ 9223372036854775807) : AnsJ 10 #[.string s] (.tuple #[.string (cnT (good s.data.toList)), .bool (cnB (good s.data.toList))]) ∧ AnsJ 9 #[.string s] (.tuple #[.string (cnT (good s.data.toList)), .bool (cnB (good s.data.toList))]) := by
  cases hg : good s.data.toList with
  | none => exact ⟨spec_none s hg hm, impl_none s hg hm⟩
  | some t =>
    have h1 := fun w => tmGood_some hg w hm
    have h2 := fun w => parse_some hg w hm
    obtain ⟨es, hL, hE, h300, h60⟩ := good_S hg
    have hfl := free_len t hL
    have hbl := bnd_lt t
    have hF := tmFree_any t hE (by omega)
    have hT := tmCanonical_any t.size t t.free (Nat.le_refl _) hE (by omega) (by omega)
    have hk : Tk t t.free := ⟨srt_free t, fun z h => h, by omega⟩
    have hOT : ∀ w, Calls Tryz.prog 61 #[.int .u32 (setN t.free : Nat)] w fun e w' => ∃ a c, e = .returned (.slice a (othL t.free).length c) ∧ NmX w' (.slice a (othL t.free).length c) (othL t.free) ∧ Below w.heap.size w w' := fun w =>
      (others_set t.free (lets_free t hL) w).mono fun e w' ⟨v, h1, h2, h3⟩ => by
        obtain ⟨a, c, rfl, h4⟩ := nm_of_row h2
        exact ⟨a, c, h1, h4, h3⟩
    have hol := oth_len t.free
    have hlen := canS_len t.size t t.free
    have hIn : ∀ w, Calls Tryz.prog 69 #[.string (B (canS t.size t t.free).2), .int .u8 0] w fun e w' => e = .returned (.bool (decide (0 ∈ (canS t.size t t.free).2))) ∧ w = w' := fun w => by
      have h := tmIn_any (B (canS t.size t t.free).2) (((0 : UInt8).toNat : Nat) : Int) w (by rw [B_size]; omega)
      rw [inB_of, B_list] at h
      exact h
    rw [← es] at hT hF
    rcases Nat.lt_or_ge (othL t.free).length t.bnd.length with hlt | hge
    · have h0 := canS_no t.size t t.free (Nat.le_refl _) hk hlt
      rw [decide_eq_true h0] at hIn
      have hc : canB t = false := decide_eq_false (by omega)
      simp only [cnT, cnB, hc, Bool.false_eq_true, if_false]
      exact ⟨s_no s _ _ _ h1 hF hT hIn, i_no s _ _ _ _ _ hlt (by omega) h2 (freeNames_any t hL) hOT (bindersIn_any t (by omega))⟩
    · have hok := canS_ok t.size t t.free (Nat.le_refl _) hk hge
      have hc : canB t = true := decide_eq_true hge
      simp only [cnT, cnB, hc, if_true]
      have h0 : (0 : UInt8) ∉ (canS t.size t t.free).2 := by
        rw [hok]
        show (0 : UInt8) ∉ bothL t.free _
        rw [mem_bothL]
        rintro (h | h)
        · have := lets_free t hL 0 h; simp at this
        · have := (mem_oth _ _).1 (List.mem_of_mem_take h); simp at this
      rw [decide_eq_false h0] at hIn
      have hcl := can_len t id (othL t.free)
      have hcok : (can t id (othL t.free)).ok nmL = true := can_ok t id (othL t.free) (fun z hz => (nmL_iff z).2 (lets_free t hL z hz)) (fun z hz => (nmL_iff z).2 ((mem_oth _ z).1 hz).1) hge
      have hY := tmIf_any (can t id (othL t.free)) (ok_EL _ hcok) (by omega)
      have hokT : okT (can t id (othL t.free)) = true := (okT_iff _).2 ⟨hcok, by omega, by omega⟩
      rw [hokT, if_pos rfl] at hY
      rw [hok] at hT hIn
      have hX := textOf_any (can t id (othL t.free)) (by omega)
      exact ⟨s_yes s _ _ _ _ _ h1 hF hT hIn hY, i_yes s _ _ _ _ _ _ _ hge (by omega) _ h2 (freeNames_any t hL) hOT (bindersIn_any t (by omega)) (fun w => freeScope_any w) (fun C v w hsc ⟨g, hg, hn⟩ => (bindInOrder_any t id C _ v g w hL hsc hg hn hge).mono fun e w' ⟨v', h1, _, h3⟩ => ⟨v', h1, h3⟩) hX⟩
/-- The process with canonical names, read again. -/
theorem cano_good {s : ByteArray} {t : Tm} (hg : good s.data.toList = some t) (hc : canB t = true) : good (S (cano t)).data.toList = some (cano t) ∧ (S (cano t)).size ≤ 300 := by
  obtain ⟨es, hL, hE, h300, h60⟩ := good_S hg
  have hge : t.bnd.length ≤ (othL t.free).length := of_decide_eq_true hc
  have hcl := can_len t id (othL t.free)
  have hcok : (can t id (othL t.free)).ok nmL = true := can_ok t id (othL t.free) (fun z hz => (nmL_iff z).2 (lets_free t hL z hz)) (fun z hz => (nmL_iff z).2 ((mem_oth _ z).1 hz).1) hge
  have hl : (S (cano t)).data.toList = (cano t).pr := by simp [S]
  have hc1 : (cano t).pr.length = t.pr.length := hcl.1
  have hc2 : (cano t).size = t.size := hcl.2.1
  refine ⟨by rw [hl]; exact good_of hcok (by omega) (by omega), by rw [S_size]; omega⟩
theorem marks_nd : marks.Nodup := by have := marks_mk.nd; simpa using this
theorem marks_no {t : Tm} (hL : t.ok nmL = true) : ∀ z, z ∈ t.free → z ∉ marks := fun z hz h => by
  have h1 := lets_free t hL z hz
  have h2 := marks_mk.hi z (by simpa using h)
  omega
theorem canB_cano {t : Tm} (hc : canB t = true) : canB (cano t) = true := by
  have hge : t.bnd.length ≤ (othL t.free).length := of_decide_eq_true hc
  refine decide_eq_true ?_
  rw [cano_free hge, cano_well hge, List.length_take]; omega
theorem well_cano {t : Tm} (hc : canB t = true) : (cano t).wellN := by
  have hge : t.bnd.length ≤ (othL t.free).length := of_decide_eq_true hc
  refine ⟨?_, fun x hx => ?_⟩
  · rw [cano_well hge]; exact (oth_nd _).sublist (List.take_sublist _ _)
  · rw [cano_well hge] at hx
    rw [cano_free hge]
    exact fun h => oth_no t x h (List.mem_of_mem_take hx)
open LawAreAlpha in
theorem alphaJ (s q : ByteArray) (hm : s.size ≤ 9223372036854775807) (hmq : q.size ≤ 9223372036854775807) : ∃ (n b : Bool), AnsJ 15 #[.string s, .string q] (.tuple #[.bool n, .bool b]) ∧ AnsJ 11 #[.string s, .string q] (.tuple #[.bool n, .bool b]) ∧
    (b = true → ∃ t u, good s.data.toList = some t ∧ good q.data.toList = some u ∧ n = decide (can t id marks = can u id marks)) ∧ (∀ t u, good s.data.toList = some t → good q.data.toList = some u → b = true ∧ n = decide (can t id marks = can u id marks)) := by
  cases hg : good s.data.toList with
  | none =>
    have h1 := fun w => tmGood_none hg w hm
    have h2 := fun w => parse_none hg w hm
    cases hg2 : good q.data.toList with
    | none => exact ⟨false, false, s_n1 s q h1, i_n1 s q h2 (fun w => parse_none hg2 w hmq), (fun h => by cases h), fun t u h => by cases h⟩
    | some u => exact ⟨false, false, s_n1 s q h1, i_n1b s q _ _ h2 (fun w => parse_some hg2 w hmq), (fun h => by cases h), fun t u h => by cases h⟩
  | some t =>
    have h1 := fun w => tmGood_some hg w hm
    have h2 := fun w => parse_some hg w hm
    cases hg2 : good q.data.toList with
    | none => exact ⟨false, false, s_n2 s q h1 (fun w => tmGood_none hg2 w hmq), i_n2 s q _ _ h2 (fun w => parse_none hg2 w hmq), (fun h => by cases h), fun t u _ h => by cases h⟩
    | some u =>
      have h3 := fun w => tmGood_some hg2 w hmq
      have h4 := fun w => parse_some hg2 w hmq
      obtain ⟨es, hL, hE, h300, h60⟩ := good_S hg
      obtain ⟨eq, hL2, hE2, h3002, h602⟩ := good_S hg2
      have hb1 := bnd_lt t
      have hb2 := bnd_lt u
      have hA := fun w => tmAlpha_any t u [] [] w hE hE2 (by omega) (by omega) rfl (by simp; omega)
      rw [← es, ← eq] at hA
      have key : alp t u [] [] = decide (can t id marks = can u id marks) := by
        rw [alp_can t u [] [] [] marks hL hL2 rfl rfl marks_mk (by rw [marks_len]; omega)]
        have hid : lk [] [] = id := by funext z; rfl
        rw [hid]
      refine ⟨alp t u [] [], true, s_yes s q _ h1 h3 hA, i_yes s q _ _ _ _ _ _ _ _ _ _ _ ?_ h2 h4 (numbered_any t hL (by omega)) (textOf_any _ (by rw [(can_len t id marksN).1]; omega)) (numbered_any u hL2 (by omega)) (textOf_any _ (by rw [(can_len u id marksN).1]; omega)), fun _ => ⟨t, u, rfl, rfl, key⟩, fun t' u' e e' => by cases e; cases e'; exact ⟨rfl, key⟩⟩
      rw [alp_iff t u hL hL2 (by omega) (by omega), ByteArray.toList_eq, ByteArray.toList_eq]
      show ((can t id marksN).pr == (can u id marksN).pr) = _
      rw [can_marks t (by omega), can_marks u (by omega)]
      rw [Bool.eq_iff_iff, beq_iff_eq, decide_eq_true_iff]
theorem freeJ (s : ByteArray) (t : Tm) (hg : good s.data.toList = some t) (hm : s.size ≤ 9223372036854775807) : AnsJ 13 #[.string s] (.tuple #[.string (B t.free), .bool true]) := LawFreeNames.impl_some s t hg hm
theorem wellJ (s : ByteArray) (hm : s.size ≤ 9223372036854775807) : AnsJ 18 #[.string s] (.tuple #[.bool (wnJ (good s.data.toList)), .bool (good s.data.toList).isSome]) ∧ AnsJ 12 #[.string s] (.tuple #[.bool (wnJ (good s.data.toList)), .bool (good s.data.toList).isSome]) := by
  cases hg : good s.data.toList with
  | none => exact ⟨LawIsWellNamed.spec_none s hg hm, LawIsWellNamed.impl_none s hg hm⟩
  | some t => exact ⟨LawIsWellNamed.spec_some s t hg hm, LawIsWellNamed.impl_some s t hg hm⟩
/-- What AreCongruent answers of two processes. -/
theorem congJ (s q : ByteArray) (t u : Tm) (hg : good s.data.toList = some t) (hg2 : good q.data.toList = some u) (hm : s.size ≤ 9223372036854775807) (hmq : q.size ≤ 9223372036854775807) : ∃ y b : Bool, AnsJ 16 #[.string s, .string q] (.tuple #[.bool y, .bool b]) ∧ (can t id marks = can u id marks → b = true → y = true) := by
  obtain ⟨es, hL, hE, h300, h60⟩ := good_S hg
  obtain ⟨eq, hL2, hE2, h3002, h602⟩ := good_S hg2
  have n1 := iN_yes s _ _ _ _ (fun w => parse_some hg w hm) (normalText_any t hL (by omega) (by omega))
  have n2 := iN_yes q _ _ _ _ (fun w => parse_some hg2 w hmq) (normalText_any u hL2 (by omega) (by omega))
  have hb1 := LawAreAlpha.bnd_lt t
  have hb2 := LawAreAlpha.bnd_lt u
  have key : can t id marks = can u id marks → nfI t = nfI u := fun e =>
    nfI_alike marks_nd (by rw [marks_len]; omega) (by rw [marks_len]; omega) (marks_no hL) (marks_no hL2) e
  cases e1 : (nfI t).isSome with
  | false =>
    rw [e1] at n1
    exact ⟨_, _, iC_a s q _ _ _ n1 n2, fun _ h => by cases h⟩
  | true =>
    rw [e1] at n1
    cases e2 : (nfI u).isSome with
    | false =>
      rw [e2] at n2
      exact ⟨_, _, iC_b s q _ _ n1 n2, fun _ h => by cases h⟩
    | true =>
      rw [e2] at n2
      exact ⟨_, _, iC_c s q _ _ n1 n2, fun e _ => by rw [key e]; exact beq_self_eq_true _⟩
end Go.Proofs.YtmfmagfgcdaeeaaGreat.T1

/- What is drawn for the law of canonical names. No conditions. -/
namespace Go.Proofs.YtmfmagfgcdaeeaaGreat.T1
open Go.RowKit
set_option maxRecDepth 100000
set_option linter.unusedVariables false
set_option linter.unusedSimpArgs false

set_option maxHeartbeats 4000000 in
theorem dAreAlpha_any (a : Option Addr) (n cap : Nat) (w : World) (hA : Arg w a n) : Calls Tryz.prog 14 #[.slice a n cap] w fun e w' => (∃ s x : ByteArray, e = .returned (.tuple #[.string s, .string x]) ∧ s.size ≤ 1000 ∧ x.size ≤ 1000) ∧ Below w.heap.size w w' := by
  have HA := Lib.hid hA
  clear hA
  go_enter Tryz.func14, Tryz.ntmps14
  go_wp2_with fail
  refine (drProcess_any w.heap.size 0 10 false (by decide) (by decide) (by decide) _ (cur_new HA.out)).mono ?_
  rintro e w1 ⟨v, rfl, a1, c1, o1⟩
  obtain ⟨s, rfl, hs, _⟩ := a1
  have C1 := Lib.hid c1
  have O1 := Lib.hid o1
  clear c1 o1
  cases hgd : goodB s with
  | false =>
    have HG := Lib.hid (fun w => by have := tmGood_any s w (by omega); rw [hgd] at this; exact this)
    clear hgd
    go_wp2_with fail
    with_reducible refine (HG.out _).mono ?_
    rintro e w2 ⟨rfl, b2⟩
    have C2 := Lib.hid (C1.out.below b2)
    have O2 := Lib.hid (O1.out.below b2)
    clear b2
    go_wp2_with fail
    refine (drProcess_any w.heap.size _ 4 false (by decide) (by decide) (by decide) _ C2.out).mono ?_
    rintro e v9 ⟨v, rfl, a9, c9, o9⟩
    obtain ⟨s9, rfl, hs9, _⟩ := a9
    have O9 := Lib.hid (O2.out.trans o9)
    clear c9 o9
    go_wp2_with fail
    go_ret2
    exact ⟨⟨s, s9, rfl, hs, hs9⟩, only_new O9.out⟩
  | true =>
    have HG := Lib.hid (fun w => by have := tmGood_any s w (by omega); rw [hgd] at this; exact this)
    obtain ⟨t, hg⟩ : ∃ t, good s.data.toList = some t := by
      unfold goodB at hgd
      cases h : good s.data.toList with
      | none => rw [h] at hgd; cases hgd
      | some t => exact ⟨t, rfl⟩
    have hX := (canoJ s (by omega)).1
    rw [hg] at hX
    obtain ⟨X, hXe⟩ : ∃ X, X = cnT (some t) := ⟨_, rfl⟩
    obtain ⟨cb, hcb⟩ : ∃ cb, cb = cnB (some t) := ⟨_, rfl⟩
    have hXs : cb = true → X.size ≤ 1000 ∧ ∃ R, R.size ≤ 1000 ∧ AnsJ 76 #[.string X, .int .u8 97, .int .u8 98] (.string R) := by
      intro h
      rw [hcb] at h
      have hc : canB t = true := h
      obtain ⟨hg2, hz⟩ := cano_good hg hc
      have e : X = S (cano t) := by rw [hXe]; show (if canB t then S (cano t) else ⟨#[]⟩) = _; rw [hc]; rfl
      obtain ⟨_, hL2, hE2, h3002, _⟩ := good_S hg2
      refine ⟨by rw [e]; omega, S (R (cano t) 97 98), by rw [S_size, R_len]; omega, ?_⟩
      rw [e]
      exact fun w => tmRename_any (cano t).size (cano t) 97 98 (Nat.le_refl _) hE2 (by omega) (by decide) w
    rw [← hXe, ← hcb] at hX
    have HX := Lib.hid (fun w => hX w)
    have HXs := Lib.hid hXs
    clear hgd hg hX hXs hXe hcb
    go_wp2_with fail
    with_reducible refine (HG.out _).mono ?_
    rintro e w2 ⟨rfl, b2⟩
    have C2 := Lib.hid (C1.out.below b2)
    have O2 := Lib.hid (O1.out.below b2)
    clear b2
    go_wp2_with fail
    refine (one_any w.heap.size _ 3 (by decide) (by decide) (by decide) _ C2.out).mono ?_
    rintro e w3 ⟨v, rfl, ⟨y, rfl⟩, c3, o3⟩
    have C3 := Lib.hid c3
    have O3 := Lib.hid (O2.out.trans o3)
    clear c3 o3
    cases y with
    | true =>
      go_wp2_with fail
      refine (drProcess_any w.heap.size _ 4 false (by decide) (by decide) (by decide) _ C3.out).mono ?_
      rintro e v9 ⟨v, rfl, a9, c9, o9⟩
      obtain ⟨s9, rfl, hs9, _⟩ := a9
      have O9 := Lib.hid (O3.out.trans o9)
      clear c9 o9
      go_wp2_with fail
      go_ret2
      exact ⟨⟨s, s9, rfl, hs, hs9⟩, only_new O9.out⟩
    | false =>
      go_wp2_with fail
      with_reducible refine (HX.out _).mono ?_
      rintro e w4 ⟨rfl, b4⟩
      have C4 := Lib.hid (C3.out.below b4)
      have O4 := Lib.hid (O3.out.below b4)
      clear b4
      cases cb with
      | false =>
        go_wp2_with fail
        refine (drProcess_any w.heap.size _ 4 false (by decide) (by decide) (by decide) _ C4.out).mono ?_
        rintro e v9 ⟨v, rfl, a9, c9, o9⟩
        obtain ⟨s9, rfl, hs9, _⟩ := a9
        have O9 := Lib.hid (O4.out.trans o9)
        clear c9 o9
        go_wp2_with fail
        go_ret2
        exact ⟨⟨s, s9, rfl, hs, hs9⟩, only_new O9.out⟩
      | true =>
        obtain ⟨zX, R, zR, hR⟩ := HXs.out (by trivial)
        have HR := Lib.hid (fun w => hR w)
        clear hR
        go_wp2_with fail
        refine (one_any w.heap.size _ 4 (by decide) (by decide) (by decide) _ C4.out).mono ?_
        rintro e w5 ⟨v, rfl, ⟨z, rfl⟩, c5, o5⟩
        have O5 := Lib.hid (O4.out.trans o5)
        clear c5 o5
        cases z with
        | false =>
          go_wp2_with fail
          go_ret2
          exact ⟨⟨s, X, rfl, hs, zX⟩, only_new O5.out⟩
        | true =>
          go_wp2_with fail
          with_reducible refine (HR.out _).mono ?_
          rintro e w6 ⟨rfl, b6⟩
          have O6 := Lib.hid (O5.out.below b6)
          clear b6
          go_wp2_with fail
          go_ret2
          exact ⟨⟨s, R, rfl, hs, zR⟩, only_new O6.out⟩
end Go.Proofs.YtmfmagfgcdaeeaaGreat.T1
