/- Texts of the proof, put together: Ts. No conditions. -/
import Derived.Test.YtmfmagfgcdaeeaaGreatHay

/- A free name renamed in the specification: the ways through at signs that bind. -/
namespace Go.Proofs.YtmfmagfgcdaeeaaGreat.T1
open Go.RowKit
set_option maxRecDepth 100000
set_option linter.unusedVariables false

set_option maxHeartbeats 4000000 in
theorem tb_skipR (s U HD : ByteArray) (m : Int) (a a2 x : UInt8) (hxm : ((x.toNat : Int) == m) = false) (hxo : ((x.toNat : Int) != (x.toNat : Int)) = false) (hs : 4 ≤ s.size) (hs3 : s.size ≤ 700) (hq : ((x.toNat : Int) == m) = false) (hl : (s.extract 0 4).data.toList = [a, 63, x, 46]) (hHB : HD = B [a2, 63, x, 46])
    (HF : ∀ w, Calls Tryz.prog 68 #[.string s] w fun e w' => e = .returned (.string U) ∧ Below w.heap.size w w') (HI : ∀ w, Calls Tryz.prog 69 #[.string U, .int .u8 (x.toNat : Int)] w fun e w' => e = .returned (.bool true) ∧ w = w') (HH : ∀ w, Calls Tryz.prog 126 #[.string s] w fun e w' => e = .returned (.int .i64 4) ∧ w = w') (HB : ∀ w, Calls Tryz.prog 124 #[.string s] w fun e w' => e = .returned (.tuple #[.int .u8 (x.toNat : Int), .bool true]) ∧ w = w') (HK : ∀ w, Calls Tryz.prog 100 #[.string s] w fun e w' => e = .returned (.int .u8 63) ∧ w = w') (HS : ∀ w, Calls Tryz.prog 137 #[.int .u8 (a.toNat : Int), .int .u8 (x.toNat : Int), .int .u8 m] w fun e w' => e = .returned (.int .u8 (a2.toNat : Int)) ∧ w = w') (w : World) :
    Calls Tryz.prog 76 #[.string s, .int .u8 (x.toNat : Int), .int .u8 m] w fun e w' => e = .returned (.string (HD ++ (s.extract 4 s.size))) ∧ Below w.heap.size w w' := by
  have Hl := Lib.hid hl
  have HHB := Lib.hid hHB
  clear hl hHB
  have HF' := Lib.hid HF
  have HI' := Lib.hid HI
  have HH' := Lib.hid HH
  have HB' := Lib.hid HB
  have HK' := Lib.hid HK
  have HS' := Lib.hid HS
  clear HF HI HH HB HK HS
  go_enter Tryz.func76, Tryz.ntmps76
  go_wp2_with fail
  refine (HF'.out _).mono ?_
  rintro e w1 ⟨rfl, b1⟩
  go_wp2_with fail
  refine (HI'.out _).mono ?_
  rintro e w2 ⟨rfl, rfl⟩
  go_wp2_with fail
  refine (HH'.out _).mono ?_
  rintro e w3 ⟨rfl, rfl⟩
  obtain ⟨cap, W, hcv, bW, hr⟩ := conv_head (s.extract 0 4) _ 4 Hl.out rfl w1
  have bl := blow_go b1 bW
  have hgw : w.heap.size ≤ w1.heap.size := b1.size
  obtain ⟨g, hg⟩ : ∃ g, g = w1.heap.size := ⟨_, rfl⟩
  rw [← hg] at hcv hr hgw
  clear b1 bW hg
  have Hr := Lib.hid hr
  clear hr
  go_wp2_with fail
  clear hcv
  refine (HB'.out _).mono ?_
  rintro e w4 ⟨rfl, rfl⟩
  go_wp2_with fail
  obtain ⟨W0, hW0⟩ : ∃ W0, W0 = W := ⟨_, rfl⟩
  rw [← hW0] at Hr bl ⊢
  clear hW0
  go_wp2_with fail
  refine (HK'.out _).mono ?_
  rintro e w70 ⟨rfl, rfl⟩
  have x0 := Hr.out.cell 0 (by simp)
  have y0 := Hr.out.free 0 (by simp)
  have x2 := Hr.out.cell 2 (by simp)
  have y2 := Hr.out.free 2 (by simp)
  simp only [List.getElem_cons_zero, List.getElem_cons_succ] at x0 x2
  go_wp2_with fail
  refine (HS'.out _).mono ?_
  rintro e w71 ⟨rfl, rfl⟩
  have HC : (convert 22 9 (.slice (some ⟨g, 0, none⟩) 4 cap)).run Tryz.prog ((W0.setCell ⟨g, 0, none⟩ (.int .u8 (a2.toNat : Int))).setCell ⟨g, 2, none⟩ (.int .u8 (x.toNat : Int))) = .ok (.string HD) ((W0.setCell ⟨g, 0, none⟩ (.int .u8 (a2.toNat : Int))).setCell ⟨g, 2, none⟩ (.int .u8 (x.toNat : Int))) := by
    rw [HHB.out]; exact ((Hr.out.set 0 (by simp) a2).set 2 (by simp) x).conv 4 cap rfl
  have hH4 : HD.size ≤ 4 := by rw [HHB.out]; exact Nat.le_refl _
  have bX : Below w.heap.size w ((W0.setCell ⟨g, 0, none⟩ (.int .u8 (a2.toNat : Int))).setCell ⟨g, 2, none⟩ (.int .u8 (x.toNat : Int))) := (bl.setCell (p := ⟨g, 0, none⟩) hgw _).setCell (p := ⟨g, 2, none⟩) hgw _
  clear Hr HHB
  go_wp2_with fail
  go_ret
  exact ⟨rfl, bX⟩
set_option maxHeartbeats 4000000 in
theorem tb_renR (s U HD : ByteArray) (o m : Int) (a a2 x : UInt8) (P2 : ByteArray) (hP : P2.size ≤ 700) (hxm : ((x.toNat : Int) == m) = false) (hxo : ((x.toNat : Int) != o) = true) (hs : 4 ≤ s.size) (hs3 : s.size ≤ 700) (hq : (o == m) = false) (hl : (s.extract 0 4).data.toList = [a, 63, x, 46]) (hHB : HD = B [a2, 63, x, 46])
    (HF : ∀ w, Calls Tryz.prog 68 #[.string s] w fun e w' => e = .returned (.string U) ∧ Below w.heap.size w w') (HI : ∀ w, Calls Tryz.prog 69 #[.string U, .int .u8 o] w fun e w' => e = .returned (.bool true) ∧ w = w') (HH : ∀ w, Calls Tryz.prog 126 #[.string s] w fun e w' => e = .returned (.int .i64 4) ∧ w = w') (HB : ∀ w, Calls Tryz.prog 124 #[.string s] w fun e w' => e = .returned (.tuple #[.int .u8 (x.toNat : Int), .bool true]) ∧ w = w') (HK : ∀ w, Calls Tryz.prog 100 #[.string s] w fun e w' => e = .returned (.int .u8 63) ∧ w = w') (HR : ∀ w, Calls Tryz.prog 76 #[.string (s.extract 4 s.size), .int .u8 o, .int .u8 m] w fun e w' => e = .returned (.string P2) ∧ Below w.heap.size w w') (HS : ∀ w, Calls Tryz.prog 137 #[.int .u8 (a.toNat : Int), .int .u8 o, .int .u8 m] w fun e w' => e = .returned (.int .u8 (a2.toNat : Int)) ∧ w = w') (w : World) :
    Calls Tryz.prog 76 #[.string s, .int .u8 o, .int .u8 m] w fun e w' => e = .returned (.string (HD ++ P2)) ∧ Below w.heap.size w w' := by
  have Hl := Lib.hid hl
  have HHB := Lib.hid hHB
  clear hl hHB
  have HF' := Lib.hid HF
  have HI' := Lib.hid HI
  have HH' := Lib.hid HH
  have HB' := Lib.hid HB
  have HK' := Lib.hid HK
  have HR' := Lib.hid HR
  have HS' := Lib.hid HS
  clear HF HI HH HB HK HR HS
  go_enter Tryz.func76, Tryz.ntmps76
  go_wp2_with fail
  refine (HF'.out _).mono ?_
  rintro e w1 ⟨rfl, b1⟩
  go_wp2_with fail
  refine (HI'.out _).mono ?_
  rintro e w2 ⟨rfl, rfl⟩
  go_wp2_with fail
  refine (HH'.out _).mono ?_
  rintro e w3 ⟨rfl, rfl⟩
  obtain ⟨cap, W, hcv, bW, hr⟩ := conv_head (s.extract 0 4) _ 4 Hl.out rfl w1
  have bl := blow_go b1 bW
  have hgw : w.heap.size ≤ w1.heap.size := b1.size
  obtain ⟨g, hg⟩ : ∃ g, g = w1.heap.size := ⟨_, rfl⟩
  rw [← hg] at hcv hr hgw
  clear b1 bW hg
  have Hr := Lib.hid hr
  clear hr
  go_wp2_with fail
  clear hcv
  refine (HB'.out _).mono ?_
  rintro e w4 ⟨rfl, rfl⟩
  go_wp2_with fail
  go_wp2_with fail
  refine (HR'.out _).mono ?_
  rintro e w60 ⟨rfl, b60⟩
  replace Hr := Lib.hid (Hr.out.below b60)
  replace bl := blow_go bl b60
  clear b60
  obtain ⟨W0, hW0⟩ : ∃ W0, W0 = w60 := ⟨_, rfl⟩
  rw [← hW0] at Hr bl ⊢
  clear hW0
  go_wp2_with fail
  refine (HK'.out _).mono ?_
  rintro e w70 ⟨rfl, rfl⟩
  have x0 := Hr.out.cell 0 (by simp)
  have y0 := Hr.out.free 0 (by simp)
  have x2 := Hr.out.cell 2 (by simp)
  have y2 := Hr.out.free 2 (by simp)
  simp only [List.getElem_cons_zero, List.getElem_cons_succ] at x0 x2
  go_wp2_with fail
  refine (HS'.out _).mono ?_
  rintro e w71 ⟨rfl, rfl⟩
  have HC : (convert 22 9 (.slice (some ⟨g, 0, none⟩) 4 cap)).run Tryz.prog ((W0.setCell ⟨g, 0, none⟩ (.int .u8 (a2.toNat : Int))).setCell ⟨g, 2, none⟩ (.int .u8 (x.toNat : Int))) = .ok (.string HD) ((W0.setCell ⟨g, 0, none⟩ (.int .u8 (a2.toNat : Int))).setCell ⟨g, 2, none⟩ (.int .u8 (x.toNat : Int))) := by
    rw [HHB.out]; exact ((Hr.out.set 0 (by simp) a2).set 2 (by simp) x).conv 4 cap rfl
  have hH4 : HD.size ≤ 4 := by rw [HHB.out]; exact Nat.le_refl _
  have bX : Below w.heap.size w ((W0.setCell ⟨g, 0, none⟩ (.int .u8 (a2.toNat : Int))).setCell ⟨g, 2, none⟩ (.int .u8 (x.toNat : Int))) := (bl.setCell (p := ⟨g, 0, none⟩) hgw _).setCell (p := ⟨g, 2, none⟩) hgw _
  clear Hr HHB
  go_wp2_with fail
  go_ret
  exact ⟨rfl, bX⟩
set_option maxHeartbeats 4000000 in
theorem tb_noR (s U HD : ByteArray) (o : Int) (a a2 x : UInt8) (P2 U2 : ByteArray) (hP : P2.size ≤ 700) (hxm : ((x.toNat : Int) == (x.toNat : Int)) = true) (hxo : ((x.toNat : Int) != o) = true) (hs : 4 ≤ s.size) (hs3 : s.size ≤ 700) (hq : (o == (x.toNat : Int)) = false) (hl : (s.extract 0 4).data.toList = [a, 63, x, 46]) (hHB : HD = B [a2, 63, x, 46])
    (HF : ∀ w, Calls Tryz.prog 68 #[.string s] w fun e w' => e = .returned (.string U) ∧ Below w.heap.size w w') (HI : ∀ w, Calls Tryz.prog 69 #[.string U, .int .u8 o] w fun e w' => e = .returned (.bool true) ∧ w = w') (HH : ∀ w, Calls Tryz.prog 126 #[.string s] w fun e w' => e = .returned (.int .i64 4) ∧ w = w') (HB : ∀ w, Calls Tryz.prog 124 #[.string s] w fun e w' => e = .returned (.tuple #[.int .u8 (x.toNat : Int), .bool true]) ∧ w = w') (HK : ∀ w, Calls Tryz.prog 100 #[.string s] w fun e w' => e = .returned (.int .u8 63) ∧ w = w') (HF2 : ∀ w, Calls Tryz.prog 68 #[.string (s.extract 4 s.size)] w fun e w' => e = .returned (.string U2) ∧ Below w.heap.size w w') (HI2 : ∀ w, Calls Tryz.prog 69 #[.string U2, .int .u8 o] w fun e w' => e = .returned (.bool false) ∧ w = w') (HR : ∀ w, Calls Tryz.prog 76 #[.string (s.extract 4 s.size), .int .u8 o, .int .u8 (x.toNat : Int)] w fun e w' => e = .returned (.string P2) ∧ Below w.heap.size w w') (HS : ∀ w, Calls Tryz.prog 137 #[.int .u8 (a.toNat : Int), .int .u8 o, .int .u8 (x.toNat : Int)] w fun e w' => e = .returned (.int .u8 (a2.toNat : Int)) ∧ w = w') (w : World) :
    Calls Tryz.prog 76 #[.string s, .int .u8 o, .int .u8 (x.toNat : Int)] w fun e w' => e = .returned (.string (HD ++ P2)) ∧ Below w.heap.size w w' := by
  have Hl := Lib.hid hl
  have HHB := Lib.hid hHB
  clear hl hHB
  have HF' := Lib.hid HF
  have HI' := Lib.hid HI
  have HH' := Lib.hid HH
  have HB' := Lib.hid HB
  have HK' := Lib.hid HK
  have HF2' := Lib.hid HF2
  have HI2' := Lib.hid HI2
  have HR' := Lib.hid HR
  have HS' := Lib.hid HS
  clear HF HI HH HB HK HF2 HI2 HR HS
  go_enter Tryz.func76, Tryz.ntmps76
  go_wp2_with fail
  refine (HF'.out _).mono ?_
  rintro e w1 ⟨rfl, b1⟩
  go_wp2_with fail
  refine (HI'.out _).mono ?_
  rintro e w2 ⟨rfl, rfl⟩
  go_wp2_with fail
  refine (HH'.out _).mono ?_
  rintro e w3 ⟨rfl, rfl⟩
  obtain ⟨cap, W, hcv, bW, hr⟩ := conv_head (s.extract 0 4) _ 4 Hl.out rfl w1
  have bl := blow_go b1 bW
  have hgw : w.heap.size ≤ w1.heap.size := b1.size
  obtain ⟨g, hg⟩ : ∃ g, g = w1.heap.size := ⟨_, rfl⟩
  rw [← hg] at hcv hr hgw
  clear b1 bW hg
  have Hr := Lib.hid hr
  clear hr
  go_wp2_with fail
  clear hcv
  refine (HB'.out _).mono ?_
  rintro e w4 ⟨rfl, rfl⟩
  go_wp2_with fail
  go_wp2_with fail
  refine (HF2'.out _).mono ?_
  rintro e w50 ⟨rfl, b50⟩
  replace Hr := Lib.hid (Hr.out.below b50)
  replace bl := blow_go bl b50
  clear b50
  go_wp2_with fail
  refine (HI2'.out _).mono ?_
  rintro e w51 ⟨rfl, rfl⟩
  go_wp2_with fail
  refine (HR'.out _).mono ?_
  rintro e w60 ⟨rfl, b60⟩
  replace Hr := Lib.hid (Hr.out.below b60)
  replace bl := blow_go bl b60
  clear b60
  obtain ⟨W0, hW0⟩ : ∃ W0, W0 = w60 := ⟨_, rfl⟩
  rw [← hW0] at Hr bl ⊢
  clear hW0
  go_wp2_with fail
  refine (HK'.out _).mono ?_
  rintro e w70 ⟨rfl, rfl⟩
  have x0 := Hr.out.cell 0 (by simp)
  have y0 := Hr.out.free 0 (by simp)
  have x2 := Hr.out.cell 2 (by simp)
  have y2 := Hr.out.free 2 (by simp)
  simp only [List.getElem_cons_zero, List.getElem_cons_succ] at x0 x2
  go_wp2_with fail
  refine (HS'.out _).mono ?_
  rintro e w71 ⟨rfl, rfl⟩
  have HC : (convert 22 9 (.slice (some ⟨g, 0, none⟩) 4 cap)).run Tryz.prog ((W0.setCell ⟨g, 0, none⟩ (.int .u8 (a2.toNat : Int))).setCell ⟨g, 2, none⟩ (.int .u8 (x.toNat : Int))) = .ok (.string HD) ((W0.setCell ⟨g, 0, none⟩ (.int .u8 (a2.toNat : Int))).setCell ⟨g, 2, none⟩ (.int .u8 (x.toNat : Int))) := by
    rw [HHB.out]; exact ((Hr.out.set 0 (by simp) a2).set 2 (by simp) x).conv 4 cap rfl
  have hH4 : HD.size ≤ 4 := by rw [HHB.out]; exact Nat.le_refl _
  have bX : Below w.heap.size w ((W0.setCell ⟨g, 0, none⟩ (.int .u8 (a2.toNat : Int))).setCell ⟨g, 2, none⟩ (.int .u8 (x.toNat : Int))) := (bl.setCell (p := ⟨g, 0, none⟩) hgw _).setCell (p := ⟨g, 2, none⟩) hgw _
  clear Hr HHB
  go_wp2_with fail
  go_ret
  exact ⟨rfl, bX⟩
set_option maxHeartbeats 4000000 in
theorem tb_skipO (s U HD : ByteArray) (m : Int) (x : UInt8) (hxm : ((x.toNat : Int) == m) = false) (hxo : ((x.toNat : Int) != (x.toNat : Int)) = false) (hs : 3 ≤ s.size) (hs3 : s.size ≤ 700) (hq : ((x.toNat : Int) == m) = false) (hl : (s.extract 0 3).data.toList = [35, x, 46]) (hHB : HD = B [35, x, 46])
    (HF : ∀ w, Calls Tryz.prog 68 #[.string s] w fun e w' => e = .returned (.string U) ∧ Below w.heap.size w w') (HI : ∀ w, Calls Tryz.prog 69 #[.string U, .int .u8 (x.toNat : Int)] w fun e w' => e = .returned (.bool true) ∧ w = w') (HH : ∀ w, Calls Tryz.prog 126 #[.string s] w fun e w' => e = .returned (.int .i64 3) ∧ w = w') (HB : ∀ w, Calls Tryz.prog 124 #[.string s] w fun e w' => e = .returned (.tuple #[.int .u8 (x.toNat : Int), .bool true]) ∧ w = w') (HK : ∀ w, Calls Tryz.prog 100 #[.string s] w fun e w' => e = .returned (.int .u8 35) ∧ w = w') (w : World) :
    Calls Tryz.prog 76 #[.string s, .int .u8 (x.toNat : Int), .int .u8 m] w fun e w' => e = .returned (.string (HD ++ (s.extract 3 s.size))) ∧ Below w.heap.size w w' := by
  have Hl := Lib.hid hl
  have HHB := Lib.hid hHB
  clear hl hHB
  have HF' := Lib.hid HF
  have HI' := Lib.hid HI
  have HH' := Lib.hid HH
  have HB' := Lib.hid HB
  have HK' := Lib.hid HK
  clear HF HI HH HB HK
  go_enter Tryz.func76, Tryz.ntmps76
  go_wp2_with fail
  refine (HF'.out _).mono ?_
  rintro e w1 ⟨rfl, b1⟩
  go_wp2_with fail
  refine (HI'.out _).mono ?_
  rintro e w2 ⟨rfl, rfl⟩
  go_wp2_with fail
  refine (HH'.out _).mono ?_
  rintro e w3 ⟨rfl, rfl⟩
  obtain ⟨cap, W, hcv, bW, hr⟩ := conv_head (s.extract 0 3) _ 3 Hl.out rfl w1
  have bl := blow_go b1 bW
  have hgw : w.heap.size ≤ w1.heap.size := b1.size
  obtain ⟨g, hg⟩ : ∃ g, g = w1.heap.size := ⟨_, rfl⟩
  rw [← hg] at hcv hr hgw
  clear b1 bW hg
  have Hr := Lib.hid hr
  clear hr
  go_wp2_with fail
  clear hcv
  refine (HB'.out _).mono ?_
  rintro e w4 ⟨rfl, rfl⟩
  go_wp2_with fail
  obtain ⟨W0, hW0⟩ : ∃ W0, W0 = W := ⟨_, rfl⟩
  rw [← hW0] at Hr bl ⊢
  clear hW0
  go_wp2_with fail
  refine (HK'.out _).mono ?_
  rintro e w70 ⟨rfl, rfl⟩
  have x1 := Hr.out.cell 1 (by simp)
  have y1 := Hr.out.free 1 (by simp)
  simp only [List.getElem_cons_zero, List.getElem_cons_succ] at x1
  have HC : (convert 22 9 (.slice (some ⟨g, 0, none⟩) 3 cap)).run Tryz.prog (W0.setCell ⟨g, 1, none⟩ (.int .u8 (x.toNat : Int))) = .ok (.string HD) (W0.setCell ⟨g, 1, none⟩ (.int .u8 (x.toNat : Int))) := by
    rw [HHB.out]; exact (Hr.out.set 1 (by simp) x).conv 3 cap rfl
  have hH4 : HD.size ≤ 3 := by rw [HHB.out]; exact Nat.le_refl _
  have bX : Below w.heap.size w (W0.setCell ⟨g, 1, none⟩ (.int .u8 (x.toNat : Int))) := bl.setCell (p := ⟨g, 1, none⟩) hgw _
  clear Hr HHB
  go_wp2_with fail
  go_ret
  exact ⟨rfl, bX⟩
set_option maxHeartbeats 4000000 in
theorem tb_renO (s U HD : ByteArray) (o m : Int) (x : UInt8) (P2 : ByteArray) (hP : P2.size ≤ 700) (hxm : ((x.toNat : Int) == m) = false) (hxo : ((x.toNat : Int) != o) = true) (hs : 3 ≤ s.size) (hs3 : s.size ≤ 700) (hq : (o == m) = false) (hl : (s.extract 0 3).data.toList = [35, x, 46]) (hHB : HD = B [35, x, 46])
    (HF : ∀ w, Calls Tryz.prog 68 #[.string s] w fun e w' => e = .returned (.string U) ∧ Below w.heap.size w w') (HI : ∀ w, Calls Tryz.prog 69 #[.string U, .int .u8 o] w fun e w' => e = .returned (.bool true) ∧ w = w') (HH : ∀ w, Calls Tryz.prog 126 #[.string s] w fun e w' => e = .returned (.int .i64 3) ∧ w = w') (HB : ∀ w, Calls Tryz.prog 124 #[.string s] w fun e w' => e = .returned (.tuple #[.int .u8 (x.toNat : Int), .bool true]) ∧ w = w') (HK : ∀ w, Calls Tryz.prog 100 #[.string s] w fun e w' => e = .returned (.int .u8 35) ∧ w = w') (HR : ∀ w, Calls Tryz.prog 76 #[.string (s.extract 3 s.size), .int .u8 o, .int .u8 m] w fun e w' => e = .returned (.string P2) ∧ Below w.heap.size w w') (w : World) :
    Calls Tryz.prog 76 #[.string s, .int .u8 o, .int .u8 m] w fun e w' => e = .returned (.string (HD ++ P2)) ∧ Below w.heap.size w w' := by
  have Hl := Lib.hid hl
  have HHB := Lib.hid hHB
  clear hl hHB
  have HF' := Lib.hid HF
  have HI' := Lib.hid HI
  have HH' := Lib.hid HH
  have HB' := Lib.hid HB
  have HK' := Lib.hid HK
  have HR' := Lib.hid HR
  clear HF HI HH HB HK HR
  go_enter Tryz.func76, Tryz.ntmps76
  go_wp2_with fail
  refine (HF'.out _).mono ?_
  rintro e w1 ⟨rfl, b1⟩
  go_wp2_with fail
  refine (HI'.out _).mono ?_
  rintro e w2 ⟨rfl, rfl⟩
  go_wp2_with fail
  refine (HH'.out _).mono ?_
  rintro e w3 ⟨rfl, rfl⟩
  obtain ⟨cap, W, hcv, bW, hr⟩ := conv_head (s.extract 0 3) _ 3 Hl.out rfl w1
  have bl := blow_go b1 bW
  have hgw : w.heap.size ≤ w1.heap.size := b1.size
  obtain ⟨g, hg⟩ : ∃ g, g = w1.heap.size := ⟨_, rfl⟩
  rw [← hg] at hcv hr hgw
  clear b1 bW hg
  have Hr := Lib.hid hr
  clear hr
  go_wp2_with fail
  clear hcv
  refine (HB'.out _).mono ?_
  rintro e w4 ⟨rfl, rfl⟩
  go_wp2_with fail
  go_wp2_with fail
  refine (HR'.out _).mono ?_
  rintro e w60 ⟨rfl, b60⟩
  replace Hr := Lib.hid (Hr.out.below b60)
  replace bl := blow_go bl b60
  clear b60
  obtain ⟨W0, hW0⟩ : ∃ W0, W0 = w60 := ⟨_, rfl⟩
  rw [← hW0] at Hr bl ⊢
  clear hW0
  go_wp2_with fail
  refine (HK'.out _).mono ?_
  rintro e w70 ⟨rfl, rfl⟩
  have x1 := Hr.out.cell 1 (by simp)
  have y1 := Hr.out.free 1 (by simp)
  simp only [List.getElem_cons_zero, List.getElem_cons_succ] at x1
  have HC : (convert 22 9 (.slice (some ⟨g, 0, none⟩) 3 cap)).run Tryz.prog (W0.setCell ⟨g, 1, none⟩ (.int .u8 (x.toNat : Int))) = .ok (.string HD) (W0.setCell ⟨g, 1, none⟩ (.int .u8 (x.toNat : Int))) := by
    rw [HHB.out]; exact (Hr.out.set 1 (by simp) x).conv 3 cap rfl
  have hH4 : HD.size ≤ 3 := by rw [HHB.out]; exact Nat.le_refl _
  have bX : Below w.heap.size w (W0.setCell ⟨g, 1, none⟩ (.int .u8 (x.toNat : Int))) := bl.setCell (p := ⟨g, 1, none⟩) hgw _
  clear Hr HHB
  go_wp2_with fail
  go_ret
  exact ⟨rfl, bX⟩
set_option maxHeartbeats 4000000 in
theorem tb_noO (s U HD : ByteArray) (o : Int) (x : UInt8) (P2 U2 : ByteArray) (hP : P2.size ≤ 700) (hxm : ((x.toNat : Int) == (x.toNat : Int)) = true) (hxo : ((x.toNat : Int) != o) = true) (hs : 3 ≤ s.size) (hs3 : s.size ≤ 700) (hq : (o == (x.toNat : Int)) = false) (hl : (s.extract 0 3).data.toList = [35, x, 46]) (hHB : HD = B [35, x, 46])
    (HF : ∀ w, Calls Tryz.prog 68 #[.string s] w fun e w' => e = .returned (.string U) ∧ Below w.heap.size w w') (HI : ∀ w, Calls Tryz.prog 69 #[.string U, .int .u8 o] w fun e w' => e = .returned (.bool true) ∧ w = w') (HH : ∀ w, Calls Tryz.prog 126 #[.string s] w fun e w' => e = .returned (.int .i64 3) ∧ w = w') (HB : ∀ w, Calls Tryz.prog 124 #[.string s] w fun e w' => e = .returned (.tuple #[.int .u8 (x.toNat : Int), .bool true]) ∧ w = w') (HK : ∀ w, Calls Tryz.prog 100 #[.string s] w fun e w' => e = .returned (.int .u8 35) ∧ w = w') (HF2 : ∀ w, Calls Tryz.prog 68 #[.string (s.extract 3 s.size)] w fun e w' => e = .returned (.string U2) ∧ Below w.heap.size w w') (HI2 : ∀ w, Calls Tryz.prog 69 #[.string U2, .int .u8 o] w fun e w' => e = .returned (.bool false) ∧ w = w') (HR : ∀ w, Calls Tryz.prog 76 #[.string (s.extract 3 s.size), .int .u8 o, .int .u8 (x.toNat : Int)] w fun e w' => e = .returned (.string P2) ∧ Below w.heap.size w w') (w : World) :
    Calls Tryz.prog 76 #[.string s, .int .u8 o, .int .u8 (x.toNat : Int)] w fun e w' => e = .returned (.string (HD ++ P2)) ∧ Below w.heap.size w w' := by
  have Hl := Lib.hid hl
  have HHB := Lib.hid hHB
  clear hl hHB
  have HF' := Lib.hid HF
  have HI' := Lib.hid HI
  have HH' := Lib.hid HH
  have HB' := Lib.hid HB
  have HK' := Lib.hid HK
  have HF2' := Lib.hid HF2
  have HI2' := Lib.hid HI2
  have HR' := Lib.hid HR
  clear HF HI HH HB HK HF2 HI2 HR
  go_enter Tryz.func76, Tryz.ntmps76
  go_wp2_with fail
  refine (HF'.out _).mono ?_
  rintro e w1 ⟨rfl, b1⟩
  go_wp2_with fail
  refine (HI'.out _).mono ?_
  rintro e w2 ⟨rfl, rfl⟩
  go_wp2_with fail
  refine (HH'.out _).mono ?_
  rintro e w3 ⟨rfl, rfl⟩
  obtain ⟨cap, W, hcv, bW, hr⟩ := conv_head (s.extract 0 3) _ 3 Hl.out rfl w1
  have bl := blow_go b1 bW
  have hgw : w.heap.size ≤ w1.heap.size := b1.size
  obtain ⟨g, hg⟩ : ∃ g, g = w1.heap.size := ⟨_, rfl⟩
  rw [← hg] at hcv hr hgw
  clear b1 bW hg
  have Hr := Lib.hid hr
  clear hr
  go_wp2_with fail
  clear hcv
  refine (HB'.out _).mono ?_
  rintro e w4 ⟨rfl, rfl⟩
  go_wp2_with fail
  go_wp2_with fail
  refine (HF2'.out _).mono ?_
  rintro e w50 ⟨rfl, b50⟩
  replace Hr := Lib.hid (Hr.out.below b50)
  replace bl := blow_go bl b50
  clear b50
  go_wp2_with fail
  refine (HI2'.out _).mono ?_
  rintro e w51 ⟨rfl, rfl⟩
  go_wp2_with fail
  refine (HR'.out _).mono ?_
  rintro e w60 ⟨rfl, b60⟩
  replace Hr := Lib.hid (Hr.out.below b60)
  replace bl := blow_go bl b60
  clear b60
  obtain ⟨W0, hW0⟩ : ∃ W0, W0 = w60 := ⟨_, rfl⟩
  rw [← hW0] at Hr bl ⊢
  clear hW0
  go_wp2_with fail
  refine (HK'.out _).mono ?_
  rintro e w70 ⟨rfl, rfl⟩
  have x1 := Hr.out.cell 1 (by simp)
  have y1 := Hr.out.free 1 (by simp)
  simp only [List.getElem_cons_zero, List.getElem_cons_succ] at x1
  have HC : (convert 22 9 (.slice (some ⟨g, 0, none⟩) 3 cap)).run Tryz.prog (W0.setCell ⟨g, 1, none⟩ (.int .u8 (x.toNat : Int))) = .ok (.string HD) (W0.setCell ⟨g, 1, none⟩ (.int .u8 (x.toNat : Int))) := by
    rw [HHB.out]; exact (Hr.out.set 1 (by simp) x).conv 3 cap rfl
  have hH4 : HD.size ≤ 3 := by rw [HHB.out]; exact Nat.le_refl _
  have bX : Below w.heap.size w (W0.setCell ⟨g, 1, none⟩ (.int .u8 (x.toNat : Int))) := bl.setCell (p := ⟨g, 1, none⟩) hgw _
  clear Hr HHB
  go_wp2_with fail
  go_ret
  exact ⟨rfl, bX⟩

end Go.Proofs.YtmfmagfgcdaeeaaGreat.T1
