/- Texts of the proof, put together: Tc. No conditions. -/
import Derived.Test.YtmfmagfgcdaeeaaGreatHay

/- A free name renamed in the specification: the way through at signs that bind and would capture. -/
namespace Go.Proofs.YtmfmagfgcdaeeaaGreat.T1
open Go.RowKit
set_option maxRecDepth 100000
set_option linter.unusedVariables false

theorem conv2 (o m : UInt8) (w : World) : (convert 22 9 (.slice (some ⟨w.heap.size, 0, none⟩) 2 2)).run Tryz.prog (w.alloc (.cells #[.int .u8 (o.toNat : Int), .int .u8 (m.toNat : Int)] 5)) = .ok (.string (B [o, m])) (w.alloc (.cells #[.int .u8 (o.toNat : Int), .int .u8 (m.toNat : Int)] 5)) :=
  run_convert_bytes_back _ 22 9 5 ⟨w.heap.size, 0, none⟩ 2 [o, m] Tryz.underlying22 Tryz.underlying5 Tryz.underlying9 (fun j hj => by
    rw [add0]
    have hb : (w.alloc (.cells #[.int .u8 (o.toNat : Int), .int .u8 (m.toNat : Int)] 5)).heap[w.heap.size]? = some (.cells #[.int .u8 (o.toNat : Int), .int .u8 (m.toNat : Int)] 5 (0, 0)) := new_block0 _ _
    rcases j with _ | _ | j
    · exact cellOf2a hb
    · exact cellOf2b hb
    · simp at hj; omega)
theorem conv2d (o m : UInt8) (w : World) : (convert 22 9 (.slice (some ⟨w.heap.size, 0, none⟩) 2 2)).run Tryz.prog (w.alloc (.cells #[.int .u8 (o.toNat : Int), .int .u8 (m.toNat : Int)] 5)).drew = .ok (.string (B [o, m])) (w.alloc (.cells #[.int .u8 (o.toNat : Int), .int .u8 (m.toNat : Int)] 5)).drew :=
  run_convert_bytes_back _ 22 9 5 ⟨w.heap.size, 0, none⟩ 2 [o, m] Tryz.underlying22 Tryz.underlying5 Tryz.underlying9 (fun j hj => by
    rw [add0]
    have hb : (w.alloc (.cells #[.int .u8 (o.toNat : Int), .int .u8 (m.toNat : Int)] 5)).drew.heap[w.heap.size]? = some (.cells #[.int .u8 (o.toNat : Int), .int .u8 (m.toNat : Int)] 5 (0, 0)) := new_block0 _ _
    rcases j with _ | _ | j
    · exact cellOf2a hb
    · exact cellOf2b hb
    · simp at hj; omega)
set_option maxHeartbeats 4000000 in
theorem tb_capR (s U HD : ByteArray) (o : Int) (a a2 x y : UInt8) (OM P2 Q1 U2 U3 : ByteArray) (hP : P2.size ≤ 700) (hxm : ((x.toNat : Int) == (x.toNat : Int)) = true) (hxo : ((y.toNat : Int) != o) = true) (hs : 4 ≤ s.size) (hs3 : s.size ≤ 700) (hq : (o == (x.toNat : Int)) = false) (hl : (s.extract 0 4).data.toList = [a, 63, x, 46]) (hHB : HD = B [a2, 63, y, 46])
    (HF : ∀ w, Calls Tryz.prog 68 #[.string s] w fun e w' => e = .returned (.string U) ∧ Below w.heap.size w w') (HI : ∀ w, Calls Tryz.prog 69 #[.string U, .int .u8 o] w fun e w' => e = .returned (.bool true) ∧ w = w') (HH : ∀ w, Calls Tryz.prog 126 #[.string s] w fun e w' => e = .returned (.int .i64 4) ∧ w = w') (HB : ∀ w, Calls Tryz.prog 124 #[.string s] w fun e w' => e = .returned (.tuple #[.int .u8 (x.toNat : Int), .bool true]) ∧ w = w') (HK : ∀ w, Calls Tryz.prog 100 #[.string s] w fun e w' => e = .returned (.int .u8 63) ∧ w = w') (HF2 : ∀ w, Calls Tryz.prog 68 #[.string (s.extract 4 s.size)] w fun e w' => e = .returned (.string U2) ∧ Below w.heap.size w w') (HI2 : ∀ w, Calls Tryz.prog 69 #[.string U2, .int .u8 o] w fun e w' => e = .returned (.bool true) ∧ w = w') (HOM : ∀ w : World, (convert 22 9 (.slice (some ⟨w.heap.size, 0, none⟩) 2 2)).run Tryz.prog (w.alloc (.cells #[.int .u8 o, .int .u8 (x.toNat : Int)] 5)) = .ok (.string OM) (w.alloc (.cells #[.int .u8 o, .int .u8 (x.toNat : Int)] 5))) (HOMd : ∀ w : World, (convert 22 9 (.slice (some ⟨w.heap.size, 0, none⟩) 2 2)).run Tryz.prog (w.alloc (.cells #[.int .u8 o, .int .u8 (x.toNat : Int)] 5)).drew = .ok (.string OM) (w.alloc (.cells #[.int .u8 o, .int .u8 (x.toNat : Int)] 5)).drew) (HOMg : ∀ (v : World) (h : Nat), v.cell? ⟨h, 0, none⟩ = some (.int .u8 o) → v.cell? ⟨h, 1, none⟩ = some (.int .u8 (x.toNat : Int)) → (convert 22 9 (.slice (some ⟨h, 0, none⟩) 2 2)).run Tryz.prog v = .ok (.string OM) v) (HBO : ∀ w, Calls Tryz.prog 96 #[.string U2, .string OM] w fun e w' => e = .returned (.string U3) ∧ Below w.heap.size w w') (HFS : ∀ w, Calls Tryz.prog 125 #[.string U3] w fun e w' => e = .returned (.int .u8 (y.toNat : Int)) ∧ w = w') (HR1 : ∀ w, Calls Tryz.prog 76 #[.string (s.extract 4 s.size), .int .u8 (x.toNat : Int), .int .u8 (y.toNat : Int)] w fun e w' => e = .returned (.string Q1) ∧ Below w.heap.size w w') (HR : ∀ w, Calls Tryz.prog 76 #[.string Q1, .int .u8 o, .int .u8 (x.toNat : Int)] w fun e w' => e = .returned (.string P2) ∧ Below w.heap.size w w') (HS : ∀ w, Calls Tryz.prog 137 #[.int .u8 (a.toNat : Int), .int .u8 o, .int .u8 (x.toNat : Int)] w fun e w' => e = .returned (.int .u8 (a2.toNat : Int)) ∧ w = w') (w : World) :
    Calls Tryz.prog 76 #[.string s, .int .u8 o, .int .u8 (x.toNat : Int)] w fun e w' => e = .returned (.string (HD ++ P2)) ∧ Below w.heap.size w w' := by
  have Hl := Lib.hid hl
  have HHB := Lib.hid hHB
  clear hl hHB
  have HF' := Lib.hid HF
  have HI' := Lib.hid HI
  have HH' := Lib.hid HH
  have HB' := Lib.hid HB
  have HK' := Lib.hid HK
  have HF2' := Lib.hid HF2
  have HI2' := Lib.hid HI2
  have HOM' := Lib.hid HOM
  have HOMd' := Lib.hid HOMd
  have HOMg' := Lib.hid HOMg
  have HBO' := Lib.hid HBO
  have HFS' := Lib.hid HFS
  have HR1' := Lib.hid HR1
  have HR' := Lib.hid HR
  have HS' := Lib.hid HS
  clear HF HI HH HB HK HF2 HI2 HOM HOMd HOMg HBO HFS HR1 HR HS
  go_enter Tryz.func76, Tryz.ntmps76
  go_wp2_with fail
  refine (HF'.out _).mono ?_
  rintro e w1 ⟨rfl, b1⟩
  go_wp2_with fail
  refine (HI'.out _).mono ?_
  rintro e w2 ⟨rfl, rfl⟩
  go_wp2_with fail
  refine (HH'.out _).mono ?_
  rintro e w3 ⟨rfl, rfl⟩
  obtain ⟨cap, W, hcv, bW, hr⟩ := conv_head (s.extract 0 4) _ 4 Hl.out rfl w1
  have bl := blow_go b1 bW
  have hgw : w.heap.size ≤ w1.heap.size := b1.size
  obtain ⟨g, hg⟩ : ∃ g, g = w1.heap.size := ⟨_, rfl⟩
  rw [← hg] at hcv hr hgw
  clear b1 bW hg
  have Hr := Lib.hid hr
  clear hr
  go_wp2_with fail
  clear hcv
  refine (HB'.out _).mono ?_
  rintro e w4 ⟨rfl, rfl⟩
  go_wp2_with fail
  go_wp2_with fail
  refine (HF2'.out _).mono ?_
  rintro e w50 ⟨rfl, b50⟩
  replace Hr := Lib.hid (Hr.out.below b50)
  replace bl := blow_go bl b50
  clear b50
  go_wp2_with fail
  refine (HI2'.out _).mono ?_
  rintro e w51 ⟨rfl, rfl⟩
  go_wp2_with fail
  go_cut [11] (fun s11 wx => s11 = .int .u8 (y.toNat : Int) ∧ Below w.heap.size w wx ∧ HRow wx g [a, 63, x, 46])
  case first =>
    have hcv := HOM'.out
    have hcd := HOMd'.out
    have hrr := Hr.out
    have hrd := Hr.out.drew
    clear Hr HHB HR1' HR' HK' HOM' HOMd'
    go_region_with (first | (go_at_call 68; refine (HF2'.out _).mono ?_; rintro e v1 ⟨rfl, d1⟩; have k1 : Below w.heap.size w v1 := (by first | exact blow_go bl.drew d1 | exact blow_go (bl.alloc bl.size _).drew d1); have r1 := (by first | exact hrd.below d1 | exact (HRow.drew (hrr.below ((Below.refl _ _).alloc (Nat.le_refl _) _))).below d1 : HRow v1 g [a, 63, x, 46]); try (have cvx := HOMg'.out v1 w50.heap.size ((d1.cell (p := ⟨w50.heap.size, 0, none⟩) (by simp)).trans (cellOf2a (b := w50.heap.size) (new_block0 w50 _))) ((d1.cell (p := ⟨w50.heap.size, 1, none⟩) (by simp)).trans (cellOf2b (b := w50.heap.size) (new_block0 w50 _))))) | (go_at_call 96; refine (HBO'.out _).mono ?_; rintro e v2 ⟨rfl, d2⟩; have k2 : Below w.heap.size w v2 := (by first | exact blow_go k1 d2 | exact blow_go (k1.alloc k1.size _) d2); have r2 := (by first | exact r1.below d2 | exact (r1.below ((Below.refl _ _).alloc (Nat.le_refl _) _)).below d2 : HRow v2 g [a, 63, x, 46])) | (go_at_call 125; refine (HFS'.out _).mono ?_; rintro e v3 ⟨rfl, rfl⟩))
    all_goals (go_wp2_with fail; go_meet; exact ⟨rfl, k2, r2⟩)
  case rest =>
    obtain ⟨rfl, bl9, hr9⟩ := hcut
    clear Hr bl
    have Hr := Lib.hid hr9
    have bl := bl9
    clear hr9 bl9
    go_wp2_with fail
    refine (HR1'.out _).mono ?_
    rintro e w59 ⟨rfl, b59⟩
    replace Hr := Lib.hid (Hr.out.below b59)
    replace bl := blow_go bl b59
    clear b59
    go_wp2_with fail
    refine (HR'.out _).mono ?_
    rintro e w60 ⟨rfl, b60⟩
    replace Hr := Lib.hid (Hr.out.below b60)
    replace bl := blow_go bl b60
    clear b60
    obtain ⟨W0, hW0⟩ : ∃ W0, W0 = w60 := ⟨_, rfl⟩
    rw [← hW0] at Hr bl ⊢
    clear hW0
    go_wp2_with fail
    refine (HK'.out _).mono ?_
    rintro e w70 ⟨rfl, rfl⟩
    have x0 := Hr.out.cell 0 (by simp)
    have y0 := Hr.out.free 0 (by simp)
    have x2 := Hr.out.cell 2 (by simp)
    have y2 := Hr.out.free 2 (by simp)
    simp only [List.getElem_cons_zero, List.getElem_cons_succ] at x0 x2
    go_wp2_with fail
    refine (HS'.out _).mono ?_
    rintro e w71 ⟨rfl, rfl⟩
    have HC : (convert 22 9 (.slice (some ⟨g, 0, none⟩) 4 cap)).run Tryz.prog ((W0.setCell ⟨g, 0, none⟩ (.int .u8 (a2.toNat : Int))).setCell ⟨g, 2, none⟩ (.int .u8 (y.toNat : Int))) = .ok (.string HD) ((W0.setCell ⟨g, 0, none⟩ (.int .u8 (a2.toNat : Int))).setCell ⟨g, 2, none⟩ (.int .u8 (y.toNat : Int))) := by
      rw [HHB.out]; exact ((Hr.out.set 0 (by simp) a2).set 2 (by simp) y).conv 4 cap rfl
    have hH4 : HD.size ≤ 4 := by rw [HHB.out]; exact Nat.le_refl _
    have bX : Below w.heap.size w ((W0.setCell ⟨g, 0, none⟩ (.int .u8 (a2.toNat : Int))).setCell ⟨g, 2, none⟩ (.int .u8 (y.toNat : Int))) := (bl.setCell (p := ⟨g, 0, none⟩) hgw _).setCell (p := ⟨g, 2, none⟩) hgw _
    clear Hr HHB
    go_wp2_with fail
    go_ret
    exact ⟨rfl, bX⟩
set_option maxHeartbeats 4000000 in
theorem tb_capO (s U HD : ByteArray) (o : Int) (x y : UInt8) (OM P2 Q1 U2 U3 : ByteArray) (hP : P2.size ≤ 700) (hxm : ((x.toNat : Int) == (x.toNat : Int)) = true) (hxo : ((y.toNat : Int) != o) = true) (hs : 3 ≤ s.size) (hs3 : s.size ≤ 700) (hq : (o == (x.toNat : Int)) = false) (hl : (s.extract 0 3).data.toList = [35, x, 46]) (hHB : HD = B [35, y, 46])
    (HF : ∀ w, Calls Tryz.prog 68 #[.string s] w fun e w' => e = .returned (.string U) ∧ Below w.heap.size w w') (HI : ∀ w, Calls Tryz.prog 69 #[.string U, .int .u8 o] w fun e w' => e = .returned (.bool true) ∧ w = w') (HH : ∀ w, Calls Tryz.prog 126 #[.string s] w fun e w' => e = .returned (.int .i64 3) ∧ w = w') (HB : ∀ w, Calls Tryz.prog 124 #[.string s] w fun e w' => e = .returned (.tuple #[.int .u8 (x.toNat : Int), .bool true]) ∧ w = w') (HK : ∀ w, Calls Tryz.prog 100 #[.string s] w fun e w' => e = .returned (.int .u8 35) ∧ w = w') (HF2 : ∀ w, Calls Tryz.prog 68 #[.string (s.extract 3 s.size)] w fun e w' => e = .returned (.string U2) ∧ Below w.heap.size w w') (HI2 : ∀ w, Calls Tryz.prog 69 #[.string U2, .int .u8 o] w fun e w' => e = .returned (.bool true) ∧ w = w') (HOM : ∀ w : World, (convert 22 9 (.slice (some ⟨w.heap.size, 0, none⟩) 2 2)).run Tryz.prog (w.alloc (.cells #[.int .u8 o, .int .u8 (x.toNat : Int)] 5)) = .ok (.string OM) (w.alloc (.cells #[.int .u8 o, .int .u8 (x.toNat : Int)] 5))) (HOMd : ∀ w : World, (convert 22 9 (.slice (some ⟨w.heap.size, 0, none⟩) 2 2)).run Tryz.prog (w.alloc (.cells #[.int .u8 o, .int .u8 (x.toNat : Int)] 5)).drew = .ok (.string OM) (w.alloc (.cells #[.int .u8 o, .int .u8 (x.toNat : Int)] 5)).drew) (HOMg : ∀ (v : World) (h : Nat), v.cell? ⟨h, 0, none⟩ = some (.int .u8 o) → v.cell? ⟨h, 1, none⟩ = some (.int .u8 (x.toNat : Int)) → (convert 22 9 (.slice (some ⟨h, 0, none⟩) 2 2)).run Tryz.prog v = .ok (.string OM) v) (HBO : ∀ w, Calls Tryz.prog 96 #[.string U2, .string OM] w fun e w' => e = .returned (.string U3) ∧ Below w.heap.size w w') (HFS : ∀ w, Calls Tryz.prog 125 #[.string U3] w fun e w' => e = .returned (.int .u8 (y.toNat : Int)) ∧ w = w') (HR1 : ∀ w, Calls Tryz.prog 76 #[.string (s.extract 3 s.size), .int .u8 (x.toNat : Int), .int .u8 (y.toNat : Int)] w fun e w' => e = .returned (.string Q1) ∧ Below w.heap.size w w') (HR : ∀ w, Calls Tryz.prog 76 #[.string Q1, .int .u8 o, .int .u8 (x.toNat : Int)] w fun e w' => e = .returned (.string P2) ∧ Below w.heap.size w w') (w : World) :
    Calls Tryz.prog 76 #[.string s, .int .u8 o, .int .u8 (x.toNat : Int)] w fun e w' => e = .returned (.string (HD ++ P2)) ∧ Below w.heap.size w w' := by
  have Hl := Lib.hid hl
  have HHB := Lib.hid hHB
  clear hl hHB
  have HF' := Lib.hid HF
  have HI' := Lib.hid HI
  have HH' := Lib.hid HH
  have HB' := Lib.hid HB
  have HK' := Lib.hid HK
  have HF2' := Lib.hid HF2
  have HI2' := Lib.hid HI2
  have HOM' := Lib.hid HOM
  have HOMd' := Lib.hid HOMd
  have HOMg' := Lib.hid HOMg
  have HBO' := Lib.hid HBO
  have HFS' := Lib.hid HFS
  have HR1' := Lib.hid HR1
  have HR' := Lib.hid HR
  clear HF HI HH HB HK HF2 HI2 HOM HOMd HOMg HBO HFS HR1 HR
  go_enter Tryz.func76, Tryz.ntmps76
  go_wp2_with fail
  refine (HF'.out _).mono ?_
  rintro e w1 ⟨rfl, b1⟩
  go_wp2_with fail
  refine (HI'.out _).mono ?_
  rintro e w2 ⟨rfl, rfl⟩
  go_wp2_with fail
  refine (HH'.out _).mono ?_
  rintro e w3 ⟨rfl, rfl⟩
  obtain ⟨cap, W, hcv, bW, hr⟩ := conv_head (s.extract 0 3) _ 3 Hl.out rfl w1
  have bl := blow_go b1 bW
  have hgw : w.heap.size ≤ w1.heap.size := b1.size
  obtain ⟨g, hg⟩ : ∃ g, g = w1.heap.size := ⟨_, rfl⟩
  rw [← hg] at hcv hr hgw
  clear b1 bW hg
  have Hr := Lib.hid hr
  clear hr
  go_wp2_with fail
  clear hcv
  refine (HB'.out _).mono ?_
  rintro e w4 ⟨rfl, rfl⟩
  go_wp2_with fail
  go_wp2_with fail
  refine (HF2'.out _).mono ?_
  rintro e w50 ⟨rfl, b50⟩
  replace Hr := Lib.hid (Hr.out.below b50)
  replace bl := blow_go bl b50
  clear b50
  go_wp2_with fail
  refine (HI2'.out _).mono ?_
  rintro e w51 ⟨rfl, rfl⟩
  go_wp2_with fail
  go_cut [11] (fun s11 wx => s11 = .int .u8 (y.toNat : Int) ∧ Below w.heap.size w wx ∧ HRow wx g [35, x, 46])
  case first =>
    have hcv := HOM'.out
    have hcd := HOMd'.out
    have hrr := Hr.out
    have hrd := Hr.out.drew
    clear Hr HHB HR1' HR' HK' HOM' HOMd'
    go_region_with (first | (go_at_call 68; refine (HF2'.out _).mono ?_; rintro e v1 ⟨rfl, d1⟩; have k1 : Below w.heap.size w v1 := (by first | exact blow_go bl.drew d1 | exact blow_go (bl.alloc bl.size _).drew d1); have r1 := (by first | exact hrd.below d1 | exact (HRow.drew (hrr.below ((Below.refl _ _).alloc (Nat.le_refl _) _))).below d1 : HRow v1 g [35, x, 46]); try (have cvx := HOMg'.out v1 w50.heap.size ((d1.cell (p := ⟨w50.heap.size, 0, none⟩) (by simp)).trans (cellOf2a (b := w50.heap.size) (new_block0 w50 _))) ((d1.cell (p := ⟨w50.heap.size, 1, none⟩) (by simp)).trans (cellOf2b (b := w50.heap.size) (new_block0 w50 _))))) | (go_at_call 96; refine (HBO'.out _).mono ?_; rintro e v2 ⟨rfl, d2⟩; have k2 : Below w.heap.size w v2 := (by first | exact blow_go k1 d2 | exact blow_go (k1.alloc k1.size _) d2); have r2 := (by first | exact r1.below d2 | exact (r1.below ((Below.refl _ _).alloc (Nat.le_refl _) _)).below d2 : HRow v2 g [35, x, 46])) | (go_at_call 125; refine (HFS'.out _).mono ?_; rintro e v3 ⟨rfl, rfl⟩))
    all_goals (go_wp2_with fail; go_meet; exact ⟨rfl, k2, r2⟩)
  case rest =>
    obtain ⟨rfl, bl9, hr9⟩ := hcut
    clear Hr bl
    have Hr := Lib.hid hr9
    have bl := bl9
    clear hr9 bl9
    go_wp2_with fail
    refine (HR1'.out _).mono ?_
    rintro e w59 ⟨rfl, b59⟩
    replace Hr := Lib.hid (Hr.out.below b59)
    replace bl := blow_go bl b59
    clear b59
    go_wp2_with fail
    refine (HR'.out _).mono ?_
    rintro e w60 ⟨rfl, b60⟩
    replace Hr := Lib.hid (Hr.out.below b60)
    replace bl := blow_go bl b60
    clear b60
    obtain ⟨W0, hW0⟩ : ∃ W0, W0 = w60 := ⟨_, rfl⟩
    rw [← hW0] at Hr bl ⊢
    clear hW0
    go_wp2_with fail
    refine (HK'.out _).mono ?_
    rintro e w70 ⟨rfl, rfl⟩
    have x1 := Hr.out.cell 1 (by simp)
    have y1 := Hr.out.free 1 (by simp)
    simp only [List.getElem_cons_zero, List.getElem_cons_succ] at x1
    have HC : (convert 22 9 (.slice (some ⟨g, 0, none⟩) 3 cap)).run Tryz.prog (W0.setCell ⟨g, 1, none⟩ (.int .u8 (y.toNat : Int))) = .ok (.string HD) (W0.setCell ⟨g, 1, none⟩ (.int .u8 (y.toNat : Int))) := by
      rw [HHB.out]; exact (Hr.out.set 1 (by simp) y).conv 3 cap rfl
    have hH4 : HD.size ≤ 3 := by rw [HHB.out]; exact Nat.le_refl _
    have bX : Below w.heap.size w (W0.setCell ⟨g, 1, none⟩ (.int .u8 (y.toNat : Int))) := bl.setCell (p := ⟨g, 1, none⟩) hgw _
    clear Hr HHB
    go_wp2_with fail
    go_ret
    exact ⟨rfl, bX⟩
set_option maxHeartbeats 4000000 in
theorem tb_capSR (s U HD : ByteArray) (o : Int) (a a2 x y : UInt8) (OM Q1 U2 U3 : ByteArray) (hP : Q1.size ≤ 700) (hxm : ((x.toNat : Int) == (x.toNat : Int)) = true) (hxo : ((y.toNat : Int) != o) = false) (hs : 4 ≤ s.size) (hs3 : s.size ≤ 700) (hq : (o == (x.toNat : Int)) = false) (hl : (s.extract 0 4).data.toList = [a, 63, x, 46]) (hHB : HD = B [a2, 63, y, 46])
    (HF : ∀ w, Calls Tryz.prog 68 #[.string s] w fun e w' => e = .returned (.string U) ∧ Below w.heap.size w w') (HI : ∀ w, Calls Tryz.prog 69 #[.string U, .int .u8 o] w fun e w' => e = .returned (.bool true) ∧ w = w') (HH : ∀ w, Calls Tryz.prog 126 #[.string s] w fun e w' => e = .returned (.int .i64 4) ∧ w = w') (HB : ∀ w, Calls Tryz.prog 124 #[.string s] w fun e w' => e = .returned (.tuple #[.int .u8 (x.toNat : Int), .bool true]) ∧ w = w') (HK : ∀ w, Calls Tryz.prog 100 #[.string s] w fun e w' => e = .returned (.int .u8 63) ∧ w = w') (HF2 : ∀ w, Calls Tryz.prog 68 #[.string (s.extract 4 s.size)] w fun e w' => e = .returned (.string U2) ∧ Below w.heap.size w w') (HI2 : ∀ w, Calls Tryz.prog 69 #[.string U2, .int .u8 o] w fun e w' => e = .returned (.bool true) ∧ w = w') (HOM : ∀ w : World, (convert 22 9 (.slice (some ⟨w.heap.size, 0, none⟩) 2 2)).run Tryz.prog (w.alloc (.cells #[.int .u8 o, .int .u8 (x.toNat : Int)] 5)) = .ok (.string OM) (w.alloc (.cells #[.int .u8 o, .int .u8 (x.toNat : Int)] 5))) (HOMd : ∀ w : World, (convert 22 9 (.slice (some ⟨w.heap.size, 0, none⟩) 2 2)).run Tryz.prog (w.alloc (.cells #[.int .u8 o, .int .u8 (x.toNat : Int)] 5)).drew = .ok (.string OM) (w.alloc (.cells #[.int .u8 o, .int .u8 (x.toNat : Int)] 5)).drew) (HOMg : ∀ (v : World) (h : Nat), v.cell? ⟨h, 0, none⟩ = some (.int .u8 o) → v.cell? ⟨h, 1, none⟩ = some (.int .u8 (x.toNat : Int)) → (convert 22 9 (.slice (some ⟨h, 0, none⟩) 2 2)).run Tryz.prog v = .ok (.string OM) v) (HBO : ∀ w, Calls Tryz.prog 96 #[.string U2, .string OM] w fun e w' => e = .returned (.string U3) ∧ Below w.heap.size w w') (HFS : ∀ w, Calls Tryz.prog 125 #[.string U3] w fun e w' => e = .returned (.int .u8 (y.toNat : Int)) ∧ w = w') (HR1 : ∀ w, Calls Tryz.prog 76 #[.string (s.extract 4 s.size), .int .u8 (x.toNat : Int), .int .u8 (y.toNat : Int)] w fun e w' => e = .returned (.string Q1) ∧ Below w.heap.size w w') (HS : ∀ w, Calls Tryz.prog 137 #[.int .u8 (a.toNat : Int), .int .u8 o, .int .u8 (x.toNat : Int)] w fun e w' => e = .returned (.int .u8 (a2.toNat : Int)) ∧ w = w') (w : World) :
    Calls Tryz.prog 76 #[.string s, .int .u8 o, .int .u8 (x.toNat : Int)] w fun e w' => e = .returned (.string (HD ++ Q1)) ∧ Below w.heap.size w w' := by
  have Hl := Lib.hid hl
  have HHB := Lib.hid hHB
  clear hl hHB
  have HF' := Lib.hid HF
  have HI' := Lib.hid HI
  have HH' := Lib.hid HH
  have HB' := Lib.hid HB
  have HK' := Lib.hid HK
  have HF2' := Lib.hid HF2
  have HI2' := Lib.hid HI2
  have HOM' := Lib.hid HOM
  have HOMd' := Lib.hid HOMd
  have HOMg' := Lib.hid HOMg
  have HBO' := Lib.hid HBO
  have HFS' := Lib.hid HFS
  have HR1' := Lib.hid HR1
  have HS' := Lib.hid HS
  clear HF HI HH HB HK HF2 HI2 HOM HOMd HOMg HBO HFS HR1 HS
  go_enter Tryz.func76, Tryz.ntmps76
  go_wp2_with fail
  refine (HF'.out _).mono ?_
  rintro e w1 ⟨rfl, b1⟩
  go_wp2_with fail
  refine (HI'.out _).mono ?_
  rintro e w2 ⟨rfl, rfl⟩
  go_wp2_with fail
  refine (HH'.out _).mono ?_
  rintro e w3 ⟨rfl, rfl⟩
  obtain ⟨cap, W, hcv, bW, hr⟩ := conv_head (s.extract 0 4) _ 4 Hl.out rfl w1
  have bl := blow_go b1 bW
  have hgw : w.heap.size ≤ w1.heap.size := b1.size
  obtain ⟨g, hg⟩ : ∃ g, g = w1.heap.size := ⟨_, rfl⟩
  rw [← hg] at hcv hr hgw
  clear b1 bW hg
  have Hr := Lib.hid hr
  clear hr
  go_wp2_with fail
  clear hcv
  refine (HB'.out _).mono ?_
  rintro e w4 ⟨rfl, rfl⟩
  go_wp2_with fail
  go_wp2_with fail
  refine (HF2'.out _).mono ?_
  rintro e w50 ⟨rfl, b50⟩
  replace Hr := Lib.hid (Hr.out.below b50)
  replace bl := blow_go bl b50
  clear b50
  go_wp2_with fail
  refine (HI2'.out _).mono ?_
  rintro e w51 ⟨rfl, rfl⟩
  go_wp2_with fail
  go_cut [11] (fun s11 wx => s11 = .int .u8 (y.toNat : Int) ∧ Below w.heap.size w wx ∧ HRow wx g [a, 63, x, 46])
  case first =>
    have hcv := HOM'.out
    have hcd := HOMd'.out
    have hrr := Hr.out
    have hrd := Hr.out.drew
    clear Hr HHB HR1' HK' HOM' HOMd'
    go_region_with (first | (go_at_call 68; refine (HF2'.out _).mono ?_; rintro e v1 ⟨rfl, d1⟩; have k1 : Below w.heap.size w v1 := (by first | exact blow_go bl.drew d1 | exact blow_go (bl.alloc bl.size _).drew d1); have r1 := (by first | exact hrd.below d1 | exact (HRow.drew (hrr.below ((Below.refl _ _).alloc (Nat.le_refl _) _))).below d1 : HRow v1 g [a, 63, x, 46]); try (have cvx := HOMg'.out v1 w50.heap.size ((d1.cell (p := ⟨w50.heap.size, 0, none⟩) (by simp)).trans (cellOf2a (b := w50.heap.size) (new_block0 w50 _))) ((d1.cell (p := ⟨w50.heap.size, 1, none⟩) (by simp)).trans (cellOf2b (b := w50.heap.size) (new_block0 w50 _))))) | (go_at_call 96; refine (HBO'.out _).mono ?_; rintro e v2 ⟨rfl, d2⟩; have k2 : Below w.heap.size w v2 := (by first | exact blow_go k1 d2 | exact blow_go (k1.alloc k1.size _) d2); have r2 := (by first | exact r1.below d2 | exact (r1.below ((Below.refl _ _).alloc (Nat.le_refl _) _)).below d2 : HRow v2 g [a, 63, x, 46])) | (go_at_call 125; refine (HFS'.out _).mono ?_; rintro e v3 ⟨rfl, rfl⟩))
    all_goals (go_wp2_with fail; go_meet; exact ⟨rfl, k2, r2⟩)
  case rest =>
    obtain ⟨rfl, bl9, hr9⟩ := hcut
    clear Hr bl
    have Hr := Lib.hid hr9
    have bl := bl9
    clear hr9 bl9
    go_wp2_with fail
    refine (HR1'.out _).mono ?_
    rintro e w59 ⟨rfl, b59⟩
    replace Hr := Lib.hid (Hr.out.below b59)
    replace bl := blow_go bl b59
    clear b59
    obtain ⟨W0, hW0⟩ : ∃ W0, W0 = w59 := ⟨_, rfl⟩
    rw [← hW0] at Hr bl ⊢
    clear hW0
    go_wp2_with fail
    refine (HK'.out _).mono ?_
    rintro e w70 ⟨rfl, rfl⟩
    have x0 := Hr.out.cell 0 (by simp)
    have y0 := Hr.out.free 0 (by simp)
    have x2 := Hr.out.cell 2 (by simp)
    have y2 := Hr.out.free 2 (by simp)
    simp only [List.getElem_cons_zero, List.getElem_cons_succ] at x0 x2
    go_wp2_with fail
    refine (HS'.out _).mono ?_
    rintro e w71 ⟨rfl, rfl⟩
    have HC : (convert 22 9 (.slice (some ⟨g, 0, none⟩) 4 cap)).run Tryz.prog ((W0.setCell ⟨g, 0, none⟩ (.int .u8 (a2.toNat : Int))).setCell ⟨g, 2, none⟩ (.int .u8 (y.toNat : Int))) = .ok (.string HD) ((W0.setCell ⟨g, 0, none⟩ (.int .u8 (a2.toNat : Int))).setCell ⟨g, 2, none⟩ (.int .u8 (y.toNat : Int))) := by
      rw [HHB.out]; exact ((Hr.out.set 0 (by simp) a2).set 2 (by simp) y).conv 4 cap rfl
    have hH4 : HD.size ≤ 4 := by rw [HHB.out]; exact Nat.le_refl _
    have bX : Below w.heap.size w ((W0.setCell ⟨g, 0, none⟩ (.int .u8 (a2.toNat : Int))).setCell ⟨g, 2, none⟩ (.int .u8 (y.toNat : Int))) := (bl.setCell (p := ⟨g, 0, none⟩) hgw _).setCell (p := ⟨g, 2, none⟩) hgw _
    clear Hr HHB
    go_wp2_with fail
    go_ret
    exact ⟨rfl, bX⟩
set_option maxHeartbeats 4000000 in
theorem tb_capSO (s U HD : ByteArray) (o : Int) (x y : UInt8) (OM Q1 U2 U3 : ByteArray) (hP : Q1.size ≤ 700) (hxm : ((x.toNat : Int) == (x.toNat : Int)) = true) (hxo : ((y.toNat : Int) != o) = false) (hs : 3 ≤ s.size) (hs3 : s.size ≤ 700) (hq : (o == (x.toNat : Int)) = false) (hl : (s.extract 0 3).data.toList = [35, x, 46]) (hHB : HD = B [35, y, 46])
    (HF : ∀ w, Calls Tryz.prog 68 #[.string s] w fun e w' => e = .returned (.string U) ∧ Below w.heap.size w w') (HI : ∀ w, Calls Tryz.prog 69 #[.string U, .int .u8 o] w fun e w' => e = .returned (.bool true) ∧ w = w') (HH : ∀ w, Calls Tryz.prog 126 #[.string s] w fun e w' => e = .returned (.int .i64 3) ∧ w = w') (HB : ∀ w, Calls Tryz.prog 124 #[.string s] w fun e w' => e = .returned (.tuple #[.int .u8 (x.toNat : Int), .bool true]) ∧ w = w') (HK : ∀ w, Calls Tryz.prog 100 #[.string s] w fun e w' => e = .returned (.int .u8 35) ∧ w = w') (HF2 : ∀ w, Calls Tryz.prog 68 #[.string (s.extract 3 s.size)] w fun e w' => e = .returned (.string U2) ∧ Below w.heap.size w w') (HI2 : ∀ w, Calls Tryz.prog 69 #[.string U2, .int .u8 o] w fun e w' => e = .returned (.bool true) ∧ w = w') (HOM : ∀ w : World, (convert 22 9 (.slice (some ⟨w.heap.size, 0, none⟩) 2 2)).run Tryz.prog (w.alloc (.cells #[.int .u8 o, .int .u8 (x.toNat : Int)] 5)) = .ok (.string OM) (w.alloc (.cells #[.int .u8 o, .int .u8 (x.toNat : Int)] 5))) (HOMd : ∀ w : World, (convert 22 9 (.slice (some ⟨w.heap.size, 0, none⟩) 2 2)).run Tryz.prog (w.alloc (.cells #[.int .u8 o, .int .u8 (x.toNat : Int)] 5)).drew = .ok (.string OM) (w.alloc (.cells #[.int .u8 o, .int .u8 (x.toNat : Int)] 5)).drew) (HOMg : ∀ (v : World) (h : Nat), v.cell? ⟨h, 0, none⟩ = some (.int .u8 o) → v.cell? ⟨h, 1, none⟩ = some (.int .u8 (x.toNat : Int)) → (convert 22 9 (.slice (some ⟨h, 0, none⟩) 2 2)).run Tryz.prog v = .ok (.string OM) v) (HBO : ∀ w, Calls Tryz.prog 96 #[.string U2, .string OM] w fun e w' => e = .returned (.string U3) ∧ Below w.heap.size w w') (HFS : ∀ w, Calls Tryz.prog 125 #[.string U3] w fun e w' => e = .returned (.int .u8 (y.toNat : Int)) ∧ w = w') (HR1 : ∀ w, Calls Tryz.prog 76 #[.string (s.extract 3 s.size), .int .u8 (x.toNat : Int), .int .u8 (y.toNat : Int)] w fun e w' => e = .returned (.string Q1) ∧ Below w.heap.size w w') (w : World) :
    Calls Tryz.prog 76 #[.string s, .int .u8 o, .int .u8 (x.toNat : Int)] w fun e w' => e = .returned (.string (HD ++ Q1)) ∧ Below w.heap.size w w' := by
  have Hl := Lib.hid hl
  have HHB := Lib.hid hHB
  clear hl hHB
  have HF' := Lib.hid HF
  have HI' := Lib.hid HI
  have HH' := Lib.hid HH
  have HB' := Lib.hid HB
  have HK' := Lib.hid HK
  have HF2' := Lib.hid HF2
  have HI2' := Lib.hid HI2
  have HOM' := Lib.hid HOM
  have HOMd' := Lib.hid HOMd
  have HOMg' := Lib.hid HOMg
  have HBO' := Lib.hid HBO
  have HFS' := Lib.hid HFS
  have HR1' := Lib.hid HR1
  clear HF HI HH HB HK HF2 HI2 HOM HOMd HOMg HBO HFS HR1
  go_enter Tryz.func76, Tryz.ntmps76
  go_wp2_with fail
  refine (HF'.out _).mono ?_
  rintro e w1 ⟨rfl, b1⟩
  go_wp2_with fail
  refine (HI'.out _).mono ?_
  rintro e w2 ⟨rfl, rfl⟩
  go_wp2_with fail
  refine (HH'.out _).mono ?_
  rintro e w3 ⟨rfl, rfl⟩
  obtain ⟨cap, W, hcv, bW, hr⟩ := conv_head (s.extract 0 3) _ 3 Hl.out rfl w1
  have bl := blow_go b1 bW
  have hgw : w.heap.size ≤ w1.heap.size := b1.size
  obtain ⟨g, hg⟩ : ∃ g, g = w1.heap.size := ⟨_, rfl⟩
  rw [← hg] at hcv hr hgw
  clear b1 bW hg
  have Hr := Lib.hid hr
  clear hr
  go_wp2_with fail
  clear hcv
  refine (HB'.out _).mono ?_
  rintro e w4 ⟨rfl, rfl⟩
  go_wp2_with fail
  go_wp2_with fail
  refine (HF2'.out _).mono ?_
  rintro e w50 ⟨rfl, b50⟩
  replace Hr := Lib.hid (Hr.out.below b50)
  replace bl := blow_go bl b50
  clear b50
  go_wp2_with fail
  refine (HI2'.out _).mono ?_
  rintro e w51 ⟨rfl, rfl⟩
  go_wp2_with fail
  go_cut [11] (fun s11 wx => s11 = .int .u8 (y.toNat : Int) ∧ Below w.heap.size w wx ∧ HRow wx g [35, x, 46])
  case first =>
    have hcv := HOM'.out
    have hcd := HOMd'.out
    have hrr := Hr.out
    have hrd := Hr.out.drew
    clear Hr HHB HR1' HK' HOM' HOMd'
    go_region_with (first | (go_at_call 68; refine (HF2'.out _).mono ?_; rintro e v1 ⟨rfl, d1⟩; have k1 : Below w.heap.size w v1 := (by first | exact blow_go bl.drew d1 | exact blow_go (bl.alloc bl.size _).drew d1); have r1 := (by first | exact hrd.below d1 | exact (HRow.drew (hrr.below ((Below.refl _ _).alloc (Nat.le_refl _) _))).below d1 : HRow v1 g [35, x, 46]); try (have cvx := HOMg'.out v1 w50.heap.size ((d1.cell (p := ⟨w50.heap.size, 0, none⟩) (by simp)).trans (cellOf2a (b := w50.heap.size) (new_block0 w50 _))) ((d1.cell (p := ⟨w50.heap.size, 1, none⟩) (by simp)).trans (cellOf2b (b := w50.heap.size) (new_block0 w50 _))))) | (go_at_call 96; refine (HBO'.out _).mono ?_; rintro e v2 ⟨rfl, d2⟩; have k2 : Below w.heap.size w v2 := (by first | exact blow_go k1 d2 | exact blow_go (k1.alloc k1.size _) d2); have r2 := (by first | exact r1.below d2 | exact (r1.below ((Below.refl _ _).alloc (Nat.le_refl _) _)).below d2 : HRow v2 g [35, x, 46])) | (go_at_call 125; refine (HFS'.out _).mono ?_; rintro e v3 ⟨rfl, rfl⟩))
    all_goals (go_wp2_with fail; go_meet; exact ⟨rfl, k2, r2⟩)
  case rest =>
    obtain ⟨rfl, bl9, hr9⟩ := hcut
    clear Hr bl
    have Hr := Lib.hid hr9
    have bl := bl9
    clear hr9 bl9
    go_wp2_with fail
    refine (HR1'.out _).mono ?_
    rintro e w59 ⟨rfl, b59⟩
    replace Hr := Lib.hid (Hr.out.below b59)
    replace bl := blow_go bl b59
    clear b59
    obtain ⟨W0, hW0⟩ : ∃ W0, W0 = w59 := ⟨_, rfl⟩
    rw [← hW0] at Hr bl ⊢
    clear hW0
    go_wp2_with fail
    refine (HK'.out _).mono ?_
    rintro e w70 ⟨rfl, rfl⟩
    have x1 := Hr.out.cell 1 (by simp)
    have y1 := Hr.out.free 1 (by simp)
    simp only [List.getElem_cons_zero, List.getElem_cons_succ] at x1
    have HC : (convert 22 9 (.slice (some ⟨g, 0, none⟩) 3 cap)).run Tryz.prog (W0.setCell ⟨g, 1, none⟩ (.int .u8 (y.toNat : Int))) = .ok (.string HD) (W0.setCell ⟨g, 1, none⟩ (.int .u8 (y.toNat : Int))) := by
      rw [HHB.out]; exact (Hr.out.set 1 (by simp) y).conv 3 cap rfl
    have hH4 : HD.size ≤ 3 := by rw [HHB.out]; exact Nat.le_refl _
    have bX : Below w.heap.size w (W0.setCell ⟨g, 1, none⟩ (.int .u8 (y.toNat : Int))) := bl.setCell (p := ⟨g, 1, none⟩) hgw _
    clear Hr HHB
    go_wp2_with fail
    go_ret
    exact ⟨rfl, bX⟩

end Go.Proofs.YtmfmagfgcdaeeaaGreat.T1
