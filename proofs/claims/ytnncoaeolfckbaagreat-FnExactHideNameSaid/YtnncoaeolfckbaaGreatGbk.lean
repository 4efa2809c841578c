/- Texts of the proof, put together: Nu. No conditions. -/
import Derived.Test.YtnncoaeolfckbaaGreatGbj

/- Names that are used, where dead parts are left out: in the specification. -/
namespace Go.Proofs.YtnncoaeolfckbaaGreat.T1
open Go.RowKit
set_option maxRecDepth 100000
set_option linter.unusedVariables false
set_option linter.unusedSimpArgs false

set_option maxHeartbeats 4000000 in
theorem nu_dead (s0 s : ByteArray)  (HS : ∀ w, Calls Tryz.prog 65 #[.string s0] w fun e w' => e = .returned (.string s) ∧ Below w.heap.size w w') (HD : ∀ w, Calls Tryz.prog 66 #[.string s] w fun e w' => e = .returned (.bool true) ∧ Below w.heap.size w w') (w : World) : Calls Tryz.prog 40 #[.string s0] w fun e w' => e = .returned (.string ⟨#[]⟩) ∧ Below w.heap.size w w' := by
  have HS' := Lib.hid HS
  have HD' := Lib.hid HD
  clear HS HD
  go_enter Tryz.func40, Tryz.ntmps40
  go_wp2_with fail
  refine (HS'.out _).mono ?_
  rintro e w1 ⟨rfl, b1⟩
  have bl := b1
  clear b1
  go_wp2_with fail
  refine (HD'.out _).mono ?_
  rintro e w2 ⟨rfl, b2⟩
  replace bl := ns_go bl b2
  go_wp2_with fail
  go_ret
  exact ⟨rfl, bl⟩
set_option maxHeartbeats 4000000 in
theorem nu_two (s0 s : ByteArray) (u U1 X1 : ByteArray) (A : ByteArray) (a b : UInt8) (hA : A.data.toList = [a, b]) (Z0 : ByteArray) (Z1 : ByteArray) (HS : ∀ w, Calls Tryz.prog 65 #[.string s0] w fun e w' => e = .returned (.string s) ∧ Below w.heap.size w w') (HD : ∀ w, Calls Tryz.prog 66 #[.string s] w fun e w' => e = .returned (.bool false) ∧ Below w.heap.size w w') (HP : ∀ w, Calls Tryz.prog 38 #[.string s] w fun e w' => ∃ b, e = .returned (.slice (some ⟨b, 0, none⟩) 1 1) ∧ w.heap.size ≤ b ∧ w'.heap[b]? = some (.cells #[.string u] 9 (0, 0)) ∧ Below w.heap.size w w') (HU0 : ∀ w, Calls Tryz.prog 40 #[.string u] w fun e w' => e = .returned (.string U1) ∧ Below w.heap.size w w') (HX0 : ∀ w, Calls Tryz.prog 59 #[.string ⟨#[]⟩, .string U1] w fun e w' => e = .returned (.string X1) ∧ Below w.heap.size w w') (HB : ∀ w, Calls Tryz.prog 67 #[.string s] w fun e w' => e = .returned (.tuple #[.int .u8 0, .bool false]) ∧ w = w') (HN : ∀ w, Calls Tryz.prog 69 #[.string s] w fun e w' => e = .returned (.string A) ∧ Below w.heap.size w w') (HA0 : ∀ w, Calls Tryz.prog 62 #[.string X1, .int .u8 (a.toNat : Int)] w fun e w' => e = .returned (.string Z0) ∧ Below w.heap.size w w') (HA1 : ∀ w, Calls Tryz.prog 62 #[.string Z0, .int .u8 (b.toNat : Int)] w fun e w' => e = .returned (.string Z1) ∧ Below w.heap.size w w') (w : World) : Calls Tryz.prog 40 #[.string s0] w fun e w' => e = .returned (.string Z1) ∧ Below w.heap.size w w' := by
  have HS' := Lib.hid HS
  have HD' := Lib.hid HD
  have HP' := Lib.hid HP
  have HU0' := Lib.hid HU0
  have HX0' := Lib.hid HX0
  have HB' := Lib.hid HB
  have HN' := Lib.hid HN
  have HA0' := Lib.hid HA0
  have HA1' := Lib.hid HA1
  have HAA := Lib.hid hA
  clear hA HS HD HP HU0 HX0 HB HN HA0 HA1
  go_enter Tryz.func40, Tryz.ntmps40
  go_wp2_with fail
  refine (HS'.out _).mono ?_
  rintro e w1 ⟨rfl, b1⟩
  have bl := b1
  clear b1
  go_wp2_with fail
  refine (HD'.out _).mono ?_
  rintro e w2 ⟨rfl, b2⟩
  replace bl := ns_go bl b2
  go_wp2_with fail
  refine (HP'.out _).mono ?_
  rintro e w3 ⟨b, rfl, hb, hh, b3⟩
  replace bl := ns_go bl b3
  have c0 := cellOf1 hh
  have Hh := Lib.hid hh
  clear hh hb b3
  go_wp2_with fail
  refine wp_loop_rounds 2 ?_
  rw [rounds_succ]
  go_wp2_with fail
  refine (HU0'.out _).mono ?_
  rintro e w4 ⟨rfl, b4⟩
  replace bl := ns_go bl b4
  clear c0
  go_wp2_with fail
  refine (HX0'.out _).mono ?_
  rintro e w5 ⟨rfl, b5⟩
  replace bl := ns_go bl b5
  go_wp2_with fail
  rw [rounds_succ]
  go_wp2_with fail
  refine (HB'.out _).mono ?_
  rintro e w8 ⟨rfl, rfl⟩
  go_wp2_with fail
  refine (HN'.out _).mono ?_
  rintro e w10 ⟨rfl, b10⟩
  replace bl := ns_go bl b10
  obtain ⟨cap, W, hcv, bW, hr⟩ := conv_head A _ 2 HAA.out rfl w10
  replace bl := ns_go bl bW
  have Hr := Lib.hid hr
  obtain ⟨g, hg⟩ : ∃ g, g = w10.heap.size := ⟨_, rfl⟩
  rw [← hg] at hcv Hr
  clear hr bW hg
  go_wp2_with fail
  clear hcv
  refine wp_loop_rounds 3 ?_
  rw [rounds_succ]
  have q0 := Hr.out.cell 0 (by simp)
  simp only [List.getElem_cons_zero, List.getElem_cons_succ] at q0
  go_wp2_with fail
  refine (HA0'.out _).mono ?_
  rintro e w11 ⟨rfl, b11⟩
  replace bl := ns_go bl b11
  replace Hr := Lib.hid (Hr.out.below b11)
  clear q0
  go_wp2_with fail
  rw [rounds_succ]
  have q1 := Hr.out.cell 1 (by simp)
  simp only [List.getElem_cons_zero, List.getElem_cons_succ] at q1
  go_wp2_with fail
  refine (HA1'.out _).mono ?_
  rintro e w12 ⟨rfl, b12⟩
  replace bl := ns_go bl b12
  replace Hr := Lib.hid (Hr.out.below b12)
  clear q1
  go_wp2_with fail
  rw [rounds_succ]
  go_wp2_with fail
  go_ret
  exact ⟨rfl, bl⟩
set_option maxHeartbeats 4000000 in
theorem nu_rcv (s0 s : ByteArray) (u U1 X1 : ByteArray) (Y : ByteArray) (x : Int) (A : ByteArray) (a : UInt8) (hA : A.data.toList = [a]) (Z0 : ByteArray) (HS : ∀ w, Calls Tryz.prog 65 #[.string s0] w fun e w' => e = .returned (.string s) ∧ Below w.heap.size w w') (HD : ∀ w, Calls Tryz.prog 66 #[.string s] w fun e w' => e = .returned (.bool false) ∧ Below w.heap.size w w') (HP : ∀ w, Calls Tryz.prog 38 #[.string s] w fun e w' => ∃ b, e = .returned (.slice (some ⟨b, 0, none⟩) 1 1) ∧ w.heap.size ≤ b ∧ w'.heap[b]? = some (.cells #[.string u] 9 (0, 0)) ∧ Below w.heap.size w w') (HU0 : ∀ w, Calls Tryz.prog 40 #[.string u] w fun e w' => e = .returned (.string U1) ∧ Below w.heap.size w w') (HX0 : ∀ w, Calls Tryz.prog 59 #[.string ⟨#[]⟩, .string U1] w fun e w' => e = .returned (.string X1) ∧ Below w.heap.size w w') (HB : ∀ w, Calls Tryz.prog 67 #[.string s] w fun e w' => e = .returned (.tuple #[.int .u8 x, .bool true]) ∧ w = w') (HL : ∀ w, Calls Tryz.prog 68 #[.string X1, .int .u8 x] w fun e w' => e = .returned (.string Y) ∧ w = w') (HN : ∀ w, Calls Tryz.prog 69 #[.string s] w fun e w' => e = .returned (.string A) ∧ Below w.heap.size w w') (HA0 : ∀ w, Calls Tryz.prog 62 #[.string Y, .int .u8 (a.toNat : Int)] w fun e w' => e = .returned (.string Z0) ∧ Below w.heap.size w w') (w : World) : Calls Tryz.prog 40 #[.string s0] w fun e w' => e = .returned (.string Z0) ∧ Below w.heap.size w w' := by
  have HS' := Lib.hid HS
  have HD' := Lib.hid HD
  have HP' := Lib.hid HP
  have HU0' := Lib.hid HU0
  have HX0' := Lib.hid HX0
  have HB' := Lib.hid HB
  have HL' := Lib.hid HL
  have HN' := Lib.hid HN
  have HA0' := Lib.hid HA0
  have HAA := Lib.hid hA
  clear hA HS HD HP HU0 HX0 HB HL HN HA0
  go_enter Tryz.func40, Tryz.ntmps40
  go_wp2_with fail
  refine (HS'.out _).mono ?_
  rintro e w1 ⟨rfl, b1⟩
  have bl := b1
  clear b1
  go_wp2_with fail
  refine (HD'.out _).mono ?_
  rintro e w2 ⟨rfl, b2⟩
  replace bl := ns_go bl b2
  go_wp2_with fail
  refine (HP'.out _).mono ?_
  rintro e w3 ⟨b, rfl, hb, hh, b3⟩
  replace bl := ns_go bl b3
  have c0 := cellOf1 hh
  have Hh := Lib.hid hh
  clear hh hb b3
  go_wp2_with fail
  refine wp_loop_rounds 2 ?_
  rw [rounds_succ]
  go_wp2_with fail
  refine (HU0'.out _).mono ?_
  rintro e w4 ⟨rfl, b4⟩
  replace bl := ns_go bl b4
  clear c0
  go_wp2_with fail
  refine (HX0'.out _).mono ?_
  rintro e w5 ⟨rfl, b5⟩
  replace bl := ns_go bl b5
  go_wp2_with fail
  rw [rounds_succ]
  go_wp2_with fail
  refine (HB'.out _).mono ?_
  rintro e w8 ⟨rfl, rfl⟩
  go_wp2_with fail
  refine (HL'.out _).mono ?_
  rintro e w9 ⟨rfl, rfl⟩
  go_wp2_with fail
  refine (HN'.out _).mono ?_
  rintro e w10 ⟨rfl, b10⟩
  replace bl := ns_go bl b10
  obtain ⟨cap, W, hcv, bW, hr⟩ := conv_head A _ 1 HAA.out rfl w10
  replace bl := ns_go bl bW
  have Hr := Lib.hid hr
  obtain ⟨g, hg⟩ : ∃ g, g = w10.heap.size := ⟨_, rfl⟩
  rw [← hg] at hcv Hr
  clear hr bW hg
  go_wp2_with fail
  clear hcv
  refine wp_loop_rounds 2 ?_
  rw [rounds_succ]
  have q0 := Hr.out.cell 0 (by simp)
  simp only [List.getElem_cons_zero, List.getElem_cons_succ] at q0
  go_wp2_with fail
  refine (HA0'.out _).mono ?_
  rintro e w11 ⟨rfl, b11⟩
  replace bl := ns_go bl b11
  replace Hr := Lib.hid (Hr.out.below b11)
  clear q0
  go_wp2_with fail
  rw [rounds_succ]
  go_wp2_with fail
  go_ret
  exact ⟨rfl, bl⟩
set_option maxHeartbeats 4000000 in
theorem nu_own (s0 s : ByteArray) (u U1 X1 : ByteArray) (Y : ByteArray) (x : Int) (A : ByteArray) (a : UInt8) (hA : A.data.toList = []) (HS : ∀ w, Calls Tryz.prog 65 #[.string s0] w fun e w' => e = .returned (.string s) ∧ Below w.heap.size w w') (HD : ∀ w, Calls Tryz.prog 66 #[.string s] w fun e w' => e = .returned (.bool false) ∧ Below w.heap.size w w') (HP : ∀ w, Calls Tryz.prog 38 #[.string s] w fun e w' => ∃ b, e = .returned (.slice (some ⟨b, 0, none⟩) 1 1) ∧ w.heap.size ≤ b ∧ w'.heap[b]? = some (.cells #[.string u] 9 (0, 0)) ∧ Below w.heap.size w w') (HU0 : ∀ w, Calls Tryz.prog 40 #[.string u] w fun e w' => e = .returned (.string U1) ∧ Below w.heap.size w w') (HX0 : ∀ w, Calls Tryz.prog 59 #[.string ⟨#[]⟩, .string U1] w fun e w' => e = .returned (.string X1) ∧ Below w.heap.size w w') (HB : ∀ w, Calls Tryz.prog 67 #[.string s] w fun e w' => e = .returned (.tuple #[.int .u8 x, .bool true]) ∧ w = w') (HL : ∀ w, Calls Tryz.prog 68 #[.string X1, .int .u8 x] w fun e w' => e = .returned (.string Y) ∧ w = w') (HN : ∀ w, Calls Tryz.prog 69 #[.string s] w fun e w' => e = .returned (.string A) ∧ Below w.heap.size w w') (w : World) : Calls Tryz.prog 40 #[.string s0] w fun e w' => e = .returned (.string Y) ∧ Below w.heap.size w w' := by
  have HS' := Lib.hid HS
  have HD' := Lib.hid HD
  have HP' := Lib.hid HP
  have HU0' := Lib.hid HU0
  have HX0' := Lib.hid HX0
  have HB' := Lib.hid HB
  have HL' := Lib.hid HL
  have HN' := Lib.hid HN
  have HAA := Lib.hid hA
  clear hA HS HD HP HU0 HX0 HB HL HN
  go_enter Tryz.func40, Tryz.ntmps40
  go_wp2_with fail
  refine (HS'.out _).mono ?_
  rintro e w1 ⟨rfl, b1⟩
  have bl := b1
  clear b1
  go_wp2_with fail
  refine (HD'.out _).mono ?_
  rintro e w2 ⟨rfl, b2⟩
  replace bl := ns_go bl b2
  go_wp2_with fail
  refine (HP'.out _).mono ?_
  rintro e w3 ⟨b, rfl, hb, hh, b3⟩
  replace bl := ns_go bl b3
  have c0 := cellOf1 hh
  have Hh := Lib.hid hh
  clear hh hb b3
  go_wp2_with fail
  refine wp_loop_rounds 2 ?_
  rw [rounds_succ]
  go_wp2_with fail
  refine (HU0'.out _).mono ?_
  rintro e w4 ⟨rfl, b4⟩
  replace bl := ns_go bl b4
  clear c0
  go_wp2_with fail
  refine (HX0'.out _).mono ?_
  rintro e w5 ⟨rfl, b5⟩
  replace bl := ns_go bl b5
  go_wp2_with fail
  rw [rounds_succ]
  go_wp2_with fail
  refine (HB'.out _).mono ?_
  rintro e w8 ⟨rfl, rfl⟩
  go_wp2_with fail
  refine (HL'.out _).mono ?_
  rintro e w9 ⟨rfl, rfl⟩
  go_wp2_with fail
  refine (HN'.out _).mono ?_
  rintro e w10 ⟨rfl, b10⟩
  replace bl := ns_go bl b10
  obtain ⟨cap, W, hcv, bW, hr⟩ := conv_head A _ 0 HAA.out rfl w10
  replace bl := ns_go bl bW
  have Hr := Lib.hid hr
  obtain ⟨g, hg⟩ : ∃ g, g = w10.heap.size := ⟨_, rfl⟩
  rw [← hg] at hcv Hr
  clear hr bW hg
  go_wp2_with fail
  clear hcv
  refine wp_loop_rounds 1 ?_
  rw [rounds_succ]
  go_wp2_with fail
  go_ret
  exact ⟨rfl, bl⟩
set_option maxHeartbeats 4000000 in
theorem nu_tau (s0 s : ByteArray) (u U1 X1 : ByteArray) (A : ByteArray) (a : UInt8) (hA : A.data.toList = []) (HS : ∀ w, Calls Tryz.prog 65 #[.string s0] w fun e w' => e = .returned (.string s) ∧ Below w.heap.size w w') (HD : ∀ w, Calls Tryz.prog 66 #[.string s] w fun e w' => e = .returned (.bool false) ∧ Below w.heap.size w w') (HP : ∀ w, Calls Tryz.prog 38 #[.string s] w fun e w' => ∃ b, e = .returned (.slice (some ⟨b, 0, none⟩) 1 1) ∧ w.heap.size ≤ b ∧ w'.heap[b]? = some (.cells #[.string u] 9 (0, 0)) ∧ Below w.heap.size w w') (HU0 : ∀ w, Calls Tryz.prog 40 #[.string u] w fun e w' => e = .returned (.string U1) ∧ Below w.heap.size w w') (HX0 : ∀ w, Calls Tryz.prog 59 #[.string ⟨#[]⟩, .string U1] w fun e w' => e = .returned (.string X1) ∧ Below w.heap.size w w') (HB : ∀ w, Calls Tryz.prog 67 #[.string s] w fun e w' => e = .returned (.tuple #[.int .u8 0, .bool false]) ∧ w = w') (HN : ∀ w, Calls Tryz.prog 69 #[.string s] w fun e w' => e = .returned (.string A) ∧ Below w.heap.size w w') (w : World) : Calls Tryz.prog 40 #[.string s0] w fun e w' => e = .returned (.string X1) ∧ Below w.heap.size w w' := by
  have HS' := Lib.hid HS
  have HD' := Lib.hid HD
  have HP' := Lib.hid HP
  have HU0' := Lib.hid HU0
  have HX0' := Lib.hid HX0
  have HB' := Lib.hid HB
  have HN' := Lib.hid HN
  have HAA := Lib.hid hA
  clear hA HS HD HP HU0 HX0 HB HN
  go_enter Tryz.func40, Tryz.ntmps40
  go_wp2_with fail
  refine (HS'.out _).mono ?_
  rintro e w1 ⟨rfl, b1⟩
  have bl := b1
  clear b1
  go_wp2_with fail
  refine (HD'.out _).mono ?_
  rintro e w2 ⟨rfl, b2⟩
  replace bl := ns_go bl b2
  go_wp2_with fail
  refine (HP'.out _).mono ?_
  rintro e w3 ⟨b, rfl, hb, hh, b3⟩
  replace bl := ns_go bl b3
  have c0 := cellOf1 hh
  have Hh := Lib.hid hh
  clear hh hb b3
  go_wp2_with fail
  refine wp_loop_rounds 2 ?_
  rw [rounds_succ]
  go_wp2_with fail
  refine (HU0'.out _).mono ?_
  rintro e w4 ⟨rfl, b4⟩
  replace bl := ns_go bl b4
  clear c0
  go_wp2_with fail
  refine (HX0'.out _).mono ?_
  rintro e w5 ⟨rfl, b5⟩
  replace bl := ns_go bl b5
  go_wp2_with fail
  rw [rounds_succ]
  go_wp2_with fail
  refine (HB'.out _).mono ?_
  rintro e w8 ⟨rfl, rfl⟩
  go_wp2_with fail
  refine (HN'.out _).mono ?_
  rintro e w10 ⟨rfl, b10⟩
  replace bl := ns_go bl b10
  obtain ⟨cap, W, hcv, bW, hr⟩ := conv_head A _ 0 HAA.out rfl w10
  replace bl := ns_go bl bW
  have Hr := Lib.hid hr
  obtain ⟨g, hg⟩ : ∃ g, g = w10.heap.size := ⟨_, rfl⟩
  rw [← hg] at hcv Hr
  clear hr bW hg
  go_wp2_with fail
  clear hcv
  refine wp_loop_rounds 1 ?_
  rw [rounds_succ]
  go_wp2_with fail
  go_ret
  exact ⟨rfl, bl⟩
set_option maxHeartbeats 4000000 in
theorem nu_sum (s0 s : ByteArray) (u v U1 U2 X1 X2 : ByteArray) (A : ByteArray) (a : UInt8) (hA : A.data.toList = []) (HS : ∀ w, Calls Tryz.prog 65 #[.string s0] w fun e w' => e = .returned (.string s) ∧ Below w.heap.size w w') (HD : ∀ w, Calls Tryz.prog 66 #[.string s] w fun e w' => e = .returned (.bool false) ∧ Below w.heap.size w w') (HP : ∀ w, Calls Tryz.prog 38 #[.string s] w fun e w' => ∃ b, e = .returned (.slice (some ⟨b, 0, none⟩) 2 2) ∧ w.heap.size ≤ b ∧ w'.heap[b]? = some (.cells #[.string u, .string v] 9 (0, 0)) ∧ Below w.heap.size w w') (HU0 : ∀ w, Calls Tryz.prog 40 #[.string u] w fun e w' => e = .returned (.string U1) ∧ Below w.heap.size w w') (HX0 : ∀ w, Calls Tryz.prog 59 #[.string ⟨#[]⟩, .string U1] w fun e w' => e = .returned (.string X1) ∧ Below w.heap.size w w') (HU1 : ∀ w, Calls Tryz.prog 40 #[.string v] w fun e w' => e = .returned (.string U2) ∧ Below w.heap.size w w') (HX1 : ∀ w, Calls Tryz.prog 59 #[.string X1, .string U2] w fun e w' => e = .returned (.string X2) ∧ Below w.heap.size w w') (HB : ∀ w, Calls Tryz.prog 67 #[.string s] w fun e w' => e = .returned (.tuple #[.int .u8 0, .bool false]) ∧ w = w') (HN : ∀ w, Calls Tryz.prog 69 #[.string s] w fun e w' => e = .returned (.string A) ∧ Below w.heap.size w w') (w : World) : Calls Tryz.prog 40 #[.string s0] w fun e w' => e = .returned (.string X2) ∧ Below w.heap.size w w' := by
  have HS' := Lib.hid HS
  have HD' := Lib.hid HD
  have HP' := Lib.hid HP
  have HU0' := Lib.hid HU0
  have HX0' := Lib.hid HX0
  have HU1' := Lib.hid HU1
  have HX1' := Lib.hid HX1
  have HB' := Lib.hid HB
  have HN' := Lib.hid HN
  have HAA := Lib.hid hA
  clear hA HS HD HP HU0 HX0 HU1 HX1 HB HN
  go_enter Tryz.func40, Tryz.ntmps40
  go_wp2_with fail
  refine (HS'.out _).mono ?_
  rintro e w1 ⟨rfl, b1⟩
  have bl := b1
  clear b1
  go_wp2_with fail
  refine (HD'.out _).mono ?_
  rintro e w2 ⟨rfl, b2⟩
  replace bl := ns_go bl b2
  go_wp2_with fail
  refine (HP'.out _).mono ?_
  rintro e w3 ⟨b, rfl, hb, hh, b3⟩
  replace bl := ns_go bl b3
  have c0 := cellOf2a hh
  have Hh := Lib.hid hh
  clear hh hb b3
  go_wp2_with fail
  refine wp_loop_rounds 3 ?_
  rw [rounds_succ]
  go_wp2_with fail
  refine (HU0'.out _).mono ?_
  rintro e w4 ⟨rfl, b4⟩
  replace bl := ns_go bl b4
  have h4 := (b4.block b (lt_of_block Hh.out)).trans Hh.out
  clear c0
  have H4 := Lib.hid h4
  clear h4
  go_wp2_with fail
  refine (HX0'.out _).mono ?_
  rintro e w5 ⟨rfl, b5⟩
  replace bl := ns_go bl b5
  have h5 := (b5.block b (lt_of_block H4.out)).trans H4.out
  have c1 := cellOf2b h5
  clear h5
  go_wp2_with fail
  rw [rounds_succ]
  go_wp2_with fail
  refine (HU1'.out _).mono ?_
  rintro e w6 ⟨rfl, b6⟩
  replace bl := ns_go bl b6
  clear c1
  go_wp2_with fail
  refine (HX1'.out _).mono ?_
  rintro e w7 ⟨rfl, b7⟩
  replace bl := ns_go bl b7
  go_wp2_with fail
  rw [rounds_succ]
  go_wp2_with fail
  refine (HB'.out _).mono ?_
  rintro e w8 ⟨rfl, rfl⟩
  go_wp2_with fail
  refine (HN'.out _).mono ?_
  rintro e w10 ⟨rfl, b10⟩
  replace bl := ns_go bl b10
  obtain ⟨cap, W, hcv, bW, hr⟩ := conv_head A _ 0 HAA.out rfl w10
  replace bl := ns_go bl bW
  have Hr := Lib.hid hr
  obtain ⟨g, hg⟩ : ∃ g, g = w10.heap.size := ⟨_, rfl⟩
  rw [← hg] at hcv Hr
  clear hr bW hg
  go_wp2_with fail
  clear hcv
  refine wp_loop_rounds 1 ?_
  rw [rounds_succ]
  go_wp2_with fail
  go_ret
  exact ⟨rfl, bl⟩
theorem usd_dead (t : Tm) (h : t.dead = true) : t.strip.usd = [] := by
  rw [strip_usd]
  induction t with
  | nil => rfl
  | snd a b p ih => cases h
  | rcv a x p ih => cases h
  | tau p ih => cases h
  | sum p q ih ih2 => simp only [Tm.dead] at h; simp only [Tm.usd]; rw [if_pos h]
  | par p q ih ih2 => simp only [Tm.dead] at h; simp only [Tm.usd]; rw [if_pos h]
  | own x p ih => simp only [Tm.dead] at h; simp only [Tm.usd]; rw [if_pos h]
  | mat a b p ih => simp only [Tm.dead] at h; simp only [Tm.usd]; split; exact ih h; first | rfl | rw [if_pos h]
  | rep p ih => simp only [Tm.dead] at h; simp only [Tm.usd]; rw [if_pos h]
theorem B_nil : B [] = ⟨#[]⟩ := rfl
theorem bo_any (l m : List UInt8) (hl : Srt l) (hm : Srt m) (w : World) : Calls Tryz.prog 59 #[.string (B l), .string (B m)] w fun e w' => e = .returned (.string (B (bothL l m))) ∧ Below w.heap.size w w' := by
  have := tmBoth_any l (B m) hl (by rw [B_size]; have := srt_len hm; omega) w
  rw [B_list] at this
  exact this
theorem ad_any (l : List UInt8) (c : UInt8) (hl : Srt l) (w : World) : Calls Tryz.prog 62 #[.string (B l), .int .u8 (c.toNat : Int)] w fun e w' => e = .returned (.string (B (addL l c))) ∧ Below w.heap.size w w' := by
  have := tmAdd_any (B l) c (by rw [B_size]; have := srt_len hl; omega) w
  rw [B_list] at this
  exact this
theorem le_any (l : List UInt8) (c : UInt8) (hl : Srt l) (w : World) : Calls Tryz.prog 68 #[.string (B l), .int .u8 (c.toNat : Int)] w fun e w' => e = .returned (.string (B (lessL l c))) ∧ w = w' := by
  have := tmLess_any (B l) c (by rw [B_size]; have := srt_len hl; omega) w
  rw [B_list] at this
  exact this
set_option maxHeartbeats 4000000 in
theorem nfUsed_any (n : Nat) : ∀ (t : Tm), t.size ≤ n → t.ok nmE = true → t.pr.length ≤ 700 → ∀ w, Calls Tryz.prog 40 #[.string (S t)] w fun e w' => e = .returned (.string (B t.usd)) ∧ Below w.heap.size w w' := by
  induction n with
  | zero => intro t h; have := size_pos t; omega
  | succ n ih =>
    intro t hn ho hl w
    obtain ⟨s1, s2, s3, _, _⟩ := strip_sub t
    have hS := nfStrip_any t ho hl
    have hne := strip_no t
    rw [← strip_usd t]
    have ho2 := s1 nmE ho
    have hdd := usd_dead t
    rw [← strip_dead t] at hdd
    obtain ⟨u, hu⟩ : ∃ u, u = t.strip := ⟨_, rfl⟩
    rw [← hu] at hS ho2 s2 s3 hne hdd ⊢
    have hl2 : u.pr.length ≤ 700 := by omega
    have hD := nfDead_any u.size u (Nat.le_refl _) ho2 hl2
    have hP := tmParts_any u ho2 hl2
    have hB := tmBinds_any u ho2 hl2
    have hN := tmNames_any u ho2 hl2
    have e0 := srt_nil
    clear hu s1
    cases hdu : u.dead with
    | true =>
      rw [hdu] at hD
      rw [hdd hdu]
      exact nu_dead _ _ hS hD w
    | false =>
      rw [hdu] at hD
      cases u with
      | nil => cases hdu
      | snd a b p =>
        simp only [Tm.ok, Bool.and_eq_true] at ho2
        simp only [Tm.pr, List.length_cons] at hl2
        simp only [Tm.size] at s3
        have hI := ih p (by omega) ho2.2 (by omega)
        have hsb := srt_bothL p.usd srt_nil
        exact nu_two _ _ _ _ _ _ _ _ (B_list _) _ _ hS hD hP hI (bo_any [] p.usd srt_nil (srt_usd p)) hB hN (ad_any _ a hsb) (ad_any _ b (srt_addL hsb a)) w
      | mat a b p =>
        simp only [Tm.ok, Bool.and_eq_true] at ho2
        simp only [Tm.pr, List.length_cons] at hl2
        simp only [Tm.size] at s3
        have hI := ih p (by omega) ho2.2 (by omega)
        have hsb := srt_bothL p.usd srt_nil
        have hab : ¬ a = b := fun e => hne a p (by rw [e])
        simp only [Tm.dead] at hdu
        simp only [Tm.usd]
        rw [if_neg hab, hdu]
        exact nu_two _ _ _ _ _ _ _ _ (B_list _) _ _ hS hD hP hI (bo_any [] p.usd srt_nil (srt_usd p)) hB hN (ad_any _ a hsb) (ad_any _ b (srt_addL hsb a)) w
      | rcv a x p =>
        simp only [Tm.ok, Bool.and_eq_true] at ho2
        simp only [Tm.pr, List.length_cons] at hl2
        simp only [Tm.size] at s3
        have hI := ih p (by omega) ho2.2 (by omega)
        have hsb := srt_bothL p.usd srt_nil
        exact nu_rcv _ _ _ _ _ _ _ _ _ (B_list _) _ hS hD hP hI (bo_any [] p.usd srt_nil (srt_usd p)) hB (le_any _ x hsb) hN (ad_any _ a (srt_lessL hsb x)) w
      | own x p =>
        simp only [Tm.ok, Bool.and_eq_true] at ho2
        simp only [Tm.pr, List.length_cons] at hl2
        simp only [Tm.size] at s3
        have hI := ih p (by omega) ho2.2 (by omega)
        have hsb := srt_bothL p.usd srt_nil
        simp only [Tm.dead] at hdu
        simp only [Tm.usd]
        rw [hdu]
        exact nu_own _ _ _ _ _ _ _ _ 0 (B_list _) hS hD hP hI (bo_any [] p.usd srt_nil (srt_usd p)) hB (le_any _ x hsb) hN w
      | tau p =>
        simp only [Tm.ok, Bool.and_eq_true] at ho2
        simp only [Tm.pr, List.length_cons] at hl2
        simp only [Tm.size] at s3
        have hI := ih p (by omega) ho2 (by omega)
        have hsb := srt_bothL p.usd srt_nil
        exact nu_tau _ _ _ _ _ _ 0 (B_list _) hS hD hP hI (bo_any [] p.usd srt_nil (srt_usd p)) hB hN w
      | rep p =>
        simp only [Tm.ok, Bool.and_eq_true] at ho2
        simp only [Tm.pr, List.length_cons] at hl2
        simp only [Tm.size] at s3
        have hI := ih p (by omega) ho2 (by omega)
        have hsb := srt_bothL p.usd srt_nil
        simp only [Tm.dead] at hdu
        simp only [Tm.usd]
        rw [hdu]
        exact nu_tau _ _ _ _ _ _ 0 (B_list _) hS hD hP hI (bo_any [] p.usd srt_nil (srt_usd p)) hB hN w
      | sum p q =>
        simp only [Tm.ok, Bool.and_eq_true] at ho2
        simp only [Tm.pr, List.length_cons, List.length_append] at hl2
        simp only [Tm.size] at s3
        have hI := ih p (by omega) ho2.1 (by omega)
        have hI2 := ih q (by omega) ho2.2 (by omega)
        simp only [Tm.dead] at hdu
        simp only [Tm.usd]
        rw [hdu]
        exact nu_sum _ _ _ _ _ _ _ _ _ 0 (B_list _) hS hD hP hI (bo_any [] p.usd srt_nil (srt_usd p)) hI2 (bo_any _ q.usd (srt_bothL _ srt_nil) (srt_usd q)) hB hN w
      | par p q =>
        simp only [Tm.ok, Bool.and_eq_true] at ho2
        simp only [Tm.pr, List.length_cons, List.length_append] at hl2
        simp only [Tm.size] at s3
        have hI := ih p (by omega) ho2.1 (by omega)
        have hI2 := ih q (by omega) ho2.2 (by omega)
        simp only [Tm.dead] at hdu
        simp only [Tm.usd]
        rw [hdu]
        exact nu_sum _ _ _ _ _ _ _ _ _ 0 (B_list _) hS hD hP hI (bo_any [] p.usd srt_nil (srt_usd p)) hI2 (bo_any _ q.usd (srt_bothL _ srt_nil) (srt_usd q)) hB hN w

end Go.Proofs.YtnncoaeolfckbaaGreat.T1
