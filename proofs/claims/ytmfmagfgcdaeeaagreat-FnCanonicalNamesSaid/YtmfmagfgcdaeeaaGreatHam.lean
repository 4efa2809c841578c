/- Texts of the proof, put together: Tg. No conditions. -/
import Derived.Test.YtmfmagfgcdaeeaaGreatHaj
import Derived.Deep.RegionHeld3

/- Free names and names that are bound, in the specification. -/
namespace Go.Proofs.YtmfmagfgcdaeeaaGreat.T1
open Go.RowKit
set_option maxRecDepth 100000
set_option linter.unusedVariables false

theorem S_at (t : Tm) (i : Nat) (h : i < (S t).size) : (S t)[i]'h = t.pr[i]'(by rw [← S_size]; exact h) := byte_of (S_list t) i h (by rw [← S_size]; exact h)
/-- What is said of the name that the first sign binds. -/
def bindV : Option UInt8 → Value
  | some x => .tuple #[.int .u8 (x.toNat : Int), .bool true]
  | none => .tuple #[.int .u8 0, .bool false]
set_option maxHeartbeats 1000000 in
theorem bi_rcv (s : ByteArray) (hs : s.size ≤ 700) (hz : 2 < s.size) (HK : ∀ w, Calls Tryz.prog 100 #[.string s] w fun e w' => e = .returned (.int .u8 63) ∧ w = w') (w : World) : Calls Tryz.prog 124 #[.string s] w fun e w' => e = .returned (.tuple #[.int .u8 ((s[2]'hz).toNat : Int), .bool true]) ∧ w = w' := by
  have H := Lib.hid HK
  clear HK
  go_enter Tryz.func124, Tryz.ntmps124
  go_wp2_with fail
  refine (H.out _).mono ?_
  rintro e w1 ⟨rfl, rfl⟩
  go_wp2_with fail
  go_ret2
  exact ⟨rfl, rfl⟩
set_option maxHeartbeats 1000000 in
theorem bi_own (s : ByteArray) (hs : s.size ≤ 700) (hz : 1 < s.size) (HK : ∀ w, Calls Tryz.prog 100 #[.string s] w fun e w' => e = .returned (.int .u8 35) ∧ w = w') (w : World) : Calls Tryz.prog 124 #[.string s] w fun e w' => e = .returned (.tuple #[.int .u8 ((s[1]'hz).toNat : Int), .bool true]) ∧ w = w' := by
  have H := Lib.hid HK
  clear HK
  go_enter Tryz.func124, Tryz.ntmps124
  go_wp2_with fail
  refine (H.out _).mono ?_
  rintro e w1 ⟨rfl, rfl⟩
  go_wp2_with fail
  go_ret2
  exact ⟨rfl, rfl⟩
set_option maxHeartbeats 1000000 in
theorem bi_no (s : ByteArray) (kd : Int) (b1 : (kd == 63) = false) (b2 : (kd == 35) = false) (HK : ∀ w, Calls Tryz.prog 100 #[.string s] w fun e w' => e = .returned (.int .u8 kd) ∧ w = w') (w : World) : Calls Tryz.prog 124 #[.string s] w fun e w' => e = .returned (.tuple #[.int .u8 0, .bool false]) ∧ w = w' := by
  have H := Lib.hid HK
  clear HK
  go_enter Tryz.func124, Tryz.ntmps124
  go_wp2_with fail
  refine (H.out _).mono ?_
  rintro e w1 ⟨rfl, rfl⟩
  go_wp2_with fail
  go_ret2
  exact ⟨rfl, rfl⟩
theorem tmBinds_any (t : Tm) (ho : t.ok nmE = true) (hl : t.pr.length ≤ 700) (w : World) : Calls Tryz.prog 124 #[.string (S t)] w fun e w' => e = .returned (bindV t.binds) ∧ w = w' := by
  have hs : (S t).size ≤ 700 := by rw [S_size]; exact hl
  have HK := tmKind_any t ho hl
  cases t with
  | rcv a x p =>
    have hz : 2 < (S (.rcv a x p)).size := by rw [S_size]; simp [Tm.pr]
    have h := bi_rcv _ hs hz HK w
    rw [show (S (.rcv a x p))[2]'hz = x from S_at _ 2 hz] at h
    exact h
  | own x p =>
    have hz : 1 < (S (.own x p)).size := by rw [S_size]; simp [Tm.pr]
    have h := bi_own _ hs hz HK w
    rw [show (S (.own x p))[1]'hz = x from S_at _ 1 hz] at h
    exact h
  | nil => exact bi_no _ 48 (by decide) (by decide) HK w
  | snd a b p => exact bi_no _ 33 (by decide) (by decide) HK w
  | tau p => exact bi_no _ 126 (by decide) (by decide) HK w
  | sum p q => exact bi_no _ 43 (by decide) (by decide) HK w
  | par p q => exact bi_no _ 38 (by decide) (by decide) HK w
  | mat a b p => exact bi_no _ 61 (by decide) (by decide) HK w
  | rep p => exact bi_no _ 42 (by decide) (by decide) HK w

set_option maxHeartbeats 1000000 in
theorem tf_nil (s : ByteArray) (HK : ∀ w, Calls Tryz.prog 100 #[.string s] w fun e w' => e = .returned (.int .u8 48) ∧ w = w') (HB : ∀ w, Calls Tryz.prog 124 #[.string s] w fun e w' => e = .returned (.tuple #[.int .u8 0, .bool false]) ∧ w = w') (HP : ∀ w, Calls Tryz.prog 101 #[.string s] w (PartsS [] w)) (w : World) :
    Calls Tryz.prog 68 #[.string s] w fun e w' => e = .returned (.string ⟨#[]⟩) ∧ Below w.heap.size w w' := by
  have H := Lib.hid HP
  have HK' := Lib.hid HK
  have HB' := Lib.hid HB
  clear HP HK HB
  go_enter Tryz.func68, Tryz.ntmps68
  go_wp2_with fail
  refine (H.out _).mono ?_
  rintro e w1 ⟨rfl, bl⟩
  go_wp2_with fail
  refine wp_loop_rounds 1 ?_
  rw [rounds_succ]
  go_wp2_with fail
  refine (HB'.out _).mono ?_
  rintro e w2 ⟨rfl, rfl⟩
  go_wp2_with fail
  refine (HK'.out _).mono ?_
  rintro e w3 ⟨rfl, rfl⟩
  go_wp2_with fail
  go_ret
  exact ⟨rfl, bl⟩

set_option maxHeartbeats 2000000 in
theorem tf_snd (s u U X0 : ByteArray) (hs : s.size ≤ 700) (hz : 2 < s.size) (X1 X2 : ByteArray) (HK : ∀ w, Calls Tryz.prog 100 #[.string s] w fun e w' => e = .returned (.int .u8 33) ∧ w = w') (HB : ∀ w, Calls Tryz.prog 124 #[.string s] w fun e w' => e = .returned (.tuple #[.int .u8 0, .bool false]) ∧ w = w') (HP : ∀ w, Calls Tryz.prog 101 #[.string s] w fun e w' => ∃ b, e = .returned (.slice (some ⟨b, 0, none⟩) 1 1) ∧ w.heap.size ≤ b ∧ w'.heap[b]? = some (.cells #[.string u] 9 (0, 0)) ∧ Below w.heap.size w w')
    (IH : ∀ w, Calls Tryz.prog 68 #[.string u] w fun e w' => e = .returned (.string U) ∧ Below w.heap.size w w') (H0 : ∀ w, Calls Tryz.prog 96 #[.string ⟨#[]⟩, .string U] w fun e w' => e = .returned (.string X0) ∧ Below w.heap.size w w') (H1 : ∀ w, Calls Tryz.prog 127 #[.string X0, .int .u8 ((s[0]'(by omega)).toNat : Int)] w fun e w' => e = .returned (.string X1) ∧ Below w.heap.size w w') (H2 : ∀ w, Calls Tryz.prog 127 #[.string X1, .int .u8 ((s[2]'(by omega)).toNat : Int)] w fun e w' => e = .returned (.string X2) ∧ Below w.heap.size w w') (w : World) :
    Calls Tryz.prog 68 #[.string s] w fun e w' => e = .returned (.string X2) ∧ Below w.heap.size w w' := by
  have HP' := Lib.hid HP
  have HK' := Lib.hid HK
  have HB' := Lib.hid HB
  have IH' := Lib.hid IH
  have H0' := Lib.hid H0
  have H1' := Lib.hid H1
  have H2' := Lib.hid H2
  clear HP HK HB IH H0 H1 H2
  go_enter Tryz.func68, Tryz.ntmps68
  go_wp2_with fail
  refine (HP'.out _).mono ?_
  rintro e w1 ⟨b, rfl, hb, hh, bl⟩
  have c0 := cellOf1 hh
  clear hh
  go_wp2_with fail
  refine wp_loop_rounds 2 ?_
  rw [rounds_succ]
  go_wp2_with fail
  refine (IH'.out _).mono ?_
  rintro e w2 ⟨rfl, b2⟩
  have bl2 := below_trans bl b2 bl.size
  clear c0 bl
  go_wp2_with fail
  refine (H0'.out _).mono ?_
  rintro e w3 ⟨rfl, b3⟩
  have bl3 := below_trans bl2 b3 bl2.size
  go_wp2_with fail
  rw [rounds_succ]
  go_wp2_with fail
  refine (HB'.out _).mono ?_
  rintro e w4 ⟨rfl, rfl⟩
  go_wp2_with fail
  refine (HK'.out _).mono ?_
  rintro e w5 ⟨rfl, rfl⟩
  go_wp2_with fail
  go_region_held3 (fun w' => Below w.heap.size w w') (first | assumption | exact bl3.drew | exact below_trans (by assumption) d1 (Below.size (by assumption)) | exact below_trans (by assumption) d2 (Below.size (by assumption)))
    (first | (go_at_call_of 127 X0; refine (H1'.out _).mono ?_; rintro e v1 ⟨rfl, d1⟩) | (go_at_call_of 127 X1; refine (H2'.out _).mono ?_; rintro e v2 ⟨rfl, d2⟩))
  all_goals
    go_wp2_with fail
    go_ret
    exact ⟨rfl, by assumption⟩

set_option maxHeartbeats 2000000 in
theorem tf_rcv (s u U X0 : ByteArray) (hs : s.size ≤ 700) (hz : 0 < s.size) (X1 X2 : ByteArray) (x : Int) (HK : ∀ w, Calls Tryz.prog 100 #[.string s] w fun e w' => e = .returned (.int .u8 63) ∧ w = w') (HB : ∀ w, Calls Tryz.prog 124 #[.string s] w fun e w' => e = .returned (.tuple #[.int .u8 x, .bool true]) ∧ w = w') (HP : ∀ w, Calls Tryz.prog 101 #[.string s] w fun e w' => ∃ b, e = .returned (.slice (some ⟨b, 0, none⟩) 1 1) ∧ w.heap.size ≤ b ∧ w'.heap[b]? = some (.cells #[.string u] 9 (0, 0)) ∧ Below w.heap.size w w')
    (IH : ∀ w, Calls Tryz.prog 68 #[.string u] w fun e w' => e = .returned (.string U) ∧ Below w.heap.size w w') (H0 : ∀ w, Calls Tryz.prog 96 #[.string ⟨#[]⟩, .string U] w fun e w' => e = .returned (.string X0) ∧ Below w.heap.size w w') (H1 : ∀ w, Calls Tryz.prog 129 #[.string X0, .int .u8 x] w fun e w' => e = .returned (.string X1) ∧ w = w') (H2 : ∀ w, Calls Tryz.prog 127 #[.string X1, .int .u8 ((s[0]'(by omega)).toNat : Int)] w fun e w' => e = .returned (.string X2) ∧ Below w.heap.size w w') (w : World) :
    Calls Tryz.prog 68 #[.string s] w fun e w' => e = .returned (.string X2) ∧ Below w.heap.size w w' := by
  have HP' := Lib.hid HP
  have HK' := Lib.hid HK
  have HB' := Lib.hid HB
  have IH' := Lib.hid IH
  have H0' := Lib.hid H0
  have H1' := Lib.hid H1
  have H2' := Lib.hid H2
  clear HP HK HB IH H0 H1 H2
  go_enter Tryz.func68, Tryz.ntmps68
  go_wp2_with fail
  refine (HP'.out _).mono ?_
  rintro e w1 ⟨b, rfl, hb, hh, bl⟩
  have c0 := cellOf1 hh
  clear hh
  go_wp2_with fail
  refine wp_loop_rounds 2 ?_
  rw [rounds_succ]
  go_wp2_with fail
  refine (IH'.out _).mono ?_
  rintro e w2 ⟨rfl, b2⟩
  have bl2 := below_trans bl b2 bl.size
  clear c0 bl
  go_wp2_with fail
  refine (H0'.out _).mono ?_
  rintro e w3 ⟨rfl, b3⟩
  have bl3 := below_trans bl2 b3 bl2.size
  go_wp2_with fail
  rw [rounds_succ]
  go_wp2_with fail
  refine (HB'.out _).mono ?_
  rintro e w4 ⟨rfl, rfl⟩
  go_wp2_with fail
  refine (H1'.out _).mono ?_
  rintro e w5 ⟨rfl, rfl⟩
  go_wp2_with fail
  refine (HK'.out _).mono ?_
  rintro e w6 ⟨rfl, rfl⟩
  go_wp2_with fail
  refine (H2'.out _).mono ?_
  rintro e w7 ⟨rfl, b7⟩
  have bl7 := below_trans bl3 b7 bl3.size
  go_wp2_with fail
  go_ret
  exact ⟨rfl, bl7⟩

set_option maxHeartbeats 2000000 in
theorem tf_own (s u U X0 : ByteArray) (hs : s.size ≤ 700) (X1 : ByteArray) (x : Int) (HK : ∀ w, Calls Tryz.prog 100 #[.string s] w fun e w' => e = .returned (.int .u8 35) ∧ w = w') (HB : ∀ w, Calls Tryz.prog 124 #[.string s] w fun e w' => e = .returned (.tuple #[.int .u8 x, .bool true]) ∧ w = w') (HP : ∀ w, Calls Tryz.prog 101 #[.string s] w fun e w' => ∃ b, e = .returned (.slice (some ⟨b, 0, none⟩) 1 1) ∧ w.heap.size ≤ b ∧ w'.heap[b]? = some (.cells #[.string u] 9 (0, 0)) ∧ Below w.heap.size w w')
    (IH : ∀ w, Calls Tryz.prog 68 #[.string u] w fun e w' => e = .returned (.string U) ∧ Below w.heap.size w w') (H0 : ∀ w, Calls Tryz.prog 96 #[.string ⟨#[]⟩, .string U] w fun e w' => e = .returned (.string X0) ∧ Below w.heap.size w w') (H1 : ∀ w, Calls Tryz.prog 129 #[.string X0, .int .u8 x] w fun e w' => e = .returned (.string X1) ∧ w = w') (w : World) :
    Calls Tryz.prog 68 #[.string s] w fun e w' => e = .returned (.string X1) ∧ Below w.heap.size w w' := by
  have HP' := Lib.hid HP
  have HK' := Lib.hid HK
  have HB' := Lib.hid HB
  have IH' := Lib.hid IH
  have H0' := Lib.hid H0
  have H1' := Lib.hid H1
  clear HP HK HB IH H0 H1
  go_enter Tryz.func68, Tryz.ntmps68
  go_wp2_with fail
  refine (HP'.out _).mono ?_
  rintro e w1 ⟨b, rfl, hb, hh, bl⟩
  have c0 := cellOf1 hh
  clear hh
  go_wp2_with fail
  refine wp_loop_rounds 2 ?_
  rw [rounds_succ]
  go_wp2_with fail
  refine (IH'.out _).mono ?_
  rintro e w2 ⟨rfl, b2⟩
  have bl2 := below_trans bl b2 bl.size
  clear c0 bl
  go_wp2_with fail
  refine (H0'.out _).mono ?_
  rintro e w3 ⟨rfl, b3⟩
  have bl3 := below_trans bl2 b3 bl2.size
  go_wp2_with fail
  rw [rounds_succ]
  go_wp2_with fail
  refine (HB'.out _).mono ?_
  rintro e w4 ⟨rfl, rfl⟩
  go_wp2_with fail
  refine (H1'.out _).mono ?_
  rintro e w5 ⟨rfl, rfl⟩
  go_wp2_with fail
  refine (HK'.out _).mono ?_
  rintro e w6 ⟨rfl, rfl⟩
  go_wp2_with fail
  go_ret
  exact ⟨rfl, bl3⟩

set_option maxHeartbeats 2000000 in
theorem tf_mat (s u U X0 : ByteArray) (hs : s.size ≤ 700) (hz : 3 < s.size) (X1 X2 : ByteArray) (HK : ∀ w, Calls Tryz.prog 100 #[.string s] w fun e w' => e = .returned (.int .u8 61) ∧ w = w') (HB : ∀ w, Calls Tryz.prog 124 #[.string s] w fun e w' => e = .returned (.tuple #[.int .u8 0, .bool false]) ∧ w = w') (HP : ∀ w, Calls Tryz.prog 101 #[.string s] w fun e w' => ∃ b, e = .returned (.slice (some ⟨b, 0, none⟩) 1 1) ∧ w.heap.size ≤ b ∧ w'.heap[b]? = some (.cells #[.string u] 9 (0, 0)) ∧ Below w.heap.size w w')
    (IH : ∀ w, Calls Tryz.prog 68 #[.string u] w fun e w' => e = .returned (.string U) ∧ Below w.heap.size w w') (H0 : ∀ w, Calls Tryz.prog 96 #[.string ⟨#[]⟩, .string U] w fun e w' => e = .returned (.string X0) ∧ Below w.heap.size w w') (H1 : ∀ w, Calls Tryz.prog 127 #[.string X0, .int .u8 ((s[1]'(by omega)).toNat : Int)] w fun e w' => e = .returned (.string X1) ∧ Below w.heap.size w w') (H2 : ∀ w, Calls Tryz.prog 127 #[.string X1, .int .u8 ((s[3]'(by omega)).toNat : Int)] w fun e w' => e = .returned (.string X2) ∧ Below w.heap.size w w') (w : World) :
    Calls Tryz.prog 68 #[.string s] w fun e w' => e = .returned (.string X2) ∧ Below w.heap.size w w' := by
  have HP' := Lib.hid HP
  have HK' := Lib.hid HK
  have HB' := Lib.hid HB
  have IH' := Lib.hid IH
  have H0' := Lib.hid H0
  have H1' := Lib.hid H1
  have H2' := Lib.hid H2
  clear HP HK HB IH H0 H1 H2
  go_enter Tryz.func68, Tryz.ntmps68
  go_wp2_with fail
  refine (HP'.out _).mono ?_
  rintro e w1 ⟨b, rfl, hb, hh, bl⟩
  have c0 := cellOf1 hh
  clear hh
  go_wp2_with fail
  refine wp_loop_rounds 2 ?_
  rw [rounds_succ]
  go_wp2_with fail
  refine (IH'.out _).mono ?_
  rintro e w2 ⟨rfl, b2⟩
  have bl2 := below_trans bl b2 bl.size
  clear c0 bl
  go_wp2_with fail
  refine (H0'.out _).mono ?_
  rintro e w3 ⟨rfl, b3⟩
  have bl3 := below_trans bl2 b3 bl2.size
  go_wp2_with fail
  rw [rounds_succ]
  go_wp2_with fail
  refine (HB'.out _).mono ?_
  rintro e w4 ⟨rfl, rfl⟩
  go_wp2_with fail
  refine (HK'.out _).mono ?_
  rintro e w5 ⟨rfl, rfl⟩
  go_wp2_with fail
  go_region_held3 (fun w' => Below w.heap.size w w') (first | assumption | exact bl3.drew | exact below_trans (by assumption) d1 (Below.size (by assumption)) | exact below_trans (by assumption) d2 (Below.size (by assumption)))
    (first | (go_at_call_of 127 X0; refine (H1'.out _).mono ?_; rintro e v1 ⟨rfl, d1⟩) | (go_at_call_of 127 X1; refine (H2'.out _).mono ?_; rintro e v2 ⟨rfl, d2⟩))
  all_goals
    go_wp2_with fail
    go_ret
    exact ⟨rfl, by assumption⟩

set_option maxHeartbeats 2000000 in
theorem tf_one (s u U X0 : ByteArray) (hs : s.size ≤ 700) (kd : Int) (b1 : (kd == 33) = false) (b2 : (kd == 63) = false) (b3 : (kd == 61) = false) (HK : ∀ w, Calls Tryz.prog 100 #[.string s] w fun e w' => e = .returned (.int .u8 kd) ∧ w = w') (HB : ∀ w, Calls Tryz.prog 124 #[.string s] w fun e w' => e = .returned (.tuple #[.int .u8 0, .bool false]) ∧ w = w') (HP : ∀ w, Calls Tryz.prog 101 #[.string s] w fun e w' => ∃ b, e = .returned (.slice (some ⟨b, 0, none⟩) 1 1) ∧ w.heap.size ≤ b ∧ w'.heap[b]? = some (.cells #[.string u] 9 (0, 0)) ∧ Below w.heap.size w w')
    (IH : ∀ w, Calls Tryz.prog 68 #[.string u] w fun e w' => e = .returned (.string U) ∧ Below w.heap.size w w') (H0 : ∀ w, Calls Tryz.prog 96 #[.string ⟨#[]⟩, .string U] w fun e w' => e = .returned (.string X0) ∧ Below w.heap.size w w') (w : World) :
    Calls Tryz.prog 68 #[.string s] w fun e w' => e = .returned (.string X0) ∧ Below w.heap.size w w' := by
  have HP' := Lib.hid HP
  have HK' := Lib.hid HK
  have HB' := Lib.hid HB
  have IH' := Lib.hid IH
  have H0' := Lib.hid H0
  clear HP HK HB IH H0
  go_enter Tryz.func68, Tryz.ntmps68
  go_wp2_with fail
  refine (HP'.out _).mono ?_
  rintro e w1 ⟨b, rfl, hb, hh, bl⟩
  have c0 := cellOf1 hh
  clear hh
  go_wp2_with fail
  refine wp_loop_rounds 2 ?_
  rw [rounds_succ]
  go_wp2_with fail
  refine (IH'.out _).mono ?_
  rintro e w2 ⟨rfl, b2⟩
  have bl2 := below_trans bl b2 bl.size
  clear c0 bl
  go_wp2_with fail
  refine (H0'.out _).mono ?_
  rintro e w3 ⟨rfl, b3⟩
  have bl3 := below_trans bl2 b3 bl2.size
  go_wp2_with fail
  rw [rounds_succ]
  go_wp2_with fail
  refine (HB'.out _).mono ?_
  rintro e w4 ⟨rfl, rfl⟩
  go_wp2_with fail
  refine (HK'.out _).mono ?_
  rintro e w5 ⟨rfl, rfl⟩
  go_wp2_with fail
  go_ret
  exact ⟨rfl, bl3⟩

set_option maxHeartbeats 2000000 in
theorem tf_two (s u v U V X0 X1 : ByteArray) (kd : Int) (b1 : (kd == 33) = false) (b2 : (kd == 63) = false) (b3 : (kd == 61) = false) (HK : ∀ w, Calls Tryz.prog 100 #[.string s] w fun e w' => e = .returned (.int .u8 kd) ∧ w = w') (HB : ∀ w, Calls Tryz.prog 124 #[.string s] w fun e w' => e = .returned (.tuple #[.int .u8 0, .bool false]) ∧ w = w') (HP : ∀ w, Calls Tryz.prog 101 #[.string s] w fun e w' => ∃ b, e = .returned (.slice (some ⟨b, 0, none⟩) 2 2) ∧ w.heap.size ≤ b ∧ w'.heap[b]? = some (.cells #[.string u, .string v] 9 (0, 0)) ∧ Below w.heap.size w w')
    (IH : ∀ w, Calls Tryz.prog 68 #[.string u] w fun e w' => e = .returned (.string U) ∧ Below w.heap.size w w') (IH2 : ∀ w, Calls Tryz.prog 68 #[.string v] w fun e w' => e = .returned (.string V) ∧ Below w.heap.size w w') (H0 : ∀ w, Calls Tryz.prog 96 #[.string ⟨#[]⟩, .string U] w fun e w' => e = .returned (.string X0) ∧ Below w.heap.size w w') (H1 : ∀ w, Calls Tryz.prog 96 #[.string X0, .string V] w fun e w' => e = .returned (.string X1) ∧ Below w.heap.size w w') (w : World) :
    Calls Tryz.prog 68 #[.string s] w fun e w' => e = .returned (.string X1) ∧ Below w.heap.size w w' := by
  have HP' := Lib.hid HP
  have HK' := Lib.hid HK
  have HB' := Lib.hid HB
  have IH' := Lib.hid IH
  have IH2' := Lib.hid IH2
  have H0' := Lib.hid H0
  have H1' := Lib.hid H1
  clear HP HK HB IH IH2 H0 H1
  go_enter Tryz.func68, Tryz.ntmps68
  go_wp2_with fail
  refine (HP'.out _).mono ?_
  rintro e w1 ⟨b, rfl, hb, hh, bl⟩
  have c0 := cellOf2a hh
  have Hh := Lib.hid hh
  clear hh
  go_wp2_with fail
  refine wp_loop_rounds 3 ?_
  rw [rounds_succ]
  go_wp2_with fail
  refine (IH'.out _).mono ?_
  rintro e w2 ⟨rfl, b2'⟩
  have h2 := (b2'.block b (lt_of_block Hh.out)).trans Hh.out
  have bl2 := below_trans bl b2' bl.size
  clear c0
  have Hh2 := Lib.hid h2
  clear h2
  go_wp2_with fail
  refine (H0'.out _).mono ?_
  rintro e w3 ⟨rfl, b3'⟩
  have h3 := (b3'.block b (lt_of_block Hh2.out)).trans Hh2.out
  have bl3 := below_trans bl2 b3' bl2.size
  have c1 := cellOf2b h3
  clear h3
  go_wp2_with fail
  rw [rounds_succ]
  go_wp2_with fail
  refine (IH2'.out _).mono ?_
  rintro e w4 ⟨rfl, b4⟩
  have bl4 := below_trans bl3 b4 bl3.size
  clear c1
  go_wp2_with fail
  refine (H1'.out _).mono ?_
  rintro e w5 ⟨rfl, b5⟩
  have bl5 := below_trans bl4 b5 bl4.size
  go_wp2_with fail
  rw [rounds_succ]
  go_wp2_with fail
  refine (HB'.out _).mono ?_
  rintro e w6 ⟨rfl, rfl⟩
  go_wp2_with fail
  refine (HK'.out _).mono ?_
  rintro e w7 ⟨rfl, rfl⟩
  go_wp2_with fail
  go_ret
  exact ⟨rfl, bl5⟩

theorem bsz (t : Tm) : (B t.free).size ≤ 100000 := by rw [B_size]; exact Nat.le_trans (srt_len (srt_free t)) (by omega)
theorem bszL {l : List UInt8} (h : Srt l) : (B l).size ≤ 100000 := by rw [B_size]; exact Nat.le_trans (srt_len h) (by omega)
theorem add_at {l : List UInt8} (h : Srt l) {c d : UInt8} (e : d = c) : ∀ w, Calls Tryz.prog 127 #[.string (B l), .int .u8 (d.toNat : Int)] w fun e w' => e = .returned (.string (B (addL l c))) ∧ Below w.heap.size w w' := by
  subst e; exact tmAdd_any (B l) _ (bszL h)
theorem tmFree_any (t : Tm) : t.ok nmE = true → t.pr.length ≤ 700 → ∀ w, Calls Tryz.prog 68 #[.string (S t)] w fun e w' => e = .returned (.string (B t.free)) ∧ Below w.heap.size w w' := by
  have h0 : ∀ p : Tm, ∀ w, Calls Tryz.prog 96 #[.string ⟨#[]⟩, .string (B p.free)] w fun e w' => e = .returned (.string (B (bothL [] p.free))) ∧ Below w.heap.size w w' := fun p => tmBoth_any [] (B p.free) srt_nil (bsz p)
  have s0 : ∀ p : Tm, Srt (bothL [] p.free) := fun p => srt_bothL _ srt_nil
  induction t with
  | nil => exact fun ho hl => tf_nil _ (tmKind_any .nil ho hl) (tmBinds_any .nil ho hl) (tmParts_any .nil ho hl)
  | snd a b p ih =>
    intro ho hl
    have ho' := ho
    simp only [Tm.ok, Bool.and_eq_true] at ho'
    have hl' := hl
    simp only [Tm.pr, List.length_cons] at hl'
    have hs : (S (.snd a b p)).size ≤ 700 := by rw [S_size]; exact hl
    have hz : 2 < (S (.snd a b p)).size := by rw [S_size]; have := pr_pos p; simp [Tm.pr]; try omega
    exact tf_snd _ _ _ _ hs hz _ _ (tmKind_any (.snd a b p) ho hl) (tmBinds_any (.snd a b p) ho hl) (tmParts_any (.snd a b p) ho hl) (ih ho'.2 (by omega)) (h0 p) (add_at (s0 p) (S_at _ 0 _)) (add_at (srt_addL (s0 p) a) (S_at _ 2 _))
  | rcv a x p ih =>
    intro ho hl
    have ho' := ho
    simp only [Tm.ok, Bool.and_eq_true] at ho'
    have hl' := hl
    simp only [Tm.pr, List.length_cons] at hl'
    have hs : (S (.rcv a x p)).size ≤ 700 := by rw [S_size]; exact hl
    have hz : 0 < (S (.rcv a x p)).size := by rw [S_size]; have := pr_pos p; simp [Tm.pr]; try omega
    exact tf_rcv _ _ _ _ hs hz _ _ _ (tmKind_any (.rcv a x p) ho hl) (tmBinds_any (.rcv a x p) ho hl) (tmParts_any (.rcv a x p) ho hl) (ih ho'.2 (by omega)) (h0 p) (tmLess_any _ x (bszL (s0 p))) (add_at (srt_lessL (s0 p) x) (S_at _ 0 _))
  | own x p ih =>
    intro ho hl
    have ho' := ho
    simp only [Tm.ok, Bool.and_eq_true] at ho'
    have hl' := hl
    simp only [Tm.pr, List.length_cons] at hl'
    have hs : (S (.own x p)).size ≤ 700 := by rw [S_size]; exact hl
    exact tf_own _ _ _ _ hs _ _ (tmKind_any (.own x p) ho hl) (tmBinds_any (.own x p) ho hl) (tmParts_any (.own x p) ho hl) (ih ho'.2 (by omega)) (h0 p) (tmLess_any _ x (bszL (s0 p)))
  | mat a b p ih =>
    intro ho hl
    have ho' := ho
    simp only [Tm.ok, Bool.and_eq_true] at ho'
    have hl' := hl
    simp only [Tm.pr, List.length_cons] at hl'
    have hs : (S (.mat a b p)).size ≤ 700 := by rw [S_size]; exact hl
    have hz : 3 < (S (.mat a b p)).size := by rw [S_size]; have := pr_pos p; simp [Tm.pr]; try omega
    exact tf_mat _ _ _ _ hs hz _ _ (tmKind_any (.mat a b p) ho hl) (tmBinds_any (.mat a b p) ho hl) (tmParts_any (.mat a b p) ho hl) (ih ho'.2 (by omega)) (h0 p) (add_at (s0 p) (S_at _ 1 _)) (add_at (srt_addL (s0 p) a) (S_at _ 3 _))
  | tau p ih =>
    intro ho hl
    have ho' := ho
    simp only [Tm.ok] at ho'
    have hl' := hl
    simp only [Tm.pr, List.length_cons] at hl'
    have hs : (S (.tau p)).size ≤ 700 := by rw [S_size]; exact hl
    exact tf_one _ _ _ _ hs 126 (by decide) (by decide) (by decide) (tmKind_any (.tau p) ho hl) (tmBinds_any (.tau p) ho hl) (tmParts_any (.tau p) ho hl) (ih ho' (by omega)) (h0 p)
  | rep p ih =>
    intro ho hl
    have ho' := ho
    simp only [Tm.ok] at ho'
    have hl' := hl
    simp only [Tm.pr, List.length_cons] at hl'
    have hs : (S (.rep p)).size ≤ 700 := by rw [S_size]; exact hl
    exact tf_one _ _ _ _ hs 42 (by decide) (by decide) (by decide) (tmKind_any (.rep p) ho hl) (tmBinds_any (.rep p) ho hl) (tmParts_any (.rep p) ho hl) (ih ho' (by omega)) (h0 p)
  | sum p q ih ih2 =>
    intro ho hl
    have ho' := ho
    simp only [Tm.ok, Bool.and_eq_true] at ho'
    have hl' := hl
    simp only [Tm.pr, List.length_cons, List.length_append] at hl'
    exact tf_two _ _ _ _ _ _ _ 43 (by decide) (by decide) (by decide) (tmKind_any (.sum p q) ho hl) (tmBinds_any (.sum p q) ho hl) (tmParts_any (.sum p q) ho hl) (ih ho'.1 (by omega)) (ih2 ho'.2 (by omega)) (h0 p) (tmBoth_any _ (B q.free) (s0 p) (bsz q))
  | par p q ih ih2 =>
    intro ho hl
    have ho' := ho
    simp only [Tm.ok, Bool.and_eq_true] at ho'
    have hl' := hl
    simp only [Tm.pr, List.length_cons, List.length_append] at hl'
    exact tf_two _ _ _ _ _ _ _ 38 (by decide) (by decide) (by decide) (tmKind_any (.par p q) ho hl) (tmBinds_any (.par p q) ho hl) (tmParts_any (.par p q) ho hl) (ih ho'.1 (by omega)) (ih2 ho'.2 (by omega)) (h0 p) (tmBoth_any _ (B q.free) (s0 p) (bsz q))

end Go.Proofs.YtmfmagfgcdaeeaaGreat.T1
