/- Texts of the proof, put together: Rr, Rx, CRenameFree. No conditions. -/
import Derived.Test.YtpabmidjfpabdaaGreatHad
import Derived.Test.YtpabmidjfpabdaaGreatHaz
import Derived.Test.YtpabmidjfpabdaaGreatHba
import Derived.Test.YtpabmidjfpabdaaGreatHbe
import Derived.Test.YtpabmidjfpabdaaGreatHbg
import Derived.Deep.DeepCutAuto
import Derived.Test.YtpabmidjfpabdaaGreatProg
import Derived.WalkKit
import Derived.ProofKit
import Derived.OpenShut
import Derived.ShutString
import Derived.ChangeOld
import Derived.Below

/- A free name renamed, with no capture: the ways through the program's function. -/
namespace Go.Proofs.YtpabmidjfpabdaaGreat.T1
open Go.RowKit
set_option maxRecDepth 100000
set_option linter.unusedVariables false

set_option maxHeartbeats 1000000 in
theorem rf_same (T : TypeId) (V : Value) (o : Int) (w : World) :
    Calls Tryz.prog 27 #[.iface T V, .int .u8 o, .int .u8 o] w fun e w' => e = .returned (.tuple #[.iface T V, .bool true]) ∧ Below w.heap.size w w' := by
  have hq : ((o : Int) == o) = true := by simp
  go_enter Tryz.func27, Tryz.ntmps27
  go_wp2_with fail
  go_quiet (fail)
  go_wp2_with fail
  go_ret2
  exact ⟨rfl, below_drewN' (below_two _ _ _) _⟩
set_option maxHeartbeats 4000000 in
theorem rf_nofree (T : TypeId) (V : Value) (o m U : Int) (hq : (o == m) = false)  (w : World) 
    (HF : ∀ w, Calls Tryz.prog 33 #[.iface T V] w fun e w' => e = .returned (.int .u32 U) ∧ Below w.heap.size w w') (HH : ∀ w, Calls Tryz.prog 53 #[.int .u32 U, .int .u8 o] w fun e w' => e = .returned (.bool false) ∧ w = w') :
    Calls Tryz.prog 27 #[.iface T V, .int .u8 o, .int .u8 m] w fun e w' => e = .returned (.tuple #[.iface T V, .bool true]) ∧ Below w.heap.size w w' := by
  have HF' := Lib.hid HF
  have HH' := Lib.hid HH
  clear HF HH
  go_enter Tryz.func27, Tryz.ntmps27
  go_upto_region 1 with fail
  go_cut [23] (fun s23 wx => s23 = .bool true ∧ Below w.heap.size w wx ∧ wx.cell? ⟨w.heap.size, 0, none⟩ = some (.int .u8 o) ∧ wx.cell? ⟨w.heap.size + 1, 0, none⟩ = some (.int .u8 m))
  case first =>
    obtain ⟨W, hW⟩ : ∃ W, W = (w.alloc (.cells #[.int .u8 o] 5)).alloc (.cells #[.int .u8 m] 5) := ⟨_, rfl⟩
    rw [← hW]
    have c4 : W.cell? ⟨w.heap.size, 0, none⟩ = some (.int .u8 o) := by rw [hW]; exact cellOf1 (first_block _ _ _)
    have c5 : W.cell? ⟨w.heap.size + 1, 0, none⟩ = some (.int .u8 m) := by rw [hW]; exact cellOf1 (last_block _ _ _)
    have bW : Below w.heap.size w W := by rw [hW]; exact below_two _ _ _
    have hsz : w.heap.size + 1 < W.heap.size := lt_cell c5
    clear hW
    go_region_with (first | (go_at_call 33; refine (HF'.out _).mono ?_; rintro e v1 ⟨rfl, d1⟩; have q4 := (d1.cell (p := ⟨w.heap.size, 0, none⟩) (by simp; omega)).trans c4; have q5 := (d1.cell (p := ⟨w.heap.size + 1, 0, none⟩) (by simp; omega)).trans c5; have k1 := below_go bW.drew d1) | (go_at_call 53; refine (HH'.out _).mono ?_; rintro e v2 ⟨rfl, rfl⟩))
    all_goals (go_wp2_with fail; go_meet; exact ⟨rfl, k1, q4, q5⟩)
  case rest =>
    obtain ⟨rfl, bl, c4, c5⟩ := hcut
    go_wp2_with fail
    go_ret2
    exact ⟨rfl, bl⟩
set_option maxHeartbeats 4000000 in
theorem rf_wcfail (T : TypeId) (V : Value) (o m U : Int) (hq : (o == m) = false)  (w : World) 
    (HF : ∀ w, Calls Tryz.prog 33 #[.iface T V] w fun e w' => e = .returned (.int .u32 U) ∧ Below w.heap.size w w') (HH : ∀ w, Calls Tryz.prog 53 #[.int .u32 U, .int .u8 o] w fun e w' => e = .returned (.bool true) ∧ w = w') (HC : ∀ w, Calls Tryz.prog 54 #[.iface T V, .int .u8 o, .int .u8 m] w fun e w' => e = .returned (.tuple #[.nilIface, .bool false]) ∧ Below w.heap.size w w') :
    Calls Tryz.prog 27 #[.iface T V, .int .u8 o, .int .u8 m] w fun e w' => e = .returned (.tuple #[.nilIface, .bool false]) ∧ Below w.heap.size w w' := by
  have HF' := Lib.hid HF
  have HH' := Lib.hid HH
  have HC' := Lib.hid HC
  clear HF HH HC
  go_enter Tryz.func27, Tryz.ntmps27
  go_upto_region 1 with fail
  go_cut [23] (fun s23 wx => s23 = .bool false ∧ Below w.heap.size w wx ∧ wx.cell? ⟨w.heap.size, 0, none⟩ = some (.int .u8 o) ∧ wx.cell? ⟨w.heap.size + 1, 0, none⟩ = some (.int .u8 m))
  case first =>
    obtain ⟨W, hW⟩ : ∃ W, W = (w.alloc (.cells #[.int .u8 o] 5)).alloc (.cells #[.int .u8 m] 5) := ⟨_, rfl⟩
    rw [← hW]
    have c4 : W.cell? ⟨w.heap.size, 0, none⟩ = some (.int .u8 o) := by rw [hW]; exact cellOf1 (first_block _ _ _)
    have c5 : W.cell? ⟨w.heap.size + 1, 0, none⟩ = some (.int .u8 m) := by rw [hW]; exact cellOf1 (last_block _ _ _)
    have bW : Below w.heap.size w W := by rw [hW]; exact below_two _ _ _
    have hsz : w.heap.size + 1 < W.heap.size := lt_cell c5
    clear hW
    go_region_with (first | (go_at_call 33; refine (HF'.out _).mono ?_; rintro e v1 ⟨rfl, d1⟩; have q4 := (d1.cell (p := ⟨w.heap.size, 0, none⟩) (by simp; omega)).trans c4; have q5 := (d1.cell (p := ⟨w.heap.size + 1, 0, none⟩) (by simp; omega)).trans c5; have k1 := below_go bW.drew d1) | (go_at_call 53; refine (HH'.out _).mono ?_; rintro e v2 ⟨rfl, rfl⟩))
    all_goals (go_wp2_with fail; go_meet; exact ⟨rfl, k1, q4, q5⟩)
  case rest =>
    obtain ⟨rfl, bl, c4, c5⟩ := hcut
    go_wp2_with fail
    refine (HC'.out _).mono ?_
    rintro e w2 ⟨rfl, b2⟩
    replace c4 := (b2.cell (p := ⟨w.heap.size, 0, none⟩) (lt_cell c4)).trans c4
    replace c5 := (b2.cell (p := ⟨w.heap.size + 1, 0, none⟩) (lt_cell c5)).trans c5
    replace bl := below_go bl b2
    go_wp2_with fail
    go_ret2
    exact ⟨rfl, bl⟩
set_option maxHeartbeats 4000000 in
theorem rf_skip (T : TypeId) (V : Value) (o m U : Int) (hq : (o == m) = false) (T2 T3 T4 tp : TypeId) (V2 V3 V4 vp : Value) (hx : (o != o) = false) (w : World) (hP : ∃ (F : FuncId) (R : Value), (∀ n w, (method (n + 1) T2 V2 "loop.example/g01175/impl.parts").run Tryz.prog w = .ok (F, R) w) ∧ (∀ n w, (nilAhead (n + 1) T2 V2 "loop.example/g01175/impl.parts").run Tryz.prog w = .ok (some false) w) ∧ (∀ args w, (callFunc F args).run Tryz.prog w = .ok (.enter F args) w) ∧ ∀ w, Calls Tryz.prog F #[R] w fun e w' => ∃ b, e = .returned (.slice (some ⟨b, 0, none⟩) 1 1) ∧ w.heap.size ≤ b ∧ w'.heap[b]? = some (.cells #[.iface tp vp] 46 (0, 0)) ∧ Below w.heap.size w w')
    (HF : ∀ w, Calls Tryz.prog 33 #[.iface T V] w fun e w' => e = .returned (.int .u32 U) ∧ Below w.heap.size w w') (HH : ∀ w, Calls Tryz.prog 53 #[.int .u32 U, .int .u8 o] w fun e w' => e = .returned (.bool true) ∧ w = w') (HC : ∀ w, Calls Tryz.prog 54 #[.iface T V, .int .u8 o, .int .u8 m] w fun e w' => e = .returned (.tuple #[.iface T2 V2, .bool true]) ∧ Below w.heap.size w w') (HB : ∀ w, Calls Tryz.prog 55 #[.iface T2 V2] w fun e w' => e = .returned (.tuple #[.int .u8 o, .bool true]) ∧ Below w.heap.size w w') (HW : ∀ (b : Nat) (w : World), w.cell? ⟨b, 0, none⟩ = some (.iface tp vp) → Calls Tryz.prog 57 #[.iface T2 V2, .slice (some ⟨b, 0, none⟩) 1 1] w fun e w' => e = .returned (.iface T3 V3) ∧ Below w.heap.size w w') (HU : ∀ v, v.cell? ⟨w.heap.size, 0, none⟩ = some (.int .u8 o) → v.cell? ⟨w.heap.size + 1, 0, none⟩ = some (.int .u8 m) → Calls Tryz.prog 56 #[.iface T3 V3, .func (.func 58) #[] #[.pointer (some ⟨w.heap.size, 0, none⟩), .pointer (some ⟨w.heap.size + 1, 0, none⟩)]] v fun e v' => e = .returned (.iface T4 V4) ∧ Below v.heap.size v v') :
    Calls Tryz.prog 27 #[.iface T V, .int .u8 o, .int .u8 m] w fun e w' => e = .returned (.tuple #[.iface T4 V4, .bool true]) ∧ Below w.heap.size w w' := by
  obtain ⟨F, RR, hm, hn, hc, hp⟩ := hP
  have HP := Lib.hid hp
  clear hp
  have HF' := Lib.hid HF
  have HH' := Lib.hid HH
  have HC' := Lib.hid HC
  have HB' := Lib.hid HB
  have HW' := Lib.hid HW
  have HU' := Lib.hid HU
  clear HF HH HC HB HW HU
  go_enter Tryz.func27, Tryz.ntmps27
  go_upto_region 1 with fail
  go_cut [23] (fun s23 wx => s23 = .bool false ∧ Below w.heap.size w wx ∧ wx.cell? ⟨w.heap.size, 0, none⟩ = some (.int .u8 o) ∧ wx.cell? ⟨w.heap.size + 1, 0, none⟩ = some (.int .u8 m))
  case first =>
    obtain ⟨W, hW⟩ : ∃ W, W = (w.alloc (.cells #[.int .u8 o] 5)).alloc (.cells #[.int .u8 m] 5) := ⟨_, rfl⟩
    rw [← hW]
    have c4 : W.cell? ⟨w.heap.size, 0, none⟩ = some (.int .u8 o) := by rw [hW]; exact cellOf1 (first_block _ _ _)
    have c5 : W.cell? ⟨w.heap.size + 1, 0, none⟩ = some (.int .u8 m) := by rw [hW]; exact cellOf1 (last_block _ _ _)
    have bW : Below w.heap.size w W := by rw [hW]; exact below_two _ _ _
    have hsz : w.heap.size + 1 < W.heap.size := lt_cell c5
    clear hW
    go_region_with (first | (go_at_call 33; refine (HF'.out _).mono ?_; rintro e v1 ⟨rfl, d1⟩; have q4 := (d1.cell (p := ⟨w.heap.size, 0, none⟩) (by simp; omega)).trans c4; have q5 := (d1.cell (p := ⟨w.heap.size + 1, 0, none⟩) (by simp; omega)).trans c5; have k1 := below_go bW.drew d1) | (go_at_call 53; refine (HH'.out _).mono ?_; rintro e v2 ⟨rfl, rfl⟩))
    all_goals (go_wp2_with fail; go_meet; exact ⟨rfl, k1, q4, q5⟩)
  case rest =>
    obtain ⟨rfl, bl, c4, c5⟩ := hcut
    go_wp2_with fail
    refine (HC'.out _).mono ?_
    rintro e w2 ⟨rfl, b2⟩
    replace c4 := (b2.cell (p := ⟨w.heap.size, 0, none⟩) (lt_cell c4)).trans c4
    replace c5 := (b2.cell (p := ⟨w.heap.size + 1, 0, none⟩) (lt_cell c5)).trans c5
    replace bl := below_go bl b2
    go_wp2_with fail
    refine (HP.out _).mono ?_
    rintro e w3 ⟨b, rfl, hb, hh, b3⟩
    have hkb : w.heap.size + 1 < b := Nat.lt_of_lt_of_le (lt_cell c5) hb
    replace c4 := (b3.cell (p := ⟨w.heap.size, 0, none⟩) (lt_cell c4)).trans c4
    replace c5 := (b3.cell (p := ⟨w.heap.size + 1, 0, none⟩) (lt_cell c5)).trans c5
    replace bl := below_go bl b3
    clear hb
    have Hh := Lib.hid hh
    clear hh
    go_wp2_with fail
    refine (HB'.out _).mono ?_
    rintro e w4 ⟨rfl, b4⟩
    replace c4 := (b4.cell (p := ⟨w.heap.size, 0, none⟩) (lt_cell c4)).trans c4
    replace c5 := (b4.cell (p := ⟨w.heap.size + 1, 0, none⟩) (lt_cell c5)).trans c5
    replace bl := below_go bl b4
    have hh := (b4.block b (lt_of_block Hh.out)).trans Hh.out
    have d0 := cellOf1 hh
    have f0 := free_of_one hh
    have g4 := Lib.hid hh
    clear hh Hh
    have d1 := Lib.hid d0
    clear f0
    go_wp2_with fail
    refine (HW'.out b _ d0).mono ?_
    rintro e w8 ⟨rfl, b8⟩
    replace c4 := (b8.cell (p := ⟨w.heap.size, 0, none⟩) (lt_cell c4)).trans c4
    replace c5 := (b8.cell (p := ⟨w.heap.size + 1, 0, none⟩) (lt_cell c5)).trans c5
    replace bl := below_go bl b8
    go_wp2_with fail
    refine (HU'.out _ c4 c5).mono ?_
    rintro e w9 ⟨rfl, b9⟩
    replace bl := below_go bl b9
    go_wp2_with fail
    go_ret2
    exact ⟨rfl, bl⟩
set_option maxHeartbeats 4000000 in
theorem rf_one (T : TypeId) (V : Value) (o m U : Int) (hq : (o == m) = false) (T2 T3 T4 tp : TypeId) (V2 V3 V4 vp : Value) (tr : TypeId) (vr : Value) (w : World) (hP : ∃ (F : FuncId) (R : Value), (∀ n w, (method (n + 1) T2 V2 "loop.example/g01175/impl.parts").run Tryz.prog w = .ok (F, R) w) ∧ (∀ n w, (nilAhead (n + 1) T2 V2 "loop.example/g01175/impl.parts").run Tryz.prog w = .ok (some false) w) ∧ (∀ args w, (callFunc F args).run Tryz.prog w = .ok (.enter F args) w) ∧ ∀ w, Calls Tryz.prog F #[R] w fun e w' => ∃ b, e = .returned (.slice (some ⟨b, 0, none⟩) 1 1) ∧ w.heap.size ≤ b ∧ w'.heap[b]? = some (.cells #[.iface tp vp] 46 (0, 0)) ∧ Below w.heap.size w w')
    (HF : ∀ w, Calls Tryz.prog 33 #[.iface T V] w fun e w' => e = .returned (.int .u32 U) ∧ Below w.heap.size w w') (HH : ∀ w, Calls Tryz.prog 53 #[.int .u32 U, .int .u8 o] w fun e w' => e = .returned (.bool true) ∧ w = w') (HC : ∀ w, Calls Tryz.prog 54 #[.iface T V, .int .u8 o, .int .u8 m] w fun e w' => e = .returned (.tuple #[.iface T2 V2, .bool true]) ∧ Below w.heap.size w w') (HB : ∀ w, Calls Tryz.prog 55 #[.iface T2 V2] w fun e w' => e = .returned (.tuple #[.int .u8 0, .bool false]) ∧ Below w.heap.size w w') (IH : ∀ w, Calls Tryz.prog 27 #[.iface tp vp, .int .u8 o, .int .u8 m] w fun e w' => e = .returned (.tuple #[.iface tr vr, .bool true]) ∧ Below w.heap.size w w') (HW : ∀ (b : Nat) (w : World), w.cell? ⟨b, 0, none⟩ = some (.iface tr vr) → Calls Tryz.prog 57 #[.iface T2 V2, .slice (some ⟨b, 0, none⟩) 1 1] w fun e w' => e = .returned (.iface T3 V3) ∧ Below w.heap.size w w') (HU : ∀ v, v.cell? ⟨w.heap.size, 0, none⟩ = some (.int .u8 o) → v.cell? ⟨w.heap.size + 1, 0, none⟩ = some (.int .u8 m) → Calls Tryz.prog 56 #[.iface T3 V3, .func (.func 58) #[] #[.pointer (some ⟨w.heap.size, 0, none⟩), .pointer (some ⟨w.heap.size + 1, 0, none⟩)]] v fun e v' => e = .returned (.iface T4 V4) ∧ Below v.heap.size v v') :
    Calls Tryz.prog 27 #[.iface T V, .int .u8 o, .int .u8 m] w fun e w' => e = .returned (.tuple #[.iface T4 V4, .bool true]) ∧ Below w.heap.size w w' := by
  obtain ⟨F, RR, hm, hn, hc, hp⟩ := hP
  have HP := Lib.hid hp
  clear hp
  have HF' := Lib.hid HF
  have HH' := Lib.hid HH
  have HC' := Lib.hid HC
  have HB' := Lib.hid HB
  have IH' := Lib.hid IH
  have HW' := Lib.hid HW
  have HU' := Lib.hid HU
  clear HF HH HC HB IH HW HU
  go_enter Tryz.func27, Tryz.ntmps27
  go_upto_region 1 with fail
  go_cut [23] (fun s23 wx => s23 = .bool false ∧ Below w.heap.size w wx ∧ wx.cell? ⟨w.heap.size, 0, none⟩ = some (.int .u8 o) ∧ wx.cell? ⟨w.heap.size + 1, 0, none⟩ = some (.int .u8 m))
  case first =>
    obtain ⟨W, hW⟩ : ∃ W, W = (w.alloc (.cells #[.int .u8 o] 5)).alloc (.cells #[.int .u8 m] 5) := ⟨_, rfl⟩
    rw [← hW]
    have c4 : W.cell? ⟨w.heap.size, 0, none⟩ = some (.int .u8 o) := by rw [hW]; exact cellOf1 (first_block _ _ _)
    have c5 : W.cell? ⟨w.heap.size + 1, 0, none⟩ = some (.int .u8 m) := by rw [hW]; exact cellOf1 (last_block _ _ _)
    have bW : Below w.heap.size w W := by rw [hW]; exact below_two _ _ _
    have hsz : w.heap.size + 1 < W.heap.size := lt_cell c5
    clear hW
    go_region_with (first | (go_at_call 33; refine (HF'.out _).mono ?_; rintro e v1 ⟨rfl, d1⟩; have q4 := (d1.cell (p := ⟨w.heap.size, 0, none⟩) (by simp; omega)).trans c4; have q5 := (d1.cell (p := ⟨w.heap.size + 1, 0, none⟩) (by simp; omega)).trans c5; have k1 := below_go bW.drew d1) | (go_at_call 53; refine (HH'.out _).mono ?_; rintro e v2 ⟨rfl, rfl⟩))
    all_goals (go_wp2_with fail; go_meet; exact ⟨rfl, k1, q4, q5⟩)
  case rest =>
    obtain ⟨rfl, bl, c4, c5⟩ := hcut
    go_wp2_with fail
    refine (HC'.out _).mono ?_
    rintro e w2 ⟨rfl, b2⟩
    replace c4 := (b2.cell (p := ⟨w.heap.size, 0, none⟩) (lt_cell c4)).trans c4
    replace c5 := (b2.cell (p := ⟨w.heap.size + 1, 0, none⟩) (lt_cell c5)).trans c5
    replace bl := below_go bl b2
    go_wp2_with fail
    refine (HP.out _).mono ?_
    rintro e w3 ⟨b, rfl, hb, hh, b3⟩
    have hkb : w.heap.size + 1 < b := Nat.lt_of_lt_of_le (lt_cell c5) hb
    replace c4 := (b3.cell (p := ⟨w.heap.size, 0, none⟩) (lt_cell c4)).trans c4
    replace c5 := (b3.cell (p := ⟨w.heap.size + 1, 0, none⟩) (lt_cell c5)).trans c5
    replace bl := below_go bl b3
    clear hb
    have Hh := Lib.hid hh
    clear hh
    go_wp2_with fail
    refine (HB'.out _).mono ?_
    rintro e w4 ⟨rfl, b4⟩
    replace c4 := (b4.cell (p := ⟨w.heap.size, 0, none⟩) (lt_cell c4)).trans c4
    replace c5 := (b4.cell (p := ⟨w.heap.size + 1, 0, none⟩) (lt_cell c5)).trans c5
    replace bl := below_go bl b4
    have hh := (b4.block b (lt_of_block Hh.out)).trans Hh.out
    have d0 := cellOf1 hh
    have f0 := free_of_one hh
    have g4 := Lib.hid hh
    clear hh Hh
    go_wp2_with fail
    refine wp_loop_rounds 2 ?_
    rw [rounds_succ]
    go_wp2_with fail
    refine (IH'.out _).mono ?_
    rintro e w5 ⟨rfl, b5⟩
    replace c4 := (b5.cell (p := ⟨w.heap.size, 0, none⟩) (lt_cell c4)).trans c4
    replace c5 := (b5.cell (p := ⟨w.heap.size + 1, 0, none⟩) (lt_cell c5)).trans c5
    replace bl := below_go bl b5
    have h5 := (b5.block b (lt_of_block g4.out)).trans g4.out
    clear d0 f0
    have d0 := cellOf1 h5
    have f0 := free_of_one h5
    replace c4 := (((Below.refl b w5).setCell (p := ⟨b, 0, none⟩) (Nat.le_refl b) (.iface tr vr)).cell (p := ⟨w.heap.size, 0, none⟩) (by show w.heap.size < b; omega)).trans c4
    replace c5 := (((Below.refl b w5).setCell (p := ⟨b, 0, none⟩) (Nat.le_refl b) (.iface tr vr)).cell (p := ⟨w.heap.size + 1, 0, none⟩) (by show w.heap.size + 1 < b; omega)).trans c5
    replace bl := bl.setCell (p := ⟨b, 0, none⟩) (by show w.heap.size ≤ b; omega) (.iface tr vr)
    have e5 := one_setCell (u := .iface tr vr) h5
    have e0 := Lib.hid (cellOf1 e5)
    clear h5 e5
    go_wp2_with fail
    rw [rounds_succ]
    go_wp2_with fail
    refine (HW'.out b _ e0.out).mono ?_
    rintro e w8 ⟨rfl, b8⟩
    replace c4 := (b8.cell (p := ⟨w.heap.size, 0, none⟩) (lt_cell c4)).trans c4
    replace c5 := (b8.cell (p := ⟨w.heap.size + 1, 0, none⟩) (lt_cell c5)).trans c5
    replace bl := below_go bl b8
    go_wp2_with fail
    refine (HU'.out _ c4 c5).mono ?_
    rintro e w9 ⟨rfl, b9⟩
    replace bl := below_go bl b9
    go_wp2_with fail
    go_ret2
    exact ⟨rfl, bl⟩
set_option maxHeartbeats 4000000 in
theorem rf_oneF (T : TypeId) (V : Value) (o m U : Int) (hq : (o == m) = false) (T2 tp : TypeId) (V2 vp : Value) (w : World) (hP : ∃ (F : FuncId) (R : Value), (∀ n w, (method (n + 1) T2 V2 "loop.example/g01175/impl.parts").run Tryz.prog w = .ok (F, R) w) ∧ (∀ n w, (nilAhead (n + 1) T2 V2 "loop.example/g01175/impl.parts").run Tryz.prog w = .ok (some false) w) ∧ (∀ args w, (callFunc F args).run Tryz.prog w = .ok (.enter F args) w) ∧ ∀ w, Calls Tryz.prog F #[R] w fun e w' => ∃ b, e = .returned (.slice (some ⟨b, 0, none⟩) 1 1) ∧ w.heap.size ≤ b ∧ w'.heap[b]? = some (.cells #[.iface tp vp] 46 (0, 0)) ∧ Below w.heap.size w w')
    (HF : ∀ w, Calls Tryz.prog 33 #[.iface T V] w fun e w' => e = .returned (.int .u32 U) ∧ Below w.heap.size w w') (HH : ∀ w, Calls Tryz.prog 53 #[.int .u32 U, .int .u8 o] w fun e w' => e = .returned (.bool true) ∧ w = w') (HC : ∀ w, Calls Tryz.prog 54 #[.iface T V, .int .u8 o, .int .u8 m] w fun e w' => e = .returned (.tuple #[.iface T2 V2, .bool true]) ∧ Below w.heap.size w w') (HB : ∀ w, Calls Tryz.prog 55 #[.iface T2 V2] w fun e w' => e = .returned (.tuple #[.int .u8 0, .bool false]) ∧ Below w.heap.size w w') (IH : ∀ w, Calls Tryz.prog 27 #[.iface tp vp, .int .u8 o, .int .u8 m] w fun e w' => e = .returned (.tuple #[.nilIface, .bool false]) ∧ Below w.heap.size w w') :
    Calls Tryz.prog 27 #[.iface T V, .int .u8 o, .int .u8 m] w fun e w' => e = .returned (.tuple #[.nilIface, .bool false]) ∧ Below w.heap.size w w' := by
  obtain ⟨F, RR, hm, hn, hc, hp⟩ := hP
  have HP := Lib.hid hp
  clear hp
  have HF' := Lib.hid HF
  have HH' := Lib.hid HH
  have HC' := Lib.hid HC
  have HB' := Lib.hid HB
  have IH' := Lib.hid IH
  clear HF HH HC HB IH
  go_enter Tryz.func27, Tryz.ntmps27
  go_upto_region 1 with fail
  go_cut [23] (fun s23 wx => s23 = .bool false ∧ Below w.heap.size w wx ∧ wx.cell? ⟨w.heap.size, 0, none⟩ = some (.int .u8 o) ∧ wx.cell? ⟨w.heap.size + 1, 0, none⟩ = some (.int .u8 m))
  case first =>
    obtain ⟨W, hW⟩ : ∃ W, W = (w.alloc (.cells #[.int .u8 o] 5)).alloc (.cells #[.int .u8 m] 5) := ⟨_, rfl⟩
    rw [← hW]
    have c4 : W.cell? ⟨w.heap.size, 0, none⟩ = some (.int .u8 o) := by rw [hW]; exact cellOf1 (first_block _ _ _)
    have c5 : W.cell? ⟨w.heap.size + 1, 0, none⟩ = some (.int .u8 m) := by rw [hW]; exact cellOf1 (last_block _ _ _)
    have bW : Below w.heap.size w W := by rw [hW]; exact below_two _ _ _
    have hsz : w.heap.size + 1 < W.heap.size := lt_cell c5
    clear hW
    go_region_with (first | (go_at_call 33; refine (HF'.out _).mono ?_; rintro e v1 ⟨rfl, d1⟩; have q4 := (d1.cell (p := ⟨w.heap.size, 0, none⟩) (by simp; omega)).trans c4; have q5 := (d1.cell (p := ⟨w.heap.size + 1, 0, none⟩) (by simp; omega)).trans c5; have k1 := below_go bW.drew d1) | (go_at_call 53; refine (HH'.out _).mono ?_; rintro e v2 ⟨rfl, rfl⟩))
    all_goals (go_wp2_with fail; go_meet; exact ⟨rfl, k1, q4, q5⟩)
  case rest =>
    obtain ⟨rfl, bl, c4, c5⟩ := hcut
    go_wp2_with fail
    refine (HC'.out _).mono ?_
    rintro e w2 ⟨rfl, b2⟩
    replace c4 := (b2.cell (p := ⟨w.heap.size, 0, none⟩) (lt_cell c4)).trans c4
    replace c5 := (b2.cell (p := ⟨w.heap.size + 1, 0, none⟩) (lt_cell c5)).trans c5
    replace bl := below_go bl b2
    go_wp2_with fail
    refine (HP.out _).mono ?_
    rintro e w3 ⟨b, rfl, hb, hh, b3⟩
    have hkb : w.heap.size + 1 < b := Nat.lt_of_lt_of_le (lt_cell c5) hb
    replace c4 := (b3.cell (p := ⟨w.heap.size, 0, none⟩) (lt_cell c4)).trans c4
    replace c5 := (b3.cell (p := ⟨w.heap.size + 1, 0, none⟩) (lt_cell c5)).trans c5
    replace bl := below_go bl b3
    clear hb
    have Hh := Lib.hid hh
    clear hh
    go_wp2_with fail
    refine (HB'.out _).mono ?_
    rintro e w4 ⟨rfl, b4⟩
    replace c4 := (b4.cell (p := ⟨w.heap.size, 0, none⟩) (lt_cell c4)).trans c4
    replace c5 := (b4.cell (p := ⟨w.heap.size + 1, 0, none⟩) (lt_cell c5)).trans c5
    replace bl := below_go bl b4
    have hh := (b4.block b (lt_of_block Hh.out)).trans Hh.out
    have d0 := cellOf1 hh
    have f0 := free_of_one hh
    have g4 := Lib.hid hh
    clear hh Hh
    go_wp2_with fail
    refine wp_loop_rounds 2 ?_
    rw [rounds_succ]
    go_wp2_with fail
    refine (IH'.out _).mono ?_
    rintro e w5 ⟨rfl, b5⟩
    replace c4 := (b5.cell (p := ⟨w.heap.size, 0, none⟩) (lt_cell c4)).trans c4
    replace c5 := (b5.cell (p := ⟨w.heap.size + 1, 0, none⟩) (lt_cell c5)).trans c5
    replace bl := below_go bl b5
    have h5 := (b5.block b (lt_of_block g4.out)).trans g4.out
    clear d0 f0
    have d0 := cellOf1 h5
    have f0 := free_of_one h5
    replace c4 := (((Below.refl b w5).setCell (p := ⟨b, 0, none⟩) (Nat.le_refl b) (.nilIface)).cell (p := ⟨w.heap.size, 0, none⟩) (by show w.heap.size < b; omega)).trans c4
    replace c5 := (((Below.refl b w5).setCell (p := ⟨b, 0, none⟩) (Nat.le_refl b) (.nilIface)).cell (p := ⟨w.heap.size + 1, 0, none⟩) (by show w.heap.size + 1 < b; omega)).trans c5
    replace bl := bl.setCell (p := ⟨b, 0, none⟩) (by show w.heap.size ≤ b; omega) (.nilIface)
    clear h5
    go_wp2_with fail
    go_ret2
    exact ⟨rfl, bl⟩
set_option maxHeartbeats 4000000 in
theorem rf_oneB (T : TypeId) (V : Value) (o m U : Int) (hq : (o == m) = false) (T2 T3 T4 tp : TypeId) (V2 V3 V4 vp : Value) (tr : TypeId) (vr : Value) (x : Int) (hx : (x != o) = true) (w : World) (hP : ∃ (F : FuncId) (R : Value), (∀ n w, (method (n + 1) T2 V2 "loop.example/g01175/impl.parts").run Tryz.prog w = .ok (F, R) w) ∧ (∀ n w, (nilAhead (n + 1) T2 V2 "loop.example/g01175/impl.parts").run Tryz.prog w = .ok (some false) w) ∧ (∀ args w, (callFunc F args).run Tryz.prog w = .ok (.enter F args) w) ∧ ∀ w, Calls Tryz.prog F #[R] w fun e w' => ∃ b, e = .returned (.slice (some ⟨b, 0, none⟩) 1 1) ∧ w.heap.size ≤ b ∧ w'.heap[b]? = some (.cells #[.iface tp vp] 46 (0, 0)) ∧ Below w.heap.size w w')
    (HF : ∀ w, Calls Tryz.prog 33 #[.iface T V] w fun e w' => e = .returned (.int .u32 U) ∧ Below w.heap.size w w') (HH : ∀ w, Calls Tryz.prog 53 #[.int .u32 U, .int .u8 o] w fun e w' => e = .returned (.bool true) ∧ w = w') (HC : ∀ w, Calls Tryz.prog 54 #[.iface T V, .int .u8 o, .int .u8 m] w fun e w' => e = .returned (.tuple #[.iface T2 V2, .bool true]) ∧ Below w.heap.size w w') (HB : ∀ w, Calls Tryz.prog 55 #[.iface T2 V2] w fun e w' => e = .returned (.tuple #[.int .u8 x, .bool true]) ∧ Below w.heap.size w w') (IH : ∀ w, Calls Tryz.prog 27 #[.iface tp vp, .int .u8 o, .int .u8 m] w fun e w' => e = .returned (.tuple #[.iface tr vr, .bool true]) ∧ Below w.heap.size w w') (HW : ∀ (b : Nat) (w : World), w.cell? ⟨b, 0, none⟩ = some (.iface tr vr) → Calls Tryz.prog 57 #[.iface T2 V2, .slice (some ⟨b, 0, none⟩) 1 1] w fun e w' => e = .returned (.iface T3 V3) ∧ Below w.heap.size w w') (HU : ∀ v, v.cell? ⟨w.heap.size, 0, none⟩ = some (.int .u8 o) → v.cell? ⟨w.heap.size + 1, 0, none⟩ = some (.int .u8 m) → Calls Tryz.prog 56 #[.iface T3 V3, .func (.func 58) #[] #[.pointer (some ⟨w.heap.size, 0, none⟩), .pointer (some ⟨w.heap.size + 1, 0, none⟩)]] v fun e v' => e = .returned (.iface T4 V4) ∧ Below v.heap.size v v') :
    Calls Tryz.prog 27 #[.iface T V, .int .u8 o, .int .u8 m] w fun e w' => e = .returned (.tuple #[.iface T4 V4, .bool true]) ∧ Below w.heap.size w w' := by
  obtain ⟨F, RR, hm, hn, hc, hp⟩ := hP
  have HP := Lib.hid hp
  clear hp
  have HF' := Lib.hid HF
  have HH' := Lib.hid HH
  have HC' := Lib.hid HC
  have HB' := Lib.hid HB
  have IH' := Lib.hid IH
  have HW' := Lib.hid HW
  have HU' := Lib.hid HU
  clear HF HH HC HB IH HW HU
  go_enter Tryz.func27, Tryz.ntmps27
  go_upto_region 1 with fail
  go_cut [23] (fun s23 wx => s23 = .bool false ∧ Below w.heap.size w wx ∧ wx.cell? ⟨w.heap.size, 0, none⟩ = some (.int .u8 o) ∧ wx.cell? ⟨w.heap.size + 1, 0, none⟩ = some (.int .u8 m))
  case first =>
    obtain ⟨W, hW⟩ : ∃ W, W = (w.alloc (.cells #[.int .u8 o] 5)).alloc (.cells #[.int .u8 m] 5) := ⟨_, rfl⟩
    rw [← hW]
    have c4 : W.cell? ⟨w.heap.size, 0, none⟩ = some (.int .u8 o) := by rw [hW]; exact cellOf1 (first_block _ _ _)
    have c5 : W.cell? ⟨w.heap.size + 1, 0, none⟩ = some (.int .u8 m) := by rw [hW]; exact cellOf1 (last_block _ _ _)
    have bW : Below w.heap.size w W := by rw [hW]; exact below_two _ _ _
    have hsz : w.heap.size + 1 < W.heap.size := lt_cell c5
    clear hW
    go_region_with (first | (go_at_call 33; refine (HF'.out _).mono ?_; rintro e v1 ⟨rfl, d1⟩; have q4 := (d1.cell (p := ⟨w.heap.size, 0, none⟩) (by simp; omega)).trans c4; have q5 := (d1.cell (p := ⟨w.heap.size + 1, 0, none⟩) (by simp; omega)).trans c5; have k1 := below_go bW.drew d1) | (go_at_call 53; refine (HH'.out _).mono ?_; rintro e v2 ⟨rfl, rfl⟩))
    all_goals (go_wp2_with fail; go_meet; exact ⟨rfl, k1, q4, q5⟩)
  case rest =>
    obtain ⟨rfl, bl, c4, c5⟩ := hcut
    go_wp2_with fail
    refine (HC'.out _).mono ?_
    rintro e w2 ⟨rfl, b2⟩
    replace c4 := (b2.cell (p := ⟨w.heap.size, 0, none⟩) (lt_cell c4)).trans c4
    replace c5 := (b2.cell (p := ⟨w.heap.size + 1, 0, none⟩) (lt_cell c5)).trans c5
    replace bl := below_go bl b2
    go_wp2_with fail
    refine (HP.out _).mono ?_
    rintro e w3 ⟨b, rfl, hb, hh, b3⟩
    have hkb : w.heap.size + 1 < b := Nat.lt_of_lt_of_le (lt_cell c5) hb
    replace c4 := (b3.cell (p := ⟨w.heap.size, 0, none⟩) (lt_cell c4)).trans c4
    replace c5 := (b3.cell (p := ⟨w.heap.size + 1, 0, none⟩) (lt_cell c5)).trans c5
    replace bl := below_go bl b3
    clear hb
    have Hh := Lib.hid hh
    clear hh
    go_wp2_with fail
    refine (HB'.out _).mono ?_
    rintro e w4 ⟨rfl, b4⟩
    replace c4 := (b4.cell (p := ⟨w.heap.size, 0, none⟩) (lt_cell c4)).trans c4
    replace c5 := (b4.cell (p := ⟨w.heap.size + 1, 0, none⟩) (lt_cell c5)).trans c5
    replace bl := below_go bl b4
    have hh := (b4.block b (lt_of_block Hh.out)).trans Hh.out
    have d0 := cellOf1 hh
    have f0 := free_of_one hh
    have g4 := Lib.hid hh
    clear hh Hh
    go_wp2_with fail
    refine wp_loop_rounds 2 ?_
    rw [rounds_succ]
    go_wp2_with fail
    refine (IH'.out _).mono ?_
    rintro e w5 ⟨rfl, b5⟩
    replace c4 := (b5.cell (p := ⟨w.heap.size, 0, none⟩) (lt_cell c4)).trans c4
    replace c5 := (b5.cell (p := ⟨w.heap.size + 1, 0, none⟩) (lt_cell c5)).trans c5
    replace bl := below_go bl b5
    have h5 := (b5.block b (lt_of_block g4.out)).trans g4.out
    clear d0 f0
    have d0 := cellOf1 h5
    have f0 := free_of_one h5
    replace c4 := (((Below.refl b w5).setCell (p := ⟨b, 0, none⟩) (Nat.le_refl b) (.iface tr vr)).cell (p := ⟨w.heap.size, 0, none⟩) (by show w.heap.size < b; omega)).trans c4
    replace c5 := (((Below.refl b w5).setCell (p := ⟨b, 0, none⟩) (Nat.le_refl b) (.iface tr vr)).cell (p := ⟨w.heap.size + 1, 0, none⟩) (by show w.heap.size + 1 < b; omega)).trans c5
    replace bl := bl.setCell (p := ⟨b, 0, none⟩) (by show w.heap.size ≤ b; omega) (.iface tr vr)
    have e5 := one_setCell (u := .iface tr vr) h5
    have e0 := Lib.hid (cellOf1 e5)
    clear h5 e5
    go_wp2_with fail
    rw [rounds_succ]
    go_wp2_with fail
    refine (HW'.out b _ e0.out).mono ?_
    rintro e w8 ⟨rfl, b8⟩
    replace c4 := (b8.cell (p := ⟨w.heap.size, 0, none⟩) (lt_cell c4)).trans c4
    replace c5 := (b8.cell (p := ⟨w.heap.size + 1, 0, none⟩) (lt_cell c5)).trans c5
    replace bl := below_go bl b8
    go_wp2_with fail
    refine (HU'.out _ c4 c5).mono ?_
    rintro e w9 ⟨rfl, b9⟩
    replace bl := below_go bl b9
    go_wp2_with fail
    go_ret2
    exact ⟨rfl, bl⟩
set_option maxHeartbeats 4000000 in
theorem rf_oneBF (T : TypeId) (V : Value) (o m U : Int) (hq : (o == m) = false) (T2 tp : TypeId) (V2 vp : Value) (x : Int) (hx : (x != o) = true) (w : World) (hP : ∃ (F : FuncId) (R : Value), (∀ n w, (method (n + 1) T2 V2 "loop.example/g01175/impl.parts").run Tryz.prog w = .ok (F, R) w) ∧ (∀ n w, (nilAhead (n + 1) T2 V2 "loop.example/g01175/impl.parts").run Tryz.prog w = .ok (some false) w) ∧ (∀ args w, (callFunc F args).run Tryz.prog w = .ok (.enter F args) w) ∧ ∀ w, Calls Tryz.prog F #[R] w fun e w' => ∃ b, e = .returned (.slice (some ⟨b, 0, none⟩) 1 1) ∧ w.heap.size ≤ b ∧ w'.heap[b]? = some (.cells #[.iface tp vp] 46 (0, 0)) ∧ Below w.heap.size w w')
    (HF : ∀ w, Calls Tryz.prog 33 #[.iface T V] w fun e w' => e = .returned (.int .u32 U) ∧ Below w.heap.size w w') (HH : ∀ w, Calls Tryz.prog 53 #[.int .u32 U, .int .u8 o] w fun e w' => e = .returned (.bool true) ∧ w = w') (HC : ∀ w, Calls Tryz.prog 54 #[.iface T V, .int .u8 o, .int .u8 m] w fun e w' => e = .returned (.tuple #[.iface T2 V2, .bool true]) ∧ Below w.heap.size w w') (HB : ∀ w, Calls Tryz.prog 55 #[.iface T2 V2] w fun e w' => e = .returned (.tuple #[.int .u8 x, .bool true]) ∧ Below w.heap.size w w') (IH : ∀ w, Calls Tryz.prog 27 #[.iface tp vp, .int .u8 o, .int .u8 m] w fun e w' => e = .returned (.tuple #[.nilIface, .bool false]) ∧ Below w.heap.size w w') :
    Calls Tryz.prog 27 #[.iface T V, .int .u8 o, .int .u8 m] w fun e w' => e = .returned (.tuple #[.nilIface, .bool false]) ∧ Below w.heap.size w w' := by
  obtain ⟨F, RR, hm, hn, hc, hp⟩ := hP
  have HP := Lib.hid hp
  clear hp
  have HF' := Lib.hid HF
  have HH' := Lib.hid HH
  have HC' := Lib.hid HC
  have HB' := Lib.hid HB
  have IH' := Lib.hid IH
  clear HF HH HC HB IH
  go_enter Tryz.func27, Tryz.ntmps27
  go_upto_region 1 with fail
  go_cut [23] (fun s23 wx => s23 = .bool false ∧ Below w.heap.size w wx ∧ wx.cell? ⟨w.heap.size, 0, none⟩ = some (.int .u8 o) ∧ wx.cell? ⟨w.heap.size + 1, 0, none⟩ = some (.int .u8 m))
  case first =>
    obtain ⟨W, hW⟩ : ∃ W, W = (w.alloc (.cells #[.int .u8 o] 5)).alloc (.cells #[.int .u8 m] 5) := ⟨_, rfl⟩
    rw [← hW]
    have c4 : W.cell? ⟨w.heap.size, 0, none⟩ = some (.int .u8 o) := by rw [hW]; exact cellOf1 (first_block _ _ _)
    have c5 : W.cell? ⟨w.heap.size + 1, 0, none⟩ = some (.int .u8 m) := by rw [hW]; exact cellOf1 (last_block _ _ _)
    have bW : Below w.heap.size w W := by rw [hW]; exact below_two _ _ _
    have hsz : w.heap.size + 1 < W.heap.size := lt_cell c5
    clear hW
    go_region_with (first | (go_at_call 33; refine (HF'.out _).mono ?_; rintro e v1 ⟨rfl, d1⟩; have q4 := (d1.cell (p := ⟨w.heap.size, 0, none⟩) (by simp; omega)).trans c4; have q5 := (d1.cell (p := ⟨w.heap.size + 1, 0, none⟩) (by simp; omega)).trans c5; have k1 := below_go bW.drew d1) | (go_at_call 53; refine (HH'.out _).mono ?_; rintro e v2 ⟨rfl, rfl⟩))
    all_goals (go_wp2_with fail; go_meet; exact ⟨rfl, k1, q4, q5⟩)
  case rest =>
    obtain ⟨rfl, bl, c4, c5⟩ := hcut
    go_wp2_with fail
    refine (HC'.out _).mono ?_
    rintro e w2 ⟨rfl, b2⟩
    replace c4 := (b2.cell (p := ⟨w.heap.size, 0, none⟩) (lt_cell c4)).trans c4
    replace c5 := (b2.cell (p := ⟨w.heap.size + 1, 0, none⟩) (lt_cell c5)).trans c5
    replace bl := below_go bl b2
    go_wp2_with fail
    refine (HP.out _).mono ?_
    rintro e w3 ⟨b, rfl, hb, hh, b3⟩
    have hkb : w.heap.size + 1 < b := Nat.lt_of_lt_of_le (lt_cell c5) hb
    replace c4 := (b3.cell (p := ⟨w.heap.size, 0, none⟩) (lt_cell c4)).trans c4
    replace c5 := (b3.cell (p := ⟨w.heap.size + 1, 0, none⟩) (lt_cell c5)).trans c5
    replace bl := below_go bl b3
    clear hb
    have Hh := Lib.hid hh
    clear hh
    go_wp2_with fail
    refine (HB'.out _).mono ?_
    rintro e w4 ⟨rfl, b4⟩
    replace c4 := (b4.cell (p := ⟨w.heap.size, 0, none⟩) (lt_cell c4)).trans c4
    replace c5 := (b4.cell (p := ⟨w.heap.size + 1, 0, none⟩) (lt_cell c5)).trans c5
    replace bl := below_go bl b4
    have hh := (b4.block b (lt_of_block Hh.out)).trans Hh.out
    have d0 := cellOf1 hh
    have f0 := free_of_one hh
    have g4 := Lib.hid hh
    clear hh Hh
    go_wp2_with fail
    refine wp_loop_rounds 2 ?_
    rw [rounds_succ]
    go_wp2_with fail
    refine (IH'.out _).mono ?_
    rintro e w5 ⟨rfl, b5⟩
    replace c4 := (b5.cell (p := ⟨w.heap.size, 0, none⟩) (lt_cell c4)).trans c4
    replace c5 := (b5.cell (p := ⟨w.heap.size + 1, 0, none⟩) (lt_cell c5)).trans c5
    replace bl := below_go bl b5
    have h5 := (b5.block b (lt_of_block g4.out)).trans g4.out
    clear d0 f0
    have d0 := cellOf1 h5
    have f0 := free_of_one h5
    replace c4 := (((Below.refl b w5).setCell (p := ⟨b, 0, none⟩) (Nat.le_refl b) (.nilIface)).cell (p := ⟨w.heap.size, 0, none⟩) (by show w.heap.size < b; omega)).trans c4
    replace c5 := (((Below.refl b w5).setCell (p := ⟨b, 0, none⟩) (Nat.le_refl b) (.nilIface)).cell (p := ⟨w.heap.size + 1, 0, none⟩) (by show w.heap.size + 1 < b; omega)).trans c5
    replace bl := bl.setCell (p := ⟨b, 0, none⟩) (by show w.heap.size ≤ b; omega) (.nilIface)
    clear h5
    go_wp2_with fail
    go_ret2
    exact ⟨rfl, bl⟩
set_option maxHeartbeats 4000000 in
theorem rf_two (T : TypeId) (V : Value) (o m U : Int) (hq : (o == m) = false) (T2 T3 T4 tp : TypeId) (V2 V3 V4 vp : Value) (tq : TypeId) (vq : Value) (tr ts : TypeId) (vr vs : Value) (w : World) (hP : ∃ (F : FuncId) (R : Value), (∀ n w, (method (n + 1) T2 V2 "loop.example/g01175/impl.parts").run Tryz.prog w = .ok (F, R) w) ∧ (∀ n w, (nilAhead (n + 1) T2 V2 "loop.example/g01175/impl.parts").run Tryz.prog w = .ok (some false) w) ∧ (∀ args w, (callFunc F args).run Tryz.prog w = .ok (.enter F args) w) ∧ ∀ w, Calls Tryz.prog F #[R] w fun e w' => ∃ b, e = .returned (.slice (some ⟨b, 0, none⟩) 2 2) ∧ w.heap.size ≤ b ∧ w'.heap[b]? = some (.cells #[.iface tp vp, .iface tq vq] 46 (0, 0)) ∧ Below w.heap.size w w')
    (HF : ∀ w, Calls Tryz.prog 33 #[.iface T V] w fun e w' => e = .returned (.int .u32 U) ∧ Below w.heap.size w w') (HH : ∀ w, Calls Tryz.prog 53 #[.int .u32 U, .int .u8 o] w fun e w' => e = .returned (.bool true) ∧ w = w') (HC : ∀ w, Calls Tryz.prog 54 #[.iface T V, .int .u8 o, .int .u8 m] w fun e w' => e = .returned (.tuple #[.iface T2 V2, .bool true]) ∧ Below w.heap.size w w') (HB : ∀ w, Calls Tryz.prog 55 #[.iface T2 V2] w fun e w' => e = .returned (.tuple #[.int .u8 0, .bool false]) ∧ Below w.heap.size w w') (IH : ∀ w, Calls Tryz.prog 27 #[.iface tp vp, .int .u8 o, .int .u8 m] w fun e w' => e = .returned (.tuple #[.iface tr vr, .bool true]) ∧ Below w.heap.size w w') (IH2 : ∀ w, Calls Tryz.prog 27 #[.iface tq vq, .int .u8 o, .int .u8 m] w fun e w' => e = .returned (.tuple #[.iface ts vs, .bool true]) ∧ Below w.heap.size w w') (HW : ∀ (b : Nat) (w : World), w.cell? ⟨b, 0, none⟩ = some (.iface tr vr) → w.cell? ⟨b, 1, none⟩ = some (.iface ts vs) → Calls Tryz.prog 57 #[.iface T2 V2, .slice (some ⟨b, 0, none⟩) 2 2] w fun e w' => e = .returned (.iface T3 V3) ∧ Below w.heap.size w w') (HU : ∀ v, v.cell? ⟨w.heap.size, 0, none⟩ = some (.int .u8 o) → v.cell? ⟨w.heap.size + 1, 0, none⟩ = some (.int .u8 m) → Calls Tryz.prog 56 #[.iface T3 V3, .func (.func 58) #[] #[.pointer (some ⟨w.heap.size, 0, none⟩), .pointer (some ⟨w.heap.size + 1, 0, none⟩)]] v fun e v' => e = .returned (.iface T4 V4) ∧ Below v.heap.size v v') :
    Calls Tryz.prog 27 #[.iface T V, .int .u8 o, .int .u8 m] w fun e w' => e = .returned (.tuple #[.iface T4 V4, .bool true]) ∧ Below w.heap.size w w' := by
  obtain ⟨F, RR, hm, hn, hc, hp⟩ := hP
  have HP := Lib.hid hp
  clear hp
  have HF' := Lib.hid HF
  have HH' := Lib.hid HH
  have HC' := Lib.hid HC
  have HB' := Lib.hid HB
  have IH' := Lib.hid IH
  have IH2' := Lib.hid IH2
  have HW' := Lib.hid HW
  have HU' := Lib.hid HU
  clear HF HH HC HB IH IH2 HW HU
  go_enter Tryz.func27, Tryz.ntmps27
  go_upto_region 1 with fail
  go_cut [23] (fun s23 wx => s23 = .bool false ∧ Below w.heap.size w wx ∧ wx.cell? ⟨w.heap.size, 0, none⟩ = some (.int .u8 o) ∧ wx.cell? ⟨w.heap.size + 1, 0, none⟩ = some (.int .u8 m))
  case first =>
    obtain ⟨W, hW⟩ : ∃ W, W = (w.alloc (.cells #[.int .u8 o] 5)).alloc (.cells #[.int .u8 m] 5) := ⟨_, rfl⟩
    rw [← hW]
    have c4 : W.cell? ⟨w.heap.size, 0, none⟩ = some (.int .u8 o) := by rw [hW]; exact cellOf1 (first_block _ _ _)
    have c5 : W.cell? ⟨w.heap.size + 1, 0, none⟩ = some (.int .u8 m) := by rw [hW]; exact cellOf1 (last_block _ _ _)
    have bW : Below w.heap.size w W := by rw [hW]; exact below_two _ _ _
    have hsz : w.heap.size + 1 < W.heap.size := lt_cell c5
    clear hW
    go_region_with (first | (go_at_call 33; refine (HF'.out _).mono ?_; rintro e v1 ⟨rfl, d1⟩; have q4 := (d1.cell (p := ⟨w.heap.size, 0, none⟩) (by simp; omega)).trans c4; have q5 := (d1.cell (p := ⟨w.heap.size + 1, 0, none⟩) (by simp; omega)).trans c5; have k1 := below_go bW.drew d1) | (go_at_call 53; refine (HH'.out _).mono ?_; rintro e v2 ⟨rfl, rfl⟩))
    all_goals (go_wp2_with fail; go_meet; exact ⟨rfl, k1, q4, q5⟩)
  case rest =>
    obtain ⟨rfl, bl, c4, c5⟩ := hcut
    go_wp2_with fail
    refine (HC'.out _).mono ?_
    rintro e w2 ⟨rfl, b2⟩
    replace c4 := (b2.cell (p := ⟨w.heap.size, 0, none⟩) (lt_cell c4)).trans c4
    replace c5 := (b2.cell (p := ⟨w.heap.size + 1, 0, none⟩) (lt_cell c5)).trans c5
    replace bl := below_go bl b2
    go_wp2_with fail
    refine (HP.out _).mono ?_
    rintro e w3 ⟨b, rfl, hb, hh, b3⟩
    have hkb : w.heap.size + 1 < b := Nat.lt_of_lt_of_le (lt_cell c5) hb
    replace c4 := (b3.cell (p := ⟨w.heap.size, 0, none⟩) (lt_cell c4)).trans c4
    replace c5 := (b3.cell (p := ⟨w.heap.size + 1, 0, none⟩) (lt_cell c5)).trans c5
    replace bl := below_go bl b3
    clear hb
    have Hh := Lib.hid hh
    clear hh
    go_wp2_with fail
    refine (HB'.out _).mono ?_
    rintro e w4 ⟨rfl, b4⟩
    replace c4 := (b4.cell (p := ⟨w.heap.size, 0, none⟩) (lt_cell c4)).trans c4
    replace c5 := (b4.cell (p := ⟨w.heap.size + 1, 0, none⟩) (lt_cell c5)).trans c5
    replace bl := below_go bl b4
    have hh := (b4.block b (lt_of_block Hh.out)).trans Hh.out
    have d0 := cellOf2a hh
    have f0 := two_free hh 0
    have g4 := Lib.hid hh
    clear hh Hh
    go_wp2_with fail
    refine wp_loop_rounds 3 ?_
    rw [rounds_succ]
    go_wp2_with fail
    refine (IH'.out _).mono ?_
    rintro e w5 ⟨rfl, b5⟩
    replace c4 := (b5.cell (p := ⟨w.heap.size, 0, none⟩) (lt_cell c4)).trans c4
    replace c5 := (b5.cell (p := ⟨w.heap.size + 1, 0, none⟩) (lt_cell c5)).trans c5
    replace bl := below_go bl b5
    have h5 := (b5.block b (lt_of_block g4.out)).trans g4.out
    clear d0 f0
    have d0 := cellOf2a h5
    have f0 := two_free h5 0
    replace c4 := (((Below.refl b w5).setCell (p := ⟨b, 0, none⟩) (Nat.le_refl b) (.iface tr vr)).cell (p := ⟨w.heap.size, 0, none⟩) (by show w.heap.size < b; omega)).trans c4
    replace c5 := (((Below.refl b w5).setCell (p := ⟨b, 0, none⟩) (Nat.le_refl b) (.iface tr vr)).cell (p := ⟨w.heap.size + 1, 0, none⟩) (by show w.heap.size + 1 < b; omega)).trans c5
    replace bl := bl.setCell (p := ⟨b, 0, none⟩) (by show w.heap.size ≤ b; omega) (.iface tr vr)
    have e5 := two_set0 h5 (.iface tr vr)
    have E5 := Lib.hid e5
    have x1 := cellOf2b e5
    clear h5 e5
    go_wp2_with fail
    rw [rounds_succ]
    go_wp2_with fail
    refine (IH2'.out _).mono ?_
    rintro e w6 ⟨rfl, b6⟩
    replace c4 := (b6.cell (p := ⟨w.heap.size, 0, none⟩) (lt_cell c4)).trans c4
    replace c5 := (b6.cell (p := ⟨w.heap.size + 1, 0, none⟩) (lt_cell c5)).trans c5
    replace bl := below_go bl b6
    have h6 := (b6.block b (lt_of_block E5.out)).trans E5.out
    clear x1 d0 f0
    have d1 := cellOf2b h6
    have f1 := two_free h6 1
    replace c4 := (((Below.refl b w6).setCell (p := ⟨b, 1, none⟩) (Nat.le_refl b) (.iface ts vs)).cell (p := ⟨w.heap.size, 0, none⟩) (by show w.heap.size < b; omega)).trans c4
    replace c5 := (((Below.refl b w6).setCell (p := ⟨b, 1, none⟩) (Nat.le_refl b) (.iface ts vs)).cell (p := ⟨w.heap.size + 1, 0, none⟩) (by show w.heap.size + 1 < b; omega)).trans c5
    replace bl := bl.setCell (p := ⟨b, 1, none⟩) (by show w.heap.size ≤ b; omega) (.iface ts vs)
    have e6 := two_set1 h6 (.iface ts vs)
    have e0 := Lib.hid (cellOf2a e6)
    have e1 := Lib.hid (cellOf2b e6)
    clear h6 e6
    go_wp2_with fail
    rw [rounds_succ]
    go_wp2_with fail
    refine (HW'.out b _ e0.out e1.out).mono ?_
    rintro e w8 ⟨rfl, b8⟩
    replace c4 := (b8.cell (p := ⟨w.heap.size, 0, none⟩) (lt_cell c4)).trans c4
    replace c5 := (b8.cell (p := ⟨w.heap.size + 1, 0, none⟩) (lt_cell c5)).trans c5
    replace bl := below_go bl b8
    go_wp2_with fail
    refine (HU'.out _ c4 c5).mono ?_
    rintro e w9 ⟨rfl, b9⟩
    replace bl := below_go bl b9
    go_wp2_with fail
    go_ret2
    exact ⟨rfl, bl⟩
set_option maxHeartbeats 4000000 in
theorem rf_twoF (T : TypeId) (V : Value) (o m U : Int) (hq : (o == m) = false) (T2 tp tq : TypeId) (V2 vp vq : Value) (w : World) (hP : ∃ (F : FuncId) (R : Value), (∀ n w, (method (n + 1) T2 V2 "loop.example/g01175/impl.parts").run Tryz.prog w = .ok (F, R) w) ∧ (∀ n w, (nilAhead (n + 1) T2 V2 "loop.example/g01175/impl.parts").run Tryz.prog w = .ok (some false) w) ∧ (∀ args w, (callFunc F args).run Tryz.prog w = .ok (.enter F args) w) ∧ ∀ w, Calls Tryz.prog F #[R] w fun e w' => ∃ b, e = .returned (.slice (some ⟨b, 0, none⟩) 2 2) ∧ w.heap.size ≤ b ∧ w'.heap[b]? = some (.cells #[.iface tp vp, .iface tq vq] 46 (0, 0)) ∧ Below w.heap.size w w')
    (HF : ∀ w, Calls Tryz.prog 33 #[.iface T V] w fun e w' => e = .returned (.int .u32 U) ∧ Below w.heap.size w w') (HH : ∀ w, Calls Tryz.prog 53 #[.int .u32 U, .int .u8 o] w fun e w' => e = .returned (.bool true) ∧ w = w') (HC : ∀ w, Calls Tryz.prog 54 #[.iface T V, .int .u8 o, .int .u8 m] w fun e w' => e = .returned (.tuple #[.iface T2 V2, .bool true]) ∧ Below w.heap.size w w') (HB : ∀ w, Calls Tryz.prog 55 #[.iface T2 V2] w fun e w' => e = .returned (.tuple #[.int .u8 0, .bool false]) ∧ Below w.heap.size w w') (IH : ∀ w, Calls Tryz.prog 27 #[.iface tp vp, .int .u8 o, .int .u8 m] w fun e w' => e = .returned (.tuple #[.nilIface, .bool false]) ∧ Below w.heap.size w w') :
    Calls Tryz.prog 27 #[.iface T V, .int .u8 o, .int .u8 m] w fun e w' => e = .returned (.tuple #[.nilIface, .bool false]) ∧ Below w.heap.size w w' := by
  obtain ⟨F, RR, hm, hn, hc, hp⟩ := hP
  have HP := Lib.hid hp
  clear hp
  have HF' := Lib.hid HF
  have HH' := Lib.hid HH
  have HC' := Lib.hid HC
  have HB' := Lib.hid HB
  have IH' := Lib.hid IH
  clear HF HH HC HB IH
  go_enter Tryz.func27, Tryz.ntmps27
  go_upto_region 1 with fail
  go_cut [23] (fun s23 wx => s23 = .bool false ∧ Below w.heap.size w wx ∧ wx.cell? ⟨w.heap.size, 0, none⟩ = some (.int .u8 o) ∧ wx.cell? ⟨w.heap.size + 1, 0, none⟩ = some (.int .u8 m))
  case first =>
    obtain ⟨W, hW⟩ : ∃ W, W = (w.alloc (.cells #[.int .u8 o] 5)).alloc (.cells #[.int .u8 m] 5) := ⟨_, rfl⟩
    rw [← hW]
    have c4 : W.cell? ⟨w.heap.size, 0, none⟩ = some (.int .u8 o) := by rw [hW]; exact cellOf1 (first_block _ _ _)
    have c5 : W.cell? ⟨w.heap.size + 1, 0, none⟩ = some (.int .u8 m) := by rw [hW]; exact cellOf1 (last_block _ _ _)
    have bW : Below w.heap.size w W := by rw [hW]; exact below_two _ _ _
    have hsz : w.heap.size + 1 < W.heap.size := lt_cell c5
    clear hW
    go_region_with (first | (go_at_call 33; refine (HF'.out _).mono ?_; rintro e v1 ⟨rfl, d1⟩; have q4 := (d1.cell (p := ⟨w.heap.size, 0, none⟩) (by simp; omega)).trans c4; have q5 := (d1.cell (p := ⟨w.heap.size + 1, 0, none⟩) (by simp; omega)).trans c5; have k1 := below_go bW.drew d1) | (go_at_call 53; refine (HH'.out _).mono ?_; rintro e v2 ⟨rfl, rfl⟩))
    all_goals (go_wp2_with fail; go_meet; exact ⟨rfl, k1, q4, q5⟩)
  case rest =>
    obtain ⟨rfl, bl, c4, c5⟩ := hcut
    go_wp2_with fail
    refine (HC'.out _).mono ?_
    rintro e w2 ⟨rfl, b2⟩
    replace c4 := (b2.cell (p := ⟨w.heap.size, 0, none⟩) (lt_cell c4)).trans c4
    replace c5 := (b2.cell (p := ⟨w.heap.size + 1, 0, none⟩) (lt_cell c5)).trans c5
    replace bl := below_go bl b2
    go_wp2_with fail
    refine (HP.out _).mono ?_
    rintro e w3 ⟨b, rfl, hb, hh, b3⟩
    have hkb : w.heap.size + 1 < b := Nat.lt_of_lt_of_le (lt_cell c5) hb
    replace c4 := (b3.cell (p := ⟨w.heap.size, 0, none⟩) (lt_cell c4)).trans c4
    replace c5 := (b3.cell (p := ⟨w.heap.size + 1, 0, none⟩) (lt_cell c5)).trans c5
    replace bl := below_go bl b3
    clear hb
    have Hh := Lib.hid hh
    clear hh
    go_wp2_with fail
    refine (HB'.out _).mono ?_
    rintro e w4 ⟨rfl, b4⟩
    replace c4 := (b4.cell (p := ⟨w.heap.size, 0, none⟩) (lt_cell c4)).trans c4
    replace c5 := (b4.cell (p := ⟨w.heap.size + 1, 0, none⟩) (lt_cell c5)).trans c5
    replace bl := below_go bl b4
    have hh := (b4.block b (lt_of_block Hh.out)).trans Hh.out
    have d0 := cellOf2a hh
    have f0 := two_free hh 0
    have g4 := Lib.hid hh
    clear hh Hh
    go_wp2_with fail
    refine wp_loop_rounds 3 ?_
    rw [rounds_succ]
    go_wp2_with fail
    refine (IH'.out _).mono ?_
    rintro e w5 ⟨rfl, b5⟩
    replace c4 := (b5.cell (p := ⟨w.heap.size, 0, none⟩) (lt_cell c4)).trans c4
    replace c5 := (b5.cell (p := ⟨w.heap.size + 1, 0, none⟩) (lt_cell c5)).trans c5
    replace bl := below_go bl b5
    have h5 := (b5.block b (lt_of_block g4.out)).trans g4.out
    clear d0 f0
    have d0 := cellOf2a h5
    have f0 := two_free h5 0
    replace c4 := (((Below.refl b w5).setCell (p := ⟨b, 0, none⟩) (Nat.le_refl b) (.nilIface)).cell (p := ⟨w.heap.size, 0, none⟩) (by show w.heap.size < b; omega)).trans c4
    replace c5 := (((Below.refl b w5).setCell (p := ⟨b, 0, none⟩) (Nat.le_refl b) (.nilIface)).cell (p := ⟨w.heap.size + 1, 0, none⟩) (by show w.heap.size + 1 < b; omega)).trans c5
    replace bl := bl.setCell (p := ⟨b, 0, none⟩) (by show w.heap.size ≤ b; omega) (.nilIface)
    clear h5
    go_wp2_with fail
    go_ret2
    exact ⟨rfl, bl⟩
set_option maxHeartbeats 4000000 in
theorem rf_twoG (T : TypeId) (V : Value) (o m U : Int) (hq : (o == m) = false) (T2 tp tq tr : TypeId) (V2 vp vq vr : Value) (w : World) (hP : ∃ (F : FuncId) (R : Value), (∀ n w, (method (n + 1) T2 V2 "loop.example/g01175/impl.parts").run Tryz.prog w = .ok (F, R) w) ∧ (∀ n w, (nilAhead (n + 1) T2 V2 "loop.example/g01175/impl.parts").run Tryz.prog w = .ok (some false) w) ∧ (∀ args w, (callFunc F args).run Tryz.prog w = .ok (.enter F args) w) ∧ ∀ w, Calls Tryz.prog F #[R] w fun e w' => ∃ b, e = .returned (.slice (some ⟨b, 0, none⟩) 2 2) ∧ w.heap.size ≤ b ∧ w'.heap[b]? = some (.cells #[.iface tp vp, .iface tq vq] 46 (0, 0)) ∧ Below w.heap.size w w')
    (HF : ∀ w, Calls Tryz.prog 33 #[.iface T V] w fun e w' => e = .returned (.int .u32 U) ∧ Below w.heap.size w w') (HH : ∀ w, Calls Tryz.prog 53 #[.int .u32 U, .int .u8 o] w fun e w' => e = .returned (.bool true) ∧ w = w') (HC : ∀ w, Calls Tryz.prog 54 #[.iface T V, .int .u8 o, .int .u8 m] w fun e w' => e = .returned (.tuple #[.iface T2 V2, .bool true]) ∧ Below w.heap.size w w') (HB : ∀ w, Calls Tryz.prog 55 #[.iface T2 V2] w fun e w' => e = .returned (.tuple #[.int .u8 0, .bool false]) ∧ Below w.heap.size w w') (IH : ∀ w, Calls Tryz.prog 27 #[.iface tp vp, .int .u8 o, .int .u8 m] w fun e w' => e = .returned (.tuple #[.iface tr vr, .bool true]) ∧ Below w.heap.size w w') (IH2 : ∀ w, Calls Tryz.prog 27 #[.iface tq vq, .int .u8 o, .int .u8 m] w fun e w' => e = .returned (.tuple #[.nilIface, .bool false]) ∧ Below w.heap.size w w') :
    Calls Tryz.prog 27 #[.iface T V, .int .u8 o, .int .u8 m] w fun e w' => e = .returned (.tuple #[.nilIface, .bool false]) ∧ Below w.heap.size w w' := by
  obtain ⟨F, RR, hm, hn, hc, hp⟩ := hP
  have HP := Lib.hid hp
  clear hp
  have HF' := Lib.hid HF
  have HH' := Lib.hid HH
  have HC' := Lib.hid HC
  have HB' := Lib.hid HB
  have IH' := Lib.hid IH
  have IH2' := Lib.hid IH2
  clear HF HH HC HB IH IH2
  go_enter Tryz.func27, Tryz.ntmps27
  go_upto_region 1 with fail
  go_cut [23] (fun s23 wx => s23 = .bool false ∧ Below w.heap.size w wx ∧ wx.cell? ⟨w.heap.size, 0, none⟩ = some (.int .u8 o) ∧ wx.cell? ⟨w.heap.size + 1, 0, none⟩ = some (.int .u8 m))
  case first =>
    obtain ⟨W, hW⟩ : ∃ W, W = (w.alloc (.cells #[.int .u8 o] 5)).alloc (.cells #[.int .u8 m] 5) := ⟨_, rfl⟩
    rw [← hW]
    have c4 : W.cell? ⟨w.heap.size, 0, none⟩ = some (.int .u8 o) := by rw [hW]; exact cellOf1 (first_block _ _ _)
    have c5 : W.cell? ⟨w.heap.size + 1, 0, none⟩ = some (.int .u8 m) := by rw [hW]; exact cellOf1 (last_block _ _ _)
    have bW : Below w.heap.size w W := by rw [hW]; exact below_two _ _ _
    have hsz : w.heap.size + 1 < W.heap.size := lt_cell c5
    clear hW
    go_region_with (first | (go_at_call 33; refine (HF'.out _).mono ?_; rintro e v1 ⟨rfl, d1⟩; have q4 := (d1.cell (p := ⟨w.heap.size, 0, none⟩) (by simp; omega)).trans c4; have q5 := (d1.cell (p := ⟨w.heap.size + 1, 0, none⟩) (by simp; omega)).trans c5; have k1 := below_go bW.drew d1) | (go_at_call 53; refine (HH'.out _).mono ?_; rintro e v2 ⟨rfl, rfl⟩))
    all_goals (go_wp2_with fail; go_meet; exact ⟨rfl, k1, q4, q5⟩)
  case rest =>
    obtain ⟨rfl, bl, c4, c5⟩ := hcut
    go_wp2_with fail
    refine (HC'.out _).mono ?_
    rintro e w2 ⟨rfl, b2⟩
    replace c4 := (b2.cell (p := ⟨w.heap.size, 0, none⟩) (lt_cell c4)).trans c4
    replace c5 := (b2.cell (p := ⟨w.heap.size + 1, 0, none⟩) (lt_cell c5)).trans c5
    replace bl := below_go bl b2
    go_wp2_with fail
    refine (HP.out _).mono ?_
    rintro e w3 ⟨b, rfl, hb, hh, b3⟩
    have hkb : w.heap.size + 1 < b := Nat.lt_of_lt_of_le (lt_cell c5) hb
    replace c4 := (b3.cell (p := ⟨w.heap.size, 0, none⟩) (lt_cell c4)).trans c4
    replace c5 := (b3.cell (p := ⟨w.heap.size + 1, 0, none⟩) (lt_cell c5)).trans c5
    replace bl := below_go bl b3
    clear hb
    have Hh := Lib.hid hh
    clear hh
    go_wp2_with fail
    refine (HB'.out _).mono ?_
    rintro e w4 ⟨rfl, b4⟩
    replace c4 := (b4.cell (p := ⟨w.heap.size, 0, none⟩) (lt_cell c4)).trans c4
    replace c5 := (b4.cell (p := ⟨w.heap.size + 1, 0, none⟩) (lt_cell c5)).trans c5
    replace bl := below_go bl b4
    have hh := (b4.block b (lt_of_block Hh.out)).trans Hh.out
    have d0 := cellOf2a hh
    have f0 := two_free hh 0
    have g4 := Lib.hid hh
    clear hh Hh
    go_wp2_with fail
    refine wp_loop_rounds 3 ?_
    rw [rounds_succ]
    go_wp2_with fail
    refine (IH'.out _).mono ?_
    rintro e w5 ⟨rfl, b5⟩
    replace c4 := (b5.cell (p := ⟨w.heap.size, 0, none⟩) (lt_cell c4)).trans c4
    replace c5 := (b5.cell (p := ⟨w.heap.size + 1, 0, none⟩) (lt_cell c5)).trans c5
    replace bl := below_go bl b5
    have h5 := (b5.block b (lt_of_block g4.out)).trans g4.out
    clear d0 f0
    have d0 := cellOf2a h5
    have f0 := two_free h5 0
    replace c4 := (((Below.refl b w5).setCell (p := ⟨b, 0, none⟩) (Nat.le_refl b) (.iface tr vr)).cell (p := ⟨w.heap.size, 0, none⟩) (by show w.heap.size < b; omega)).trans c4
    replace c5 := (((Below.refl b w5).setCell (p := ⟨b, 0, none⟩) (Nat.le_refl b) (.iface tr vr)).cell (p := ⟨w.heap.size + 1, 0, none⟩) (by show w.heap.size + 1 < b; omega)).trans c5
    replace bl := bl.setCell (p := ⟨b, 0, none⟩) (by show w.heap.size ≤ b; omega) (.iface tr vr)
    have e5 := two_set0 h5 (.iface tr vr)
    have E5 := Lib.hid e5
    have x1 := cellOf2b e5
    clear h5 e5
    go_wp2_with fail
    rw [rounds_succ]
    go_wp2_with fail
    refine (IH2'.out _).mono ?_
    rintro e w6 ⟨rfl, b6⟩
    replace c4 := (b6.cell (p := ⟨w.heap.size, 0, none⟩) (lt_cell c4)).trans c4
    replace c5 := (b6.cell (p := ⟨w.heap.size + 1, 0, none⟩) (lt_cell c5)).trans c5
    replace bl := below_go bl b6
    have h6 := (b6.block b (lt_of_block E5.out)).trans E5.out
    clear x1 d0 f0
    have d1 := cellOf2b h6
    have f1 := two_free h6 1
    replace c4 := (((Below.refl b w6).setCell (p := ⟨b, 1, none⟩) (Nat.le_refl b) (.nilIface)).cell (p := ⟨w.heap.size, 0, none⟩) (by show w.heap.size < b; omega)).trans c4
    replace c5 := (((Below.refl b w6).setCell (p := ⟨b, 1, none⟩) (Nat.le_refl b) (.nilIface)).cell (p := ⟨w.heap.size + 1, 0, none⟩) (by show w.heap.size + 1 < b; omega)).trans c5
    replace bl := bl.setCell (p := ⟨b, 1, none⟩) (by show w.heap.size ≤ b; omega) (.nilIface)
    clear h6
    go_wp2_with fail
    go_ret2
    exact ⟨rfl, bl⟩

end Go.Proofs.YtpabmidjfpabdaaGreat.T1

/- A free name renamed, with no capture: in the program, for every process. -/
namespace Go.Proofs.YtpabmidjfpabdaaGreat.T1
open Go.RowKit
set_option maxRecDepth 100000
set_option linter.unusedVariables false

theorem cf_r1 (args : Array Value) (w : World) : (callFunc 58 args).run Tryz.prog w = .ok (.enter 58 args) w := by kernel_rfl
set_option maxHeartbeats 1000000 in
theorem r1_yes (o m : Int) (ao am : Nat) (w : World) (h1 : w.cell? ⟨ao, 0, none⟩ = some (.int .u8 o)) (h2 : w.cell? ⟨am, 0, none⟩ = some (.int .u8 m)) :
    Calls Tryz.prog 58 #[.int .u8 o, .pointer (some ⟨ao, 0, none⟩), .pointer (some ⟨am, 0, none⟩)] w fun e w' => e = .returned (.int .u8 m) ∧ w = w' := by
  go_enter Tryz.func58, Tryz.ntmps58
  go_wp2_with fail
  go_ret
  exact ⟨rfl, rfl⟩
set_option maxHeartbeats 1000000 in
theorem r1_no (c o m : Int) (ao am : Nat) (w : World) (hne : (c == o) = false) (h1 : w.cell? ⟨ao, 0, none⟩ = some (.int .u8 o)) (h2 : w.cell? ⟨am, 0, none⟩ = some (.int .u8 m)) :
    Calls Tryz.prog 58 #[.int .u8 c, .pointer (some ⟨ao, 0, none⟩), .pointer (some ⟨am, 0, none⟩)] w fun e w' => e = .returned (.int .u8 c) ∧ w = w' := by
  go_enter Tryz.func58, Tryz.ntmps58
  go_wp2_with fail
  go_ret
  exact ⟨rfl, rfl⟩
theorem u8_beq (a b : UInt8) : (((a.toNat : Nat) : Int) == ((b.toNat : Nat) : Int)) = decide (a = b) := by
  rw [Bool.eq_iff_iff, decide_eq_true_iff, beq_iff_eq]
  exact ⟨fun h => u8_ext (by omega), fun h => by rw [h]⟩
theorem u8_bne (a b : UInt8) : (((a.toNat : Nat) : Int) != ((b.toNat : Nat) : Int)) = !decide (a = b) := by rw [bne, u8_beq]
theorem r1_any (c o m : UInt8) (ao am : Nat) (w : World) (h1 : w.cell? ⟨ao, 0, none⟩ = some (.int .u8 (o.toNat : Int))) (h2 : w.cell? ⟨am, 0, none⟩ = some (.int .u8 (m.toNat : Int))) :
    Calls Tryz.prog 58 (#[.int .u8 (c.toNat : Int)] ++ #[.pointer (some ⟨ao, 0, none⟩), .pointer (some ⟨am, 0, none⟩)]) w fun e w' => e = .returned (.int .u8 ((sw c o m).toNat : Int)) ∧ w = w' := by
  unfold sw
  split
  · rename_i h; subst h; exact r1_yes _ _ ao am w h1 h2
  · rename_i h; exact r1_no _ _ _ ao am w (by rw [u8_beq]; exact decide_eq_false h) h1 h2
/-- The names in the sign itself renamed. -/
theorem wu_sw (t : Tm) (o m : UInt8) (ao am : Nat) (v : World) (h1 : v.cell? ⟨ao, 0, none⟩ = some (.int .u8 (o.toNat : Int))) (h2 : v.cell? ⟨am, 0, none⟩ = some (.int .u8 (m.toNat : Int))) :
    Calls Tryz.prog 56 #[.iface (tyOf t) (pay t), .func (.func 58) #[] #[.pointer (some ⟨ao, 0, none⟩), .pointer (some ⟨am, 0, none⟩)]] v fun e v' => e = .returned (.iface (tyOf (t.mapU fun c => sw c o m)) (pay (t.mapU fun c => sw c o m))) ∧ Below v.heap.size v v' :=
  withUsed_any t 58 _ (fun c => sw c o m) cf_r1 v fun c _ v1 b1 =>
    r1_any c o m ao am v1 ((b1.cell (p := ⟨ao, 0, none⟩) (lt_cell h1)).trans h1) ((b1.cell (p := ⟨am, 0, none⟩) (lt_cell h2)).trans h2)

theorem has_free (t : Tm) (ho : t.ok nmL = true) (o : UInt8) (hn : nmL o = true) : ∀ w, Calls Tryz.prog 53 #[.int .u32 (setN t.free : Nat), .int .u8 (o.toNat : Int)] w fun e w' => e = .returned (.bool (decide (o ∈ t.free))) ∧ w = w' := by
  intro w
  have h := (nmL_iff o).1 hn
  have h1 := has_any (setN t.free) o.toNat (setN_lt32 _ (lets_free t ho)) h.1 h.2 w
  have e : (setN t.free).testBit (o.toNat - 97) = decide (o ∈ t.free) := by
    rw [Bool.eq_iff_iff, decide_eq_true_iff, setN_bit _ (lets_free t ho)]
    exact ⟨fun ⟨c, hc, e⟩ => by rw [← u8_ext (show c.toNat = o.toNat by omega)]; exact hc, fun hc => ⟨o, hc, by omega⟩⟩
  rw [e] at h1
  exact h1
theorem flip_oth (l : List UInt8) (h : Lets l) : lets (flip32 (setN l)) 26 = othL l := by
  have h26 : lets (flip32 (setN l)) 26 = ((List.range 26).filter fun i => (flip32 (setN l)).testBit i).map fun i => UInt8.ofNat (97 + i) := rfl
  unfold othL
  rw [h26, List.filter_map]
  congr 1
  refine List.filter_congr fun i hi => ?_
  rw [List.mem_range] at hi
  rw [flip_bit _ i (by omega)]
  show (!(setN l).testBit i) = decide (UInt8.ofNat (97 + i) ∉ l)
  rw [decide_not]
  congr 1
  rw [Bool.eq_iff_iff, decide_eq_true_iff, setN_bit l h]
  exact ⟨fun ⟨c, hc, e⟩ => by rw [show UInt8.ofNat (97 + i) = c from u8_ext (by rw [UInt8.toNat_ofNat']; omega)]; exact hc, fun hc => ⟨_, hc, by rw [UInt8.toNat_ofNat']; omega⟩⟩
theorem others_set (l : List UInt8) (h : Lets l) (w : World) : Calls Tryz.prog 81 #[.int .u32 (setN l : Nat)] w fun e w' => ∃ v, e = .returned v ∧ w'.ownsRow w.heap.size 5 1 v (othL l).length ((othL l).map ub) ∧ Below w.heap.size w w' := by
  have := others_any (setN l) (setN_lt32 l h) w
  rw [flip_oth l h] at this
  exact this
theorem others_nil (l : List UInt8) (h : Lets l) (he : othL l = []) (w : World) : Calls Tryz.prog 81 #[.int .u32 (setN l : Nat)] w fun e w' => ∃ v xs, e = .returned v ∧ w'.ownsRow w.heap.size 5 1 v 0 xs ∧ Below w.heap.size w w' := by
  have := others_set l h w
  rw [he] at this
  exact this.mono fun e w' ⟨v, h1, h2, h3⟩ => ⟨v, _, h1, h2, h3⟩
theorem others_cons (l : List UInt8) (h : Lets l) (y : UInt8) (r : List UInt8) (he : othL l = y :: r) (w : World) : Calls Tryz.prog 81 #[.int .u32 (setN l : Nat)] w fun e w' => ∃ g n cap, e = .returned (.slice (some ⟨g, 0, none⟩) (n + 1) cap) ∧ w.heap.size ≤ g ∧ w'.cell? ⟨g, 0, none⟩ = some (.int .u8 (y.toNat : Int)) ∧ Below w.heap.size w w' := by
  have := others_set l h w
  rw [he] at this
  refine this.mono fun e w' ⟨v, h1, h2, h3⟩ => ?_
  rcases h2.2 with ⟨rfl, h4⟩ | ⟨g, cap, cur, rfl, h4, _⟩
  · simp at h4
  · exact ⟨g, r.length, cap, h1, h4, by rw [h2.cellAt 0 (by simp)]; rfl, h3⟩
theorem with_set (l : List UInt8) (h : Lets l) (m : UInt8) (hm : nmL m = true) : ∀ w, Calls Tryz.prog 47 #[.int .u32 (setN l : Nat), .int .u8 (m.toNat : Int)] w fun e w' => e = .returned (.int .u32 (setN (addL l m) : Nat)) ∧ w = w' := by
  intro w
  have hm' := (nmL_iff m).1 hm
  rw [setN_addL h hm']
  exact with_any (setN l) m.toNat (setN_lt32 l h) hm'.1 hm'.2 w

/-- The renamed process, if it is one. -/
def renO (t : Tm) (o m : UInt8) : Option Tm := if (R t o m).ok nmL = true then some (R t o m) else none
theorem sub_some {t : Tm} {F : FuncId} {args : Array Value} (h : ∀ w, Calls Tryz.prog F args w (SubPost (some t) w)) : ∀ w, Calls Tryz.prog F args w fun e w' => e = .returned (.tuple #[.iface (tyOf t) (pay t), .bool true]) ∧ Below w.heap.size w w' := fun w =>
  (h w).mono fun e w' hh => by
    rcases hh with ⟨⟨p, h1, h2⟩ | ⟨h1, _⟩, h3⟩
    · cases h1; exact ⟨h2, h3⟩
    · cases h1
theorem sub_none {F : FuncId} {args : Array Value} (h : ∀ w, Calls Tryz.prog F args w (SubPost none w)) : ∀ w, Calls Tryz.prog F args w fun e w' => e = .returned (.tuple #[.nilIface, .bool false]) ∧ Below w.heap.size w w' := fun w =>
  (h w).mono fun e w' hh => by
    rcases hh with ⟨⟨p, h1, _⟩ | ⟨_, h2⟩, h3⟩
    · cases h1
    · exact ⟨h2, h3⟩
theorem capX_fresh {p : Tm} {x o m : UInt8} (hc : x = m ∧ o ∈ p.free) : capX p x o m = fresh (addL p.free m) := by
  unfold capX
  rw [if_pos hc]
  have : addL p.free o = p.free := srt_ext (srt_addL (srt_free p) o) (srt_free p) fun z => by rw [mem_addL]; constructor; (rintro (h | rfl); exact h; exact hc.2); exact .inl
  show fresh (addL (addL p.free o) m) = _
  rw [this]

/-- What is left of a sign behind the look for a capture. -/
theorem wc_any_rcv (a : UInt8) (x o m : UInt8) (p : Tm) (ho : ((.rcv a x p) : Tm).ok nmL = true) (hx : nmL x = true) (hp : p.ok nmL = true) (hon : nmL o = true) (hm : nmL m = true)
    (IH : ∀ y, nmL y = true → ∀ w, Calls Tryz.prog 27 #[.iface (tyOf p) (pay p), .int .u8 (m.toNat : Int), .int .u8 (y.toNat : Int)] w (SubPost (renO p m y) w)) (w : World) :
    Calls Tryz.prog 54 #[.iface (tyOf (.rcv a x p)) (pay (.rcv a x p)), .int .u8 (o.toNat : Int), .int .u8 (m.toNat : Int)] w
      (SubPost (if x = m ∧ o ∈ p.free then (if nmL (capX p x o m) = true ∧ (R p x (capX p x o m)).ok nmL = true then some (.rcv a (capX p x o m) (R p x (capX p x o m))) else none) else some (.rcv a x p)) w) := by
  have hB := binderOf_any (.rcv a x p)
  by_cases hxm : x = m
  · subst hxm
    have hPF := (parts_fact (.rcv a x p)).pf
    have hF := freeNames_any p hp
    have hH := has_free p hp o hon
    by_cases hf : o ∈ p.free
    · have hc : x = x ∧ o ∈ p.free := ⟨rfl, hf⟩
      rw [if_pos hc, capX_fresh hc]
      rw [decide_eq_true hf] at hH
      have hW := with_set p.free (lets_free p hp) x hx
      have hl : Lets (addL p.free x) := lets_addL (lets_free p hp) ((nmL_iff x).1 hx)
      rcases fresh_oth (addL p.free x) with ⟨y, r, h1, h2, h3⟩ | ⟨h1, h2⟩
      · have hy : nmL y = true := by rw [nmL_iff]; exact ((mem_oth _ y).1 (by rw [h1]; simp)).1
        rw [h2]
        have hO := others_cons _ hl y r h1
        have hI := IH y hy
        by_cases hok : (R p x y).ok nmL = true
        · rw [if_pos ⟨hy, hok⟩]
          have hr : renO p x y = some (R p x y) := by unfold renO; rw [if_pos hok]
          rw [hr] at hI
          exact (wc_ok _ _ _ _ _ _ _ hPF hB hF _ hH hW _ hO _ _ (sub_some hI) _ _ _ _ (fun bk w hc => withP_one (.rcv a x p) p (R p x y) rfl bk 1 w (by omega) hc) (wb_receive _ _ _ _ _) w).mono fun _ _ h => SubPost.yes rfl h
        · rw [if_neg (fun h => hok h.2)]
          have hr : renO p x y = none := by unfold renO; rw [if_neg hok]
          rw [hr] at hI
          exact (wc_fail _ _ _ _ _ _ _ hPF hB hF _ hH hW _ hO (sub_none hI) w).mono fun _ _ h => SubPost.no rfl h
      · rw [if_neg (fun h => by have := (nmL_iff _).1 h.1; omega)]
        exact (wc_none _ _ _ _ _ _ _ hPF hB hF _ hH hW (others_nil _ hl h1) w).mono fun _ _ h => SubPost.no rfl h
    · rw [if_neg (fun h => hf h.2)]
      rw [decide_eq_false hf] at hH
      exact (wc_nofree _ _ _ _ _ _ _ hPF hB hF hH w).mono fun _ _ h => SubPost.yes rfl h
  · rw [if_neg (fun h => hxm h.1)]
    exact (wc_other _ _ _ _ _ (by rw [u8_bne]; simp [hxm]) hB w).mono fun _ _ h => SubPost.yes rfl h

/-- What is left of a sign behind the look for a capture. -/
theorem wc_any_own (x o m : UInt8) (p : Tm) (ho : ((.own x p) : Tm).ok nmL = true) (hx : nmL x = true) (hp : p.ok nmL = true) (hon : nmL o = true) (hm : nmL m = true)
    (IH : ∀ y, nmL y = true → ∀ w, Calls Tryz.prog 27 #[.iface (tyOf p) (pay p), .int .u8 (m.toNat : Int), .int .u8 (y.toNat : Int)] w (SubPost (renO p m y) w)) (w : World) :
    Calls Tryz.prog 54 #[.iface (tyOf (.own x p)) (pay (.own x p)), .int .u8 (o.toNat : Int), .int .u8 (m.toNat : Int)] w
      (SubPost (if x = m ∧ o ∈ p.free then (if nmL (capX p x o m) = true ∧ (R p x (capX p x o m)).ok nmL = true then some (.own (capX p x o m) (R p x (capX p x o m))) else none) else some (.own x p)) w) := by
  have hB := binderOf_any (.own x p)
  by_cases hxm : x = m
  · subst hxm
    have hPF := (parts_fact (.own x p)).pf
    have hF := freeNames_any p hp
    have hH := has_free p hp o hon
    by_cases hf : o ∈ p.free
    · have hc : x = x ∧ o ∈ p.free := ⟨rfl, hf⟩
      rw [if_pos hc, capX_fresh hc]
      rw [decide_eq_true hf] at hH
      have hW := with_set p.free (lets_free p hp) x hx
      have hl : Lets (addL p.free x) := lets_addL (lets_free p hp) ((nmL_iff x).1 hx)
      rcases fresh_oth (addL p.free x) with ⟨y, r, h1, h2, h3⟩ | ⟨h1, h2⟩
      · have hy : nmL y = true := by rw [nmL_iff]; exact ((mem_oth _ y).1 (by rw [h1]; simp)).1
        rw [h2]
        have hO := others_cons _ hl y r h1
        have hI := IH y hy
        by_cases hok : (R p x y).ok nmL = true
        · rw [if_pos ⟨hy, hok⟩]
          have hr : renO p x y = some (R p x y) := by unfold renO; rw [if_pos hok]
          rw [hr] at hI
          exact (wc_ok _ _ _ _ _ _ _ hPF hB hF _ hH hW _ hO _ _ (sub_some hI) _ _ _ _ (fun bk w hc => withP_one (.own x p) p (R p x y) rfl bk 1 w (by omega) hc) (wb_own _ _ _ _) w).mono fun _ _ h => SubPost.yes rfl h
        · rw [if_neg (fun h => hok h.2)]
          have hr : renO p x y = none := by unfold renO; rw [if_neg hok]
          rw [hr] at hI
          exact (wc_fail _ _ _ _ _ _ _ hPF hB hF _ hH hW _ hO (sub_none hI) w).mono fun _ _ h => SubPost.no rfl h
      · rw [if_neg (fun h => by have := (nmL_iff _).1 h.1; omega)]
        exact (wc_none _ _ _ _ _ _ _ hPF hB hF _ hH hW (others_nil _ hl h1) w).mono fun _ _ h => SubPost.no rfl h
    · rw [if_neg (fun h => hf h.2)]
      rw [decide_eq_false hf] at hH
      exact (wc_nofree _ _ _ _ _ _ _ hPF hB hF hH w).mono fun _ _ h => SubPost.yes rfl h
  · rw [if_neg (fun h => hxm h.1)]
    exact (wc_other _ _ _ _ _ (by rw [u8_bne]; simp [hxm]) hB w).mono fun _ _ h => SubPost.yes rfl h

theorem R_rev {t : Tm} {o m : UInt8} (ho : nmL o = true) (hm : nmL m = true) (h : (R t o m).ok nmL = true) : t.ok nmL = true := ren_rev _ _ _ _ ho hm h
set_option maxHeartbeats 1600000 in
theorem rx_rcv (n : Nat) (ih : ∀ (t : Tm) (o m : UInt8), t.size ≤ n → t.ok nmL = true → nmL o = true → nmL m = true → ∀ w, Calls Tryz.prog 27 #[.iface (tyOf t) (pay t), .int .u8 (o.toNat : Int), .int .u8 (m.toNat : Int)] w (SubPost (renO t o m) w))
    (a : UInt8) (x : UInt8) (p : Tm) (o m : UInt8) (hn : p.size ≤ n) (ht : ((.rcv a x p) : Tm).ok nmL = true) (ho : nmL o = true) (hm : nmL m = true) (hq : (((o.toNat : Nat) : Int) == ((m.toNat : Nat) : Int)) = false) (hne : ¬ (o = m ∨ o ∉ ((.rcv a x p) : Tm).free))
    (hF : ∀ w, Calls Tryz.prog 33 #[.iface (tyOf (.rcv a x p)) (pay (.rcv a x p))] w fun e w' => e = .returned (.int .u32 (setN (Tm.free (.rcv a x p)) : Nat)) ∧ Below w.heap.size w w') (hH : ∀ w, Calls Tryz.prog 53 #[.int .u32 (setN (Tm.free (.rcv a x p)) : Nat), .int .u8 (o.toNat : Int)] w fun e w' => e = .returned (.bool true) ∧ w = w') (w : World) :
    Calls Tryz.prog 27 #[.iface (tyOf (.rcv a x p)) (pay (.rcv a x p)), .int .u8 (o.toNat : Int), .int .u8 (m.toNat : Int)] w (SubPost (renO (.rcv a x p) o m) w) := by
  have ht0 := ht
  simp only [Tm.ok, Bool.and_eq_true] at ht
  have hW := wc_any_rcv a x o m p ht0 ht.1.2 ht.2 ho hm (fun y hy => ih p m y hn ht.2 hm hy)
  have hRt : R (.rcv a x p) o m = .rcv (sw a o m) (capX p x o m) (RB p x o m) := R_rcv hne
  obtain ⟨P2, hP2⟩ : ∃ P2, P2 = if x = m ∧ o ∈ p.free then R p x (capX p x o m) else p := ⟨_, rfl⟩
  have hsz : P2.size ≤ n := by
    rw [hP2]; split
    · rw [R_size]; exact hn
    · exact hn
  have hRB : RB p x o m = if (capX p x o m) = o then P2 else R P2 o m := by unfold RB; rw [hP2]
  by_cases hbad : x = m ∧ o ∈ p.free ∧ ¬ (nmL (capX p x o m) = true ∧ (R p x (capX p x o m)).ok nmL = true)
  · have hr2 : renO (.rcv a x p) o m = none := by
      unfold renO; rw [hRt, if_neg]
      intro h
      simp only [Tm.ok, Bool.and_eq_true] at h
      refine hbad.2.2 ⟨h.1.2, ?_⟩
      have h3 := h.2
      rw [if_pos ⟨hbad.1, hbad.2.1⟩] at hP2
      rw [hRB, hP2] at h3
      split at h3
      · exact h3
      · exact R_rev ho hm h3
    have hW1 : ∀ w, Calls Tryz.prog 54 #[.iface (tyOf (.rcv a x p)) (pay (.rcv a x p)), .int .u8 (o.toNat : Int), .int .u8 (m.toNat : Int)] w (SubPost none w) := fun w => by
      have := hW w
      rw [if_pos ⟨hbad.1, hbad.2.1⟩, if_neg hbad.2.2] at this
      exact this
    exact (rf_wcfail _ _ _ _ _ hq w hF hH (sub_none hW1)).mono fun _ _ h => SubPost.no hr2 h
  · have hg : x = m ∧ o ∈ p.free → nmL (capX p x o m) = true ∧ (R p x (capX p x o m)).ok nmL = true := fun hc => Decidable.not_not.1 fun h => hbad ⟨hc.1, hc.2, h⟩
    have hXx : ¬ (x = m ∧ o ∈ p.free) → (capX p x o m) = x := fun hc => by unfold capX; rw [if_neg hc]
    have hW2 : ∀ w, Calls Tryz.prog 54 #[.iface (tyOf (.rcv a x p)) (pay (.rcv a x p)), .int .u8 (o.toNat : Int), .int .u8 (m.toNat : Int)] w (SubPost (some (.rcv a (capX p x o m) P2)) w) := fun w => by
      have hw := hW w
      by_cases hc : x = m ∧ o ∈ p.free
      · rw [if_pos hc, if_pos (hg hc)] at hw
        rw [if_pos hc] at hP2
        rw [hP2]; exact hw
      · rw [if_neg hc] at hw hP2
        rw [hP2, hXx hc]; exact hw
    have hX : nmL (capX p x o m) = true := by
      by_cases hc : x = m ∧ o ∈ p.free
      · exact (hg hc).1
      · rw [hXx hc]; exact ht.1.2
    have hok2 : P2.ok nmL = true := by
      rw [hP2]; split
      · rename_i hc; exact (hg hc).2
      · exact ht.2
    clear hP2 hbad hg hXx hW ht0
    obtain ⟨Y, hY⟩ : ∃ Y, Y = (capX p x o m) := ⟨_, rfl⟩
    rw [← hY] at hRt hRB hW2 hX
    clear hY
    have hB := binderOf_any (.rcv a Y P2)
    have hP := (parts_fact (.rcv a Y P2)).pf
    have hW3 := sub_some hW2
    by_cases hXo : Y = o
    · rw [if_pos hXo] at hRB
      have hr2 : renO (.rcv a x p) o m = some (Tm.mapU (fun c => sw c o m) (Tm.rcv a Y P2)) := by
        unfold renO; rw [hRt, hRB, if_pos (by simp only [Tm.ok, Bool.and_eq_true]; exact ⟨⟨sw_ok ht.1.1 hm, hX⟩, hok2⟩)]; rfl
      subst hXo
      exact (rf_skip _ _ _ _ _ hq _ _ _ _ _ _ _ _ (by simp) w hP hF hH hW3 hB (fun bk w hc => withP_one (.rcv a Y P2) P2 P2 rfl bk 1 w (by omega) hc) (fun v h1 h2 => wu_sw (Tm.rcv a Y P2) Y m _ _ v h1 h2)).mono fun _ _ h => SubPost.yes hr2 h
    · rw [if_neg hXo] at hRB
      have hI := ih P2 o m hsz hok2 ho hm
      by_cases hok : (R P2 o m).ok nmL = true
      · have hr : renO P2 o m = some (R P2 o m) := by unfold renO; rw [if_pos hok]
        rw [hr] at hI
        have hr2 : renO (.rcv a x p) o m = some (Tm.mapU (fun c => sw c o m) (Tm.rcv a Y (R P2 o m))) := by
          unfold renO; rw [hRt, hRB, if_pos (by simp only [Tm.ok, Bool.and_eq_true]; exact ⟨⟨sw_ok ht.1.1 hm, hX⟩, hok⟩)]; rfl
        obtain ⟨r, hr0⟩ : ∃ r, r = R P2 o m := ⟨_, rfl⟩
        rw [← hr0] at hI hr2
        exact (rf_oneB _ _ _ _ _ hq _ _ _ _ _ _ _ _ _ _ _ (by rw [u8_bne]; simp [hXo]) w hP hF hH hW3 hB (sub_some hI) (fun bk w hc => withP_one (.rcv a Y P2) P2 r rfl bk 1 w (by omega) hc) (fun v h1 h2 => wu_sw (Tm.rcv a Y r) o m _ _ v h1 h2)).mono fun _ _ h => SubPost.yes hr2 h
      · have hr : renO P2 o m = none := by unfold renO; rw [if_neg hok]
        rw [hr] at hI
        have hr2 : renO (.rcv a x p) o m = none := by
          unfold renO; rw [hRt, hRB, if_neg (fun h => by simp only [Tm.ok, Bool.and_eq_true] at h; exact hok h.2)]
        exact (rf_oneBF _ _ _ _ _ hq _ _ _ _ _ (by rw [u8_bne]; simp [hXo]) w hP hF hH hW3 hB (sub_none hI)).mono fun _ _ h => SubPost.no hr2 h
set_option maxHeartbeats 1600000 in
theorem rx_own (n : Nat) (ih : ∀ (t : Tm) (o m : UInt8), t.size ≤ n → t.ok nmL = true → nmL o = true → nmL m = true → ∀ w, Calls Tryz.prog 27 #[.iface (tyOf t) (pay t), .int .u8 (o.toNat : Int), .int .u8 (m.toNat : Int)] w (SubPost (renO t o m) w))
    (x : UInt8) (p : Tm) (o m : UInt8) (hn : p.size ≤ n) (ht : ((.own x p) : Tm).ok nmL = true) (ho : nmL o = true) (hm : nmL m = true) (hq : (((o.toNat : Nat) : Int) == ((m.toNat : Nat) : Int)) = false) (hne : ¬ (o = m ∨ o ∉ ((.own x p) : Tm).free))
    (hF : ∀ w, Calls Tryz.prog 33 #[.iface (tyOf (.own x p)) (pay (.own x p))] w fun e w' => e = .returned (.int .u32 (setN (Tm.free (.own x p)) : Nat)) ∧ Below w.heap.size w w') (hH : ∀ w, Calls Tryz.prog 53 #[.int .u32 (setN (Tm.free (.own x p)) : Nat), .int .u8 (o.toNat : Int)] w fun e w' => e = .returned (.bool true) ∧ w = w') (w : World) :
    Calls Tryz.prog 27 #[.iface (tyOf (.own x p)) (pay (.own x p)), .int .u8 (o.toNat : Int), .int .u8 (m.toNat : Int)] w (SubPost (renO (.own x p) o m) w) := by
  have ht0 := ht
  simp only [Tm.ok, Bool.and_eq_true] at ht
  have hW := wc_any_own x o m p ht0 ht.1 ht.2 ho hm (fun y hy => ih p m y hn ht.2 hm hy)
  have hRt : R (.own x p) o m = .own (capX p x o m) (RB p x o m) := R_own hne
  obtain ⟨P2, hP2⟩ : ∃ P2, P2 = if x = m ∧ o ∈ p.free then R p x (capX p x o m) else p := ⟨_, rfl⟩
  have hsz : P2.size ≤ n := by
    rw [hP2]; split
    · rw [R_size]; exact hn
    · exact hn
  have hRB : RB p x o m = if (capX p x o m) = o then P2 else R P2 o m := by unfold RB; rw [hP2]
  by_cases hbad : x = m ∧ o ∈ p.free ∧ ¬ (nmL (capX p x o m) = true ∧ (R p x (capX p x o m)).ok nmL = true)
  · have hr2 : renO (.own x p) o m = none := by
      unfold renO; rw [hRt, if_neg]
      intro h
      simp only [Tm.ok, Bool.and_eq_true] at h
      refine hbad.2.2 ⟨h.1, ?_⟩
      have h3 := h.2
      rw [if_pos ⟨hbad.1, hbad.2.1⟩] at hP2
      rw [hRB, hP2] at h3
      split at h3
      · exact h3
      · exact R_rev ho hm h3
    have hW1 : ∀ w, Calls Tryz.prog 54 #[.iface (tyOf (.own x p)) (pay (.own x p)), .int .u8 (o.toNat : Int), .int .u8 (m.toNat : Int)] w (SubPost none w) := fun w => by
      have := hW w
      rw [if_pos ⟨hbad.1, hbad.2.1⟩, if_neg hbad.2.2] at this
      exact this
    exact (rf_wcfail _ _ _ _ _ hq w hF hH (sub_none hW1)).mono fun _ _ h => SubPost.no hr2 h
  · have hg : x = m ∧ o ∈ p.free → nmL (capX p x o m) = true ∧ (R p x (capX p x o m)).ok nmL = true := fun hc => Decidable.not_not.1 fun h => hbad ⟨hc.1, hc.2, h⟩
    have hXx : ¬ (x = m ∧ o ∈ p.free) → (capX p x o m) = x := fun hc => by unfold capX; rw [if_neg hc]
    have hW2 : ∀ w, Calls Tryz.prog 54 #[.iface (tyOf (.own x p)) (pay (.own x p)), .int .u8 (o.toNat : Int), .int .u8 (m.toNat : Int)] w (SubPost (some (.own (capX p x o m) P2)) w) := fun w => by
      have hw := hW w
      by_cases hc : x = m ∧ o ∈ p.free
      · rw [if_pos hc, if_pos (hg hc)] at hw
        rw [if_pos hc] at hP2
        rw [hP2]; exact hw
      · rw [if_neg hc] at hw hP2
        rw [hP2, hXx hc]; exact hw
    have hX : nmL (capX p x o m) = true := by
      by_cases hc : x = m ∧ o ∈ p.free
      · exact (hg hc).1
      · rw [hXx hc]; exact ht.1
    have hok2 : P2.ok nmL = true := by
      rw [hP2]; split
      · rename_i hc; exact (hg hc).2
      · exact ht.2
    clear hP2 hbad hg hXx hW ht0
    obtain ⟨Y, hY⟩ : ∃ Y, Y = (capX p x o m) := ⟨_, rfl⟩
    rw [← hY] at hRt hRB hW2 hX
    clear hY
    have hB := binderOf_any (.own Y P2)
    have hP := (parts_fact (.own Y P2)).pf
    have hW3 := sub_some hW2
    by_cases hXo : Y = o
    · rw [if_pos hXo] at hRB
      have hr2 : renO (.own x p) o m = some (Tm.mapU (fun c => sw c o m) (Tm.own Y P2)) := by
        unfold renO; rw [hRt, hRB, if_pos (by simp only [Tm.ok, Bool.and_eq_true]; exact ⟨hX, hok2⟩)]; rfl
      subst hXo
      exact (rf_skip _ _ _ _ _ hq _ _ _ _ _ _ _ _ (by simp) w hP hF hH hW3 hB (fun bk w hc => withP_one (.own Y P2) P2 P2 rfl bk 1 w (by omega) hc) (fun v h1 h2 => wu_sw (Tm.own Y P2) Y m _ _ v h1 h2)).mono fun _ _ h => SubPost.yes hr2 h
    · rw [if_neg hXo] at hRB
      have hI := ih P2 o m hsz hok2 ho hm
      by_cases hok : (R P2 o m).ok nmL = true
      · have hr : renO P2 o m = some (R P2 o m) := by unfold renO; rw [if_pos hok]
        rw [hr] at hI
        have hr2 : renO (.own x p) o m = some (Tm.mapU (fun c => sw c o m) (Tm.own Y (R P2 o m))) := by
          unfold renO; rw [hRt, hRB, if_pos (by simp only [Tm.ok, Bool.and_eq_true]; exact ⟨hX, hok⟩)]; rfl
        obtain ⟨r, hr0⟩ : ∃ r, r = R P2 o m := ⟨_, rfl⟩
        rw [← hr0] at hI hr2
        exact (rf_oneB _ _ _ _ _ hq _ _ _ _ _ _ _ _ _ _ _ (by rw [u8_bne]; simp [hXo]) w hP hF hH hW3 hB (sub_some hI) (fun bk w hc => withP_one (.own Y P2) P2 r rfl bk 1 w (by omega) hc) (fun v h1 h2 => wu_sw (Tm.own Y r) o m _ _ v h1 h2)).mono fun _ _ h => SubPost.yes hr2 h
      · have hr : renO P2 o m = none := by unfold renO; rw [if_neg hok]
        rw [hr] at hI
        have hr2 : renO (.own x p) o m = none := by
          unfold renO; rw [hRt, hRB, if_neg (fun h => by simp only [Tm.ok, Bool.and_eq_true] at h; exact hok h.2)]
        exact (rf_oneBF _ _ _ _ _ hq _ _ _ _ _ (by rw [u8_bne]; simp [hXo]) w hP hF hH hW3 hB (sub_none hI)).mono fun _ _ h => SubPost.no hr2 h
set_option maxHeartbeats 8000000 in
theorem renameFree_any (n : Nat) : ∀ (t : Tm) (o m : UInt8), t.size ≤ n → t.ok nmL = true → nmL o = true → nmL m = true → ∀ w, Calls Tryz.prog 27 #[.iface (tyOf t) (pay t), .int .u8 (o.toNat : Int), .int .u8 (m.toNat : Int)] w (SubPost (renO t o m) w) := by
  induction n with
  | zero => intro t o m h; have := size_pos t; omega
  | succ n ih =>
    intro t o m hn ht ho hm w
    by_cases e : o = m
    · subst e
      have hr : renO t o o = some t := by unfold renO; rw [R_same _ _ _ (.inl rfl), if_pos ht]
      exact (rf_same _ _ _ w).mono fun _ _ h => SubPost.yes hr h
    have hq : (((o.toNat : Nat) : Int) == ((m.toNat : Nat) : Int)) = false := by rw [u8_beq]; exact decide_eq_false e
    have hF := freeNames_any t ht
    have hH := has_free t ht o ho
    by_cases hf : o ∈ t.free
    case neg =>
      rw [decide_eq_false hf] at hH
      have hr : renO t o m = some t := by unfold renO; rw [R_same _ _ _ (.inr hf), if_pos ht]
      exact (rf_nofree _ _ _ _ _ hq w hF hH).mono fun _ _ h => SubPost.yes hr h
    rw [decide_eq_true hf] at hH
    have hne : ¬ (o = m ∨ o ∉ t.free) := fun h => h.elim e (fun h => h hf)
    cases t with
    | nil => simp [Tm.free] at hf
    | snd a b p =>
      simp only [Tm.size] at hn
      have hB := binderOf_any (.snd a b p)
      have hP := (parts_fact (.snd a b p)).pf
      simp only [Tm.ok, Bool.and_eq_true] at ht
      have hI := ih p o m (by omega) ht.2 ho hm
      by_cases hok : (R p o m).ok nmL = true
      · have hr : renO p o m = some (R p o m) := by unfold renO; rw [if_pos hok]
        rw [hr] at hI
        have hr2 : renO (.snd a b p) o m = some (Tm.mapU (fun c => sw c o m) (Tm.snd a b (R p o m))) := by
          unfold renO; rw [R_snd hne, if_pos (by simp only [Tm.ok, Bool.and_eq_true]; exact ⟨⟨sw_ok ht.1.1 hm, sw_ok ht.1.2 hm⟩, hok⟩)]; rfl
        exact (rf_one _ _ _ _ _ hq _ _ _ _ _ _ _ _ _ _ w hP hF hH (wc_nb _ _ _ _ hB) hB (sub_some hI) (fun bk w hc => withP_one (.snd a b p) p (R p o m) rfl bk 1 w (by omega) hc) (fun v h1 h2 => wu_sw (Tm.snd a b (R p o m)) o m _ _ v h1 h2)).mono fun _ _ h => SubPost.yes hr2 h
      · have hr : renO p o m = none := by unfold renO; rw [if_neg hok]
        rw [hr] at hI
        have hr2 : renO (.snd a b p) o m = none := by
          unfold renO; rw [R_snd hne, if_neg (fun h => by simp only [Tm.ok, Bool.and_eq_true] at h; exact hok h.2)]
        exact (rf_oneF _ _ _ _ _ hq _ _ _ _ w hP hF hH (wc_nb _ _ _ _ hB) hB (sub_none hI)).mono fun _ _ h => SubPost.no hr2 h
    | mat a b p =>
      simp only [Tm.size] at hn
      have hB := binderOf_any (.mat a b p)
      have hP := (parts_fact (.mat a b p)).pf
      simp only [Tm.ok, Bool.and_eq_true] at ht
      have hI := ih p o m (by omega) ht.2 ho hm
      by_cases hok : (R p o m).ok nmL = true
      · have hr : renO p o m = some (R p o m) := by unfold renO; rw [if_pos hok]
        rw [hr] at hI
        have hr2 : renO (.mat a b p) o m = some (Tm.mapU (fun c => sw c o m) (Tm.mat a b (R p o m))) := by
          unfold renO; rw [R_mat hne, if_pos (by simp only [Tm.ok, Bool.and_eq_true]; exact ⟨⟨sw_ok ht.1.1 hm, sw_ok ht.1.2 hm⟩, hok⟩)]; rfl
        exact (rf_one _ _ _ _ _ hq _ _ _ _ _ _ _ _ _ _ w hP hF hH (wc_nb _ _ _ _ hB) hB (sub_some hI) (fun bk w hc => withP_one (.mat a b p) p (R p o m) rfl bk 1 w (by omega) hc) (fun v h1 h2 => wu_sw (Tm.mat a b (R p o m)) o m _ _ v h1 h2)).mono fun _ _ h => SubPost.yes hr2 h
      · have hr : renO p o m = none := by unfold renO; rw [if_neg hok]
        rw [hr] at hI
        have hr2 : renO (.mat a b p) o m = none := by
          unfold renO; rw [R_mat hne, if_neg (fun h => by simp only [Tm.ok, Bool.and_eq_true] at h; exact hok h.2)]
        exact (rf_oneF _ _ _ _ _ hq _ _ _ _ w hP hF hH (wc_nb _ _ _ _ hB) hB (sub_none hI)).mono fun _ _ h => SubPost.no hr2 h
    | tau p =>
      simp only [Tm.size] at hn
      have hB := binderOf_any (.tau p)
      have hP := (parts_fact (.tau p)).pf
      simp only [Tm.ok] at ht
      have hI := ih p o m (by omega) ht ho hm
      by_cases hok : (R p o m).ok nmL = true
      · have hr : renO p o m = some (R p o m) := by unfold renO; rw [if_pos hok]
        rw [hr] at hI
        have hr2 : renO (.tau p) o m = some (Tm.mapU (fun c => sw c o m) (Tm.tau (R p o m))) := by
          unfold renO; rw [R_tau hne, if_pos (by simp only [Tm.ok]; exact hok)]; rfl
        exact (rf_one _ _ _ _ _ hq _ _ _ _ _ _ _ _ _ _ w hP hF hH (wc_nb _ _ _ _ hB) hB (sub_some hI) (fun bk w hc => withP_one (.tau p) p (R p o m) rfl bk 1 w (by omega) hc) (fun v h1 h2 => wu_sw (Tm.tau (R p o m)) o m _ _ v h1 h2)).mono fun _ _ h => SubPost.yes hr2 h
      · have hr : renO p o m = none := by unfold renO; rw [if_neg hok]
        rw [hr] at hI
        have hr2 : renO (.tau p) o m = none := by
          unfold renO; rw [R_tau hne, if_neg (fun h => by simp only [Tm.ok] at h; exact hok h)]
        exact (rf_oneF _ _ _ _ _ hq _ _ _ _ w hP hF hH (wc_nb _ _ _ _ hB) hB (sub_none hI)).mono fun _ _ h => SubPost.no hr2 h
    | rep p =>
      simp only [Tm.size] at hn
      have hB := binderOf_any (.rep p)
      have hP := (parts_fact (.rep p)).pf
      simp only [Tm.ok] at ht
      have hI := ih p o m (by omega) ht ho hm
      by_cases hok : (R p o m).ok nmL = true
      · have hr : renO p o m = some (R p o m) := by unfold renO; rw [if_pos hok]
        rw [hr] at hI
        have hr2 : renO (.rep p) o m = some (Tm.mapU (fun c => sw c o m) (Tm.rep (R p o m))) := by
          unfold renO; rw [R_rep hne, if_pos (by simp only [Tm.ok]; exact hok)]; rfl
        exact (rf_one _ _ _ _ _ hq _ _ _ _ _ _ _ _ _ _ w hP hF hH (wc_nb _ _ _ _ hB) hB (sub_some hI) (fun bk w hc => withP_one (.rep p) p (R p o m) rfl bk 1 w (by omega) hc) (fun v h1 h2 => wu_sw (Tm.rep (R p o m)) o m _ _ v h1 h2)).mono fun _ _ h => SubPost.yes hr2 h
      · have hr : renO p o m = none := by unfold renO; rw [if_neg hok]
        rw [hr] at hI
        have hr2 : renO (.rep p) o m = none := by
          unfold renO; rw [R_rep hne, if_neg (fun h => by simp only [Tm.ok] at h; exact hok h)]
        exact (rf_oneF _ _ _ _ _ hq _ _ _ _ w hP hF hH (wc_nb _ _ _ _ hB) hB (sub_none hI)).mono fun _ _ h => SubPost.no hr2 h
    | sum p q =>
      simp only [Tm.size] at hn
      have hB := binderOf_any (.sum p q)
      have hP := (parts_fact (.sum p q)).pf
      simp only [Tm.ok, Bool.and_eq_true] at ht
      have hI := ih p o m (by omega) ht.1 ho hm
      have hI2 := ih q o m (by omega) ht.2 ho hm
      by_cases hok : (R p o m).ok nmL = true
      · have hr : renO p o m = some (R p o m) := by unfold renO; rw [if_pos hok]
        rw [hr] at hI
        by_cases hok2 : (R q o m).ok nmL = true
        · have hr1 : renO q o m = some (R q o m) := by unfold renO; rw [if_pos hok2]
          rw [hr1] at hI2
          have hr2 : renO (.sum p q) o m = some (Tm.mapU (fun c => sw c o m) (Tm.sum (R p o m) (R q o m))) := by
            unfold renO; rw [R_sum hne, if_pos (by simp only [Tm.ok, Bool.and_eq_true]; exact ⟨hok, hok2⟩)]; rfl
          exact (rf_two _ _ _ _ _ hq _ _ _ _ _ _ _ _ _ _ _ _ _ _ w hP hF hH (wc_nb _ _ _ _ hB) hB (sub_some hI) (sub_some hI2) (fun bk w hc hc1 => withP_two (.sum p q) p q (R p o m) (R q o m) rfl bk 2 w (by omega) hc hc1) (fun v h1 h2 => wu_sw (Tm.sum (R p o m) (R q o m)) o m _ _ v h1 h2)).mono fun _ _ h => SubPost.yes hr2 h
        · have hr1 : renO q o m = none := by unfold renO; rw [if_neg hok2]
          rw [hr1] at hI2
          have hr2 : renO (.sum p q) o m = none := by
            unfold renO; rw [R_sum hne, if_neg (fun h => by simp only [Tm.ok, Bool.and_eq_true] at h; exact hok2 h.2)]
          exact (rf_twoG _ _ _ _ _ hq _ _ _ _ _ _ _ _ w hP hF hH (wc_nb _ _ _ _ hB) hB (sub_some hI) (sub_none hI2)).mono fun _ _ h => SubPost.no hr2 h
      · have hr : renO p o m = none := by unfold renO; rw [if_neg hok]
        rw [hr] at hI
        have hr2 : renO (.sum p q) o m = none := by
          unfold renO; rw [R_sum hne, if_neg (fun h => by simp only [Tm.ok, Bool.and_eq_true] at h; exact hok h.1)]
        exact (rf_twoF _ _ _ _ _ hq _ _ _ _ _ _ w hP hF hH (wc_nb _ _ _ _ hB) hB (sub_none hI)).mono fun _ _ h => SubPost.no hr2 h
    | par p q =>
      simp only [Tm.size] at hn
      have hB := binderOf_any (.par p q)
      have hP := (parts_fact (.par p q)).pf
      simp only [Tm.ok, Bool.and_eq_true] at ht
      have hI := ih p o m (by omega) ht.1 ho hm
      have hI2 := ih q o m (by omega) ht.2 ho hm
      by_cases hok : (R p o m).ok nmL = true
      · have hr : renO p o m = some (R p o m) := by unfold renO; rw [if_pos hok]
        rw [hr] at hI
        by_cases hok2 : (R q o m).ok nmL = true
        · have hr1 : renO q o m = some (R q o m) := by unfold renO; rw [if_pos hok2]
          rw [hr1] at hI2
          have hr2 : renO (.par p q) o m = some (Tm.mapU (fun c => sw c o m) (Tm.par (R p o m) (R q o m))) := by
            unfold renO; rw [R_par hne, if_pos (by simp only [Tm.ok, Bool.and_eq_true]; exact ⟨hok, hok2⟩)]; rfl
          exact (rf_two _ _ _ _ _ hq _ _ _ _ _ _ _ _ _ _ _ _ _ _ w hP hF hH (wc_nb _ _ _ _ hB) hB (sub_some hI) (sub_some hI2) (fun bk w hc hc1 => withP_two (.par p q) p q (R p o m) (R q o m) rfl bk 2 w (by omega) hc hc1) (fun v h1 h2 => wu_sw (Tm.par (R p o m) (R q o m)) o m _ _ v h1 h2)).mono fun _ _ h => SubPost.yes hr2 h
        · have hr1 : renO q o m = none := by unfold renO; rw [if_neg hok2]
          rw [hr1] at hI2
          have hr2 : renO (.par p q) o m = none := by
            unfold renO; rw [R_par hne, if_neg (fun h => by simp only [Tm.ok, Bool.and_eq_true] at h; exact hok2 h.2)]
          exact (rf_twoG _ _ _ _ _ hq _ _ _ _ _ _ _ _ w hP hF hH (wc_nb _ _ _ _ hB) hB (sub_some hI) (sub_none hI2)).mono fun _ _ h => SubPost.no hr2 h
      · have hr : renO p o m = none := by unfold renO; rw [if_neg hok]
        rw [hr] at hI
        have hr2 : renO (.par p q) o m = none := by
          unfold renO; rw [R_par hne, if_neg (fun h => by simp only [Tm.ok, Bool.and_eq_true] at h; exact hok h.1)]
        exact (rf_twoF _ _ _ _ _ hq _ _ _ _ _ _ w hP hF hH (wc_nb _ _ _ _ hB) hB (sub_none hI)).mono fun _ _ h => SubPost.no hr2 h
    | rcv a x p => simp only [Tm.size] at hn; exact rx_rcv n ih a x p o m (by omega) ht ho hm hq hne hF hH w
    | own x p => simp only [Tm.size] at hn; exact rx_own n ih x p o m (by omega) ht ho hm hq hne hF hH w

end Go.Proofs.YtpabmidjfpabdaaGreat.T1

/- What RenameFree answers on both sides. No conditions. -/
namespace Go.Proofs.YtpabmidjfpabdaaGreat
namespace LawRenameFree
open Go.ChangeShapes Go.WideShapes Go.ChangeAt Go.RowKit Go.Proofs.YtpabmidjfpabdaaGreat.T1
open Go.ChangeMaps (open_string shut_string)
set_option linter.unusedVariables false

theorem blw {u v w : World} (h : Below u.heap.size u v) (k : Below v.heap.size v w) : Below u.heap.size u w := below_trans h k h.size
theorem nm_lo {c : UInt8} (h : nmL c = false) : ((c.toNat : Nat) : Int) < 97 ∨ 122 < ((c.toNat : Nat) : Int) := by
  rcases Nat.lt_or_ge c.toNat 97 with h1 | h1
  · exact .inl (by omega)
  · rcases Nat.lt_or_ge 122 c.toNat with h2 | h2
    · exact .inr (by omega)
    · have := (nmL_iff c).2 ⟨h1, h2⟩; rw [h] at this; cases this
set_option maxHeartbeats 1000000 in
theorem one_len (X : ByteArray) (hq : ((X.size : Int) == 1) = false) (hq2 : ((X.size : Int) != 1) = true) (w : World) : Calls Tryz.prog 30 #[.string X] w fun e w' => e = .returned (.bool false) ∧ Below w.heap.size w w' := by
  go_enter Tryz.func30, Tryz.ntmps30
  go_wp2_with fail
  go_ret
  exact ⟨rfl, Below.refl _ _⟩
set_option maxHeartbeats 1000000 in
theorem one_lo (X : ByteArray) (h0 : 0 < X.size) (hq : ((X.size : Int) == 1) = true) (h1 : ((X[0]'h0).toNat : Int) < 97) (w : World) : Calls Tryz.prog 30 #[.string X] w fun e w' => e = .returned (.bool false) ∧ Below w.heap.size w w' := by
  skip
  go_enter Tryz.func30, Tryz.ntmps30
  go_wp2_with fail
  all_goals go_ret
  all_goals exact ⟨rfl, Below.refl _ _⟩
set_option maxHeartbeats 1000000 in
theorem one_hi (X : ByteArray) (h0 : 0 < X.size) (hq : ((X.size : Int) == 1) = true) (h1 : 122 < ((X[0]'h0).toNat : Int)) (w : World) : Calls Tryz.prog 30 #[.string X] w fun e w' => e = .returned (.bool false) ∧ Below w.heap.size w w' := by
  have hd : decide (((X[0]'h0).toNat : Int) ≤ 122) = false := decide_eq_false (by omega)
  go_enter Tryz.func30, Tryz.ntmps30
  go_wp2_with fail
  all_goals go_ret
  all_goals exact ⟨rfl, Below.refl _ _⟩
set_option maxHeartbeats 1000000 in
theorem one_yes (X : ByteArray) (h0 : 0 < X.size) (hq : ((X.size : Int) == 1) = true) (h1 : 97 ≤ ((X[0]'h0).toNat : Int)) (h2 : ((X[0]'h0).toNat : Int) ≤ 122) (w : World) : Calls Tryz.prog 30 #[.string X] w fun e w' => e = .returned (.bool true) ∧ Below w.heap.size w w' := by
  skip
  go_enter Tryz.func30, Tryz.ntmps30
  go_wp2_with fail
  all_goals go_ret
  all_goals exact ⟨rfl, Below.refl _ _⟩
set_option maxHeartbeats 1000000 in
theorem rn_len (X : ByteArray) (hq : ((X.size : Int) == 1) = false) (hq2 : ((X.size : Int) != 1) = true) (w : World) : Calls Tryz.prog 26 #[.string X] w fun e w' => e = .returned (.tuple #[.int .u8 0, .bool false]) ∧ Below w.heap.size w w' := by
  go_enter Tryz.func26, Tryz.ntmps26
  go_wp2_with fail
  go_ret2
  exact ⟨rfl, Below.refl _ _⟩
set_option maxHeartbeats 1000000 in
theorem rn_no (X : ByteArray) (h0 : 0 < X.size) (hq : ((X.size : Int) != 1) = false) (HL : ∀ w, Calls Tryz.prog 46 #[.int .i32 ((X[0]'h0).toNat : Int)] w fun e w' => e = .returned (.bool false) ∧ w = w') (w : World) : Calls Tryz.prog 26 #[.string X] w fun e w' => e = .returned (.tuple #[.int .u8 0, .bool false]) ∧ Below w.heap.size w w' := by
  have H := Lib.hid HL
  have hby : (X[0]'h0).toNat < 256 := (X[0]'h0).toNat_lt
  clear HL
  go_enter Tryz.func26, Tryz.ntmps26
  go_wp2_with fail
  refine (H.out _).mono ?_
  rintro e w1 ⟨rfl, rfl⟩
  go_wp2_with fail
  go_ret2
  exact ⟨rfl, Below.refl _ _⟩
set_option maxHeartbeats 1000000 in
theorem rn_yes (X : ByteArray) (h0 : 0 < X.size) (hq : ((X.size : Int) != 1) = false) (HL : ∀ w, Calls Tryz.prog 46 #[.int .i32 ((X[0]'h0).toNat : Int)] w fun e w' => e = .returned (.bool true) ∧ w = w') (w : World) : Calls Tryz.prog 26 #[.string X] w fun e w' => e = .returned (.tuple #[.int .u8 ((X[0]'h0).toNat : Int), .bool true]) ∧ Below w.heap.size w w' := by
  have H := Lib.hid HL
  have hby : (X[0]'h0).toNat < 256 := (X[0]'h0).toNat_lt
  clear HL
  go_enter Tryz.func26, Tryz.ntmps26
  go_wp2_with fail
  refine (H.out _).mono ?_
  rintro e w1 ⟨rfl, rfl⟩
  go_wp2_with fail
  go_ret2
  exact ⟨rfl, Below.refl _ _⟩

/-- A text that is one name, or none. -/
theorem one_or (k : ByteArray) : (∃ c, nmL c = true ∧ k = B [c] ∧ (∀ w, Calls Tryz.prog 30 #[.string k] w fun e w' => e = .returned (.bool true) ∧ Below w.heap.size w w') ∧ (∀ w, Calls Tryz.prog 26 #[.string k] w fun e w' => e = .returned (.tuple #[.int .u8 (c.toNat : Int), .bool true]) ∧ Below w.heap.size w w')) ∨ ((∀ w, Calls Tryz.prog 30 #[.string k] w fun e w' => e = .returned (.bool false) ∧ Below w.heap.size w w') ∧ (∀ w, Calls Tryz.prog 26 #[.string k] w fun e w' => e = .returned (.tuple #[.int .u8 0, .bool false]) ∧ Below w.heap.size w w')) := by
  by_cases h1 : k.size = 1
  · have h0 : 0 < k.size := by omega
    have hq : ((k.size : Int) == 1) = true := by rw [h1]; rfl
    have hq2 : ((k.size : Int) != 1) = false := by rw [h1]; rfl
    have hL := isLetter_any (k[0]'h0)
    cases hc : nmL (k[0]'h0) with
    | true =>
      rw [hc] at hL
      have h2 := (nmL_iff _).1 hc
      refine .inl ⟨k[0]'h0, hc, ?_, one_yes k h0 hq (by omega) (by omega), rn_yes k h0 hq2 hL⟩
      apply B_eq
      have hl : k.data.toList.length = 1 := by simp; exact h1
      have hg := get_list k 0 h0
      match hk : k.data.toList, hl with
      | [x], _ => simp [hk] at hg; rw [hg]
    | false =>
      rw [hc] at hL
      refine .inr ⟨?_, rn_no k h0 hq2 hL⟩
      rcases nm_lo hc with h | h
      · exact one_lo k h0 hq h
      · exact one_hi k h0 hq h
  · have hq : ((k.size : Int) == 1) = false := by rw [beq_eq_false_iff_ne]; omega
    exact .inr ⟨one_len k hq (by rw [bne, hq]; rfl), rn_len k hq (by rw [bne, hq]; rfl)⟩
set_option maxHeartbeats 1000000 in
theorem s_n1 (s k q : ByteArray)  (G1 : ∀ w, Calls Tryz.prog 29 #[.string s] w fun e w' => e = .returned (.bool false) ∧ Below w.heap.size w w') (w : World) : Calls Tryz.prog 7 #[.string s, .string k, .string q] w fun e w' => e = .returned (.tuple #[.string ⟨#[]⟩, .bool false]) ∧ Below w.heap.size w w' := by
  have G1' := Lib.hid G1
  clear G1
  go_enter Tryz.func7, Tryz.ntmps7
  go_wp2_with fail
  refine (G1'.out _).mono ?_
  rintro e w1 ⟨rfl, b1⟩
  go_wp2_with fail
  go_ret2
  exact ⟨rfl, b1⟩
set_option maxHeartbeats 1000000 in
theorem s_n2 (s k q : ByteArray)  (G1 : ∀ w, Calls Tryz.prog 29 #[.string s] w fun e w' => e = .returned (.bool true) ∧ Below w.heap.size w w') (O1 : ∀ w, Calls Tryz.prog 30 #[.string k] w fun e w' => e = .returned (.bool false) ∧ Below w.heap.size w w') (w : World) : Calls Tryz.prog 7 #[.string s, .string k, .string q] w fun e w' => e = .returned (.tuple #[.string ⟨#[]⟩, .bool false]) ∧ Below w.heap.size w w' := by
  have G1' := Lib.hid G1
  have O1' := Lib.hid O1
  clear G1 O1
  go_enter Tryz.func7, Tryz.ntmps7
  go_wp2_with fail
  refine (G1'.out _).mono ?_
  rintro e w1 ⟨rfl, b1⟩
  go_wp2_with fail
  refine (O1'.out _).mono ?_
  rintro e w2 ⟨rfl, b2⟩
  have bl2 := blw b1 b2
  go_wp2_with fail
  go_ret2
  exact ⟨rfl, bl2⟩
set_option maxHeartbeats 1000000 in
theorem s_n3 (s k q : ByteArray)  (G1 : ∀ w, Calls Tryz.prog 29 #[.string s] w fun e w' => e = .returned (.bool true) ∧ Below w.heap.size w w') (O1 : ∀ w, Calls Tryz.prog 30 #[.string k] w fun e w' => e = .returned (.bool true) ∧ Below w.heap.size w w') (O2 : ∀ w, Calls Tryz.prog 30 #[.string q] w fun e w' => e = .returned (.bool false) ∧ Below w.heap.size w w') (w : World) : Calls Tryz.prog 7 #[.string s, .string k, .string q] w fun e w' => e = .returned (.tuple #[.string ⟨#[]⟩, .bool false]) ∧ Below w.heap.size w w' := by
  have G1' := Lib.hid G1
  have O1' := Lib.hid O1
  have O2' := Lib.hid O2
  clear G1 O1 O2
  go_enter Tryz.func7, Tryz.ntmps7
  go_wp2_with fail
  refine (G1'.out _).mono ?_
  rintro e w1 ⟨rfl, b1⟩
  go_wp2_with fail
  refine (O1'.out _).mono ?_
  rintro e w2 ⟨rfl, b2⟩
  have bl2 := blw b1 b2
  go_wp2_with fail
  refine (O2'.out _).mono ?_
  rintro e w3 ⟨rfl, b3⟩
  have bl3 := blw bl2 b3
  go_wp2_with fail
  go_ret2
  exact ⟨rfl, bl3⟩
set_option maxHeartbeats 1000000 in
theorem s_yes (s k q : ByteArray) (hk : 0 < k.size) (hq : 0 < q.size) (R Y : ByteArray) (y : Bool) (G1 : ∀ w, Calls Tryz.prog 29 #[.string s] w fun e w' => e = .returned (.bool true) ∧ Below w.heap.size w w') (O1 : ∀ w, Calls Tryz.prog 30 #[.string k] w fun e w' => e = .returned (.bool true) ∧ Below w.heap.size w w') (O2 : ∀ w, Calls Tryz.prog 30 #[.string q] w fun e w' => e = .returned (.bool true) ∧ Below w.heap.size w w') (HR : ∀ w, Calls Tryz.prog 32 #[.string s, .int .u8 ((k[0]'hk).toNat : Int), .int .u8 ((q[0]'hq).toNat : Int)] w fun e w' => e = .returned (.string R) ∧ Below w.heap.size w w') (HI : ∀ w, Calls Tryz.prog 31 #[.string R] w fun e w' => e = .returned (.tuple #[.string Y, .bool y]) ∧ Below w.heap.size w w') (w : World) : Calls Tryz.prog 7 #[.string s, .string k, .string q] w fun e w' => e = .returned (.tuple #[.string Y, .bool y]) ∧ Below w.heap.size w w' := by
  have G1' := Lib.hid G1
  have O1' := Lib.hid O1
  have O2' := Lib.hid O2
  have HR' := Lib.hid HR
  have HI' := Lib.hid HI
  clear G1 O1 O2 HR HI
  go_enter Tryz.func7, Tryz.ntmps7
  go_wp2_with fail
  refine (G1'.out _).mono ?_
  rintro e w1 ⟨rfl, b1⟩
  go_wp2_with fail
  refine (O1'.out _).mono ?_
  rintro e w2 ⟨rfl, b2⟩
  have bl2 := blw b1 b2
  go_wp2_with fail
  refine (O2'.out _).mono ?_
  rintro e w3 ⟨rfl, b3⟩
  have bl3 := blw bl2 b3
  go_wp2_with fail
  go_region_with (first | (go_at_call 32; refine (HR'.out _).mono ?_; rintro e w4 ⟨rfl, b4⟩; have bl4 := blw bl3.drew b4) | (go_at_call 31; refine (HI'.out _).mono ?_; rintro e w5 ⟨rfl, b5⟩; have bl5 := blw bl4 b5))
  all_goals
    go_wp2_with fail
    go_ret2
    exact ⟨rfl, bl5⟩
set_option maxHeartbeats 1000000 in
theorem i_n1 (s k q : ByteArray) (a1 a2 : Int) (b1 b2 : Bool) (G1 : ∀ w, Calls Tryz.prog 25 #[.string s] w fun e w' => e = .returned (.tuple #[.nilIface, .bool false]) ∧ Below w.heap.size w w') (O1 : ∀ w, Calls Tryz.prog 26 #[.string k] w fun e w' => e = .returned (.tuple #[.int .u8 a1, .bool b1]) ∧ Below w.heap.size w w') (O2 : ∀ w, Calls Tryz.prog 26 #[.string q] w fun e w' => e = .returned (.tuple #[.int .u8 a2, .bool b2]) ∧ Below w.heap.size w w') (w : World) : Calls Tryz.prog 6 #[.string s, .string k, .string q] w fun e w' => e = .returned (.tuple #[.string ⟨#[]⟩, .bool false]) ∧ Below w.heap.size w w' := by
  have G1' := Lib.hid G1
  have O1' := Lib.hid O1
  have O2' := Lib.hid O2
  clear G1 O1 O2
  go_enter Tryz.func6, Tryz.ntmps6
  go_wp2_with fail
  refine (G1'.out _).mono ?_
  rintro e w1 ⟨rfl, b1⟩
  go_wp2_with fail
  refine (O1'.out _).mono ?_
  rintro e w2 ⟨rfl, b2⟩
  have bl2 := blw b1 b2
  go_wp2_with fail
  refine (O2'.out _).mono ?_
  rintro e w3 ⟨rfl, b3⟩
  have bl3 := blw bl2 b3
  go_wp2_with fail
  go_ret2
  exact ⟨rfl, bl3⟩
set_option maxHeartbeats 1000000 in
theorem i_n2 (s k q : ByteArray) (T1 : TypeId) (V1 : Value) (a1 a2 : Int) (b2 : Bool) (G1 : ∀ w, Calls Tryz.prog 25 #[.string s] w fun e w' => e = .returned (.tuple #[.iface T1 V1, .bool true]) ∧ Below w.heap.size w w') (O1 : ∀ w, Calls Tryz.prog 26 #[.string k] w fun e w' => e = .returned (.tuple #[.int .u8 a1, .bool false]) ∧ Below w.heap.size w w') (O2 : ∀ w, Calls Tryz.prog 26 #[.string q] w fun e w' => e = .returned (.tuple #[.int .u8 a2, .bool b2]) ∧ Below w.heap.size w w') (w : World) : Calls Tryz.prog 6 #[.string s, .string k, .string q] w fun e w' => e = .returned (.tuple #[.string ⟨#[]⟩, .bool false]) ∧ Below w.heap.size w w' := by
  have G1' := Lib.hid G1
  have O1' := Lib.hid O1
  have O2' := Lib.hid O2
  clear G1 O1 O2
  go_enter Tryz.func6, Tryz.ntmps6
  go_wp2_with fail
  refine (G1'.out _).mono ?_
  rintro e w1 ⟨rfl, b1⟩
  go_wp2_with fail
  refine (O1'.out _).mono ?_
  rintro e w2 ⟨rfl, b2⟩
  have bl2 := blw b1 b2
  go_wp2_with fail
  refine (O2'.out _).mono ?_
  rintro e w3 ⟨rfl, b3⟩
  have bl3 := blw bl2 b3
  go_wp2_with fail
  go_ret2
  exact ⟨rfl, bl3⟩
set_option maxHeartbeats 1000000 in
theorem i_n3 (s k q : ByteArray) (T1 : TypeId) (V1 : Value) (a1 a2 : Int) (G1 : ∀ w, Calls Tryz.prog 25 #[.string s] w fun e w' => e = .returned (.tuple #[.iface T1 V1, .bool true]) ∧ Below w.heap.size w w') (O1 : ∀ w, Calls Tryz.prog 26 #[.string k] w fun e w' => e = .returned (.tuple #[.int .u8 a1, .bool true]) ∧ Below w.heap.size w w') (O2 : ∀ w, Calls Tryz.prog 26 #[.string q] w fun e w' => e = .returned (.tuple #[.int .u8 a2, .bool false]) ∧ Below w.heap.size w w') (w : World) : Calls Tryz.prog 6 #[.string s, .string k, .string q] w fun e w' => e = .returned (.tuple #[.string ⟨#[]⟩, .bool false]) ∧ Below w.heap.size w w' := by
  have G1' := Lib.hid G1
  have O1' := Lib.hid O1
  have O2' := Lib.hid O2
  clear G1 O1 O2
  go_enter Tryz.func6, Tryz.ntmps6
  go_wp2_with fail
  refine (G1'.out _).mono ?_
  rintro e w1 ⟨rfl, b1⟩
  go_wp2_with fail
  refine (O1'.out _).mono ?_
  rintro e w2 ⟨rfl, b2⟩
  have bl2 := blw b1 b2
  go_wp2_with fail
  refine (O2'.out _).mono ?_
  rintro e w3 ⟨rfl, b3⟩
  have bl3 := blw bl2 b3
  go_wp2_with fail
  go_ret2
  exact ⟨rfl, bl3⟩
set_option maxHeartbeats 1000000 in
theorem i_n4 (s k q : ByteArray) (T1 : TypeId) (V1 : Value) (a1 a2 : Int) (G1 : ∀ w, Calls Tryz.prog 25 #[.string s] w fun e w' => e = .returned (.tuple #[.iface T1 V1, .bool true]) ∧ Below w.heap.size w w') (O1 : ∀ w, Calls Tryz.prog 26 #[.string k] w fun e w' => e = .returned (.tuple #[.int .u8 a1, .bool true]) ∧ Below w.heap.size w w') (O2 : ∀ w, Calls Tryz.prog 26 #[.string q] w fun e w' => e = .returned (.tuple #[.int .u8 a2, .bool true]) ∧ Below w.heap.size w w') (HA : ∀ w, Calls Tryz.prog 27 #[.iface T1 V1, .int .u8 a1, .int .u8 a2] w fun e w' => e = .returned (.tuple #[.nilIface, .bool false]) ∧ Below w.heap.size w w') (w : World) : Calls Tryz.prog 6 #[.string s, .string k, .string q] w fun e w' => e = .returned (.tuple #[.string ⟨#[]⟩, .bool false]) ∧ Below w.heap.size w w' := by
  have G1' := Lib.hid G1
  have O1' := Lib.hid O1
  have O2' := Lib.hid O2
  have HA' := Lib.hid HA
  clear G1 O1 O2 HA
  go_enter Tryz.func6, Tryz.ntmps6
  go_wp2_with fail
  refine (G1'.out _).mono ?_
  rintro e w1 ⟨rfl, b1⟩
  go_wp2_with fail
  refine (O1'.out _).mono ?_
  rintro e w2 ⟨rfl, b2⟩
  have bl2 := blw b1 b2
  go_wp2_with fail
  refine (O2'.out _).mono ?_
  rintro e w3 ⟨rfl, b3⟩
  have bl3 := blw bl2 b3
  go_wp2_with fail
  refine (HA'.out _).mono ?_
  rintro e w4 ⟨rfl, b4⟩
  have bl4 := blw bl3 b4
  go_wp2_with fail
  go_ret2
  exact ⟨rfl, bl4⟩
set_option maxHeartbeats 1000000 in
theorem i_yes (s k q : ByteArray) (T1 T3 : TypeId) (V1 V3 : Value) (a1 a2 : Int) (Y : ByteArray) (y : Bool) (G1 : ∀ w, Calls Tryz.prog 25 #[.string s] w fun e w' => e = .returned (.tuple #[.iface T1 V1, .bool true]) ∧ Below w.heap.size w w') (O1 : ∀ w, Calls Tryz.prog 26 #[.string k] w fun e w' => e = .returned (.tuple #[.int .u8 a1, .bool true]) ∧ Below w.heap.size w w') (O2 : ∀ w, Calls Tryz.prog 26 #[.string q] w fun e w' => e = .returned (.tuple #[.int .u8 a2, .bool true]) ∧ Below w.heap.size w w') (HA : ∀ w, Calls Tryz.prog 27 #[.iface T1 V1, .int .u8 a1, .int .u8 a2] w fun e w' => e = .returned (.tuple #[.iface T3 V3, .bool true]) ∧ Below w.heap.size w w') (HI : ∀ w, Calls Tryz.prog 28 #[.iface T3 V3] w fun e w' => e = .returned (.tuple #[.string Y, .bool y]) ∧ Below w.heap.size w w') (w : World) : Calls Tryz.prog 6 #[.string s, .string k, .string q] w fun e w' => e = .returned (.tuple #[.string Y, .bool y]) ∧ Below w.heap.size w w' := by
  have G1' := Lib.hid G1
  have O1' := Lib.hid O1
  have O2' := Lib.hid O2
  have HA' := Lib.hid HA
  have HI' := Lib.hid HI
  clear G1 O1 O2 HA HI
  go_enter Tryz.func6, Tryz.ntmps6
  go_wp2_with fail
  refine (G1'.out _).mono ?_
  rintro e w1 ⟨rfl, b1⟩
  go_wp2_with fail
  refine (O1'.out _).mono ?_
  rintro e w2 ⟨rfl, b2⟩
  have bl2 := blw b1 b2
  go_wp2_with fail
  refine (O2'.out _).mono ?_
  rintro e w3 ⟨rfl, b3⟩
  have bl3 := blw bl2 b3
  go_wp2_with fail
  refine (HA'.out _).mono ?_
  rintro e w4 ⟨rfl, b4⟩
  have bl4 := blw bl3 b4
  go_wp2_with fail
  refine (HI'.out _).mono ?_
  rintro e w5 ⟨rfl, b5⟩
  have bl5 := blw bl4 b5
  go_wp2_with fail
  go_ret2
  exact ⟨rfl, bl5⟩

theorem out_if (b : Bool) (X Y : ByteArray) : (if b = true then (.tuple #[.string X, .bool true] : Value) else .tuple #[.string Y, .bool false]) = .tuple #[.string (if b then X else Y), .bool b] := by cases b <;> rfl
end LawRenameFree
end Go.Proofs.YtpabmidjfpabdaaGreat
