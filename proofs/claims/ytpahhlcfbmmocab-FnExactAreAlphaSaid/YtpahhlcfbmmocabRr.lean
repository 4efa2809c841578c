/- A free name renamed, with no capture: the ways through the program's function. -/
import Derived.Test.YtpahhlcfbmmocabWc
import Derived.Test.YtpahhlcfbmmocabRq
import Derived.Deep.DeepCutAuto
namespace Go.Proofs.Ytpahhlcfbmmocab.T1
open Go.RowKit
set_option maxRecDepth 100000
set_option linter.unusedVariables false

set_option maxHeartbeats 1000000 in
theorem rf_same (T : TypeId) (V : Value) (o : Int) (w : World) :
    Calls Try.prog 44 #[.iface T V, .int .u8 o, .int .u8 o] w fun e w' => e = .returned (.tuple #[.iface T V, .bool true]) ∧ Below w.heap.size w w' := by
  have hq : ((o : Int) == o) = true := by simp
  go_enter Try.func44, Try.ntmps44
  go_wp2_with fail
  go_quiet (fail)
  go_wp2_with fail
  go_ret2
  exact ⟨rfl, below_drewN' (below_two _ _ _) _⟩
set_option maxHeartbeats 4000000 in
theorem rf_nofree (T : TypeId) (V : Value) (o m U : Int) (hq : (o == m) = false)  (w : World) 
    (HF : ∀ w, Calls Try.prog 49 #[.iface T V] w fun e w' => e = .returned (.int .u32 U) ∧ Below w.heap.size w w') (HH : ∀ w, Calls Try.prog 74 #[.int .u32 U, .int .u8 o] w fun e w' => e = .returned (.bool false) ∧ w = w') :
    Calls Try.prog 44 #[.iface T V, .int .u8 o, .int .u8 m] w fun e w' => e = .returned (.tuple #[.iface T V, .bool true]) ∧ Below w.heap.size w w' := by
  have HF' := Lib.hid HF
  have HH' := Lib.hid HH
  clear HF HH
  go_enter Try.func44, Try.ntmps44
  go_upto_region 1 with fail
  go_cut [23] (fun s23 wx => s23 = .bool true ∧ Below w.heap.size w wx ∧ wx.cell? ⟨w.heap.size, 0, none⟩ = some (.int .u8 o) ∧ wx.cell? ⟨w.heap.size + 1, 0, none⟩ = some (.int .u8 m))
  case first =>
    obtain ⟨W, hW⟩ : ∃ W, W = (w.alloc (.cells #[.int .u8 o] 5)).alloc (.cells #[.int .u8 m] 5) := ⟨_, rfl⟩
    rw [← hW]
    have c4 : W.cell? ⟨w.heap.size, 0, none⟩ = some (.int .u8 o) := by rw [hW]; exact cellOf1 (first_block _ _ _)
    have c5 : W.cell? ⟨w.heap.size + 1, 0, none⟩ = some (.int .u8 m) := by rw [hW]; exact cellOf1 (last_block _ _ _)
    have bW : Below w.heap.size w W := by rw [hW]; exact below_two _ _ _
    have hsz : w.heap.size + 1 < W.heap.size := lt_cell c5
    clear hW
    go_region_with (first | (go_at_call 49; refine (HF'.out _).mono ?_; rintro e v1 ⟨rfl, d1⟩; have q4 := (d1.cell (p := ⟨w.heap.size, 0, none⟩) (by simp; omega)).trans c4; have q5 := (d1.cell (p := ⟨w.heap.size + 1, 0, none⟩) (by simp; omega)).trans c5; have k1 := below_go bW.drew d1) | (go_at_call 74; refine (HH'.out _).mono ?_; rintro e v2 ⟨rfl, rfl⟩))
    all_goals (go_wp2_with fail; go_meet; exact ⟨rfl, k1, q4, q5⟩)
  case rest =>
    obtain ⟨rfl, bl, c4, c5⟩ := hcut
    go_wp2_with fail
    go_ret2
    exact ⟨rfl, bl⟩
set_option maxHeartbeats 4000000 in
theorem rf_wcfail (T : TypeId) (V : Value) (o m U : Int) (hq : (o == m) = false)  (w : World) 
    (HF : ∀ w, Calls Try.prog 49 #[.iface T V] w fun e w' => e = .returned (.int .u32 U) ∧ Below w.heap.size w w') (HH : ∀ w, Calls Try.prog 74 #[.int .u32 U, .int .u8 o] w fun e w' => e = .returned (.bool true) ∧ w = w') (HC : ∀ w, Calls Try.prog 79 #[.iface T V, .int .u8 o, .int .u8 m] w fun e w' => e = .returned (.tuple #[.nilIface, .bool false]) ∧ Below w.heap.size w w') :
    Calls Try.prog 44 #[.iface T V, .int .u8 o, .int .u8 m] w fun e w' => e = .returned (.tuple #[.nilIface, .bool false]) ∧ Below w.heap.size w w' := by
  have HF' := Lib.hid HF
  have HH' := Lib.hid HH
  have HC' := Lib.hid HC
  clear HF HH HC
  go_enter Try.func44, Try.ntmps44
  go_upto_region 1 with fail
  go_cut [23] (fun s23 wx => s23 = .bool false ∧ Below w.heap.size w wx ∧ wx.cell? ⟨w.heap.size, 0, none⟩ = some (.int .u8 o) ∧ wx.cell? ⟨w.heap.size + 1, 0, none⟩ = some (.int .u8 m))
  case first =>
    obtain ⟨W, hW⟩ : ∃ W, W = (w.alloc (.cells #[.int .u8 o] 5)).alloc (.cells #[.int .u8 m] 5) := ⟨_, rfl⟩
    rw [← hW]
    have c4 : W.cell? ⟨w.heap.size, 0, none⟩ = some (.int .u8 o) := by rw [hW]; exact cellOf1 (first_block _ _ _)
    have c5 : W.cell? ⟨w.heap.size + 1, 0, none⟩ = some (.int .u8 m) := by rw [hW]; exact cellOf1 (last_block _ _ _)
    have bW : Below w.heap.size w W := by rw [hW]; exact below_two _ _ _
    have hsz : w.heap.size + 1 < W.heap.size := lt_cell c5
    clear hW
    go_region_with (first | (go_at_call 49; refine (HF'.out _).mono ?_; rintro e v1 ⟨rfl, d1⟩; have q4 := (d1.cell (p := ⟨w.heap.size, 0, none⟩) (by simp; omega)).trans c4; have q5 := (d1.cell (p := ⟨w.heap.size + 1, 0, none⟩) (by simp; omega)).trans c5; have k1 := below_go bW.drew d1) | (go_at_call 74; refine (HH'.out _).mono ?_; rintro e v2 ⟨rfl, rfl⟩))
    all_goals (go_wp2_with fail; go_meet; exact ⟨rfl, k1, q4, q5⟩)
  case rest =>
    obtain ⟨rfl, bl, c4, c5⟩ := hcut
    go_wp2_with fail
    refine (HC'.out _).mono ?_
    rintro e w2 ⟨rfl, b2⟩
    replace c4 := (b2.cell (p := ⟨w.heap.size, 0, none⟩) (lt_cell c4)).trans c4
    replace c5 := (b2.cell (p := ⟨w.heap.size + 1, 0, none⟩) (lt_cell c5)).trans c5
    replace bl := below_go bl b2
    go_wp2_with fail
    go_ret2
    exact ⟨rfl, bl⟩
set_option maxHeartbeats 4000000 in
theorem rf_skip (T : TypeId) (V : Value) (o m U : Int) (hq : (o == m) = false) (T2 T3 T4 tp : TypeId) (V2 V3 V4 vp : Value) (hx : (o != o) = false) (w : World) (hP : ∃ (F : FuncId) (R : Value), (∀ n w, (method (n + 1) T2 V2 "loop.example/g01175/impl.parts").run Try.prog w = .ok (F, R) w) ∧ (∀ n w, (nilAhead (n + 1) T2 V2 "loop.example/g01175/impl.parts").run Try.prog w = .ok (some false) w) ∧ (∀ args w, (callFunc F args).run Try.prog w = .ok (.enter F args) w) ∧ ∀ w, Calls Try.prog F #[R] w fun e w' => ∃ b, e = .returned (.slice (some ⟨b, 0, none⟩) 1 1) ∧ w.heap.size ≤ b ∧ w'.heap[b]? = some (.cells #[.iface tp vp] 34 (0, 0)) ∧ Below w.heap.size w w')
    (HF : ∀ w, Calls Try.prog 49 #[.iface T V] w fun e w' => e = .returned (.int .u32 U) ∧ Below w.heap.size w w') (HH : ∀ w, Calls Try.prog 74 #[.int .u32 U, .int .u8 o] w fun e w' => e = .returned (.bool true) ∧ w = w') (HC : ∀ w, Calls Try.prog 79 #[.iface T V, .int .u8 o, .int .u8 m] w fun e w' => e = .returned (.tuple #[.iface T2 V2, .bool true]) ∧ Below w.heap.size w w') (HB : ∀ w, Calls Try.prog 73 #[.iface T2 V2] w fun e w' => e = .returned (.tuple #[.int .u8 o, .bool true]) ∧ Below w.heap.size w w') (HW : ∀ (b : Nat) (w : World), w.cell? ⟨b, 0, none⟩ = some (.iface tp vp) → Calls Try.prog 81 #[.iface T2 V2, .slice (some ⟨b, 0, none⟩) 1 1] w fun e w' => e = .returned (.iface T3 V3) ∧ Below w.heap.size w w') (HU : ∀ v, v.cell? ⟨w.heap.size, 0, none⟩ = some (.int .u8 o) → v.cell? ⟨w.heap.size + 1, 0, none⟩ = some (.int .u8 m) → Calls Try.prog 80 #[.iface T3 V3, .func (.func 82) #[] #[.pointer (some ⟨w.heap.size, 0, none⟩), .pointer (some ⟨w.heap.size + 1, 0, none⟩)]] v fun e v' => e = .returned (.iface T4 V4) ∧ Below v.heap.size v v') :
    Calls Try.prog 44 #[.iface T V, .int .u8 o, .int .u8 m] w fun e w' => e = .returned (.tuple #[.iface T4 V4, .bool true]) ∧ Below w.heap.size w w' := by
  obtain ⟨F, RR, hm, hn, hc, hp⟩ := hP
  have HP := Lib.hid hp
  clear hp
  have HF' := Lib.hid HF
  have HH' := Lib.hid HH
  have HC' := Lib.hid HC
  have HB' := Lib.hid HB
  have HW' := Lib.hid HW
  have HU' := Lib.hid HU
  clear HF HH HC HB HW HU
  go_enter Try.func44, Try.ntmps44
  go_upto_region 1 with fail
  go_cut [23] (fun s23 wx => s23 = .bool false ∧ Below w.heap.size w wx ∧ wx.cell? ⟨w.heap.size, 0, none⟩ = some (.int .u8 o) ∧ wx.cell? ⟨w.heap.size + 1, 0, none⟩ = some (.int .u8 m))
  case first =>
    obtain ⟨W, hW⟩ : ∃ W, W = (w.alloc (.cells #[.int .u8 o] 5)).alloc (.cells #[.int .u8 m] 5) := ⟨_, rfl⟩
    rw [← hW]
    have c4 : W.cell? ⟨w.heap.size, 0, none⟩ = some (.int .u8 o) := by rw [hW]; exact cellOf1 (first_block _ _ _)
    have c5 : W.cell? ⟨w.heap.size + 1, 0, none⟩ = some (.int .u8 m) := by rw [hW]; exact cellOf1 (last_block _ _ _)
    have bW : Below w.heap.size w W := by rw [hW]; exact below_two _ _ _
    have hsz : w.heap.size + 1 < W.heap.size := lt_cell c5
    clear hW
    go_region_with (first | (go_at_call 49; refine (HF'.out _).mono ?_; rintro e v1 ⟨rfl, d1⟩; have q4 := (d1.cell (p := ⟨w.heap.size, 0, none⟩) (by simp; omega)).trans c4; have q5 := (d1.cell (p := ⟨w.heap.size + 1, 0, none⟩) (by simp; omega)).trans c5; have k1 := below_go bW.drew d1) | (go_at_call 74; refine (HH'.out _).mono ?_; rintro e v2 ⟨rfl, rfl⟩))
    all_goals (go_wp2_with fail; go_meet; exact ⟨rfl, k1, q4, q5⟩)
  case rest =>
    obtain ⟨rfl, bl, c4, c5⟩ := hcut
    go_wp2_with fail
    refine (HC'.out _).mono ?_
    rintro e w2 ⟨rfl, b2⟩
    replace c4 := (b2.cell (p := ⟨w.heap.size, 0, none⟩) (lt_cell c4)).trans c4
    replace c5 := (b2.cell (p := ⟨w.heap.size + 1, 0, none⟩) (lt_cell c5)).trans c5
    replace bl := below_go bl b2
    go_wp2_with fail
    refine (HP.out _).mono ?_
    rintro e w3 ⟨b, rfl, hb, hh, b3⟩
    have hkb : w.heap.size + 1 < b := Nat.lt_of_lt_of_le (lt_cell c5) hb
    replace c4 := (b3.cell (p := ⟨w.heap.size, 0, none⟩) (lt_cell c4)).trans c4
    replace c5 := (b3.cell (p := ⟨w.heap.size + 1, 0, none⟩) (lt_cell c5)).trans c5
    replace bl := below_go bl b3
    clear hb
    have Hh := Lib.hid hh
    clear hh
    go_wp2_with fail
    refine (HB'.out _).mono ?_
    rintro e w4 ⟨rfl, b4⟩
    replace c4 := (b4.cell (p := ⟨w.heap.size, 0, none⟩) (lt_cell c4)).trans c4
    replace c5 := (b4.cell (p := ⟨w.heap.size + 1, 0, none⟩) (lt_cell c5)).trans c5
    replace bl := below_go bl b4
    have hh := (b4.block b (lt_of_block Hh.out)).trans Hh.out
    have d0 := cellOf1 hh
    have f0 := free_of_one hh
    have g4 := Lib.hid hh
    clear hh Hh
    have d1 := Lib.hid d0
    clear f0
    go_wp2_with fail
    refine (HW'.out b _ d0).mono ?_
    rintro e w8 ⟨rfl, b8⟩
    replace c4 := (b8.cell (p := ⟨w.heap.size, 0, none⟩) (lt_cell c4)).trans c4
    replace c5 := (b8.cell (p := ⟨w.heap.size + 1, 0, none⟩) (lt_cell c5)).trans c5
    replace bl := below_go bl b8
    go_wp2_with fail
    refine (HU'.out _ c4 c5).mono ?_
    rintro e w9 ⟨rfl, b9⟩
    replace bl := below_go bl b9
    go_wp2_with fail
    go_ret2
    exact ⟨rfl, bl⟩
set_option maxHeartbeats 4000000 in
theorem rf_one (T : TypeId) (V : Value) (o m U : Int) (hq : (o == m) = false) (T2 T3 T4 tp : TypeId) (V2 V3 V4 vp : Value) (tr : TypeId) (vr : Value) (w : World) (hP : ∃ (F : FuncId) (R : Value), (∀ n w, (method (n + 1) T2 V2 "loop.example/g01175/impl.parts").run Try.prog w = .ok (F, R) w) ∧ (∀ n w, (nilAhead (n + 1) T2 V2 "loop.example/g01175/impl.parts").run Try.prog w = .ok (some false) w) ∧ (∀ args w, (callFunc F args).run Try.prog w = .ok (.enter F args) w) ∧ ∀ w, Calls Try.prog F #[R] w fun e w' => ∃ b, e = .returned (.slice (some ⟨b, 0, none⟩) 1 1) ∧ w.heap.size ≤ b ∧ w'.heap[b]? = some (.cells #[.iface tp vp] 34 (0, 0)) ∧ Below w.heap.size w w')
    (HF : ∀ w, Calls Try.prog 49 #[.iface T V] w fun e w' => e = .returned (.int .u32 U) ∧ Below w.heap.size w w') (HH : ∀ w, Calls Try.prog 74 #[.int .u32 U, .int .u8 o] w fun e w' => e = .returned (.bool true) ∧ w = w') (HC : ∀ w, Calls Try.prog 79 #[.iface T V, .int .u8 o, .int .u8 m] w fun e w' => e = .returned (.tuple #[.iface T2 V2, .bool true]) ∧ Below w.heap.size w w') (HB : ∀ w, Calls Try.prog 73 #[.iface T2 V2] w fun e w' => e = .returned (.tuple #[.int .u8 0, .bool false]) ∧ Below w.heap.size w w') (IH : ∀ w, Calls Try.prog 44 #[.iface tp vp, .int .u8 o, .int .u8 m] w fun e w' => e = .returned (.tuple #[.iface tr vr, .bool true]) ∧ Below w.heap.size w w') (HW : ∀ (b : Nat) (w : World), w.cell? ⟨b, 0, none⟩ = some (.iface tr vr) → Calls Try.prog 81 #[.iface T2 V2, .slice (some ⟨b, 0, none⟩) 1 1] w fun e w' => e = .returned (.iface T3 V3) ∧ Below w.heap.size w w') (HU : ∀ v, v.cell? ⟨w.heap.size, 0, none⟩ = some (.int .u8 o) → v.cell? ⟨w.heap.size + 1, 0, none⟩ = some (.int .u8 m) → Calls Try.prog 80 #[.iface T3 V3, .func (.func 82) #[] #[.pointer (some ⟨w.heap.size, 0, none⟩), .pointer (some ⟨w.heap.size + 1, 0, none⟩)]] v fun e v' => e = .returned (.iface T4 V4) ∧ Below v.heap.size v v') :
    Calls Try.prog 44 #[.iface T V, .int .u8 o, .int .u8 m] w fun e w' => e = .returned (.tuple #[.iface T4 V4, .bool true]) ∧ Below w.heap.size w w' := by
  obtain ⟨F, RR, hm, hn, hc, hp⟩ := hP
  have HP := Lib.hid hp
  clear hp
  have HF' := Lib.hid HF
  have HH' := Lib.hid HH
  have HC' := Lib.hid HC
  have HB' := Lib.hid HB
  have IH' := Lib.hid IH
  have HW' := Lib.hid HW
  have HU' := Lib.hid HU
  clear HF HH HC HB IH HW HU
  go_enter Try.func44, Try.ntmps44
  go_upto_region 1 with fail
  go_cut [23] (fun s23 wx => s23 = .bool false ∧ Below w.heap.size w wx ∧ wx.cell? ⟨w.heap.size, 0, none⟩ = some (.int .u8 o) ∧ wx.cell? ⟨w.heap.size + 1, 0, none⟩ = some (.int .u8 m))
  case first =>
    obtain ⟨W, hW⟩ : ∃ W, W = (w.alloc (.cells #[.int .u8 o] 5)).alloc (.cells #[.int .u8 m] 5) := ⟨_, rfl⟩
    rw [← hW]
    have c4 : W.cell? ⟨w.heap.size, 0, none⟩ = some (.int .u8 o) := by rw [hW]; exact cellOf1 (first_block _ _ _)
    have c5 : W.cell? ⟨w.heap.size + 1, 0, none⟩ = some (.int .u8 m) := by rw [hW]; exact cellOf1 (last_block _ _ _)
    have bW : Below w.heap.size w W := by rw [hW]; exact below_two _ _ _
    have hsz : w.heap.size + 1 < W.heap.size := lt_cell c5
    clear hW
    go_region_with (first | (go_at_call 49; refine (HF'.out _).mono ?_; rintro e v1 ⟨rfl, d1⟩; have q4 := (d1.cell (p := ⟨w.heap.size, 0, none⟩) (by simp; omega)).trans c4; have q5 := (d1.cell (p := ⟨w.heap.size + 1, 0, none⟩) (by simp; omega)).trans c5; have k1 := below_go bW.drew d1) | (go_at_call 74; refine (HH'.out _).mono ?_; rintro e v2 ⟨rfl, rfl⟩))
    all_goals (go_wp2_with fail; go_meet; exact ⟨rfl, k1, q4, q5⟩)
  case rest =>
    obtain ⟨rfl, bl, c4, c5⟩ := hcut
    go_wp2_with fail
    refine (HC'.out _).mono ?_
    rintro e w2 ⟨rfl, b2⟩
    replace c4 := (b2.cell (p := ⟨w.heap.size, 0, none⟩) (lt_cell c4)).trans c4
    replace c5 := (b2.cell (p := ⟨w.heap.size + 1, 0, none⟩) (lt_cell c5)).trans c5
    replace bl := below_go bl b2
    go_wp2_with fail
    refine (HP.out _).mono ?_
    rintro e w3 ⟨b, rfl, hb, hh, b3⟩
    have hkb : w.heap.size + 1 < b := Nat.lt_of_lt_of_le (lt_cell c5) hb
    replace c4 := (b3.cell (p := ⟨w.heap.size, 0, none⟩) (lt_cell c4)).trans c4
    replace c5 := (b3.cell (p := ⟨w.heap.size + 1, 0, none⟩) (lt_cell c5)).trans c5
    replace bl := below_go bl b3
    clear hb
    have Hh := Lib.hid hh
    clear hh
    go_wp2_with fail
    refine (HB'.out _).mono ?_
    rintro e w4 ⟨rfl, b4⟩
    replace c4 := (b4.cell (p := ⟨w.heap.size, 0, none⟩) (lt_cell c4)).trans c4
    replace c5 := (b4.cell (p := ⟨w.heap.size + 1, 0, none⟩) (lt_cell c5)).trans c5
    replace bl := below_go bl b4
    have hh := (b4.block b (lt_of_block Hh.out)).trans Hh.out
    have d0 := cellOf1 hh
    have f0 := free_of_one hh
    have g4 := Lib.hid hh
    clear hh Hh
    go_wp2_with fail
    refine wp_loop_rounds 2 ?_
    rw [rounds_succ]
    go_wp2_with fail
    refine (IH'.out _).mono ?_
    rintro e w5 ⟨rfl, b5⟩
    replace c4 := (b5.cell (p := ⟨w.heap.size, 0, none⟩) (lt_cell c4)).trans c4
    replace c5 := (b5.cell (p := ⟨w.heap.size + 1, 0, none⟩) (lt_cell c5)).trans c5
    replace bl := below_go bl b5
    have h5 := (b5.block b (lt_of_block g4.out)).trans g4.out
    clear d0 f0
    have d0 := cellOf1 h5
    have f0 := free_of_one h5
    replace c4 := (((Below.refl b w5).setCell (p := ⟨b, 0, none⟩) (Nat.le_refl b) (.iface tr vr)).cell (p := ⟨w.heap.size, 0, none⟩) (by show w.heap.size < b; omega)).trans c4
    replace c5 := (((Below.refl b w5).setCell (p := ⟨b, 0, none⟩) (Nat.le_refl b) (.iface tr vr)).cell (p := ⟨w.heap.size + 1, 0, none⟩) (by show w.heap.size + 1 < b; omega)).trans c5
    replace bl := bl.setCell (p := ⟨b, 0, none⟩) (by show w.heap.size ≤ b; omega) (.iface tr vr)
    have e5 := one_setCell (u := .iface tr vr) h5
    have e0 := Lib.hid (cellOf1 e5)
    clear h5 e5
    go_wp2_with fail
    rw [rounds_succ]
    go_wp2_with fail
    refine (HW'.out b _ e0.out).mono ?_
    rintro e w8 ⟨rfl, b8⟩
    replace c4 := (b8.cell (p := ⟨w.heap.size, 0, none⟩) (lt_cell c4)).trans c4
    replace c5 := (b8.cell (p := ⟨w.heap.size + 1, 0, none⟩) (lt_cell c5)).trans c5
    replace bl := below_go bl b8
    go_wp2_with fail
    refine (HU'.out _ c4 c5).mono ?_
    rintro e w9 ⟨rfl, b9⟩
    replace bl := below_go bl b9
    go_wp2_with fail
    go_ret2
    exact ⟨rfl, bl⟩
set_option maxHeartbeats 4000000 in
theorem rf_oneF (T : TypeId) (V : Value) (o m U : Int) (hq : (o == m) = false) (T2 tp : TypeId) (V2 vp : Value) (w : World) (hP : ∃ (F : FuncId) (R : Value), (∀ n w, (method (n + 1) T2 V2 "loop.example/g01175/impl.parts").run Try.prog w = .ok (F, R) w) ∧ (∀ n w, (nilAhead (n + 1) T2 V2 "loop.example/g01175/impl.parts").run Try.prog w = .ok (some false) w) ∧ (∀ args w, (callFunc F args).run Try.prog w = .ok (.enter F args) w) ∧ ∀ w, Calls Try.prog F #[R] w fun e w' => ∃ b, e = .returned (.slice (some ⟨b, 0, none⟩) 1 1) ∧ w.heap.size ≤ b ∧ w'.heap[b]? = some (.cells #[.iface tp vp] 34 (0, 0)) ∧ Below w.heap.size w w')
    (HF : ∀ w, Calls Try.prog 49 #[.iface T V] w fun e w' => e = .returned (.int .u32 U) ∧ Below w.heap.size w w') (HH : ∀ w, Calls Try.prog 74 #[.int .u32 U, .int .u8 o] w fun e w' => e = .returned (.bool true) ∧ w = w') (HC : ∀ w, Calls Try.prog 79 #[.iface T V, .int .u8 o, .int .u8 m] w fun e w' => e = .returned (.tuple #[.iface T2 V2, .bool true]) ∧ Below w.heap.size w w') (HB : ∀ w, Calls Try.prog 73 #[.iface T2 V2] w fun e w' => e = .returned (.tuple #[.int .u8 0, .bool false]) ∧ Below w.heap.size w w') (IH : ∀ w, Calls Try.prog 44 #[.iface tp vp, .int .u8 o, .int .u8 m] w fun e w' => e = .returned (.tuple #[.nilIface, .bool false]) ∧ Below w.heap.size w w') :
    Calls Try.prog 44 #[.iface T V, .int .u8 o, .int .u8 m] w fun e w' => e = .returned (.tuple #[.nilIface, .bool false]) ∧ Below w.heap.size w w' := by
  obtain ⟨F, RR, hm, hn, hc, hp⟩ := hP
  have HP := Lib.hid hp
  clear hp
  have HF' := Lib.hid HF
  have HH' := Lib.hid HH
  have HC' := Lib.hid HC
  have HB' := Lib.hid HB
  have IH' := Lib.hid IH
  clear HF HH HC HB IH
  go_enter Try.func44, Try.ntmps44
  go_upto_region 1 with fail
  go_cut [23] (fun s23 wx => s23 = .bool false ∧ Below w.heap.size w wx ∧ wx.cell? ⟨w.heap.size, 0, none⟩ = some (.int .u8 o) ∧ wx.cell? ⟨w.heap.size + 1, 0, none⟩ = some (.int .u8 m))
  case first =>
    obtain ⟨W, hW⟩ : ∃ W, W = (w.alloc (.cells #[.int .u8 o] 5)).alloc (.cells #[.int .u8 m] 5) := ⟨_, rfl⟩
    rw [← hW]
    have c4 : W.cell? ⟨w.heap.size, 0, none⟩ = some (.int .u8 o) := by rw [hW]; exact cellOf1 (first_block _ _ _)
    have c5 : W.cell? ⟨w.heap.size + 1, 0, none⟩ = some (.int .u8 m) := by rw [hW]; exact cellOf1 (last_block _ _ _)
    have bW : Below w.heap.size w W := by rw [hW]; exact below_two _ _ _
    have hsz : w.heap.size + 1 < W.heap.size := lt_cell c5
    clear hW
    go_region_with (first | (go_at_call 49; refine (HF'.out _).mono ?_; rintro e v1 ⟨rfl, d1⟩; have q4 := (d1.cell (p := ⟨w.heap.size, 0, none⟩) (by simp; omega)).trans c4; have q5 := (d1.cell (p := ⟨w.heap.size + 1, 0, none⟩) (by simp; omega)).trans c5; have k1 := below_go bW.drew d1) | (go_at_call 74; refine (HH'.out _).mono ?_; rintro e v2 ⟨rfl, rfl⟩))
    all_goals (go_wp2_with fail; go_meet; exact ⟨rfl, k1, q4, q5⟩)
  case rest =>
    obtain ⟨rfl, bl, c4, c5⟩ := hcut
    go_wp2_with fail
    refine (HC'.out _).mono ?_
    rintro e w2 ⟨rfl, b2⟩
    replace c4 := (b2.cell (p := ⟨w.heap.size, 0, none⟩) (lt_cell c4)).trans c4
    replace c5 := (b2.cell (p := ⟨w.heap.size + 1, 0, none⟩) (lt_cell c5)).trans c5
    replace bl := below_go bl b2
    go_wp2_with fail
    refine (HP.out _).mono ?_
    rintro e w3 ⟨b, rfl, hb, hh, b3⟩
    have hkb : w.heap.size + 1 < b := Nat.lt_of_lt_of_le (lt_cell c5) hb
    replace c4 := (b3.cell (p := ⟨w.heap.size, 0, none⟩) (lt_cell c4)).trans c4
    replace c5 := (b3.cell (p := ⟨w.heap.size + 1, 0, none⟩) (lt_cell c5)).trans c5
    replace bl := below_go bl b3
    clear hb
    have Hh := Lib.hid hh
    clear hh
    go_wp2_with fail
    refine (HB'.out _).mono ?_
    rintro e w4 ⟨rfl, b4⟩
    replace c4 := (b4.cell (p := ⟨w.heap.size, 0, none⟩) (lt_cell c4)).trans c4
    replace c5 := (b4.cell (p := ⟨w.heap.size + 1, 0, none⟩) (lt_cell c5)).trans c5
    replace bl := below_go bl b4
    have hh := (b4.block b (lt_of_block Hh.out)).trans Hh.out
    have d0 := cellOf1 hh
    have f0 := free_of_one hh
    have g4 := Lib.hid hh
    clear hh Hh
    go_wp2_with fail
    refine wp_loop_rounds 2 ?_
    rw [rounds_succ]
    go_wp2_with fail
    refine (IH'.out _).mono ?_
    rintro e w5 ⟨rfl, b5⟩
    replace c4 := (b5.cell (p := ⟨w.heap.size, 0, none⟩) (lt_cell c4)).trans c4
    replace c5 := (b5.cell (p := ⟨w.heap.size + 1, 0, none⟩) (lt_cell c5)).trans c5
    replace bl := below_go bl b5
    have h5 := (b5.block b (lt_of_block g4.out)).trans g4.out
    clear d0 f0
    have d0 := cellOf1 h5
    have f0 := free_of_one h5
    replace c4 := (((Below.refl b w5).setCell (p := ⟨b, 0, none⟩) (Nat.le_refl b) (.nilIface)).cell (p := ⟨w.heap.size, 0, none⟩) (by show w.heap.size < b; omega)).trans c4
    replace c5 := (((Below.refl b w5).setCell (p := ⟨b, 0, none⟩) (Nat.le_refl b) (.nilIface)).cell (p := ⟨w.heap.size + 1, 0, none⟩) (by show w.heap.size + 1 < b; omega)).trans c5
    replace bl := bl.setCell (p := ⟨b, 0, none⟩) (by show w.heap.size ≤ b; omega) (.nilIface)
    clear h5
    go_wp2_with fail
    go_ret2
    exact ⟨rfl, bl⟩
set_option maxHeartbeats 4000000 in
theorem rf_oneB (T : TypeId) (V : Value) (o m U : Int) (hq : (o == m) = false) (T2 T3 T4 tp : TypeId) (V2 V3 V4 vp : Value) (tr : TypeId) (vr : Value) (x : Int) (hx : (x != o) = true) (w : World) (hP : ∃ (F : FuncId) (R : Value), (∀ n w, (method (n + 1) T2 V2 "loop.example/g01175/impl.parts").run Try.prog w = .ok (F, R) w) ∧ (∀ n w, (nilAhead (n + 1) T2 V2 "loop.example/g01175/impl.parts").run Try.prog w = .ok (some false) w) ∧ (∀ args w, (callFunc F args).run Try.prog w = .ok (.enter F args) w) ∧ ∀ w, Calls Try.prog F #[R] w fun e w' => ∃ b, e = .returned (.slice (some ⟨b, 0, none⟩) 1 1) ∧ w.heap.size ≤ b ∧ w'.heap[b]? = some (.cells #[.iface tp vp] 34 (0, 0)) ∧ Below w.heap.size w w')
    (HF : ∀ w, Calls Try.prog 49 #[.iface T V] w fun e w' => e = .returned (.int .u32 U) ∧ Below w.heap.size w w') (HH : ∀ w, Calls Try.prog 74 #[.int .u32 U, .int .u8 o] w fun e w' => e = .returned (.bool true) ∧ w = w') (HC : ∀ w, Calls Try.prog 79 #[.iface T V, .int .u8 o, .int .u8 m] w fun e w' => e = .returned (.tuple #[.iface T2 V2, .bool true]) ∧ Below w.heap.size w w') (HB : ∀ w, Calls Try.prog 73 #[.iface T2 V2] w fun e w' => e = .returned (.tuple #[.int .u8 x, .bool true]) ∧ Below w.heap.size w w') (IH : ∀ w, Calls Try.prog 44 #[.iface tp vp, .int .u8 o, .int .u8 m] w fun e w' => e = .returned (.tuple #[.iface tr vr, .bool true]) ∧ Below w.heap.size w w') (HW : ∀ (b : Nat) (w : World), w.cell? ⟨b, 0, none⟩ = some (.iface tr vr) → Calls Try.prog 81 #[.iface T2 V2, .slice (some ⟨b, 0, none⟩) 1 1] w fun e w' => e = .returned (.iface T3 V3) ∧ Below w.heap.size w w') (HU : ∀ v, v.cell? ⟨w.heap.size, 0, none⟩ = some (.int .u8 o) → v.cell? ⟨w.heap.size + 1, 0, none⟩ = some (.int .u8 m) → Calls Try.prog 80 #[.iface T3 V3, .func (.func 82) #[] #[.pointer (some ⟨w.heap.size, 0, none⟩), .pointer (some ⟨w.heap.size + 1, 0, none⟩)]] v fun e v' => e = .returned (.iface T4 V4) ∧ Below v.heap.size v v') :
    Calls Try.prog 44 #[.iface T V, .int .u8 o, .int .u8 m] w fun e w' => e = .returned (.tuple #[.iface T4 V4, .bool true]) ∧ Below w.heap.size w w' := by
  obtain ⟨F, RR, hm, hn, hc, hp⟩ := hP
  have HP := Lib.hid hp
  clear hp
  have HF' := Lib.hid HF
  have HH' := Lib.hid HH
  have HC' := Lib.hid HC
  have HB' := Lib.hid HB
  have IH' := Lib.hid IH
  have HW' := Lib.hid HW
  have HU' := Lib.hid HU
  clear HF HH HC HB IH HW HU
  go_enter Try.func44, Try.ntmps44
  go_upto_region 1 with fail
  go_cut [23] (fun s23 wx => s23 = .bool false ∧ Below w.heap.size w wx ∧ wx.cell? ⟨w.heap.size, 0, none⟩ = some (.int .u8 o) ∧ wx.cell? ⟨w.heap.size + 1, 0, none⟩ = some (.int .u8 m))
  case first =>
    obtain ⟨W, hW⟩ : ∃ W, W = (w.alloc (.cells #[.int .u8 o] 5)).alloc (.cells #[.int .u8 m] 5) := ⟨_, rfl⟩
    rw [← hW]
    have c4 : W.cell? ⟨w.heap.size, 0, none⟩ = some (.int .u8 o) := by rw [hW]; exact cellOf1 (first_block _ _ _)
    have c5 : W.cell? ⟨w.heap.size + 1, 0, none⟩ = some (.int .u8 m) := by rw [hW]; exact cellOf1 (last_block _ _ _)
    have bW : Below w.heap.size w W := by rw [hW]; exact below_two _ _ _
    have hsz : w.heap.size + 1 < W.heap.size := lt_cell c5
    clear hW
    go_region_with (first | (go_at_call 49; refine (HF'.out _).mono ?_; rintro e v1 ⟨rfl, d1⟩; have q4 := (d1.cell (p := ⟨w.heap.size, 0, none⟩) (by simp; omega)).trans c4; have q5 := (d1.cell (p := ⟨w.heap.size + 1, 0, none⟩) (by simp; omega)).trans c5; have k1 := below_go bW.drew d1) | (go_at_call 74; refine (HH'.out _).mono ?_; rintro e v2 ⟨rfl, rfl⟩))
    all_goals (go_wp2_with fail; go_meet; exact ⟨rfl, k1, q4, q5⟩)
  case rest =>
    obtain ⟨rfl, bl, c4, c5⟩ := hcut
    go_wp2_with fail
    refine (HC'.out _).mono ?_
    rintro e w2 ⟨rfl, b2⟩
    replace c4 := (b2.cell (p := ⟨w.heap.size, 0, none⟩) (lt_cell c4)).trans c4
    replace c5 := (b2.cell (p := ⟨w.heap.size + 1, 0, none⟩) (lt_cell c5)).trans c5
    replace bl := below_go bl b2
    go_wp2_with fail
    refine (HP.out _).mono ?_
    rintro e w3 ⟨b, rfl, hb, hh, b3⟩
    have hkb : w.heap.size + 1 < b := Nat.lt_of_lt_of_le (lt_cell c5) hb
    replace c4 := (b3.cell (p := ⟨w.heap.size, 0, none⟩) (lt_cell c4)).trans c4
    replace c5 := (b3.cell (p := ⟨w.heap.size + 1, 0, none⟩) (lt_cell c5)).trans c5
    replace bl := below_go bl b3
    clear hb
    have Hh := Lib.hid hh
    clear hh
    go_wp2_with fail
    refine (HB'.out _).mono ?_
    rintro e w4 ⟨rfl, b4⟩
    replace c4 := (b4.cell (p := ⟨w.heap.size, 0, none⟩) (lt_cell c4)).trans c4
    replace c5 := (b4.cell (p := ⟨w.heap.size + 1, 0, none⟩) (lt_cell c5)).trans c5
    replace bl := below_go bl b4
    have hh := (b4.block b (lt_of_block Hh.out)).trans Hh.out
    have d0 := cellOf1 hh
    have f0 := free_of_one hh
    have g4 := Lib.hid hh
    clear hh Hh
    go_wp2_with fail
    refine wp_loop_rounds 2 ?_
    rw [rounds_succ]
    go_wp2_with fail
    refine (IH'.out _).mono ?_
    rintro e w5 ⟨rfl, b5⟩
    replace c4 := (b5.cell (p := ⟨w.heap.size, 0, none⟩) (lt_cell c4)).trans c4
    replace c5 := (b5.cell (p := ⟨w.heap.size + 1, 0, none⟩) (lt_cell c5)).trans c5
    replace bl := below_go bl b5
    have h5 := (b5.block b (lt_of_block g4.out)).trans g4.out
    clear d0 f0
    have d0 := cellOf1 h5
    have f0 := free_of_one h5
    replace c4 := (((Below.refl b w5).setCell (p := ⟨b, 0, none⟩) (Nat.le_refl b) (.iface tr vr)).cell (p := ⟨w.heap.size, 0, none⟩) (by show w.heap.size < b; omega)).trans c4
    replace c5 := (((Below.refl b w5).setCell (p := ⟨b, 0, none⟩) (Nat.le_refl b) (.iface tr vr)).cell (p := ⟨w.heap.size + 1, 0, none⟩) (by show w.heap.size + 1 < b; omega)).trans c5
    replace bl := bl.setCell (p := ⟨b, 0, none⟩) (by show w.heap.size ≤ b; omega) (.iface tr vr)
    have e5 := one_setCell (u := .iface tr vr) h5
    have e0 := Lib.hid (cellOf1 e5)
    clear h5 e5
    go_wp2_with fail
    rw [rounds_succ]
    go_wp2_with fail
    refine (HW'.out b _ e0.out).mono ?_
    rintro e w8 ⟨rfl, b8⟩
    replace c4 := (b8.cell (p := ⟨w.heap.size, 0, none⟩) (lt_cell c4)).trans c4
    replace c5 := (b8.cell (p := ⟨w.heap.size + 1, 0, none⟩) (lt_cell c5)).trans c5
    replace bl := below_go bl b8
    go_wp2_with fail
    refine (HU'.out _ c4 c5).mono ?_
    rintro e w9 ⟨rfl, b9⟩
    replace bl := below_go bl b9
    go_wp2_with fail
    go_ret2
    exact ⟨rfl, bl⟩
set_option maxHeartbeats 4000000 in
theorem rf_oneBF (T : TypeId) (V : Value) (o m U : Int) (hq : (o == m) = false) (T2 tp : TypeId) (V2 vp : Value) (x : Int) (hx : (x != o) = true) (w : World) (hP : ∃ (F : FuncId) (R : Value), (∀ n w, (method (n + 1) T2 V2 "loop.example/g01175/impl.parts").run Try.prog w = .ok (F, R) w) ∧ (∀ n w, (nilAhead (n + 1) T2 V2 "loop.example/g01175/impl.parts").run Try.prog w = .ok (some false) w) ∧ (∀ args w, (callFunc F args).run Try.prog w = .ok (.enter F args) w) ∧ ∀ w, Calls Try.prog F #[R] w fun e w' => ∃ b, e = .returned (.slice (some ⟨b, 0, none⟩) 1 1) ∧ w.heap.size ≤ b ∧ w'.heap[b]? = some (.cells #[.iface tp vp] 34 (0, 0)) ∧ Below w.heap.size w w')
    (HF : ∀ w, Calls Try.prog 49 #[.iface T V] w fun e w' => e = .returned (.int .u32 U) ∧ Below w.heap.size w w') (HH : ∀ w, Calls Try.prog 74 #[.int .u32 U, .int .u8 o] w fun e w' => e = .returned (.bool true) ∧ w = w') (HC : ∀ w, Calls Try.prog 79 #[.iface T V, .int .u8 o, .int .u8 m] w fun e w' => e = .returned (.tuple #[.iface T2 V2, .bool true]) ∧ Below w.heap.size w w') (HB : ∀ w, Calls Try.prog 73 #[.iface T2 V2] w fun e w' => e = .returned (.tuple #[.int .u8 x, .bool true]) ∧ Below w.heap.size w w') (IH : ∀ w, Calls Try.prog 44 #[.iface tp vp, .int .u8 o, .int .u8 m] w fun e w' => e = .returned (.tuple #[.nilIface, .bool false]) ∧ Below w.heap.size w w') :
    Calls Try.prog 44 #[.iface T V, .int .u8 o, .int .u8 m] w fun e w' => e = .returned (.tuple #[.nilIface, .bool false]) ∧ Below w.heap.size w w' := by
  obtain ⟨F, RR, hm, hn, hc, hp⟩ := hP
  have HP := Lib.hid hp
  clear hp
  have HF' := Lib.hid HF
  have HH' := Lib.hid HH
  have HC' := Lib.hid HC
  have HB' := Lib.hid HB
  have IH' := Lib.hid IH
  clear HF HH HC HB IH
  go_enter Try.func44, Try.ntmps44
  go_upto_region 1 with fail
  go_cut [23] (fun s23 wx => s23 = .bool false ∧ Below w.heap.size w wx ∧ wx.cell? ⟨w.heap.size, 0, none⟩ = some (.int .u8 o) ∧ wx.cell? ⟨w.heap.size + 1, 0, none⟩ = some (.int .u8 m))
  case first =>
    obtain ⟨W, hW⟩ : ∃ W, W = (w.alloc (.cells #[.int .u8 o] 5)).alloc (.cells #[.int .u8 m] 5) := ⟨_, rfl⟩
    rw [← hW]
    have c4 : W.cell? ⟨w.heap.size, 0, none⟩ = some (.int .u8 o) := by rw [hW]; exact cellOf1 (first_block _ _ _)
    have c5 : W.cell? ⟨w.heap.size + 1, 0, none⟩ = some (.int .u8 m) := by rw [hW]; exact cellOf1 (last_block _ _ _)
    have bW : Below w.heap.size w W := by rw [hW]; exact below_two _ _ _
    have hsz : w.heap.size + 1 < W.heap.size := lt_cell c5
    clear hW
    go_region_with (first | (go_at_call 49; refine (HF'.out _).mono ?_; rintro e v1 ⟨rfl, d1⟩; have q4 := (d1.cell (p := ⟨w.heap.size, 0, none⟩) (by simp; omega)).trans c4; have q5 := (d1.cell (p := ⟨w.heap.size + 1, 0, none⟩) (by simp; omega)).trans c5; have k1 := below_go bW.drew d1) | (go_at_call 74; refine (HH'.out _).mono ?_; rintro e v2 ⟨rfl, rfl⟩))
    all_goals (go_wp2_with fail; go_meet; exact ⟨rfl, k1, q4, q5⟩)
  case rest =>
    obtain ⟨rfl, bl, c4, c5⟩ := hcut
    go_wp2_with fail
    refine (HC'.out _).mono ?_
    rintro e w2 ⟨rfl, b2⟩
    replace c4 := (b2.cell (p := ⟨w.heap.size, 0, none⟩) (lt_cell c4)).trans c4
    replace c5 := (b2.cell (p := ⟨w.heap.size + 1, 0, none⟩) (lt_cell c5)).trans c5
    replace bl := below_go bl b2
    go_wp2_with fail
    refine (HP.out _).mono ?_
    rintro e w3 ⟨b, rfl, hb, hh, b3⟩
    have hkb : w.heap.size + 1 < b := Nat.lt_of_lt_of_le (lt_cell c5) hb
    replace c4 := (b3.cell (p := ⟨w.heap.size, 0, none⟩) (lt_cell c4)).trans c4
    replace c5 := (b3.cell (p := ⟨w.heap.size + 1, 0, none⟩) (lt_cell c5)).trans c5
    replace bl := below_go bl b3
    clear hb
    have Hh := Lib.hid hh
    clear hh
    go_wp2_with fail
    refine (HB'.out _).mono ?_
    rintro e w4 ⟨rfl, b4⟩
    replace c4 := (b4.cell (p := ⟨w.heap.size, 0, none⟩) (lt_cell c4)).trans c4
    replace c5 := (b4.cell (p := ⟨w.heap.size + 1, 0, none⟩) (lt_cell c5)).trans c5
    replace bl := below_go bl b4
    have hh := (b4.block b (lt_of_block Hh.out)).trans Hh.out
    have d0 := cellOf1 hh
    have f0 := free_of_one hh
    have g4 := Lib.hid hh
    clear hh Hh
    go_wp2_with fail
    refine wp_loop_rounds 2 ?_
    rw [rounds_succ]
    go_wp2_with fail
    refine (IH'.out _).mono ?_
    rintro e w5 ⟨rfl, b5⟩
    replace c4 := (b5.cell (p := ⟨w.heap.size, 0, none⟩) (lt_cell c4)).trans c4
    replace c5 := (b5.cell (p := ⟨w.heap.size + 1, 0, none⟩) (lt_cell c5)).trans c5
    replace bl := below_go bl b5
    have h5 := (b5.block b (lt_of_block g4.out)).trans g4.out
    clear d0 f0
    have d0 := cellOf1 h5
    have f0 := free_of_one h5
    replace c4 := (((Below.refl b w5).setCell (p := ⟨b, 0, none⟩) (Nat.le_refl b) (.nilIface)).cell (p := ⟨w.heap.size, 0, none⟩) (by show w.heap.size < b; omega)).trans c4
    replace c5 := (((Below.refl b w5).setCell (p := ⟨b, 0, none⟩) (Nat.le_refl b) (.nilIface)).cell (p := ⟨w.heap.size + 1, 0, none⟩) (by show w.heap.size + 1 < b; omega)).trans c5
    replace bl := bl.setCell (p := ⟨b, 0, none⟩) (by show w.heap.size ≤ b; omega) (.nilIface)
    clear h5
    go_wp2_with fail
    go_ret2
    exact ⟨rfl, bl⟩
set_option maxHeartbeats 4000000 in
theorem rf_two (T : TypeId) (V : Value) (o m U : Int) (hq : (o == m) = false) (T2 T3 T4 tp : TypeId) (V2 V3 V4 vp : Value) (tq : TypeId) (vq : Value) (tr ts : TypeId) (vr vs : Value) (w : World) (hP : ∃ (F : FuncId) (R : Value), (∀ n w, (method (n + 1) T2 V2 "loop.example/g01175/impl.parts").run Try.prog w = .ok (F, R) w) ∧ (∀ n w, (nilAhead (n + 1) T2 V2 "loop.example/g01175/impl.parts").run Try.prog w = .ok (some false) w) ∧ (∀ args w, (callFunc F args).run Try.prog w = .ok (.enter F args) w) ∧ ∀ w, Calls Try.prog F #[R] w fun e w' => ∃ b, e = .returned (.slice (some ⟨b, 0, none⟩) 2 2) ∧ w.heap.size ≤ b ∧ w'.heap[b]? = some (.cells #[.iface tp vp, .iface tq vq] 34 (0, 0)) ∧ Below w.heap.size w w')
    (HF : ∀ w, Calls Try.prog 49 #[.iface T V] w fun e w' => e = .returned (.int .u32 U) ∧ Below w.heap.size w w') (HH : ∀ w, Calls Try.prog 74 #[.int .u32 U, .int .u8 o] w fun e w' => e = .returned (.bool true) ∧ w = w') (HC : ∀ w, Calls Try.prog 79 #[.iface T V, .int .u8 o, .int .u8 m] w fun e w' => e = .returned (.tuple #[.iface T2 V2, .bool true]) ∧ Below w.heap.size w w') (HB : ∀ w, Calls Try.prog 73 #[.iface T2 V2] w fun e w' => e = .returned (.tuple #[.int .u8 0, .bool false]) ∧ Below w.heap.size w w') (IH : ∀ w, Calls Try.prog 44 #[.iface tp vp, .int .u8 o, .int .u8 m] w fun e w' => e = .returned (.tuple #[.iface tr vr, .bool true]) ∧ Below w.heap.size w w') (IH2 : ∀ w, Calls Try.prog 44 #[.iface tq vq, .int .u8 o, .int .u8 m] w fun e w' => e = .returned (.tuple #[.iface ts vs, .bool true]) ∧ Below w.heap.size w w') (HW : ∀ (b : Nat) (w : World), w.cell? ⟨b, 0, none⟩ = some (.iface tr vr) → w.cell? ⟨b, 1, none⟩ = some (.iface ts vs) → Calls Try.prog 81 #[.iface T2 V2, .slice (some ⟨b, 0, none⟩) 2 2] w fun e w' => e = .returned (.iface T3 V3) ∧ Below w.heap.size w w') (HU : ∀ v, v.cell? ⟨w.heap.size, 0, none⟩ = some (.int .u8 o) → v.cell? ⟨w.heap.size + 1, 0, none⟩ = some (.int .u8 m) → Calls Try.prog 80 #[.iface T3 V3, .func (.func 82) #[] #[.pointer (some ⟨w.heap.size, 0, none⟩), .pointer (some ⟨w.heap.size + 1, 0, none⟩)]] v fun e v' => e = .returned (.iface T4 V4) ∧ Below v.heap.size v v') :
    Calls Try.prog 44 #[.iface T V, .int .u8 o, .int .u8 m] w fun e w' => e = .returned (.tuple #[.iface T4 V4, .bool true]) ∧ Below w.heap.size w w' := by
  obtain ⟨F, RR, hm, hn, hc, hp⟩ := hP
  have HP := Lib.hid hp
  clear hp
  have HF' := Lib.hid HF
  have HH' := Lib.hid HH
  have HC' := Lib.hid HC
  have HB' := Lib.hid HB
  have IH' := Lib.hid IH
  have IH2' := Lib.hid IH2
  have HW' := Lib.hid HW
  have HU' := Lib.hid HU
  clear HF HH HC HB IH IH2 HW HU
  go_enter Try.func44, Try.ntmps44
  go_upto_region 1 with fail
  go_cut [23] (fun s23 wx => s23 = .bool false ∧ Below w.heap.size w wx ∧ wx.cell? ⟨w.heap.size, 0, none⟩ = some (.int .u8 o) ∧ wx.cell? ⟨w.heap.size + 1, 0, none⟩ = some (.int .u8 m))
  case first =>
    obtain ⟨W, hW⟩ : ∃ W, W = (w.alloc (.cells #[.int .u8 o] 5)).alloc (.cells #[.int .u8 m] 5) := ⟨_, rfl⟩
    rw [← hW]
    have c4 : W.cell? ⟨w.heap.size, 0, none⟩ = some (.int .u8 o) := by rw [hW]; exact cellOf1 (first_block _ _ _)
    have c5 : W.cell? ⟨w.heap.size + 1, 0, none⟩ = some (.int .u8 m) := by rw [hW]; exact cellOf1 (last_block _ _ _)
    have bW : Below w.heap.size w W := by rw [hW]; exact below_two _ _ _
    have hsz : w.heap.size + 1 < W.heap.size := lt_cell c5
    clear hW
    go_region_with (first | (go_at_call 49; refine (HF'.out _).mono ?_; rintro e v1 ⟨rfl, d1⟩; have q4 := (d1.cell (p := ⟨w.heap.size, 0, none⟩) (by simp; omega)).trans c4; have q5 := (d1.cell (p := ⟨w.heap.size + 1, 0, none⟩) (by simp; omega)).trans c5; have k1 := below_go bW.drew d1) | (go_at_call 74; refine (HH'.out _).mono ?_; rintro e v2 ⟨rfl, rfl⟩))
    all_goals (go_wp2_with fail; go_meet; exact ⟨rfl, k1, q4, q5⟩)
  case rest =>
    obtain ⟨rfl, bl, c4, c5⟩ := hcut
    go_wp2_with fail
    refine (HC'.out _).mono ?_
    rintro e w2 ⟨rfl, b2⟩
    replace c4 := (b2.cell (p := ⟨w.heap.size, 0, none⟩) (lt_cell c4)).trans c4
    replace c5 := (b2.cell (p := ⟨w.heap.size + 1, 0, none⟩) (lt_cell c5)).trans c5
    replace bl := below_go bl b2
    go_wp2_with fail
    refine (HP.out _).mono ?_
    rintro e w3 ⟨b, rfl, hb, hh, b3⟩
    have hkb : w.heap.size + 1 < b := Nat.lt_of_lt_of_le (lt_cell c5) hb
    replace c4 := (b3.cell (p := ⟨w.heap.size, 0, none⟩) (lt_cell c4)).trans c4
    replace c5 := (b3.cell (p := ⟨w.heap.size + 1, 0, none⟩) (lt_cell c5)).trans c5
    replace bl := below_go bl b3
    clear hb
    have Hh := Lib.hid hh
    clear hh
    go_wp2_with fail
    refine (HB'.out _).mono ?_
    rintro e w4 ⟨rfl, b4⟩
    replace c4 := (b4.cell (p := ⟨w.heap.size, 0, none⟩) (lt_cell c4)).trans c4
    replace c5 := (b4.cell (p := ⟨w.heap.size + 1, 0, none⟩) (lt_cell c5)).trans c5
    replace bl := below_go bl b4
    have hh := (b4.block b (lt_of_block Hh.out)).trans Hh.out
    have d0 := cellOf2a hh
    have f0 := two_free hh 0
    have g4 := Lib.hid hh
    clear hh Hh
    go_wp2_with fail
    refine wp_loop_rounds 3 ?_
    rw [rounds_succ]
    go_wp2_with fail
    refine (IH'.out _).mono ?_
    rintro e w5 ⟨rfl, b5⟩
    replace c4 := (b5.cell (p := ⟨w.heap.size, 0, none⟩) (lt_cell c4)).trans c4
    replace c5 := (b5.cell (p := ⟨w.heap.size + 1, 0, none⟩) (lt_cell c5)).trans c5
    replace bl := below_go bl b5
    have h5 := (b5.block b (lt_of_block g4.out)).trans g4.out
    clear d0 f0
    have d0 := cellOf2a h5
    have f0 := two_free h5 0
    replace c4 := (((Below.refl b w5).setCell (p := ⟨b, 0, none⟩) (Nat.le_refl b) (.iface tr vr)).cell (p := ⟨w.heap.size, 0, none⟩) (by show w.heap.size < b; omega)).trans c4
    replace c5 := (((Below.refl b w5).setCell (p := ⟨b, 0, none⟩) (Nat.le_refl b) (.iface tr vr)).cell (p := ⟨w.heap.size + 1, 0, none⟩) (by show w.heap.size + 1 < b; omega)).trans c5
    replace bl := bl.setCell (p := ⟨b, 0, none⟩) (by show w.heap.size ≤ b; omega) (.iface tr vr)
    have e5 := two_set0 h5 (.iface tr vr)
    have E5 := Lib.hid e5
    have x1 := cellOf2b e5
    clear h5 e5
    go_wp2_with fail
    rw [rounds_succ]
    go_wp2_with fail
    refine (IH2'.out _).mono ?_
    rintro e w6 ⟨rfl, b6⟩
    replace c4 := (b6.cell (p := ⟨w.heap.size, 0, none⟩) (lt_cell c4)).trans c4
    replace c5 := (b6.cell (p := ⟨w.heap.size + 1, 0, none⟩) (lt_cell c5)).trans c5
    replace bl := below_go bl b6
    have h6 := (b6.block b (lt_of_block E5.out)).trans E5.out
    clear x1 d0 f0
    have d1 := cellOf2b h6
    have f1 := two_free h6 1
    replace c4 := (((Below.refl b w6).setCell (p := ⟨b, 1, none⟩) (Nat.le_refl b) (.iface ts vs)).cell (p := ⟨w.heap.size, 0, none⟩) (by show w.heap.size < b; omega)).trans c4
    replace c5 := (((Below.refl b w6).setCell (p := ⟨b, 1, none⟩) (Nat.le_refl b) (.iface ts vs)).cell (p := ⟨w.heap.size + 1, 0, none⟩) (by show w.heap.size + 1 < b; omega)).trans c5
    replace bl := bl.setCell (p := ⟨b, 1, none⟩) (by show w.heap.size ≤ b; omega) (.iface ts vs)
    have e6 := two_set1 h6 (.iface ts vs)
    have e0 := Lib.hid (cellOf2a e6)
    have e1 := Lib.hid (cellOf2b e6)
    clear h6 e6
    go_wp2_with fail
    rw [rounds_succ]
    go_wp2_with fail
    refine (HW'.out b _ e0.out e1.out).mono ?_
    rintro e w8 ⟨rfl, b8⟩
    replace c4 := (b8.cell (p := ⟨w.heap.size, 0, none⟩) (lt_cell c4)).trans c4
    replace c5 := (b8.cell (p := ⟨w.heap.size + 1, 0, none⟩) (lt_cell c5)).trans c5
    replace bl := below_go bl b8
    go_wp2_with fail
    refine (HU'.out _ c4 c5).mono ?_
    rintro e w9 ⟨rfl, b9⟩
    replace bl := below_go bl b9
    go_wp2_with fail
    go_ret2
    exact ⟨rfl, bl⟩
set_option maxHeartbeats 4000000 in
theorem rf_twoF (T : TypeId) (V : Value) (o m U : Int) (hq : (o == m) = false) (T2 tp tq : TypeId) (V2 vp vq : Value) (w : World) (hP : ∃ (F : FuncId) (R : Value), (∀ n w, (method (n + 1) T2 V2 "loop.example/g01175/impl.parts").run Try.prog w = .ok (F, R) w) ∧ (∀ n w, (nilAhead (n + 1) T2 V2 "loop.example/g01175/impl.parts").run Try.prog w = .ok (some false) w) ∧ (∀ args w, (callFunc F args).run Try.prog w = .ok (.enter F args) w) ∧ ∀ w, Calls Try.prog F #[R] w fun e w' => ∃ b, e = .returned (.slice (some ⟨b, 0, none⟩) 2 2) ∧ w.heap.size ≤ b ∧ w'.heap[b]? = some (.cells #[.iface tp vp, .iface tq vq] 34 (0, 0)) ∧ Below w.heap.size w w')
    (HF : ∀ w, Calls Try.prog 49 #[.iface T V] w fun e w' => e = .returned (.int .u32 U) ∧ Below w.heap.size w w') (HH : ∀ w, Calls Try.prog 74 #[.int .u32 U, .int .u8 o] w fun e w' => e = .returned (.bool true) ∧ w = w') (HC : ∀ w, Calls Try.prog 79 #[.iface T V, .int .u8 o, .int .u8 m] w fun e w' => e = .returned (.tuple #[.iface T2 V2, .bool true]) ∧ Below w.heap.size w w') (HB : ∀ w, Calls Try.prog 73 #[.iface T2 V2] w fun e w' => e = .returned (.tuple #[.int .u8 0, .bool false]) ∧ Below w.heap.size w w') (IH : ∀ w, Calls Try.prog 44 #[.iface tp vp, .int .u8 o, .int .u8 m] w fun e w' => e = .returned (.tuple #[.nilIface, .bool false]) ∧ Below w.heap.size w w') :
    Calls Try.prog 44 #[.iface T V, .int .u8 o, .int .u8 m] w fun e w' => e = .returned (.tuple #[.nilIface, .bool false]) ∧ Below w.heap.size w w' := by
  obtain ⟨F, RR, hm, hn, hc, hp⟩ := hP
  have HP := Lib.hid hp
  clear hp
  have HF' := Lib.hid HF
  have HH' := Lib.hid HH
  have HC' := Lib.hid HC
  have HB' := Lib.hid HB
  have IH' := Lib.hid IH
  clear HF HH HC HB IH
  go_enter Try.func44, Try.ntmps44
  go_upto_region 1 with fail
  go_cut [23] (fun s23 wx => s23 = .bool false ∧ Below w.heap.size w wx ∧ wx.cell? ⟨w.heap.size, 0, none⟩ = some (.int .u8 o) ∧ wx.cell? ⟨w.heap.size + 1, 0, none⟩ = some (.int .u8 m))
  case first =>
    obtain ⟨W, hW⟩ : ∃ W, W = (w.alloc (.cells #[.int .u8 o] 5)).alloc (.cells #[.int .u8 m] 5) := ⟨_, rfl⟩
    rw [← hW]
    have c4 : W.cell? ⟨w.heap.size, 0, none⟩ = some (.int .u8 o) := by rw [hW]; exact cellOf1 (first_block _ _ _)
    have c5 : W.cell? ⟨w.heap.size + 1, 0, none⟩ = some (.int .u8 m) := by rw [hW]; exact cellOf1 (last_block _ _ _)
    have bW : Below w.heap.size w W := by rw [hW]; exact below_two _ _ _
    have hsz : w.heap.size + 1 < W.heap.size := lt_cell c5
    clear hW
    go_region_with (first | (go_at_call 49; refine (HF'.out _).mono ?_; rintro e v1 ⟨rfl, d1⟩; have q4 := (d1.cell (p := ⟨w.heap.size, 0, none⟩) (by simp; omega)).trans c4; have q5 := (d1.cell (p := ⟨w.heap.size + 1, 0, none⟩) (by simp; omega)).trans c5; have k1 := below_go bW.drew d1) | (go_at_call 74; refine (HH'.out _).mono ?_; rintro e v2 ⟨rfl, rfl⟩))
    all_goals (go_wp2_with fail; go_meet; exact ⟨rfl, k1, q4, q5⟩)
  case rest =>
    obtain ⟨rfl, bl, c4, c5⟩ := hcut
    go_wp2_with fail
    refine (HC'.out _).mono ?_
    rintro e w2 ⟨rfl, b2⟩
    replace c4 := (b2.cell (p := ⟨w.heap.size, 0, none⟩) (lt_cell c4)).trans c4
    replace c5 := (b2.cell (p := ⟨w.heap.size + 1, 0, none⟩) (lt_cell c5)).trans c5
    replace bl := below_go bl b2
    go_wp2_with fail
    refine (HP.out _).mono ?_
    rintro e w3 ⟨b, rfl, hb, hh, b3⟩
    have hkb : w.heap.size + 1 < b := Nat.lt_of_lt_of_le (lt_cell c5) hb
    replace c4 := (b3.cell (p := ⟨w.heap.size, 0, none⟩) (lt_cell c4)).trans c4
    replace c5 := (b3.cell (p := ⟨w.heap.size + 1, 0, none⟩) (lt_cell c5)).trans c5
    replace bl := below_go bl b3
    clear hb
    have Hh := Lib.hid hh
    clear hh
    go_wp2_with fail
    refine (HB'.out _).mono ?_
    rintro e w4 ⟨rfl, b4⟩
    replace c4 := (b4.cell (p := ⟨w.heap.size, 0, none⟩) (lt_cell c4)).trans c4
    replace c5 := (b4.cell (p := ⟨w.heap.size + 1, 0, none⟩) (lt_cell c5)).trans c5
    replace bl := below_go bl b4
    have hh := (b4.block b (lt_of_block Hh.out)).trans Hh.out
    have d0 := cellOf2a hh
    have f0 := two_free hh 0
    have g4 := Lib.hid hh
    clear hh Hh
    go_wp2_with fail
    refine wp_loop_rounds 3 ?_
    rw [rounds_succ]
    go_wp2_with fail
    refine (IH'.out _).mono ?_
    rintro e w5 ⟨rfl, b5⟩
    replace c4 := (b5.cell (p := ⟨w.heap.size, 0, none⟩) (lt_cell c4)).trans c4
    replace c5 := (b5.cell (p := ⟨w.heap.size + 1, 0, none⟩) (lt_cell c5)).trans c5
    replace bl := below_go bl b5
    have h5 := (b5.block b (lt_of_block g4.out)).trans g4.out
    clear d0 f0
    have d0 := cellOf2a h5
    have f0 := two_free h5 0
    replace c4 := (((Below.refl b w5).setCell (p := ⟨b, 0, none⟩) (Nat.le_refl b) (.nilIface)).cell (p := ⟨w.heap.size, 0, none⟩) (by show w.heap.size < b; omega)).trans c4
    replace c5 := (((Below.refl b w5).setCell (p := ⟨b, 0, none⟩) (Nat.le_refl b) (.nilIface)).cell (p := ⟨w.heap.size + 1, 0, none⟩) (by show w.heap.size + 1 < b; omega)).trans c5
    replace bl := bl.setCell (p := ⟨b, 0, none⟩) (by show w.heap.size ≤ b; omega) (.nilIface)
    clear h5
    go_wp2_with fail
    go_ret2
    exact ⟨rfl, bl⟩
set_option maxHeartbeats 4000000 in
theorem rf_twoG (T : TypeId) (V : Value) (o m U : Int) (hq : (o == m) = false) (T2 tp tq tr : TypeId) (V2 vp vq vr : Value) (w : World) (hP : ∃ (F : FuncId) (R : Value), (∀ n w, (method (n + 1) T2 V2 "loop.example/g01175/impl.parts").run Try.prog w = .ok (F, R) w) ∧ (∀ n w, (nilAhead (n + 1) T2 V2 "loop.example/g01175/impl.parts").run Try.prog w = .ok (some false) w) ∧ (∀ args w, (callFunc F args).run Try.prog w = .ok (.enter F args) w) ∧ ∀ w, Calls Try.prog F #[R] w fun e w' => ∃ b, e = .returned (.slice (some ⟨b, 0, none⟩) 2 2) ∧ w.heap.size ≤ b ∧ w'.heap[b]? = some (.cells #[.iface tp vp, .iface tq vq] 34 (0, 0)) ∧ Below w.heap.size w w')
    (HF : ∀ w, Calls Try.prog 49 #[.iface T V] w fun e w' => e = .returned (.int .u32 U) ∧ Below w.heap.size w w') (HH : ∀ w, Calls Try.prog 74 #[.int .u32 U, .int .u8 o] w fun e w' => e = .returned (.bool true) ∧ w = w') (HC : ∀ w, Calls Try.prog 79 #[.iface T V, .int .u8 o, .int .u8 m] w fun e w' => e = .returned (.tuple #[.iface T2 V2, .bool true]) ∧ Below w.heap.size w w') (HB : ∀ w, Calls Try.prog 73 #[.iface T2 V2] w fun e w' => e = .returned (.tuple #[.int .u8 0, .bool false]) ∧ Below w.heap.size w w') (IH : ∀ w, Calls Try.prog 44 #[.iface tp vp, .int .u8 o, .int .u8 m] w fun e w' => e = .returned (.tuple #[.iface tr vr, .bool true]) ∧ Below w.heap.size w w') (IH2 : ∀ w, Calls Try.prog 44 #[.iface tq vq, .int .u8 o, .int .u8 m] w fun e w' => e = .returned (.tuple #[.nilIface, .bool false]) ∧ Below w.heap.size w w') :
    Calls Try.prog 44 #[.iface T V, .int .u8 o, .int .u8 m] w fun e w' => e = .returned (.tuple #[.nilIface, .bool false]) ∧ Below w.heap.size w w' := by
  obtain ⟨F, RR, hm, hn, hc, hp⟩ := hP
  have HP := Lib.hid hp
  clear hp
  have HF' := Lib.hid HF
  have HH' := Lib.hid HH
  have HC' := Lib.hid HC
  have HB' := Lib.hid HB
  have IH' := Lib.hid IH
  have IH2' := Lib.hid IH2
  clear HF HH HC HB IH IH2
  go_enter Try.func44, Try.ntmps44
  go_upto_region 1 with fail
  go_cut [23] (fun s23 wx => s23 = .bool false ∧ Below w.heap.size w wx ∧ wx.cell? ⟨w.heap.size, 0, none⟩ = some (.int .u8 o) ∧ wx.cell? ⟨w.heap.size + 1, 0, none⟩ = some (.int .u8 m))
  case first =>
    obtain ⟨W, hW⟩ : ∃ W, W = (w.alloc (.cells #[.int .u8 o] 5)).alloc (.cells #[.int .u8 m] 5) := ⟨_, rfl⟩
    rw [← hW]
    have c4 : W.cell? ⟨w.heap.size, 0, none⟩ = some (.int .u8 o) := by rw [hW]; exact cellOf1 (first_block _ _ _)
    have c5 : W.cell? ⟨w.heap.size + 1, 0, none⟩ = some (.int .u8 m) := by rw [hW]; exact cellOf1 (last_block _ _ _)
    have bW : Below w.heap.size w W := by rw [hW]; exact below_two _ _ _
    have hsz : w.heap.size + 1 < W.heap.size := lt_cell c5
    clear hW
    go_region_with (first | (go_at_call 49; refine (HF'.out _).mono ?_; rintro e v1 ⟨rfl, d1⟩; have q4 := (d1.cell (p := ⟨w.heap.size, 0, none⟩) (by simp; omega)).trans c4; have q5 := (d1.cell (p := ⟨w.heap.size + 1, 0, none⟩) (by simp; omega)).trans c5; have k1 := below_go bW.drew d1) | (go_at_call 74; refine (HH'.out _).mono ?_; rintro e v2 ⟨rfl, rfl⟩))
    all_goals (go_wp2_with fail; go_meet; exact ⟨rfl, k1, q4, q5⟩)
  case rest =>
    obtain ⟨rfl, bl, c4, c5⟩ := hcut
    go_wp2_with fail
    refine (HC'.out _).mono ?_
    rintro e w2 ⟨rfl, b2⟩
    replace c4 := (b2.cell (p := ⟨w.heap.size, 0, none⟩) (lt_cell c4)).trans c4
    replace c5 := (b2.cell (p := ⟨w.heap.size + 1, 0, none⟩) (lt_cell c5)).trans c5
    replace bl := below_go bl b2
    go_wp2_with fail
    refine (HP.out _).mono ?_
    rintro e w3 ⟨b, rfl, hb, hh, b3⟩
    have hkb : w.heap.size + 1 < b := Nat.lt_of_lt_of_le (lt_cell c5) hb
    replace c4 := (b3.cell (p := ⟨w.heap.size, 0, none⟩) (lt_cell c4)).trans c4
    replace c5 := (b3.cell (p := ⟨w.heap.size + 1, 0, none⟩) (lt_cell c5)).trans c5
    replace bl := below_go bl b3
    clear hb
    have Hh := Lib.hid hh
    clear hh
    go_wp2_with fail
    refine (HB'.out _).mono ?_
    rintro e w4 ⟨rfl, b4⟩
    replace c4 := (b4.cell (p := ⟨w.heap.size, 0, none⟩) (lt_cell c4)).trans c4
    replace c5 := (b4.cell (p := ⟨w.heap.size + 1, 0, none⟩) (lt_cell c5)).trans c5
    replace bl := below_go bl b4
    have hh := (b4.block b (lt_of_block Hh.out)).trans Hh.out
    have d0 := cellOf2a hh
    have f0 := two_free hh 0
    have g4 := Lib.hid hh
    clear hh Hh
    go_wp2_with fail
    refine wp_loop_rounds 3 ?_
    rw [rounds_succ]
    go_wp2_with fail
    refine (IH'.out _).mono ?_
    rintro e w5 ⟨rfl, b5⟩
    replace c4 := (b5.cell (p := ⟨w.heap.size, 0, none⟩) (lt_cell c4)).trans c4
    replace c5 := (b5.cell (p := ⟨w.heap.size + 1, 0, none⟩) (lt_cell c5)).trans c5
    replace bl := below_go bl b5
    have h5 := (b5.block b (lt_of_block g4.out)).trans g4.out
    clear d0 f0
    have d0 := cellOf2a h5
    have f0 := two_free h5 0
    replace c4 := (((Below.refl b w5).setCell (p := ⟨b, 0, none⟩) (Nat.le_refl b) (.iface tr vr)).cell (p := ⟨w.heap.size, 0, none⟩) (by show w.heap.size < b; omega)).trans c4
    replace c5 := (((Below.refl b w5).setCell (p := ⟨b, 0, none⟩) (Nat.le_refl b) (.iface tr vr)).cell (p := ⟨w.heap.size + 1, 0, none⟩) (by show w.heap.size + 1 < b; omega)).trans c5
    replace bl := bl.setCell (p := ⟨b, 0, none⟩) (by show w.heap.size ≤ b; omega) (.iface tr vr)
    have e5 := two_set0 h5 (.iface tr vr)
    have E5 := Lib.hid e5
    have x1 := cellOf2b e5
    clear h5 e5
    go_wp2_with fail
    rw [rounds_succ]
    go_wp2_with fail
    refine (IH2'.out _).mono ?_
    rintro e w6 ⟨rfl, b6⟩
    replace c4 := (b6.cell (p := ⟨w.heap.size, 0, none⟩) (lt_cell c4)).trans c4
    replace c5 := (b6.cell (p := ⟨w.heap.size + 1, 0, none⟩) (lt_cell c5)).trans c5
    replace bl := below_go bl b6
    have h6 := (b6.block b (lt_of_block E5.out)).trans E5.out
    clear x1 d0 f0
    have d1 := cellOf2b h6
    have f1 := two_free h6 1
    replace c4 := (((Below.refl b w6).setCell (p := ⟨b, 1, none⟩) (Nat.le_refl b) (.nilIface)).cell (p := ⟨w.heap.size, 0, none⟩) (by show w.heap.size < b; omega)).trans c4
    replace c5 := (((Below.refl b w6).setCell (p := ⟨b, 1, none⟩) (Nat.le_refl b) (.nilIface)).cell (p := ⟨w.heap.size + 1, 0, none⟩) (by show w.heap.size + 1 < b; omega)).trans c5
    replace bl := bl.setCell (p := ⟨b, 1, none⟩) (by show w.heap.size ≤ b; omega) (.nilIface)
    clear h6
    go_wp2_with fail
    go_ret2
    exact ⟨rfl, bl⟩

end Go.Proofs.Ytpahhlcfbmmocab.T1
