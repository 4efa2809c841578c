/- Texts of the proof, put together: If. No conditions. -/
import Derived.Test.YtmfmagfgcdaeeaaGreatHae
import Derived.Test.YtmfmagfgcdaeeaaGreatHal
import Derived.Test.YtmfmagfgcdaeeaaGreatHam

/- Free names and names that are bound, in the program. -/
namespace Go.Proofs.YtmfmagfgcdaeeaaGreat.T1
open Go.RowKit
set_option maxRecDepth 100000
set_option linter.unusedVariables false

theorem andnot32 (a b : Nat) (ha : a < 2 ^ 32) (hb : b < 2 ^ 32) : bits .andNot .u32 (a : Int) (b : Int) = ((a &&& (4294967295 - b) : Nat) : Int) := u32_andNot_nat a b ha hb
set_option maxHeartbeats 400000 in
theorem without_any (n c : Nat) (hn : n < 2 ^ 32) (h1 : 97 ≤ c) (h2 : c ≤ 122) (w : World) :
    Calls Tryz.prog 113 #[.int .u32 (n : Int), .int .u8 (c : Int)] w fun e w' => e = .returned (.int .u32 ((n &&& (4294967295 - 2 ^ (c - 97)) : Nat) : Int)) ∧ w = w' := by
  have HW := with_any 0 c (by decide) h1 h2
  rw [Nat.zero_or] at HW
  have HW2 : Hid (∀ w, Calls Tryz.prog 132 #[.int .u32 0, .int .u8 (c : Int)] w fun e w' => e = .returned (.int .u32 ((2 ^ (c - 97) : Nat) : Int)) ∧ w = w') := HW
  have HB : Hid (bits .andNot .u32 (n : Int) ((2 ^ (c - 97) : Nat) : Int) = ((n &&& (4294967295 - 2 ^ (c - 97)) : Nat) : Int)) := andnot32 n _ hn (pow_lt32 c h2)
  obtain ⟨m, hm⟩ : ∃ m, m = 2 ^ (c - 97) := ⟨_, rfl⟩
  obtain ⟨r, hr⟩ : ∃ r, r = n &&& (4294967295 - m) := ⟨_, rfl⟩
  rw [← hm] at HW2 HB ⊢
  rw [← hr] at HB ⊢
  clear hn HW hm hr
  go_enter Tryz.func113, Tryz.ntmps113
  go_wp2_with fail
  refine (HW2.out _).mono ?_
  rintro e w' ⟨rfl, rfl⟩
  go_wp2_with fail
  go_ret
  exact ⟨ret_int HB.out, rfl⟩

set_option maxHeartbeats 1000000 in
theorem bo_nothing  (w : World) : Calls Tryz.prog 112 #[.iface 132 (.agg #[])] w fun e w' => e = .returned (.tuple #[.int .u8 0, .bool false]) ∧ Below w.heap.size w w' := by
  go_enter Tryz.func112, Tryz.ntmps112
  go_wp2_with fail
  go_ret2
  first | exact ⟨rfl, below_drewN' ((Below.refl _ _).alloc (Nat.le_refl _) _) _⟩ | exact ⟨rfl, Below.refl _ _⟩ | exact ⟨rfl, (Below.refl _ _).alloc (Nat.le_refl _) _⟩ | exact ⟨rfl, ((Below.refl _ _).alloc (Nat.le_refl _) _).drew⟩
set_option maxHeartbeats 1000000 in
theorem bo_send (n0 n1 : Int) (tz : TypeId) (vz : Value) (w : World) : Calls Tryz.prog 112 #[.iface 144 (.agg #[.int .u8 n0, .int .u8 n1, .iface tz vz])] w fun e w' => e = .returned (.tuple #[.int .u8 0, .bool false]) ∧ Below w.heap.size w w' := by
  go_enter Tryz.func112, Tryz.ntmps112
  go_wp2_with fail
  go_ret2
  first | exact ⟨rfl, below_drewN' ((Below.refl _ _).alloc (Nat.le_refl _) _) _⟩ | exact ⟨rfl, Below.refl _ _⟩ | exact ⟨rfl, (Below.refl _ _).alloc (Nat.le_refl _) _⟩ | exact ⟨rfl, ((Below.refl _ _).alloc (Nat.le_refl _) _).drew⟩
set_option maxHeartbeats 1000000 in
theorem bo_receive (n0 n1 : Int) (tz : TypeId) (vz : Value) (w : World) : Calls Tryz.prog 112 #[.iface 142 (.agg #[.int .u8 n0, .int .u8 n1, .iface tz vz])] w fun e w' => e = .returned (.tuple #[.int .u8 n1, .bool true]) ∧ Below w.heap.size w w' := by
  go_enter Tryz.func112, Tryz.ntmps112
  go_wp2_with fail
  go_ret2
  first | exact ⟨rfl, below_drewN' ((Below.refl _ _).alloc (Nat.le_refl _) _) _⟩ | exact ⟨rfl, Below.refl _ _⟩ | exact ⟨rfl, (Below.refl _ _).alloc (Nat.le_refl _) _⟩ | exact ⟨rfl, ((Below.refl _ _).alloc (Nat.le_refl _) _).drew⟩
set_option maxHeartbeats 1000000 in
theorem bo_silent (tz : TypeId) (vz : Value) (w : World) : Calls Tryz.prog 112 #[.iface 147 (.agg #[.iface tz vz])] w fun e w' => e = .returned (.tuple #[.int .u8 0, .bool false]) ∧ Below w.heap.size w w' := by
  go_enter Tryz.func112, Tryz.ntmps112
  go_wp2_with fail
  go_ret2
  first | exact ⟨rfl, below_drewN' ((Below.refl _ _).alloc (Nat.le_refl _) _) _⟩ | exact ⟨rfl, Below.refl _ _⟩ | exact ⟨rfl, (Below.refl _ _).alloc (Nat.le_refl _) _⟩ | exact ⟨rfl, ((Below.refl _ _).alloc (Nat.le_refl _) _).drew⟩
set_option maxHeartbeats 1000000 in
theorem bo_choice (tz ty : TypeId) (vz vy : Value) (w : World) : Calls Tryz.prog 112 #[.iface 93 (.agg #[.iface tz vz, .iface ty vy])] w fun e w' => e = .returned (.tuple #[.int .u8 0, .bool false]) ∧ Below w.heap.size w w' := by
  go_enter Tryz.func112, Tryz.ntmps112
  go_wp2_with fail
  go_ret2
  first | exact ⟨rfl, below_drewN' ((Below.refl _ _).alloc (Nat.le_refl _) _) _⟩ | exact ⟨rfl, Below.refl _ _⟩ | exact ⟨rfl, (Below.refl _ _).alloc (Nat.le_refl _) _⟩ | exact ⟨rfl, ((Below.refl _ _).alloc (Nat.le_refl _) _).drew⟩
set_option maxHeartbeats 1000000 in
theorem bo_beside (tz ty : TypeId) (vz vy : Value) (w : World) : Calls Tryz.prog 112 #[.iface 92 (.agg #[.iface tz vz, .iface ty vy])] w fun e w' => e = .returned (.tuple #[.int .u8 0, .bool false]) ∧ Below w.heap.size w w' := by
  go_enter Tryz.func112, Tryz.ntmps112
  go_wp2_with fail
  go_ret2
  first | exact ⟨rfl, below_drewN' ((Below.refl _ _).alloc (Nat.le_refl _) _) _⟩ | exact ⟨rfl, Below.refl _ _⟩ | exact ⟨rfl, (Below.refl _ _).alloc (Nat.le_refl _) _⟩ | exact ⟨rfl, ((Below.refl _ _).alloc (Nat.le_refl _) _).drew⟩
set_option maxHeartbeats 1000000 in
theorem bo_own (n0 : Int) (tz : TypeId) (vz : Value) (w : World) : Calls Tryz.prog 112 #[.iface 100 (.agg #[.int .u8 n0, .iface tz vz])] w fun e w' => e = .returned (.tuple #[.int .u8 n0, .bool true]) ∧ Below w.heap.size w w' := by
  go_enter Tryz.func112, Tryz.ntmps112
  go_wp2_with fail
  go_ret2
  first | exact ⟨rfl, below_drewN' ((Below.refl _ _).alloc (Nat.le_refl _) _) _⟩ | exact ⟨rfl, Below.refl _ _⟩ | exact ⟨rfl, (Below.refl _ _).alloc (Nat.le_refl _) _⟩ | exact ⟨rfl, ((Below.refl _ _).alloc (Nat.le_refl _) _).drew⟩
set_option maxHeartbeats 1000000 in
theorem bo_match (n0 n1 : Int) (tz : TypeId) (vz : Value) (w : World) : Calls Tryz.prog 112 #[.iface 146 (.agg #[.int .u8 n0, .int .u8 n1, .iface tz vz])] w fun e w' => e = .returned (.tuple #[.int .u8 0, .bool false]) ∧ Below w.heap.size w w' := by
  go_enter Tryz.func112, Tryz.ntmps112
  go_wp2_with fail
  go_ret2
  first | exact ⟨rfl, below_drewN' ((Below.refl _ _).alloc (Nat.le_refl _) _) _⟩ | exact ⟨rfl, Below.refl _ _⟩ | exact ⟨rfl, (Below.refl _ _).alloc (Nat.le_refl _) _⟩ | exact ⟨rfl, ((Below.refl _ _).alloc (Nat.le_refl _) _).drew⟩
set_option maxHeartbeats 1000000 in
theorem bo_repeat (tz : TypeId) (vz : Value) (w : World) : Calls Tryz.prog 112 #[.iface 103 (.agg #[.iface tz vz])] w fun e w' => e = .returned (.tuple #[.int .u8 0, .bool false]) ∧ Below w.heap.size w w' := by
  go_enter Tryz.func112, Tryz.ntmps112
  go_wp2_with fail
  go_ret2
  first | exact ⟨rfl, below_drewN' ((Below.refl _ _).alloc (Nat.le_refl _) _) _⟩ | exact ⟨rfl, Below.refl _ _⟩ | exact ⟨rfl, (Below.refl _ _).alloc (Nat.le_refl _) _⟩ | exact ⟨rfl, ((Below.refl _ _).alloc (Nat.le_refl _) _).drew⟩
theorem binderOf_any (t : Tm) : ∀ w, Calls Tryz.prog 112 #[.iface (tyOf t) (pay t)] w fun e w' => e = .returned (bindV t.binds) ∧ Below w.heap.size w w' := by
  cases t with
  | nil  => exact bo_nothing 
  | snd a b p => exact bo_send _ _ _ _ 
  | rcv a x p => exact bo_receive _ _ _ _ 
  | tau p => exact bo_silent _ _ 
  | sum p q => exact bo_choice _ _ _ _ 
  | par p q => exact bo_beside _ _ _ _ 
  | own x p => exact bo_own _ _ _ 
  | mat a b p => exact bo_match _ _ _ _ 
  | rep p => exact bo_repeat _ _ 

/-- The set of the names in the sign itself that it does not bind. -/
def usedN : Tm → Nat
  | .snd a b _ => (0 ||| 2 ^ (a.toNat - 97)) ||| 2 ^ (b.toNat - 97)
  | .rcv a _ _ => 0 ||| 2 ^ (a.toNat - 97)
  | .mat a b _ => (0 ||| 2 ^ (a.toNat - 97)) ||| 2 ^ (b.toNat - 97)
  | _ => 0
theorem two_lt (a b : UInt8) (ha : nmL a = true) (hb : nmL b = true) : 0 ||| 2 ^ (a.toNat - 97) < 2 ^ 32 ∧ (0 ||| 2 ^ (a.toNat - 97)) ||| 2 ^ (b.toNat - 97) < 2 ^ 32 := by
  rw [nmL_iff] at ha hb
  have h1 := pow_lt32 a.toNat ha.2
  have h2 := pow_lt32 b.toNat hb.2
  exact ⟨Nat.or_lt_two_pow (by decide) h1, Nat.or_lt_two_pow (Nat.or_lt_two_pow (by decide) h1) h2⟩
set_option maxHeartbeats 1000000 in
theorem us_nothing  (w : World) : Calls Tryz.prog 114 #[.iface 132 (.agg #[])] w fun e w' => e = .returned (.int .u32 0) ∧ Below w.heap.size w w' := by
  go_enter Tryz.func114, Tryz.ntmps114
  go_wp2_with fail
  go_ret
  first | exact ⟨rfl, below_drewN' ((Below.refl _ _).alloc (Nat.le_refl _) _) _⟩ | exact ⟨rfl, Below.refl _ _⟩ | exact ⟨rfl, (Below.refl _ _).alloc (Nat.le_refl _) _⟩ | exact ⟨rfl, ((Below.refl _ _).alloc (Nat.le_refl _) _).drew⟩
set_option maxHeartbeats 1000000 in
theorem us_send (n0 n1 : Int) (tz : TypeId) (vz : Value) (u1 u2 : Int) (H1 : ∀ w, Calls Tryz.prog 132 #[.int .u32 0, .int .u8 n0] w fun e w' => e = .returned (.int .u32 u1) ∧ w = w') (H2 : ∀ w, Calls Tryz.prog 132 #[.int .u32 u1, .int .u8 n1] w fun e w' => e = .returned (.int .u32 u2) ∧ w = w') (w : World) : Calls Tryz.prog 114 #[.iface 144 (.agg #[.int .u8 n0, .int .u8 n1, .iface tz vz])] w fun e w' => e = .returned (.int .u32 u2) ∧ Below w.heap.size w w' := by
  have H1' := Lib.hid H1
  have H2' := Lib.hid H2
  clear H1 H2
  go_enter Tryz.func114, Tryz.ntmps114
  go_wp2_with fail
  go_quiet (first | (go_at_call_of 132 n0; exact Calls.quiet_of_same ((H1'.out _).mono fun _ _ hh => ⟨hh.1, hh.2.symm⟩)) | (go_at_call_of 132 n1; exact Calls.quiet_of_same ((H2'.out _).mono fun _ _ hh => ⟨hh.1, hh.2.symm⟩)))
  go_wp2_with fail
  go_ret
  first | exact ⟨rfl, below_drewN' ((Below.refl _ _).alloc (Nat.le_refl _) _) _⟩ | exact ⟨rfl, Below.refl _ _⟩ | exact ⟨rfl, (Below.refl _ _).alloc (Nat.le_refl _) _⟩ | exact ⟨rfl, ((Below.refl _ _).alloc (Nat.le_refl _) _).drew⟩
set_option maxHeartbeats 1000000 in
theorem us_receive (n0 n1 : Int) (tz : TypeId) (vz : Value) (u1 : Int) (H1 : ∀ w, Calls Tryz.prog 132 #[.int .u32 0, .int .u8 n0] w fun e w' => e = .returned (.int .u32 u1) ∧ w = w') (w : World) : Calls Tryz.prog 114 #[.iface 142 (.agg #[.int .u8 n0, .int .u8 n1, .iface tz vz])] w fun e w' => e = .returned (.int .u32 u1) ∧ Below w.heap.size w w' := by
  have H1' := Lib.hid H1
  clear H1
  go_enter Tryz.func114, Tryz.ntmps114
  go_wp2_with fail
  refine (H1'.out _).mono ?_
  rintro e w1 ⟨rfl, rfl⟩
  go_wp2_with fail
  go_ret
  first | exact ⟨rfl, below_drewN' ((Below.refl _ _).alloc (Nat.le_refl _) _) _⟩ | exact ⟨rfl, Below.refl _ _⟩ | exact ⟨rfl, (Below.refl _ _).alloc (Nat.le_refl _) _⟩ | exact ⟨rfl, ((Below.refl _ _).alloc (Nat.le_refl _) _).drew⟩
set_option maxHeartbeats 1000000 in
theorem us_silent (tz : TypeId) (vz : Value) (w : World) : Calls Tryz.prog 114 #[.iface 147 (.agg #[.iface tz vz])] w fun e w' => e = .returned (.int .u32 0) ∧ Below w.heap.size w w' := by
  go_enter Tryz.func114, Tryz.ntmps114
  go_wp2_with fail
  go_ret
  first | exact ⟨rfl, below_drewN' ((Below.refl _ _).alloc (Nat.le_refl _) _) _⟩ | exact ⟨rfl, Below.refl _ _⟩ | exact ⟨rfl, (Below.refl _ _).alloc (Nat.le_refl _) _⟩ | exact ⟨rfl, ((Below.refl _ _).alloc (Nat.le_refl _) _).drew⟩
set_option maxHeartbeats 1000000 in
theorem us_choice (tz ty : TypeId) (vz vy : Value) (w : World) : Calls Tryz.prog 114 #[.iface 93 (.agg #[.iface tz vz, .iface ty vy])] w fun e w' => e = .returned (.int .u32 0) ∧ Below w.heap.size w w' := by
  go_enter Tryz.func114, Tryz.ntmps114
  go_wp2_with fail
  go_ret
  first | exact ⟨rfl, below_drewN' ((Below.refl _ _).alloc (Nat.le_refl _) _) _⟩ | exact ⟨rfl, Below.refl _ _⟩ | exact ⟨rfl, (Below.refl _ _).alloc (Nat.le_refl _) _⟩ | exact ⟨rfl, ((Below.refl _ _).alloc (Nat.le_refl _) _).drew⟩
set_option maxHeartbeats 1000000 in
theorem us_beside (tz ty : TypeId) (vz vy : Value) (w : World) : Calls Tryz.prog 114 #[.iface 92 (.agg #[.iface tz vz, .iface ty vy])] w fun e w' => e = .returned (.int .u32 0) ∧ Below w.heap.size w w' := by
  go_enter Tryz.func114, Tryz.ntmps114
  go_wp2_with fail
  go_ret
  first | exact ⟨rfl, below_drewN' ((Below.refl _ _).alloc (Nat.le_refl _) _) _⟩ | exact ⟨rfl, Below.refl _ _⟩ | exact ⟨rfl, (Below.refl _ _).alloc (Nat.le_refl _) _⟩ | exact ⟨rfl, ((Below.refl _ _).alloc (Nat.le_refl _) _).drew⟩
set_option maxHeartbeats 1000000 in
theorem us_own (n0 : Int) (tz : TypeId) (vz : Value) (w : World) : Calls Tryz.prog 114 #[.iface 100 (.agg #[.int .u8 n0, .iface tz vz])] w fun e w' => e = .returned (.int .u32 0) ∧ Below w.heap.size w w' := by
  go_enter Tryz.func114, Tryz.ntmps114
  go_wp2_with fail
  go_ret
  first | exact ⟨rfl, below_drewN' ((Below.refl _ _).alloc (Nat.le_refl _) _) _⟩ | exact ⟨rfl, Below.refl _ _⟩ | exact ⟨rfl, (Below.refl _ _).alloc (Nat.le_refl _) _⟩ | exact ⟨rfl, ((Below.refl _ _).alloc (Nat.le_refl _) _).drew⟩
set_option maxHeartbeats 1000000 in
theorem us_match (n0 n1 : Int) (tz : TypeId) (vz : Value) (u1 u2 : Int) (H1 : ∀ w, Calls Tryz.prog 132 #[.int .u32 0, .int .u8 n0] w fun e w' => e = .returned (.int .u32 u1) ∧ w = w') (H2 : ∀ w, Calls Tryz.prog 132 #[.int .u32 u1, .int .u8 n1] w fun e w' => e = .returned (.int .u32 u2) ∧ w = w') (w : World) : Calls Tryz.prog 114 #[.iface 146 (.agg #[.int .u8 n0, .int .u8 n1, .iface tz vz])] w fun e w' => e = .returned (.int .u32 u2) ∧ Below w.heap.size w w' := by
  have H1' := Lib.hid H1
  have H2' := Lib.hid H2
  clear H1 H2
  go_enter Tryz.func114, Tryz.ntmps114
  go_wp2_with fail
  go_quiet (first | (go_at_call_of 132 n0; exact Calls.quiet_of_same ((H1'.out _).mono fun _ _ hh => ⟨hh.1, hh.2.symm⟩)) | (go_at_call_of 132 n1; exact Calls.quiet_of_same ((H2'.out _).mono fun _ _ hh => ⟨hh.1, hh.2.symm⟩)))
  go_wp2_with fail
  go_ret
  first | exact ⟨rfl, below_drewN' ((Below.refl _ _).alloc (Nat.le_refl _) _) _⟩ | exact ⟨rfl, Below.refl _ _⟩ | exact ⟨rfl, (Below.refl _ _).alloc (Nat.le_refl _) _⟩ | exact ⟨rfl, ((Below.refl _ _).alloc (Nat.le_refl _) _).drew⟩
set_option maxHeartbeats 1000000 in
theorem us_repeat (tz : TypeId) (vz : Value) (w : World) : Calls Tryz.prog 114 #[.iface 103 (.agg #[.iface tz vz])] w fun e w' => e = .returned (.int .u32 0) ∧ Below w.heap.size w w' := by
  go_enter Tryz.func114, Tryz.ntmps114
  go_wp2_with fail
  go_ret
  first | exact ⟨rfl, below_drewN' ((Below.refl _ _).alloc (Nat.le_refl _) _) _⟩ | exact ⟨rfl, Below.refl _ _⟩ | exact ⟨rfl, (Below.refl _ _).alloc (Nat.le_refl _) _⟩ | exact ⟨rfl, ((Below.refl _ _).alloc (Nat.le_refl _) _).drew⟩
theorem usedBy_any (t : Tm) (ho : t.ok nmL = true) : ∀ w, Calls Tryz.prog 114 #[.iface (tyOf t) (pay t)] w fun e w' => e = .returned (.int .u32 (usedN t : Nat)) ∧ Below w.heap.size w w' := by
  cases t with
  | nil  => exact us_nothing 
  | snd a b p =>
    simp only [Tm.ok, Bool.and_eq_true] at ho
    have h1 := (nmL_iff a).1 ho.1.1
    have h2 := (nmL_iff b).1 ho.1.2
    exact us_send _ _ _ _ _ _ (with_any 0 a.toNat (by decide) h1.1 h1.2) (with_any _ b.toNat (two_lt a b ho.1.1 ho.1.2).1 h2.1 h2.2)
  | rcv a x p =>
    simp only [Tm.ok, Bool.and_eq_true] at ho
    have h1 := (nmL_iff a).1 ho.1.1
    exact us_receive _ _ _ _ _ (with_any 0 a.toNat (by decide) h1.1 h1.2)
  | tau p => exact us_silent _ _ 
  | sum p q => exact us_choice _ _ _ _ 
  | par p q => exact us_beside _ _ _ _ 
  | own x p => exact us_own _ _ _ 
  | mat a b p =>
    simp only [Tm.ok, Bool.and_eq_true] at ho
    have h1 := (nmL_iff a).1 ho.1.1
    have h2 := (nmL_iff b).1 ho.1.2
    exact us_match _ _ _ _ _ _ (with_any 0 a.toNat (by decide) h1.1 h1.2) (with_any _ b.toNat (two_lt a b ho.1.1 ho.1.2).1 h2.1 h2.2)
  | rep p => exact us_repeat _ _ 
set_option maxHeartbeats 2000000 in
theorem ff_0 (T : TypeId) (V : Value) (U : Int) (hP : PartsFact T V [])
    (HB : ∀ w, Calls Tryz.prog 112 #[.iface T V] w fun e w' => e = .returned (.tuple #[.int .u8 0, .bool false]) ∧ Below w.heap.size w w') (HU : ∀ w, Calls Tryz.prog 114 #[.iface T V] w fun e w' => e = .returned (.int .u32 U) ∧ Below w.heap.size w w') (w : World) :
    Calls Tryz.prog 60 #[.iface T V] w fun e w' => e = .returned (.int .u32 (bits .or .u32 0 U)) ∧ Below w.heap.size w w' := by
  obtain ⟨F, RR, hm, hn, hc, hp⟩ := hP
  have HP := Lib.hid hp
  have HB' := Lib.hid HB
  have HU' := Lib.hid HU
  clear hp HB HU
  go_enter Tryz.func60, Tryz.ntmps60
  go_wp2_with fail
  refine (HP.out _).mono ?_
  rintro e w1 ⟨rfl, bl⟩
  go_wp2_with fail
  refine wp_loop_rounds 1 ?_
  rw [rounds_succ]
  go_wp2_with fail
  refine (HB'.out _).mono ?_
  rintro e w4 ⟨rfl, b4⟩
  have bl4 := below_trans bl b4 bl.size
  go_wp2_with fail
  refine (HU'.out _).mono ?_
  rintro e w6 ⟨rfl, b6⟩
  have bl6 := below_trans bl4 b6 bl4.size
  go_wp2_with fail
  go_ret
  exact ⟨rfl, bl6⟩

set_option maxHeartbeats 2000000 in
theorem ff_1 (T : TypeId) (V : Value) (tp : TypeId) (vp : Value) (N : Int) (U : Int) (hP : ∃ (F : FuncId) (R : Value), (∀ n w, (method (n + 1) T V "loop.example/g01175/impl.parts").run Tryz.prog w = .ok (F, R) w) ∧ (∀ n w, (nilAhead (n + 1) T V "loop.example/g01175/impl.parts").run Tryz.prog w = .ok (some false) w) ∧ (∀ args w, (callFunc F args).run Tryz.prog w = .ok (.enter F args) w) ∧ ∀ w, Calls Tryz.prog F #[R] w fun e w' => ∃ b, e = .returned (.slice (some ⟨b, 0, none⟩) 1 1) ∧ w.heap.size ≤ b ∧ w'.heap[b]? = some (.cells #[.iface tp vp] 43 (0, 0)) ∧ Below w.heap.size w w')
    (IH : ∀ w, Calls Tryz.prog 60 #[.iface tp vp] w fun e w' => e = .returned (.int .u32 N) ∧ Below w.heap.size w w') (HB : ∀ w, Calls Tryz.prog 112 #[.iface T V] w fun e w' => e = .returned (.tuple #[.int .u8 0, .bool false]) ∧ Below w.heap.size w w') (HU : ∀ w, Calls Tryz.prog 114 #[.iface T V] w fun e w' => e = .returned (.int .u32 U) ∧ Below w.heap.size w w') (w : World) :
    Calls Tryz.prog 60 #[.iface T V] w fun e w' => e = .returned (.int .u32 (bits .or .u32 (bits .or .u32 0 N) U)) ∧ Below w.heap.size w w' := by
  obtain ⟨F, RR, hm, hn, hc, hp⟩ := hP
  have HP := Lib.hid hp
  have IH' := Lib.hid IH
  have HB' := Lib.hid HB
  have HU' := Lib.hid HU
  clear hp IH HB HU
  go_enter Tryz.func60, Tryz.ntmps60
  go_wp2_with fail
  refine (HP.out _).mono ?_
  rintro e w1 ⟨b, rfl, hb, hh, bl⟩
  have c0 := cellOf1 hh
  have Hh := Lib.hid hh
  clear hh
  go_wp2_with fail
  refine wp_loop_rounds 2 ?_
  rw [rounds_succ]
  go_wp2_with fail
  refine (IH'.out _).mono ?_
  rintro e w2 ⟨rfl, b2⟩
  have bl2 := below_trans bl b2 bl.size
  have h2 := (b2.block b (lt_of_block Hh.out)).trans Hh.out
  clear c0 bl
  clear h2
  go_wp2_with fail
  rw [rounds_succ]
  go_wp2_with fail
  refine (HB'.out _).mono ?_
  rintro e w4 ⟨rfl, b4⟩
  have bl4 := below_trans bl2 b4 bl2.size
  go_wp2_with fail
  refine (HU'.out _).mono ?_
  rintro e w6 ⟨rfl, b6⟩
  have bl6 := below_trans bl4 b6 bl4.size
  go_wp2_with fail
  go_ret
  exact ⟨rfl, bl6⟩

set_option maxHeartbeats 2000000 in
theorem ff_1b (T : TypeId) (V : Value) (tp : TypeId) (vp : Value) (N : Int) (U : Int) (x R : Int) (hP : ∃ (F : FuncId) (R : Value), (∀ n w, (method (n + 1) T V "loop.example/g01175/impl.parts").run Tryz.prog w = .ok (F, R) w) ∧ (∀ n w, (nilAhead (n + 1) T V "loop.example/g01175/impl.parts").run Tryz.prog w = .ok (some false) w) ∧ (∀ args w, (callFunc F args).run Tryz.prog w = .ok (.enter F args) w) ∧ ∀ w, Calls Tryz.prog F #[R] w fun e w' => ∃ b, e = .returned (.slice (some ⟨b, 0, none⟩) 1 1) ∧ w.heap.size ≤ b ∧ w'.heap[b]? = some (.cells #[.iface tp vp] 43 (0, 0)) ∧ Below w.heap.size w w')
    (IH : ∀ w, Calls Tryz.prog 60 #[.iface tp vp] w fun e w' => e = .returned (.int .u32 N) ∧ Below w.heap.size w w') (HB : ∀ w, Calls Tryz.prog 112 #[.iface T V] w fun e w' => e = .returned (.tuple #[.int .u8 x, .bool true]) ∧ Below w.heap.size w w') (HW : ∀ w, Calls Tryz.prog 113 #[.int .u32 (bits .or .u32 0 N), .int .u8 x] w fun e w' => e = .returned (.int .u32 R) ∧ w = w') (HU : ∀ w, Calls Tryz.prog 114 #[.iface T V] w fun e w' => e = .returned (.int .u32 U) ∧ Below w.heap.size w w') (w : World) :
    Calls Tryz.prog 60 #[.iface T V] w fun e w' => e = .returned (.int .u32 (bits .or .u32 R U)) ∧ Below w.heap.size w w' := by
  obtain ⟨F, RR, hm, hn, hc, hp⟩ := hP
  have HP := Lib.hid hp
  have IH' := Lib.hid IH
  have HB' := Lib.hid HB
  have HW' := Lib.hid HW
  have HU' := Lib.hid HU
  clear hp IH HB HW HU
  go_enter Tryz.func60, Tryz.ntmps60
  go_wp2_with fail
  refine (HP.out _).mono ?_
  rintro e w1 ⟨b, rfl, hb, hh, bl⟩
  have c0 := cellOf1 hh
  have Hh := Lib.hid hh
  clear hh
  go_wp2_with fail
  refine wp_loop_rounds 2 ?_
  rw [rounds_succ]
  go_wp2_with fail
  refine (IH'.out _).mono ?_
  rintro e w2 ⟨rfl, b2⟩
  have bl2 := below_trans bl b2 bl.size
  have h2 := (b2.block b (lt_of_block Hh.out)).trans Hh.out
  clear c0 bl
  clear h2
  go_wp2_with fail
  rw [rounds_succ]
  go_wp2_with fail
  refine (HB'.out _).mono ?_
  rintro e w4 ⟨rfl, b4⟩
  have bl4 := below_trans bl2 b4 bl2.size
  go_wp2_with fail
  refine (HW'.out _).mono ?_
  rintro e w5 ⟨rfl, rfl⟩
  go_wp2_with fail
  refine (HU'.out _).mono ?_
  rintro e w6 ⟨rfl, b6⟩
  have bl6 := below_trans bl4 b6 bl4.size
  go_wp2_with fail
  go_ret
  exact ⟨rfl, bl6⟩

set_option maxHeartbeats 2000000 in
theorem ff_2 (T : TypeId) (V : Value) (tp : TypeId) (vp : Value) (N : Int) (tq : TypeId) (vq : Value) (M : Int) (U : Int) (hP : ∃ (F : FuncId) (R : Value), (∀ n w, (method (n + 1) T V "loop.example/g01175/impl.parts").run Tryz.prog w = .ok (F, R) w) ∧ (∀ n w, (nilAhead (n + 1) T V "loop.example/g01175/impl.parts").run Tryz.prog w = .ok (some false) w) ∧ (∀ args w, (callFunc F args).run Tryz.prog w = .ok (.enter F args) w) ∧ ∀ w, Calls Tryz.prog F #[R] w fun e w' => ∃ b, e = .returned (.slice (some ⟨b, 0, none⟩) 2 2) ∧ w.heap.size ≤ b ∧ w'.heap[b]? = some (.cells #[.iface tp vp, .iface tq vq] 43 (0, 0)) ∧ Below w.heap.size w w')
    (IH : ∀ w, Calls Tryz.prog 60 #[.iface tp vp] w fun e w' => e = .returned (.int .u32 N) ∧ Below w.heap.size w w') (IH2 : ∀ w, Calls Tryz.prog 60 #[.iface tq vq] w fun e w' => e = .returned (.int .u32 M) ∧ Below w.heap.size w w') (HB : ∀ w, Calls Tryz.prog 112 #[.iface T V] w fun e w' => e = .returned (.tuple #[.int .u8 0, .bool false]) ∧ Below w.heap.size w w') (HU : ∀ w, Calls Tryz.prog 114 #[.iface T V] w fun e w' => e = .returned (.int .u32 U) ∧ Below w.heap.size w w') (w : World) :
    Calls Tryz.prog 60 #[.iface T V] w fun e w' => e = .returned (.int .u32 (bits .or .u32 (bits .or .u32 (bits .or .u32 0 N) M) U)) ∧ Below w.heap.size w w' := by
  obtain ⟨F, RR, hm, hn, hc, hp⟩ := hP
  have HP := Lib.hid hp
  have IH' := Lib.hid IH
  have IH2' := Lib.hid IH2
  have HB' := Lib.hid HB
  have HU' := Lib.hid HU
  clear hp IH IH2 HB HU
  go_enter Tryz.func60, Tryz.ntmps60
  go_wp2_with fail
  refine (HP.out _).mono ?_
  rintro e w1 ⟨b, rfl, hb, hh, bl⟩
  have c0 := cellOf2a hh
  have Hh := Lib.hid hh
  clear hh
  go_wp2_with fail
  refine wp_loop_rounds 3 ?_
  rw [rounds_succ]
  go_wp2_with fail
  refine (IH'.out _).mono ?_
  rintro e w2 ⟨rfl, b2⟩
  have bl2 := below_trans bl b2 bl.size
  have h2 := (b2.block b (lt_of_block Hh.out)).trans Hh.out
  clear c0 bl
  have c1 := cellOf2b h2
  clear h2
  go_wp2_with fail
  rw [rounds_succ]
  go_wp2_with fail
  refine (IH2'.out _).mono ?_
  rintro e w3 ⟨rfl, b3⟩
  have bl3 := below_trans bl2 b3 bl2.size
  clear c1
  go_wp2_with fail
  rw [rounds_succ]
  go_wp2_with fail
  refine (HB'.out _).mono ?_
  rintro e w4 ⟨rfl, b4⟩
  have bl4 := below_trans bl3 b4 bl3.size
  go_wp2_with fail
  refine (HU'.out _).mono ?_
  rintro e w6 ⟨rfl, b6⟩
  have bl6 := below_trans bl4 b6 bl4.size
  go_wp2_with fail
  go_ret
  exact ⟨rfl, bl6⟩

theorem lets_b (p : Tm) (ho : p.ok nmL = true) : Lets (bothL [] p.free) := lets_bothL lets_nil0 (lets_free p ho)
theorem set_b (p : Tm) (ho : p.ok nmL = true) : setN (bothL [] p.free) = setN p.free := by rw [both_nil (srt_free p)]
theorem or0 (n : Nat) (hn : n < 2 ^ 32) : bits .or .u32 0 (n : Int) = (n : Int) := by
  have := or32 0 n (by decide) hn
  rw [Nat.zero_or] at this
  exact this
theorem conv32 {T : TypeId} {V : Value} {n : Int} {m : Nat} (h : n = (m : Int)) (hc : ∀ w, Calls Tryz.prog 60 #[.iface T V] w fun e w' => e = .returned (.int .u32 n) ∧ Below w.heap.size w w') : ∀ w, Calls Tryz.prog 60 #[.iface T V] w fun e w' => e = .returned (.int .u32 (m : Int)) ∧ Below w.heap.size w w' := by rw [← h]; exact hc
theorem freeNames_any (t : Tm) : t.ok nmL = true → ∀ w, Calls Tryz.prog 60 #[.iface (tyOf t) (pay t)] w fun e w' => e = .returned (.int .u32 (setN t.free : Nat)) ∧ Below w.heap.size w w' := by
  have lt := fun (p : Tm) (ho : p.ok nmL = true) => setN_lt32 _ (lets_free p ho)
  induction t with
  | nil => exact fun _ => conv32 (by decide) (ff_0 _ _ 0 (parts_fact .nil) (binderOf_any .nil) (usedBy_any .nil rfl))
  | snd a b p ih =>
    intro ho
    have ho' := ho
    simp only [Tm.ok, Bool.and_eq_true] at ho'
    have h1 := (nmL_iff a).1 ho'.1.1
    have h2 := (nmL_iff b).1 ho'.1.2
    refine conv32 ?_ (ff_1 _ _ _ _ _ _ (parts_fact (.snd a b p)).pf (ih ho'.2) (binderOf_any (.snd a b p)) (usedBy_any (.snd a b p) ho))
    rw [or0 _ (lt p ho'.2), usedN, or32 _ _ (lt p ho'.2) (two_lt a b ho'.1.1 ho'.1.2).2, Tm.free, setN_addL (lets_addL (lets_b p ho'.2) h1) h2, setN_addL (lets_b p ho'.2) h1, set_b p ho'.2, Nat.zero_or, Nat.or_assoc]
  | mat a b p ih =>
    intro ho
    have ho' := ho
    simp only [Tm.ok, Bool.and_eq_true] at ho'
    have h1 := (nmL_iff a).1 ho'.1.1
    have h2 := (nmL_iff b).1 ho'.1.2
    refine conv32 ?_ (ff_1 _ _ _ _ _ _ (parts_fact (.mat a b p)).pf (ih ho'.2) (binderOf_any (.mat a b p)) (usedBy_any (.mat a b p) ho))
    rw [or0 _ (lt p ho'.2), usedN, or32 _ _ (lt p ho'.2) (two_lt a b ho'.1.1 ho'.1.2).2, Tm.free, setN_addL (lets_addL (lets_b p ho'.2) h1) h2, setN_addL (lets_b p ho'.2) h1, set_b p ho'.2, Nat.zero_or, Nat.or_assoc]
  | rcv a x p ih =>
    intro ho
    have ho' := ho
    simp only [Tm.ok, Bool.and_eq_true] at ho'
    have h1 := (nmL_iff a).1 ho'.1.1
    have h2 := (nmL_iff x).1 ho'.1.2
    have hl : setN p.free &&& (4294967295 - 2 ^ (x.toNat - 97)) < 2 ^ 32 := Nat.lt_of_le_of_lt Nat.and_le_left (lt p ho'.2)
    refine conv32 ?_ (ff_1b _ _ _ _ _ _ _ _ (parts_fact (.rcv a x p)).pf (ih ho'.2) (binderOf_any (.rcv a x p)) (by rw [or0 _ (lt p ho'.2)]; exact without_any _ x.toNat (lt p ho'.2) h2.1 h2.2) (usedBy_any (.rcv a x p) ho))
    rw [usedN, or32 _ _ hl (by rw [Nat.zero_or]; exact pow_lt32 _ h1.2), Tm.free, setN_addL (lets_lessL (lets_b p ho'.2) x) h1, setN_lessL (lets_b p ho'.2) h2, set_b p ho'.2, Nat.zero_or]
  | own x p ih =>
    intro ho
    have ho' := ho
    simp only [Tm.ok, Bool.and_eq_true] at ho'
    have h2 := (nmL_iff x).1 ho'.1
    have hl : setN p.free &&& (4294967295 - 2 ^ (x.toNat - 97)) < 2 ^ 32 := Nat.lt_of_le_of_lt Nat.and_le_left (lt p ho'.2)
    refine conv32 ?_ (ff_1b _ _ _ _ _ _ _ _ (parts_fact (.own x p)).pf (ih ho'.2) (binderOf_any (.own x p)) (by rw [or0 _ (lt p ho'.2)]; exact without_any _ x.toNat (lt p ho'.2) h2.1 h2.2) (usedBy_any (.own x p) ho))
    rw [show usedN (.own x p) = 0 from rfl, or32 _ _ hl (by decide), Tm.free, setN_lessL (lets_b p ho'.2) h2, set_b p ho'.2, Nat.or_zero]
  | tau p ih =>
    intro ho
    have ho' := ho
    simp only [Tm.ok] at ho'
    refine conv32 ?_ (ff_1 _ _ _ _ _ _ (parts_fact (.tau p)).pf (ih ho') (binderOf_any (.tau p)) (usedBy_any (.tau p) ho))
    rw [or0 _ (lt p ho'), show usedN (.tau p) = 0 from rfl, or32 _ _ (lt p ho') (by decide), Tm.free, set_b p ho', Nat.or_zero]
  | rep p ih =>
    intro ho
    have ho' := ho
    simp only [Tm.ok] at ho'
    refine conv32 ?_ (ff_1 _ _ _ _ _ _ (parts_fact (.rep p)).pf (ih ho') (binderOf_any (.rep p)) (usedBy_any (.rep p) ho))
    rw [or0 _ (lt p ho'), show usedN (.rep p) = 0 from rfl, or32 _ _ (lt p ho') (by decide), Tm.free, set_b p ho', Nat.or_zero]
  | sum p q ih ih2 =>
    intro ho
    have ho' := ho
    simp only [Tm.ok, Bool.and_eq_true] at ho'
    have hl : setN p.free ||| setN q.free < 2 ^ 32 := Nat.or_lt_two_pow (lt p ho'.1) (lt q ho'.2)
    refine conv32 ?_ (ff_2 _ _ _ _ _ _ _ _ _ (parts_fact (.sum p q)).pf (ih ho'.1) (ih2 ho'.2) (binderOf_any (.sum p q)) (usedBy_any (.sum p q) ho))
    rw [or0 _ (lt p ho'.1), show usedN (.sum p q) = 0 from rfl, or32 _ _ (lt p ho'.1) (lt q ho'.2), or32 _ _ hl (by decide), Tm.free, setN_bothL (lets_b p ho'.1) (lets_free q ho'.2), set_b p ho'.1, Nat.or_zero]
  | par p q ih ih2 =>
    intro ho
    have ho' := ho
    simp only [Tm.ok, Bool.and_eq_true] at ho'
    have hl : setN p.free ||| setN q.free < 2 ^ 32 := Nat.or_lt_two_pow (lt p ho'.1) (lt q ho'.2)
    refine conv32 ?_ (ff_2 _ _ _ _ _ _ _ _ _ (parts_fact (.par p q)).pf (ih ho'.1) (ih2 ho'.2) (binderOf_any (.par p q)) (usedBy_any (.par p q) ho))
    rw [or0 _ (lt p ho'.1), show usedN (.par p q) = 0 from rfl, or32 _ _ (lt p ho'.1) (lt q ho'.2), or32 _ _ hl (by decide), Tm.free, setN_bothL (lets_b p ho'.1) (lets_free q ho'.2), set_b p ho'.1, Nat.or_zero]

end Go.Proofs.YtmfmagfgcdaeeaaGreat.T1
