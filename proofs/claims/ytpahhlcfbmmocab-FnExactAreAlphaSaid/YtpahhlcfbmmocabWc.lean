/- A sign binds another letter, where it would capture a name: in the program. -/
import Derived.Test.YtpahhlcfbmmocabIf
import Derived.Test.YtpahhlcfbmmocabUs
import Derived.Deep.RegionHeld3
namespace Go.Proofs.Ytpahhlcfbmmocab.T1
open Go.RowKit
set_option maxRecDepth 100000
set_option linter.unusedVariables false

theorem lt_cell {w : World} {b o : Nat} {x : Value} (h : w.cell? ⟨b, o, none⟩ = some x) : b < w.heap.size := World.block_lt_of_cell? w _ h
theorem old_alloc {w : World} {b o : Nat} {x : Value} (ob : Obj) (hb : b < w.heap.size) (h : w.cell? ⟨b, o, none⟩ = some x) : (w.alloc ob).cell? ⟨b, o, none⟩ = some x := (((Below.refl _ _).alloc (Nat.le_refl _) ob).cell (p := ⟨b, o, none⟩) hb).trans h
theorem below_go {u v w : World} (h : Below u.heap.size u v) (k : Below v.heap.size v w) : Below u.heap.size u w := below_trans h k h.size
theorem below_go' {u v : World} (h : Below u.heap.size u v) (o : Obj) : Below u.heap.size u (v.alloc o) := h.alloc h.size o
set_option maxHeartbeats 1000000 in
theorem wc_nb (T : TypeId) (V : Value) (o m : Int) (HB : ∀ w, Calls Try.prog 73 #[.iface T V] w fun e w' => e = .returned (.tuple #[.int .u8 0, .bool false]) ∧ Below w.heap.size w w') (w : World) :
    Calls Try.prog 79 #[.iface T V, .int .u8 o, .int .u8 m] w fun e w' => e = .returned (.tuple #[.iface T V, .bool true]) ∧ Below w.heap.size w w' := by
  have HB' := Lib.hid HB
  clear HB
  go_enter Try.func79, Try.ntmps79
  go_wp2_with fail
  refine (HB'.out _).mono ?_
  rintro e w1 ⟨rfl, b1⟩
  go_wp2_with fail
  go_ret2
  exact ⟨rfl, b1⟩
set_option maxHeartbeats 1000000 in
theorem wc_other (T : TypeId) (V : Value) (x o m : Int) (hne : (x != m) = true) (HB : ∀ w, Calls Try.prog 73 #[.iface T V] w fun e w' => e = .returned (.tuple #[.int .u8 x, .bool true]) ∧ Below w.heap.size w w') (w : World) :
    Calls Try.prog 79 #[.iface T V, .int .u8 o, .int .u8 m] w fun e w' => e = .returned (.tuple #[.iface T V, .bool true]) ∧ Below w.heap.size w w' := by
  have HB' := Lib.hid HB
  clear HB
  go_enter Try.func79, Try.ntmps79
  go_wp2_with fail
  refine (HB'.out _).mono ?_
  rintro e w1 ⟨rfl, b1⟩
  go_wp2_with fail
  go_ret2
  exact ⟨rfl, b1⟩
set_option maxHeartbeats 1000000 in
theorem fo_nil (U2 : Int) (HO : ∀ w, Calls Try.prog 50 #[.int .u32 U2] w fun e w' => ∃ v xs, e = .returned v ∧ w'.ownsRow w.heap.size 5 1 v 0 xs ∧ Below w.heap.size w w') (w : World) : Calls Try.prog 39 #[.int .u32 U2] w fun e w' => e = .returned (.tuple #[.int .u8 0, .bool false]) ∧ Below w.heap.size w w' := by
  have HO' := Lib.hid HO
  clear HO
  go_enter Try.func39, Try.ntmps39
  go_wp2_with fail
  refine (HO'.out _).mono ?_
  rintro e w6 ⟨v, xs, rfl, ho, b6⟩
  have hv : ∃ a c, v = .slice a 0 c := by
    rcases ho.2 with ⟨rfl, _⟩ | ⟨g, cap, cur, rfl, _⟩
    · exact ⟨_, _, rfl⟩
    · exact ⟨_, _, rfl⟩
  clear ho
  obtain ⟨a, c, rfl⟩ := hv
  go_wp2_with fail
  go_ret2
  exact ⟨rfl, b6⟩
set_option maxHeartbeats 1000000 in
theorem fo_cons (U2 y : Int) (HO : ∀ w, Calls Try.prog 50 #[.int .u32 U2] w fun e w' => ∃ g n cap, e = .returned (.slice (some ⟨g, 0, none⟩) (n + 1) cap) ∧ w.heap.size ≤ g ∧ w'.cell? ⟨g, 0, none⟩ = some (.int .u8 y) ∧ Below w.heap.size w w') (w : World) : Calls Try.prog 39 #[.int .u32 U2] w fun e w' => e = .returned (.tuple #[.int .u8 y, .bool true]) ∧ Below w.heap.size w w' := by
  have HO' := Lib.hid HO
  clear HO
  go_enter Try.func39, Try.ntmps39
  go_wp2_with fail
  refine (HO'.out _).mono ?_
  rintro e w6 ⟨g, n, cap, rfl, hg, hgc, b6⟩
  have n0 : (((n + 1 : Nat) : Int) == 0) = false := by rw [beq_eq_false_iff_ne]; omega
  have n1 : (0 : Int) < ((n + 1 : Nat) : Int) := by omega
  go_wp2_with fail
  go_ret2
  exact ⟨rfl, b6⟩
set_option maxHeartbeats 2000000 in
theorem wc_nofree (T tp : TypeId) (V vp : Value) (o m U : Int) (hP : ∃ (F : FuncId) (R : Value), (∀ n w, (method (n + 1) T V "loop.example/g01175/impl.parts").run Try.prog w = .ok (F, R) w) ∧ (∀ n w, (nilAhead (n + 1) T V "loop.example/g01175/impl.parts").run Try.prog w = .ok (some false) w) ∧ (∀ args w, (callFunc F args).run Try.prog w = .ok (.enter F args) w) ∧ ∀ w, Calls Try.prog F #[R] w fun e w' => ∃ b, e = .returned (.slice (some ⟨b, 0, none⟩) 1 1) ∧ w.heap.size ≤ b ∧ w'.heap[b]? = some (.cells #[.iface tp vp] 34 (0, 0)) ∧ Below w.heap.size w w') (HB : ∀ w, Calls Try.prog 73 #[.iface T V] w fun e w' => e = .returned (.tuple #[.int .u8 m, .bool true]) ∧ Below w.heap.size w w') (HF : ∀ w, Calls Try.prog 49 #[.iface tp vp] w fun e w' => e = .returned (.int .u32 U) ∧ Below w.heap.size w w')
    (HH : ∀ w, Calls Try.prog 74 #[.int .u32 U, .int .u8 o] w fun e w' => e = .returned (.bool false) ∧ w = w') (w : World) :
    Calls Try.prog 79 #[.iface T V, .int .u8 o, .int .u8 m] w fun e w' => e = .returned (.tuple #[.iface T V, .bool true]) ∧ Below w.heap.size w w' := by
  obtain ⟨F, RR, hm, hn, hc, hp⟩ := hP
  have HP := Lib.hid hp
  have HB' := Lib.hid HB
  have HF' := Lib.hid HF
  have HH' := Lib.hid HH
  clear hp HB HF HH
  go_enter Try.func79, Try.ntmps79
  go_wp2_with fail
  refine (HB'.out _).mono ?_
  rintro e w1 ⟨rfl, b1⟩
  go_wp2_with fail
  refine (HP.out _).mono ?_
  rintro e w2 ⟨b, rfl, hb, hh, b2⟩
  have c0 := cellOf1 hh
  have bl2 := below_trans b1 b2 b1.size
  clear hh
  go_wp2_with fail
  refine (HF'.out _).mono ?_
  rintro e w3 ⟨rfl, b3⟩
  have bl3 := below_trans bl2 b3 bl2.size
  clear c0 b1 b2 b3 bl2 hb
  go_wp2_with fail
  refine (HH'.out _).mono ?_
  rintro e w4 ⟨rfl, rfl⟩
  go_wp2_with fail
  go_ret2
  exact ⟨rfl, bl3⟩
set_option maxHeartbeats 2000000 in
theorem wc_none (T tp : TypeId) (V vp : Value) (o m U : Int) (hP : ∃ (F : FuncId) (R : Value), (∀ n w, (method (n + 1) T V "loop.example/g01175/impl.parts").run Try.prog w = .ok (F, R) w) ∧ (∀ n w, (nilAhead (n + 1) T V "loop.example/g01175/impl.parts").run Try.prog w = .ok (some false) w) ∧ (∀ args w, (callFunc F args).run Try.prog w = .ok (.enter F args) w) ∧ ∀ w, Calls Try.prog F #[R] w fun e w' => ∃ b, e = .returned (.slice (some ⟨b, 0, none⟩) 1 1) ∧ w.heap.size ≤ b ∧ w'.heap[b]? = some (.cells #[.iface tp vp] 34 (0, 0)) ∧ Below w.heap.size w w') (HB : ∀ w, Calls Try.prog 73 #[.iface T V] w fun e w' => e = .returned (.tuple #[.int .u8 m, .bool true]) ∧ Below w.heap.size w w') (HF : ∀ w, Calls Try.prog 49 #[.iface tp vp] w fun e w' => e = .returned (.int .u32 U) ∧ Below w.heap.size w w')
    (U2 : Int) (HH : ∀ w, Calls Try.prog 74 #[.int .u32 U, .int .u8 o] w fun e w' => e = .returned (.bool true) ∧ w = w') (HW : ∀ w, Calls Try.prog 38 #[.int .u32 U, .int .u8 m] w fun e w' => e = .returned (.int .u32 U2) ∧ w = w') (HO : ∀ w, Calls Try.prog 50 #[.int .u32 U2] w fun e w' => ∃ v xs, e = .returned v ∧ w'.ownsRow w.heap.size 5 1 v 0 xs ∧ Below w.heap.size w w') (w : World) :
    Calls Try.prog 79 #[.iface T V, .int .u8 o, .int .u8 m] w fun e w' => e = .returned (.tuple #[.nilIface, .bool false]) ∧ Below w.heap.size w w' := by
  obtain ⟨F, RR, hm, hn, hc, hp⟩ := hP
  have HP := Lib.hid hp
  have HB' := Lib.hid HB
  have HF' := Lib.hid HF
  have HH' := Lib.hid HH
  clear hp HB HF HH
  have HW' := Lib.hid HW
  have HO' := Lib.hid (fo_nil U2 HO)
  clear HW HO
  go_enter Try.func79, Try.ntmps79
  go_wp2_with fail
  refine (HB'.out _).mono ?_
  rintro e w1 ⟨rfl, b1⟩
  go_wp2_with fail
  refine (HP.out _).mono ?_
  rintro e w2 ⟨b, rfl, hb, hh, b2⟩
  have c0 := cellOf1 hh
  have bl2 := below_trans b1 b2 b1.size
  clear hh
  go_wp2_with fail
  refine (HF'.out _).mono ?_
  rintro e w3 ⟨rfl, b3⟩
  have bl3 := below_trans bl2 b3 bl2.size
  clear c0 b1 b2 b3 bl2 hb
  go_wp2_with fail
  refine (HH'.out _).mono ?_
  rintro e w4 ⟨rfl, rfl⟩
  go_wp2_with fail
  refine (HW'.out _).mono ?_
  rintro e w5 ⟨rfl, rfl⟩
  go_wp2_with fail
  refine (HO'.out _).mono ?_
  rintro e w6 ⟨rfl, b6⟩
  have bl6 := below_trans bl3 b6 bl3.size
  go_wp2_with fail
  go_ret2
  exact ⟨rfl, bl6⟩
set_option maxHeartbeats 2000000 in
theorem wc_fail (T tp : TypeId) (V vp : Value) (o m U : Int) (hP : ∃ (F : FuncId) (R : Value), (∀ n w, (method (n + 1) T V "loop.example/g01175/impl.parts").run Try.prog w = .ok (F, R) w) ∧ (∀ n w, (nilAhead (n + 1) T V "loop.example/g01175/impl.parts").run Try.prog w = .ok (some false) w) ∧ (∀ args w, (callFunc F args).run Try.prog w = .ok (.enter F args) w) ∧ ∀ w, Calls Try.prog F #[R] w fun e w' => ∃ b, e = .returned (.slice (some ⟨b, 0, none⟩) 1 1) ∧ w.heap.size ≤ b ∧ w'.heap[b]? = some (.cells #[.iface tp vp] 34 (0, 0)) ∧ Below w.heap.size w w') (HB : ∀ w, Calls Try.prog 73 #[.iface T V] w fun e w' => e = .returned (.tuple #[.int .u8 m, .bool true]) ∧ Below w.heap.size w w') (HF : ∀ w, Calls Try.prog 49 #[.iface tp vp] w fun e w' => e = .returned (.int .u32 U) ∧ Below w.heap.size w w')
    (U2 : Int) (HH : ∀ w, Calls Try.prog 74 #[.int .u32 U, .int .u8 o] w fun e w' => e = .returned (.bool true) ∧ w = w') (HW : ∀ w, Calls Try.prog 38 #[.int .u32 U, .int .u8 m] w fun e w' => e = .returned (.int .u32 U2) ∧ w = w') (y : Int) (HO : ∀ w, Calls Try.prog 50 #[.int .u32 U2] w fun e w' => ∃ g n cap, e = .returned (.slice (some ⟨g, 0, none⟩) (n + 1) cap) ∧ w.heap.size ≤ g ∧ w'.cell? ⟨g, 0, none⟩ = some (.int .u8 y) ∧ Below w.heap.size w w') (HR : ∀ w, Calls Try.prog 44 #[.iface tp vp, .int .u8 m, .int .u8 y] w fun e w' => e = .returned (.tuple #[.nilIface, .bool false]) ∧ Below w.heap.size w w') (w : World) :
    Calls Try.prog 79 #[.iface T V, .int .u8 o, .int .u8 m] w fun e w' => e = .returned (.tuple #[.nilIface, .bool false]) ∧ Below w.heap.size w w' := by
  obtain ⟨F, RR, hm, hn, hc, hp⟩ := hP
  have HP := Lib.hid hp
  have HB' := Lib.hid HB
  have HF' := Lib.hid HF
  have HH' := Lib.hid HH
  clear hp HB HF HH
  have HW' := Lib.hid HW
  have HO' := Lib.hid (fo_cons U2 y HO)
  have HR' := Lib.hid HR
  clear HW HO HR
  go_enter Try.func79, Try.ntmps79
  go_wp2_with fail
  refine (HB'.out _).mono ?_
  rintro e w1 ⟨rfl, b1⟩
  go_wp2_with fail
  refine (HP.out _).mono ?_
  rintro e w2 ⟨b, rfl, hb, hh, b2⟩
  have c0 := cellOf1 hh
  have bl2 := below_trans b1 b2 b1.size
  clear hh
  go_wp2_with fail
  refine (HF'.out _).mono ?_
  rintro e w3 ⟨rfl, b3⟩
  have bl3 := below_trans bl2 b3 bl2.size
  clear c0 b1 b2 b3 bl2 hb
  go_wp2_with fail
  refine (HH'.out _).mono ?_
  rintro e w4 ⟨rfl, rfl⟩
  go_wp2_with fail
  refine (HW'.out _).mono ?_
  rintro e w5 ⟨rfl, rfl⟩
  go_wp2_with fail
  refine (HO'.out _).mono ?_
  rintro e w6 ⟨rfl, b6⟩
  have bl6 := below_trans bl3 b6 bl3.size
  clear b6
  go_wp2_with fail
  refine (HR'.out _).mono ?_
  rintro e w7 ⟨rfl, b7⟩
  have bl7 := below_trans bl6 b7 bl6.size
  go_wp2_with fail
  go_ret2
  exact ⟨rfl, bl7⟩
set_option maxHeartbeats 2000000 in
theorem wc_ok (T tp : TypeId) (V vp : Value) (o m U : Int) (hP : ∃ (F : FuncId) (R : Value), (∀ n w, (method (n + 1) T V "loop.example/g01175/impl.parts").run Try.prog w = .ok (F, R) w) ∧ (∀ n w, (nilAhead (n + 1) T V "loop.example/g01175/impl.parts").run Try.prog w = .ok (some false) w) ∧ (∀ args w, (callFunc F args).run Try.prog w = .ok (.enter F args) w) ∧ ∀ w, Calls Try.prog F #[R] w fun e w' => ∃ b, e = .returned (.slice (some ⟨b, 0, none⟩) 1 1) ∧ w.heap.size ≤ b ∧ w'.heap[b]? = some (.cells #[.iface tp vp] 34 (0, 0)) ∧ Below w.heap.size w w') (HB : ∀ w, Calls Try.prog 73 #[.iface T V] w fun e w' => e = .returned (.tuple #[.int .u8 m, .bool true]) ∧ Below w.heap.size w w') (HF : ∀ w, Calls Try.prog 49 #[.iface tp vp] w fun e w' => e = .returned (.int .u32 U) ∧ Below w.heap.size w w')
    (U2 : Int) (HH : ∀ w, Calls Try.prog 74 #[.int .u32 U, .int .u8 o] w fun e w' => e = .returned (.bool true) ∧ w = w') (HW : ∀ w, Calls Try.prog 38 #[.int .u32 U, .int .u8 m] w fun e w' => e = .returned (.int .u32 U2) ∧ w = w') (y : Int) (HO : ∀ w, Calls Try.prog 50 #[.int .u32 U2] w fun e w' => ∃ g n cap, e = .returned (.slice (some ⟨g, 0, none⟩) (n + 1) cap) ∧ w.heap.size ≤ g ∧ w'.cell? ⟨g, 0, none⟩ = some (.int .u8 y) ∧ Below w.heap.size w w') (tr : TypeId) (vr : Value) (HR : ∀ w, Calls Try.prog 44 #[.iface tp vp, .int .u8 m, .int .u8 y] w fun e w' => e = .returned (.tuple #[.iface tr vr, .bool true]) ∧ Below w.heap.size w w')
    (T2 T3 : TypeId) (V2 V3 : Value) (HWP : ∀ (b : Nat) (w : World), w.cell? ⟨b, 0, none⟩ = some (.iface tr vr) → Calls Try.prog 81 #[.iface T V, .slice (some ⟨b, 0, none⟩) 1 1] w fun e w' => e = .returned (.iface T2 V2) ∧ Below w.heap.size w w')
    (HWB : ∀ w, Calls Try.prog 87 #[.iface T2 V2, .int .u8 y] w fun e w' => e = .returned (.iface T3 V3) ∧ Below w.heap.size w w') (w : World) :
    Calls Try.prog 79 #[.iface T V, .int .u8 o, .int .u8 m] w fun e w' => e = .returned (.tuple #[.iface T3 V3, .bool true]) ∧ Below w.heap.size w w' := by
  obtain ⟨F, RR, hm, hn, hc, hp⟩ := hP
  have HP := Lib.hid hp
  have HB' := Lib.hid HB
  have HF' := Lib.hid HF
  have HH' := Lib.hid HH
  clear hp HB HF HH
  have HWP' := Lib.hid HWP
  have HWB' := Lib.hid HWB
  clear HWP HWB
  have HW' := Lib.hid HW
  have HO' := Lib.hid (fo_cons U2 y HO)
  have HR' := Lib.hid HR
  clear HW HO HR
  go_enter Try.func79, Try.ntmps79
  go_wp2_with fail
  refine (HB'.out _).mono ?_
  rintro e w1 ⟨rfl, b1⟩
  go_wp2_with fail
  refine (HP.out _).mono ?_
  rintro e w2 ⟨b, rfl, hb, hh, b2⟩
  have c0 := cellOf1 hh
  have bl2 := below_trans b1 b2 b1.size
  clear hh
  go_wp2_with fail
  refine (HF'.out _).mono ?_
  rintro e w3 ⟨rfl, b3⟩
  have bl3 := below_trans bl2 b3 bl2.size
  clear c0 b1 b2 b3 bl2 hb
  go_wp2_with fail
  refine (HH'.out _).mono ?_
  rintro e w4 ⟨rfl, rfl⟩
  go_wp2_with fail
  refine (HW'.out _).mono ?_
  rintro e w5 ⟨rfl, rfl⟩
  go_wp2_with fail
  refine (HO'.out _).mono ?_
  rintro e w6 ⟨rfl, b6⟩
  have bl6 := below_trans bl3 b6 bl3.size
  clear b6
  go_wp2_with fail
  refine (HR'.out _).mono ?_
  rintro e w7 ⟨rfl, b7⟩
  have bl7 := below_trans bl6 b7 bl6.size
  clear b7 bl6
  go_wp2_with fail
  refine (HWP'.out _ _ (by first | exact cellOf1 (new_block0 _ _) | (rw [World.cell?_alloc_new]; rfl))).mono ?_
  rintro e w8 ⟨rfl, b8⟩
  have bl8 := below_go (below_go' bl7 _) b8
  go_wp2_with fail
  refine (HWB'.out _).mono ?_
  rintro e w9 ⟨rfl, b9⟩
  have bl9 := below_go bl8 b9
  go_wp2_with fail
  go_ret2
  exact ⟨rfl, bl9⟩
end Go.Proofs.Ytpahhlcfbmmocab.T1
