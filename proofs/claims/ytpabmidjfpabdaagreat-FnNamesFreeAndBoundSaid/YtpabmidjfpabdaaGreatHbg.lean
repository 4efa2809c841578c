/- Texts of the proof, put together: Wc, CFreshName. No conditions. -/
import Derived.Test.YtpabmidjfpabdaaGreatHax
import Derived.Test.YtpabmidjfpabdaaGreatHay
import Derived.Test.YtpabmidjfpabdaaGreatHbf
import Derived.Deep.RegionHeld3
import Derived.Test.YtpabmidjfpabdaaGreatProg
import Derived.WalkKit
import Derived.ProofKit
import Derived.OpenShut
import Derived.ShutString
import Derived.ChangeOld
import Derived.Below

/- A sign binds another letter, where it would capture a name: in the program. -/
namespace Go.Proofs.YtpabmidjfpabdaaGreat.T1
open Go.RowKit
set_option maxRecDepth 100000
set_option linter.unusedVariables false

theorem lt_cell {w : World} {b o : Nat} {x : Value} (h : w.cell? ⟨b, o, none⟩ = some x) : b < w.heap.size := World.block_lt_of_cell? w _ h
theorem below_go {u v w : World} (h : Below u.heap.size u v) (k : Below v.heap.size v w) : Below u.heap.size u w := below_trans h k h.size
theorem below_go' {u v : World} (h : Below u.heap.size u v) (o : Obj) : Below u.heap.size u (v.alloc o) := h.alloc h.size o
set_option maxHeartbeats 1000000 in
theorem wc_nb (T : TypeId) (V : Value) (o m : Int) (HB : ∀ w, Calls Tryz.prog 55 #[.iface T V] w fun e w' => e = .returned (.tuple #[.int .u8 0, .bool false]) ∧ Below w.heap.size w w') (w : World) :
    Calls Tryz.prog 54 #[.iface T V, .int .u8 o, .int .u8 m] w fun e w' => e = .returned (.tuple #[.iface T V, .bool true]) ∧ Below w.heap.size w w' := by
  have HB' := Lib.hid HB
  clear HB
  go_enter Tryz.func54, Tryz.ntmps54
  go_wp2_with fail
  refine (HB'.out _).mono ?_
  rintro e w1 ⟨rfl, b1⟩
  go_wp2_with fail
  go_ret2
  exact ⟨rfl, b1⟩
set_option maxHeartbeats 1000000 in
theorem wc_other (T : TypeId) (V : Value) (x o m : Int) (hne : (x != m) = true) (HB : ∀ w, Calls Tryz.prog 55 #[.iface T V] w fun e w' => e = .returned (.tuple #[.int .u8 x, .bool true]) ∧ Below w.heap.size w w') (w : World) :
    Calls Tryz.prog 54 #[.iface T V, .int .u8 o, .int .u8 m] w fun e w' => e = .returned (.tuple #[.iface T V, .bool true]) ∧ Below w.heap.size w w' := by
  have HB' := Lib.hid HB
  clear HB
  go_enter Tryz.func54, Tryz.ntmps54
  go_wp2_with fail
  refine (HB'.out _).mono ?_
  rintro e w1 ⟨rfl, b1⟩
  go_wp2_with fail
  go_ret2
  exact ⟨rfl, b1⟩
set_option maxHeartbeats 1000000 in
theorem fo_nil (U2 : Int) (HO : ∀ w, Calls Tryz.prog 81 #[.int .u32 U2] w fun e w' => ∃ v xs, e = .returned v ∧ w'.ownsRow w.heap.size 5 1 v 0 xs ∧ Below w.heap.size w w') (w : World) : Calls Tryz.prog 48 #[.int .u32 U2] w fun e w' => e = .returned (.tuple #[.int .u8 0, .bool false]) ∧ Below w.heap.size w w' := by
  have HO' := Lib.hid HO
  clear HO
  go_enter Tryz.func48, Tryz.ntmps48
  go_wp2_with fail
  refine (HO'.out _).mono ?_
  rintro e w6 ⟨v, xs, rfl, ho, b6⟩
  have hv : ∃ a c, v = .slice a 0 c := by
    rcases ho.2 with ⟨rfl, _⟩ | ⟨g, cap, cur, rfl, _⟩
    · exact ⟨_, _, rfl⟩
    · exact ⟨_, _, rfl⟩
  clear ho
  obtain ⟨a, c, rfl⟩ := hv
  go_wp2_with fail
  go_ret2
  exact ⟨rfl, b6⟩
set_option maxHeartbeats 1000000 in
theorem fo_cons (U2 y : Int) (HO : ∀ w, Calls Tryz.prog 81 #[.int .u32 U2] w fun e w' => ∃ g n cap, e = .returned (.slice (some ⟨g, 0, none⟩) (n + 1) cap) ∧ w.heap.size ≤ g ∧ w'.cell? ⟨g, 0, none⟩ = some (.int .u8 y) ∧ Below w.heap.size w w') (w : World) : Calls Tryz.prog 48 #[.int .u32 U2] w fun e w' => e = .returned (.tuple #[.int .u8 y, .bool true]) ∧ Below w.heap.size w w' := by
  have HO' := Lib.hid HO
  clear HO
  go_enter Tryz.func48, Tryz.ntmps48
  go_wp2_with fail
  refine (HO'.out _).mono ?_
  rintro e w6 ⟨g, n, cap, rfl, hg, hgc, b6⟩
  have n0 : (((n + 1 : Nat) : Int) == 0) = false := by rw [beq_eq_false_iff_ne]; omega
  have n1 : (0 : Int) < ((n + 1 : Nat) : Int) := by omega
  go_wp2_with fail
  go_ret2
  exact ⟨rfl, b6⟩
set_option maxHeartbeats 2000000 in
theorem wc_nofree (T tp : TypeId) (V vp : Value) (o m U : Int) (hP : ∃ (F : FuncId) (R : Value), (∀ n w, (method (n + 1) T V "loop.example/g01175/impl.parts").run Tryz.prog w = .ok (F, R) w) ∧ (∀ n w, (nilAhead (n + 1) T V "loop.example/g01175/impl.parts").run Tryz.prog w = .ok (some false) w) ∧ (∀ args w, (callFunc F args).run Tryz.prog w = .ok (.enter F args) w) ∧ ∀ w, Calls Tryz.prog F #[R] w fun e w' => ∃ b, e = .returned (.slice (some ⟨b, 0, none⟩) 1 1) ∧ w.heap.size ≤ b ∧ w'.heap[b]? = some (.cells #[.iface tp vp] 46 (0, 0)) ∧ Below w.heap.size w w') (HB : ∀ w, Calls Tryz.prog 55 #[.iface T V] w fun e w' => e = .returned (.tuple #[.int .u8 m, .bool true]) ∧ Below w.heap.size w w') (HF : ∀ w, Calls Tryz.prog 33 #[.iface tp vp] w fun e w' => e = .returned (.int .u32 U) ∧ Below w.heap.size w w')
    (HH : ∀ w, Calls Tryz.prog 53 #[.int .u32 U, .int .u8 o] w fun e w' => e = .returned (.bool false) ∧ w = w') (w : World) :
    Calls Tryz.prog 54 #[.iface T V, .int .u8 o, .int .u8 m] w fun e w' => e = .returned (.tuple #[.iface T V, .bool true]) ∧ Below w.heap.size w w' := by
  obtain ⟨F, RR, hm, hn, hc, hp⟩ := hP
  have HP := Lib.hid hp
  have HB' := Lib.hid HB
  have HF' := Lib.hid HF
  have HH' := Lib.hid HH
  clear hp HB HF HH
  go_enter Tryz.func54, Tryz.ntmps54
  go_wp2_with fail
  refine (HB'.out _).mono ?_
  rintro e w1 ⟨rfl, b1⟩
  go_wp2_with fail
  refine (HP.out _).mono ?_
  rintro e w2 ⟨b, rfl, hb, hh, b2⟩
  have c0 := cellOf1 hh
  have bl2 := below_trans b1 b2 b1.size
  clear hh
  go_wp2_with fail
  refine (HF'.out _).mono ?_
  rintro e w3 ⟨rfl, b3⟩
  have bl3 := below_trans bl2 b3 bl2.size
  clear c0 b1 b2 b3 bl2 hb
  go_wp2_with fail
  refine (HH'.out _).mono ?_
  rintro e w4 ⟨rfl, rfl⟩
  go_wp2_with fail
  go_ret2
  exact ⟨rfl, bl3⟩
set_option maxHeartbeats 2000000 in
theorem wc_none (T tp : TypeId) (V vp : Value) (o m U : Int) (hP : ∃ (F : FuncId) (R : Value), (∀ n w, (method (n + 1) T V "loop.example/g01175/impl.parts").run Tryz.prog w = .ok (F, R) w) ∧ (∀ n w, (nilAhead (n + 1) T V "loop.example/g01175/impl.parts").run Tryz.prog w = .ok (some false) w) ∧ (∀ args w, (callFunc F args).run Tryz.prog w = .ok (.enter F args) w) ∧ ∀ w, Calls Tryz.prog F #[R] w fun e w' => ∃ b, e = .returned (.slice (some ⟨b, 0, none⟩) 1 1) ∧ w.heap.size ≤ b ∧ w'.heap[b]? = some (.cells #[.iface tp vp] 46 (0, 0)) ∧ Below w.heap.size w w') (HB : ∀ w, Calls Tryz.prog 55 #[.iface T V] w fun e w' => e = .returned (.tuple #[.int .u8 m, .bool true]) ∧ Below w.heap.size w w') (HF : ∀ w, Calls Tryz.prog 33 #[.iface tp vp] w fun e w' => e = .returned (.int .u32 U) ∧ Below w.heap.size w w')
    (U2 : Int) (HH : ∀ w, Calls Tryz.prog 53 #[.int .u32 U, .int .u8 o] w fun e w' => e = .returned (.bool true) ∧ w = w') (HW : ∀ w, Calls Tryz.prog 47 #[.int .u32 U, .int .u8 m] w fun e w' => e = .returned (.int .u32 U2) ∧ w = w') (HO : ∀ w, Calls Tryz.prog 81 #[.int .u32 U2] w fun e w' => ∃ v xs, e = .returned v ∧ w'.ownsRow w.heap.size 5 1 v 0 xs ∧ Below w.heap.size w w') (w : World) :
    Calls Tryz.prog 54 #[.iface T V, .int .u8 o, .int .u8 m] w fun e w' => e = .returned (.tuple #[.nilIface, .bool false]) ∧ Below w.heap.size w w' := by
  obtain ⟨F, RR, hm, hn, hc, hp⟩ := hP
  have HP := Lib.hid hp
  have HB' := Lib.hid HB
  have HF' := Lib.hid HF
  have HH' := Lib.hid HH
  clear hp HB HF HH
  have HW' := Lib.hid HW
  have HO' := Lib.hid (fo_nil U2 HO)
  clear HW HO
  go_enter Tryz.func54, Tryz.ntmps54
  go_wp2_with fail
  refine (HB'.out _).mono ?_
  rintro e w1 ⟨rfl, b1⟩
  go_wp2_with fail
  refine (HP.out _).mono ?_
  rintro e w2 ⟨b, rfl, hb, hh, b2⟩
  have c0 := cellOf1 hh
  have bl2 := below_trans b1 b2 b1.size
  clear hh
  go_wp2_with fail
  refine (HF'.out _).mono ?_
  rintro e w3 ⟨rfl, b3⟩
  have bl3 := below_trans bl2 b3 bl2.size
  clear c0 b1 b2 b3 bl2 hb
  go_wp2_with fail
  refine (HH'.out _).mono ?_
  rintro e w4 ⟨rfl, rfl⟩
  go_wp2_with fail
  refine (HW'.out _).mono ?_
  rintro e w5 ⟨rfl, rfl⟩
  go_wp2_with fail
  refine (HO'.out _).mono ?_
  rintro e w6 ⟨rfl, b6⟩
  have bl6 := below_trans bl3 b6 bl3.size
  go_wp2_with fail
  go_ret2
  exact ⟨rfl, bl6⟩
set_option maxHeartbeats 2000000 in
theorem wc_fail (T tp : TypeId) (V vp : Value) (o m U : Int) (hP : ∃ (F : FuncId) (R : Value), (∀ n w, (method (n + 1) T V "loop.example/g01175/impl.parts").run Tryz.prog w = .ok (F, R) w) ∧ (∀ n w, (nilAhead (n + 1) T V "loop.example/g01175/impl.parts").run Tryz.prog w = .ok (some false) w) ∧ (∀ args w, (callFunc F args).run Tryz.prog w = .ok (.enter F args) w) ∧ ∀ w, Calls Tryz.prog F #[R] w fun e w' => ∃ b, e = .returned (.slice (some ⟨b, 0, none⟩) 1 1) ∧ w.heap.size ≤ b ∧ w'.heap[b]? = some (.cells #[.iface tp vp] 46 (0, 0)) ∧ Below w.heap.size w w') (HB : ∀ w, Calls Tryz.prog 55 #[.iface T V] w fun e w' => e = .returned (.tuple #[.int .u8 m, .bool true]) ∧ Below w.heap.size w w') (HF : ∀ w, Calls Tryz.prog 33 #[.iface tp vp] w fun e w' => e = .returned (.int .u32 U) ∧ Below w.heap.size w w')
    (U2 : Int) (HH : ∀ w, Calls Tryz.prog 53 #[.int .u32 U, .int .u8 o] w fun e w' => e = .returned (.bool true) ∧ w = w') (HW : ∀ w, Calls Tryz.prog 47 #[.int .u32 U, .int .u8 m] w fun e w' => e = .returned (.int .u32 U2) ∧ w = w') (y : Int) (HO : ∀ w, Calls Tryz.prog 81 #[.int .u32 U2] w fun e w' => ∃ g n cap, e = .returned (.slice (some ⟨g, 0, none⟩) (n + 1) cap) ∧ w.heap.size ≤ g ∧ w'.cell? ⟨g, 0, none⟩ = some (.int .u8 y) ∧ Below w.heap.size w w') (HR : ∀ w, Calls Tryz.prog 27 #[.iface tp vp, .int .u8 m, .int .u8 y] w fun e w' => e = .returned (.tuple #[.nilIface, .bool false]) ∧ Below w.heap.size w w') (w : World) :
    Calls Tryz.prog 54 #[.iface T V, .int .u8 o, .int .u8 m] w fun e w' => e = .returned (.tuple #[.nilIface, .bool false]) ∧ Below w.heap.size w w' := by
  obtain ⟨F, RR, hm, hn, hc, hp⟩ := hP
  have HP := Lib.hid hp
  have HB' := Lib.hid HB
  have HF' := Lib.hid HF
  have HH' := Lib.hid HH
  clear hp HB HF HH
  have HW' := Lib.hid HW
  have HO' := Lib.hid (fo_cons U2 y HO)
  have HR' := Lib.hid HR
  clear HW HO HR
  go_enter Tryz.func54, Tryz.ntmps54
  go_wp2_with fail
  refine (HB'.out _).mono ?_
  rintro e w1 ⟨rfl, b1⟩
  go_wp2_with fail
  refine (HP.out _).mono ?_
  rintro e w2 ⟨b, rfl, hb, hh, b2⟩
  have c0 := cellOf1 hh
  have bl2 := below_trans b1 b2 b1.size
  clear hh
  go_wp2_with fail
  refine (HF'.out _).mono ?_
  rintro e w3 ⟨rfl, b3⟩
  have bl3 := below_trans bl2 b3 bl2.size
  clear c0 b1 b2 b3 bl2 hb
  go_wp2_with fail
  refine (HH'.out _).mono ?_
  rintro e w4 ⟨rfl, rfl⟩
  go_wp2_with fail
  refine (HW'.out _).mono ?_
  rintro e w5 ⟨rfl, rfl⟩
  go_wp2_with fail
  refine (HO'.out _).mono ?_
  rintro e w6 ⟨rfl, b6⟩
  have bl6 := below_trans bl3 b6 bl3.size
  clear b6
  go_wp2_with fail
  refine (HR'.out _).mono ?_
  rintro e w7 ⟨rfl, b7⟩
  have bl7 := below_trans bl6 b7 bl6.size
  go_wp2_with fail
  go_ret2
  exact ⟨rfl, bl7⟩
set_option maxHeartbeats 2000000 in
theorem wc_ok (T tp : TypeId) (V vp : Value) (o m U : Int) (hP : ∃ (F : FuncId) (R : Value), (∀ n w, (method (n + 1) T V "loop.example/g01175/impl.parts").run Tryz.prog w = .ok (F, R) w) ∧ (∀ n w, (nilAhead (n + 1) T V "loop.example/g01175/impl.parts").run Tryz.prog w = .ok (some false) w) ∧ (∀ args w, (callFunc F args).run Tryz.prog w = .ok (.enter F args) w) ∧ ∀ w, Calls Tryz.prog F #[R] w fun e w' => ∃ b, e = .returned (.slice (some ⟨b, 0, none⟩) 1 1) ∧ w.heap.size ≤ b ∧ w'.heap[b]? = some (.cells #[.iface tp vp] 46 (0, 0)) ∧ Below w.heap.size w w') (HB : ∀ w, Calls Tryz.prog 55 #[.iface T V] w fun e w' => e = .returned (.tuple #[.int .u8 m, .bool true]) ∧ Below w.heap.size w w') (HF : ∀ w, Calls Tryz.prog 33 #[.iface tp vp] w fun e w' => e = .returned (.int .u32 U) ∧ Below w.heap.size w w')
    (U2 : Int) (HH : ∀ w, Calls Tryz.prog 53 #[.int .u32 U, .int .u8 o] w fun e w' => e = .returned (.bool true) ∧ w = w') (HW : ∀ w, Calls Tryz.prog 47 #[.int .u32 U, .int .u8 m] w fun e w' => e = .returned (.int .u32 U2) ∧ w = w') (y : Int) (HO : ∀ w, Calls Tryz.prog 81 #[.int .u32 U2] w fun e w' => ∃ g n cap, e = .returned (.slice (some ⟨g, 0, none⟩) (n + 1) cap) ∧ w.heap.size ≤ g ∧ w'.cell? ⟨g, 0, none⟩ = some (.int .u8 y) ∧ Below w.heap.size w w') (tr : TypeId) (vr : Value) (HR : ∀ w, Calls Tryz.prog 27 #[.iface tp vp, .int .u8 m, .int .u8 y] w fun e w' => e = .returned (.tuple #[.iface tr vr, .bool true]) ∧ Below w.heap.size w w')
    (T2 T3 : TypeId) (V2 V3 : Value) (HWP : ∀ (b : Nat) (w : World), w.cell? ⟨b, 0, none⟩ = some (.iface tr vr) → Calls Tryz.prog 57 #[.iface T V, .slice (some ⟨b, 0, none⟩) 1 1] w fun e w' => e = .returned (.iface T2 V2) ∧ Below w.heap.size w w')
    (HWB : ∀ w, Calls Tryz.prog 86 #[.iface T2 V2, .int .u8 y] w fun e w' => e = .returned (.iface T3 V3) ∧ Below w.heap.size w w') (w : World) :
    Calls Tryz.prog 54 #[.iface T V, .int .u8 o, .int .u8 m] w fun e w' => e = .returned (.tuple #[.iface T3 V3, .bool true]) ∧ Below w.heap.size w w' := by
  obtain ⟨F, RR, hm, hn, hc, hp⟩ := hP
  have HP := Lib.hid hp
  have HB' := Lib.hid HB
  have HF' := Lib.hid HF
  have HH' := Lib.hid HH
  clear hp HB HF HH
  have HWP' := Lib.hid HWP
  have HWB' := Lib.hid HWB
  clear HWP HWB
  have HW' := Lib.hid HW
  have HO' := Lib.hid (fo_cons U2 y HO)
  have HR' := Lib.hid HR
  clear HW HO HR
  go_enter Tryz.func54, Tryz.ntmps54
  go_wp2_with fail
  refine (HB'.out _).mono ?_
  rintro e w1 ⟨rfl, b1⟩
  go_wp2_with fail
  refine (HP.out _).mono ?_
  rintro e w2 ⟨b, rfl, hb, hh, b2⟩
  have c0 := cellOf1 hh
  have bl2 := below_trans b1 b2 b1.size
  clear hh
  go_wp2_with fail
  refine (HF'.out _).mono ?_
  rintro e w3 ⟨rfl, b3⟩
  have bl3 := below_trans bl2 b3 bl2.size
  clear c0 b1 b2 b3 bl2 hb
  go_wp2_with fail
  refine (HH'.out _).mono ?_
  rintro e w4 ⟨rfl, rfl⟩
  go_wp2_with fail
  refine (HW'.out _).mono ?_
  rintro e w5 ⟨rfl, rfl⟩
  go_wp2_with fail
  refine (HO'.out _).mono ?_
  rintro e w6 ⟨rfl, b6⟩
  have bl6 := below_trans bl3 b6 bl3.size
  clear b6
  go_wp2_with fail
  refine (HR'.out _).mono ?_
  rintro e w7 ⟨rfl, b7⟩
  have bl7 := below_trans bl6 b7 bl6.size
  clear b7 bl6
  go_wp2_with fail
  refine (HWP'.out _ _ (by first | exact cellOf1 (new_block0 _ _) | (rw [World.cell?_alloc_new]; rfl))).mono ?_
  rintro e w8 ⟨rfl, b8⟩
  have bl8 := below_go (below_go' bl7 _) b8
  go_wp2_with fail
  refine (HWB'.out _).mono ?_
  rintro e w9 ⟨rfl, b9⟩
  have bl9 := below_go bl8 b9
  go_wp2_with fail
  go_ret2
  exact ⟨rfl, bl9⟩
end Go.Proofs.YtpabmidjfpabdaaGreat.T1

/- What FreshName answers on both sides. No conditions. -/
namespace Go.Proofs.YtpabmidjfpabdaaGreat
namespace LawFreshName
open Go.ChangeShapes Go.WideShapes Go.ChangeAt Go.RowKit Go.Proofs.YtpabmidjfpabdaaGreat.T1
open Go.ChangeMaps (open_string shut_string)
set_option linter.unusedVariables false

/-- What is answered for a text. -/
def AnsPost (s : ByteArray) (w : World) (e : Ending) (w' : World) : Prop :=
  ((s.data.toList.all nmL = true ∧ ∃ k, FirstAt s k ∧ e = .returned (.tuple #[.string (one (UInt8.ofNat (97 + k))), .bool true])) ∨
   ((s.data.toList.all nmL = false ∨ ∀ i, i < 26 → inL s i = true) ∧ e = .returned (.tuple #[.string ⟨#[]⟩, .bool false]))) ∧ Below w.heap.size w w'
theorem first_uniq (s : ByteArray) (a b : Nat) (h1 : FirstAt s a) (h2 : FirstAt s b) : a = b := by
  obtain ⟨_, l1, n1⟩ := h1
  obtain ⟨_, l2, n2⟩ := h2
  rcases Nat.lt_trichotomy a b with h | h | h
  · have := l2 a h; rw [n1] at this; cases this
  · exact h
  · have := l1 b h; rw [n2] at this; cases this
theorem conv1 (k : UInt8) (w : World) : (convert 22 9 (.slice (some ⟨w.heap.size, 0, none⟩) 1 1)).run Tryz.prog (w.alloc (.cells #[.int .u8 (k.toNat : Int)] 5)) = .ok (.string (one k)) (w.alloc (.cells #[.int .u8 (k.toNat : Int)] 5)) :=
  run_convert_bytes_back _ 22 9 5 _ 1 [k] Tryz.underlying22 Tryz.underlying5 Tryz.underlying9 (fun j hj => by
    have : j = 0 := by simp at hj; omega
    subst this
    rw [show (⟨w.heap.size, 0, none⟩ : Addr).add 0 = ⟨w.heap.size, 0, none⟩ from rfl, World.cell?_alloc_new]; rfl)
theorem all_step (s : ByteArray) (k : Nat) (h : k < s.size) (h0 : (s.data.toList.take k).all nmL = true) (h1 : nmL (s[k]'h) = true) : (s.data.toList.take (k + 1)).all nmL = true := by
  rw [take_snoc s k h, List.all_append, h0]; simp [h1]
theorem all_no (s : ByteArray) (k : Nat) (h : k < s.size) (h1 : nmL (s[k]'h) = false) : s.data.toList.all nmL = false := by
  rw [List.all_eq_false]
  exact ⟨s[k]'h, by show s.data[k] ∈ _; simp, by simp [h1]⟩
theorem enc_oneF (c : UInt8) (h : c.toNat < 128) : Utf8.encode (c.toNat : Int) = one c := by
  have hv : Utf8.valid (c.toNat : Int) = true := by unfold Utf8.valid; simp; omega
  unfold Utf8.encode
  simp only [hv, if_true, Int.toNat_natCast, h]
  simp [one]
theorem ofNat_toNat (k : Nat) (h : k < 26) : ((UInt8.ofNat (97 + k)).toNat : Int) = 97 + (k : Int) := by
  rw [UInt8.toNat_ofNat']; omega

set_option maxHeartbeats 2000000 in
theorem spec_any (s : ByteArray) (hs : s.size ≤ 100000000) (w : World) : Calls Tryz.prog 20 #[.string s] w (AnsPost s w) := by
  have HFR := Lib.hid (fun w => tmFresh_any s hs w)
  go_enter Tryz.func20, Tryz.ntmps20
  go_wp2_with fail
  go_loop [4] (fun i => ∃ k : Nat, k ≤ s.size ∧ i = .int .i64 (k : Int) ∧ Hid ((s.data.toList.take k).all nmL = true)) (fun i => s.size - (intOf i).toNat)
  case atStart => exact ⟨0, Nat.zero_le _, rfl, by simp [Hid]⟩
  case round =>
    obtain ⟨k, hk, rfl, H⟩ := hrel
    by_cases hlt : k < s.size
    · have hb : (s[k]'hlt).toNat < 256 := (s[k]'hlt).toNat_lt
      cases hq : nmL (s[k]'hlt) with
      | true =>
        have HS := Lib.hid (all_step s k hlt H.out hq)
        have c1 : 97 ≤ ((s[k]'hlt).toNat : Int) := by simp [nmL] at hq; omega
        have c2 : ((s[k]'hlt).toNat : Int) ≤ 122 := by simp [nmL] at hq; omega
        clear hq
        go_wp2_with fail
        go_round
        case rel => exact ⟨k + 1, by omega, by go_num, HS⟩
        case measure => simp [intOf]; omega
      | false =>
        have HS : Hid (s.data.toList.all nmL = false) := all_no s k hlt hq
        have c1 : ((s[k]'hlt).toNat : Int) < 97 ∨ (97 ≤ ((s[k]'hlt).toNat : Int) ∧ 122 < ((s[k]'hlt).toNat : Int)) := by
          rcases Nat.lt_or_ge (s[k]'hlt).toNat 97 with h | h
          · exact .inl (by omega)
          · refine .inr ⟨by omega, ?_⟩
            rcases Nat.lt_or_ge 122 (s[k]'hlt).toNat with h' | h'
            · omega
            · exfalso; simp [nmL] at hq; omega
        clear hq
        rcases c1 with c1 | ⟨c1, c2⟩
        all_goals
          go_wp2_with fail
          go_ret2
          exact ⟨.inr ⟨.inl HS.out, rfl⟩, Below.refl _ _⟩
    · have HA : Hid (s.data.toList.all nmL = true) := by
        have := H.out
        rw [List.take_of_length_le (by simp; omega)] at this
        exact this
      go_wp2_with fail
      refine (HFR.out _).mono ?_
      rintro e w' ⟨m, rfl, rfl, (⟨j, rfl, hf⟩ | ⟨m1, m2, hall⟩)⟩
      · have HF := Lib.hid hf
        have hj : j < 26 := hf.1
        have hcv := conv1 (UInt8.ofNat (97 + j))
        rw [ofNat_toNat j hj] at hcv
        obtain ⟨C, hC⟩ : ∃ C, C = one (UInt8.ofNat (97 + j)) := ⟨_, rfl⟩
        rw [← hC] at hcv
        have HC := Lib.hid hC
        clear hf hC
        go_wp2_with fail
        go_ret2
        exact ⟨.inl ⟨HA.out, j, HF.out, by rw [← HC.out]; rfl⟩, (Below.refl _ _).alloc (Nat.le_refl _) _⟩
      · have HN := Lib.hid hall
        clear hall
        go_wp2_with fail
        go_ret2
        exact ⟨.inr ⟨.inr HN.out, rfl⟩, Below.refl _ _⟩

set_option maxHeartbeats 400000 in
theorem letter_int (r : Nat) (w : World) : Calls Tryz.prog 46 #[.int .i32 (r : Int)] w fun e w' => e = .returned (.bool (decide (97 ≤ r) && decide (r ≤ 122))) ∧ w = w' := by
  go_enter Tryz.func46, Tryz.ntmps46
  go_wp2
  all_goals (go_ret; refine ⟨ret_bool ?_, rfl⟩; rw [Bool.eq_iff_iff]; simp; omega)

/-- The set n holds just the letters of the first part of a text. -/
def SetOf (n : Nat) (l : List UInt8) : Prop := ∀ i, i < 26 → n.testBit i = l.any fun x => (x.toNat : Int) == ((97 + i : Nat) : Int)
theorem set_step (n : Nat) (l : List UInt8) (c : UInt8) (h1 : 97 ≤ c.toNat) (h2 : c.toNat ≤ 122) (h : SetOf n l) : SetOf (n ||| 2 ^ (c.toNat - 97)) (l ++ [c]) := by
  intro i hi
  rw [Nat.testBit_or, h i hi, Nat.testBit_two_pow, List.any_append]
  congr 1
  rw [Bool.eq_iff_iff]
  simp; omega
theorem lets_nil (n : Nat) : ∀ k, (∀ i, i < k → n.testBit i = false) → lets n k = [] := by
  intro k
  induction k with
  | zero => intro _; rfl
  | succ k ih => intro h; rw [lets_succ, ih (fun i hi => h i (by omega)), h k (by omega)]; rfl
theorem lets_head (n k : Nat) (h : ∀ i, i < k → n.testBit i = false) (hk : n.testBit k = true) : ∀ d, ∃ r, lets n (k + 1 + d) = UInt8.ofNat (97 + k) :: r := by
  intro d
  induction d with
  | zero => exact ⟨[], by rw [Nat.add_zero, lets_succ, lets_nil n k h, hk]; rfl⟩
  | succ d ih => obtain ⟨r, hr⟩ := ih; exact ⟨_, by rw [← Nat.add_assoc, lets_succ, hr, List.cons_append]⟩
theorem or_lt (n c : Nat) (hn : n < 2 ^ 32) (h2 : c ≤ 122) : n ||| 2 ^ (c - 97) < 2 ^ 32 := Nat.or_lt_two_pow hn (pow_lt32 c h2)

set_option maxHeartbeats 4000000 in
theorem impl_any (s : ByteArray) (hs : s.size ≤ 100000000) (w : World) : Calls Tryz.prog 19 #[.string s] w (AnsPost s w) := by
  go_enter Tryz.func19, Tryz.ntmps19
  go_wp2_with fail
  go_loopw [4] (fun v wr => ∃ (n pos : Nat), v = .int .u32 (n : Int) ∧ Hid (n < 2 ^ 32) ∧ Hid (wr.heap[w.heap.size]? = some (.stringIter s pos)) ∧ pos ≤ s.size ∧ Below w.heap.size w wr ∧ Hid (SetOf n (s.data.toList.take pos)) ∧ Hid ((s.data.toList.take pos).all nmL = true)) (fun _ wr => s.size - wr.iterPos w.heap.size)
  case atStart => exact ⟨0, 0, rfl, (by decide : (0 : Nat) < 2 ^ 32), World.iter_heap w s 0, Nat.zero_le _, (Below.refl _ _).alloc (Nat.le_refl _) _, fun i _ => by simp, by simp [Hid]⟩
  case round =>
    obtain ⟨n, pos, rfl, hn, hit, hple, hbw, hset, hall⟩ := hrel
    have hpos0 := Lib.hid (iterPos_of' hit.out)
    by_cases hp : pos < s.size
    · have hbt : (s[pos]'hp).toNat < 256 := (s[pos]'hp).toNat_lt
      cases hq : nmL (s[pos]'hp) with
      | true =>
        have hq' := hq
        simp [nmL] at hq'
        have HS := Lib.hid (all_step s pos hp hall.out hq)
        obtain ⟨c, hc⟩ : ∃ c, c = s[pos]'hp := ⟨_, rfl⟩
        have HSET : Hid (SetOf (n ||| 2 ^ (c.toNat - 97)) (s.data.toList.take (pos + 1))) := by
          rw [take_snoc s pos hp, ← hc]; exact set_step n _ c (by rw [hc]; omega) (by rw [hc]; omega) hset.out
        obtain ⟨r, hr⟩ : ∃ r, r = c.toNat := ⟨_, rfl⟩
        have hr1 : 97 ≤ r := by rw [hr, hc]; omega
        have hr2 : r ≤ 122 := by rw [hr, hc]; omega
        have hnx : ∀ ty, (Instr.next (.pointer (some ⟨w.heap.size, 0, none⟩)) true ty).run Tryz.prog wr = .ok (.tuple #[.bool true, .int .i64 (pos : Int), .int .i32 (r : Int)]) (wr.iterAt w.heap.size s (pos + 1)) := fun ty => by
          rw [hr, hc]; exact Lib.run_next_ascii_at wr w.heap.size s pos ty hit.out hp (by omega)
        have hit2 := Lib.hid (Lib.iterAt_heap wr w.heap.size s pos (pos + 1) hit.out)
        have hbw2 := Lib.below_iterAt hbw (k := w.heap.size) (Nat.le_refl _) s (pos + 1)
        have HL := letter_int r
        rw [show (decide (97 ≤ r) && decide (r ≤ 122)) = true by simp; omega] at HL
        have HL2 := Lib.hid HL
        have HW := Lib.hid (fun w => with_any n r hn.out hr1 hr2 w)
        have HN2 : Hid (n ||| 2 ^ (r - 97) < 2 ^ 32) := or_lt n r hn.out hr2
        rw [← hr] at HSET
        have hwr : IntKind.u8.wrap (r : Int) = (r : Int) := IntWalk.u8_in _ (by omega)
        clear hq hq' HL hr hc
        obtain ⟨N, hN⟩ : ∃ N, N = n ||| 2 ^ (r - 97) := ⟨_, rfl⟩
        rw [← hN] at HSET HW HN2
        obtain ⟨W2, hW2⟩ : ∃ W2, W2 = wr.iterAt w.heap.size s (pos + 1) := ⟨_, rfl⟩
        rw [← hW2] at hnx hit2 hbw2
        clear hN hW2
        go_wp2_with fail
        refine (HL2.out _).mono ?_
        rintro e w' ⟨rfl, rfl⟩
        go_wp2_with fail
        refine (HW.out _).mono ?_
        rintro e w' ⟨rfl, rfl⟩
        go_wp2_with fail
        go_roundw
        case rel => exact ⟨N, pos + 1, rfl, HN2, hit2, by omega, hbw2, HSET, HS⟩
        case measure => rw [iterPos_of' hit2.out, hpos0.out]; omega
      | false =>
        have HS : Hid (s.data.toList.all nmL = false) := all_no s pos hp hq
        obtain ⟨r, hr⟩ : ∃ r, r = (Utf8.decode s pos).1 := ⟨_, rfl⟩
        obtain ⟨d, hd⟩ : ∃ d, d = (Utf8.decode s pos).2 := ⟨_, rfl⟩
        have hno : ¬ (97 ≤ r ∧ r ≤ 122) := by
          rw [hr]
          rcases Nat.lt_or_ge (s[pos]'hp).toNat 128 with h | h
          · rw [decode_ascii s pos hp h]; simp [nmL] at hq; simp only []; omega
          · have := (decode_high s pos hp h).1; omega
        have hnx : ∀ ty, (Instr.next (.pointer (some ⟨w.heap.size, 0, none⟩)) true ty).run Tryz.prog wr = .ok (.tuple #[.bool true, .int .i64 (pos : Int), .int .i32 (r : Int)]) (wr.iterAt w.heap.size s (pos + d)) := fun ty => by
          rw [hr, hd]; exact Lib.run_next_any_at wr w.heap.size s pos ty hit.out hp
        have hbw2 := Lib.below_iterAt hbw (k := w.heap.size) (Nat.le_refl _) s (pos + d)
        have HL := letter_int r
        rw [show (decide (97 ≤ r) && decide (r ≤ 122)) = false by rw [Bool.eq_false_iff]; simp; omega] at HL
        have HL2 := Lib.hid HL
        obtain ⟨W2, hW2⟩ : ∃ W2, W2 = wr.iterAt w.heap.size s (pos + d) := ⟨_, rfl⟩
        rw [← hW2] at hnx hbw2
        clear hq HL hr hd hno hW2
        go_wp2_with fail
        refine (HL2.out _).mono ?_
        rintro e w' ⟨rfl, rfl⟩
        go_wp2_with fail
        go_ret2
        exact ⟨.inr ⟨.inl HS.out, rfl⟩, hbw2⟩
    · have hnx : ∀ ty, (Instr.next (.pointer (some ⟨w.heap.size, 0, none⟩)) true ty).run Tryz.prog wr = .ok (.tuple #[.bool false]) wr := fun ty => Lib.run_next_end_at wr w.heap.size s pos ty hit.out hp
      have htk : s.data.toList.take pos = s.data.toList := List.take_of_length_le (by simp; omega)
      have HA : Hid (s.data.toList.all nmL = true) := by have := hall.out; rw [htk] at this; exact this
      have HB : Hid (∀ i, i < 26 → (flip32 n).testBit i = !inL s i) := fun i hi => by
        have := hset.out i hi
        rw [htk] at this
        rw [flip_bit n i (by omega), this]; rfl
      clear htk
      rcases first_or s 26 with hf | ⟨k, hk, hlo, hno⟩
      · have HN := Lib.hid hf
        have hl : lets (flip32 n) 26 = [] := lets_nil _ 26 (fun i hi => by rw [HB.out i hi, hf i hi]; rfl)
        have HO := Lib.hid (fun w => fo_nil (n : Int) (fun w => by
          have := others_any n hn.out w
          rw [hl] at this
          exact this.mono fun e w' ⟨v, h1, h2, h3⟩ => ⟨v, _, h1, h2, h3⟩) w)
        clear hl hf
        go_wp2_with fail
        refine (HO.out _).mono ?_
        rintro e w1 ⟨rfl, bl⟩
        have hbw1 := below_trans hbw bl hbw.size
        clear hnx
        go_wp2_with fail
        go_ret2
        exact ⟨.inr ⟨.inr HN.out, rfl⟩, hbw1⟩
      · have HF : Hid (FirstAt s k) := ⟨hk, hlo, hno⟩
        obtain ⟨r, hr⟩ := lets_head (flip32 n) k (fun i hi => by rw [HB.out i (by omega), hlo i hi]; rfl) (by rw [HB.out k hk, hno]; rfl) (25 - k)
        rw [show k + 1 + (25 - k) = 26 by omega] at hr
        obtain ⟨y, hy⟩ : ∃ y : Int, y = ((UInt8.ofNat (97 + k)).toNat : Int) := ⟨_, rfl⟩
        have HO := Lib.hid (fun w => fo_cons (n : Int) y (fun w => by
          have := others_any n hn.out w
          rw [hr] at this
          refine this.mono fun e w' ⟨v, h1, h2, h3⟩ => ?_
          rcases h2.2 with ⟨rfl, h4⟩ | ⟨g, cap, cur, rfl, h4, _⟩
          · simp at h4
          · exact ⟨g, r.length, cap, h1, h4, by rw [h2.cellAt 0 (by simp), hy]; rfl, h3⟩) w)
        have HE : Hid (Utf8.encode y = one (UInt8.ofNat (97 + k))) := by
          show _ = _
          rw [hy]
          exact enc_oneF _ (by rw [UInt8.toNat_ofNat']; omega)
        clear hr hlo hno hy
        go_wp2_with fail
        refine (HO.out _).mono ?_
        rintro e w1 ⟨rfl, bl⟩
        have hbw1 := below_trans hbw bl hbw.size
        clear hnx
        go_wp2_with fail
        go_ret2
        exact ⟨.inl ⟨HA.out, k, HF.out, by rw [← HE.out]; rfl⟩, hbw1⟩

end LawFreshName
end Go.Proofs.YtpabmidjfpabdaaGreat
