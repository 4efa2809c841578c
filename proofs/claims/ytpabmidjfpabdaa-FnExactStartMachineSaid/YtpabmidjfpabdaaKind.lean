/- The kind of a sign, asked through its interface; one byte as a text. -/
import Derived.Test.YtpabmidjfpabdaaNm
import Derived.Test.YtpabmidjfpabdaaGood
import Derived.Laws.IdiomStrings
namespace Go.Proofs.Ytpabmidjfpabdaa.T1
open Go.RowKit
set_option maxRecDepth 100000

/-- What is known of a sign whose kind is asked. -/
structure KindFact (T : TypeId) (V : Value) (k : ByteArray) : Prop where
  pf : ∃ (F : FuncId) (R : Value), (∀ n w, (method (n + 1) T V "loop.example/g01175/impl.kind").run Try.prog w = .ok (F, R) w) ∧ (∀ n w, (nilAhead (n + 1) T V "loop.example/g01175/impl.kind").run Try.prog w = .ok (some false) w) ∧ (∀ args w, (callFunc F args).run Try.prog w = .ok (.enter F args) w) ∧ ∀ w, Calls Try.prog F #[R] w fun e w' => e = .returned (.string k) ∧ Below w.heap.size w w'

theorem mk_nothing (n : Nat) (w : World) : (method (n + 1) 79 (.agg #[]) "loop.example/g01175/impl.kind").run Try.prog w = .ok (81, .agg #[]) w := by kernel_rfl
theorem nk_nothing (n : Nat) (w : World) : (nilAhead (n + 1) 79 (.agg #[]) "loop.example/g01175/impl.kind").run Try.prog w = .ok (some false) w := by kernel_rfl
theorem ck_nothing (args : Array Value) (w : World) : (callFunc 81 args).run Try.prog w = .ok (.enter 81 args) w := by kernel_rfl
theorem kd_nothing (w : World) : Calls Try.prog 81 #[.agg #[]] w fun e w' => e = .returned (.string (one 48)) ∧ Below w.heap.size w w' := by
  go_enter Try.func81, Try.ntmps81
  go_wp2_with fail
  go_ret
  exact ⟨rfl, by first | exact Below.refl _ _ | exact (Below.refl _ _).alloc (Nat.le_refl _) _⟩
theorem mk_send (n0 : Int) (n1 : Int) (t2 : TypeId) (v2 : Value) (n : Nat) (w : World) : (method (n + 1) 86 (.agg #[.int .u8 n0, .int .u8 n1, .iface t2 v2]) "loop.example/g01175/impl.kind").run Try.prog w = .ok (84, .agg #[.int .u8 n0, .int .u8 n1, .iface t2 v2]) w := by kernel_rfl
theorem nk_send (n0 : Int) (n1 : Int) (t2 : TypeId) (v2 : Value) (n : Nat) (w : World) : (nilAhead (n + 1) 86 (.agg #[.int .u8 n0, .int .u8 n1, .iface t2 v2]) "loop.example/g01175/impl.kind").run Try.prog w = .ok (some false) w := by kernel_rfl
theorem ck_send (args : Array Value) (w : World) : (callFunc 84 args).run Try.prog w = .ok (.enter 84 args) w := by kernel_rfl
theorem kd_send (n0 : Int) (n1 : Int) (t2 : TypeId) (v2 : Value) (w : World) : Calls Try.prog 84 #[.agg #[.int .u8 n0, .int .u8 n1, .iface t2 v2]] w fun e w' => e = .returned (.string (one 33)) ∧ Below w.heap.size w w' := by
  go_enter Try.func84, Try.ntmps84
  go_wp2_with fail
  go_ret
  exact ⟨rfl, by first | exact Below.refl _ _ | exact (Below.refl _ _).alloc (Nat.le_refl _) _⟩
theorem mk_receive (n0 : Int) (n1 : Int) (t2 : TypeId) (v2 : Value) (n : Nat) (w : World) : (method (n + 1) 88 (.agg #[.int .u8 n0, .int .u8 n1, .iface t2 v2]) "loop.example/g01175/impl.kind").run Try.prog w = .ok (85, .agg #[.int .u8 n0, .int .u8 n1, .iface t2 v2]) w := by kernel_rfl
theorem nk_receive (n0 : Int) (n1 : Int) (t2 : TypeId) (v2 : Value) (n : Nat) (w : World) : (nilAhead (n + 1) 88 (.agg #[.int .u8 n0, .int .u8 n1, .iface t2 v2]) "loop.example/g01175/impl.kind").run Try.prog w = .ok (some false) w := by kernel_rfl
theorem ck_receive (args : Array Value) (w : World) : (callFunc 85 args).run Try.prog w = .ok (.enter 85 args) w := by kernel_rfl
theorem kd_receive (n0 : Int) (n1 : Int) (t2 : TypeId) (v2 : Value) (w : World) : Calls Try.prog 85 #[.agg #[.int .u8 n0, .int .u8 n1, .iface t2 v2]] w fun e w' => e = .returned (.string (one 63)) ∧ Below w.heap.size w w' := by
  go_enter Try.func85, Try.ntmps85
  go_wp2_with fail
  go_ret
  exact ⟨rfl, by first | exact Below.refl _ _ | exact (Below.refl _ _).alloc (Nat.le_refl _) _⟩
theorem mk_match (n0 : Int) (n1 : Int) (t2 : TypeId) (v2 : Value) (n : Nat) (w : World) : (method (n + 1) 93 (.agg #[.int .u8 n0, .int .u8 n1, .iface t2 v2]) "loop.example/g01175/impl.kind").run Try.prog w = .ok (88, .agg #[.int .u8 n0, .int .u8 n1, .iface t2 v2]) w := by kernel_rfl
theorem nk_match (n0 : Int) (n1 : Int) (t2 : TypeId) (v2 : Value) (n : Nat) (w : World) : (nilAhead (n + 1) 93 (.agg #[.int .u8 n0, .int .u8 n1, .iface t2 v2]) "loop.example/g01175/impl.kind").run Try.prog w = .ok (some false) w := by kernel_rfl
theorem ck_match (args : Array Value) (w : World) : (callFunc 88 args).run Try.prog w = .ok (.enter 88 args) w := by kernel_rfl
theorem kd_match (n0 : Int) (n1 : Int) (t2 : TypeId) (v2 : Value) (w : World) : Calls Try.prog 88 #[.agg #[.int .u8 n0, .int .u8 n1, .iface t2 v2]] w fun e w' => e = .returned (.string (one 61)) ∧ Below w.heap.size w w' := by
  go_enter Try.func88, Try.ntmps88
  go_wp2_with fail
  go_ret
  exact ⟨rfl, by first | exact Below.refl _ _ | exact (Below.refl _ _).alloc (Nat.le_refl _) _⟩
theorem mk_own (n0 : Int) (t1 : TypeId) (v1 : Value) (n : Nat) (w : World) : (method (n + 1) 91 (.agg #[.int .u8 n0, .iface t1 v1]) "loop.example/g01175/impl.kind").run Try.prog w = .ok (87, .agg #[.int .u8 n0, .iface t1 v1]) w := by kernel_rfl
theorem nk_own (n0 : Int) (t1 : TypeId) (v1 : Value) (n : Nat) (w : World) : (nilAhead (n + 1) 91 (.agg #[.int .u8 n0, .iface t1 v1]) "loop.example/g01175/impl.kind").run Try.prog w = .ok (some false) w := by kernel_rfl
theorem ck_own (args : Array Value) (w : World) : (callFunc 87 args).run Try.prog w = .ok (.enter 87 args) w := by kernel_rfl
theorem kd_own (n0 : Int) (t1 : TypeId) (v1 : Value) (w : World) : Calls Try.prog 87 #[.agg #[.int .u8 n0, .iface t1 v1]] w fun e w' => e = .returned (.string (one 35)) ∧ Below w.heap.size w w' := by
  go_enter Try.func87, Try.ntmps87
  go_wp2_with fail
  go_ret
  exact ⟨rfl, by first | exact Below.refl _ _ | exact (Below.refl _ _).alloc (Nat.le_refl _) _⟩
theorem mk_silent (t0 : TypeId) (v0 : Value) (n : Nat) (w : World) : (method (n + 1) 89 (.agg #[.iface t0 v0]) "loop.example/g01175/impl.kind").run Try.prog w = .ok (86, .agg #[.iface t0 v0]) w := by kernel_rfl
theorem nk_silent (t0 : TypeId) (v0 : Value) (n : Nat) (w : World) : (nilAhead (n + 1) 89 (.agg #[.iface t0 v0]) "loop.example/g01175/impl.kind").run Try.prog w = .ok (some false) w := by kernel_rfl
theorem ck_silent (args : Array Value) (w : World) : (callFunc 86 args).run Try.prog w = .ok (.enter 86 args) w := by kernel_rfl
theorem kd_silent (t0 : TypeId) (v0 : Value) (w : World) : Calls Try.prog 86 #[.agg #[.iface t0 v0]] w fun e w' => e = .returned (.string (one 126)) ∧ Below w.heap.size w w' := by
  go_enter Try.func86, Try.ntmps86
  go_wp2_with fail
  go_ret
  exact ⟨rfl, by first | exact Below.refl _ _ | exact (Below.refl _ _).alloc (Nat.le_refl _) _⟩
theorem mk_repeat (t0 : TypeId) (v0 : Value) (n : Nat) (w : World) : (method (n + 1) 65 (.agg #[.iface t0 v0]) "loop.example/g01175/impl.kind").run Try.prog w = .ok (78, .agg #[.iface t0 v0]) w := by kernel_rfl
theorem nk_repeat (t0 : TypeId) (v0 : Value) (n : Nat) (w : World) : (nilAhead (n + 1) 65 (.agg #[.iface t0 v0]) "loop.example/g01175/impl.kind").run Try.prog w = .ok (some false) w := by kernel_rfl
theorem ck_repeat (args : Array Value) (w : World) : (callFunc 78 args).run Try.prog w = .ok (.enter 78 args) w := by kernel_rfl
theorem kd_repeat (t0 : TypeId) (v0 : Value) (w : World) : Calls Try.prog 78 #[.agg #[.iface t0 v0]] w fun e w' => e = .returned (.string (one 42)) ∧ Below w.heap.size w w' := by
  go_enter Try.func78, Try.ntmps78
  go_wp2_with fail
  go_ret
  exact ⟨rfl, by first | exact Below.refl _ _ | exact (Below.refl _ _).alloc (Nat.le_refl _) _⟩
theorem mk_choice (t0 : TypeId) (v0 : Value) (t1 : TypeId) (v1 : Value) (n : Nat) (w : World) : (method (n + 1) 77 (.agg #[.iface t0 v0, .iface t1 v1]) "loop.example/g01175/impl.kind").run Try.prog w = .ok (80, .agg #[.iface t0 v0, .iface t1 v1]) w := by kernel_rfl
theorem nk_choice (t0 : TypeId) (v0 : Value) (t1 : TypeId) (v1 : Value) (n : Nat) (w : World) : (nilAhead (n + 1) 77 (.agg #[.iface t0 v0, .iface t1 v1]) "loop.example/g01175/impl.kind").run Try.prog w = .ok (some false) w := by kernel_rfl
theorem ck_choice (args : Array Value) (w : World) : (callFunc 80 args).run Try.prog w = .ok (.enter 80 args) w := by kernel_rfl
theorem kd_choice (t0 : TypeId) (v0 : Value) (t1 : TypeId) (v1 : Value) (w : World) : Calls Try.prog 80 #[.agg #[.iface t0 v0, .iface t1 v1]] w fun e w' => e = .returned (.string (one 43)) ∧ Below w.heap.size w w' := by
  go_enter Try.func80, Try.ntmps80
  go_wp2_with fail
  go_ret
  exact ⟨rfl, by first | exact Below.refl _ _ | exact (Below.refl _ _).alloc (Nat.le_refl _) _⟩
theorem mk_beside (t0 : TypeId) (v0 : Value) (t1 : TypeId) (v1 : Value) (n : Nat) (w : World) : (method (n + 1) 81 (.agg #[.iface t0 v0, .iface t1 v1]) "loop.example/g01175/impl.kind").run Try.prog w = .ok (83, .agg #[.iface t0 v0, .iface t1 v1]) w := by kernel_rfl
theorem nk_beside (t0 : TypeId) (v0 : Value) (t1 : TypeId) (v1 : Value) (n : Nat) (w : World) : (nilAhead (n + 1) 81 (.agg #[.iface t0 v0, .iface t1 v1]) "loop.example/g01175/impl.kind").run Try.prog w = .ok (some false) w := by kernel_rfl
theorem ck_beside (args : Array Value) (w : World) : (callFunc 83 args).run Try.prog w = .ok (.enter 83 args) w := by kernel_rfl
theorem kd_beside (t0 : TypeId) (v0 : Value) (t1 : TypeId) (v1 : Value) (w : World) : Calls Try.prog 83 #[.agg #[.iface t0 v0, .iface t1 v1]] w fun e w' => e = .returned (.string (one 38)) ∧ Below w.heap.size w w' := by
  go_enter Try.func83, Try.ntmps83
  go_wp2_with fail
  go_ret
  exact ⟨rfl, by first | exact Below.refl _ _ | exact (Below.refl _ _).alloc (Nat.le_refl _) _⟩
theorem kind_fact (t : Tm) : KindFact (tyOf t) (pay t) (one t.kind) := by
  cases t with
  | nil => exact ⟨_, _, mk_nothing, nk_nothing, ck_nothing, kd_nothing⟩
  | snd a b p => exact ⟨_, _, mk_send _ _ _ _, nk_send _ _ _ _, ck_send, kd_send _ _ _ _⟩
  | rcv a b p => exact ⟨_, _, mk_receive _ _ _ _, nk_receive _ _ _ _, ck_receive, kd_receive _ _ _ _⟩
  | tau p => exact ⟨_, _, mk_silent _ _, nk_silent _ _, ck_silent, kd_silent _ _⟩
  | sum p q => exact ⟨_, _, mk_choice _ _ _ _, nk_choice _ _ _ _, ck_choice, kd_choice _ _ _ _⟩
  | par p q => exact ⟨_, _, mk_beside _ _ _ _, nk_beside _ _ _ _, ck_beside, kd_beside _ _ _ _⟩
  | own x p => exact ⟨_, _, mk_own _ _ _, nk_own _ _ _, ck_own, kd_own _ _ _⟩
  | mat a b p => exact ⟨_, _, mk_match _ _ _ _, nk_match _ _ _ _, ck_match, kd_match _ _ _ _⟩
  | rep p => exact ⟨_, _, mk_repeat _ _, nk_repeat _ _, ck_repeat, kd_repeat _ _⟩

end Go.Proofs.Ytpabmidjfpabdaa.T1
