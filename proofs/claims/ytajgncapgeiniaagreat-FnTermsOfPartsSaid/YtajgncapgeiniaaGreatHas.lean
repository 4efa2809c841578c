/- Texts of the proof, put together: Kind. No conditions. -/
import Derived.Test.YtajgncapgeiniaaGreatHap
import Derived.Test.YtajgncapgeiniaaGreatHaq
import Derived.Laws.IdiomStrings

/- The kind of a sign, asked through its interface; one byte as a text. -/
namespace Go.Proofs.YtajgncapgeiniaaGreat.T1
open Go.RowKit
set_option maxRecDepth 100000

/-- What is known of a sign whose kind is asked. -/
structure KindFact (T : TypeId) (V : Value) (k : ByteArray) : Prop where
  pf : ∃ (F : FuncId) (R : Value), (∀ n w, (method (n + 1) T V "loop.example/g01175/impl.kind").run Tryz.prog w = .ok (F, R) w) ∧ (∀ n w, (nilAhead (n + 1) T V "loop.example/g01175/impl.kind").run Tryz.prog w = .ok (some false) w) ∧ (∀ args w, (callFunc F args).run Tryz.prog w = .ok (.enter F args) w) ∧ ∀ w, Calls Tryz.prog F #[R] w fun e w' => e = .returned (.string k) ∧ Below w.heap.size w w'

theorem mk_nothing (n : Nat) (w : World) : (method (n + 1) 125 (.agg #[]) "loop.example/g01175/impl.kind").run Tryz.prog w = .ok (164, .agg #[]) w := by kernel_rfl
theorem nk_nothing (n : Nat) (w : World) : (nilAhead (n + 1) 125 (.agg #[]) "loop.example/g01175/impl.kind").run Tryz.prog w = .ok (some false) w := by kernel_rfl
theorem ck_nothing (args : Array Value) (w : World) : (callFunc 164 args).run Tryz.prog w = .ok (.enter 164 args) w := by kernel_rfl
theorem kd_nothing (w : World) : Calls Tryz.prog 164 #[.agg #[]] w fun e w' => e = .returned (.string (one 48)) ∧ Below w.heap.size w w' := by
  go_enter Tryz.func164, Tryz.ntmps164
  go_wp2_with fail
  go_ret
  exact ⟨rfl, by first | exact Below.refl _ _ | exact (Below.refl _ _).alloc (Nat.le_refl _) _⟩
theorem mk_send (n0 : Int) (n1 : Int) (t2 : TypeId) (v2 : Value) (n : Nat) (w : World) : (method (n + 1) 129 (.agg #[.int .u8 n0, .int .u8 n1, .iface t2 v2]) "loop.example/g01175/impl.kind").run Tryz.prog w = .ok (167, .agg #[.int .u8 n0, .int .u8 n1, .iface t2 v2]) w := by kernel_rfl
theorem nk_send (n0 : Int) (n1 : Int) (t2 : TypeId) (v2 : Value) (n : Nat) (w : World) : (nilAhead (n + 1) 129 (.agg #[.int .u8 n0, .int .u8 n1, .iface t2 v2]) "loop.example/g01175/impl.kind").run Tryz.prog w = .ok (some false) w := by kernel_rfl
theorem ck_send (args : Array Value) (w : World) : (callFunc 167 args).run Tryz.prog w = .ok (.enter 167 args) w := by kernel_rfl
theorem kd_send (n0 : Int) (n1 : Int) (t2 : TypeId) (v2 : Value) (w : World) : Calls Tryz.prog 167 #[.agg #[.int .u8 n0, .int .u8 n1, .iface t2 v2]] w fun e w' => e = .returned (.string (one 33)) ∧ Below w.heap.size w w' := by
  go_enter Tryz.func167, Tryz.ntmps167
  go_wp2_with fail
  go_ret
  exact ⟨rfl, by first | exact Below.refl _ _ | exact (Below.refl _ _).alloc (Nat.le_refl _) _⟩
theorem mk_receive (n0 : Int) (n1 : Int) (t2 : TypeId) (v2 : Value) (n : Nat) (w : World) : (method (n + 1) 131 (.agg #[.int .u8 n0, .int .u8 n1, .iface t2 v2]) "loop.example/g01175/impl.kind").run Tryz.prog w = .ok (168, .agg #[.int .u8 n0, .int .u8 n1, .iface t2 v2]) w := by kernel_rfl
theorem nk_receive (n0 : Int) (n1 : Int) (t2 : TypeId) (v2 : Value) (n : Nat) (w : World) : (nilAhead (n + 1) 131 (.agg #[.int .u8 n0, .int .u8 n1, .iface t2 v2]) "loop.example/g01175/impl.kind").run Tryz.prog w = .ok (some false) w := by kernel_rfl
theorem ck_receive (args : Array Value) (w : World) : (callFunc 168 args).run Tryz.prog w = .ok (.enter 168 args) w := by kernel_rfl
theorem kd_receive (n0 : Int) (n1 : Int) (t2 : TypeId) (v2 : Value) (w : World) : Calls Tryz.prog 168 #[.agg #[.int .u8 n0, .int .u8 n1, .iface t2 v2]] w fun e w' => e = .returned (.string (one 63)) ∧ Below w.heap.size w w' := by
  go_enter Tryz.func168, Tryz.ntmps168
  go_wp2_with fail
  go_ret
  exact ⟨rfl, by first | exact Below.refl _ _ | exact (Below.refl _ _).alloc (Nat.le_refl _) _⟩
theorem mk_match (n0 : Int) (n1 : Int) (t2 : TypeId) (v2 : Value) (n : Nat) (w : World) : (method (n + 1) 136 (.agg #[.int .u8 n0, .int .u8 n1, .iface t2 v2]) "loop.example/g01175/impl.kind").run Tryz.prog w = .ok (171, .agg #[.int .u8 n0, .int .u8 n1, .iface t2 v2]) w := by kernel_rfl
theorem nk_match (n0 : Int) (n1 : Int) (t2 : TypeId) (v2 : Value) (n : Nat) (w : World) : (nilAhead (n + 1) 136 (.agg #[.int .u8 n0, .int .u8 n1, .iface t2 v2]) "loop.example/g01175/impl.kind").run Tryz.prog w = .ok (some false) w := by kernel_rfl
theorem ck_match (args : Array Value) (w : World) : (callFunc 171 args).run Tryz.prog w = .ok (.enter 171 args) w := by kernel_rfl
theorem kd_match (n0 : Int) (n1 : Int) (t2 : TypeId) (v2 : Value) (w : World) : Calls Tryz.prog 171 #[.agg #[.int .u8 n0, .int .u8 n1, .iface t2 v2]] w fun e w' => e = .returned (.string (one 61)) ∧ Below w.heap.size w w' := by
  go_enter Tryz.func171, Tryz.ntmps171
  go_wp2_with fail
  go_ret
  exact ⟨rfl, by first | exact Below.refl _ _ | exact (Below.refl _ _).alloc (Nat.le_refl _) _⟩
theorem mk_own (n0 : Int) (t1 : TypeId) (v1 : Value) (n : Nat) (w : World) : (method (n + 1) 134 (.agg #[.int .u8 n0, .iface t1 v1]) "loop.example/g01175/impl.kind").run Tryz.prog w = .ok (170, .agg #[.int .u8 n0, .iface t1 v1]) w := by kernel_rfl
theorem nk_own (n0 : Int) (t1 : TypeId) (v1 : Value) (n : Nat) (w : World) : (nilAhead (n + 1) 134 (.agg #[.int .u8 n0, .iface t1 v1]) "loop.example/g01175/impl.kind").run Tryz.prog w = .ok (some false) w := by kernel_rfl
theorem ck_own (args : Array Value) (w : World) : (callFunc 170 args).run Tryz.prog w = .ok (.enter 170 args) w := by kernel_rfl
theorem kd_own (n0 : Int) (t1 : TypeId) (v1 : Value) (w : World) : Calls Tryz.prog 170 #[.agg #[.int .u8 n0, .iface t1 v1]] w fun e w' => e = .returned (.string (one 35)) ∧ Below w.heap.size w w' := by
  go_enter Tryz.func170, Tryz.ntmps170
  go_wp2_with fail
  go_ret
  exact ⟨rfl, by first | exact Below.refl _ _ | exact (Below.refl _ _).alloc (Nat.le_refl _) _⟩
theorem mk_silent (t0 : TypeId) (v0 : Value) (n : Nat) (w : World) : (method (n + 1) 132 (.agg #[.iface t0 v0]) "loop.example/g01175/impl.kind").run Tryz.prog w = .ok (169, .agg #[.iface t0 v0]) w := by kernel_rfl
theorem nk_silent (t0 : TypeId) (v0 : Value) (n : Nat) (w : World) : (nilAhead (n + 1) 132 (.agg #[.iface t0 v0]) "loop.example/g01175/impl.kind").run Tryz.prog w = .ok (some false) w := by kernel_rfl
theorem ck_silent (args : Array Value) (w : World) : (callFunc 169 args).run Tryz.prog w = .ok (.enter 169 args) w := by kernel_rfl
theorem kd_silent (t0 : TypeId) (v0 : Value) (w : World) : Calls Tryz.prog 169 #[.agg #[.iface t0 v0]] w fun e w' => e = .returned (.string (one 126)) ∧ Below w.heap.size w w' := by
  go_enter Tryz.func169, Tryz.ntmps169
  go_wp2_with fail
  go_ret
  exact ⟨rfl, by first | exact Below.refl _ _ | exact (Below.refl _ _).alloc (Nat.le_refl _) _⟩
theorem mk_repeat (t0 : TypeId) (v0 : Value) (n : Nat) (w : World) : (method (n + 1) 102 (.agg #[.iface t0 v0]) "loop.example/g01175/impl.kind").run Tryz.prog w = .ok (161, .agg #[.iface t0 v0]) w := by kernel_rfl
theorem nk_repeat (t0 : TypeId) (v0 : Value) (n : Nat) (w : World) : (nilAhead (n + 1) 102 (.agg #[.iface t0 v0]) "loop.example/g01175/impl.kind").run Tryz.prog w = .ok (some false) w := by kernel_rfl
theorem ck_repeat (args : Array Value) (w : World) : (callFunc 161 args).run Tryz.prog w = .ok (.enter 161 args) w := by kernel_rfl
theorem kd_repeat (t0 : TypeId) (v0 : Value) (w : World) : Calls Tryz.prog 161 #[.agg #[.iface t0 v0]] w fun e w' => e = .returned (.string (one 42)) ∧ Below w.heap.size w w' := by
  go_enter Tryz.func161, Tryz.ntmps161
  go_wp2_with fail
  go_ret
  exact ⟨rfl, by first | exact Below.refl _ _ | exact (Below.refl _ _).alloc (Nat.le_refl _) _⟩
theorem mk_choice (t0 : TypeId) (v0 : Value) (t1 : TypeId) (v1 : Value) (n : Nat) (w : World) : (method (n + 1) 107 (.agg #[.iface t0 v0, .iface t1 v1]) "loop.example/g01175/impl.kind").run Tryz.prog w = .ok (163, .agg #[.iface t0 v0, .iface t1 v1]) w := by kernel_rfl
theorem nk_choice (t0 : TypeId) (v0 : Value) (t1 : TypeId) (v1 : Value) (n : Nat) (w : World) : (nilAhead (n + 1) 107 (.agg #[.iface t0 v0, .iface t1 v1]) "loop.example/g01175/impl.kind").run Tryz.prog w = .ok (some false) w := by kernel_rfl
theorem ck_choice (args : Array Value) (w : World) : (callFunc 163 args).run Tryz.prog w = .ok (.enter 163 args) w := by kernel_rfl
theorem kd_choice (t0 : TypeId) (v0 : Value) (t1 : TypeId) (v1 : Value) (w : World) : Calls Tryz.prog 163 #[.agg #[.iface t0 v0, .iface t1 v1]] w fun e w' => e = .returned (.string (one 43)) ∧ Below w.heap.size w w' := by
  go_enter Tryz.func163, Tryz.ntmps163
  go_wp2_with fail
  go_ret
  exact ⟨rfl, by first | exact Below.refl _ _ | exact (Below.refl _ _).alloc (Nat.le_refl _) _⟩
theorem mk_beside (t0 : TypeId) (v0 : Value) (t1 : TypeId) (v1 : Value) (n : Nat) (w : World) : (method (n + 1) 127 (.agg #[.iface t0 v0, .iface t1 v1]) "loop.example/g01175/impl.kind").run Tryz.prog w = .ok (166, .agg #[.iface t0 v0, .iface t1 v1]) w := by kernel_rfl
theorem nk_beside (t0 : TypeId) (v0 : Value) (t1 : TypeId) (v1 : Value) (n : Nat) (w : World) : (nilAhead (n + 1) 127 (.agg #[.iface t0 v0, .iface t1 v1]) "loop.example/g01175/impl.kind").run Tryz.prog w = .ok (some false) w := by kernel_rfl
theorem ck_beside (args : Array Value) (w : World) : (callFunc 166 args).run Tryz.prog w = .ok (.enter 166 args) w := by kernel_rfl
theorem kd_beside (t0 : TypeId) (v0 : Value) (t1 : TypeId) (v1 : Value) (w : World) : Calls Tryz.prog 166 #[.agg #[.iface t0 v0, .iface t1 v1]] w fun e w' => e = .returned (.string (one 38)) ∧ Below w.heap.size w w' := by
  go_enter Tryz.func166, Tryz.ntmps166
  go_wp2_with fail
  go_ret
  exact ⟨rfl, by first | exact Below.refl _ _ | exact (Below.refl _ _).alloc (Nat.le_refl _) _⟩
theorem kind_fact (t : Tm) : KindFact (tyOf t) (pay t) (one t.kind) := by
  cases t with
  | nil => exact ⟨_, _, mk_nothing, nk_nothing, ck_nothing, kd_nothing⟩
  | snd a b p => exact ⟨_, _, mk_send _ _ _ _, nk_send _ _ _ _, ck_send, kd_send _ _ _ _⟩
  | rcv a b p => exact ⟨_, _, mk_receive _ _ _ _, nk_receive _ _ _ _, ck_receive, kd_receive _ _ _ _⟩
  | tau p => exact ⟨_, _, mk_silent _ _, nk_silent _ _, ck_silent, kd_silent _ _⟩
  | sum p q => exact ⟨_, _, mk_choice _ _ _ _, nk_choice _ _ _ _, ck_choice, kd_choice _ _ _ _⟩
  | par p q => exact ⟨_, _, mk_beside _ _ _ _, nk_beside _ _ _ _, ck_beside, kd_beside _ _ _ _⟩
  | own x p => exact ⟨_, _, mk_own _ _ _, nk_own _ _ _, ck_own, kd_own _ _ _⟩
  | mat a b p => exact ⟨_, _, mk_match _ _ _ _, nk_match _ _ _ _, ck_match, kd_match _ _ _ _⟩
  | rep p => exact ⟨_, _, mk_repeat _ _, nk_repeat _ _, ck_repeat, kd_repeat _ _⟩

end Go.Proofs.YtajgncapgeiniaaGreat.T1
