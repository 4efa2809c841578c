/- Texts of the proof, put together: Parts. No conditions. -/
import Derived.Test.YtinkioodkgccjaaDoorHaj

/- The parts of a sign, asked through its interface. -/
namespace Go.Proofs.YtinkioodkgccjaaDoor.T1
open Go.RowKit
set_option maxRecDepth 100000

/-- A slice that holds the given parts, in memory of the call's own. -/
def PartsPost (ps : List Tm) (w : World) (e : Ending) (w' : World) : Prop :=
  match ps with
  | [] => e = .returned (.slice none 0 0) ∧ Below w.heap.size w w'
  | [p] => ∃ b, e = .returned (.slice (some ⟨b, 0, none⟩) 1 1) ∧ w.heap.size ≤ b ∧ w'.heap[b]? = some (.cells #[.iface (tyOf p) (pay p)] 30 (0, 0)) ∧ Below w.heap.size w w'
  | [p, q] => ∃ b, e = .returned (.slice (some ⟨b, 0, none⟩) 2 2) ∧ w.heap.size ≤ b ∧ w'.heap[b]? = some (.cells #[.iface (tyOf p) (pay p), .iface (tyOf q) (pay q)] 30 (0, 0)) ∧ Below w.heap.size w w'
  | _ => False

/-- What is known of a sign whose parts are asked: which function answers, over which receiver, and what. -/
structure PartsFact (T : TypeId) (V : Value) (ps : List Tm) : Prop where
  pf : ∃ (F : FuncId) (R : Value), (∀ n w, (method (n + 1) T V "loop.example/g01175/impl.parts").run Tryd.prog w = .ok (F, R) w) ∧ (∀ n w, (nilAhead (n + 1) T V "loop.example/g01175/impl.parts").run Tryd.prog w = .ok (some false) w) ∧ (∀ args w, (callFunc F args).run Tryd.prog w = .ok (.enter F args) w) ∧ ∀ w, Calls Tryd.prog F #[R] w (PartsPost ps w)

theorem last_block (w : World) (o o' : Obj) : ((w.alloc o).alloc o').heap[w.heap.size + 1]? = some o' := by
  show ((w.heap.push o).push o')[w.heap.size + 1]? = _
  rw [Array.getElem?_push, if_pos (by simp)]

theorem nothing_parts (w : World) : Calls Tryd.prog 123 #[.agg #[]] w (PartsPost [] w) := by
  go_enter Tryd.func123, Tryd.ntmps123
  go_wp2_with fail
  go_ret
  exact ⟨rfl, by first | exact Below.refl _ _ | exact (Below.refl _ _).alloc (Nat.le_refl _) _⟩
theorem single_parts0 (tz : TypeId) (vz : Value) (w : World) : Calls Tryd.prog 111 #[.agg #[.iface tz vz]] w fun e w' => e = .returned (.slice (some ⟨w.heap.size + 1, 0, none⟩) 1 1) ∧ (w.alloc (.cells #[.iface tz vz] 49)).alloc (.cells #[.iface tz vz] 30) = w' := by
  go_enter Tryd.func111, Tryd.ntmps111
  go_wp2_with fail
  go_ret
  exact ⟨rfl, rfl⟩
theorem pair_parts0 (tz : TypeId) (vz : Value) (ty : TypeId) (vy : Value) (w : World) : Calls Tryd.prog 117 #[.agg #[.iface tz vz, .iface ty vy]] w fun e w' => e = .returned (.slice (some ⟨w.heap.size + 1, 0, none⟩) 2 2) ∧ (w.alloc (.cells #[.iface tz vz, .iface ty vy] 96)).alloc (.cells #[.iface tz vz, .iface ty vy] 30) = w' := by
  go_enter Tryd.func117, Tryd.ntmps117
  go_wp2_with fail
  go_ret
  exact ⟨rfl, rfl⟩

theorem below_two (w : World) (o o' : Obj) : Below w.heap.size w ((w.alloc o).alloc o') := ((Below.refl _ _).alloc (Nat.le_refl _) o).alloc (by simp) o'
theorem single_parts (p : Tm) (w : World) : Calls Tryd.prog 111 #[.agg #[.iface (tyOf p) (pay p)]] w (PartsPost [p] w) := by
  refine (single_parts0 _ _ w).mono ?_
  rintro e w' ⟨rfl, rfl⟩
  exact ⟨_, rfl, by omega, last_block _ _ _, below_two _ _ _⟩
theorem pair_parts (p q : Tm) (w : World) : Calls Tryd.prog 117 #[.agg #[.iface (tyOf p) (pay p), .iface (tyOf q) (pay q)]] w (PartsPost [p, q] w) := by
  refine (pair_parts0 _ _ _ _ w).mono ?_
  rintro e w' ⟨rfl, rfl⟩
  exact ⟨_, rfl, by omega, last_block _ _ _, below_two _ _ _⟩

theorem mp_nothing (n : Nat) (w : World) : (method (n + 1) 105 (.agg #[]) "loop.example/g01175/impl.parts").run Tryd.prog w = .ok (123, .agg #[]) w := by kernel_rfl
theorem np_nothing (n : Nat) (w : World) : (nilAhead (n + 1) 105 (.agg #[]) "loop.example/g01175/impl.parts").run Tryd.prog w = .ok (some false) w := by kernel_rfl
theorem mp_send (x y z : Value) (n : Nat) (w : World) : (method (n + 1) 53 (.agg #[x, y, z]) "loop.example/g01175/impl.parts").run Tryd.prog w = .ok (111, .agg #[z]) w := by kernel_rfl
theorem np_send (x y z : Value) (n : Nat) (w : World) : (nilAhead (n + 1) 53 (.agg #[x, y, z]) "loop.example/g01175/impl.parts").run Tryd.prog w = .ok (some false) w := by kernel_rfl
theorem mp_receive (x y z : Value) (n : Nat) (w : World) : (method (n + 1) 67 (.agg #[x, y, z]) "loop.example/g01175/impl.parts").run Tryd.prog w = .ok (111, .agg #[z]) w := by kernel_rfl
theorem np_receive (x y z : Value) (n : Nat) (w : World) : (nilAhead (n + 1) 67 (.agg #[x, y, z]) "loop.example/g01175/impl.parts").run Tryd.prog w = .ok (some false) w := by kernel_rfl
theorem mp_match (x y z : Value) (n : Nat) (w : World) : (method (n + 1) 101 (.agg #[x, y, z]) "loop.example/g01175/impl.parts").run Tryd.prog w = .ok (111, .agg #[z]) w := by kernel_rfl
theorem np_match (x y z : Value) (n : Nat) (w : World) : (nilAhead (n + 1) 101 (.agg #[x, y, z]) "loop.example/g01175/impl.parts").run Tryd.prog w = .ok (some false) w := by kernel_rfl
theorem mp_own (x z : Value) (n : Nat) (w : World) : (method (n + 1) 51 (.agg #[x, z]) "loop.example/g01175/impl.parts").run Tryd.prog w = .ok (111, .agg #[z]) w := by kernel_rfl
theorem np_own (x z : Value) (n : Nat) (w : World) : (nilAhead (n + 1) 51 (.agg #[x, z]) "loop.example/g01175/impl.parts").run Tryd.prog w = .ok (some false) w := by kernel_rfl
theorem mp_silent (z : Value) (n : Nat) (w : World) : (method (n + 1) 94 (.agg #[z]) "loop.example/g01175/impl.parts").run Tryd.prog w = .ok (111, .agg #[z]) w := by kernel_rfl
theorem np_silent (z : Value) (n : Nat) (w : World) : (nilAhead (n + 1) 94 (.agg #[z]) "loop.example/g01175/impl.parts").run Tryd.prog w = .ok (some false) w := by kernel_rfl
theorem mp_repeat (z : Value) (n : Nat) (w : World) : (method (n + 1) 102 (.agg #[z]) "loop.example/g01175/impl.parts").run Tryd.prog w = .ok (111, .agg #[z]) w := by kernel_rfl
theorem np_repeat (z : Value) (n : Nat) (w : World) : (nilAhead (n + 1) 102 (.agg #[z]) "loop.example/g01175/impl.parts").run Tryd.prog w = .ok (some false) w := by kernel_rfl
theorem mp_choice (z y : Value) (n : Nat) (w : World) : (method (n + 1) 98 (.agg #[z, y]) "loop.example/g01175/impl.parts").run Tryd.prog w = .ok (117, .agg #[z, y]) w := by kernel_rfl
theorem np_choice (z y : Value) (n : Nat) (w : World) : (nilAhead (n + 1) 98 (.agg #[z, y]) "loop.example/g01175/impl.parts").run Tryd.prog w = .ok (some false) w := by kernel_rfl
theorem mp_beside (z y : Value) (n : Nat) (w : World) : (method (n + 1) 99 (.agg #[z, y]) "loop.example/g01175/impl.parts").run Tryd.prog w = .ok (117, .agg #[z, y]) w := by kernel_rfl
theorem np_beside (z y : Value) (n : Nat) (w : World) : (nilAhead (n + 1) 99 (.agg #[z, y]) "loop.example/g01175/impl.parts").run Tryd.prog w = .ok (some false) w := by kernel_rfl
theorem cf_np (args : Array Value) (w : World) : (callFunc 123 args).run Tryd.prog w = .ok (.enter 123 args) w := by kernel_rfl
theorem cf_sp (args : Array Value) (w : World) : (callFunc 111 args).run Tryd.prog w = .ok (.enter 111 args) w := by kernel_rfl
theorem cf_pp (args : Array Value) (w : World) : (callFunc 117 args).run Tryd.prog w = .ok (.enter 117 args) w := by kernel_rfl
theorem parts_fact (t : Tm) : PartsFact (tyOf t) (pay t) t.parts := by
  cases t with
  | nil => exact ⟨_, _, mp_nothing, np_nothing, cf_np, nothing_parts⟩
  | snd a b p => exact ⟨_, _, mp_send _ _ _, np_send _ _ _, cf_sp, single_parts p⟩
  | rcv a b p => exact ⟨_, _, mp_receive _ _ _, np_receive _ _ _, cf_sp, single_parts p⟩
  | tau p => exact ⟨_, _, mp_silent _, np_silent _, cf_sp, single_parts p⟩
  | sum p q => exact ⟨_, _, mp_choice _ _, np_choice _ _, cf_pp, pair_parts p q⟩
  | par p q => exact ⟨_, _, mp_beside _ _, np_beside _ _, cf_pp, pair_parts p q⟩
  | own x p => exact ⟨_, _, mp_own _ _, np_own _ _, cf_sp, single_parts p⟩
  | mat a b p => exact ⟨_, _, mp_match _ _ _, np_match _ _ _, cf_sp, single_parts p⟩
  | rep p => exact ⟨_, _, mp_repeat _, np_repeat _, cf_sp, single_parts p⟩

end Go.Proofs.YtinkioodkgccjaaDoor.T1
