/- Texts of the proof, put together: Us. No conditions. -/
import Derived.Test.YtmfmagfgcdaeeaaGreatHae
import Derived.Deep.RegionWith

/- The names in a sign that it does not bind, changed; another name that it binds. -/
namespace Go.Proofs.YtmfmagfgcdaeeaaGreat.T1
open Go.RowKit
set_option maxRecDepth 100000
set_option linter.unusedVariables false

set_option maxHeartbeats 1000000 in
theorem wu_nothing (F : FuncId) (caps : Array Value)  (w : World) :
    Calls Tryz.prog 116 #[.iface 132 (.agg #[]), .func (.func F) #[] caps] w fun e w' => e = .returned (.iface 132 (.agg #[])) ∧ Below w.heap.size w w' := by
  go_enter Tryz.func116, Tryz.ntmps116
  go_wp2_with fail
  go_ret
  first | exact ⟨rfl, Below.refl _ _⟩ | exact ⟨rfl, (Below.refl _ _).alloc (Nat.le_refl _) _⟩
set_option maxHeartbeats 2000000 in
theorem wu_send (F : FuncId) (caps : Array Value) (hF : ∀ args w, (callFunc F args).run Tryz.prog w = .ok (.enter F args) w) (n0 n1 : Int) (tz : TypeId) (vz : Value) (m0 m1 : Int) (w : World) (H0 : ∀ v, Below w.heap.size w v → Calls Tryz.prog F (#[.int .u8 n0] ++ caps) v fun e v' => e = .returned (.int .u8 m0) ∧ v = v') (H1 : ∀ v, Below w.heap.size w v → Calls Tryz.prog F (#[.int .u8 n1] ++ caps) v fun e v' => e = .returned (.int .u8 m1) ∧ v = v') :
    Calls Tryz.prog 116 #[.iface 144 (.agg #[.int .u8 n0, .int .u8 n1, .iface tz vz]), .func (.func F) #[] caps] w fun e w' => e = .returned (.iface 144 (.agg #[.int .u8 m0, .int .u8 m1, .iface tz vz])) ∧ Below w.heap.size w w' := by
  have H0' := Lib.hid H0
  have H1' := Lib.hid H1
  clear H0 H1
  go_enter Tryz.func116, Tryz.ntmps116
  go_wp2_with fail
  go_region_with (first | ((with_reducible refine (H0'.out _ (by first | exact (Below.refl _ _).alloc (Nat.le_refl _) _ | exact ((Below.refl _ _).alloc (Nat.le_refl _) _).drew | exact ((Below.refl _ _).alloc (Nat.le_refl _) _).drew.drew)).mono ?_); rintro e v1 ⟨rfl, rfl⟩) | ((with_reducible refine (H1'.out _ (by first | exact (Below.refl _ _).alloc (Nat.le_refl _) _ | exact ((Below.refl _ _).alloc (Nat.le_refl _) _).drew | exact ((Below.refl _ _).alloc (Nat.le_refl _) _).drew.drew)).mono ?_); rintro e v1 ⟨rfl, rfl⟩))
  all_goals
    go_wp2_with fail
    go_ret
    exact ⟨rfl, ((Below.refl _ _).alloc (Nat.le_refl _) _).drew⟩
set_option maxHeartbeats 2000000 in
theorem wu_receive (F : FuncId) (caps : Array Value) (hF : ∀ args w, (callFunc F args).run Tryz.prog w = .ok (.enter F args) w) (n0 n1 : Int) (tz : TypeId) (vz : Value) (m0 : Int) (w : World) (H0 : ∀ v, Below w.heap.size w v → Calls Tryz.prog F (#[.int .u8 n0] ++ caps) v fun e v' => e = .returned (.int .u8 m0) ∧ v = v') :
    Calls Tryz.prog 116 #[.iface 142 (.agg #[.int .u8 n0, .int .u8 n1, .iface tz vz]), .func (.func F) #[] caps] w fun e w' => e = .returned (.iface 142 (.agg #[.int .u8 m0, .int .u8 n1, .iface tz vz])) ∧ Below w.heap.size w w' := by
  have H0' := Lib.hid H0
  clear H0
  go_enter Tryz.func116, Tryz.ntmps116
  go_wp2_with fail
  refine (H0'.out _ ((Below.refl _ _).alloc (Nat.le_refl _) _)).mono ?_
  rintro e v1 ⟨rfl, rfl⟩
  go_wp2_with fail
  go_ret
  exact ⟨rfl, (Below.refl _ _).alloc (Nat.le_refl _) _⟩
set_option maxHeartbeats 1000000 in
theorem wu_silent (F : FuncId) (caps : Array Value) (tz : TypeId) (vz : Value) (w : World) :
    Calls Tryz.prog 116 #[.iface 147 (.agg #[.iface tz vz]), .func (.func F) #[] caps] w fun e w' => e = .returned (.iface 147 (.agg #[.iface tz vz])) ∧ Below w.heap.size w w' := by
  go_enter Tryz.func116, Tryz.ntmps116
  go_wp2_with fail
  go_ret
  first | exact ⟨rfl, Below.refl _ _⟩ | exact ⟨rfl, (Below.refl _ _).alloc (Nat.le_refl _) _⟩
set_option maxHeartbeats 1000000 in
theorem wu_choice (F : FuncId) (caps : Array Value) (tz ty : TypeId) (vz vy : Value) (w : World) :
    Calls Tryz.prog 116 #[.iface 93 (.agg #[.iface tz vz, .iface ty vy]), .func (.func F) #[] caps] w fun e w' => e = .returned (.iface 93 (.agg #[.iface tz vz, .iface ty vy])) ∧ Below w.heap.size w w' := by
  go_enter Tryz.func116, Tryz.ntmps116
  go_wp2_with fail
  go_ret
  first | exact ⟨rfl, Below.refl _ _⟩ | exact ⟨rfl, (Below.refl _ _).alloc (Nat.le_refl _) _⟩
set_option maxHeartbeats 1000000 in
theorem wu_beside (F : FuncId) (caps : Array Value) (tz ty : TypeId) (vz vy : Value) (w : World) :
    Calls Tryz.prog 116 #[.iface 92 (.agg #[.iface tz vz, .iface ty vy]), .func (.func F) #[] caps] w fun e w' => e = .returned (.iface 92 (.agg #[.iface tz vz, .iface ty vy])) ∧ Below w.heap.size w w' := by
  go_enter Tryz.func116, Tryz.ntmps116
  go_wp2_with fail
  go_ret
  first | exact ⟨rfl, Below.refl _ _⟩ | exact ⟨rfl, (Below.refl _ _).alloc (Nat.le_refl _) _⟩
set_option maxHeartbeats 1000000 in
theorem wu_own (F : FuncId) (caps : Array Value) (n0 : Int) (tz : TypeId) (vz : Value) (w : World) :
    Calls Tryz.prog 116 #[.iface 100 (.agg #[.int .u8 n0, .iface tz vz]), .func (.func F) #[] caps] w fun e w' => e = .returned (.iface 100 (.agg #[.int .u8 n0, .iface tz vz])) ∧ Below w.heap.size w w' := by
  go_enter Tryz.func116, Tryz.ntmps116
  go_wp2_with fail
  go_ret
  first | exact ⟨rfl, Below.refl _ _⟩ | exact ⟨rfl, (Below.refl _ _).alloc (Nat.le_refl _) _⟩
set_option maxHeartbeats 2000000 in
theorem wu_match (F : FuncId) (caps : Array Value) (hF : ∀ args w, (callFunc F args).run Tryz.prog w = .ok (.enter F args) w) (n0 n1 : Int) (tz : TypeId) (vz : Value) (m0 m1 : Int) (w : World) (H0 : ∀ v, Below w.heap.size w v → Calls Tryz.prog F (#[.int .u8 n0] ++ caps) v fun e v' => e = .returned (.int .u8 m0) ∧ v = v') (H1 : ∀ v, Below w.heap.size w v → Calls Tryz.prog F (#[.int .u8 n1] ++ caps) v fun e v' => e = .returned (.int .u8 m1) ∧ v = v') :
    Calls Tryz.prog 116 #[.iface 146 (.agg #[.int .u8 n0, .int .u8 n1, .iface tz vz]), .func (.func F) #[] caps] w fun e w' => e = .returned (.iface 146 (.agg #[.int .u8 m0, .int .u8 m1, .iface tz vz])) ∧ Below w.heap.size w w' := by
  have H0' := Lib.hid H0
  have H1' := Lib.hid H1
  clear H0 H1
  go_enter Tryz.func116, Tryz.ntmps116
  go_wp2_with fail
  go_region_with (first | ((with_reducible refine (H0'.out _ (by first | exact (Below.refl _ _).alloc (Nat.le_refl _) _ | exact ((Below.refl _ _).alloc (Nat.le_refl _) _).drew | exact ((Below.refl _ _).alloc (Nat.le_refl _) _).drew.drew)).mono ?_); rintro e v1 ⟨rfl, rfl⟩) | ((with_reducible refine (H1'.out _ (by first | exact (Below.refl _ _).alloc (Nat.le_refl _) _ | exact ((Below.refl _ _).alloc (Nat.le_refl _) _).drew | exact ((Below.refl _ _).alloc (Nat.le_refl _) _).drew.drew)).mono ?_); rintro e v1 ⟨rfl, rfl⟩))
  all_goals
    go_wp2_with fail
    go_ret
    exact ⟨rfl, ((Below.refl _ _).alloc (Nat.le_refl _) _).drew⟩
set_option maxHeartbeats 1000000 in
theorem wu_repeat (F : FuncId) (caps : Array Value) (tz : TypeId) (vz : Value) (w : World) :
    Calls Tryz.prog 116 #[.iface 103 (.agg #[.iface tz vz]), .func (.func F) #[] caps] w fun e w' => e = .returned (.iface 103 (.agg #[.iface tz vz])) ∧ Below w.heap.size w w' := by
  go_enter Tryz.func116, Tryz.ntmps116
  go_wp2_with fail
  go_ret
  first | exact ⟨rfl, Below.refl _ _⟩ | exact ⟨rfl, (Below.refl _ _).alloc (Nat.le_refl _) _⟩

/-- The names in the sign itself that it does not bind, changed. -/
def Tm.mapU (f : UInt8 → UInt8) : Tm → Tm
  | .snd a b p => .snd (f a) (f b) p
  | .rcv a x p => .rcv (f a) x p
  | .mat a b p => .mat (f a) (f b) p
  | t => t
/-- Those names. -/
def Tm.used : Tm → List UInt8
  | .snd a b _ => [a, b]
  | .rcv a _ _ => [a]
  | .mat a b _ => [a, b]
  | _ => []
theorem withUsed_any (t : Tm) (F : FuncId) (caps : Array Value) (f : UInt8 → UInt8) (hF : ∀ args w, (callFunc F args).run Tryz.prog w = .ok (.enter F args) w) (w : World)
    (HC : ∀ c, c ∈ t.used → ∀ v, Below w.heap.size w v → Calls Tryz.prog F (#[.int .u8 (c.toNat : Int)] ++ caps) v fun e v' => e = .returned (.int .u8 ((f c).toNat : Int)) ∧ v = v') :
    Calls Tryz.prog 116 #[.iface (tyOf t) (pay t), .func (.func F) #[] caps] w fun e w' => e = .returned (.iface (tyOf (t.mapU f)) (pay (t.mapU f))) ∧ Below w.heap.size w w' := by
  cases t with
  | nil  => exact wu_nothing F caps w
  | snd a b p => exact wu_send F caps hF _ _ _ _ _ _ w (HC a (by simp [Tm.used])) (HC b (by simp [Tm.used]))
  | rcv a x p => exact wu_receive F caps hF _ _ _ _ _ w (HC a (by simp [Tm.used]))
  | tau p => exact wu_silent F caps _ _ w
  | sum p q => exact wu_choice F caps _ _ _ _ w
  | par p q => exact wu_beside F caps _ _ _ _ w
  | own x p => exact wu_own F caps _ _ _ w
  | mat a b p => exact wu_match F caps hF _ _ _ _ _ _ w (HC a (by simp [Tm.used])) (HC b (by simp [Tm.used]))
  | rep p => exact wu_repeat F caps _ _ w
set_option maxHeartbeats 1000000 in
theorem wb_receive (n0 n1 : Int) (tz : TypeId) (vz : Value) (m : Int) (w : World) :
    Calls Tryz.prog 118 #[.iface 142 (.agg #[.int .u8 n0, .int .u8 n1, .iface tz vz]), .int .u8 m] w fun e w' => e = .returned (.iface 142 (.agg #[.int .u8 n0, .int .u8 m, .iface tz vz])) ∧ Below w.heap.size w w' := by
  go_enter Tryz.func118, Tryz.ntmps118
  go_wp2_with fail
  go_ret
  first | exact ⟨rfl, Below.refl _ _⟩ | exact ⟨rfl, (Below.refl _ _).alloc (Nat.le_refl _) _⟩
set_option maxHeartbeats 1000000 in
theorem wb_own (n0 : Int) (tz : TypeId) (vz : Value) (m : Int) (w : World) :
    Calls Tryz.prog 118 #[.iface 100 (.agg #[.int .u8 n0, .iface tz vz]), .int .u8 m] w fun e w' => e = .returned (.iface 100 (.agg #[.int .u8 m, .iface tz vz])) ∧ Below w.heap.size w w' := by
  go_enter Tryz.func118, Tryz.ntmps118
  go_wp2_with fail
  go_ret
  first | exact ⟨rfl, Below.refl _ _⟩ | exact ⟨rfl, (Below.refl _ _).alloc (Nat.le_refl _) _⟩

end Go.Proofs.YtmfmagfgcdaeeaaGreat.T1
