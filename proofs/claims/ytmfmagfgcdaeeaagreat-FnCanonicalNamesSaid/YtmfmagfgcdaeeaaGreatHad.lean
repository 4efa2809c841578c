/- Texts of the proof, put together: ImplB. No conditions. -/
import Derived.Test.YtmfmagfgcdaeeaaGreatHaa
import Derived.Test.YtmfmagfgcdaeeaaGreatHac
import Derived.Test.YtmfmagfgcdaeeaaGreatProg
import Derived.WalkKit
import Derived.WalkLawsBesides
import Derived.WalkSpells
import Derived.LoopTactic
import Derived.Lib.Hide
import Derived.RegionTactic
import Derived.BigRegion
import Derived.BigQuiet
import Derived.Deep.QuietTactic
import Derived.Outline
import Derived.IntWalk

/- A sign with other parts. -/
namespace Go.Proofs.YtmfmagfgcdaeeaaGreat.T1
open Go.RowKit
set_option maxRecDepth 100000

def IsIf (z : Value) : Prop := z = .nilIface ∨ ∃ t v, z = .iface t v

set_option maxHeartbeats 1000000 in
theorem wp_send (k0 : IntKind) (n0 : Int) (k1 : IntKind) (n1 : Int) (z : Value) (tp : TypeId) (vp : Value) (b cap : Nat) (w : World) (hz : IsIf z) (_hcap : 1 ≤ cap) (hc : w.cell? ⟨b, 0, none⟩ = some (.iface tp vp)) :
    Calls Tryz.prog 119 #[.iface 144 (.agg #[.int k0 n0, .int k1 n1, z]), .slice (some ⟨b, 0, none⟩) 1 cap] w fun e w' => e = .returned (.iface 144 (.agg #[.int k0 n0, .int k1 n1, .iface tp vp])) ∧ Below w.heap.size w w' := by
  have hb : b < w.heap.size := World.block_lt_of_cell? w _ hc
  rcases hz with rfl | ⟨tz, vz, rfl⟩
  all_goals
    go_enter Tryz.func119, Tryz.ntmps119
    go_wp2_with fail
    go_ret
    exact ⟨rfl, (Below.refl _ _).alloc (Nat.le_refl _) _⟩

set_option maxHeartbeats 1000000 in
theorem wp_receive (k0 : IntKind) (n0 : Int) (k1 : IntKind) (n1 : Int) (z : Value) (tp : TypeId) (vp : Value) (b cap : Nat) (w : World) (hz : IsIf z) (_hcap : 1 ≤ cap) (hc : w.cell? ⟨b, 0, none⟩ = some (.iface tp vp)) :
    Calls Tryz.prog 119 #[.iface 142 (.agg #[.int k0 n0, .int k1 n1, z]), .slice (some ⟨b, 0, none⟩) 1 cap] w fun e w' => e = .returned (.iface 142 (.agg #[.int k0 n0, .int k1 n1, .iface tp vp])) ∧ Below w.heap.size w w' := by
  have hb : b < w.heap.size := World.block_lt_of_cell? w _ hc
  rcases hz with rfl | ⟨tz, vz, rfl⟩
  all_goals
    go_enter Tryz.func119, Tryz.ntmps119
    go_wp2_with fail
    go_ret
    exact ⟨rfl, (Below.refl _ _).alloc (Nat.le_refl _) _⟩

set_option maxHeartbeats 1000000 in
theorem wp_silent  (z : Value) (tp : TypeId) (vp : Value) (b cap : Nat) (w : World) (hz : IsIf z) (_hcap : 1 ≤ cap) (hc : w.cell? ⟨b, 0, none⟩ = some (.iface tp vp)) :
    Calls Tryz.prog 119 #[.iface 147 (.agg #[z]), .slice (some ⟨b, 0, none⟩) 1 cap] w fun e w' => e = .returned (.iface 147 (.agg #[.iface tp vp])) ∧ Below w.heap.size w w' := by
  have hb : b < w.heap.size := World.block_lt_of_cell? w _ hc
  rcases hz with rfl | ⟨tz, vz, rfl⟩
  all_goals
    go_enter Tryz.func119, Tryz.ntmps119
    go_wp2_with fail
    go_ret
    exact ⟨rfl, (Below.refl _ _).alloc (Nat.le_refl _) _⟩

set_option maxHeartbeats 1000000 in
theorem wp_own (k0 : IntKind) (n0 : Int) (z : Value) (tp : TypeId) (vp : Value) (b cap : Nat) (w : World) (hz : IsIf z) (_hcap : 1 ≤ cap) (hc : w.cell? ⟨b, 0, none⟩ = some (.iface tp vp)) :
    Calls Tryz.prog 119 #[.iface 100 (.agg #[.int k0 n0, z]), .slice (some ⟨b, 0, none⟩) 1 cap] w fun e w' => e = .returned (.iface 100 (.agg #[.int k0 n0, .iface tp vp])) ∧ Below w.heap.size w w' := by
  have hb : b < w.heap.size := World.block_lt_of_cell? w _ hc
  rcases hz with rfl | ⟨tz, vz, rfl⟩
  all_goals
    go_enter Tryz.func119, Tryz.ntmps119
    go_wp2_with fail
    go_ret
    exact ⟨rfl, (Below.refl _ _).alloc (Nat.le_refl _) _⟩

set_option maxHeartbeats 1000000 in
theorem wp_match (k0 : IntKind) (n0 : Int) (k1 : IntKind) (n1 : Int) (z : Value) (tp : TypeId) (vp : Value) (b cap : Nat) (w : World) (hz : IsIf z) (_hcap : 1 ≤ cap) (hc : w.cell? ⟨b, 0, none⟩ = some (.iface tp vp)) :
    Calls Tryz.prog 119 #[.iface 146 (.agg #[.int k0 n0, .int k1 n1, z]), .slice (some ⟨b, 0, none⟩) 1 cap] w fun e w' => e = .returned (.iface 146 (.agg #[.int k0 n0, .int k1 n1, .iface tp vp])) ∧ Below w.heap.size w w' := by
  have hb : b < w.heap.size := World.block_lt_of_cell? w _ hc
  rcases hz with rfl | ⟨tz, vz, rfl⟩
  all_goals
    go_enter Tryz.func119, Tryz.ntmps119
    go_wp2_with fail
    go_ret
    exact ⟨rfl, (Below.refl _ _).alloc (Nat.le_refl _) _⟩

set_option maxHeartbeats 1000000 in
theorem wp_repeat  (z : Value) (tp : TypeId) (vp : Value) (b cap : Nat) (w : World) (hz : IsIf z) (_hcap : 1 ≤ cap) (hc : w.cell? ⟨b, 0, none⟩ = some (.iface tp vp)) :
    Calls Tryz.prog 119 #[.iface 103 (.agg #[z]), .slice (some ⟨b, 0, none⟩) 1 cap] w fun e w' => e = .returned (.iface 103 (.agg #[.iface tp vp])) ∧ Below w.heap.size w w' := by
  have hb : b < w.heap.size := World.block_lt_of_cell? w _ hc
  rcases hz with rfl | ⟨tz, vz, rfl⟩
  all_goals
    go_enter Tryz.func119, Tryz.ntmps119
    go_wp2_with fail
    go_ret
    exact ⟨rfl, (Below.refl _ _).alloc (Nat.le_refl _) _⟩

set_option maxHeartbeats 1000000 in
theorem wp_choice (z y : Value) (tp : TypeId) (vp : Value) (tq : TypeId) (vq : Value) (b cap : Nat) (w : World) (hz : IsIf z) (hy : IsIf y) (_hcap : 2 ≤ cap) (hc : w.cell? ⟨b, 0, none⟩ = some (.iface tp vp)) (hc1 : w.cell? ⟨b, 1, none⟩ = some (.iface tq vq)) :
    Calls Tryz.prog 119 #[.iface 93 (.agg #[z, y]), .slice (some ⟨b, 0, none⟩) 2 cap] w fun e w' => e = .returned (.iface 93 (.agg #[.iface tp vp, .iface tq vq])) ∧ Below w.heap.size w w' := by
  have hb : b < w.heap.size := World.block_lt_of_cell? w _ hc
  rcases hz with rfl | ⟨tz, vz, rfl⟩
  all_goals rcases hy with rfl | ⟨ty, vy, rfl⟩
  all_goals
    go_enter Tryz.func119, Tryz.ntmps119
    go_wp2_with fail
    go_region
    all_goals
      go_wp2_with fail
      go_ret
      exact ⟨rfl, ((Below.refl _ _).alloc (Nat.le_refl _) _).drew⟩

set_option maxHeartbeats 1000000 in
theorem wp_beside (z y : Value) (tp : TypeId) (vp : Value) (tq : TypeId) (vq : Value) (b cap : Nat) (w : World) (hz : IsIf z) (hy : IsIf y) (_hcap : 2 ≤ cap) (hc : w.cell? ⟨b, 0, none⟩ = some (.iface tp vp)) (hc1 : w.cell? ⟨b, 1, none⟩ = some (.iface tq vq)) :
    Calls Tryz.prog 119 #[.iface 92 (.agg #[z, y]), .slice (some ⟨b, 0, none⟩) 2 cap] w fun e w' => e = .returned (.iface 92 (.agg #[.iface tp vp, .iface tq vq])) ∧ Below w.heap.size w w' := by
  have hb : b < w.heap.size := World.block_lt_of_cell? w _ hc
  rcases hz with rfl | ⟨tz, vz, rfl⟩
  all_goals rcases hy with rfl | ⟨ty, vy, rfl⟩
  all_goals
    go_enter Tryz.func119, Tryz.ntmps119
    go_wp2_with fail
    go_region
    all_goals
      go_wp2_with fail
      go_ret
      exact ⟨rfl, ((Below.refl _ _).alloc (Nat.le_refl _) _).drew⟩

/-- The missing part put in. -/
theorem withParts_hd (h : Hd) (p : Tm) (b cap : Nat) (w : World) (hcap : 1 ≤ cap) (hc : w.cell? ⟨b, 0, none⟩ = some (.iface (tyOf p) (pay p))) :
    Calls Tryz.prog 119 #[h.enc, .slice (some ⟨b, 0, none⟩) 1 cap] w fun e w' => e = .returned (.iface (tyOf (h.put p)) (pay (h.put p))) ∧ Below w.heap.size w w' := by
  cases h with
  | tau => exact wp_silent _ _ _ b cap w (.inl rfl) hcap hc
  | rep => exact wp_repeat _ _ _ b cap w (.inl rfl) hcap hc
  | own x => exact wp_own _ _ _ _ _ b cap w (.inl rfl) hcap hc
  | mat x y => exact wp_match _ _ _ _ _ _ _ b cap w (.inl rfl) hcap hc
  | snd x y => exact wp_send _ _ _ _ _ _ _ b cap w (.inl rfl) hcap hc
  | rcv x y => exact wp_receive _ _ _ _ _ _ _ b cap w (.inl rfl) hcap hc

end Go.Proofs.YtmfmagfgcdaeeaaGreat.T1
