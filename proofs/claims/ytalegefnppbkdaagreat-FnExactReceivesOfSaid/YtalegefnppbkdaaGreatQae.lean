/- Texts of the proof. No conditions. -/
import Derived.Test.YtalegefnppbkdaaGreatQaa
import Derived.Test.YtalegefnppbkdaaGreatQad
import Derived.WalkLawsBesides
import Derived.WalkSpells
import Derived.LoopTactic
import Derived.RegionTactic
import Derived.BigRegion
import Derived.BigQuiet
import Derived.Deep.QuietTactic
import Derived.Outline
import Derived.IntWalk
namespace Go.Proofs.YtalegefnppbkdaaGreat.T1
open Go.Proofs.Tryz
set_option maxHeartbeats 1000000
open Go.RowKit
set_option maxRecDepth 100000
def IsIf (z:Value):Prop:=z=.nilIface\/∃t v,z=.iface t v
theorem amw (k0:IntKind)(n0:Int)(k1:IntKind)(n1:Int)(z:Value)(tp:TypeId)(vp:Value)(b cap:Nat)(w:World)(hz:IsIf z)(_hcap:1<=cap)(hc:w.cell? ⟨b,0,none⟩=some (.iface tp vp)) : Calls prog 108 #[.iface 108 (.agg #[.int k0 n0,.int k1 n1,z]),.slice (some ⟨b,0,none⟩) 1 cap] w fun e w'=>e=.returned (.iface 108 (.agg #[.int k0 n0,.int k1 n1,.iface tp vp]))/\Zb w w':=by
 have hb:b<w.heap.size:=World.block_lt_of_cell? w _ hc;rcases hz with rfl|⟨tz,vz,rfl⟩
 all_goals
  go_enter func108,ntmps108
  go_wp2_with fail;go_ret;exact⟨rfl,bra⟩
theorem aga (k0:IntKind)(n0:Int)(k1:IntKind)(n1:Int)(z:Value)(tp:TypeId)(vp:Value)(b cap:Nat)(w:World)(hz:IsIf z)(_hcap:1<=cap)(hc:w.cell? ⟨b,0,none⟩=some (.iface tp vp)) : Calls prog 108 #[.iface 111 (.agg #[.int k0 n0,.int k1 n1,z]),.slice (some ⟨b,0,none⟩) 1 cap] w fun e w'=>e=.returned (.iface 111 (.agg #[.int k0 n0,.int k1 n1,.iface tp vp]))/\Zb w w':=by
 have hb:b<w.heap.size:=World.block_lt_of_cell? w _ hc;rcases hz with rfl|⟨tz,vz,rfl⟩
 all_goals
  go_enter func108,ntmps108
  go_wp2_with fail;go_ret;exact⟨rfl,bra⟩
theorem ahL  (z:Value)(tp:TypeId)(vp:Value)(b cap:Nat)(w:World)(hz:IsIf z)(_hcap:1<=cap)(hc:w.cell? ⟨b,0,none⟩=some (.iface tp vp)) : Calls prog 108 #[.iface 146 (.agg #[z]),.slice (some ⟨b,0,none⟩) 1 cap] w fun e w'=>e=.returned (.iface 146 (.agg #[.iface tp vp]))/\Zb w w':=by
 have hb:b<w.heap.size:=World.block_lt_of_cell? w _ hc;rcases hz with rfl|⟨tz,vz,rfl⟩
 all_goals
  go_enter func108,ntmps108
  go_wp2_with fail;go_ret;exact⟨rfl,bra⟩
theorem arw (k0:IntKind)(n0:Int)(z:Value)(tp:TypeId)(vp:Value)(b cap:Nat)(w:World)(hz:IsIf z)(_hcap:1<=cap)(hc:w.cell? ⟨b,0,none⟩=some (.iface tp vp)) : Calls prog 108 #[.iface 61 (.agg #[.int k0 n0,z]),.slice (some ⟨b,0,none⟩) 1 cap] w fun e w'=>e=.returned (.iface 61 (.agg #[.int k0 n0,.iface tp vp]))/\Zb w w':=by
 have hb:b<w.heap.size:=World.block_lt_of_cell? w _ hc;rcases hz with rfl|⟨tz,vz,rfl⟩
 all_goals
  go_enter func108,ntmps108
  go_wp2_with fail;go_ret;exact⟨rfl,bra⟩
theorem ajB (k0:IntKind)(n0:Int)(k1:IntKind)(n1:Int)(z:Value)(tp:TypeId)(vp:Value)(b cap:Nat)(w:World)(hz:IsIf z)(_hcap:1<=cap)(hc:w.cell? ⟨b,0,none⟩=some (.iface tp vp)) : Calls prog 108 #[.iface 150 (.agg #[.int k0 n0,.int k1 n1,z]),.slice (some ⟨b,0,none⟩) 1 cap] w fun e w'=>e=.returned (.iface 150 (.agg #[.int k0 n0,.int k1 n1,.iface tp vp]))/\Zb w w':=by
 have hb:b<w.heap.size:=World.block_lt_of_cell? w _ hc;rcases hz with rfl|⟨tz,vz,rfl⟩
 all_goals
  go_enter func108,ntmps108
  go_wp2_with fail;go_ret;exact⟨rfl,bra⟩
theorem ahM  (z:Value)(tp:TypeId)(vp:Value)(b cap:Nat)(w:World)(hz:IsIf z)(_hcap:1<=cap)(hc:w.cell? ⟨b,0,none⟩=some (.iface tp vp)) : Calls prog 108 #[.iface 147 (.agg #[z]),.slice (some ⟨b,0,none⟩) 1 cap] w fun e w'=>e=.returned (.iface 147 (.agg #[.iface tp vp]))/\Zb w w':=by
 have hb:b<w.heap.size:=World.block_lt_of_cell? w _ hc;rcases hz with rfl|⟨tz,vz,rfl⟩
 all_goals
  go_enter func108,ntmps108
  go_wp2_with fail;go_ret;exact⟨rfl,bra⟩
theorem ahN (z y:Value)(tp:TypeId)(vp:Value)(tq:TypeId)(vq:Value)(b cap:Nat)(w:World)(hz:IsIf z)(hy:IsIf y)(_hcap:2<=cap)(hc:w.cell? ⟨b,0,none⟩=some (.iface tp vp))(hc1:w.cell? ⟨b,1,none⟩=some (.iface tq vq)) : Calls prog 108 #[.iface 62 (.agg #[z,y]),.slice (some ⟨b,0,none⟩) 2 cap] w fun e w'=>e=.returned (.iface 62 (.agg #[.iface tp vp,.iface tq vq]))/\Zb w w':=by
 have hb:b<w.heap.size:=World.block_lt_of_cell? w _ hc;rcases hz with rfl|⟨tz,vz,rfl⟩
 all_goals rcases hy with rfl|⟨ty,vy,rfl⟩
 all_goals
  go_enter func108,ntmps108
  go_wp2_with fail
  go_region
  all_goals
   go_wp2_with fail;go_ret;exact⟨rfl,(bra).drew⟩
theorem ahO (z y:Value)(tp:TypeId)(vp:Value)(tq:TypeId)(vq:Value)(b cap:Nat)(w:World)(hz:IsIf z)(hy:IsIf y)(_hcap:2<=cap)(hc:w.cell? ⟨b,0,none⟩=some (.iface tp vp))(hc1:w.cell? ⟨b,1,none⟩=some (.iface tq vq)) : Calls prog 108 #[.iface 55 (.agg #[z,y]),.slice (some ⟨b,0,none⟩) 2 cap] w fun e w'=>e=.returned (.iface 55 (.agg #[.iface tp vp,.iface tq vq]))/\Zb w w':=by
 have hb:b<w.heap.size:=World.block_lt_of_cell? w _ hc;rcases hz with rfl|⟨tz,vz,rfl⟩
 all_goals rcases hy with rfl|⟨ty,vy,rfl⟩
 all_goals
  go_enter func108,ntmps108
  go_wp2_with fail
  go_region
  all_goals
   go_wp2_with fail;go_ret;exact⟨rfl,(bra).drew⟩
theorem ahP (h:Hd)(p:Tm)(b cap:Nat)(w:World)(hcap:1<=cap)(hc:w.cell? ⟨b,0,none⟩=some (.iface (aaB p) (pay p))) : Calls prog 108 #[h.enc,.slice (some ⟨b,0,none⟩) 1 cap] w fun e w'=>e=.returned (.iface (aaB (h.put p)) (pay (h.put p)))/\Zb w w':=by
 cases h with
 | tau=>exact ahL _ _ _ b cap w (.inl rfl) hcap hc
 | rep=>exact ahM _ _ _ b cap w (.inl rfl) hcap hc
 | own x=>exact arw _ _ _ _ _ b cap w (.inl rfl) hcap hc
 | mat x y=>exact ajB _ _ _ _ _ _ _ b cap w (.inl rfl) hcap hc
 | snd x y=>exact amw _ _ _ _ _ _ _ b cap w (.inl rfl) hcap hc
 | rcv x y=>exact aga _ _ _ _ _ _ _ b cap w (.inl rfl) hcap hc
end Go.Proofs.YtalegefnppbkdaaGreat.T1
