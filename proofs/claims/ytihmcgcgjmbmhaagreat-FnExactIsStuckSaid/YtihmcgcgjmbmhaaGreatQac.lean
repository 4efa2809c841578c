/- Texts of the proof. No conditions. -/
import Derived.Test.YtihmcgcgjmbmhaaGreatQaa
import Derived.RegionTactic
import Derived.BigRegion
namespace Go.Proofs.YtihmcgcgjmbmhaaGreat.T1
open Go.Proofs.Tryz
set_option maxHeartbeats 2000000
@[go_sem] theorem aj0 (v:Value) (w:World):(Instr.typeAssert (.iface 134 v) 41 134 true).run prog w=.ok (.tuple #[v,.bool true]) w:=by kernel_rfl
@[go_sem] theorem afl (v:Value) (w:World):(Instr.typeAssert (.iface 134 v) 41 148 true).run prog w=.ok (.tuple #[.agg #[.int .u8 0,.int .u8 0,.nilIface],.bool false]) w:=by kernel_rfl
@[go_sem] theorem adB (v:Value) (w:World):(Instr.typeAssert (.iface 134 v) 41 189 true).run prog w=.ok (.tuple #[.agg #[.int .u8 0,.int .u8 0,.nilIface],.bool false]) w:=by kernel_rfl
@[go_sem] theorem aeg (v:Value) (w:World):(Instr.typeAssert (.iface 134 v) 41 143 true).run prog w=.ok (.tuple #[.agg #[.nilIface],.bool false]) w:=by kernel_rfl
@[go_sem] theorem aeh (v:Value) (w:World):(Instr.typeAssert (.iface 134 v) 41 165 true).run prog w=.ok (.tuple #[.agg #[.nilIface,.nilIface],.bool false]) w:=by kernel_rfl
@[go_sem] theorem alk (v:Value) (w:World):(Instr.typeAssert (.iface 134 v) 41 140 true).run prog w=.ok (.tuple #[.agg #[.nilIface,.nilIface],.bool false]) w:=by kernel_rfl
@[go_sem] theorem aqi (v:Value) (w:World):(Instr.typeAssert (.iface 134 v) 41 136 true).run prog w=.ok (.tuple #[.agg #[.int .u8 0,.nilIface],.bool false]) w:=by kernel_rfl
@[go_sem] theorem amB (v:Value) (w:World):(Instr.typeAssert (.iface 134 v) 41 177 true).run prog w=.ok (.tuple #[.agg #[.int .u8 0,.int .u8 0,.nilIface],.bool false]) w:=by kernel_rfl
@[go_sem] theorem acq (v:Value) (w:World):(Instr.typeAssert (.iface 134 v) 41 120 true).run prog w=.ok (.tuple #[.agg #[.nilIface],.bool false]) w:=by kernel_rfl
@[go_sem] theorem amY (v:Value) (w:World):(Instr.typeAssert (.iface 148 v) 41 134 true).run prog w=.ok (.tuple #[.agg #[],.bool false]) w:=by kernel_rfl
@[go_sem] theorem asx (v:Value) (w:World):(Instr.typeAssert (.iface 148 v) 41 148 true).run prog w=.ok (.tuple #[v,.bool true]) w:=by kernel_rfl
@[go_sem] theorem afm (v:Value) (w:World):(Instr.typeAssert (.iface 148 v) 41 189 true).run prog w=.ok (.tuple #[.agg #[.int .u8 0,.int .u8 0,.nilIface],.bool false]) w:=by kernel_rfl
@[go_sem] theorem agh (v:Value) (w:World):(Instr.typeAssert (.iface 148 v) 41 143 true).run prog w=.ok (.tuple #[.agg #[.nilIface],.bool false]) w:=by kernel_rfl
@[go_sem] theorem agi (v:Value) (w:World):(Instr.typeAssert (.iface 148 v) 41 165 true).run prog w=.ok (.tuple #[.agg #[.nilIface,.nilIface],.bool false]) w:=by kernel_rfl
@[go_sem] theorem aqj (v:Value) (w:World):(Instr.typeAssert (.iface 148 v) 41 140 true).run prog w=.ok (.tuple #[.agg #[.nilIface,.nilIface],.bool false]) w:=by kernel_rfl
@[go_sem] theorem atg (v:Value) (w:World):(Instr.typeAssert (.iface 148 v) 41 136 true).run prog w=.ok (.tuple #[.agg #[.int .u8 0,.nilIface],.bool false]) w:=by kernel_rfl
@[go_sem] theorem ahd (v:Value) (w:World):(Instr.typeAssert (.iface 148 v) 41 177 true).run prog w=.ok (.tuple #[.agg #[.int .u8 0,.int .u8 0,.nilIface],.bool false]) w:=by kernel_rfl
@[go_sem] theorem adn (v:Value) (w:World):(Instr.typeAssert (.iface 148 v) 41 120 true).run prog w=.ok (.tuple #[.agg #[.nilIface],.bool false]) w:=by kernel_rfl
@[go_sem] theorem aj1 (v:Value) (w:World):(Instr.typeAssert (.iface 189 v) 41 134 true).run prog w=.ok (.tuple #[.agg #[],.bool false]) w:=by kernel_rfl
@[go_sem] theorem afn (v:Value) (w:World):(Instr.typeAssert (.iface 189 v) 41 148 true).run prog w=.ok (.tuple #[.agg #[.int .u8 0,.int .u8 0,.nilIface],.bool false]) w:=by kernel_rfl
@[go_sem] theorem aj2 (v:Value) (w:World):(Instr.typeAssert (.iface 189 v) 41 189 true).run prog w=.ok (.tuple #[v,.bool true]) w:=by kernel_rfl
@[go_sem] theorem aei (v:Value) (w:World):(Instr.typeAssert (.iface 189 v) 41 143 true).run prog w=.ok (.tuple #[.agg #[.nilIface],.bool false]) w:=by kernel_rfl
@[go_sem] theorem aej (v:Value) (w:World):(Instr.typeAssert (.iface 189 v) 41 165 true).run prog w=.ok (.tuple #[.agg #[.nilIface,.nilIface],.bool false]) w:=by kernel_rfl
@[go_sem] theorem alm (v:Value) (w:World):(Instr.typeAssert (.iface 189 v) 41 140 true).run prog w=.ok (.tuple #[.agg #[.nilIface,.nilIface],.bool false]) w:=by kernel_rfl
@[go_sem] theorem aqk (v:Value) (w:World):(Instr.typeAssert (.iface 189 v) 41 136 true).run prog w=.ok (.tuple #[.agg #[.int .u8 0,.nilIface],.bool false]) w:=by kernel_rfl
@[go_sem] theorem aeW (v:Value) (w:World):(Instr.typeAssert (.iface 189 v) 41 177 true).run prog w=.ok (.tuple #[.agg #[.int .u8 0,.int .u8 0,.nilIface],.bool false]) w:=by kernel_rfl
@[go_sem] theorem acr (v:Value) (w:World):(Instr.typeAssert (.iface 189 v) 41 120 true).run prog w=.ok (.tuple #[.agg #[.nilIface],.bool false]) w:=by kernel_rfl
@[go_sem] theorem aln (v:Value) (w:World):(Instr.typeAssert (.iface 143 v) 41 134 true).run prog w=.ok (.tuple #[.agg #[],.bool false]) w:=by kernel_rfl
@[go_sem] theorem agj (v:Value) (w:World):(Instr.typeAssert (.iface 143 v) 41 148 true).run prog w=.ok (.tuple #[.agg #[.int .u8 0,.int .u8 0,.nilIface],.bool false]) w:=by kernel_rfl
@[go_sem] theorem aek (v:Value) (w:World):(Instr.typeAssert (.iface 143 v) 41 189 true).run prog w=.ok (.tuple #[.agg #[.int .u8 0,.int .u8 0,.nilIface],.bool false]) w:=by kernel_rfl
@[go_sem] theorem amC (v:Value) (w:World):(Instr.typeAssert (.iface 143 v) 41 143 true).run prog w=.ok (.tuple #[v,.bool true]) w:=by kernel_rfl
@[go_sem] theorem aeX (v:Value) (w:World):(Instr.typeAssert (.iface 143 v) 41 165 true).run prog w=.ok (.tuple #[.agg #[.nilIface,.nilIface],.bool false]) w:=by kernel_rfl
@[go_sem] theorem amD (v:Value) (w:World):(Instr.typeAssert (.iface 143 v) 41 140 true).run prog w=.ok (.tuple #[.agg #[.nilIface,.nilIface],.bool false]) w:=by kernel_rfl
@[go_sem] theorem aqs (v:Value) (w:World):(Instr.typeAssert (.iface 143 v) 41 136 true).run prog w=.ok (.tuple #[.agg #[.int .u8 0,.nilIface],.bool false]) w:=by kernel_rfl
@[go_sem] theorem afo (v:Value) (w:World):(Instr.typeAssert (.iface 143 v) 41 177 true).run prog w=.ok (.tuple #[.agg #[.int .u8 0,.int .u8 0,.nilIface],.bool false]) w:=by kernel_rfl
@[go_sem] theorem acO (v:Value) (w:World):(Instr.typeAssert (.iface 143 v) 41 120 true).run prog w=.ok (.tuple #[.agg #[.nilIface],.bool false]) w:=by kernel_rfl
@[go_sem] theorem alo (v:Value) (w:World):(Instr.typeAssert (.iface 165 v) 41 134 true).run prog w=.ok (.tuple #[.agg #[],.bool false]) w:=by kernel_rfl
@[go_sem] theorem agk (v:Value) (w:World):(Instr.typeAssert (.iface 165 v) 41 148 true).run prog w=.ok (.tuple #[.agg #[.int .u8 0,.int .u8 0,.nilIface],.bool false]) w:=by kernel_rfl
@[go_sem] theorem ael (v:Value) (w:World):(Instr.typeAssert (.iface 165 v) 41 189 true).run prog w=.ok (.tuple #[.agg #[.int .u8 0,.int .u8 0,.nilIface],.bool false]) w:=by kernel_rfl
@[go_sem] theorem aeY (v:Value) (w:World):(Instr.typeAssert (.iface 165 v) 41 143 true).run prog w=.ok (.tuple #[.agg #[.nilIface],.bool false]) w:=by kernel_rfl
@[go_sem] theorem amE (v:Value) (w:World):(Instr.typeAssert (.iface 165 v) 41 165 true).run prog w=.ok (.tuple #[v,.bool true]) w:=by kernel_rfl
@[go_sem] theorem amF (v:Value) (w:World):(Instr.typeAssert (.iface 165 v) 41 140 true).run prog w=.ok (.tuple #[.agg #[.nilIface,.nilIface],.bool false]) w:=by kernel_rfl
@[go_sem] theorem aqt (v:Value) (w:World):(Instr.typeAssert (.iface 165 v) 41 136 true).run prog w=.ok (.tuple #[.agg #[.int .u8 0,.nilIface],.bool false]) w:=by kernel_rfl
@[go_sem] theorem amZ (v:Value) (w:World):(Instr.typeAssert (.iface 165 v) 41 177 true).run prog w=.ok (.tuple #[.agg #[.int .u8 0,.int .u8 0,.nilIface],.bool false]) w:=by kernel_rfl
@[go_sem] theorem acP (v:Value) (w:World):(Instr.typeAssert (.iface 165 v) 41 120 true).run prog w=.ok (.tuple #[.agg #[.nilIface],.bool false]) w:=by kernel_rfl
@[go_sem] theorem alp (v:Value) (w:World):(Instr.typeAssert (.iface 140 v) 41 134 true).run prog w=.ok (.tuple #[.agg #[],.bool false]) w:=by kernel_rfl
@[go_sem] theorem agl (v:Value) (w:World):(Instr.typeAssert (.iface 140 v) 41 148 true).run prog w=.ok (.tuple #[.agg #[.int .u8 0,.int .u8 0,.nilIface],.bool false]) w:=by kernel_rfl
@[go_sem] theorem aem (v:Value) (w:World):(Instr.typeAssert (.iface 140 v) 41 189 true).run prog w=.ok (.tuple #[.agg #[.int .u8 0,.int .u8 0,.nilIface],.bool false]) w:=by kernel_rfl
@[go_sem] theorem aeZ (v:Value) (w:World):(Instr.typeAssert (.iface 140 v) 41 143 true).run prog w=.ok (.tuple #[.agg #[.nilIface],.bool false]) w:=by kernel_rfl
@[go_sem] theorem ae0 (v:Value) (w:World):(Instr.typeAssert (.iface 140 v) 41 165 true).run prog w=.ok (.tuple #[.agg #[.nilIface,.nilIface],.bool false]) w:=by kernel_rfl
@[go_sem] theorem amG (v:Value) (w:World):(Instr.typeAssert (.iface 140 v) 41 140 true).run prog w=.ok (.tuple #[v,.bool true]) w:=by kernel_rfl
@[go_sem] theorem aqu (v:Value) (w:World):(Instr.typeAssert (.iface 140 v) 41 136 true).run prog w=.ok (.tuple #[.agg #[.int .u8 0,.nilIface],.bool false]) w:=by kernel_rfl
@[go_sem] theorem am0 (v:Value) (w:World):(Instr.typeAssert (.iface 140 v) 41 177 true).run prog w=.ok (.tuple #[.agg #[.int .u8 0,.int .u8 0,.nilIface],.bool false]) w:=by kernel_rfl
@[go_sem] theorem acQ (v:Value) (w:World):(Instr.typeAssert (.iface 140 v) 41 120 true).run prog w=.ok (.tuple #[.agg #[.nilIface],.bool false]) w:=by kernel_rfl
@[go_sem] theorem aql (v:Value) (w:World):(Instr.typeAssert (.iface 136 v) 41 134 true).run prog w=.ok (.tuple #[.agg #[],.bool false]) w:=by kernel_rfl
@[go_sem] theorem aje (v:Value) (w:World):(Instr.typeAssert (.iface 136 v) 41 148 true).run prog w=.ok (.tuple #[.agg #[.int .u8 0,.int .u8 0,.nilIface],.bool false]) w:=by kernel_rfl
@[go_sem] theorem agm (v:Value) (w:World):(Instr.typeAssert (.iface 136 v) 41 189 true).run prog w=.ok (.tuple #[.agg #[.int .u8 0,.int .u8 0,.nilIface],.bool false]) w:=by kernel_rfl
@[go_sem] theorem ahe (v:Value) (w:World):(Instr.typeAssert (.iface 136 v) 41 143 true).run prog w=.ok (.tuple #[.agg #[.nilIface],.bool false]) w:=by kernel_rfl
@[go_sem] theorem ahf (v:Value) (w:World):(Instr.typeAssert (.iface 136 v) 41 165 true).run prog w=.ok (.tuple #[.agg #[.nilIface,.nilIface],.bool false]) w:=by kernel_rfl
@[go_sem] theorem aqv (v:Value) (w:World):(Instr.typeAssert (.iface 136 v) 41 140 true).run prog w=.ok (.tuple #[.agg #[.nilIface,.nilIface],.bool false]) w:=by kernel_rfl
@[go_sem] theorem avx (v:Value) (w:World):(Instr.typeAssert (.iface 136 v) 41 136 true).run prog w=.ok (.tuple #[v,.bool true]) w:=by kernel_rfl
@[go_sem] theorem asy (v:Value) (w:World):(Instr.typeAssert (.iface 136 v) 41 177 true).run prog w=.ok (.tuple #[.agg #[.int .u8 0,.int .u8 0,.nilIface],.bool false]) w:=by kernel_rfl
@[go_sem] theorem adC (v:Value) (w:World):(Instr.typeAssert (.iface 136 v) 41 120 true).run prog w=.ok (.tuple #[.agg #[.nilIface],.bool false]) w:=by kernel_rfl
@[go_sem] theorem amH (v:Value) (w:World):(Instr.typeAssert (.iface 177 v) 41 134 true).run prog w=.ok (.tuple #[.agg #[],.bool false]) w:=by kernel_rfl
@[go_sem] theorem ahg (v:Value) (w:World):(Instr.typeAssert (.iface 177 v) 41 148 true).run prog w=.ok (.tuple #[.agg #[.int .u8 0,.int .u8 0,.nilIface],.bool false]) w:=by kernel_rfl
@[go_sem] theorem ae1 (v:Value) (w:World):(Instr.typeAssert (.iface 177 v) 41 189 true).run prog w=.ok (.tuple #[.agg #[.int .u8 0,.int .u8 0,.nilIface],.bool false]) w:=by kernel_rfl
@[go_sem] theorem afp (v:Value) (w:World):(Instr.typeAssert (.iface 177 v) 41 143 true).run prog w=.ok (.tuple #[.agg #[.nilIface],.bool false]) w:=by kernel_rfl
@[go_sem] theorem afq (v:Value) (w:World):(Instr.typeAssert (.iface 177 v) 41 165 true).run prog w=.ok (.tuple #[.agg #[.nilIface,.nilIface],.bool false]) w:=by kernel_rfl
@[go_sem] theorem am1 (v:Value) (w:World):(Instr.typeAssert (.iface 177 v) 41 140 true).run prog w=.ok (.tuple #[.agg #[.nilIface,.nilIface],.bool false]) w:=by kernel_rfl
@[go_sem] theorem asz (v:Value) (w:World):(Instr.typeAssert (.iface 177 v) 41 136 true).run prog w=.ok (.tuple #[.agg #[.int .u8 0,.nilIface],.bool false]) w:=by kernel_rfl
@[go_sem] theorem aqm (v:Value) (w:World):(Instr.typeAssert (.iface 177 v) 41 177 true).run prog w=.ok (.tuple #[v,.bool true]) w:=by kernel_rfl
@[go_sem] theorem acS (v:Value) (w:World):(Instr.typeAssert (.iface 177 v) 41 120 true).run prog w=.ok (.tuple #[.agg #[.nilIface],.bool false]) w:=by kernel_rfl
@[go_sem] theorem alq (v:Value) (w:World):(Instr.typeAssert (.iface 120 v) 41 134 true).run prog w=.ok (.tuple #[.agg #[],.bool false]) w:=by kernel_rfl
@[go_sem] theorem agn (v:Value) (w:World):(Instr.typeAssert (.iface 120 v) 41 148 true).run prog w=.ok (.tuple #[.agg #[.int .u8 0,.int .u8 0,.nilIface],.bool false]) w:=by kernel_rfl
@[go_sem] theorem aen (v:Value) (w:World):(Instr.typeAssert (.iface 120 v) 41 189 true).run prog w=.ok (.tuple #[.agg #[.int .u8 0,.int .u8 0,.nilIface],.bool false]) w:=by kernel_rfl
@[go_sem] theorem ae2 (v:Value) (w:World):(Instr.typeAssert (.iface 120 v) 41 143 true).run prog w=.ok (.tuple #[.agg #[.nilIface],.bool false]) w:=by kernel_rfl
@[go_sem] theorem ae3 (v:Value) (w:World):(Instr.typeAssert (.iface 120 v) 41 165 true).run prog w=.ok (.tuple #[.agg #[.nilIface,.nilIface],.bool false]) w:=by kernel_rfl
@[go_sem] theorem amI (v:Value) (w:World):(Instr.typeAssert (.iface 120 v) 41 140 true).run prog w=.ok (.tuple #[.agg #[.nilIface,.nilIface],.bool false]) w:=by kernel_rfl
@[go_sem] theorem aqw (v:Value) (w:World):(Instr.typeAssert (.iface 120 v) 41 136 true).run prog w=.ok (.tuple #[.agg #[.int .u8 0,.nilIface],.bool false]) w:=by kernel_rfl
@[go_sem] theorem afr (v:Value) (w:World):(Instr.typeAssert (.iface 120 v) 41 177 true).run prog w=.ok (.tuple #[.agg #[.int .u8 0,.int .u8 0,.nilIface],.bool false]) w:=by kernel_rfl
@[go_sem] theorem amJ (v:Value) (w:World):(Instr.typeAssert (.iface 120 v) 41 120 true).run prog w=.ok (.tuple #[v,.bool true]) w:=by kernel_rfl
open Go.RowKit
set_option maxRecDepth 100000
def IsIf (z:Value):Prop:=z=.nilIface\/∃t v,z=.iface t v
theorem am2 (k0:IntKind)(n0:Int)(k1:IntKind)(n1:Int)(z:Value)(tp:TypeId)(vp:Value)(b cap:Nat)(w:World)(hz:IsIf z)(_hcap:1<=cap)(hc:w.cell? ⟨b,0,none⟩=some (.iface tp vp)) : Calls prog 135 #[.iface 148 (.agg #[.int k0 n0,.int k1 n1,z]),.slice (some ⟨b,0,none⟩) 1 cap] w fun e w'=>e=.returned (.iface 148 (.agg #[.int k0 n0,.int k1 n1,.iface tp vp]))/\Zb w w':=by
 have hb:b<w.heap.size:=World.block_lt_of_cell? w _ hc;rcases hz with rfl|⟨tz,vz,rfl⟩
 all_goals
  go_enter func135,ntmps135
  go_wp2_with fail;go_ret;exact⟨rfl,bra⟩
theorem agG (k0:IntKind)(n0:Int)(k1:IntKind)(n1:Int)(z:Value)(tp:TypeId)(vp:Value)(b cap:Nat)(w:World)(hz:IsIf z)(_hcap:1<=cap)(hc:w.cell? ⟨b,0,none⟩=some (.iface tp vp)) : Calls prog 135 #[.iface 189 (.agg #[.int k0 n0,.int k1 n1,z]),.slice (some ⟨b,0,none⟩) 1 cap] w fun e w'=>e=.returned (.iface 189 (.agg #[.int k0 n0,.int k1 n1,.iface tp vp]))/\Zb w w':=by
 have hb:b<w.heap.size:=World.block_lt_of_cell? w _ hc;rcases hz with rfl|⟨tz,vz,rfl⟩
 all_goals
  go_enter func135,ntmps135
  go_wp2_with fail;go_ret;exact⟨rfl,bra⟩
theorem ah7  (z:Value)(tp:TypeId)(vp:Value)(b cap:Nat)(w:World)(hz:IsIf z)(_hcap:1<=cap)(hc:w.cell? ⟨b,0,none⟩=some (.iface tp vp)) : Calls prog 135 #[.iface 143 (.agg #[z]),.slice (some ⟨b,0,none⟩) 1 cap] w fun e w'=>e=.returned (.iface 143 (.agg #[.iface tp vp]))/\Zb w w':=by
 have hb:b<w.heap.size:=World.block_lt_of_cell? w _ hc;rcases hz with rfl|⟨tz,vz,rfl⟩
 all_goals
  go_enter func135,ntmps135
  go_wp2_with fail;go_ret;exact⟨rfl,bra⟩
theorem asA (k0:IntKind)(n0:Int)(z:Value)(tp:TypeId)(vp:Value)(b cap:Nat)(w:World)(hz:IsIf z)(_hcap:1<=cap)(hc:w.cell? ⟨b,0,none⟩=some (.iface tp vp)) : Calls prog 135 #[.iface 136 (.agg #[.int k0 n0,z]),.slice (some ⟨b,0,none⟩) 1 cap] w fun e w'=>e=.returned (.iface 136 (.agg #[.int k0 n0,.iface tp vp]))/\Zb w w':=by
 have hb:b<w.heap.size:=World.block_lt_of_cell? w _ hc;rcases hz with rfl|⟨tz,vz,rfl⟩
 all_goals
  go_enter func135,ntmps135
  go_wp2_with fail;go_ret;exact⟨rfl,bra⟩
theorem aj3 (k0:IntKind)(n0:Int)(k1:IntKind)(n1:Int)(z:Value)(tp:TypeId)(vp:Value)(b cap:Nat)(w:World)(hz:IsIf z)(_hcap:1<=cap)(hc:w.cell? ⟨b,0,none⟩=some (.iface tp vp)) : Calls prog 135 #[.iface 177 (.agg #[.int k0 n0,.int k1 n1,z]),.slice (some ⟨b,0,none⟩) 1 cap] w fun e w'=>e=.returned (.iface 177 (.agg #[.int k0 n0,.int k1 n1,.iface tp vp]))/\Zb w w':=by
 have hb:b<w.heap.size:=World.block_lt_of_cell? w _ hc;rcases hz with rfl|⟨tz,vz,rfl⟩
 all_goals
  go_enter func135,ntmps135
  go_wp2_with fail;go_ret;exact⟨rfl,bra⟩
theorem ah8  (z:Value)(tp:TypeId)(vp:Value)(b cap:Nat)(w:World)(hz:IsIf z)(_hcap:1<=cap)(hc:w.cell? ⟨b,0,none⟩=some (.iface tp vp)) : Calls prog 135 #[.iface 120 (.agg #[z]),.slice (some ⟨b,0,none⟩) 1 cap] w fun e w'=>e=.returned (.iface 120 (.agg #[.iface tp vp]))/\Zb w w':=by
 have hb:b<w.heap.size:=World.block_lt_of_cell? w _ hc;rcases hz with rfl|⟨tz,vz,rfl⟩
 all_goals
  go_enter func135,ntmps135
  go_wp2_with fail;go_ret;exact⟨rfl,bra⟩
theorem ah9 (z y:Value)(tp:TypeId)(vp:Value)(tq:TypeId)(vq:Value)(b cap:Nat)(w:World)(hz:IsIf z)(hy:IsIf y)(_hcap:2<=cap)(hc:w.cell? ⟨b,0,none⟩=some (.iface tp vp))(hc1:w.cell? ⟨b,1,none⟩=some (.iface tq vq)) : Calls prog 135 #[.iface 165 (.agg #[z,y]),.slice (some ⟨b,0,none⟩) 2 cap] w fun e w'=>e=.returned (.iface 165 (.agg #[.iface tp vp,.iface tq vq]))/\Zb w w':=by
 have hb:b<w.heap.size:=World.block_lt_of_cell? w _ hc;rcases hz with rfl|⟨tz,vz,rfl⟩
 all_goals rcases hy with rfl|⟨ty,vy,rfl⟩
 all_goals
  go_enter func135,ntmps135
  go_wp2_with fail
  go_region
  all_goals
   go_wp2_with fail;go_ret;exact⟨rfl,(bra).drew⟩
theorem ah_ (z y:Value)(tp:TypeId)(vp:Value)(tq:TypeId)(vq:Value)(b cap:Nat)(w:World)(hz:IsIf z)(hy:IsIf y)(_hcap:2<=cap)(hc:w.cell? ⟨b,0,none⟩=some (.iface tp vp))(hc1:w.cell? ⟨b,1,none⟩=some (.iface tq vq)) : Calls prog 135 #[.iface 140 (.agg #[z,y]),.slice (some ⟨b,0,none⟩) 2 cap] w fun e w'=>e=.returned (.iface 140 (.agg #[.iface tp vp,.iface tq vq]))/\Zb w w':=by
 have hb:b<w.heap.size:=World.block_lt_of_cell? w _ hc;rcases hz with rfl|⟨tz,vz,rfl⟩
 all_goals rcases hy with rfl|⟨ty,vy,rfl⟩
 all_goals
  go_enter func135,ntmps135
  go_wp2_with fail
  go_region
  all_goals
   go_wp2_with fail;go_ret;exact⟨rfl,(bra).drew⟩
theorem aia (h:Hd)(p:Tm)(b cap:Nat)(w:World)(hcap:1<=cap)(hc:w.cell? ⟨b,0,none⟩=some (.iface (aau p) (pay p))) : Calls prog 135 #[h.enc,.slice (some ⟨b,0,none⟩) 1 cap] w fun e w'=>e=.returned (.iface (aau (h.put p)) (pay (h.put p)))/\Zb w w':=by
 cases h with
 | tau=>exact ah7 _ _ _ b cap w (.inl rfl) hcap hc
 | rep=>exact ah8 _ _ _ b cap w (.inl rfl) hcap hc
 | own x=>exact asA _ _ _ _ _ b cap w (.inl rfl) hcap hc
 | mat x y=>exact aj3 _ _ _ _ _ _ _ b cap w (.inl rfl) hcap hc
 | snd x y=>exact am2 _ _ _ _ _ _ _ b cap w (.inl rfl) hcap hc
 | rcv x y=>exact agG _ _ _ _ _ _ _ b cap w (.inl rfl) hcap hc
theorem avP {s:ByteArray}{a:Nat}(h:tk s a 42=true):E nmL (s.data.toList.drop a)=(E nmL (s.data.toList.drop (a+1))).map fun x=>(Hd.rep.put x.1,x.2):=by
 rw[(aaC 42 rfl h).1,avC aa5];rfl
theorem avQ {s:ByteArray}{a:Nat}(h:tk s a 126=true)(h1:tk s (a+1) 46=true):E nmL (s.data.toList.drop a)=(E nmL (s.data.toList.drop (a+2))).map fun x=>(Hd.tau.put x.1,x.2):=by
 rw[(aaC 126 rfl h).1,(aaC 46 rfl h1).1,avD aa5];rfl
theorem am3 {s:ByteArray}{a:Nat}(h:tk s a 126=true)(h1:tk s (a+1) 46=false):E nmL (s.data.toList.drop a)=none:=by
 rw[(aaC 126 rfl h).1];exact ajW aa5 (agz 46 rfl h1)
theorem avR {s:ByteArray}{a:Nat}(h:tk s a 35=true)(h1:nmT s (a+1)=true)(h2:tk s (a+2) 46=true):E nmL (s.data.toList.drop a)=(E nmL (s.data.toList.drop (a+3))).map fun x=>((Hd.own (nmV s (a+1))).put x.1,x.2):=by
 rw[(aaC 35 rfl h).1,(aa8 h1).1,(aaC 46 rfl h2).1,avE aa5 (aa8 h1).2.2];rfl
theorem aib {s:ByteArray}{a:Nat}(h:tk s a 35=true)(hno:nmT s (a+1)=true->tk s (a+2) 46=true->False):E nmL (s.data.toList.drop a)=none:=by
 rw[(aaC 35 rfl h).1];refine ajX aa5 fun x l' e=>?_;obtain⟨b1,e1,e⟩:=aat e;obtain⟨b2,e2,e⟩:=aat e
 cases hx:nmL x with
 | false=>rfl
 | true=>exact(hno (by rw[aeR b1,e1];exact hx) (by rw[agf b2,e2];rfl)).elim
theorem avS {s:ByteArray}{a:Nat}(h:tk s a 91=true)(h1:nmT s (a+1)=true)(h2:tk s (a+2) 61=true)(h3:nmT s (a+3)=true)(h4:tk s (a+4) 93=true) : E nmL (s.data.toList.drop a)=(E nmL (s.data.toList.drop (a+5))).map fun x=>((Hd.mat (nmV s (a+1)) (nmV s (a+3))).put x.1,x.2):=by
 rw[(aaC 91 rfl h).1,(aa8 h1).1,(aaC 61 rfl h2).1,(aa8 h3).1,(aaC 93 rfl h4).1,avF aa5 (aa8 h1).2.2 (aa8 h3).2.2];rfl
theorem adD {s:ByteArray}{a:Nat}(h:tk s a 91=true)(hno:nmT s (a+1)=true->tk s (a+2) 61=true->nmT s (a+3)=true->tk s (a+4) 93=true->False):E nmL (s.data.toList.drop a)=none:=by
 rw[(aaC 91 rfl h).1];refine ajY aa5 fun x y l' e hx=>?_;obtain⟨b1,e1,e⟩:=aat e;obtain⟨b2,e2,e⟩:=aat e;obtain⟨b3,e3,e⟩:=aat e;obtain⟨b4,e4,e⟩:=aat e
 cases hy:nmL y with
 | false=>rfl
 | true=>exact(hno (by rw[aeR b1,e1];exact hx) (by rw[agf b2,e2];rfl) (by rw[aeR b3,e3];exact hy) (by rw[agf b4,e4];rfl)).elim
theorem aqx (b:Nat)(s:ByteArray)(a:Nat)(w:World)(hs:s.size<=300)(ha:a<=s.size)(r0:RdAt w b s a)(h126:tk s a 126=true) : Calls prog 134 #[.pointer (some ⟨b,0,none⟩)] w (aa0 b s a w):=by
 have a1:=(aaC 126 rfl h126).2
 cases m1:tk s (a+1) 46 with
 | false=>
  have HE:Hid _:=qz (am3 h126 m1)
  go_enter func134,ntmps134
  go_wp2_with fail;refine(aag b s (a) 126 _ hs (by omega) r0).mono ?_;rintro e w1 ⟨rfl,r1,o1⟩;rw[aaI h126]at r1;go_wp2_with fail;refine(aag b s (a+1) 46 _ hs (by omega) r1).mono ?_;rintro e w2 ⟨rfl,r2,o2⟩;go_wp2_with fail;go_ret2;exact aa0.no _ rfl ((o1).trans o2) HE.out
 | true=>
  have a2:=(aaC 46 rfl m1).2;have HE:Hid _:=qz (avQ h126 m1)
  go_enter func134,ntmps134
  go_wp2_with fail;refine(aag b s (a) 126 _ hs (by omega) r0).mono ?_;rintro e w1 ⟨rfl,r1,o1⟩;rw[aaI h126]at r1;go_wp2_with fail;refine(aag b s (a+1) 46 _ hs (by omega) r1).mono ?_;rintro e w2 ⟨rfl,r2,o2⟩;rw[aaI m1]at r2;go_wp2_with fail;go_ret2;exact aa0.yes Hd.tau (a+2) rfl r2 ((o1).trans o2) (by omega) (by omega) HE.out
theorem aqy (b:Nat)(s:ByteArray)(a:Nat)(w:World)(hs:s.size<=300)(ha:a<=s.size)(r0:RdAt w b s a)(h126:tk s a 126=false)(h42:tk s a 42=true) : Calls prog 134 #[.pointer (some ⟨b,0,none⟩)] w (aa0 b s a w):=by
 have a1:=(aaC 42 rfl h42).2;have HE:Hid _:=qz (avP h42)
 go_enter func134,ntmps134
 go_wp2_with fail;refine(aag b s (a) 126 _ hs (by omega) r0).mono ?_;rintro e w1 ⟨rfl,r1,o1⟩;rw[aaP h126]at r1;go_wp2_with fail;refine(aag b s (a) 42 _ hs (by omega) r1).mono ?_;rintro e w2 ⟨rfl,r2,o2⟩;rw[aaI h42]at r2;go_wp2_with fail;go_ret2;exact aa0.yes Hd.rep (a+1) rfl r2 ((o1).trans o2) (by omega) (by omega) HE.out
theorem aqz (b:Nat)(s:ByteArray)(a:Nat)(w:World)(hs:s.size<=300)(ha:a<=s.size)(r0:RdAt w b s a)(h126:tk s a 126=false)(h42:tk s a 42=false)(h35:tk s a 35=true) : Calls prog 134 #[.pointer (some ⟨b,0,none⟩)] w (aa0 b s a w):=by
 have a1:=(aaC 35 rfl h35).2
 cases n1:nmT s (a+1) with
 | false=>
  have HE:Hid (E nmL (s.data.toList.drop a)=none):=aib h35 (fun q1 q2=>by simp_all)
  go_enter func134,ntmps134
  go_wp2_with fail;refine(aag b s (a) 126 _ hs (by omega) r0).mono ?_;rintro e w1 ⟨rfl,r1,o1⟩;rw[aaP h126]at r1;go_wp2_with fail;refine(aag b s (a) 42 _ hs (by omega) r1).mono ?_;rintro e w2 ⟨rfl,r2,o2⟩;rw[aaP h42]at r2;go_wp2_with fail;refine(aag b s (a) 35 _ hs (by omega) r2).mono ?_;rintro e w3 ⟨rfl,r3,o3⟩;rw[aaI h35]at r3;go_wp2_with fail;refine(aaH b s (a+1) _ hs (by omega) r3).mono ?_;rintro e w4 ⟨rfl,r4,o4⟩;go_wp2_with fail;go_ret2;exact aa0.no _ rfl ((((o1).trans o2).trans o3).trans o4) HE.out
 | true=>
  have a2:=(aa8 n1).2.1
  cases m1:tk s (a+2) 46 with
  | false=>
   have HE:Hid (E nmL (s.data.toList.drop a)=none):=aib h35 (fun q1 q2=>by simp_all)
   go_enter func134,ntmps134
   go_wp2_with fail;refine(aag b s (a) 126 _ hs (by omega) r0).mono ?_;rintro e w1 ⟨rfl,r1,o1⟩;rw[aaP h126]at r1;go_wp2_with fail;refine(aag b s (a) 42 _ hs (by omega) r1).mono ?_;rintro e w2 ⟨rfl,r2,o2⟩;rw[aaP h42]at r2;go_wp2_with fail;refine(aag b s (a) 35 _ hs (by omega) r2).mono ?_;rintro e w3 ⟨rfl,r3,o3⟩;rw[aaI h35]at r3;go_wp2_with fail;refine(aaH b s (a+1) _ hs (by omega) r3).mono ?_;rintro e w4 ⟨rfl,r4,o4⟩;rw[abb n1]at r4;go_wp2_with fail;refine(aag b s (a+2) 46 _ hs (by omega) r4).mono ?_;rintro e w5 ⟨rfl,r5,o5⟩;go_wp2_with fail;go_ret2;exact aa0.no _ rfl (((((o1).trans o2).trans o3).trans o4).trans o5) HE.out
  | true=>
   have a3:=(aaC 46 rfl m1).2;have HE:Hid _:=qz (avR h35 n1 m1)
   go_enter func134,ntmps134
   go_wp2_with fail;refine(aag b s (a) 126 _ hs (by omega) r0).mono ?_;rintro e w1 ⟨rfl,r1,o1⟩;rw[aaP h126]at r1;go_wp2_with fail;refine(aag b s (a) 42 _ hs (by omega) r1).mono ?_;rintro e w2 ⟨rfl,r2,o2⟩;rw[aaP h42]at r2;go_wp2_with fail;refine(aag b s (a) 35 _ hs (by omega) r2).mono ?_;rintro e w3 ⟨rfl,r3,o3⟩;rw[aaI h35]at r3;go_wp2_with fail;refine(aaH b s (a+1) _ hs (by omega) r3).mono ?_;rintro e w4 ⟨rfl,r4,o4⟩;rw[abb n1]at r4;go_wp2_with fail;refine(aag b s (a+2) 46 _ hs (by omega) r4).mono ?_;rintro e w5 ⟨rfl,r5,o5⟩;rw[aaI m1]at r5;go_wp2_with fail;go_ret2;exact aa0.yes (Hd.own (nmV s (a+1))) (a+3) rfl r5 (((((o1).trans o2).trans o3).trans o4).trans o5) (by omega) (by omega) HE.out
theorem aqA (b:Nat)(s:ByteArray)(a:Nat)(w:World)(hs:s.size<=300)(ha:a<=s.size)(r0:RdAt w b s a)(h126:tk s a 126=false)(h42:tk s a 42=false)(h35:tk s a 35=false)(h91:tk s a 91=true) : Calls prog 134 #[.pointer (some ⟨b,0,none⟩)] w (aa0 b s a w):=by
 have a1:=(aaC 91 rfl h91).2;have q1:=asw (s:=s) (a:=a+1) (by omega);have q2:=avM (s:=s) 61 q1.2;have q3:=asw (s:=s) q2.2
 cases n1:nmT s (a+1) with
 | false=>
  have HE:Hid (E nmL (s.data.toList.drop a)=none):=adD h91 (fun q1 q2 q3 q4=>by simp_all)
  go_enter func134,ntmps134
  go_wp2_with fail;refine(aag b s (a) 126 _ hs (by omega) r0).mono ?_;rintro e w1 ⟨rfl,r1,o1⟩;rw[aaP h126]at r1;go_wp2_with fail;refine(aag b s (a) 42 _ hs (by omega) r1).mono ?_;rintro e w2 ⟨rfl,r2,o2⟩;rw[aaP h42]at r2;go_wp2_with fail;refine(aag b s (a) 35 _ hs (by omega) r2).mono ?_;rintro e w3 ⟨rfl,r3,o3⟩;rw[aaP h35]at r3;go_wp2_with fail;refine(aag b s (a) 91 _ hs (by omega) r3).mono ?_;rintro e w4 ⟨rfl,r4,o4⟩;rw[aaI h91]at r4;go_wp2_with fail;refine(aaH b s (a+1) _ hs (by omega) r4).mono ?_;rintro e w5 ⟨rfl,r5,o5⟩;go_wp2_with fail;refine(aag b s (nmN s (a+1)) 61 _ hs (by exact q1.2) r5).mono ?_;rintro e w6 ⟨rfl,r6,o6⟩;go_wp2_with fail;refine(aaH b s (tkN s (nmN s (a+1)) 61) _ hs (by exact q2.2) r6).mono ?_;rintro e w7 ⟨rfl,r7,o7⟩;go_wp2_with fail;go_ret2;exact aa0.no _ rfl (((((((o1).trans o2).trans o3).trans o4).trans o5).trans o6).trans o7) HE.out
 | true=>
  have a2:=(aa8 n1).2.1
  cases m1:tk s (a+2) 61 with
  | false=>
   have HE:Hid (E nmL (s.data.toList.drop a)=none):=adD h91 (fun q1 q2 q3 q4=>by simp_all)
   go_enter func134,ntmps134
   go_wp2_with fail;refine(aag b s (a) 126 _ hs (by omega) r0).mono ?_;rintro e w1 ⟨rfl,r1,o1⟩;rw[aaP h126]at r1;go_wp2_with fail;refine(aag b s (a) 42 _ hs (by omega) r1).mono ?_;rintro e w2 ⟨rfl,r2,o2⟩;rw[aaP h42]at r2;go_wp2_with fail;refine(aag b s (a) 35 _ hs (by omega) r2).mono ?_;rintro e w3 ⟨rfl,r3,o3⟩;rw[aaP h35]at r3;go_wp2_with fail;refine(aag b s (a) 91 _ hs (by omega) r3).mono ?_;rintro e w4 ⟨rfl,r4,o4⟩;rw[aaI h91]at r4;go_wp2_with fail;refine(aaH b s (a+1) _ hs (by omega) r4).mono ?_;rintro e w5 ⟨rfl,r5,o5⟩;rw[abb n1]at r5;go_wp2_with fail;refine(aag b s (a+2) 61 _ hs (by omega) r5).mono ?_;rintro e w6 ⟨rfl,r6,o6⟩;rw[aaP m1]at r6;go_wp2_with fail;refine(aaH b s (a+2) _ hs (by omega) r6).mono ?_;rintro e w7 ⟨rfl,r7,o7⟩;go_wp2_with fail;go_ret2;exact aa0.no _ rfl (((((((o1).trans o2).trans o3).trans o4).trans o5).trans o6).trans o7) HE.out
  | true=>
   have a3:=(aaC 61 rfl m1).2
   cases n2:nmT s (a+3) with
   | false=>
    have HE:Hid (E nmL (s.data.toList.drop a)=none):=adD h91 (fun q1 q2 q3 q4=>by simp_all)
    go_enter func134,ntmps134
    go_wp2_with fail;refine(aag b s (a) 126 _ hs (by omega) r0).mono ?_;rintro e w1 ⟨rfl,r1,o1⟩;rw[aaP h126]at r1;go_wp2_with fail;refine(aag b s (a) 42 _ hs (by omega) r1).mono ?_;rintro e w2 ⟨rfl,r2,o2⟩;rw[aaP h42]at r2;go_wp2_with fail;refine(aag b s (a) 35 _ hs (by omega) r2).mono ?_;rintro e w3 ⟨rfl,r3,o3⟩;rw[aaP h35]at r3;go_wp2_with fail;refine(aag b s (a) 91 _ hs (by omega) r3).mono ?_;rintro e w4 ⟨rfl,r4,o4⟩;rw[aaI h91]at r4;go_wp2_with fail;refine(aaH b s (a+1) _ hs (by omega) r4).mono ?_;rintro e w5 ⟨rfl,r5,o5⟩;rw[abb n1]at r5;go_wp2_with fail;refine(aag b s (a+2) 61 _ hs (by omega) r5).mono ?_;rintro e w6 ⟨rfl,r6,o6⟩;rw[aaI m1]at r6;go_wp2_with fail;refine(aaH b s (a+3) _ hs (by omega) r6).mono ?_;rintro e w7 ⟨rfl,r7,o7⟩;go_wp2_with fail;go_ret2;exact aa0.no _ rfl (((((((o1).trans o2).trans o3).trans o4).trans o5).trans o6).trans o7) HE.out
   | true=>
    have a4:=(aa8 n2).2.1
    cases m2:tk s (a+4) 93 with
    | false=>
     have HE:Hid (E nmL (s.data.toList.drop a)=none):=adD h91 (fun q1 q2 q3 q4=>by simp_all)
     go_enter func134,ntmps134
     go_wp2_with fail;refine(aag b s (a) 126 _ hs (by omega) r0).mono ?_;rintro e w1 ⟨rfl,r1,o1⟩;rw[aaP h126]at r1;go_wp2_with fail;refine(aag b s (a) 42 _ hs (by omega) r1).mono ?_;rintro e w2 ⟨rfl,r2,o2⟩;rw[aaP h42]at r2;go_wp2_with fail;refine(aag b s (a) 35 _ hs (by omega) r2).mono ?_;rintro e w3 ⟨rfl,r3,o3⟩;rw[aaP h35]at r3;go_wp2_with fail;refine(aag b s (a) 91 _ hs (by omega) r3).mono ?_;rintro e w4 ⟨rfl,r4,o4⟩;rw[aaI h91]at r4;go_wp2_with fail;refine(aaH b s (a+1) _ hs (by omega) r4).mono ?_;rintro e w5 ⟨rfl,r5,o5⟩;rw[abb n1]at r5;go_wp2_with fail;refine(aag b s (a+2) 61 _ hs (by omega) r5).mono ?_;rintro e w6 ⟨rfl,r6,o6⟩;rw[aaI m1]at r6;go_wp2_with fail;refine(aaH b s (a+3) _ hs (by omega) r6).mono ?_;rintro e w7 ⟨rfl,r7,o7⟩;rw[abb n2]at r7;go_wp2_with fail;refine(aag b s (a+4) 93 _ hs (by omega) r7).mono ?_;rintro e w8 ⟨rfl,r8,o8⟩;go_wp2_with fail;go_ret2;exact aa0.no _ rfl ((((((((o1).trans o2).trans o3).trans o4).trans o5).trans o6).trans o7).trans o8) HE.out
    | true=>
     have a5:=(aaC 93 rfl m2).2;have HE:Hid _:=qz (avS h91 n1 m1 n2 m2)
     go_enter func134,ntmps134
     go_wp2_with fail;refine(aag b s (a) 126 _ hs (by omega) r0).mono ?_;rintro e w1 ⟨rfl,r1,o1⟩;rw[aaP h126]at r1;go_wp2_with fail;refine(aag b s (a) 42 _ hs (by omega) r1).mono ?_;rintro e w2 ⟨rfl,r2,o2⟩;rw[aaP h42]at r2;go_wp2_with fail;refine(aag b s (a) 35 _ hs (by omega) r2).mono ?_;rintro e w3 ⟨rfl,r3,o3⟩;rw[aaP h35]at r3;go_wp2_with fail;refine(aag b s (a) 91 _ hs (by omega) r3).mono ?_;rintro e w4 ⟨rfl,r4,o4⟩;rw[aaI h91]at r4;go_wp2_with fail;refine(aaH b s (a+1) _ hs (by omega) r4).mono ?_;rintro e w5 ⟨rfl,r5,o5⟩;rw[abb n1]at r5;go_wp2_with fail;refine(aag b s (a+2) 61 _ hs (by omega) r5).mono ?_;rintro e w6 ⟨rfl,r6,o6⟩;rw[aaI m1]at r6;go_wp2_with fail;refine(aaH b s (a+3) _ hs (by omega) r6).mono ?_;rintro e w7 ⟨rfl,r7,o7⟩;rw[abb n2]at r7;go_wp2_with fail;refine(aag b s (a+4) 93 _ hs (by omega) r7).mono ?_;rintro e w8 ⟨rfl,r8,o8⟩;rw[aaI m2]at r8;go_wp2_with fail;go_ret2;exact aa0.yes (Hd.mat (nmV s (a+1)) (nmV s (a+3))) (a+5) rfl r8 ((((((((o1).trans o2).trans o3).trans o4).trans o5).trans o6).trans o7).trans o8) (by omega) (by omega) HE.out
theorem aqB (b:Nat)(s:ByteArray)(a:Nat)(w:World)(hs:s.size<=300)(ha:a<=s.size)(r0:RdAt w b s a)(h48:tk s a 48=false)(h40:tk s a 40=false) : Calls prog 134 #[.pointer (some ⟨b,0,none⟩)] w (aa0 b s a w):=by
 cases h126:tk s a 126 with
 | true=>exact aqx b s a w hs ha r0 h126
 | false=>
  cases h42:tk s a 42 with
  | true=>exact aqy b s a w hs ha r0 h126 h42
  | false=>
   cases h35:tk s a 35 with
   | true=>exact aqz b s a w hs ha r0 h126 h42 h35
   | false=>
    cases h91:tk s a 91 with
    | true=>exact aqA b s a w hs ha r0 h126 h42 h35 h91
    | false=>
     go_enter func134,ntmps134
     go_wp2_with fail;refine(aag b s (a) 126 _ hs (by omega) r0).mono ?_;rintro e w1 ⟨rfl,r1,o1⟩;rw[aaP h126]at r1;go_wp2_with fail;refine(aag b s (a) 42 _ hs (by omega) r1).mono ?_;rintro e w2 ⟨rfl,r2,o2⟩;rw[aaP h42]at r2;go_wp2_with fail;refine(aag b s (a) 35 _ hs (by omega) r2).mono ?_;rintro e w3 ⟨rfl,r3,o3⟩;rw[aaP h35]at r3;go_wp2_with fail;refine(aag b s (a) 91 _ hs (by omega) r3).mono ?_;rintro e w4 ⟨rfl,r4,o4⟩;rw[aaP h91]at r4;go_wp2_with fail;refine(ah4 b s a _ hs ha r4 h48 h42 h126 h35 h91 h40).mono ?_;rintro e w5 (⟨h,a',rfl,r5,o5,l1,l2,e5⟩|⟨v,rfl,o5,e5⟩)
     ·have HE:=qz e5;clear e5;go_wp2_with fail;go_ret2;exact aa0.yes h a' rfl r5 (((((o1).trans o2).trans o3).trans o4).trans o5) l1 l2 HE.out
     ·have HE:=qz e5;clear e5;go_wp2_with fail;go_ret2;exact aa0.no v rfl (((((o1).trans o2).trans o3).trans o4).trans o5) HE.out
def abn (b:Nat)(s:ByteArray)(a:Nat)(l:List UInt8)(w:World)(e:Ending)(w':World):Prop:=
 (∃t m,e=.returned (.tuple #[.iface (aau t) (pay t),.bool true])/\RdAt w' b s m/\Only b w w'/\a<m/\m<=s.size/\E nmL l=some (t,s.data.toList.drop m))\/
 (∃v,e=.returned (.tuple #[v,.bool false])/\Only b w w'/\E nmL l=none)
theorem abn.yes {b:Nat}{s:ByteArray}{a:Nat}{l:List UInt8}{w:World}{e:Ending}{w':World}(t:Tm)(m:Nat)(h1:e=.returned (.tuple #[.iface (aau t) (pay t),.bool true]))(h2:RdAt w' b s m)(h3:Only b w w')(h4:a<m)(h5:m<=s.size)
  (h6:E nmL l=some (t,s.data.toList.drop m)):abn b s a l w e w':=.inl ⟨t,m,h1,h2,h3,h4,h5,h6⟩
theorem abn.no {b:Nat}{s:ByteArray}{a:Nat}{l:List UInt8}{w:World}{e:Ending}{w':World}(v:Value)(h1:e=.returned (.tuple #[v,.bool false]))(h3:Only b w w')
  (h6:E nmL l=none):abn b s a l w e w':=.inr ⟨v,h1,h3,h6⟩
def am4 (b:Nat)(s:ByteArray)(a:Nat):Prop:=∀(a':Nat) (w:World),a<=a'->a'<=s.size->RdAt w b s a'->
 Calls prog 87 #[.pointer (some ⟨b,0,none⟩)] w (abn b s a' (s.data.toList.drop a') w)
theorem am5 (w:World)(x:Value)(T:TypeId):(w.alloc (.cells #[x] T)).cell? ⟨w.heap.size,0,none⟩=some x:=by rw[World.cell?_alloc_new];rfl
theorem agH (w:World)(x y:Value)(T:TypeId):(w.alloc (.cells #[x,y] T)).cell? ⟨w.heap.size,0,none⟩=some x:=by rw[World.cell?_alloc_new];rfl
theorem agI (w:World)(x y:Value)(T:TypeId):(w.alloc (.cells #[x,y] T)).cell? ⟨w.heap.size,1,none⟩=some y:=by rw[World.cell?_alloc_new];rfl
theorem aqC (b:Nat)(s:ByteArray)(a:Nat)(w:World)(hs:s.size<=300)(ha:a<=s.size)(r0:RdAt w b s a)(ih0:am4 b s a) : Calls prog 133 #[.pointer (some ⟨b,0,none⟩)] w (abn b s a (40::s.data.toList.drop a) w):=by
 have ih:=qz ih0;clear ih0
 go_enter func133,ntmps133
 go_wp2_with fail;refine(ih.out a _ (nl _) ha r0).mono ?_;rintro e w1 (⟨t,m,rfl,r1,o1,lm1,lm2,e1⟩|⟨v,rfl,o1,e1⟩)
 ·have E1:=qz e1;clear e1
  cases h38:tk s m 38 with
  | true=>
   have a1:=(aaC 38 rfl h38).2;have E1':Hid (E nmL (s.data.toList.drop a)=some (t,38::s.data.toList.drop (m+1))):=by have:=E1.out;rw[(aaC 38 rfl h38).1]at this;exact this
   go_wp2_with fail;refine(aag b s (m) 38 _ hs (by omega) r1).mono ?_;rintro e w2 ⟨rfl,r2,o2⟩;rw[aaI h38]at r2;go_wp2_with fail;refine(ih.out (m+1) _ (by omega) (by omega) r2).mono ?_;rintro e w3 (⟨q,n,rfl,r3,o3,ln1,ln2,e2⟩|⟨v,rfl,o3,e2⟩)
   ·have E2:=qz e2;clear e2
    cases h41:tk s n 41 with
    | true=>
     have a2:=(aaC 41 rfl h41).2;have E2':Hid (E nmL (s.data.toList.drop (m+1))=some (q,41::s.data.toList.drop (n+1))):=by have:=E2.out;rw[(aaC 41 rfl h41).1]at this;exact this
     have HE:Hid (E nmL (40::s.data.toList.drop a)=some (.par t q,s.data.toList.drop (n+1))):=avJ aa5 E1'.out E2'.out;go_wp2_with fail;refine(aag b s (n) 41 _ hs (by omega) r3).mono ?_;rintro e w4 ⟨rfl,r4,o4⟩;rw[aaI h41]at r4;go_wp2_with fail;refine(ah_ _ _ _ _ _ _ _ _ _ (.inl rfl) (.inl rfl) (nl _) (agH _ _ _ _) (agI _ _ _ _)).mono ?_;rintro e w5 ⟨rfl,b5⟩;go_wp2_with fail;go_ret2;exact abn.yes (.par t q) (n+1) rfl ((r4.alloc _).below b5) ((((((o1).trans o2).trans o3).trans o4).alloc _).below b5) (by omega) (by omega) HE.out
    | false=>
     have HE:Hid (E nmL (40::s.data.toList.drop a)=none):=aec aa5 E1'.out E2.out (agz 41 rfl h41);go_wp2_with fail;refine(aag b s (n) 41 _ hs (by omega) r3).mono ?_;rintro e w4 ⟨rfl,r4,o4⟩;go_wp2_with fail;go_ret2;exact abn.no _ rfl ((((o1).trans o2).trans o3).trans o4) HE.out
   ·have HE:Hid (E nmL (40::s.data.toList.drop a)=none):=aeb aa5 E1'.out e2;clear e2;go_wp2_with fail;go_ret2;exact abn.no _ rfl (((o1).trans o2).trans o3) HE.out
  | false=>
   go_wp2_with fail;refine(aag b s (m) 38 _ hs (by omega) r1).mono ?_;rintro e w2 ⟨rfl,r2,o2⟩;rw[aaP h38]at r2
   cases h43:tk s m 43 with
   | true=>
    have a1:=(aaC 43 rfl h43).2;have E1':Hid (E nmL (s.data.toList.drop a)=some (t,43::s.data.toList.drop (m+1))):=by have:=E1.out;rw[(aaC 43 rfl h43).1]at this;exact this
    go_wp2_with fail;refine(aag b s (m) 43 _ hs (by omega) r2).mono ?_;rintro e w3 ⟨rfl,r3,o3⟩;rw[aaI h43]at r3;go_wp2_with fail;refine(ih.out (m+1) _ (by omega) (by omega) r3).mono ?_;rintro e w4 (⟨q,n,rfl,r4,o4,ln1,ln2,e2⟩|⟨v,rfl,o4,e2⟩)
    ·have E2:=qz e2;clear e2
     cases h41:tk s n 41 with
     | true=>
      have a2:=(aaC 41 rfl h41).2;have E2':Hid (E nmL (s.data.toList.drop (m+1))=some (q,41::s.data.toList.drop (n+1))):=by have:=E2.out;rw[(aaC 41 rfl h41).1]at this;exact this
      have HE:Hid (E nmL (40::s.data.toList.drop a)=some (.sum t q,s.data.toList.drop (n+1))):=avI aa5 E1'.out E2'.out;go_wp2_with fail;refine(aag b s (n) 41 _ hs (by omega) r4).mono ?_;rintro e w5 ⟨rfl,r5,o5⟩;rw[aaI h41]at r5;go_wp2_with fail;refine(ah9 _ _ _ _ _ _ _ _ _ (.inl rfl) (.inl rfl) (nl _) (agH _ _ _ _) (agI _ _ _ _)).mono ?_;rintro e w6 ⟨rfl,b6⟩;go_wp2_with fail;go_ret2;exact abn.yes (.sum t q) (n+1) rfl ((r5.alloc _).below b6) (((((((o1).trans o2).trans o3).trans o4).trans o5).alloc _).below b6) (by omega) (by omega) HE.out
     | false=>
      have HE:Hid (E nmL (40::s.data.toList.drop a)=none):=aec aa5 E1'.out E2.out (agz 41 rfl h41);go_wp2_with fail;refine(aag b s (n) 41 _ hs (by omega) r4).mono ?_;rintro e w5 ⟨rfl,r5,o5⟩;go_wp2_with fail;go_ret2;exact abn.no _ rfl (((((o1).trans o2).trans o3).trans o4).trans o5) HE.out
    ·have HE:Hid (E nmL (40::s.data.toList.drop a)=none):=aeb aa5 E1'.out e2;clear e2;go_wp2_with fail;go_ret2;exact abn.no _ rfl ((((o1).trans o2).trans o3).trans o4) HE.out
   | false=>
    have HE:Hid (E nmL (40::s.data.toList.drop a)=none):=agy aa5 E1.out (fun r'=>⟨agz 43 rfl h43 r',agz 38 rfl h38 r'⟩);go_wp2_with fail;refine(aag b s (m) 43 _ hs (by omega) r2).mono ?_;rintro e w3 ⟨rfl,r3,o3⟩;go_wp2_with fail;go_ret2;exact abn.no _ rfl (((o1).trans o2).trans o3) HE.out
 ·have HE:Hid (E nmL (40::s.data.toList.drop a)=none):=agx aa5 e1;clear e1;go_wp2_with fail;go_ret2;exact abn.no _ rfl o1 HE.out
theorem aic (b:Nat)(s:ByteArray)(a:Nat)(w:World)(hs:s.size<=300)(ha:a<=s.size)(r0:RdAt w b s a)(ih0:am4 b s (a+1)) : Calls prog 87 #[.pointer (some ⟨b,0,none⟩)] w (abn b s a (s.data.toList.drop a) w):=by
 have ih:=qz ih0;clear ih0
 cases h48:tk s a 48 with
 | true=>
  have a1:=(aaC 48 rfl h48).2;have HE:Hid (E nmL (s.data.toList.drop a)=some (.nil,s.data.toList.drop (a+1))):=by rw[(aaC 48 rfl h48).1];exact ass aa5 _
  go_enter func87,ntmps87
  go_wp2_with fail;refine(aag b s (a) 48 _ hs (by omega) r0).mono ?_;rintro e w1 ⟨rfl,r1,o1⟩;rw[aaI h48]at r1;go_wp2_with fail;go_ret2;exact abn.yes .nil (a+1) rfl r1 o1 (by omega) (by omega) HE.out
 | false=>
  cases h40:tk s a 40 with
  | true=>
   have a1:=(aaC 40 rfl h40).2;have HD:Hid (s.data.toList.drop a=40::s.data.toList.drop (a+1)):=(aaC 40 rfl h40).1
   go_enter func87,ntmps87
   go_wp2_with fail;refine(aag b s (a) 48 _ hs (by omega) r0).mono ?_;rintro e w1 ⟨rfl,r1,o1⟩;rw[aaP h48]at r1;go_wp2_with fail;refine(aag b s (a) 40 _ hs (by omega) r1).mono ?_;rintro e w2 ⟨rfl,r2,o2⟩;rw[aaI h40]at r2;go_wp2_with fail;refine(aqC b s (a+1) _ hs (by omega) r2 ih.out).mono ?_;rintro e w3 (⟨t,m,rfl,r3,o3,l1,l2,e1⟩|⟨v,rfl,o3,e1⟩)
   ·have HE:=qz e1;clear e1;go_wp2_with fail;go_ret2;exact abn.yes t m rfl r3 ((o1.trans o2).trans o3) (by omega) (by omega) (by rw[HD.out];exact HE.out)
   ·have HE:=qz e1;clear e1;go_wp2_with fail;go_ret2;exact abn.no v rfl ((o1.trans o2).trans o3) (by rw[HD.out];exact HE.out)
  | false=>
   go_enter func87,ntmps87
   go_wp2_with fail;refine(aag b s (a) 48 _ hs (by omega) r0).mono ?_;rintro e w1 ⟨rfl,r1,o1⟩;rw[aaP h48]at r1;go_wp2_with fail;refine(aag b s (a) 40 _ hs (by omega) r1).mono ?_;rintro e w2 ⟨rfl,r2,o2⟩;rw[aaP h40]at r2;go_wp2_with fail;refine(aqB b s a _ hs ha r2 h48 h40).mono ?_;rintro e w3 (⟨h,a',rfl,r3,o3,l1,l2,e1⟩|⟨v,rfl,o3,e1⟩)
   ·have E1:=qz e1;clear e1;go_wp2_with fail;refine(ih.out a' _ (by omega) (by omega) r3).mono ?_;rintro e w4 (⟨t,m,rfl,r4,o4,k1,k2,e2⟩|⟨v,rfl,o4,e2⟩)
    ·have HE:Hid (E nmL (s.data.toList.drop a)=some (h.put t,s.data.toList.drop m)):=by have:=E1.out;rw[e2]at this;exact this
     clear e2;go_wp2_with fail;refine(aia h t _ _ _ (nl _) (am5 _ _ _)).mono ?_;rintro e w5 ⟨rfl,b5⟩;go_wp2_with fail;go_ret2;exact abn.yes (h.put t) m rfl ((r4.alloc _).below b5) (((((o1.trans o2).trans o3).trans o4).alloc _).below b5) (by omega) (by omega) HE.out
    ·have HE:Hid (E nmL (s.data.toList.drop a)=none):=by have:=E1.out;rw[e2]at this;exact this
     clear e2;go_wp2_with fail;go_ret2;exact abn.no _ rfl (((o1.trans o2).trans o3).trans o4) HE.out
   ·have HE:=qz e1;clear e1;go_wp2_with fail;go_ret2;exact abn.no _ rfl ((o1.trans o2).trans o3) HE.out
theorem ajf (b:Nat)(s:ByteArray)(hs:s.size<=300)(k:Nat):∀a,s.size+1 - a<=k->am4 b s a:=by
 induction k with
 | zero=>exact fun a hk a' w h1 h2 _=>by omega
 | succ k ih=>exact fun a hk a' w h1 h2 hr=>aic b s a' w hs h2 hr (ih (a'+1) (by omega))
theorem ajg (b:Nat)(s:ByteArray)(hs:s.size<=300)(a:Nat)(w:World)(ha:a<=s.size)(hr:RdAt w b s a) :
  Calls prog 87 #[.pointer (some ⟨b,0,none⟩)] w (abn b s a (s.data.toList.drop a) w):=
 ajf b s hs (s.size+1) a (by omega) a w (nl _) ha hr
end Go.Proofs.YtihmcgcgjmbmhaaGreat.T1
