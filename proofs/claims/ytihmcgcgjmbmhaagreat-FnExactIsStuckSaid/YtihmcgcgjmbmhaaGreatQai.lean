/- Texts of the proof. No conditions. -/
import Derived.Test.YtihmcgcgjmbmhaaGreatQad
import Derived.Deep.RegionWith
namespace Go.Proofs.YtihmcgcgjmbmhaaGreat.T1
open Go.Proofs.Tryz
set_option maxHeartbeats 2000000
open Go.RowKit
set_option maxRecDepth 100000
set_option linter.unusedVariables false
theorem alW (F:FuncId)(caps:Array Value)  (w:World) : Calls prog 172 #[.iface 134 (.agg #[]),.func (.func F) #[] caps] w fun e w'=>e=.returned (.iface 134 (.agg #[]))/\Zb w w':=by
 go_enter func172,ntmps172
 go_wp2_with fail;go_ret
 first|exact⟨rfl,Below.refl _ _⟩|exact⟨rfl,bra⟩
theorem atB (F:FuncId)(caps:Array Value)(hF:∀args w,(callFunc F args).run prog w=.ok (.enter F args) w)(n0 n1:Int)(tz:TypeId)(vz:Value)(m0 m1:Int)(w:World)(H0:∀v,Zb w v->Calls prog F (#[.int .u8 n0]++caps) v fun e v'=>e=.returned (.int .u8 m0)/\v=v')(H1:∀v,Zb w v->Calls prog F (#[.int .u8 n1]++caps) v fun e v'=>e=.returned (.int .u8 m1)/\v=v') : Calls prog 172 #[.iface 148 (.agg #[.int .u8 n0,.int .u8 n1,.iface tz vz]),.func (.func F) #[] caps] w fun e w'=>e=.returned (.iface 148 (.agg #[.int .u8 m0,.int .u8 m1,.iface tz vz]))/\Zb w w':=by
 have H0':=qz H0;have H1':=qz H1;clear H0 H1
 go_enter func172,ntmps172
 go_wp2_with fail
 go_region_with (first|((with_reducible refine(H0'.out _ (by first|exact bra|exact(bra).drew|exact(bra).drew.drew)).mono ?_);rintro e v1 ⟨rfl,rfl⟩)|((with_reducible refine(H1'.out _ (by first|exact bra|exact(bra).drew|exact(bra).drew.drew)).mono ?_);rintro e v1 ⟨rfl,rfl⟩))
 all_goals
  go_wp2_with fail;go_ret;exact⟨rfl,(bra).drew⟩
theorem alX (F:FuncId)(caps:Array Value)(hF:∀args w,(callFunc F args).run prog w=.ok (.enter F args) w)(n0 n1:Int)(tz:TypeId)(vz:Value)(m0:Int)(w:World)(H0:∀v,Zb w v->Calls prog F (#[.int .u8 n0]++caps) v fun e v'=>e=.returned (.int .u8 m0)/\v=v') : Calls prog 172 #[.iface 189 (.agg #[.int .u8 n0,.int .u8 n1,.iface tz vz]),.func (.func F) #[] caps] w fun e w'=>e=.returned (.iface 189 (.agg #[.int .u8 m0,.int .u8 n1,.iface tz vz]))/\Zb w w':=by
 have H0':=qz H0;clear H0
 go_enter func172,ntmps172
 go_wp2_with fail;refine(H0'.out _ (bra)).mono ?_;rintro e v1 ⟨rfl,rfl⟩;go_wp2_with fail;go_ret;exact⟨rfl,bra⟩
theorem aou (F:FuncId)(caps:Array Value)(tz:TypeId)(vz:Value)(w:World) : Calls prog 172 #[.iface 143 (.agg #[.iface tz vz]),.func (.func F) #[] caps] w fun e w'=>e=.returned (.iface 143 (.agg #[.iface tz vz]))/\Zb w w':=by
 go_enter func172,ntmps172
 go_wp2_with fail;go_ret
 first|exact⟨rfl,Below.refl _ _⟩|exact⟨rfl,bra⟩
theorem aov (F:FuncId)(caps:Array Value)(tz ty:TypeId)(vz vy:Value)(w:World) : Calls prog 172 #[.iface 165 (.agg #[.iface tz vz,.iface ty vy]),.func (.func F) #[] caps] w fun e w'=>e=.returned (.iface 165 (.agg #[.iface tz vz,.iface ty vy]))/\Zb w w':=by
 go_enter func172,ntmps172
 go_wp2_with fail;go_ret
 first|exact⟨rfl,Below.refl _ _⟩|exact⟨rfl,bra⟩
theorem aow (F:FuncId)(caps:Array Value)(tz ty:TypeId)(vz vy:Value)(w:World) : Calls prog 172 #[.iface 140 (.agg #[.iface tz vz,.iface ty vy]),.func (.func F) #[] caps] w fun e w'=>e=.returned (.iface 140 (.agg #[.iface tz vz,.iface ty vy]))/\Zb w w':=by
 go_enter func172,ntmps172
 go_wp2_with fail;go_ret
 first|exact⟨rfl,Below.refl _ _⟩|exact⟨rfl,bra⟩
theorem awt (F:FuncId)(caps:Array Value)(n0:Int)(tz:TypeId)(vz:Value)(w:World) : Calls prog 172 #[.iface 136 (.agg #[.int .u8 n0,.iface tz vz]),.func (.func F) #[] caps] w fun e w'=>e=.returned (.iface 136 (.agg #[.int .u8 n0,.iface tz vz]))/\Zb w w':=by
 go_enter func172,ntmps172
 go_wp2_with fail;go_ret
 first|exact⟨rfl,Below.refl _ _⟩|exact⟨rfl,bra⟩
theorem aq5 (F:FuncId)(caps:Array Value)(hF:∀args w,(callFunc F args).run prog w=.ok (.enter F args) w)(n0 n1:Int)(tz:TypeId)(vz:Value)(m0 m1:Int)(w:World)(H0:∀v,Zb w v->Calls prog F (#[.int .u8 n0]++caps) v fun e v'=>e=.returned (.int .u8 m0)/\v=v')(H1:∀v,Zb w v->Calls prog F (#[.int .u8 n1]++caps) v fun e v'=>e=.returned (.int .u8 m1)/\v=v') : Calls prog 172 #[.iface 177 (.agg #[.int .u8 n0,.int .u8 n1,.iface tz vz]),.func (.func F) #[] caps] w fun e w'=>e=.returned (.iface 177 (.agg #[.int .u8 m0,.int .u8 m1,.iface tz vz]))/\Zb w w':=by
 have H0':=qz H0;have H1':=qz H1;clear H0 H1
 go_enter func172,ntmps172
 go_wp2_with fail
 go_region_with (first|((with_reducible refine(H0'.out _ (by first|exact bra|exact(bra).drew|exact(bra).drew.drew)).mono ?_);rintro e v1 ⟨rfl,rfl⟩)|((with_reducible refine(H1'.out _ (by first|exact bra|exact(bra).drew|exact(bra).drew.drew)).mono ?_);rintro e v1 ⟨rfl,rfl⟩))
 all_goals
  go_wp2_with fail;go_ret;exact⟨rfl,(bra).drew⟩
theorem aox (F:FuncId)(caps:Array Value)(tz:TypeId)(vz:Value)(w:World) : Calls prog 172 #[.iface 120 (.agg #[.iface tz vz]),.func (.func F) #[] caps] w fun e w'=>e=.returned (.iface 120 (.agg #[.iface tz vz]))/\Zb w w':=by
 go_enter func172,ntmps172
 go_wp2_with fail;go_ret
 first|exact⟨rfl,Below.refl _ _⟩|exact⟨rfl,bra⟩
def Tm.mapU (f:UInt8->UInt8):Tm->Tm
 | .snd a b p=>.snd (f a) (f b) p
 | .rcv a x p=>.rcv (f a) x p
 | .mat a b p=>.mat (f a) (f b) p
 | t=>t
def Tm.used:Tm->List UInt8
 | .snd a b _=>[a,b]
 | .rcv a _ _=>[a]
 | .mat a b _=>[a,b]
 | _=>[]
theorem acZ (t:Tm)(F:FuncId)(caps:Array Value)(f:UInt8->UInt8)(hF:∀args w,(callFunc F args).run prog w=.ok (.enter F args) w)(w:World) (HC:∀c,c∈t.used->∀v,Zb w v->Calls prog F (#[.int .u8 (c.toNat:Int)]++caps) v fun e v'=>e=.returned (.int .u8 ((f c).toNat:Int))/\v=v') : Calls prog 172 #[.iface (aau t) (pay t),.func (.func F) #[] caps] w fun e w'=>e=.returned (.iface (aau (t.mapU f)) (pay (t.mapU f)))/\Zb w w':=by
 cases t with
 | nil =>exact alW F caps w
 | snd a b p=>exact atB F caps hF _ _ _ _ _ _ w (HC a (by simp[Tm.used])) (HC b (by simp[Tm.used]))
 | rcv a x p=>exact alX F caps hF _ _ _ _ _ w (HC a (by simp[Tm.used]))
 | tau p=>exact aou F caps _ _ w
 | sum p q=>exact aov F caps _ _ _ _ w
 | par p q=>exact aow F caps _ _ _ _ w
 | own x p=>exact awt F caps _ _ _ w
 | mat a b p=>exact aq5 F caps hF _ _ _ _ _ _ w (HC a (by simp[Tm.used])) (HC b (by simp[Tm.used]))
 | rep p=>exact aox F caps _ _ w
theorem aeD (n0 n1:Int)(tz:TypeId)(vz:Value)(m:Int)(w:World) : Calls prog 174 #[.iface 189 (.agg #[.int .u8 n0,.int .u8 n1,.iface tz vz]),.int .u8 m] w fun e w'=>e=.returned (.iface 189 (.agg #[.int .u8 n0,.int .u8 m,.iface tz vz]))/\Zb w w':=by
 go_enter func174,ntmps174
 go_wp2_with fail;go_ret
 first|exact⟨rfl,Below.refl _ _⟩|exact⟨rfl,bra⟩
theorem asL (n0:Int)(tz:TypeId)(vz:Value)(m:Int)(w:World) : Calls prog 174 #[.iface 136 (.agg #[.int .u8 n0,.iface tz vz]),.int .u8 m] w fun e w'=>e=.returned (.iface 136 (.agg #[.int .u8 m,.iface tz vz]))/\Zb w w':=by
 go_enter func174,ntmps174
 go_wp2_with fail;go_ret
 first|exact⟨rfl,Below.refl _ _⟩|exact⟨rfl,bra⟩
end Go.Proofs.YtihmcgcgjmbmhaaGreat.T1
