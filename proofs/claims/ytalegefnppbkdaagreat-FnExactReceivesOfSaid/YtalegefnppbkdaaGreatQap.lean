/- Texts of the proof. No conditions. -/
import Derived.Test.YtalegefnppbkdaaGreatQaf
import Derived.Deep.RegionWith
namespace Go.Proofs.YtalegefnppbkdaaGreat.T1
open Go.Proofs.Tryz
set_option maxHeartbeats 2000000
open Go.RowKit
set_option maxRecDepth 100000
set_option linter.unusedVariables false
theorem alm (F:FuncId)(caps:Array Value)  (w:World) : Calls prog 175 #[.iface 90 (.agg #[]),.func (.func F) #[] caps] w fun e w'=>e=.returned (.iface 90 (.agg #[]))/\Zb w w':=by
 go_enter func175,ntmps175
 go_wp2_with fail;go_ret
 first|exact⟨rfl,Below.refl _ _⟩|exact⟨rfl,bra⟩
theorem asD (F:FuncId)(caps:Array Value)(hF:∀args w,(callFunc F args).run prog w=.ok (.enter F args) w)(n0 n1:Int)(tz:TypeId)(vz:Value)(m0 m1:Int)(w:World)(H0:∀v,Zb w v->Calls prog F (#[.int .u8 n0]++caps) v fun e v'=>e=.returned (.int .u8 m0)/\v=v')(H1:∀v,Zb w v->Calls prog F (#[.int .u8 n1]++caps) v fun e v'=>e=.returned (.int .u8 m1)/\v=v') : Calls prog 175 #[.iface 108 (.agg #[.int .u8 n0,.int .u8 n1,.iface tz vz]),.func (.func F) #[] caps] w fun e w'=>e=.returned (.iface 108 (.agg #[.int .u8 m0,.int .u8 m1,.iface tz vz]))/\Zb w w':=by
 have H0':=qz H0;have H1':=qz H1;clear H0 H1
 go_enter func175,ntmps175
 go_wp2_with fail
 go_region_with (first|((with_reducible refine(H0'.out _ (by first|exact bra|exact(bra).drew|exact(bra).drew.drew)).mono ?_);rintro e v1 ⟨rfl,rfl⟩)|((with_reducible refine(H1'.out _ (by first|exact bra|exact(bra).drew|exact(bra).drew.drew)).mono ?_);rintro e v1 ⟨rfl,rfl⟩))
 all_goals
  go_wp2_with fail;go_ret;exact⟨rfl,(bra).drew⟩
theorem aln (F:FuncId)(caps:Array Value)(hF:∀args w,(callFunc F args).run prog w=.ok (.enter F args) w)(n0 n1:Int)(tz:TypeId)(vz:Value)(m0:Int)(w:World)(H0:∀v,Zb w v->Calls prog F (#[.int .u8 n0]++caps) v fun e v'=>e=.returned (.int .u8 m0)/\v=v') : Calls prog 175 #[.iface 111 (.agg #[.int .u8 n0,.int .u8 n1,.iface tz vz]),.func (.func F) #[] caps] w fun e w'=>e=.returned (.iface 111 (.agg #[.int .u8 m0,.int .u8 n1,.iface tz vz]))/\Zb w w':=by
 have H0':=qz H0;clear H0
 go_enter func175,ntmps175
 go_wp2_with fail;refine(H0'.out _ (bra)).mono ?_;rintro e v1 ⟨rfl,rfl⟩;go_wp2_with fail;go_ret;exact⟨rfl,bra⟩
theorem an0 (F:FuncId)(caps:Array Value)(tz:TypeId)(vz:Value)(w:World) : Calls prog 175 #[.iface 146 (.agg #[.iface tz vz]),.func (.func F) #[] caps] w fun e w'=>e=.returned (.iface 146 (.agg #[.iface tz vz]))/\Zb w w':=by
 go_enter func175,ntmps175
 go_wp2_with fail;go_ret
 first|exact⟨rfl,Below.refl _ _⟩|exact⟨rfl,bra⟩
theorem an1 (F:FuncId)(caps:Array Value)(tz ty:TypeId)(vz vy:Value)(w:World) : Calls prog 175 #[.iface 62 (.agg #[.iface tz vz,.iface ty vy]),.func (.func F) #[] caps] w fun e w'=>e=.returned (.iface 62 (.agg #[.iface tz vz,.iface ty vy]))/\Zb w w':=by
 go_enter func175,ntmps175
 go_wp2_with fail;go_ret
 first|exact⟨rfl,Below.refl _ _⟩|exact⟨rfl,bra⟩
theorem an2 (F:FuncId)(caps:Array Value)(tz ty:TypeId)(vz vy:Value)(w:World) : Calls prog 175 #[.iface 55 (.agg #[.iface tz vz,.iface ty vy]),.func (.func F) #[] caps] w fun e w'=>e=.returned (.iface 55 (.agg #[.iface tz vz,.iface ty vy]))/\Zb w w':=by
 go_enter func175,ntmps175
 go_wp2_with fail;go_ret
 first|exact⟨rfl,Below.refl _ _⟩|exact⟨rfl,bra⟩
theorem au5 (F:FuncId)(caps:Array Value)(n0:Int)(tz:TypeId)(vz:Value)(w:World) : Calls prog 175 #[.iface 61 (.agg #[.int .u8 n0,.iface tz vz]),.func (.func F) #[] caps] w fun e w'=>e=.returned (.iface 61 (.agg #[.int .u8 n0,.iface tz vz]))/\Zb w w':=by
 go_enter func175,ntmps175
 go_wp2_with fail;go_ret
 first|exact⟨rfl,Below.refl _ _⟩|exact⟨rfl,bra⟩
theorem aqe (F:FuncId)(caps:Array Value)(hF:∀args w,(callFunc F args).run prog w=.ok (.enter F args) w)(n0 n1:Int)(tz:TypeId)(vz:Value)(m0 m1:Int)(w:World)(H0:∀v,Zb w v->Calls prog F (#[.int .u8 n0]++caps) v fun e v'=>e=.returned (.int .u8 m0)/\v=v')(H1:∀v,Zb w v->Calls prog F (#[.int .u8 n1]++caps) v fun e v'=>e=.returned (.int .u8 m1)/\v=v') : Calls prog 175 #[.iface 150 (.agg #[.int .u8 n0,.int .u8 n1,.iface tz vz]),.func (.func F) #[] caps] w fun e w'=>e=.returned (.iface 150 (.agg #[.int .u8 m0,.int .u8 m1,.iface tz vz]))/\Zb w w':=by
 have H0':=qz H0;have H1':=qz H1;clear H0 H1
 go_enter func175,ntmps175
 go_wp2_with fail
 go_region_with (first|((with_reducible refine(H0'.out _ (by first|exact bra|exact(bra).drew|exact(bra).drew.drew)).mono ?_);rintro e v1 ⟨rfl,rfl⟩)|((with_reducible refine(H1'.out _ (by first|exact bra|exact(bra).drew|exact(bra).drew.drew)).mono ?_);rintro e v1 ⟨rfl,rfl⟩))
 all_goals
  go_wp2_with fail;go_ret;exact⟨rfl,(bra).drew⟩
theorem an3 (F:FuncId)(caps:Array Value)(tz:TypeId)(vz:Value)(w:World) : Calls prog 175 #[.iface 147 (.agg #[.iface tz vz]),.func (.func F) #[] caps] w fun e w'=>e=.returned (.iface 147 (.agg #[.iface tz vz]))/\Zb w w':=by
 go_enter func175,ntmps175
 go_wp2_with fail;go_ret
 first|exact⟨rfl,Below.refl _ _⟩|exact⟨rfl,bra⟩
def Tm.mapU (f:UInt8->UInt8):Tm->Tm
 | .snd a b p=>.snd (f a) (f b) p
 | .rcv a x p=>.rcv (f a) x p
 | .mat a b p=>.mat (f a) (f b) p
 | t=>t
def Tm.used:Tm->List UInt8
 | .snd a b _=>[a,b]
 | .rcv a _ _=>[a]
 | .mat a b _=>[a,b]
 | _=>[]
theorem aex (t:Tm)(F:FuncId)(caps:Array Value)(f:UInt8->UInt8)(hF:∀args w,(callFunc F args).run prog w=.ok (.enter F args) w)(w:World) (HC:∀c,c∈t.used->∀v,Zb w v->Calls prog F (#[.int .u8 (c.toNat:Int)]++caps) v fun e v'=>e=.returned (.int .u8 ((f c).toNat:Int))/\v=v') : Calls prog 175 #[.iface (aaB t) (pay t),.func (.func F) #[] caps] w fun e w'=>e=.returned (.iface (aaB (t.mapU f)) (pay (t.mapU f)))/\Zb w w':=by
 cases t with
 | nil =>exact alm F caps w
 | snd a b p=>exact asD F caps hF _ _ _ _ _ _ w (HC a (by simp[Tm.used])) (HC b (by simp[Tm.used]))
 | rcv a x p=>exact aln F caps hF _ _ _ _ _ w (HC a (by simp[Tm.used]))
 | tau p=>exact an0 F caps _ _ w
 | sum p q=>exact an1 F caps _ _ _ _ w
 | par p q=>exact an2 F caps _ _ _ _ w
 | own x p=>exact au5 F caps _ _ _ w
 | mat a b p=>exact aqe F caps hF _ _ _ _ _ _ w (HC a (by simp[Tm.used])) (HC b (by simp[Tm.used]))
 | rep p=>exact an3 F caps _ _ w
theorem agt (n0 n1:Int)(tz:TypeId)(vz:Value)(m:Int)(w:World) : Calls prog 177 #[.iface 111 (.agg #[.int .u8 n0,.int .u8 n1,.iface tz vz]),.int .u8 m] w fun e w'=>e=.returned (.iface 111 (.agg #[.int .u8 n0,.int .u8 m,.iface tz vz]))/\Zb w w':=by
 go_enter func177,ntmps177
 go_wp2_with fail;go_ret
 first|exact⟨rfl,Below.refl _ _⟩|exact⟨rfl,bra⟩
theorem au6 (n0:Int)(tz:TypeId)(vz:Value)(m:Int)(w:World) : Calls prog 177 #[.iface 61 (.agg #[.int .u8 n0,.iface tz vz]),.int .u8 m] w fun e w'=>e=.returned (.iface 61 (.agg #[.int .u8 m,.iface tz vz]))/\Zb w w':=by
 go_enter func177,ntmps177
 go_wp2_with fail;go_ret
 first|exact⟨rfl,Below.refl _ _⟩|exact⟨rfl,bra⟩
end Go.Proofs.YtalegefnppbkdaaGreat.T1
