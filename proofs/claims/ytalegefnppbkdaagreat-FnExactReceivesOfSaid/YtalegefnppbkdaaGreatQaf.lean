/- Texts of the proof. No conditions. -/
import Derived.Test.YtalegefnppbkdaaGreatQae
import Derived.LoopN
namespace Go.Proofs.YtalegefnppbkdaaGreat.T1
open Go.Proofs.Tryz
set_option maxHeartbeats 1000000
open Go.RowKit
set_option maxRecDepth 100000
def acS (ps:List Tm)(w:World)(e:Ending)(w':World):Prop:=
 match ps with
 | []=>e=.returned (.slice none 0 0)/\Zb w w'
 | [p]=>∃b,e=.returned (.slice (some ⟨b,0,none⟩) 1 1)/\w.heap.size<=b/\w'.heap[b]?=some (.cells #[.iface (aaB p) (pay p)] 38 (0,0))/\Zb w w'
 | [p,q]=>∃b,e=.returned (.slice (some ⟨b,0,none⟩) 2 2)/\w.heap.size<=b/\w'.heap[b]?=some (.cells #[.iface (aaB p) (pay p),.iface (aaB q) (pay q)] 38 (0,0))/\Zb w w'
 | _=>False
structure PartsFact (T:TypeId) (V:Value) (ps:List Tm):Prop where
 pf:∃(F:FuncId) (R:Value),(∀n w,(method (n+1) T V "loop.example/g01175/impl.parts").run prog w=.ok (F,R) w)/\(∀n w,(nilAhead (n+1) T V "loop.example/g01175/impl.parts").run prog w=.ok (some false) w)/\(∀args w,(callFunc F args).run prog w=.ok (.enter F args) w)/\∀w,Calls prog F #[R] w (acS ps w)
theorem abj (w:World)(o o':Obj):((w.alloc o).alloc o').heap[w.heap.size+1]?=some o':=by
 show ((w.heap.push o).push o')[w.heap.size+1]?=_;rw[Array.getElem?_push,if_pos (by simp)]
theorem agN (w:World):Calls prog 226 #[.agg #[]] w (acS [] w):=by
 go_enter func226,ntmps226
 go_wp2_with fail;go_ret;exact⟨rfl,by first|exact Below.refl _ _|exact bra⟩
theorem agO (tz:TypeId)(vz:Value)(w:World):Calls prog 221 #[.agg #[.iface tz vz]] w fun e w'=>e=.returned (.slice (some ⟨w.heap.size+1,0,none⟩) 1 1)/\(w.alloc (.cells #[.iface tz vz] 59)).alloc (.cells #[.iface tz vz] 38)=w':=by
 go_enter func221,ntmps221
 go_wp2_with fail;go_ret;exact⟨rfl,rfl⟩
theorem aiY (tz:TypeId)(vz:Value)(ty:TypeId)(vy:Value)(w:World):Calls prog 219 #[.agg #[.iface tz vz,.iface ty vy]] w fun e w'=>e=.returned (.slice (some ⟨w.heap.size+1,0,none⟩) 2 2)/\(w.alloc (.cells #[.iface tz vz,.iface ty vy] 53)).alloc (.cells #[.iface tz vz,.iface ty vy] 38)=w':=by
 go_enter func219,ntmps219
 go_wp2_with fail;go_ret;exact⟨rfl,rfl⟩
theorem aaM (w:World)(o o':Obj):Zb w ((w.alloc o).alloc o'):=((Below.refl _ _).alloc (nl _) o).alloc (by simp) o'
theorem abk (p:Tm)(w:World):Calls prog 221 #[.agg #[.iface (aaB p) (pay p)]] w (acS [p] w):=by
 refine(agO _ _ w).mono ?_;rintro e w' ⟨rfl,rfl⟩;exact⟨_,rfl,by omega,abj _ _ _,aaM _ _ _⟩
theorem agb (p q:Tm)(w:World):Calls prog 219 #[.agg #[.iface (aaB p) (pay p),.iface (aaB q) (pay q)]] w (acS [p,q] w):=by
 refine(aiY _ _ _ _ w).mono ?_;rintro e w' ⟨rfl,rfl⟩;exact⟨_,rfl,by omega,abj _ _ _,aaM _ _ _⟩
theorem akT (n:Nat)(w:World):(method (n+1) 90 (.agg #[]) "loop.example/g01175/impl.parts").run prog w=.ok (226,.agg #[]) w:=by kernel_rfl
theorem akU (n:Nat)(w:World):(nilAhead (n+1) 90 (.agg #[]) "loop.example/g01175/impl.parts").run prog w=.ok (some false) w:=by kernel_rfl
theorem asf (x y z:Value)(n:Nat)(w:World):(method (n+1) 108 (.agg #[x,y,z]) "loop.example/g01175/impl.parts").run prog w=.ok (221,.agg #[z]) w:=by kernel_rfl
theorem asg (x y z:Value)(n:Nat)(w:World):(nilAhead (n+1) 108 (.agg #[x,y,z]) "loop.example/g01175/impl.parts").run prog w=.ok (some false) w:=by kernel_rfl
theorem akV (x y z:Value)(n:Nat)(w:World):(method (n+1) 111 (.agg #[x,y,z]) "loop.example/g01175/impl.parts").run prog w=.ok (221,.agg #[z]) w:=by kernel_rfl
theorem akW (x y z:Value)(n:Nat)(w:World):(nilAhead (n+1) 111 (.agg #[x,y,z]) "loop.example/g01175/impl.parts").run prog w=.ok (some false) w:=by kernel_rfl
theorem apM (x y z:Value)(n:Nat)(w:World):(method (n+1) 150 (.agg #[x,y,z]) "loop.example/g01175/impl.parts").run prog w=.ok (221,.agg #[z]) w:=by kernel_rfl
theorem apN (x y z:Value)(n:Nat)(w:World):(nilAhead (n+1) 150 (.agg #[x,y,z]) "loop.example/g01175/impl.parts").run prog w=.ok (some false) w:=by kernel_rfl
theorem aur (x z:Value)(n:Nat)(w:World):(method (n+1) 61 (.agg #[x,z]) "loop.example/g01175/impl.parts").run prog w=.ok (221,.agg #[z]) w:=by kernel_rfl
theorem aus (x z:Value)(n:Nat)(w:World):(nilAhead (n+1) 61 (.agg #[x,z]) "loop.example/g01175/impl.parts").run prog w=.ok (some false) w:=by kernel_rfl
theorem amx (z:Value)(n:Nat)(w:World):(method (n+1) 146 (.agg #[z]) "loop.example/g01175/impl.parts").run prog w=.ok (221,.agg #[z]) w:=by kernel_rfl
theorem amy (z:Value)(n:Nat)(w:World):(nilAhead (n+1) 146 (.agg #[z]) "loop.example/g01175/impl.parts").run prog w=.ok (some false) w:=by kernel_rfl
theorem amz (z:Value)(n:Nat)(w:World):(method (n+1) 147 (.agg #[z]) "loop.example/g01175/impl.parts").run prog w=.ok (221,.agg #[z]) w:=by kernel_rfl
theorem amA (z:Value)(n:Nat)(w:World):(nilAhead (n+1) 147 (.agg #[z]) "loop.example/g01175/impl.parts").run prog w=.ok (some false) w:=by kernel_rfl
theorem amB (z y:Value)(n:Nat)(w:World):(method (n+1) 62 (.agg #[z,y]) "loop.example/g01175/impl.parts").run prog w=.ok (219,.agg #[z,y]) w:=by kernel_rfl
theorem amC (z y:Value)(n:Nat)(w:World):(nilAhead (n+1) 62 (.agg #[z,y]) "loop.example/g01175/impl.parts").run prog w=.ok (some false) w:=by kernel_rfl
theorem amD (z y:Value)(n:Nat)(w:World):(method (n+1) 55 (.agg #[z,y]) "loop.example/g01175/impl.parts").run prog w=.ok (219,.agg #[z,y]) w:=by kernel_rfl
theorem amE (z y:Value)(n:Nat)(w:World):(nilAhead (n+1) 55 (.agg #[z,y]) "loop.example/g01175/impl.parts").run prog w=.ok (some false) w:=by kernel_rfl
theorem awq (args:Array Value)(w:World):(callFunc 226 args).run prog w=.ok (.enter 226 args) w:=by kernel_rfl
theorem akX (args:Array Value)(w:World):(callFunc 221 args).run prog w=.ok (.enter 221 args) w:=by kernel_rfl
theorem aut (args:Array Value)(w:World):(callFunc 219 args).run prog w=.ok (.enter 219 args) w:=by kernel_rfl
theorem parts_fact (t:Tm):PartsFact (aaB t) (pay t) t.parts:=by
 cases t with
 | nil=>exact⟨_,_,akT,akU,awq,agN⟩
 | snd a b p=>exact⟨_,_,asf _ _ _,asg _ _ _,akX,abk p⟩
 | rcv a b p=>exact⟨_,_,akV _ _ _,akW _ _ _,akX,abk p⟩
 | tau p=>exact⟨_,_,amx _,amy _,akX,abk p⟩
 | sum p q=>exact⟨_,_,amB _ _,amC _ _,aut,agb p q⟩
 | par p q=>exact⟨_,_,amD _ _,amE _ _,aut,agb p q⟩
 | own x p=>exact⟨_,_,aur _ _,aus _ _,akX,abk p⟩
 | mat a b p=>exact⟨_,_,apM _ _ _,apN _ _ _,akX,abk p⟩
 | rep p=>exact⟨_,_,amz _,amA _,akX,abk p⟩
def Tm.subs:Tm->List Tm
 | .nil=>[.nil]
 | .snd a b p=>.snd a b p::p.subs
 | .rcv a b p=>.rcv a b p::p.subs
 | .tau p=>.tau p::p.subs
 | .sum p q=>.sum p q::(p.subs++q.subs)
 | .par p q=>.par p q::(p.subs++q.subs)
 | .own x p=>.own x p::p.subs
 | .mat a b p=>.mat a b p::p.subs
 | .rep p=>.rep p::p.subs
def VisPost (bn:Nat)(I:List Tm->World->Prop)(acc:List Tm)(w:World)(e:Ending)(w':World):Prop:=e=.returned (.tuple #[])/\I acc w'/\Only bn w w'
theorem aah {w:World}{b:Nat}{x:Value}{T:TypeId}(h:w.heap[b]?=some (.cells #[x] T (0,0))):w.cell? ⟨b,0,none⟩=some x:=by simp[World.cell?,h]
theorem aai {w:World}{b:Nat}{x y:Value}{T:TypeId}(h:w.heap[b]?=some (.cells #[x,y] T (0,0))):w.cell? ⟨b,0,none⟩=some x:=by simp[World.cell?,h]
theorem aak {w:World}{b:Nat}{x y:Value}{T:TypeId}(h:w.heap[b]?=some (.cells #[x,y] T (0,0))):w.cell? ⟨b,1,none⟩=some y:=by simp[World.cell?,h]
theorem auu (CF:FuncId)(caps:Array Value)(bn:Nat)(I:List Tm->World->Prop)(hF:∀args w,(callFunc CF args).run prog w=.ok (.enter CF args) w) (hI:∀acc w w',I acc w->Zb w w'->I acc w')(hB:∀acc w,I acc w->bn<w.heap.size) (T:TypeId)(V:Value)(t:Tm)(hP:PartsFact T V []) (hv:∀acc w,I acc w->Calls prog CF (#[.iface T V]++caps) w (VisPost bn I (acc++[t]) w))(acc:List Tm)(w:World)(h0:I acc w) : Calls prog 146 #[.iface T V,.func (.func CF) #[] caps] w (VisPost bn I (acc++[t]) w):=by
 obtain⟨F,R,hm,hn,hc,hp⟩:=hP;have HV:=qz hv;have HI:=qz hI;have HB:=qz hB;have HP:=qz hp;clear hv hI hB hp
 go_enter func146,ntmps146
 go_wp2_with fail;refine(HV.out acc w h0).mono ?_;rintro e w1 ⟨rfl,i1,o1⟩;go_wp2_with fail;refine(HP.out w1).mono ?_;rintro e w2 ⟨rfl,bl⟩;go_wp2_with fail;refine wp_loop_rounds 1 ?_;rw[rounds_succ];go_wp2_with fail;go_end0;exact⟨rfl,HI.out _ _ _ i1 bl,o1.below bl⟩
theorem agc (CF:FuncId)(caps:Array Value)(bn:Nat)(I:List Tm->World->Prop)(hF:∀args w,(callFunc CF args).run prog w=.ok (.enter CF args) w) (hI:∀acc w w',I acc w->Zb w w'->I acc w')(hB:∀acc w,I acc w->bn<w.heap.size) (T:TypeId)(V:Value)(tp:TypeId)(vp:Value)(t:Tm)(ts:List Tm) (hP:∃(F:FuncId) (R:Value),(∀n w,(method (n+1) T V "loop.example/g01175/impl.parts").run prog w=.ok (F,R) w)/\(∀n w,(nilAhead (n+1) T V "loop.example/g01175/impl.parts").run prog w=.ok (some false) w)/\(∀args w,(callFunc F args).run prog w=.ok (.enter F args) w)/\∀w,Calls prog F #[R] w fun e w'=>∃b,e=.returned (.slice (some ⟨b,0,none⟩) 1 1)/\w.heap.size<=b/\w'.heap[b]?=some (.cells #[.iface tp vp] 38 (0,0))/\Zb w w') (hv:∀acc w,I acc w->Calls prog CF (#[.iface T V]++caps) w (VisPost bn I (acc++[t]) w)) (ih:∀acc w,I acc w->Calls prog 146 #[.iface tp vp,.func (.func CF) #[] caps] w (VisPost bn I (acc++ts) w))(acc:List Tm)(w:World)(h0:I acc w) : Calls prog 146 #[.iface T V,.func (.func CF) #[] caps] w (VisPost bn I (acc++t::ts) w):=by
 obtain⟨F,R,hm,hn,hc,hp⟩:=hP;have HV:=qz hv;have HI:=qz hI;have HB:=qz hB;have HP:=qz hp;have IH:=qz ih;clear hv hI hB hp ih
 go_enter func146,ntmps146
 go_wp2_with fail;refine(HV.out acc w h0).mono ?_;rintro e w1 ⟨rfl,i1,o1⟩;go_wp2_with fail;refine(HP.out w1).mono ?_;rintro e w2 ⟨b,rfl,hb,hh,bl⟩;have c0:=aah hh;have H:=qz hh;clear hh;go_wp2_with fail;refine wp_loop_rounds 2 ?_;rw[rounds_succ];go_wp2_with fail;refine(IH.out _ _ (HI.out _ _ _ i1 bl)).mono ?_;rintro e w3 ⟨rfl,i3,o3⟩;clear c0;go_wp2_with fail;rw[rounds_succ];go_wp2_with fail;go_end0;exact⟨rfl,by rw[List.append_assoc]at i3;exact i3,(o1.below bl).trans o3⟩
theorem arx (CF:FuncId)(caps:Array Value)(bn:Nat)(I:List Tm->World->Prop)(hF:∀args w,(callFunc CF args).run prog w=.ok (.enter CF args) w) (hI:∀acc w w',I acc w->Zb w w'->I acc w')(hB:∀acc w,I acc w->bn<w.heap.size) (T:TypeId)(V:Value)(tp:TypeId)(vp:Value)(tq:TypeId)(vq:Value)(t:Tm)(ts us:List Tm) (hP:∃(F:FuncId) (R:Value),(∀n w,(method (n+1) T V "loop.example/g01175/impl.parts").run prog w=.ok (F,R) w)/\(∀n w,(nilAhead (n+1) T V "loop.example/g01175/impl.parts").run prog w=.ok (some false) w)/\(∀args w,(callFunc F args).run prog w=.ok (.enter F args) w)/\∀w,Calls prog F #[R] w fun e w'=>∃b,e=.returned (.slice (some ⟨b,0,none⟩) 2 2)/\w.heap.size<=b/\w'.heap[b]?=some (.cells #[.iface tp vp,.iface tq vq] 38 (0,0))/\Zb w w') (hv:∀acc w,I acc w->Calls prog CF (#[.iface T V]++caps) w (VisPost bn I (acc++[t]) w)) (ih:∀acc w,I acc w->Calls prog 146 #[.iface tp vp,.func (.func CF) #[] caps] w (VisPost bn I (acc++ts) w)) (ih2:∀acc w,I acc w->Calls prog 146 #[.iface tq vq,.func (.func CF) #[] caps] w (VisPost bn I (acc++us) w))(acc:List Tm)(w:World)(h0:I acc w) : Calls prog 146 #[.iface T V,.func (.func CF) #[] caps] w (VisPost bn I (acc++t::(ts++us)) w):=by
 obtain⟨F,R,hm,hn,hc,hp⟩:=hP;have HV:=qz hv;have HI:=qz hI;have HB:=qz hB;have HP:=qz hp;have IH:=qz ih;have IH2:=qz ih2;clear hv hI hB hp ih ih2
 go_enter func146,ntmps146
 go_wp2_with fail;refine(HV.out acc w h0).mono ?_;rintro e w1 ⟨rfl,i1,o1⟩;go_wp2_with fail;refine(HP.out w1).mono ?_;rintro e w2 ⟨b,rfl,hb,hh,bl⟩;have c0:=aai hh;have H:=qz hh;clear hh;have bb:=HB.out _ _ i1;go_wp2_with fail;refine wp_loop_rounds 3 ?_;rw[rounds_succ];go_wp2_with fail;refine(IH.out _ _ (HI.out _ _ _ i1 bl)).mono ?_;rintro e w3 ⟨rfl,i3,o3⟩;have h3:w3.heap[b]?=some (.cells #[.iface tp vp,.iface tq vq] 38 (0,0)):=(o3.block b (lt_of_block H.out) (by omega)).trans H.out;clear c0;have c1:=aak h3;clear h3;go_wp2_with fail;rw[rounds_succ];go_wp2_with fail;refine(IH2.out _ _ i3).mono ?_;rintro e w4 ⟨rfl,i4,o4⟩;clear c1;go_wp2_with fail;rw[rounds_succ];go_wp2_with fail;go_end0;exact⟨rfl,by rw[List.append_assoc,List.append_assoc]at i4;exact i4,((o1.below bl).trans o3).trans o4⟩
theorem ahQ (CF:FuncId)(caps:Array Value)(bn:Nat)(I:List Tm->World->Prop)(hF:∀args w,(callFunc CF args).run prog w=.ok (.enter CF args) w) (hI:∀acc w w',I acc w->Zb w w'->I acc w')(hB:∀acc w,I acc w->bn<w.heap.size) (hv:∀t acc w,I acc w->Calls prog CF (#[.iface (aaB t) (pay t)]++caps) w (VisPost bn I (acc++[t]) w))(t:Tm):∀(acc:List Tm) (w:World),I acc w-> Calls prog 146 #[.iface (aaB t) (pay t),.func (.func CF) #[] caps] w (VisPost bn I (acc++t.subs) w):=by
 induction t with
 | nil=>exact auu CF caps bn I hF hI hB _ _ .nil (parts_fact .nil) (hv .nil)
 | snd a b p ih=>exact agc CF caps bn I hF hI hB _ _ _ _ (.snd a b p) p.subs (parts_fact (.snd a b p)).pf (hv _) ih
 | rcv a b p ih=>exact agc CF caps bn I hF hI hB _ _ _ _ (.rcv a b p) p.subs (parts_fact (.rcv a b p)).pf (hv _) ih
 | tau p ih=>exact agc CF caps bn I hF hI hB _ _ _ _ (.tau p) p.subs (parts_fact (.tau p)).pf (hv _) ih
 | sum p q ih ih2=>exact arx CF caps bn I hF hI hB _ _ _ _ _ _ (.sum p q) p.subs q.subs (parts_fact (.sum p q)).pf (hv _) ih ih2
 | par p q ih ih2=>exact arx CF caps bn I hF hI hB _ _ _ _ _ _ (.par p q) p.subs q.subs (parts_fact (.par p q)).pf (hv _) ih ih2
 | own x p ih=>exact agc CF caps bn I hF hI hB _ _ _ _ (.own x p) p.subs (parts_fact (.own x p)).pf (hv _) ih
 | mat a b p ih=>exact agc CF caps bn I hF hI hB _ _ _ _ (.mat a b p) p.subs (parts_fact (.mat a b p)).pf (hv _) ih
 | rep p ih=>exact agc CF caps bn I hF hI hB _ _ _ _ (.rep p) p.subs (parts_fact (.rep p)).pf (hv _) ih
end Go.Proofs.YtalegefnppbkdaaGreat.T1
