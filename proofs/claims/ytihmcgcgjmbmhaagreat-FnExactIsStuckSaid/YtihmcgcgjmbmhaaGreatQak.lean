/- Texts of the proof. No conditions. -/
import Derived.Test.YtihmcgcgjmbmhaaGreatQag
import Derived.Test.YtihmcgcgjmbmhaaGreatQaj
import Derived.Maps.AppendAt
import Derived.Laws.AppendOwnNone
import Derived.Laws.AppendOwn
import Derived.Shelf.SlGeneric
import Derived.Ground.SlgnProg
import Derived.Shelf.SlicesE.Reverse
import Derived.Shelf.SlicesE.Clone
import Derived.Shelf.Small.Bits
import Derived.Shelf.Strconv.Itoa0
import Derived.Shelf.Sort.Plain
import Derived.Shelf.Slices.In.SortNone
import Derived.Deep.DeepCutAuto
namespace Go.Proofs.YtihmcgcgjmbmhaaGreat.T1
open Go.Proofs.Tryz
set_option maxHeartbeats 8000000
open Go.RowKit
theorem ab_ {w:World}{base:Nat}{e:TypeId}{g n cap:Nat}{xs:List Value}(h:w.ownsRow base e 1 (.slice (some ⟨g,0,none⟩) n cap) n xs):∀j u,xs[j]?=some u->w.cell? ((⟨g,0,none⟩:Addr).add j)=some u:=by
 intro j u hj;rcases h.2 with⟨h1,_⟩|⟨g',cap',cur,h1,_,h3,_,_,_,h7⟩
 ·cases h1
 ·cases h1
  have hjl:j<xs.length:=by
   rcases Nat.lt_or_ge j xs.length with c|c
   ·exact c
   ·rw[List.getElem?_eq_none c]at hj;cases hj
  have hx:=h.1;have:(cur.toList.take (n * 1))[j]?=some u:=by rw[h7];exact hj
  rw[List.getElem?_take,if_pos (by omega)]at this
  show w.cell? (Addr.add ⟨g,0,none⟩ j)=some u;have e2:(Addr.add ⟨g,0,none⟩ j)=⟨g,j,none⟩:=by cases j<;>simp[Addr.add]
  rw[e2];simp only[World.cell?,h3];simpa using this
theorem aaN {P:Program}{w:World}{ops:Array Oper}{rest:List Oper}{o:Oper}{a:Act}{Q:Exit->Act->World->Prop}(hgd:o.guard=none)(s x:Operand)(t:TypeId) (ho:o.op=.call { callee:=.builtin .append,args:=#[s,x],argTypes:=#[t,t] }) (base base2:Nat)(e:TypeId)(i:TypeInfo)(z:Value)(bytes:Nat)(ht:P.underlying t=some (.slice e))(hi:P.info? e=some i)(hz:i.zero=some z) (hsize:i.size=1)(hby:i.bytes=bytes)(hzs:z.cells.size=1) (v:Value)(n:Nat)(xs:List Value)(hs:a.eval s=v)(hown:w.ownsRow base e 1 v n xs) (v2:Value)(m:Nat)(ys:List Value)(hx:a.eval x=v2)(hown2:w.ownsRow base2 e 1 v2 m ys)(h1:∀u∈ys,u.oneCell'=true) (h63:n+m<=maxLen)(hbytes:(n+m) * bytes<=140737488355328)(hbase:base<=w.heap.size) (h:∀v' w',w'.ownsRow base e 1 v' (n+m) (xs++ys)->w.grownBy w' v.ownBlock->(v'.ownBlock=v.ownBlock\/v'.ownBlock=some w.heap.size)->wpList P ops Q rest (a.put o.dst v') w') : wpList P ops Q (o::rest) a w:=by
 rcases hown2.2 with⟨e1,e2⟩|⟨g,cap,cur,e1,_⟩
 ·subst e2;have hy:ys=[]:=by have:=hown2.1;simpa using this
  subst hy;refine wpList_append_own_none hgd s x t ho base e i 1 ht hi v n xs hs hown (hx.trans e1) ?_;exact h v w (by simpa using hown) ⟨rfl,rfl,rfl,nl _,fun _ _ _=>rfl⟩ (.inl rfl)
 ·subst e1;refine wpList_append_own_at w hgd s x t ho base e i z 1 bytes ht hi hz hsize hby hzs (by decide) v n xs hs hown ⟨g,0,none⟩ m cap ys hx (by have:=hown2.1;omega) (ab_ hown2) h1 h63 hbytes hbase ?_;intro v' w' a1 a2 _ a3;exact h v' w' a1 a2 a3
theorem adZ {w w':World}{base n:Nat}{e:TypeId}{v:Value}{xs:List Value}(h:w.ownsRow base e 1 v n xs)(hk:∀g,v.ownBlock=some g->w'.heap[g]?=w.heap[g]?):w'.ownsRow base e 1 v n xs:=by
 refine⟨h.1,h.2.imp id ?_⟩;rintro⟨g,cap,cur,hv,h2,h3,h4⟩;exact⟨g,cap,cur,hv,h2,(hk g (by rw[hv];rfl)).trans h3,h4⟩
theorem ad0 {w:World}{b1 b2 n m:Nat}{e f:TypeId}{v u:Value}{xs ys:List Value}(hef:e≠f)(h:w.ownsRow b1 e 1 v n xs)(k:w.ownsRow b2 f 1 u m ys)(g:Nat)(h1:v.ownBlock=some g):u.ownBlock≠some g:=by
 intro h2;rcases h.2 with⟨e1,_⟩|⟨g1,c1,r1,e1,_,d1,_⟩
 ·rw[e1]at h1;simp[Value.ownBlock]at h1
 ·rcases k.2 with⟨e2,_⟩|⟨g2,c2,r2,e2,_,d2,_⟩
  ·rw[e2]at h2;simp[Value.ownBlock]at h2
  ·rw[e1]at h1;rw[e2]at h2;simp only[Value.ownBlock,Option.some.injEq]at h1 h2;subst h1;subst h2;rw[d1]at d2;simp only[Option.some.injEq,Obj.cells.injEq]at d2;exact hef d2.2.1
theorem aaO {w:World}{base b2 n:Nat}{e:TypeId}{v:Value}{xs:List Value}(h:w.ownsRow base e 1 v n xs)(hb:b2<=base):w.ownsRow b2 e 1 v n xs:=by
 refine⟨h.1,h.2.imp id ?_⟩;rintro⟨g,cap,cur,hv,h2,h3⟩;exact⟨g,cap,cur,hv,Nat.le_trans hb h2,h3⟩
theorem aan {w w':World}{base n:Nat}{e:TypeId}{v:Value}{xs:List Value}(h:w.ownsRow base e 1 v n xs)(k:Zb w w'):w'.ownsRow base e 1 v n xs:=
 adZ h fun g hg=>k.block g (h.lt g hg).2
theorem ac0 {w w':World}{base n:Nat}{e:TypeId}{v:Value}{r:Option Nat}{xs:List Value}(h:w.ownsRow base e 1 v n xs)(k:w.grownBy w' r)(hr:∀g,v.ownBlock=some g->r≠some g):w'.ownsRow base e 1 v n xs:=
 adZ h fun g hg=>k.block g (h.lt g hg).2 (fun e=>hr g hg e.symm)
theorem abr (w:World)(x:Value)(T:TypeId)(base:Nat)(hb:base<=w.heap.size):(w.alloc (.cells #[x] T)).ownsRow base T 1 (.slice (some ⟨w.heap.size,0,none⟩) 1 1) 1 [x]:=
 ⟨rfl,.inr ⟨w.heap.size,1,#[x],rfl,hb,heap_alloc_new w _,nl _,by unfold maxLen;omega,rfl,rfl⟩⟩
theorem aaB {w0 w w':World}{r:Option Nat}{B:Nat}(h:Below B w0 w)(k:w.grownBy w' r)(hr:∀g,r=some g->B<=g)(hB:B<=w.heap.size):Below B w0 w':=
 ⟨k.os.trans h.os,k.tape.trans h.tape,k.output.trans h.output,Nat.le_trans h.size k.size,fun i hi=>(k.block i (by omega) (fun e=>by have:=hr i e.symm;omega)).trans (h.block i hi)⟩
set_option maxRecDepth 100000
def aas (o:Option Tm)(w:World)(e:Ending)(w':World):Prop:=
 ((∃p,o=some p/\e=.returned (.tuple #[.iface (aau p) (pay p),.bool true]))\/(o=none/\e=.returned (.tuple #[.nilIface,.bool false])))/\Zb w w'
theorem aas.no {w:World}{e:Ending}{w':World}{o:Option Tm}(ho:o=none)(h:e=.returned (.tuple #[.nilIface,.bool false])/\Zb w w'):aas o w e w':=⟨.inr ⟨ho,h.1⟩,h.2⟩
theorem aas.yes {w:World}{e:Ending}{w':World}{o:Option Tm}{p:Tm}(ho:o=some p)(h:e=.returned (.tuple #[.iface (aau p) (pay p),.bool true])/\Zb w w'):aas o w e w':=⟨.inl ⟨p,ho,h.1⟩,h.2⟩
theorem aoW (g j:Nat):(⟨g,0,none⟩:Addr).add j=⟨g,j,none⟩:=by
 unfold Addr.add
 split
 ·rename_i h;rw[h]
 ·rw[Nat.zero_add]
theorem akC {w:World}{base n:Nat}{v:Value}(l:List UInt8)(hn:n=l.length)(hne:0<l.length)(h:w.ownsRow base 5 1 v n (l.map ub)) : (convert 73 9 v).run prog w=.ok (.string ⟨l.toArray⟩) w:=by
 subst hn;rcases h.2 with⟨_,h0⟩|⟨g,cap,cur,rfl,_⟩
 ·omega
 ·refine run_convert_bytes_back w 73 9 5 ⟨g,0,none⟩ cap l underlying73 underlying5 underlying9 fun j hj=>?_;rw[aoW,h.cellAt j (by omega)];simp[ub,hj]
theorem agX (t:Tm)(hl:t.pr.length<=900)(w:World):Calls prog 48 #[.iface (aau t) (pay t)] w fun e w'=>e=.returned (.string (S t))/\Zb w w':=by
 have HW:=anP t w.heap.size 0 [] (.slice none 0 0) w (World.ownsRow_nil _ _ _ _) (by omega) (nl _);have hpos:=pr_pos t;have HC:Hid (∀(w:World) (v:Value),w.ownsRow w.heap.size 5 1 v (0+t.pr.length) ([]++t.pr.map ub)->True):=fun _ _ _=>trivial
 have HV:Hid (∀(w1:World) (b:Nat) (v:Value),w1.ownsRow b 5 1 v (0+t.pr.length) ([]++t.pr.map ub)->(convert 73 9 v).run prog w1=.ok (.string (S t)) w1):=fun w1 b v h=>
  akC t.pr (by omega) hpos h
 clear HC;obtain⟨T,hT⟩:∃T,T=aau t:=⟨_,rfl⟩;obtain⟨V,hV⟩:∃V,V=pay t:=⟨_,rfl⟩;obtain⟨X,hX⟩:∃X,X=S t:=⟨_,rfl⟩;rw[<-hT,<-hV]at HW;rw[<-hX]at HV;rw[<-hT,<-hV,<-hX];have H:=qz HW;clear hT hV hX HW hpos
 go_enter func48,ntmps48
 go_wp2_with fail;refine(H.out).mono ?_;rintro e w1 ⟨v1,rfl,ho,k1⟩;have hcv:=HV.out w1 _ v1 ho;clear ho;go_wp2_with fail;go_ret;exact⟨rfl,k1.below⟩
def akD (o:Option Tm)(w:World)(e:Ending)(w':World):Prop:=
 ((∃p,o=some p/\e=.returned (.tuple #[.string (S p),.bool true]))\/(o=none/\e=.returned (.tuple #[.string ⟨#[]⟩,.bool false])))/\Zb w w'
theorem akD.no {w:World}{e:Ending}{w':World}{o:Option Tm}(ho:o=none)(h:e=.returned (.tuple #[.string ⟨#[]⟩,.bool false])/\Zb w w'):akD o w e w':=⟨.inr ⟨ho,h.1⟩,h.2⟩
theorem akD.yes {w:World}{e:Ending}{w':World}{o:Option Tm}{p:Tm}(ho:o=some p)(h:e=.returned (.tuple #[.string (S p),.bool true])/\Zb w w'):akD o w e w':=⟨.inl ⟨p,ho,h.1⟩,h.2⟩
set_option linter.unusedVariables false
def Tm.withP:Tm->Nat->Tm->Tm
 | .nil,_,_=>.nil
 | .snd a b _,_,q=>.snd a b q
 | .rcv a x _,_,q=>.rcv a x q
 | .tau _,_,q=>.tau q
 | .sum p q,k,r=>if k=0 then .sum r q else .sum p r
 | .par p q,k,r=>if k=0 then .par r q else .par p r
 | .own x _,_,q=>.own x q
 | .mat a b _,_,q=>.mat a b q
 | .rep _,_,q=>.rep q
theorem aaD (t p r:Tm)(h:t.parts=[p])(b cap:Nat)(w:World)(hcap:1<=cap)(hc:w.cell? ⟨b,0,none⟩=some (.iface (aau r) (pay r))) : Calls prog 135 #[.iface (aau t) (pay t),.slice (some ⟨b,0,none⟩) 1 cap] w fun e w'=>e=.returned (.iface (aau (t.withP 0 r)) (pay (t.withP 0 r)))/\Zb w w':=by
 cases t with
 | nil=>cases h
 | snd a x q=>exact am2 _ _ _ _ _ _ _ b cap w (.inr ⟨_,_,rfl⟩) hcap hc
 | rcv a x q=>exact agG _ _ _ _ _ _ _ b cap w (.inr ⟨_,_,rfl⟩) hcap hc
 | tau q=>exact ah7 _ _ _ b cap w (.inr ⟨_,_,rfl⟩) hcap hc
 | sum q u=>cases h
 | par q u=>cases h
 | own x q=>exact asA _ _ _ _ _ b cap w (.inr ⟨_,_,rfl⟩) hcap hc
 | mat a x q=>exact aj3 _ _ _ _ _ _ _ b cap w (.inr ⟨_,_,rfl⟩) hcap hc
 | rep q=>exact ah8 _ _ _ b cap w (.inr ⟨_,_,rfl⟩) hcap hc
theorem acx (t p q r s:Tm)(h:t.parts=[p,q])(b cap:Nat)(w:World)(hcap:2<=cap)(hc:w.cell? ⟨b,0,none⟩=some (.iface (aau r) (pay r)))(hc1:w.cell? ⟨b,1,none⟩=some (.iface (aau s) (pay s))) : Calls prog 135 #[.iface (aau t) (pay t),.slice (some ⟨b,0,none⟩) 2 cap] w fun e w'=>e=.returned (.iface (aau ((t.withP 0 r).withP 1 s)) (pay ((t.withP 0 r).withP 1 s)))/\Zb w w':=by
 cases t with
 | sum a c=>exact ah9 _ _ _ _ _ _ b cap w (.inr ⟨_,_,rfl⟩) (.inr ⟨_,_,rfl⟩) hcap hc hc1
 | par a c=>exact ah_ _ _ _ _ _ _ b cap w (.inr ⟨_,_,rfl⟩) (.inr ⟨_,_,rfl⟩) hcap hc hc1
 | nil=>cases h
 | snd a x q=>cases h
 | rcv a x q=>cases h
 | tau q=>cases h
 | own x q=>cases h
 | mat a x q=>cases h
 | rep q=>cases h
theorem aa6 {w:World}{b:Nat}{x y:Value}{T:TypeId}(h:w.heap[b]?=some (.cells #[x,y] T (0,0)))(j:Nat):w.frozen? ⟨b,j,none⟩=false:=by simp[World.frozen?,h]
theorem ad1 {w:World}{b:Nat}{x y:Value}{T:TypeId}(h:w.heap[b]?=some (.cells #[x,y] T (0,0)))(v:Value):(w.setCell ⟨b,0,none⟩ v).heap[b]?=some (.cells #[v,y] T (0,0)):=by
 have hlt:=lt_of_block h;have h':w.heap[b]=.cells #[x,y] T (0,0):=by simpa [Array.getElem?_eq_getElem hlt] using h
 show (w.heap.modify b _)[b]?=_;rw[Array.getElem?_eq_getElem (by simpa using hlt),Array.getElem_modify_self,h'];rfl
theorem aff {w:World}{b:Nat}{x y:Value}{T:TypeId}(h:w.heap[b]?=some (.cells #[x,y] T (0,0)))(v:Value):(w.setCell ⟨b,1,none⟩ v).heap[b]?=some (.cells #[x,v] T (0,0)):=by
 have hlt:=lt_of_block h;have h':w.heap[b]=.cells #[x,y] T (0,0):=by simpa [Array.getElem?_eq_getElem hlt] using h
 show (w.heap.modify b _)[b]?=_;rw[Array.getElem?_eq_getElem (by simpa using hlt),Array.getElem_modify_self,h'];rfl
theorem aad {w:World}{b o:Nat}{x:Value}(h:w.cell? ⟨b,o,none⟩=some x):b<w.heap.size:=World.block_lt_of_cell? w _ h
theorem aaa {u v w:World}(h:Zb u v)(k:Zb v w):Zb u w:=aab h k h.size
theorem acy {u v:World}(h:Zb u v)(o:Obj):Zb u (v.alloc o):=h.alloc h.size o
theorem ad2 (T:TypeId)(V:Value)(o m:Int)(HB:Zr 144 #[.iface T V] (.tuple #[.int .u8 0,.bool false]))(w:World) : Calls prog 179 #[.iface T V,.int .u8 o,.int .u8 m] w fun e w'=>e=.returned (.tuple #[.iface T V,.bool true])/\Zb w w':=by
 have HB':=qz HB;clear HB
 go_enter func179,ntmps179
 go_wp2_with fail;refine(HB'.out _).mono ?_;rintro e w1 ⟨rfl,b1⟩;go_wp2_with fail;go_ret2;exact⟨rfl,b1⟩
theorem akE (T:TypeId)(V:Value)(x o m:Int)(hne:(x != m)=true)(HB:Zr 144 #[.iface T V] (.tuple #[.int .u8 x,.bool true]))(w:World) : Calls prog 179 #[.iface T V,.int .u8 o,.int .u8 m] w fun e w'=>e=.returned (.tuple #[.iface T V,.bool true])/\Zb w w':=by
 have HB':=qz HB;clear HB
 go_enter func179,ntmps179
 go_wp2_with fail;refine(HB'.out _).mono ?_;rintro e w1 ⟨rfl,b1⟩;go_wp2_with fail;go_ret2;exact⟨rfl,b1⟩
theorem awB (U2:Int)(HO:∀w,Calls prog 94 #[.int .u32 U2] w fun e w'=>∃v xs,e=.returned v/\w'.ownsRow w.heap.size 5 1 v 0 xs/\Zb w w')(w:World):Calls prog 201 #[.int .u32 U2] w fun e w'=>e=.returned (.tuple #[.int .u8 0,.bool false])/\Zb w w':=by
 have HO':=qz HO;clear HO
 go_enter func201,ntmps201
 go_wp2_with fail;refine(HO'.out _).mono ?_;rintro e w6 ⟨v,xs,rfl,ho,b6⟩
 have hv:∃a c,v=.slice a 0 c:=by
  rcases ho.2 with⟨rfl,_⟩|⟨g,cap,cur,rfl,_⟩
  ·exact⟨_,_,rfl⟩
  ·exact⟨_,_,rfl⟩
 clear ho;obtain⟨a,c,rfl⟩:=hv;go_wp2_with fail;go_ret2;exact⟨rfl,b6⟩
theorem aoX (U2 y:Int)(HO:∀w,Calls prog 94 #[.int .u32 U2] w fun e w'=>∃g n cap,e=.returned (.slice (some ⟨g,0,none⟩) (n+1) cap)/\w.heap.size<=g/\w'.cell? ⟨g,0,none⟩=some (.int .u8 y)/\Zb w w')(w:World):Calls prog 201 #[.int .u32 U2] w fun e w'=>e=.returned (.tuple #[.int .u8 y,.bool true])/\Zb w w':=by
 have HO':=qz HO;clear HO
 go_enter func201,ntmps201
 go_wp2_with fail;refine(HO'.out _).mono ?_;rintro e w6 ⟨g,n,cap,rfl,hg,hgc,b6⟩;have n0:(((n+1:Nat):Int)==0)=false:=by rw[beq_eq_false_iff_ne];omega
 have n1:(0:Int)<((n+1:Nat):Int):=by omega
 go_wp2_with fail;go_ret2;exact⟨rfl,b6⟩
theorem aiO (T tp:TypeId)(V vp:Value)(o m U:Int)(hP:∃(F:FuncId) (R:Value),(∀n w,(method (n+1) T V "loop.example/g01175/impl.parts").run prog w=.ok (F,R) w)/\(∀n w,(nilAhead (n+1) T V "loop.example/g01175/impl.parts").run prog w=.ok (some false) w)/\(∀args w,(callFunc F args).run prog w=.ok (.enter F args) w)/\∀w,Calls prog F #[R] w fun e w'=>∃b,e=.returned (.slice (some ⟨b,0,none⟩) 1 1)/\w.heap.size<=b/\w'.heap[b]?=some (.cells #[.iface tp vp] 41 (0,0))/\Zb w w')(HB:Zr 144 #[.iface T V] (.tuple #[.int .u8 m,.bool true]))(HF:Zr 93 #[.iface tp vp] (.int .u32 U)) (HH:Ze 142 #[.int .u32 U,.int .u8 o] (.bool false))(w:World) : Calls prog 179 #[.iface T V,.int .u8 o,.int .u8 m] w fun e w'=>e=.returned (.tuple #[.iface T V,.bool true])/\Zb w w':=by
 obtain⟨F,RR,hm,hn,hc,hp⟩:=hP;have HP:=qz hp;have HB':=qz HB;have HF':=qz HF;have HH':=qz HH;clear hp HB HF HH
 go_enter func179,ntmps179
 go_wp2_with fail;refine(HB'.out _).mono ?_;rintro e w1 ⟨rfl,b1⟩;go_wp2_with fail;refine(HP.out _).mono ?_;rintro e w2 ⟨b,rfl,hb,hh,b2⟩;have c0:=aac hh;have bl2:=aab b1 b2 b1.size;clear hh;go_wp2_with fail;refine(HF'.out _).mono ?_;rintro e w3 ⟨rfl,b3⟩;have bl3:=aab bl2 b3 bl2.size;clear c0 b1 b2 b3 bl2 hb;go_wp2_with fail;refine(HH'.out _).mono ?_;rintro e w4 ⟨rfl,rfl⟩;go_wp2_with fail;go_ret2;exact⟨rfl,bl3⟩
theorem aoY (T tp:TypeId)(V vp:Value)(o m U:Int)(hP:∃(F:FuncId) (R:Value),(∀n w,(method (n+1) T V "loop.example/g01175/impl.parts").run prog w=.ok (F,R) w)/\(∀n w,(nilAhead (n+1) T V "loop.example/g01175/impl.parts").run prog w=.ok (some false) w)/\(∀args w,(callFunc F args).run prog w=.ok (.enter F args) w)/\∀w,Calls prog F #[R] w fun e w'=>∃b,e=.returned (.slice (some ⟨b,0,none⟩) 1 1)/\w.heap.size<=b/\w'.heap[b]?=some (.cells #[.iface tp vp] 41 (0,0))/\Zb w w')(HB:Zr 144 #[.iface T V] (.tuple #[.int .u8 m,.bool true]))(HF:Zr 93 #[.iface tp vp] (.int .u32 U)) (U2:Int)(HH:Ze 142 #[.int .u32 U,.int .u8 o] (.bool true))(HW:Ze 100 #[.int .u32 U,.int .u8 m] (.int .u32 U2))(HO:∀w,Calls prog 94 #[.int .u32 U2] w fun e w'=>∃v xs,e=.returned v/\w'.ownsRow w.heap.size 5 1 v 0 xs/\Zb w w')(w:World) : Calls prog 179 #[.iface T V,.int .u8 o,.int .u8 m] w fun e w'=>e=.returned (.tuple #[.nilIface,.bool false])/\Zb w w':=by
 obtain⟨F,RR,hm,hn,hc,hp⟩:=hP;have HP:=qz hp;have HB':=qz HB;have HF':=qz HF;have HH':=qz HH;clear hp HB HF HH;have HW':=qz HW;have HO':=qz (awB U2 HO);clear HW HO
 go_enter func179,ntmps179
 go_wp2_with fail;refine(HB'.out _).mono ?_;rintro e w1 ⟨rfl,b1⟩;go_wp2_with fail;refine(HP.out _).mono ?_;rintro e w2 ⟨b,rfl,hb,hh,b2⟩;have c0:=aac hh;have bl2:=aab b1 b2 b1.size;clear hh;go_wp2_with fail;refine(HF'.out _).mono ?_;rintro e w3 ⟨rfl,b3⟩;have bl3:=aab bl2 b3 bl2.size;clear c0 b1 b2 b3 bl2 hb;go_wp2_with fail;refine(HH'.out _).mono ?_;rintro e w4 ⟨rfl,rfl⟩;go_wp2_with fail;refine(HW'.out _).mono ?_;rintro e w5 ⟨rfl,rfl⟩;go_wp2_with fail;refine(HO'.out _).mono ?_;rintro e w6 ⟨rfl,b6⟩;have bl6:=aab bl3 b6 bl3.size;go_wp2_with fail;go_ret2;exact⟨rfl,bl6⟩
theorem aoZ (T tp:TypeId)(V vp:Value)(o m U:Int)(hP:∃(F:FuncId) (R:Value),(∀n w,(method (n+1) T V "loop.example/g01175/impl.parts").run prog w=.ok (F,R) w)/\(∀n w,(nilAhead (n+1) T V "loop.example/g01175/impl.parts").run prog w=.ok (some false) w)/\(∀args w,(callFunc F args).run prog w=.ok (.enter F args) w)/\∀w,Calls prog F #[R] w fun e w'=>∃b,e=.returned (.slice (some ⟨b,0,none⟩) 1 1)/\w.heap.size<=b/\w'.heap[b]?=some (.cells #[.iface tp vp] 41 (0,0))/\Zb w w')(HB:Zr 144 #[.iface T V] (.tuple #[.int .u8 m,.bool true]))(HF:Zr 93 #[.iface tp vp] (.int .u32 U)) (U2:Int)(HH:Ze 142 #[.int .u32 U,.int .u8 o] (.bool true))(HW:Ze 100 #[.int .u32 U,.int .u8 m] (.int .u32 U2))(y:Int)(HO:∀w,Calls prog 94 #[.int .u32 U2] w fun e w'=>∃g n cap,e=.returned (.slice (some ⟨g,0,none⟩) (n+1) cap)/\w.heap.size<=g/\w'.cell? ⟨g,0,none⟩=some (.int .u8 y)/\Zb w w')(HR:Zr 160 #[.iface tp vp,.int .u8 m,.int .u8 y] (.tuple #[.nilIface,.bool false]))(w:World) : Calls prog 179 #[.iface T V,.int .u8 o,.int .u8 m] w fun e w'=>e=.returned (.tuple #[.nilIface,.bool false])/\Zb w w':=by
 obtain⟨F,RR,hm,hn,hc,hp⟩:=hP;have HP:=qz hp;have HB':=qz HB;have HF':=qz HF;have HH':=qz HH;clear hp HB HF HH;have HW':=qz HW;have HO':=qz (aoX U2 y HO);have HR':=qz HR;clear HW HO HR
 go_enter func179,ntmps179
 go_wp2_with fail;refine(HB'.out _).mono ?_;rintro e w1 ⟨rfl,b1⟩;go_wp2_with fail;refine(HP.out _).mono ?_;rintro e w2 ⟨b,rfl,hb,hh,b2⟩;have c0:=aac hh;have bl2:=aab b1 b2 b1.size;clear hh;go_wp2_with fail;refine(HF'.out _).mono ?_;rintro e w3 ⟨rfl,b3⟩;have bl3:=aab bl2 b3 bl2.size;clear c0 b1 b2 b3 bl2 hb;go_wp2_with fail;refine(HH'.out _).mono ?_;rintro e w4 ⟨rfl,rfl⟩;go_wp2_with fail;refine(HW'.out _).mono ?_;rintro e w5 ⟨rfl,rfl⟩;go_wp2_with fail;refine(HO'.out _).mono ?_;rintro e w6 ⟨rfl,b6⟩;have bl6:=aab bl3 b6 bl3.size;clear b6;go_wp2_with fail;refine(HR'.out _).mono ?_;rintro e w7 ⟨rfl,b7⟩;have bl7:=aab bl6 b7 bl6.size;go_wp2_with fail;go_ret2;exact⟨rfl,bl7⟩
theorem awC (T tp:TypeId)(V vp:Value)(o m U:Int)(hP:∃(F:FuncId) (R:Value),(∀n w,(method (n+1) T V "loop.example/g01175/impl.parts").run prog w=.ok (F,R) w)/\(∀n w,(nilAhead (n+1) T V "loop.example/g01175/impl.parts").run prog w=.ok (some false) w)/\(∀args w,(callFunc F args).run prog w=.ok (.enter F args) w)/\∀w,Calls prog F #[R] w fun e w'=>∃b,e=.returned (.slice (some ⟨b,0,none⟩) 1 1)/\w.heap.size<=b/\w'.heap[b]?=some (.cells #[.iface tp vp] 41 (0,0))/\Zb w w')(HB:Zr 144 #[.iface T V] (.tuple #[.int .u8 m,.bool true]))(HF:Zr 93 #[.iface tp vp] (.int .u32 U)) (U2:Int)(HH:Ze 142 #[.int .u32 U,.int .u8 o] (.bool true))(HW:Ze 100 #[.int .u32 U,.int .u8 m] (.int .u32 U2))(y:Int)(HO:∀w,Calls prog 94 #[.int .u32 U2] w fun e w'=>∃g n cap,e=.returned (.slice (some ⟨g,0,none⟩) (n+1) cap)/\w.heap.size<=g/\w'.cell? ⟨g,0,none⟩=some (.int .u8 y)/\Zb w w')(tr:TypeId)(vr:Value)(HR:Zr 160 #[.iface tp vp,.int .u8 m,.int .u8 y] (.tuple #[.iface tr vr,.bool true])) (T2 T3:TypeId)(V2 V3:Value)(HWP:∀(b:Nat) (w:World),w.cell? ⟨b,0,none⟩=some (.iface tr vr)->Calls prog 135 #[.iface T V,.slice (some ⟨b,0,none⟩) 1 1] w fun e w'=>e=.returned (.iface T2 V2)/\Zb w w') (HWB:Zr 174 #[.iface T2 V2,.int .u8 y] (.iface T3 V3))(w:World) : Calls prog 179 #[.iface T V,.int .u8 o,.int .u8 m] w fun e w'=>e=.returned (.tuple #[.iface T3 V3,.bool true])/\Zb w w':=by
 obtain⟨F,RR,hm,hn,hc,hp⟩:=hP;have HP:=qz hp;have HB':=qz HB;have HF':=qz HF;have HH':=qz HH;clear hp HB HF HH;have HWP':=qz HWP;have HWB':=qz HWB;clear HWP HWB;have HW':=qz HW;have HO':=qz (aoX U2 y HO);have HR':=qz HR;clear HW HO HR
 go_enter func179,ntmps179
 go_wp2_with fail;refine(HB'.out _).mono ?_;rintro e w1 ⟨rfl,b1⟩;go_wp2_with fail;refine(HP.out _).mono ?_;rintro e w2 ⟨b,rfl,hb,hh,b2⟩;have c0:=aac hh;have bl2:=aab b1 b2 b1.size;clear hh;go_wp2_with fail;refine(HF'.out _).mono ?_;rintro e w3 ⟨rfl,b3⟩;have bl3:=aab bl2 b3 bl2.size;clear c0 b1 b2 b3 bl2 hb;go_wp2_with fail;refine(HH'.out _).mono ?_;rintro e w4 ⟨rfl,rfl⟩;go_wp2_with fail;refine(HW'.out _).mono ?_;rintro e w5 ⟨rfl,rfl⟩;go_wp2_with fail;refine(HO'.out _).mono ?_;rintro e w6 ⟨rfl,b6⟩;have bl6:=aab bl3 b6 bl3.size;clear b6;go_wp2_with fail;refine(HR'.out _).mono ?_;rintro e w7 ⟨rfl,b7⟩;have bl7:=aab bl6 b7 bl6.size;clear b7 bl6;go_wp2_with fail;refine(HWP'.out _ _ (by first|exact aac (aai _ _)|(rw[World.cell?_alloc_new];rfl))).mono ?_;rintro e w8 ⟨rfl,b8⟩;have bl8:=aaa (acy bl7 _) b8;go_wp2_with fail;refine(HWB'.out _).mono ?_;rintro e w9 ⟨rfl,b9⟩;have bl9:=aaa bl8 b9;go_wp2_with fail;go_ret2;exact⟨rfl,bl9⟩
theorem awD (s X Y:ByteArray)(kd:Int)(m:UInt8)(hX:X.size<=1000)(hY:Y.size<=1000)(hm:(kd=43/\m=43)\/(kd=38/\m=38)) (HK:Ze 116 #[.string s] (.int .u8 kd))(g n cap:Nat)(hn:2<=n)(w:World)(c0:w.cell? ⟨g,0,none⟩=some (.string X))(c1:w.cell? ⟨g,1,none⟩=some (.string Y)) : Calls prog 126 #[.string s,.slice (some ⟨g,0,none⟩) n cap] w fun e w'=>e=.returned (.string (one 40++X++one m++Y++one 41))/\Zb w w':=by
 have HK':=qz HK;have n0:(0:Int)<(n:Int):=by omega
 have n1:(1:Int)<(n:Int):=by omega
 clear HK;rcases hm with⟨rfl,rfl⟩|⟨rfl,rfl⟩
 all_goals
  go_enter func126,ntmps126
  go_wp2_with fail;refine(HK'.out _).mono ?_;rintro e w1 ⟨rfl,rfl⟩;go_wp2_with fail
  go_quiet (fail)
  go_wp2_with fail;go_ret
  first|exact⟨rfl,Below.refl _ _⟩|exact⟨rfl,(Below.refl _ _).drew⟩|exact⟨rfl,(Below.refl _ _).drewN _⟩|exact⟨rfl,aal (Below.refl _ _) _⟩
theorem Tryz.infoS:(prog.info? 9).map (fun i=>(i.zero,i.size,i.bytes))=some (some (.string ⟨#[]⟩),1,16):=by kernel_rfl
set_option linter.unusedSimpArgs false
def woF:Nat->List Tm->Nat->Nat->List Tm
 | _,[],_,_=>[]
 | k,t::ts,i,j=>if k=i\/k=j then woF (k+1) ts i j else t::woF (k+1) ts i j
theorem ahF (A B:List Tm)(i j:Nat):∀k,woF k (A++B) i j=woF k A i j++woF (k+A.length) B i j:=by
 induction A with
 | nil=>intro k;simp[woF]
 | cons a A ih=>
  intro k;simp only[List.cons_append,woF,List.length_cons];rw[ih (k+1),show k+1+A.length=k+(A.length+1) by omega]
  split<;>rfl
theorem ad3 (A:List Tm)(i j:Nat):∀k,(∀m,k<=m->m<k+A.length->m≠i/\m≠j)->woF k A i j=A:=by
 induction A with
 | nil=>intro k _;rfl
 | cons a A ih=>
  intro k h;have h0:=h k (nl _) (by simp);simp only[woF];rw[if_neg (by omega),ih (k+1) fun m h1 h2=>h m (by omega) (by simp only[List.length_cons];omega)]
theorem ars (A:List Tm)(i j:Nat):∀k,woF k A i j=woF k A j i:=by
 induction A with
 | nil=>intro k;rfl
 | cons a A ih=>
  intro k;simp only[woF];rw[ih]
  by_cases h:k=i\/k=j
  ·rw[if_pos h,if_pos (Or.symm h)]
  ·rw[if_neg h,if_neg fun h'=>h (Or.symm h')]
theorem asO (A C E:List Tm)(T U:Tm):woF 0 (A++T::(C++U::E)) A.length (A.length+1+C.length)=A++(C++E):=by
 rw[ahF,ad3 A _ _ 0 fun m _ h=>by omega];simp only[woF];rw[if_pos (.inl (by omega)),ahF,ad3 C _ _ _ fun m _ h=>by omega];simp only[woF];rw[if_pos (.inr (by omega)),ad3 E _ _ _ fun m _ h=>by omega]
theorem awE (A E:List Tm)(T:Tm):woF 0 (A++T::E) A.length A.length=A++E:=by
 rw[ahF,ad3 A _ _ 0 fun m _ h=>by omega];simp only[woF];rw[if_pos (.inl (by omega)),ad3 E _ _ _ fun m _ h=>by omega]
theorem ao0 {us:List Tm}{i:Nat}{T:Tm}(h:us[i]?=some T):∃A E,us=A++T::E/\A.length=i:=by
 obtain⟨hi,e⟩:=List.getElem?_eq_some_iff.1 h;exact⟨us.take i,us.drop (i+1),by rw[<-e];simp,by rw[List.length_take];omega⟩
theorem asP {us:List Tm}{i j:Nat}{T U:Tm}(hij:i<j)(h:us[i]?=some T)(h':us[j]?=some U):∃A C E,us=A++T::(C++U::E)/\A.length=i/\A.length+1+C.length=j:=by
 obtain⟨A,E,rfl,hA⟩:=ao0 h;rw[List.getElem?_append_right (by omega),show j - A.length=(j - A.length - 1)+1 by omega,List.getElem?_cons_succ]at h';obtain⟨C,E,rfl,hC⟩:=ao0 h';exact⟨A,C,E,rfl,hA,by omega⟩
theorem art {us:List Tm}{i:Nat}{T:Tm}(h:us[i]?=some T):us.Perm (T::woF 0 us i i)/\∀p,(us.set i p).Perm (woF 0 us i i++[p]):=by
 obtain⟨A,E,rfl,rfl⟩:=ao0 h;rw[awE];refine⟨List.perm_middle,fun p=>?_⟩;have e:(A++T::E).set A.length p=A++p::E:=by simp
 rw[e];exact List.perm_middle.trans (List.perm_append_singleton p (A++E)).symm
theorem ahG {us:List Tm}{i j:Nat}{T U:Tm}(hij:i≠j)(h:us[i]?=some T)(h':us[j]?=some U) : us.Perm (T::U::woF 0 us i j)/\∀p,∃D1 D2,(D1++D2).Perm (p::woF 0 us i j)/\∀q,(us.set i p).set j q=D1++q::D2:=by
 rcases Nat.lt_or_gt_of_ne hij with hl|hl
 ·obtain⟨A,C,E,rfl,rfl,rfl⟩:=asP hl h h';rw[asO];refine⟨?_,fun p=>⟨A++p::C,E,?_,fun q=>?_⟩⟩
  ·refine List.perm_middle.trans (.cons T ?_);rw[<-List.append_assoc,<-List.append_assoc];exact List.perm_middle
  ·rw[<-List.append_assoc];have:(A++p::C++E)=A++p::(C++E):=by simp
   rw[this];exact(List.perm_middle).trans (by rw[List.append_assoc])
  ·have e1:(A++T::(C++U::E)).set A.length p=A++p::(C++U::E):=by simp
   have e2:A++p::(C++U::E)=(A++p::C)++U::E:=by simp
   rw[e1,e2,show A.length+1+C.length=(A++p::C).length by simp<;>omega];simp
 ·obtain⟨A,C,E,rfl,rfl,rfl⟩:=asP hl h' h;rw[ars,asO];refine⟨?_,fun p=>⟨A,C++p::E,?_,fun q=>?_⟩⟩
  ·refine List.perm_middle.trans ?_;rw[<-List.append_assoc];exact(List.Perm.cons U List.perm_middle).trans ((List.Perm.swap T U _).trans (by rw[List.append_assoc]))
  ·rw[<-List.append_assoc,<-List.append_assoc];exact List.perm_middle
  ·have e2:∀V,A++V::(C++T::E)=(A++V::C)++T::E:=by simp
   have e3:((A++U::C)++T::E).set ((A++U::C).length) p=(A++U::C)++p::E:=by simp
   rw[e2,show A.length+1+C.length=(A++U::C).length by simp<;>omega,e3];simp
theorem ao1 (t:Tm):∀q∈smds t,q.size<=t.size/\q.pr.length<=t.pr.length/\(t.ok nmL=true->q.ok nmL=true)/\q.bdp<=t.bdp:=by
 induction t with
 | sum p q ih ih2=>
  intro r hr;simp only[smds,lma]at hr;simp only[Tm.size,Tm.pr,List.length_cons,lla,Tm.ok,bae,Tm.bdp];rcases hr with hr|hr
  ·obtain⟨a,b,c,d⟩:=ih r hr;exact⟨by omega,by omega,fun h=>c h.1,by omega⟩
  ·obtain⟨a,b,c,d⟩:=ih2 r hr;exact⟨by omega,by omega,fun h=>c h.2,by omega⟩
 | _=>intro r hr;simp only[smds,List.mem_singleton]at hr;subst hr;exact⟨nl _,nl _,id,nl _⟩
theorem aca {t q:Tm}(hq:q∈offT t):q.size<=t.size/\q.pr.length<=t.pr.length/\(t.ok nmL=true->q.ok nmL=true)/\q.bdp<=t.bdp/\(isRep t=true->q.size+1=t.size/\q.pr.length+1=t.pr.length):=by
 cases t with
 | rep p=>
  simp only[offT,List.mem_singleton]at hq;subst hq;exact⟨by simp[Tm.size],by simp[Tm.pr],fun h=>by simpa [Tm.ok] using h,by simp[Tm.bdp],fun _=>⟨by simp[Tm.size],by simp[Tm.pr]⟩⟩
 | _=>obtain⟨a,b,c,d⟩:=ao1 _ q hq;exact⟨a,b,c,d,fun h=>by cases h⟩
theorem aru {t q:Tm}(hq:q∈offT t):∀z,z∈q.bnd->z∈t.bnd:=by
 cases t with
 | rep p=>simp only[offT,List.mem_singleton]at hq;subst hq;exact fun z hz=>hz
 | _=>exact fun z hz=>(adP _ q hq).subset hz
structure LevA (fr:List UInt8) (us:List Tm):Prop where
 lev:Lev fr us
 nd:fr.Nodup
 ap:∀U∈us,∀z,z∈U.bnd->z∉fr/\∀T∈us,z∉T.free
 sm:∀T∈us,T.smq=true
theorem ac1 {f:Tm->Nat}{us:List Tm}{T:Tm}(hT:T∈us):f T<=(us.map f).sum:=by
 induction us with
 | nil=>cases hT
 | cons a l ih=>
  simp only[List.map_cons,List.sum_cons];rcases List.mem_cons.1 hT with rfl|h
  ·omega
  ·have:=ih h;omega
theorem afS {fr:List UInt8}{us:List Tm}(h:Lev fr us){T:Tm}(hT:T∈us):fr.length+T.bdp<=60:=by
 have h1:=h.bn;have h2:T.bnd.length<=_:=ac1 (f:=fun T=>T.bnd.length) hT;have h3:=an0 T;omega
theorem agY {us:List Tm}{T:Tm}{i j:Nat}:∀{k:Nat},T∈woF k us i j->T∈us:=by
 induction us with
 | nil=>intro k h;simp[woF]at h
 | cons a l ih=>
  intro k h;simp only[woF]at h
  split at h
  ·exact List.mem_cons_of_mem _ (ih h)
  ·rcases List.mem_cons.1 h with h|h
   ·rw[h];simp
   ·exact List.mem_cons_of_mem _ (ih h)
theorem aeF {fr:List UInt8}{us:List Tm}(h:LevA fr us){i:Nat}{T p:Tm}(hi:us[i]?=some T)(hp:.tau p∈offT T):Lev7 fr (woF 0 us i i++[p])/\Lev7 fr (us.set i p)/\nfS (tR fr (woF 0 us i i++[p]))=nfI (tP fr (us.set i p)):=by
 obtain⟨q1,q2⟩:=art hi;have hT:T∈us:=List.mem_of_getElem? hi;obtain⟨s1,s2,s3,s4,_⟩:=aca hp;have hok:=s3 (h.lev.ok T hT);simp only[Tm.size,Tm.pr,List.length_cons,Tm.ok,Tm.bdp]at s1 s2 s4 hok;have z1:=(q1.map Tm.size).sum_nat;have z2:=(q1.map fun T:Tm=>T.pr.length).sum_nat;have z3:=q1.length_eq;have l1:=h.lev.sz;have l2:=h.lev.pl;have l3:=h.lev.bn;simp only[List.map_cons,List.sum_cons,List.length_cons]at z1 z2 z3;have hb:=afS h.lev hT
 have L:Lev7 fr (woF 0 us i i++[p]):=⟨h.lev.frl,fun U hU=>by
   rcases lma.1 hU with hU|hU
   ·exact h.lev.ok U (agY hU)
   ·rw[List.mem_singleton.1 hU];exact hok,by simp only[List.map_append,List.sum_append,List.map_cons,List.map_nil,List.sum_cons,List.sum_nil,lla,List.length_cons,List.length_nil];omega,fun U hU=>by
   rcases lma.1 hU with hU|hU
   ·exact afS h.lev (agY hU)
   ·rw[List.mem_singleton.1 hU];omega,by omega,by simp only[List.map_append,List.sum_append,List.map_cons,List.map_nil,List.sum_cons,List.sum_nil,lla,List.length_cons,List.length_nil];omega⟩
 have L2:=L.perm (q2 p).symm;exact⟨L,L2,aoT h.nd L L2 (adV (q2 p).symm)⟩
def lvg (U q:Tm):Tm:=if isRep U=true then .par q U else q
theorem adh {fr:List UInt8}{us:List Tm}(h:LevA fr us){i j:Nat}{T U p q:Tm}{a b c x:UInt8}(hij:i≠j)(hi:us[i]?=some T)(hj:us[j]?=some U)(hp:.snd a b p∈offT T)(hq:.rcv c x q∈offT U) : (R q x b).ok nmL=true/\Lev7 fr (woF 0 us i j++[p,R q x b]++(if isRep U=true then [U] else []))/\Lev7 fr ((us.set i p).set j (lvg U (R q x b)))/\ nfS (tR fr (woF 0 us i j++[p,R q x b]++(if isRep U=true then [U] else [])))=nfI (tP fr ((us.set i p).set j (lvg U (R q x b)))):=by
 obtain⟨q1,q2⟩:=ahG hij hi hj;have hT:T∈us:=List.mem_of_getElem? hi;have hU:U∈us:=List.mem_of_getElem? hj;obtain⟨s1,s2,s3,s4,_⟩:=aca hp;obtain⟨r1,r2,r3,r4,r5⟩:=aca hq;have hok:=s3 (h.lev.ok T hT);have rok:=r3 (h.lev.ok U hU);simp only[Tm.size,Tm.pr,List.length_cons,Tm.ok,Tm.bdp,bae,lla,List.length_nil]at s1 s2 s4 hok r1 r2 r4 r5 rok
 -- the name is bound nowhere in what receives
 have hbU:b∉q.bnd:=fun hb=>(h.ap U hU b (aru hq b (by simp only[Tm.bnd,List.mem_cons];exact .inr hb))).2 T hT (aoI hp b (by rw[mf_snd];simp));obtain⟨k1,k2⟩:=atO _ q x b (nl _) hbU;have k3:=k2 nmL rok.2 hok.1.2;have k4:=R_size q x b;have k5:=acV q x b;have k6:=ajl _ q x b (nl _);have z1:=(q1.map Tm.size).sum_nat;have z2:=(q1.map fun T:Tm=>T.pr.length).sum_nat;have z3:=q1.length_eq;have l1:=h.lev.sz;have l2:=h.lev.pl;have l3:=h.lev.bn;simp only[List.map_cons,List.sum_cons,List.length_cons]at z1 z2 z3;have hbT:=afS h.lev hT;have hbU:=afS h.lev hU;obtain⟨D1,D2,p1,p2⟩:=q2 p
 have L0:Lev7 fr (woF 0 us i j++[p,R q x b]):=⟨h.lev.frl,fun V hV=>by
   rcases lma.1 hV with hV|hV
   ·exact h.lev.ok V (agY hV)
   ·rcases List.mem_cons.1 hV with rfl|hV
    ·exact hok.2
    ·rw[List.mem_singleton.1 hV];exact k3,by simp only[List.map_append,List.sum_append,List.map_cons,List.map_nil,List.sum_cons,List.sum_nil,lla,List.length_cons,List.length_nil];omega,fun V hV=>by
   rcases lma.1 hV with hV|hV
   ·exact afS h.lev (agY hV)
   ·rcases List.mem_cons.1 hV with rfl|hV
    ·omega
    ·rw[List.mem_singleton.1 hV];omega,by omega,by simp only[List.map_append,List.sum_append,List.map_cons,List.map_nil,List.sum_cons,List.sum_nil,lla,List.length_cons,List.length_nil];omega⟩
 rw[p2];unfold lvg
 by_cases hr:isRep U=true
 ·rw[if_pos hr,if_pos hr];obtain⟨r6,r7⟩:=r5 hr
  have L:Lev7 fr (woF 0 us i j++[p,R q x b]++[U]):=⟨h.lev.frl,fun V hV=>by
    rcases lma.1 hV with hV|hV
    ·exact L0.ok V hV
    ·rw[List.mem_singleton.1 hV];exact h.lev.ok U hU,by simp only[List.map_append,List.sum_append,List.map_cons,List.map_nil,List.sum_cons,List.sum_nil,lla,List.length_cons,List.length_nil];omega,fun V hV=>by
    rcases lma.1 hV with hV|hV
    ·exact L0.bn V hV
    ·rw[List.mem_singleton.1 hV];exact hbU,L0.f5,by simp only[List.map_append,List.sum_append,List.map_cons,List.map_nil,List.sum_cons,List.sum_nil,lla,List.length_cons,List.length_nil];omega⟩
  have P:(woF 0 us i j++[p,R q x b]++[U]).Perm (D1++R q x b::U::D2):=by
   have e1:(D1++R q x b::U::D2).Perm (R q x b::U::(D1++D2)):=(List.perm_middle).trans (.cons _ List.perm_middle);refine .trans ?_ (e1.trans (.cons _ (.cons _ p1))).symm;have e2:woF 0 us i j++[p,R q x b]++[U]=woF 0 us i j++[p,R q x b,U]:=by simp
   rw[e2];refine List.perm_append_comm.trans ?_;show (p::R q x b::U::woF 0 us i j).Perm _;exact(List.Perm.swap _ _ _).trans (.cons _ (.swap _ _ _))
  have L2:=L.perm P;exact⟨k3,L,L2.two,aoT h.nd L L2.two (.trans (adV P) (awz _ _ _ _).symm)⟩
 ·rw[if_neg hr,if_neg hr,List.append_nil]
  have P:(woF 0 us i j++[p,R q x b]).Perm (D1++R q x b::D2):=by
   refine .trans ?_ ((List.perm_middle).trans (.cons _ p1)).symm;refine List.perm_append_comm.trans ?_;exact List.Perm.swap _ _ _
  have L2:=L0.perm P;exact⟨k3,L0,L2,aoT h.nd L0 L2 (adV P)⟩
theorem atT {t r:Tm}(h:nfI t=some r)(ht:t.smp=true)(hs:t.size<=121):LevA r.fro.1 r.thrs:=
 ⟨awy h,(aiM h).1.imp fun h e=>by rw[e,abT]at h;omega,ark h hs,arf (afe h) (atI h ht)⟩
def ayw (fr:List UInt8)(us:List Tm)(i:Nat)(p:Tm):Tm:=tR fr (woF 0 us i i++[p])
def afT (fr:List UInt8)(us:List Tm)(i j:Nat)(p q:Tm)(x b:UInt8)(st:Bool):Tm:=tR fr (woF 0 us i j++[p,R q x b]++(if st=true then [us.getD j .nil] else []))
def aiP (fr:List UInt8)(us:List Tm)(i:Nat)(o:Off)(j:Nat):List Tm:=
 if j=i then [] else ((offs (us.getD j .nil)).filter fun r=>decide (r.k=63/\r.a=o.a)).map fun r=>afT fr us i j o.r r.r r.b o.b r.st
def ad_ (fr:List UInt8)(us:List Tm)(i:Nat)(o:Off):List Tm:=
 if o.k=126 then [ayw fr us i o.r] else if o.k=33 then (List.range us.length).flatMap (aiP fr us i o) else []
def outs (fr:List UInt8)(us:List Tm):List Tm:=(List.range us.length).flatMap fun i=>(offs (us.getD i .nil)).flatMap (ad_ fr us i)
def tauP (fr:List UInt8)(us:List Tm)(i:Nat):Tm->Option Tm
 | .tau p=>some (tP fr (us.set i p))
 | _=>none
def recP (fr:List UInt8)(us:List Tm)(i j:Nat)(a b:UInt8)(p:Tm):Tm->Option Tm
 | .rcv c x q=>if c=a then some (tP fr ((us.set i p).set j (lvg (us.getD j .nil) (R q x b)))) else none
 | _=>none
def sndP (fr:List UInt8)(us:List Tm)(i j:Nat):Tm->List Tm
 | .snd a b p=>(offT (us.getD j .nil)).filterMap (recP fr us i j a b p)
 | _=>[]
def prI (fr:List UInt8)(us:List Tm)(i:Nat):List Tm:=(offT (us.getD i .nil)).filterMap (tauP fr us i)
def prJ (fr:List UInt8)(us:List Tm)(i j:Nat):List Tm:=(offT (us.getD i .nil)).flatMap (sndP fr us i j)
theorem getD_some {us:List Tm}{i:Nat}(h:i<us.length):us[i]?=some (us.getD i .nil):=by
 rw[List.getD_eq_getElem?_getD,List.getElem?_eq_getElem h];rfl
theorem ao2 {T:Tm}(h:T.smq=true){o:Off}(ho:o∈offs T)(hk:o.k=33):.snd o.a o.b o.r∈offT T:=by
 rw[aeE T h]at ho;obtain⟨q,hq,e⟩:=List.mem_filterMap.1 ho
 cases q<;>simp only[offOf]at e<;>cases e
 all_goals first|exact hq|exact absurd hk (by simp)
theorem ao3 {T:Tm}(h:T.smq=true){o:Off}(ho:o∈offs T)(hk:o.k=63):.rcv o.a o.b o.r∈offT T/\o.st=isRep T:=by
 rw[aeE T h]at ho;obtain⟨q,hq,e⟩:=List.mem_filterMap.1 ho
 cases q<;>simp only[offOf]at e<;>cases e
 all_goals first|exact⟨hq,rfl⟩|exact absurd hk (by simp)
theorem atU {T:Tm}(h:T.smq=true){o:Off}(ho:o∈offs T)(hk:o.k=126):.tau o.r∈offT T:=by
 rw[aeE T h]at ho;obtain⟨q,hq,e⟩:=List.mem_filterMap.1 ho
 cases q<;>simp only[offOf]at e<;>cases e
 all_goals first|exact hq|exact absurd hk (by simp)
theorem atV {T:Tm}(h:T.smq=true){a b:UInt8}{p:Tm}(hp:.snd a b p∈offT T):(⟨33,a,b,p,isRep T⟩:Off)∈offs T:=by
 rw[aeE T h];exact List.mem_filterMap.2 ⟨_,hp,rfl⟩
theorem atW {T:Tm}(h:T.smq=true){a b:UInt8}{p:Tm}(hp:.rcv a b p∈offT T):(⟨63,a,b,p,isRep T⟩:Off)∈offs T:=by
 rw[aeE T h];exact List.mem_filterMap.2 ⟨_,hp,rfl⟩
theorem atX {T:Tm}(h:T.smq=true){p:Tm}(hp:.tau p∈offT T):(⟨126,0,0,p,isRep T⟩:Off)∈offs T:=by
 rw[aeE T h];exact List.mem_filterMap.2 ⟨_,hp,rfl⟩
inductive Stp (fr:List UInt8) (us:List Tm):Tm->Prop where
 | tau (i:Nat) (T p:Tm):us[i]?=some T->.tau p∈offT T->Stp fr us (ayw fr us i p)
 | meet (i j:Nat) (T U p q:Tm) (a b x:UInt8):i≠j->us[i]?=some T->us[j]?=some U->.snd a b p∈offT T->.rcv a x q∈offT U->Stp fr us (afT fr us i j p q x b (isRep U))
theorem acL {fr:List UInt8}{us:List Tm}(h:LevA fr us)(t:Tm):t∈outs fr us↔Stp fr us t:=by
 have sm:∀i,i<us.length->(us.getD i .nil).smq=true:=fun i hi=>h.sm _ (List.mem_of_getElem? (getD_some hi));constructor
 ·intro ht;obtain⟨i,hi,ht⟩:=List.mem_flatMap.1 ht;rw[List.mem_range]at hi;obtain⟨o,ho,ht⟩:=List.mem_flatMap.1 ht;unfold ad_ at ht
  split at ht
  ·rename_i hk
   rw[List.mem_singleton]at ht;subst ht;exact .tau i _ _ (getD_some hi) (atU (sm i hi) ho hk)
  ·split at ht
   ·rename_i hk
    obtain⟨j,hj,ht⟩:=List.mem_flatMap.1 ht;rw[List.mem_range]at hj;unfold aiP at ht
    split at ht
    ·cases ht
    ·rename_i hij
     obtain⟨r,hr,e⟩:=List.mem_map.1 ht;obtain⟨hr,hr2⟩:=List.mem_filter.1 hr;have hr2:=of_decide_eq_true hr2;obtain⟨g1,g2⟩:=ao3 (sm j hj) hr hr2.1;subst e;rw[g2];exact .meet i j _ _ o.r r.r o.a o.b r.b (fun e=>hij e.symm) (getD_some hi) (getD_some hj) (ao2 (sm i hi) ho hk) (hr2.2▸g1)
   ·cases ht
 ·intro ht
  cases ht with
  | tau i T p hi hp=>
   obtain⟨hl,e⟩:=List.getElem?_eq_some_iff.1 hi;have e2:us.getD i .nil=T:=by rw[List.getD_eq_getElem?_getD,hi];rfl
   refine List.mem_flatMap.2 ⟨i,List.mem_range.2 hl,List.mem_flatMap.2 ⟨_,by rw[e2];exact atX (e2▸sm i hl) hp,?_⟩⟩;unfold ad_;rw[if_pos rfl];simp
  | meet i j T U p q a b x hij hi hj hp hq=>
   obtain⟨hl,e⟩:=List.getElem?_eq_some_iff.1 hi;obtain⟨hl',e'⟩:=List.getElem?_eq_some_iff.1 hj;have e2:us.getD i .nil=T:=by rw[List.getD_eq_getElem?_getD,hi];rfl
   have e3:us.getD j .nil=U:=by rw[List.getD_eq_getElem?_getD,hj];rfl
   refine List.mem_flatMap.2 ⟨i,List.mem_range.2 hl,List.mem_flatMap.2 ⟨_,by rw[e2];exact atV (e2▸sm i hl) hp,?_⟩⟩;unfold ad_;rw[if_neg (show ¬(33:UInt8)=126 by decide),if_pos rfl];refine List.mem_flatMap.2 ⟨j,List.mem_range.2 hl',?_⟩;unfold aiP;rw[if_neg (fun e=>hij e.symm)];exact List.mem_map.2 ⟨_,List.mem_filter.2 ⟨by rw[e3];exact atW (e3▸sm j hl') hq,by simp⟩,rfl⟩
theorem akF {fr:List UInt8}{us:List Tm}(h:LevA fr us){t:Tm}(ht:Stp fr us t):Fine7 t:=by
 cases ht with
 | tau i T p hi hp=>exact(aeF h hi hp).1.spec
 | meet i j T U p q a b x hij hi hj hp hq=>
  have e3:us.getD j .nil=U:=by rw[List.getD_eq_getElem?_getD,hj];rfl
  unfold afT;rw[e3];exact(adh h hij hi hj hp hq).2.1.spec
theorem ao4 {fr:List UInt8}{us:List Tm}(h:LevA fr us){i:Nat}{T:Tm}(hi:us[i]?=some T){t:Tm}(ht:t∈prI fr us i):Fine7 t/\∃t',Stp fr us t'/\nfS t'=nfI t:=by
 have e2:us.getD i .nil=T:=by rw[List.getD_eq_getElem?_getD,hi];rfl
 unfold prI at ht;rw[e2]at ht;obtain⟨q,hq,e⟩:=List.mem_filterMap.1 ht
 cases q<;>simp only[tauP]at e<;>cases e
 obtain⟨a,b,c⟩:=aeF h hi hq;exact⟨b.prog,_,.tau i T _ hi hq,c⟩
theorem ao5 {fr:List UInt8}{us:List Tm}(h:LevA fr us){i j:Nat}{T U:Tm}(hij:i≠j)(hi:us[i]?=some T)(hj:us[j]?=some U){t:Tm}(ht:t∈prJ fr us i j):Fine7 t/\∃t',Stp fr us t'/\nfS t'=nfI t:=by
 have e2:us.getD i .nil=T:=by rw[List.getD_eq_getElem?_getD,hi];rfl
 have e3:us.getD j .nil=U:=by rw[List.getD_eq_getElem?_getD,hj];rfl
 unfold prJ at ht;rw[e2]at ht;obtain⟨q,hq,e⟩:=List.mem_flatMap.1 ht
 cases q<;>simp only[sndP]at e<;>try (cases e;done)
 rename_i a b p
 rw[e3]at e;obtain⟨r,hr,e1⟩:=List.mem_filterMap.1 e;clear e
 cases r<;>simp only[recP]at e1<;>try (cases e1;done)
 rename_i c x q
 split at e1
 ·rename_i hc
  subst hc;have e4:=Option.some.inj e1;subst e4;rw[e3];obtain⟨k1,k2,k3,k4⟩:=adh h hij hi hj hq hr;refine⟨k3.prog,_,.meet i j T U p q _ b x hij hi hj hq hr,?_⟩;unfold afT;rw[e3];exact k4
 ·cases e1
theorem ao6 {fr:List UInt8}{us:List Tm}(h:LevA fr us){i j i' j':Nat}{T U p q:Tm}{a b x:UInt8}(hij:i≠j)(hij':i'≠j')(hi:us[i]?=some T)(hj:us[j]?=some U)(hi':us[i']?=some T)(hj':us[j']?=some U) (hp:.snd a b p∈offT T)(hq:.rcv a x q∈offT U):nfS (afT fr us i j p q x b (isRep U))=nfS (afT fr us i' j' p q x b (isRep U)):=by
 have e3:us.getD j .nil=U:=by rw[List.getD_eq_getElem?_getD,hj];rfl
 have e3':us.getD j' .nil=U:=by rw[List.getD_eq_getElem?_getD,hj'];rfl
 have p1:=(ahG hij hi hj).1;have p2:=(ahG hij' hi' hj').1;have P:(woF 0 us i j).Perm (woF 0 us i' j'):=((p1.symm.trans p2).cons_inv).cons_inv;have a:=(adh h hij hi hj hp hq).2.1;have b:=(adh h hij' hi' hj' hp hq).2.1;unfold afT;rw[e3,e3'];refine aww ?_ a.spec.ok b.spec.ok a.spec.sz b.spec.sz a.spec.ft b.spec.ft;exact aoH (.trans (ahD _) (.trans (adV (.append_right _ (.append_right _ P))) (ahD _).symm)) _
theorem atY {fr:List UInt8}{us:List Tm}(h:LevA fr us)(PP:List (Nat × Nat))(h1:∀ij∈PP,ij.1≠ij.2/\ij.1<us.length/\ij.2<us.length) (h2:∀i j,i≠j->i<us.length->j<us.length->∃ij∈PP,us[ij.1]?=us[i]?/\us[ij.2]?=us[j]?)(v:Option Tm) : (∃t∈outs fr us,nfS t=v)↔(∃i,i<us.length/\∃t∈prI fr us i,nfI t=v)\/∃ij∈PP,∃t∈prJ fr us ij.1 ij.2,nfI t=v:=by
 constructor
 ·rintro⟨t,ht,hv⟩;rw[acL h]at ht
  cases ht with
  | tau i T p hi hp=>
   obtain⟨hl,_⟩:=List.getElem?_eq_some_iff.1 hi;have e2:us.getD i .nil=T:=by rw[List.getD_eq_getElem?_getD,hi];rfl
   refine .inl ⟨i,hl,_,?_,(aeF h hi hp).2.2.symm.trans hv⟩;unfold prI;rw[e2];exact List.mem_filterMap.2 ⟨_,hp,rfl⟩
  | meet i j T U p q a b x hij hi hj hp hq=>
   obtain⟨hl,_⟩:=List.getElem?_eq_some_iff.1 hi;obtain⟨hl',_⟩:=List.getElem?_eq_some_iff.1 hj;obtain⟨⟨i',j'⟩,hm,g1,g2⟩:=h2 i j hij hl hl';obtain⟨hij',hl1,hl2⟩:=h1 _ hm;simp only at g1 g2 hij' hl1 hl2;rw[hi]at g1;rw[hj]at g2;have e2:us.getD i' .nil=T:=by rw[List.getD_eq_getElem?_getD,g1];rfl
   have e3:us.getD j' .nil=U:=by rw[List.getD_eq_getElem?_getD,g2];rfl
   rw[ao6 h hij hij' hi hj g1 g2 hp hq]at hv;have k:=(adh h hij' g1 g2 hp hq).2.2.2;unfold afT at hv;rw[e3,k]at hv;refine .inr ⟨_,hm,_,?_,hv⟩;unfold prJ;rw[e2];refine List.mem_flatMap.2 ⟨_,hp,?_⟩;simp only[sndP];rw[e3];refine List.mem_filterMap.2 ⟨_,hq,?_⟩;simp only[recP];rw[if_pos trivial,e3]
 ·rintro (⟨i,hi,t,ht,hv⟩|⟨⟨i,j⟩,hm,t,ht,hv⟩)
  ·obtain⟨_,t',ht',e⟩:=ao4 h (getD_some hi) ht;exact⟨t',(acL h t').2 ht',e.trans hv⟩
  ·obtain⟨hij,hi,hj⟩:=h1 _ hm;obtain⟨_,t',ht',e⟩:=ao5 h hij (getD_some hi) (getD_some hj) ht;exact⟨t',(acL h t').2 ht',e.trans hv⟩
theorem arv (t:Tm)(h:t.smq=true):∀q∈smds t,q.smq=true:=by
 induction t with
 | sum p q ih ih2=>
  obtain⟨⟨_,s1⟩,_,s2⟩:=smq_sum.1 h;intro r hr;simp only[smds,lma]at hr;exact hr.elim (ih s1 r) (ih2 s2 r)
 | _=>intro r hr;simp only[smds,List.mem_singleton]at hr;subst hr;exact h
theorem offT_smq {t q:Tm}(h:t.smq=true)(hq:q∈offT t):q.smq=true:=by
 cases t with
 | rep p=>
  simp only[offT,List.mem_singleton]at hq;subst hq;simp only[Tm.smq,bae]at h;exact h.2
 | _=>exact arv _ h q hq
theorem asQ {fr:List UInt8}{B:List Tm}(h:∀T∈B,T.smq=true):(tR fr B).smq=true:=by
 unfold tR;rw[akx];exact aiJ B h
theorem atZ {fr:List UInt8}{us:List Tm}(h:LevA fr us){t:Tm}(ht:Stp fr us t):t.smp=true:=by
 refine atE _ ?_
 cases ht with
 | tau i T p hi hp=>
  have hT:T∈us:=List.mem_of_getElem? hi;refine asQ fun U hU=>?_;rcases lma.1 hU with hU|hU
  ·exact h.sm U (agY hU)
  ·rw[List.mem_singleton.1 hU];exact(offT_smq (h.sm T hT) hp:(Tm.tau p).smq=true)
 | meet i j T U p q a b x hij hi hj hp hq=>
  have hT:T∈us:=List.mem_of_getElem? hi;have hU:U∈us:=List.mem_of_getElem? hj;have e3:us.getD j .nil=U:=by rw[List.getD_eq_getElem?_getD,hj];rfl
  unfold afT;rw[e3];refine asQ fun V hV=>?_;rcases lma.1 hV with hV|hV
  ·rcases lma.1 hV with hV|hV
   ·exact h.sm V (agY hV)
   ·rcases List.mem_cons.1 hV with rfl|hV
    ·have:=offT_smq (h.sm T hT) hp;exact this
    ·rw[List.mem_singleton.1 hV,(atP _ q x b (nl _)).2.2.2.2];exact(offT_smq (h.sm U hU) hq:(Tm.rcv a x q).smq=true)
  ·split at hV
   ·rw[List.mem_singleton.1 hV];exact h.sm U hU
   ·cases hV
def NfS (r:Tm):Prop:=∃t,nfI t=some r/\t.smp=true/\t.size<=121
theorem NfS.lev {r:Tm}(h:NfS r):LevA r.fro.1 r.thrs:=by
 obtain⟨t,h1,h2,h3⟩:=h;exact atT h1 h2 h3
theorem NfS.fits {r:Tm}(h:NfS r):r.ok nmL=true/\r.pr.length<=300/\r.size<=60:=by
 obtain⟨t,h1,_,_⟩:=h;exact adX h1
theorem NfS.form {r:Tm}(h:NfS r):NfForm r:=by
 obtain⟨t,h1,_,_⟩:=h;exact afe h1
theorem NfS.step {r t r':Tm}(h:NfS r)(ht:Stp r.fro.1 r.thrs t)(hr:nfS t=some r'):NfS r':=by
 have f:=akF h.lev ht;exact⟨t,by rw[<-ajt f.ok f.sz f.ft];exact hr,atZ h.lev ht,f.sz⟩
-- lists in order,each once
section
variable {α:Type} [DecidableEq α]
def onceStep (out:List α)(s:α):List α:=if out.getLast?=some s then out else out++[s]
def ajC (xs:List α):List α:=xs.foldl onceStep []
variable {le:α->α->Prop}
theorem at0 (ha:∀a b,le a b->le b a->a=b):∀(xs out:List α),(out++xs).Pairwise le->out.Pairwise (fun a b=>le a b/\a≠b)-> (xs.foldl onceStep out).Pairwise (fun a b=>le a b/\a≠b)/\∀s,s∈xs.foldl onceStep out↔s∈out\/s∈xs:=by
 intro xs;induction xs with
 | nil=>intro out _ h;exact⟨h,fun s=>by simp⟩
 | cons x xs ih=>
  intro out h k;simp only[List.foldl_cons]
  by_cases e:out.getLast?=some x
  ·have hx:x∈out:=List.mem_of_getLast? e;rw[show onceStep out x=out by unfold onceStep;rw[if_pos e]];obtain⟨i1,i2⟩:=ih out (h.sublist (List.Sublist.append_left (List.sublist_cons_self x xs) out)) k;refine⟨i1,fun s=>?_⟩;rw[i2,List.mem_cons];constructor
   ·rintro (h|h);exact .inl h;exact .inr (.inr h)
   ·rintro (h|rfl|h);exact .inl h;exact .inl hx;exact .inr h
  ·rw[show onceStep out x=out++[x] by unfold onceStep;rw[if_neg e]];have hp:=List.pairwise_append.1 h
   have hne:∀a∈out,a≠x:=fun a ha' hax=>by
    subst hax;rcases List.eq_nil_or_concat out with rfl|⟨o,l,rfl⟩
    ·cases ha'
    ·rw[List.concat_eq_append]at *;have hl:l≠a:=fun el=>e (by rw[el];simp);have h1:le l a:=hp.2.2 l (by simp) a (by simp);rcases lma.1 ha' with ho|ho
     ·have h2:=(List.pairwise_append.1 k).2.2 a ho l (by simp);exact hl (ha _ _ h1 h2.1)
     ·exact hl (List.mem_singleton.1 ho).symm
   obtain⟨i1,i2⟩:=ih (out++[x]) (by rw[List.append_assoc];exact h) (by
    rw[List.pairwise_append]
    exact⟨k,by simp,fun a ha' b hb=>by rw[List.mem_singleton.1 hb];exact⟨hp.2.2 a ha' x (by simp),hne a ha'⟩⟩)
   refine⟨i1,fun s=>?_⟩;rw[i2];simp only[lma,List.mem_cons,List.mem_singleton,List.not_mem_nil,or_false];constructor
   ·rintro ((h|h)|h);exact .inl h;exact .inr (.inl h);exact .inr (.inr h)
   ·rintro (h|h|h);exact .inl (.inl h);exact .inl (.inr h);exact .inr h
theorem at1 (ha:∀a b,le a b->le b a->a=b){xs:List α}(h:xs.Pairwise le):(ajC xs).Pairwise (fun a b=>le a b/\a≠b)/\∀s,s∈ajC xs↔s∈xs:=by
 obtain⟨i1,i2⟩:=at0 ha xs [] (by simpa using h) .nil;exact⟨i1,fun s=>by unfold ajC;rw[i2];simp⟩
end
section
variable {α:Type}
inductive Rch (nx:α->Option (List α)) (s:α):Nat->α->Prop where
 | here:Rch nx s 0 s
 | step {n:Nat} {a b:α} {l:List α}:Rch nx s n a->nx a=some l->b∈l->Rch nx s (n+1) b
structure Bfs (nx:α->Option (List α)) (s:α) (all:List (α × Nat)) (i:Nat):Prop where
 nd:(all.map Prod.fst).Nodup
 fst:all.head?=some (s,0)
 rch:∀p∈all,Rch nx s p.2 p.1
 mono:all.Pairwise fun p q=>p.2<=q.2
 near:∀q,all[i]?=some q->∀p∈all,p.2<=q.2+1
 le:i<=all.length
 done:∀p∈all.take i,∃l,nx p.1=some l/\∀b∈l,∃n,(b,n)∈all/\n<=p.2+1
structure BfsIn (nx:α->Option (List α)) (s:α) (all:List (α × Nat)) (i:Nat) (q:α × Nat) (l l0:List α):Prop where
 base:Bfs nx s all i
 at_:all[i]?=some q
 nx_:nx q.1=some l
 sub:∀b∈l0,b∈l
 part:∀b∈l0,∃n,(b,n)∈all/\n<=q.2+1
theorem Bfs.start (nx:α->Option (List α))(s:α):Bfs nx s [(s,0)] 0:=
 ⟨by simp,rfl,fun p hp=>by rw[List.mem_singleton.1 hp];exact .here,by simp,fun q hq p hp=>by rw[List.mem_singleton.1 hp];omega,by simp,fun p hp=>by simp at hp⟩
theorem Bfs.enter {nx:α->Option (List α)}{s:α}{all:List (α × Nat)}{i:Nat}(h:Bfs nx s all i){q:α × Nat}{l:List α}(hq:all[i]?=some q)(hl:nx q.1=some l):BfsIn nx s all i q l []:=
 ⟨h,hq,hl,by simp,by simp⟩
theorem BfsIn.old {nx:α->Option (List α)}{s:α}{all:List (α × Nat)}{i:Nat}{q:α × Nat}{l l0:List α}(h:BfsIn nx s all i q l l0){b:α}(hb:b∈l)(hm:b∈all.map Prod.fst):BfsIn nx s all i q l (l0++[b]):=by
 obtain⟨⟨b',n⟩,hp,rfl⟩:=List.mem_map.1 hm;refine⟨h.base,h.at_,h.nx_,fun c hc=>?_,fun c hc=>?_⟩
 ·rcases lma.1 hc with hc|hc
  ·exact h.sub c hc
  ·rw[List.mem_singleton.1 hc];exact hb
 ·rcases lma.1 hc with hc|hc
  ·exact h.part c hc
  ·rw[List.mem_singleton.1 hc];exact⟨n,hp,h.base.near q h.at_ _ hp⟩
theorem BfsIn.new {nx:α->Option (List α)}{s:α}{all:List (α × Nat)}{i:Nat}{q:α × Nat}{l l0:List α}(h:BfsIn nx s all i q l l0){b:α}(hb:b∈l)(hm:b∉all.map Prod.fst):BfsIn nx s (all++[(b,q.2+1)]) i q l (l0++[b]):=by
 have hi:i<all.length:=(List.getElem?_eq_some_iff.1 h.at_).1;have hqm:q∈all:=List.mem_of_getElem? h.at_;have hat:(all++[(b,q.2+1)])[i]?=some q:=by rw[List.getElem?_append_left hi];exact h.at_
 refine⟨⟨?_,?_,fun p hp=>?_,?_,fun q' hq' p hp=>?_,by simp;omega,fun p hp=>?_⟩,hat,h.nx_,fun c hc=>?_,fun c hc=>?_⟩
 ·rw[List.map_append,List.nodup_append]
  exact⟨h.base.nd,by simp,fun x hx y hy e=>by
   simp only[List.map_cons,List.map_nil,List.mem_singleton]at hy
   subst hy;subst e;exact hm hx⟩
 ·have:=h.base.fst
  cases all with
  | nil=>cases this
  | cons a t=>simpa using this
 ·rcases lma.1 hp with hp|hp
  ·exact h.base.rch p hp
  ·rw[List.mem_singleton.1 hp];exact .step (h.base.rch q hqm) h.nx_ hb
 ·rw[List.pairwise_append];exact⟨h.base.mono,by simp,fun p hp p' hp'=>by rw[List.mem_singleton.1 hp'];exact h.base.near q h.at_ p hp⟩
 ·rw[hat]at hq';cases hq';rcases lma.1 hp with hp|hp
  ·exact h.base.near q h.at_ p hp
  ·rw[List.mem_singleton.1 hp];exact nl _
 ·rw[List.take_append_of_le_length (by omega)]at hp;obtain⟨m,h1,h2⟩:=h.base.done p hp;exact⟨m,h1,fun c hc=>by obtain⟨n,g1,g2⟩:=h2 c hc;exact⟨n,lma.2 (.inl g1),g2⟩⟩
 ·rcases lma.1 hc with hc|hc
  ·exact h.sub c hc
  ·rw[List.mem_singleton.1 hc];exact hb
 ·rcases lma.1 hc with hc|hc
  ·obtain⟨n,g1,g2⟩:=h.part c hc;exact⟨n,lma.2 (.inl g1),g2⟩
  ·rw[List.mem_singleton.1 hc];exact⟨_,lma.2 (.inr (List.mem_singleton.2 rfl)),nl _⟩
theorem BfsIn.leave {nx:α->Option (List α)}{s:α}{all:List (α × Nat)}{i:Nat}{q:α × Nat}{l l0:List α}(h:BfsIn nx s all i q l l0)(hall:∀b∈l,b∈l0):Bfs nx s all (i+1):=by
 have hi:i<all.length:=(List.getElem?_eq_some_iff.1 h.at_).1;refine⟨h.base.nd,h.base.fst,h.base.rch,h.base.mono,fun q' hq' p hp=>?_,hi,fun p hp=>?_⟩
 ·have h1:=h.base.near q h.at_ p hp;obtain⟨hl,e⟩:=List.getElem?_eq_some_iff.1 hq';obtain⟨hl0,e0⟩:=List.getElem?_eq_some_iff.1 h.at_;have h2:=(List.pairwise_iff_getElem.1 h.base.mono) i (i+1) hl0 hl (by omega);rw[e,e0]at h2;omega
 ·rw[List.take_add_one,h.at_]at hp;rcases lma.1 hp with hp|hp
  ·exact h.base.done p hp
  ·simp only[Option.toList_some,List.mem_singleton]at hp;subst hp;exact⟨l,h.nx_,fun b hb=>h.part b (hall b hb)⟩
theorem Bfs.full {nx:α->Option (List α)}{s:α}{all:List (α × Nat)}(h:Bfs nx s all all.length):∀n a,Rch nx s n a->∃m,(a,m)∈all/\m<=n:=by
 intro n a hr
 induction hr with
 | here=>
  have:=h.fst
  cases all with
  | nil=>cases this
  | cons p t=>simp only[List.head?_cons,Option.some.injEq]at this;subst this;exact⟨0,by simp,nl _⟩
 | step hr hx hb ih=>
  obtain⟨m,h1,h2⟩:=ih;obtain⟨l,g1,g2⟩:=h.done _ (by rw[List.take_length];exact h1);rw[hx]at g1
  cases g1
  obtain⟨k,k1,k2⟩:=g2 _ hb;exact⟨k,k1,by simp only at k2;omega⟩
theorem arw {all:List (α × Nat)}(h:(all.map Prod.fst).Nodup){a:α}{m n:Nat}(h1:(a,m)∈all)(h2:(a,n)∈all):m=n:=by
 induction all with
 | nil=>cases h1
 | cons p t ih=>
  simp only[List.map_cons,List.nodup_cons]at h;rcases List.mem_cons.1 h1 with e|h1<;>rcases List.mem_cons.1 h2 with e'|h2
  ·rw[<-e']at e;injection e
  ·exact absurd (List.mem_map.2 ⟨_,h2,by rw[<-e]⟩) h.1
  ·exact absurd (List.mem_map.2 ⟨_,h1,by rw[<-e']⟩) h.1
  ·exact ih h.2 h1 h2
theorem Bfs.same {nx:α->Option (List α)}{s:α}{A B:List (α × Nat)}(hA:Bfs nx s A A.length)(hB:Bfs nx s B B.length):∀p,p∈A↔p∈B:=by
 have H:∀{A B:List (α × Nat)},Bfs nx s A A.length->Bfs nx s B B.length->∀p,p∈A->p∈B:=by
  intro A B hA hB p hp;obtain⟨m,h1,h2⟩:=hB.full _ _ (hA.rch p hp);obtain⟨k,h3,h4⟩:=hA.full _ _ (hB.rch _ h1);have e:k=p.2:=arw hA.nd h3 hp;simp only at h4;have:m=p.2:=by omega
  rw[this]at h1;exact h1
 exact fun p=>⟨H hA hB p,H hB hA p⟩
theorem Bfs.len {nx:α->Option (List α)}{s:α}{A B:List (α × Nat)}(hA:Bfs nx s A A.length)(hB:Bfs nx s B B.length):A.length=B.length:=by
 have hn:∀{A:List (α × Nat)},(A.map Prod.fst).Nodup->A.Nodup:=fun h=>(List.pairwise_map.1 h).imp fun hne e=>hne (by rw[e]);have:A.Perm B:=(List.perm_ext_iff_of_nodup (hn hA.nd) (hn hB.nd)).2 (hA.same hB);exact this.length_eq
end
section
variable {α:Type}
inductive Pth (nx:α->List α):Nat->α->Prop where
 | zero (v:α):Pth nx 0 v
 | succ {n:Nat} {v w:α}:w∈nx v->Pth nx n w->Pth nx (n+1) v
theorem arx {nx:α->List α}{n:Nat}{v:α}:Pth nx (n+1) v↔∃w∈nx v,Pth nx n w:=
 ⟨fun h=>by cases h with|succ a b=>exact⟨_,a,b⟩,fun ⟨w,a,b⟩=>.succ a b⟩
theorem ayI {nx:α->List α}{all:List α}(hc:∀v∈all,∀w∈nx v,w∈all)(long:α->Nat)(h:∀v∈all,∀w∈nx v,long w+1<=long v):∀n v,v∈all->Pth nx n v->n<=long v:=by
 intro n;induction n with
 | zero=>intro v _ _;exact Nat.zero_le _
 | succ n ih=>
  intro v hv hp;obtain⟨w,a,b⟩:=arx.1 hp;have h1:=ih w (hc v hv w a) b;have h2:=h v hv w a;omega
end
theorem akG (l:List Tm):(srtT l).Pairwise fun a b=>a.pr<=b.pr:=by
 have:=List.pairwise_mergeSort (le:=fun a b:Tm=>decide (a.pr<=b.pr)) (fun a b c h k=>decide_eq_true (List.le_trans (of_decide_eq_true h) (of_decide_eq_true k)))
  (fun a b=>by
   rcases List.le_total a.pr b.pr with h|h
   ·simp[h]
   ·simp[h]) l
 exact this.imp fun h=>of_decide_eq_true h
def leP (a b:Tm):Prop:=a.pr<=b.pr/\(a.pr=b.pr->a=b)
theorem akH (a b:Tm)(h:leP a b)(k:leP b a):a=b:=h.2 (List.le_antisymm h.1 k.1)
theorem asR {a b:Tm}(ha:a.ok nmL=true)(hb:b.ok nmL=true)(h:a.pr=b.pr):a=b:=(ab6 aa5 a b [] [] ha hb (by rw[h])).1
theorem akI {l:List Tm}(h:∀t∈l,t.ok nmL=true):(srtT l).Pairwise leP:=by
 refine List.Pairwise.imp_of_mem ?_ (akG l);intro a b ha hb hab;exact⟨hab,asR (h a ((aaG _ _).1 ha)) (h b ((aaG _ _).1 hb))⟩
def axU (r:Tm):Bool:=(outs r.fro.1 r.thrs).all fun t=>(nfS t).isSome
def rawN (r:Tm):List Tm:=(outs r.fro.1 r.thrs).filterMap nfS
def lstN (r:Tm):List Tm:=ajC (srtT (rawN r))
def nxtN (r:Tm):Option (List Tm):=if axU r=true then some (lstN r) else none
theorem ary {r:Tm}(h:NfS r)(s:Tm):s∈rawN r↔∃t,Stp r.fro.1 r.thrs t/\nfS t=some s:=by
 unfold rawN;rw[List.mem_filterMap];exact⟨fun ⟨t,a,b⟩=>⟨t,(acL h.lev t).1 a,b⟩,fun ⟨t,a,b⟩=>⟨t,(acL h.lev t).2 a,b⟩⟩
theorem ahH {r:Tm}(h:NfS r):∀s∈rawN r,NfS s:=fun s hs=>by
 obtain⟨t,a,b⟩:=(ary h s).1 hs;exact h.step a b
theorem ahI {r:Tm}(h:NfS r):(lstN r).Pairwise (fun a b=>leP a b/\a≠b)/\∀s,s∈lstN r↔s∈rawN r:=by
 obtain⟨i1,i2⟩:=at1 akH (akI fun t ht=>(ahH h t ht).fits.1);exact⟨i1,fun s=>by unfold lstN;rw[i2,aaG]⟩
theorem at2 {r:Tm}(h:NfS r):∀s∈lstN r,NfS s:=fun s hs=>ahH h s (((ahI h).2 s).1 hs)
theorem al6 {r:Tm}(h:NfS r):(lstN r).Nodup:=(ahI h).1.imp fun h=>h.2
theorem arz {r:Tm}(h:NfS r)(PP:List (Nat × Nat))(h1:∀ij∈PP,ij.1≠ij.2/\ij.1<r.thrs.length/\ij.2<r.thrs.length) (h2:∀i j,i≠j->i<r.thrs.length->j<r.thrs.length->∃ij∈PP,r.thrs[ij.1]?=r.thrs[i]?/\r.thrs[ij.2]?=r.thrs[j]?) (g1:∀i,i<r.thrs.length->∀t∈prI r.fro.1 r.thrs i,nfI t≠none)(g2:∀ij∈PP,∀t∈prJ r.fro.1 r.thrs ij.1 ij.2,nfI t≠none) : nxtN r=some (lstN r)/\∀s,s∈lstN r↔(∃i,i<r.thrs.length/\∃t∈prI r.fro.1 r.thrs i,nfI t=some s)\/∃ij∈PP,∃t∈prJ r.fro.1 r.thrs ij.1 ij.2,nfI t=some s:=by
 have R:=atY h.lev PP h1 h2;constructor
 ·unfold nxtN;rw[if_pos];unfold axU;rw[List.all_eq_true];intro t ht
  cases e:nfS t with
  | some s=>rfl
  | none=>
   rcases (R none).1 ⟨t,ht,e⟩ with⟨i,hi,t',ht',e'⟩|⟨ij,hij,t',ht',e'⟩
   ·exact absurd e' (g1 i hi t' ht')
   ·exact absurd e' (g2 ij hij t' ht')
 ·intro s;rw[(ahI h).2,<-R (some s)];unfold rawN;rw[List.mem_filterMap]
theorem ao7 {r:Tm}(h:NfS r){t:Tm}(hn:nfI t=none)(ht:(∃i,i<r.thrs.length/\t∈prI r.fro.1 r.thrs i)\/∃i j,i≠j/\i<r.thrs.length/\j<r.thrs.length/\t∈prJ r.fro.1 r.thrs i j):nxtN r=none:=by
 obtain⟨t',a,b⟩:∃t',Stp r.fro.1 r.thrs t'/\nfS t'=nfI t:=by
  rcases ht with⟨i,hi,ht⟩|⟨i,j,hij,hi,hj,ht⟩
  ·exact(ao4 h.lev (getD_some hi) ht).2
  ·exact(ao5 h.lev hij (getD_some hi) (getD_some hj) ht).2
 unfold nxtN;rw[if_neg];unfold axU;rw[List.all_eq_true];intro hh;have:=hh t' ((acL h.lev t').2 a);rw[b,hn]at this
 cases this
theorem aiQ {r:Tm}(h:NfS r){t:Tm}(ht:(∃i,i<r.thrs.length/\t∈prI r.fro.1 r.thrs i)\/∃i j,i≠j/\i<r.thrs.length/\j<r.thrs.length/\t∈prJ r.fro.1 r.thrs i j):Fine7 t:=by
 rcases ht with⟨i,hi,ht⟩|⟨i,j,hij,hi,hj,ht⟩
 ·exact(ao4 h.lev (getD_some hi) ht).1
 ·exact(ao5 h.lev hij (getD_some hi) (getD_some hj) ht).1
theorem ao8 {r:Tm}(h:NfS r){t:Tm}(ht:t∈outs r.fro.1 r.thrs):Fine7 t:=akF h.lev ((acL h.lev t).1 ht)
theorem akJ (T:Tm):2 * (offs T).length<=T.size:=by
 induction T with
 | snd a b p ih=>have:=aao p;simp[offs,Tm.size];omega
 | rcv a x p ih=>have:=aao p;simp[offs,Tm.size];omega
 | tau p ih=>have:=aao p;simp[offs,Tm.size];omega
 | sum p q ih ih2=>simp only[offs,lla,Tm.size];omega
 | rep p ih=>simp only[offs,List.length_map,Tm.size];omega
 | _=>simp[offs]
theorem al7 (us:List Tm):(List.range us.length).map (fun i=>us.getD i .nil)=us:=by
 refine List.ext_getElem (by simp) fun i h1 h2=>?_;simp only[List.getElem_map,List.getElem_range];rw[List.getD_eq_getElem?_getD,List.getElem?_eq_getElem h2];rfl
theorem aiR (f:Tm->Nat)(us:List Tm):((List.range us.length).map fun i=>f (us.getD i .nil)).sum=(us.map f).sum:=by
 have:=congrArg (fun l=>(List.map f l).sum) (al7 us);simp only[List.map_map]at this
 exact this
theorem akK {α:Type}{f g:α->Nat}:∀l:List α,(∀a∈l,f a<=g a)->(l.map f).sum<=(l.map g).sum:=by
 intro l;induction l with
 | nil=>intro _;simp
 | cons a l ih=>
  intro h;have h1:=h a (by simp);have h2:=ih fun b hb=>h b (by simp[hb]);simp only[List.map_cons,List.sum_cons];omega
theorem ao9 {α:Type}(k:Nat):∀l:List α,(l.map fun _=>k).sum=l.length * k:=by
 intro l;induction l with
 | nil=>simp
 | cons a l ih=>simp only[List.map_cons,List.sum_cons,List.length_cons];rw[ih,Nat.add_mul];omega
theorem ao_ (f:Tm->Nat)(k:Nat):∀l:List Tm,(l.map fun T=>f T * k).sum=(l.map f).sum * k:=by
 intro l;induction l with
 | nil=>simp
 | cons a l ih=>simp only[List.map_cons,List.sum_cons];rw[ih,Nat.add_mul]
theorem akL {fr:List UInt8}{us:List Tm}(h:Lev fr us):(outs fr us).length<=900:=by
 generalize hN:(us.map fun T=>(offs T).length).sum=N
 have hN2:2 * N<=60:=by
  have h1:=akK (f:=fun T:Tm=>2 * (offs T).length) (g:=Tm.size) us fun T _=>akJ T;have h2:=ao_ (fun T=>(offs T).length) 2 us;have h3:(us.map fun T=>2 * (offs T).length)=us.map fun T=>(offs T).length * 2:=by congr 1;funext T;omega
  rw[h3,h2,hN]at h1;have:=h.sz
  by_cases e:us=[]
  ·subst e;simp at hN;omega
  ·have:1<=us.length:=by cases us;exact absurd rfl e;simp
   omega
 have hJ:∀i o,((List.range us.length).flatMap (aiP fr us i o)).length<=N:=fun i o=>by
  rw[List.length_flatMap,<-hN,<-aiR (fun T=>(offs T).length)];refine akK _ fun j _=>?_;unfold aiP
  split
  ·simp
  ·rw[List.length_map];exact List.length_filter_le _ _
 have hO:∀i o,1<=N->(ad_ fr us i o).length<=N:=fun i o h1=>by
  unfold ad_
  split
  ·simpa using h1
  ·split
   ·exact hJ i o
   ·simp
 unfold outs;rw[List.length_flatMap]
 have h1:((List.range us.length).map fun i=>((offs (us.getD i .nil)).flatMap (ad_ fr us i)).length).sum<=((List.range us.length).map fun i=>(offs (us.getD i .nil)).length * N).sum:=by
  refine akK _ fun i hi=>?_;rw[List.length_flatMap,<-ao9];refine akK _ fun o ho=>hO i o ?_;have hi:=List.mem_range.1 hi;have h3:(offs (us.getD i .nil)).length<=_:=ac1 (f:=fun T=>(offs T).length) (List.mem_of_getElem? (getD_some hi));have h4:1<=(offs (us.getD i .nil)).length:=List.length_pos_of_mem ho;omega
 have h2:=aiR (fun T=>(offs T).length * N) us;rw[ao_,hN]at h2;rw[h2]at h1;have h5:N * N<=30 * 30:=Nat.mul_le_mul (by omega) (by omega);omega
def TxA (W:World)(g:Nat)(ls:List Tm):Prop:=∀j (h:j<ls.length),W.cell? ⟨g,j,none⟩=some (.string (S ls[j]))
theorem TxA.below {W W':World}{g:Nat}{ls:List Tm}(h:TxA W g ls)(k:Zb W W'):TxA W' g ls:=fun j hj=>(k.cell (p:=⟨g,j,none⟩) (aad (h j hj))).trans (h j hj)
theorem ajD (us:List Tm)(i j:Nat):∀k,(woF k us i j).length<=us.length:=by
 induction us with
 | nil=>intro k;simp[woF]
 | cons a l ih=>intro k;have:=ih (k+1);simp only[woF];split<;>simp only[List.length_cons]<;>omega
theorem arA {us:List Tm}{i j k:Nat}(h:k<us.length):woF 0 (us.take (k+1)) i j=woF 0 (us.take k) i j++(if k=i\/k=j then [] else [us[k]]):=by
 rw[List.take_succ_eq_append_getElem h,ahF];congr 1;simp only[woF,List.length_take,Nat.zero_add];rw[Nat.min_eq_left (by omega)]
theorem awF (us:List Tm)(i j g cap:Nat)(hl:us.length<=1000)(hi0:i<=1000)(hj0:j<=1000)(w:World)(hT0:TxA w g us) : Calls prog 76 #[.slice (some ⟨g,0,none⟩) us.length cap,.int .i64 (i:Int),.int .i64 (j:Int)] w fun e w'=>∃v,e=.returned v/\w'.ownsRow w.heap.size 9 1 v (woF 0 us i j).length ((woF 0 us i j).map fun t=>Value.string (S t))/\Zb w w':=by
 obtain⟨i0,hi,hz0,hz1,hz2⟩:=info_parts Tryz.infoS;have HT:=qz hT0;clear hT0
 go_enter func76,ntmps76
 go_wp2_with fail
 go_loopw [7,12] (fun v c wr=>∃k:Nat,k<=us.length/\c=.int .i64 (k:Int)/\Hid (wr.ownsRow w.heap.size 9 1 v (woF 0 (us.take k) i j).length ((woF 0 (us.take k) i j).map fun t=>Value.string (S t)))/\Zb w wr) (fun _ c _=>us.length - (intOf c).toNat)
 case atStart=>exact⟨0,Nat.zero_le _,rfl,World.ownsRow_nil _ _ _ _,Below.refl _ _⟩
 case round=>
  obtain⟨k,hk,rfl,hown,hbw⟩:=hrel
  by_cases hlt:k<us.length
  ·obtain⟨T,hTk⟩:∃T,T=us[k]:=⟨_,rfl⟩;have c1:wr.cell? ⟨g,k,none⟩=some (.string (S T)):=by rw[hTk];exact(HT.out.below hbw) k hlt
   have hwl:=ajD (us.take k) i j 0;have hwl2:(us.take k).length=k:=by rw[List.length_take];omega
   have hsz:=hbw.size;have HK:=qz hTk;have NX:=qz (arA (i:=i) (j:=j) hlt);clear hTk
   by_cases e1:k=i
   ·subst e1
    have hfin:Hid (wr.ownsRow w.heap.size 9 1 u7 (woF 0 (us.take (k+1)) k j).length ((woF 0 (us.take (k+1)) k j).map fun t=>Value.string (S t))):=by
     rw[NX.out,if_pos (.inl rfl),List.append_nil];exact hown
    clear hown;go_wp2_with fail
    go_roundw
    case rel=>exact⟨k+1,by omega,by push_cast;rfl,hfin,hbw⟩
    case measure=>simp[intOf];omega
   ·by_cases e2:k=j
    ·subst e2;have e1':¬((k:Int)=(i:Int)):=by omega
     have hfin:Hid (wr.ownsRow w.heap.size 9 1 u7 (woF 0 (us.take (k+1)) i k).length ((woF 0 (us.take (k+1)) i k).map fun t=>Value.string (S t))):=by
      rw[NX.out,if_pos (.inr rfl),List.append_nil];exact hown
     clear hown e1;go_wp2_with fail
     go_roundw
     case rel=>exact⟨k+1,by omega,by push_cast;rfl,hfin,hbw⟩
     case measure=>simp[intOf];omega
    ·have e1':¬((k:Int)=(i:Int)):=by omega
     have e2':¬((k:Int)=(j:Int)):=by omega
     have b1:((k:Int) != (i:Int))=true:=by simpa using e1'
     have b2:((k:Int) != (j:Int))=true:=by simpa using e2'
     have E1:=qz e1;have E2:=qz e2;clear e1 e2
     go_wp2_with (at_builtin;refine wpList_append_own_at _ rfl (.tmp 25) (.tmp 27) 22 rfl w.heap.size 9 i0 (.string ⟨#[]⟩) 1 16 underlying22 hi hz0 hz1 hz2 rfl (by decide) _ _ _ rfl (hown.out.alloc _) ⟨wr.heap.size,0,none⟩ 1 1 [.string (S T)] rfl rfl (aaR wr [.string (S T)] 9) (fun u hu=>by simp at hu;subst hu;rfl) ?c2 ?c3 ?c4 ?_)
     case c2=>unfold maxLen;omega
     case c3=>omega
     case c4=>simp;omega
     intro v1 w1 hown1 hgrow1 _ hat;have hbw1:Zb w w1:=Below.grown (hbw.alloc hsz _) hgrow1 (by simp;omega) (fun i hi=>(hown.out.lt i hi).1)
     have hfin:Hid (w1.ownsRow w.heap.size 9 1 v1 (woF 0 (us.take (k+1)) i j).length ((woF 0 (us.take (k+1)) i j).map fun t=>Value.string (S t))):=by
      rw[NX.out,if_neg (fun h=>h.elim E1.out E2.out),<-HK.out,List.map_append,lla];exact hown1
     clear hown1 hgrow1 hat hown;go_wp2_with fail
     go_roundw
     case rel=>exact⟨k+1,by omega,by push_cast;rfl,hfin,hbw1⟩
     case measure=>simp[intOf];omega
  ·obtain rfl:k=us.length:=by omega
   have hfin:=hown.out;rw[List.take_length]at hfin;clear hown;go_wp2_with fail;go_ret;exact⟨_,rfl,hfin,hbw⟩
end Go.Proofs.YtihmcgcgjmbmhaaGreat.T1
namespace Go.Proofs
open Go.Shelf
def Tryz.lays128_ren:Go.Shelf.Ren:=⟨fun|128=>190|n=>n,fun|51=>77|3=>3|4=>4|46=>196|5=>5|9=>9|n=>n,fun|n=>n⟩
theorem Tryz.lays128:Go.Proofs.Lays.n128 prog Tryz.lays128_ren:={
 mixed:=by kernel_rfl
 f128:=func190.trans (congrArg some (by kernel_rfl))
 t3:=underlying3
 a3:=Tryz.isAgg3
 z3:=Tryz.sizeOf3
 v3:=Tryz.zeroValue3
 t4:=underlying4
 a4:=Tryz.isAgg4
 z4:=Tryz.sizeOf4
 v4:=Tryz.zeroValue4
 t5:=underlying5
 a5:=Tryz.isAgg5
 z5:=Tryz.sizeOf5
 v5:=Tryz.zeroValue5
 t9:=underlying9
 a9:=Tryz.isAgg9
 z9:=Tryz.sizeOf9
 v9:=Tryz.zeroValue9
 t46:=underlying196
 a46:=Tryz.isAgg196
 z46:=Tryz.sizeOf196
 v46:=Tryz.zeroValue196
 t51:=underlying77
 a51:=Tryz.isAgg77
 z51:=Tryz.sizeOf77
 v51:=Tryz.zeroValue77 }
theorem Tryz.bits_Len32 (x:Int)(w:World)(h0:0<=x)(h1:x<=4294967295) :
  Calls prog 190 #[.int .u32 x] w fun e w'=>e=.returned (.int .i64 (Lib.bitLen x.toNat))/\w'=w:=Any.bits_Len32 Tryz.lays128 x w h0 h1
def Tryz.lays125_ren:Go.Shelf.Ren:=⟨fun|125=>164|128=>190|129=>191|n=>n,fun|46=>196|3=>3|51=>77|53=>218|4=>4|5=>5|9=>9|n=>n,fun|n=>n⟩
theorem Tryz.lays125:Go.Proofs.Lays.n125 prog Tryz.lays125_ren:={
 mixed:=by kernel_rfl
 f125:=func164.trans (congrArg some (by kernel_rfl))
 f128:=func190.trans (congrArg some (by kernel_rfl))
 f129:=func191.trans (congrArg some (by kernel_rfl))
 t3:=underlying3
 a3:=Tryz.isAgg3
 z3:=Tryz.sizeOf3
 v3:=Tryz.zeroValue3
 t4:=underlying4
 a4:=Tryz.isAgg4
 z4:=Tryz.sizeOf4
 v4:=Tryz.zeroValue4
 t5:=underlying5
 a5:=Tryz.isAgg5
 z5:=Tryz.sizeOf5
 v5:=Tryz.zeroValue5
 t9:=underlying9
 a9:=Tryz.isAgg9
 z9:=Tryz.sizeOf9
 v9:=Tryz.zeroValue9
 t46:=underlying196
 a46:=Tryz.isAgg196
 z46:=Tryz.sizeOf196
 v46:=Tryz.zeroValue196
 t51:=underlying77
 a51:=Tryz.isAgg77
 z51:=Tryz.sizeOf77
 v51:=Tryz.zeroValue77
 t53:=underlying218
 a53:=Tryz.isAgg218
 z53:=Tryz.sizeOf218
 v53:=Tryz.zeroValue218 }
theorem Tryz.bits_Len (x:Int)(w:World)(h0:0<=x)(h1:x<=18446744073709551615) :
  Calls prog 164 #[.int .u64 x] w fun e w'=>e=.returned (.int .i64 (Lib.bitLen x.toNat))/\w'=w:=Any.bits_Len Tryz.lays125 x w h0 h1
def Tryz.lays129_ren:Go.Shelf.Ren:=⟨fun|129=>191|n=>n,fun|53=>218|3=>3|4=>4|46=>196|5=>5|9=>9|n=>n,fun|n=>n⟩
theorem Tryz.lays129:Go.Proofs.Lays.n129 prog Tryz.lays129_ren:={
 mixed:=by kernel_rfl
 f129:=func191.trans (congrArg some (by kernel_rfl))
 t3:=underlying3
 a3:=Tryz.isAgg3
 z3:=Tryz.sizeOf3
 v3:=Tryz.zeroValue3
 t4:=underlying4
 a4:=Tryz.isAgg4
 z4:=Tryz.sizeOf4
 v4:=Tryz.zeroValue4
 t5:=underlying5
 a5:=Tryz.isAgg5
 z5:=Tryz.sizeOf5
 v5:=Tryz.zeroValue5
 t9:=underlying9
 a9:=Tryz.isAgg9
 z9:=Tryz.sizeOf9
 v9:=Tryz.zeroValue9
 t46:=underlying196
 a46:=Tryz.isAgg196
 z46:=Tryz.sizeOf196
 v46:=Tryz.zeroValue196
 t53:=underlying218
 a53:=Tryz.isAgg218
 z53:=Tryz.sizeOf218
 v53:=Tryz.zeroValue218 }
theorem Tryz.bits_Len64 (x:Int)(w:World)(h0:0<=x)(h1:x<=18446744073709551615) :
  Calls prog 191 #[.int .u64 x] w fun e w'=>e=.returned (.int .i64 (Lib.bitLen x.toNat))/\w'=w:=Any.bits_Len64 Tryz.lays129 x w h0 h1
def Tryz.lays190_ren:Go.Shelf.Ren:=⟨fun|190=>107|125=>164|258=>163|128=>190|129=>191|302=>181|303=>182|304=>183|305=>184|306=>185|307=>186|308=>187|309=>188|310=>189|333=>202|329=>203|330=>204|334=>205|335=>206|336=>207|344=>219|n=>n,fun|31=>22|9=>9|3=>3|46=>196|0=>0|51=>77|53=>218|4=>4|183=>211|182=>210|131=>28|5=>5|218=>226|222=>230|228=>238|229=>239|n=>n,fun|n=>n⟩
theorem Tryz.lays190:Go.Proofs.Lays.n190 prog Tryz.lays190_ren:={
 mixed:=by kernel_rfl
 f125:=func164.trans (congrArg some (by kernel_rfl))
 f128:=func190.trans (congrArg some (by kernel_rfl))
 f129:=func191.trans (congrArg some (by kernel_rfl))
 f190:=func107.trans (congrArg some (by kernel_rfl))
 f258:=func163.trans (congrArg some (by kernel_rfl))
 f302:=func181.trans (congrArg some (by kernel_rfl))
 f303:=func182.trans (congrArg some (by kernel_rfl))
 f304:=func183.trans (congrArg some (by kernel_rfl))
 f305:=func184.trans (congrArg some (by kernel_rfl))
 f306:=func185.trans (congrArg some (by kernel_rfl))
 f307:=func186.trans (congrArg some (by kernel_rfl))
 f308:=func187.trans (congrArg some (by kernel_rfl))
 f309:=func188.trans (congrArg some (by kernel_rfl))
 f310:=func189.trans (congrArg some (by kernel_rfl))
 f329:=func203.trans (congrArg some (by kernel_rfl))
 f330:=func204.trans (congrArg some (by kernel_rfl))
 f333:=func202.trans (congrArg some (by kernel_rfl))
 f334:=func205.trans (congrArg some (by kernel_rfl))
 f335:=func206.trans (congrArg some (by kernel_rfl))
 f336:=func207.trans (congrArg some (by kernel_rfl))
 f344:=func219.trans (congrArg some (by kernel_rfl))
 t0:=underlying0
 a0:=Tryz.isAgg0
 z0:=Tryz.sizeOf0
 v0:=Tryz.zeroValue0
 t3:=underlying3
 a3:=Tryz.isAgg3
 z3:=Tryz.sizeOf3
 v3:=Tryz.zeroValue3
 t4:=underlying4
 a4:=Tryz.isAgg4
 z4:=Tryz.sizeOf4
 v4:=Tryz.zeroValue4
 t5:=underlying5
 a5:=Tryz.isAgg5
 z5:=Tryz.sizeOf5
 v5:=Tryz.zeroValue5
 t9:=underlying9
 a9:=Tryz.isAgg9
 z9:=Tryz.sizeOf9
 v9:=Tryz.zeroValue9
 t31:=underlying22
 a31:=Tryz.isAgg22
 z31:=Tryz.sizeOf22
 v31:=Tryz.zeroValue22
 t46:=underlying196
 a46:=Tryz.isAgg196
 z46:=Tryz.sizeOf196
 v46:=Tryz.zeroValue196
 t51:=underlying77
 a51:=Tryz.isAgg77
 z51:=Tryz.sizeOf77
 v51:=Tryz.zeroValue77
 t53:=underlying218
 a53:=Tryz.isAgg218
 z53:=Tryz.sizeOf218
 v53:=Tryz.zeroValue218
 t131:=underlying28
 a131:=Tryz.isAgg28
 z131:=Tryz.sizeOf28
 v131:=Tryz.zeroValue28
 t182:=underlying210
 a182:=Tryz.isAgg210
 z182:=Tryz.sizeOf210
 v182:=Tryz.zeroValue210
 t183:=underlying211
 a183:=Tryz.isAgg211
 z183:=Tryz.sizeOf211
 v183:=Tryz.zeroValue211
 t218:=underlying226
 a218:=Tryz.isAgg226
 z218:=Tryz.sizeOf226
 v218:=Tryz.zeroValue226
 t222:=underlying230
 a222:=Tryz.isAgg230
 z222:=Tryz.sizeOf230
 v222:=Tryz.zeroValue230
 t228:=underlying238
 a228:=Tryz.isAgg238
 z228:=Tryz.sizeOf238
 v228:=Tryz.zeroValue238
 t229:=underlying239
 a229:=Tryz.isAgg239
 z229:=Tryz.sizeOf239
 v229:=Tryz.zeroValue239 }
open Go.Sort Go.RowKit in
theorem Tryz.slices_Sort_string (blk off cap:Nat)(ss:List (List UInt8))(w:World)(hH:Holds encStr w blk off ss.toArray)(hblk:blk<w.heap.size)(hsz:ss.length<4611686018427387904) :
  Calls prog 107 #[.slice (some ⟨blk,off,none⟩) ss.length cap] w fun e w'=>
   e=.returned (.tuple #[])/\∃n os,w'=grow (putRow encStr (Sort.ahead w n) blk off (ss.mergeSort fun x y=>decide (x<=y)).toArray) os:=Any.slices_Sort_string Tryz.lays190 blk off cap ss w hH hblk hsz
open Go.RowKit Go.Sort in
theorem Tryz.slices_Sort_string_none (p:Option Addr)(cap:Nat)(w:World) :
  Calls prog 107 #[.slice p 0 cap] w fun e w'=>e=.returned (.tuple #[])/\w'=w:=Any.slices_Sort_string_none Tryz.lays190 p cap w
def Tryz.laysRev_ren:Go.Shelf.Ren:=⟨fun|35=>200|n=>n,fun|22=>73|23=>5|3=>3|4=>4|0=>0|n=>n,fun|n=>n⟩
theorem Tryz.laysRev:Go.Proofs.SlLaysE.n35 prog Tryz.laysRev_ren:={
 mixed:=by kernel_rfl
 f35:=⟨f200.name,by decide,func200.trans (congrArg some (by kernel_rfl))⟩
 t0:=underlying0
 a0:=Tryz.isAgg0
 z0:=Tryz.sizeOf0
 v0:=Tryz.zeroValue0
 t3:=underlying3
 a3:=Tryz.isAgg3
 z3:=Tryz.sizeOf3
 v3:=Tryz.zeroValue3
 t4:=underlying4
 a4:=Tryz.isAgg4
 z4:=Tryz.sizeOf4
 v4:=Tryz.zeroValue4
 t22:=underlying73
 a22:=Tryz.isAgg73
 z22:=Tryz.sizeOf73
 v22:=Tryz.zeroValue73
 a23:=Tryz.isAgg5
 z23:=Tryz.sizeOf5 }
def Tryz.laysCln_ren:Go.Shelf.Ren:=⟨fun|41=>176|n=>n,fun|22=>73|23=>5|4=>4|n=>n,fun|n=>n⟩
theorem Tryz.laysCln:Go.Proofs.SlLaysE0.n41 prog Tryz.laysCln_ren:={
 mixed:=by kernel_rfl
 f41:=⟨f176.name,by decide,func176.trans (congrArg some (by kernel_rfl))⟩
 t4:=underlying4
 a4:=Tryz.isAgg4
 z4:=Tryz.sizeOf4
 v4:=Tryz.zeroValue4
 t22:=underlying73
 a22:=Tryz.isAgg73
 z22:=Tryz.sizeOf73
 v22:=Tryz.zeroValue73 }
end Go.Proofs
namespace Go.Proofs.YtihmcgcgjmbmhaaGreat.T1
open Go.Proofs.Tryz
set_option maxHeartbeats 8000000
open Go.RowKit
set_option maxRecDepth 100000
set_option linter.unusedVariables false
set_option linter.unusedSimpArgs false
open Go.Sort (Holds putRow putCells swp ahead)
theorem ayJ:ax9:=fun g k c zs w hH hz=>AnyE.slices_Reverse Tryz.laysRev ub (fun _=>rfl) g k c zs w hH (by omega)
def sv (t:Tm):Value:=.string (S t)
theorem asS (ts:List Tm):ts.map sv=(ts.map Tm.pr).map encStr:=by rw[List.map_map];rfl
theorem at3 (ts:List Tm):((ts.map Tm.pr).mergeSort fun x y=>decide (x<=y))=(srtT ts).map Tm.pr:=by
 unfold srtT;exact(List.map_mergeSort (r:=fun a b:Tm=>decide (a.pr<=b.pr)) (s:=fun x y:List UInt8=>decide (x<=y)) (f:=Tm.pr) (fun a _ b _=>rfl)).symm
theorem ax_ (ts:List Tm)(v:Value)(n base:Nat)(w:World)(h:w.ownsRow base 9 1 v n (ts.map sv))(hn:n<=1000) : Calls prog 107 #[v] w fun e w'=>e=.returned (.tuple #[])/\w'.ownsRow base 9 1 v n ((srtT ts).map sv)/\w.grownBy w' v.ownBlock:=by
 have hl:=h.1;rw[List.length_map,Nat.mul_one]at hl;rcases h.2 with⟨rfl,rfl⟩|⟨g,cap,cur,rfl,h2,h3,h4,h5,h6,h7⟩
 ·have ht:ts=[]:=List.length_eq_zero_iff.1 hl;subst ht;refine(Tryz.slices_Sort_string_none none 0 w).mono ?_;rintro e w' ⟨rfl,rfl⟩;refine⟨rfl,?_,⟨rfl,rfl,rfl,nl _,fun _ _ _=>rfl⟩⟩;have:srtT ([]:List Tm)=[]:=List.length_eq_zero_iff.1 (adb []);rw[this];exact h
 ·subst hl;rw[Nat.mul_one,asS]at h7;have hlen:(ts.map Tm.pr).length=ts.length:=List.length_map _;have hH:Holds encStr w g 0 (ts.map Tm.pr).toArray:=adv encStr h3 (by rw[hlen];exact h7);have:=Tryz.slices_Sort_string g 0 cap (ts.map Tm.pr) w hH (lt_of_block h3) (by rw[hlen];omega);rw[hlen,at3]at this
  refine this.mono ?_
  rintro e w' ⟨rfl,q,os,rfl⟩;refine⟨rfl,?_,grownBy_sorted _⟩;have h8:=ownsRow_sorted (n:=q) (os:=os) (ss:=ts.map Tm.pr) (ts:=(srtT ts).map Tm.pr) (base:=base) (g:=g) (cap:=cap) (cur:=cur) (e:=9) (w:=w) (by rw[List.length_map,List.length_map,adb]) h2 h3 (by rw[hlen];exact h4) h5 h6;rw[hlen,<-asS]at h8;exact h8
theorem awG (fs:List UInt8)(v:Value)(n base:Nat)(w:World)(h:w.ownsRow base 5 1 v n (fs.map ub))(hn:n<=1000) : Calls prog 176 #[v] w fun e w'=>∃v',e=.returned v'/\w'.ownsRow w.heap.size 5 1 v' n (fs.map ub)/\Zb w w':=by
 obtain⟨i0,hi,hz0,hz1,hz2⟩:=info_parts Tryz.infoU8;have hl:=h.1;rw[List.length_map,Nat.mul_one]at hl;rcases h.2 with⟨rfl,rfl⟩|⟨g,cap,cur,rfl,h2,h3,h4,h5,h6,h7⟩
 ·refine(AnyE.slices_Clone_nil Tryz.laysCln 0 0 w).mono ?_;rintro e w' ⟨rfl,rfl⟩;have ht:fs=[]:=List.length_eq_zero_iff.1 hl;subst ht;exact⟨_,rfl,World.ownsRow_nil _ _ _ _,Below.refl _ _⟩
 ·refine(AnyE.slices_Clone Tryz.laysCln i0 (.int .u8 0) 1 1 hi hz0 hz1 hz2 rfl (by decide) Tryz.sizeOf5 g 0 n cap (fs.map ub) w (by rw[List.length_map,Nat.mul_one];exact hl) (by unfold maxLen;omega) (by omega) (fun j u hj=>?_) (acR fs)).mono ?_
  ·have:=ab_ h j u hj;rw[aoW]at this
   rw[Nat.zero_add];exact this
  ·rintro e w' ⟨v',rfl,ho,_,bl⟩;exact⟨v',rfl,ho,bl⟩
theorem at4 (T:TypeId)(V:Value)(o:Int)(w:World) : Calls prog 160 #[.iface T V,.int .u8 o,.int .u8 o] w fun e w'=>e=.returned (.tuple #[.iface T V,.bool true])/\Zb w w':=by
 have hq:((o:Int)==o)=true:=by simp
 go_enter func160,ntmps160
 go_wp2_with fail
 go_quiet (fail)
 go_wp2_with fail;go_ret2;exact⟨rfl,aal (aaw _ _ _) _⟩
theorem apa (T:TypeId)(V:Value)(o m U:Int)(hq:(o==m)=false)  (w:World) (HF:Zr 93 #[.iface T V] (.int .u32 U))(HH:Ze 142 #[.int .u32 U,.int .u8 o] (.bool false)) : Calls prog 160 #[.iface T V,.int .u8 o,.int .u8 m] w fun e w'=>e=.returned (.tuple #[.iface T V,.bool true])/\Zb w w':=by
 have HF':=qz HF;have HH':=qz HH;clear HF HH
 go_enter func160,ntmps160
 go_upto_region 1 with fail
 go_cut [23] (fun s23 wx=>s23=.bool true/\Zb w wx/\wx.cell? ⟨w.heap.size,0,none⟩=some (.int .u8 o)/\wx.cell? ⟨w.heap.size+1,0,none⟩=some (.int .u8 m))
 case first=>
  obtain⟨W,hW⟩:∃W,W=(w.alloc (.cells #[.int .u8 o] 5)).alloc (.cells #[.int .u8 m] 5):=⟨_,rfl⟩;rw[<-hW];have c4:W.cell? ⟨w.heap.size,0,none⟩=some (.int .u8 o):=by rw[hW];exact aac (aaJ _ _ _)
  have c5:W.cell? ⟨w.heap.size+1,0,none⟩=some (.int .u8 m):=by rw[hW];exact aac (aaK _ _ _)
  have bW:Zb w W:=by rw[hW];exact aaw _ _ _
  have hsz:w.heap.size+1<W.heap.size:=aad c5;clear hW
  go_region_with (first|(go_at_call 93;refine(HF'.out _).mono ?_;rintro e v1 ⟨rfl,d1⟩;have q4:=(d1.cell (p:=⟨w.heap.size,0,none⟩) (by simp;omega)).trans c4;have q5:=(d1.cell (p:=⟨w.heap.size+1,0,none⟩) (by simp;omega)).trans c5;have k1:=aaa bW.drew d1)|(go_at_call 142;refine(HH'.out _).mono ?_;rintro e v2 ⟨rfl,rfl⟩))
  all_goals (go_wp2_with fail;go_meet;exact⟨rfl,k1,q4,q5⟩)
 case rest=>
  obtain⟨rfl,bl,c4,c5⟩:=hcut;go_wp2_with fail;go_ret2;exact⟨rfl,bl⟩
theorem aiS (T:TypeId)(V:Value)(o m U:Int)(hq:(o==m)=false)  (w:World) (HF:Zr 93 #[.iface T V] (.int .u32 U))(HH:Ze 142 #[.int .u32 U,.int .u8 o] (.bool true))(HC:Zr 179 #[.iface T V,.int .u8 o,.int .u8 m] (.tuple #[.nilIface,.bool false])) : Calls prog 160 #[.iface T V,.int .u8 o,.int .u8 m] w fun e w'=>e=.returned (.tuple #[.nilIface,.bool false])/\Zb w w':=by
 have HF':=qz HF;have HH':=qz HH;have HC':=qz HC;clear HF HH HC
 go_enter func160,ntmps160
 go_upto_region 1 with fail
 go_cut [23] (fun s23 wx=>s23=.bool false/\Zb w wx/\wx.cell? ⟨w.heap.size,0,none⟩=some (.int .u8 o)/\wx.cell? ⟨w.heap.size+1,0,none⟩=some (.int .u8 m))
 case first=>
  obtain⟨W,hW⟩:∃W,W=(w.alloc (.cells #[.int .u8 o] 5)).alloc (.cells #[.int .u8 m] 5):=⟨_,rfl⟩;rw[<-hW];have c4:W.cell? ⟨w.heap.size,0,none⟩=some (.int .u8 o):=by rw[hW];exact aac (aaJ _ _ _)
  have c5:W.cell? ⟨w.heap.size+1,0,none⟩=some (.int .u8 m):=by rw[hW];exact aac (aaK _ _ _)
  have bW:Zb w W:=by rw[hW];exact aaw _ _ _
  have hsz:w.heap.size+1<W.heap.size:=aad c5;clear hW
  go_region_with (first|(go_at_call 93;refine(HF'.out _).mono ?_;rintro e v1 ⟨rfl,d1⟩;have q4:=(d1.cell (p:=⟨w.heap.size,0,none⟩) (by simp;omega)).trans c4;have q5:=(d1.cell (p:=⟨w.heap.size+1,0,none⟩) (by simp;omega)).trans c5;have k1:=aaa bW.drew d1)|(go_at_call 142;refine(HH'.out _).mono ?_;rintro e v2 ⟨rfl,rfl⟩))
  all_goals (go_wp2_with fail;go_meet;exact⟨rfl,k1,q4,q5⟩)
 case rest=>
  obtain⟨rfl,bl,c4,c5⟩:=hcut;go_wp2_with fail;refine(HC'.out _).mono ?_;rintro e w2 ⟨rfl,b2⟩;replace c4:=(b2.cell (p:=⟨w.heap.size,0,none⟩) (aad c4)).trans c4;replace c5:=(b2.cell (p:=⟨w.heap.size+1,0,none⟩) (aad c5)).trans c5;replace bl:=aaa bl b2;go_wp2_with fail;go_ret2;exact⟨rfl,bl⟩
theorem apb (T:TypeId)(V:Value)(o m U:Int)(hq:(o==m)=false)(T2 T3 T4 tp:TypeId)(V2 V3 V4 vp:Value)(hx:(o != o)=false)(w:World)(hP:∃(F:FuncId) (R:Value),(∀n w,(method (n+1) T2 V2 "loop.example/g01175/impl.parts").run prog w=.ok (F,R) w)/\(∀n w,(nilAhead (n+1) T2 V2 "loop.example/g01175/impl.parts").run prog w=.ok (some false) w)/\(∀args w,(callFunc F args).run prog w=.ok (.enter F args) w)/\∀w,Calls prog F #[R] w fun e w'=>∃b,e=.returned (.slice (some ⟨b,0,none⟩) 1 1)/\w.heap.size<=b/\w'.heap[b]?=some (.cells #[.iface tp vp] 41 (0,0))/\Zb w w') (HF:Zr 93 #[.iface T V] (.int .u32 U))(HH:Ze 142 #[.int .u32 U,.int .u8 o] (.bool true))(HC:Zr 179 #[.iface T V,.int .u8 o,.int .u8 m] (.tuple #[.iface T2 V2,.bool true]))(HB:Zr 144 #[.iface T2 V2] (.tuple #[.int .u8 o,.bool true]))(HW:∀(b:Nat) (w:World),w.cell? ⟨b,0,none⟩=some (.iface tp vp)->Calls prog 135 #[.iface T2 V2,.slice (some ⟨b,0,none⟩) 1 1] w fun e w'=>e=.returned (.iface T3 V3)/\Zb w w')(HU:∀v,v.cell? ⟨w.heap.size,0,none⟩=some (.int .u8 o)->v.cell? ⟨w.heap.size+1,0,none⟩=some (.int .u8 m)->Calls prog 172 #[.iface T3 V3,.func (.func 180) #[] #[.pointer (some ⟨w.heap.size,0,none⟩),.pointer (some ⟨w.heap.size+1,0,none⟩)]] v fun e v'=>e=.returned (.iface T4 V4)/\Zb v v') : Calls prog 160 #[.iface T V,.int .u8 o,.int .u8 m] w fun e w'=>e=.returned (.tuple #[.iface T4 V4,.bool true])/\Zb w w':=by
 obtain⟨F,RR,hm,hn,hc,hp⟩:=hP;have HP:=qz hp;clear hp;have HF':=qz HF;have HH':=qz HH;have HC':=qz HC;have HB':=qz HB;have HW':=qz HW;have HU':=qz HU;clear HF HH HC HB HW HU
 go_enter func160,ntmps160
 go_upto_region 1 with fail
 go_cut [23] (fun s23 wx=>s23=.bool false/\Zb w wx/\wx.cell? ⟨w.heap.size,0,none⟩=some (.int .u8 o)/\wx.cell? ⟨w.heap.size+1,0,none⟩=some (.int .u8 m))
 case first=>
  obtain⟨W,hW⟩:∃W,W=(w.alloc (.cells #[.int .u8 o] 5)).alloc (.cells #[.int .u8 m] 5):=⟨_,rfl⟩;rw[<-hW];have c4:W.cell? ⟨w.heap.size,0,none⟩=some (.int .u8 o):=by rw[hW];exact aac (aaJ _ _ _)
  have c5:W.cell? ⟨w.heap.size+1,0,none⟩=some (.int .u8 m):=by rw[hW];exact aac (aaK _ _ _)
  have bW:Zb w W:=by rw[hW];exact aaw _ _ _
  have hsz:w.heap.size+1<W.heap.size:=aad c5;clear hW
  go_region_with (first|(go_at_call 93;refine(HF'.out _).mono ?_;rintro e v1 ⟨rfl,d1⟩;have q4:=(d1.cell (p:=⟨w.heap.size,0,none⟩) (by simp;omega)).trans c4;have q5:=(d1.cell (p:=⟨w.heap.size+1,0,none⟩) (by simp;omega)).trans c5;have k1:=aaa bW.drew d1)|(go_at_call 142;refine(HH'.out _).mono ?_;rintro e v2 ⟨rfl,rfl⟩))
  all_goals (go_wp2_with fail;go_meet;exact⟨rfl,k1,q4,q5⟩)
 case rest=>
  obtain⟨rfl,bl,c4,c5⟩:=hcut;go_wp2_with fail;refine(HC'.out _).mono ?_;rintro e w2 ⟨rfl,b2⟩;replace c4:=(b2.cell (p:=⟨w.heap.size,0,none⟩) (aad c4)).trans c4;replace c5:=(b2.cell (p:=⟨w.heap.size+1,0,none⟩) (aad c5)).trans c5;replace bl:=aaa bl b2;go_wp2_with fail;refine(HP.out _).mono ?_;rintro e w3 ⟨b,rfl,hb,hh,b3⟩;have hkb:w.heap.size+1<b:=Nat.lt_of_lt_of_le (aad c5) hb;replace c4:=(b3.cell (p:=⟨w.heap.size,0,none⟩) (aad c4)).trans c4;replace c5:=(b3.cell (p:=⟨w.heap.size+1,0,none⟩) (aad c5)).trans c5;replace bl:=aaa bl b3;clear hb;have Hh:=qz hh;clear hh;go_wp2_with fail;refine(HB'.out _).mono ?_;rintro e w4 ⟨rfl,b4⟩;replace c4:=(b4.cell (p:=⟨w.heap.size,0,none⟩) (aad c4)).trans c4;replace c5:=(b4.cell (p:=⟨w.heap.size+1,0,none⟩) (aad c5)).trans c5;replace bl:=aaa bl b4;have hh:=(b4.block b (lt_of_block Hh.out)).trans Hh.out;have d0:=aac hh;have f0:=free_of_one hh;have g4:=qz hh;clear hh Hh;have d1:=qz d0;clear f0;go_wp2_with fail;refine(HW'.out b _ d0).mono ?_;rintro e w8 ⟨rfl,b8⟩;replace c4:=(b8.cell (p:=⟨w.heap.size,0,none⟩) (aad c4)).trans c4;replace c5:=(b8.cell (p:=⟨w.heap.size+1,0,none⟩) (aad c5)).trans c5;replace bl:=aaa bl b8;go_wp2_with fail;refine(HU'.out _ c4 c5).mono ?_;rintro e w9 ⟨rfl,b9⟩;replace bl:=aaa bl b9;go_wp2_with fail;go_ret2;exact⟨rfl,bl⟩
theorem akM (T:TypeId)(V:Value)(o m U:Int)(hq:(o==m)=false)(T2 T3 T4 tp:TypeId)(V2 V3 V4 vp:Value)(tr:TypeId)(vr:Value)(w:World)(hP:∃(F:FuncId) (R:Value),(∀n w,(method (n+1) T2 V2 "loop.example/g01175/impl.parts").run prog w=.ok (F,R) w)/\(∀n w,(nilAhead (n+1) T2 V2 "loop.example/g01175/impl.parts").run prog w=.ok (some false) w)/\(∀args w,(callFunc F args).run prog w=.ok (.enter F args) w)/\∀w,Calls prog F #[R] w fun e w'=>∃b,e=.returned (.slice (some ⟨b,0,none⟩) 1 1)/\w.heap.size<=b/\w'.heap[b]?=some (.cells #[.iface tp vp] 41 (0,0))/\Zb w w') (HF:Zr 93 #[.iface T V] (.int .u32 U))(HH:Ze 142 #[.int .u32 U,.int .u8 o] (.bool true))(HC:Zr 179 #[.iface T V,.int .u8 o,.int .u8 m] (.tuple #[.iface T2 V2,.bool true]))(HB:Zr 144 #[.iface T2 V2] (.tuple #[.int .u8 0,.bool false]))(IH:Zr 160 #[.iface tp vp,.int .u8 o,.int .u8 m] (.tuple #[.iface tr vr,.bool true]))(HW:∀(b:Nat) (w:World),w.cell? ⟨b,0,none⟩=some (.iface tr vr)->Calls prog 135 #[.iface T2 V2,.slice (some ⟨b,0,none⟩) 1 1] w fun e w'=>e=.returned (.iface T3 V3)/\Zb w w')(HU:∀v,v.cell? ⟨w.heap.size,0,none⟩=some (.int .u8 o)->v.cell? ⟨w.heap.size+1,0,none⟩=some (.int .u8 m)->Calls prog 172 #[.iface T3 V3,.func (.func 180) #[] #[.pointer (some ⟨w.heap.size,0,none⟩),.pointer (some ⟨w.heap.size+1,0,none⟩)]] v fun e v'=>e=.returned (.iface T4 V4)/\Zb v v') : Calls prog 160 #[.iface T V,.int .u8 o,.int .u8 m] w fun e w'=>e=.returned (.tuple #[.iface T4 V4,.bool true])/\Zb w w':=by
 obtain⟨F,RR,hm,hn,hc,hp⟩:=hP;have HP:=qz hp;clear hp;have HF':=qz HF;have HH':=qz HH;have HC':=qz HC;have HB':=qz HB;have IH':=qz IH;have HW':=qz HW;have HU':=qz HU;clear HF HH HC HB IH HW HU
 go_enter func160,ntmps160
 go_upto_region 1 with fail
 go_cut [23] (fun s23 wx=>s23=.bool false/\Zb w wx/\wx.cell? ⟨w.heap.size,0,none⟩=some (.int .u8 o)/\wx.cell? ⟨w.heap.size+1,0,none⟩=some (.int .u8 m))
 case first=>
  obtain⟨W,hW⟩:∃W,W=(w.alloc (.cells #[.int .u8 o] 5)).alloc (.cells #[.int .u8 m] 5):=⟨_,rfl⟩;rw[<-hW];have c4:W.cell? ⟨w.heap.size,0,none⟩=some (.int .u8 o):=by rw[hW];exact aac (aaJ _ _ _)
  have c5:W.cell? ⟨w.heap.size+1,0,none⟩=some (.int .u8 m):=by rw[hW];exact aac (aaK _ _ _)
  have bW:Zb w W:=by rw[hW];exact aaw _ _ _
  have hsz:w.heap.size+1<W.heap.size:=aad c5;clear hW
  go_region_with (first|(go_at_call 93;refine(HF'.out _).mono ?_;rintro e v1 ⟨rfl,d1⟩;have q4:=(d1.cell (p:=⟨w.heap.size,0,none⟩) (by simp;omega)).trans c4;have q5:=(d1.cell (p:=⟨w.heap.size+1,0,none⟩) (by simp;omega)).trans c5;have k1:=aaa bW.drew d1)|(go_at_call 142;refine(HH'.out _).mono ?_;rintro e v2 ⟨rfl,rfl⟩))
  all_goals (go_wp2_with fail;go_meet;exact⟨rfl,k1,q4,q5⟩)
 case rest=>
  obtain⟨rfl,bl,c4,c5⟩:=hcut;go_wp2_with fail;refine(HC'.out _).mono ?_;rintro e w2 ⟨rfl,b2⟩;replace c4:=(b2.cell (p:=⟨w.heap.size,0,none⟩) (aad c4)).trans c4;replace c5:=(b2.cell (p:=⟨w.heap.size+1,0,none⟩) (aad c5)).trans c5;replace bl:=aaa bl b2;go_wp2_with fail;refine(HP.out _).mono ?_;rintro e w3 ⟨b,rfl,hb,hh,b3⟩;have hkb:w.heap.size+1<b:=Nat.lt_of_lt_of_le (aad c5) hb;replace c4:=(b3.cell (p:=⟨w.heap.size,0,none⟩) (aad c4)).trans c4;replace c5:=(b3.cell (p:=⟨w.heap.size+1,0,none⟩) (aad c5)).trans c5;replace bl:=aaa bl b3;clear hb;have Hh:=qz hh;clear hh;go_wp2_with fail;refine(HB'.out _).mono ?_;rintro e w4 ⟨rfl,b4⟩;replace c4:=(b4.cell (p:=⟨w.heap.size,0,none⟩) (aad c4)).trans c4;replace c5:=(b4.cell (p:=⟨w.heap.size+1,0,none⟩) (aad c5)).trans c5;replace bl:=aaa bl b4;have hh:=(b4.block b (lt_of_block Hh.out)).trans Hh.out;have d0:=aac hh;have f0:=free_of_one hh;have g4:=qz hh;clear hh Hh;go_wp2_with fail;refine wp_loop_rounds 2 ?_;rw[rounds_succ];go_wp2_with fail;refine(IH'.out _).mono ?_;rintro e w5 ⟨rfl,b5⟩;replace c4:=(b5.cell (p:=⟨w.heap.size,0,none⟩) (aad c4)).trans c4;replace c5:=(b5.cell (p:=⟨w.heap.size+1,0,none⟩) (aad c5)).trans c5;replace bl:=aaa bl b5;have h5:=(b5.block b (lt_of_block g4.out)).trans g4.out;clear d0 f0;have d0:=aac h5;have f0:=free_of_one h5;replace c4:=(((Below.refl b w5).setCell (p:=⟨b,0,none⟩) (nl b) (.iface tr vr)).cell (p:=⟨w.heap.size,0,none⟩) (by show w.heap.size<b;omega)).trans c4;replace c5:=(((Below.refl b w5).setCell (p:=⟨b,0,none⟩) (nl b) (.iface tr vr)).cell (p:=⟨w.heap.size+1,0,none⟩) (by show w.heap.size+1<b;omega)).trans c5;replace bl:=bl.setCell (p:=⟨b,0,none⟩) (by show w.heap.size<=b;omega) (.iface tr vr);have e5:=one_setCell (u:=.iface tr vr) h5;have e0:=qz (aac e5);clear h5 e5;go_wp2_with fail;rw[rounds_succ];go_wp2_with fail;refine(HW'.out b _ e0.out).mono ?_;rintro e w8 ⟨rfl,b8⟩;replace c4:=(b8.cell (p:=⟨w.heap.size,0,none⟩) (aad c4)).trans c4;replace c5:=(b8.cell (p:=⟨w.heap.size+1,0,none⟩) (aad c5)).trans c5;replace bl:=aaa bl b8;go_wp2_with fail;refine(HU'.out _ c4 c5).mono ?_;rintro e w9 ⟨rfl,b9⟩;replace bl:=aaa bl b9;go_wp2_with fail;go_ret2;exact⟨rfl,bl⟩
theorem ahJ (T:TypeId)(V:Value)(o m U:Int)(hq:(o==m)=false)(T2 tp:TypeId)(V2 vp:Value)(w:World)(hP:∃(F:FuncId) (R:Value),(∀n w,(method (n+1) T2 V2 "loop.example/g01175/impl.parts").run prog w=.ok (F,R) w)/\(∀n w,(nilAhead (n+1) T2 V2 "loop.example/g01175/impl.parts").run prog w=.ok (some false) w)/\(∀args w,(callFunc F args).run prog w=.ok (.enter F args) w)/\∀w,Calls prog F #[R] w fun e w'=>∃b,e=.returned (.slice (some ⟨b,0,none⟩) 1 1)/\w.heap.size<=b/\w'.heap[b]?=some (.cells #[.iface tp vp] 41 (0,0))/\Zb w w') (HF:Zr 93 #[.iface T V] (.int .u32 U))(HH:Ze 142 #[.int .u32 U,.int .u8 o] (.bool true))(HC:Zr 179 #[.iface T V,.int .u8 o,.int .u8 m] (.tuple #[.iface T2 V2,.bool true]))(HB:Zr 144 #[.iface T2 V2] (.tuple #[.int .u8 0,.bool false]))(IH:Zr 160 #[.iface tp vp,.int .u8 o,.int .u8 m] (.tuple #[.nilIface,.bool false])) : Calls prog 160 #[.iface T V,.int .u8 o,.int .u8 m] w fun e w'=>e=.returned (.tuple #[.nilIface,.bool false])/\Zb w w':=by
 obtain⟨F,RR,hm,hn,hc,hp⟩:=hP;have HP:=qz hp;clear hp;have HF':=qz HF;have HH':=qz HH;have HC':=qz HC;have HB':=qz HB;have IH':=qz IH;clear HF HH HC HB IH
 go_enter func160,ntmps160
 go_upto_region 1 with fail
 go_cut [23] (fun s23 wx=>s23=.bool false/\Zb w wx/\wx.cell? ⟨w.heap.size,0,none⟩=some (.int .u8 o)/\wx.cell? ⟨w.heap.size+1,0,none⟩=some (.int .u8 m))
 case first=>
  obtain⟨W,hW⟩:∃W,W=(w.alloc (.cells #[.int .u8 o] 5)).alloc (.cells #[.int .u8 m] 5):=⟨_,rfl⟩;rw[<-hW];have c4:W.cell? ⟨w.heap.size,0,none⟩=some (.int .u8 o):=by rw[hW];exact aac (aaJ _ _ _)
  have c5:W.cell? ⟨w.heap.size+1,0,none⟩=some (.int .u8 m):=by rw[hW];exact aac (aaK _ _ _)
  have bW:Zb w W:=by rw[hW];exact aaw _ _ _
  have hsz:w.heap.size+1<W.heap.size:=aad c5;clear hW
  go_region_with (first|(go_at_call 93;refine(HF'.out _).mono ?_;rintro e v1 ⟨rfl,d1⟩;have q4:=(d1.cell (p:=⟨w.heap.size,0,none⟩) (by simp;omega)).trans c4;have q5:=(d1.cell (p:=⟨w.heap.size+1,0,none⟩) (by simp;omega)).trans c5;have k1:=aaa bW.drew d1)|(go_at_call 142;refine(HH'.out _).mono ?_;rintro e v2 ⟨rfl,rfl⟩))
  all_goals (go_wp2_with fail;go_meet;exact⟨rfl,k1,q4,q5⟩)
 case rest=>
  obtain⟨rfl,bl,c4,c5⟩:=hcut;go_wp2_with fail;refine(HC'.out _).mono ?_;rintro e w2 ⟨rfl,b2⟩;replace c4:=(b2.cell (p:=⟨w.heap.size,0,none⟩) (aad c4)).trans c4;replace c5:=(b2.cell (p:=⟨w.heap.size+1,0,none⟩) (aad c5)).trans c5;replace bl:=aaa bl b2;go_wp2_with fail;refine(HP.out _).mono ?_;rintro e w3 ⟨b,rfl,hb,hh,b3⟩;have hkb:w.heap.size+1<b:=Nat.lt_of_lt_of_le (aad c5) hb;replace c4:=(b3.cell (p:=⟨w.heap.size,0,none⟩) (aad c4)).trans c4;replace c5:=(b3.cell (p:=⟨w.heap.size+1,0,none⟩) (aad c5)).trans c5;replace bl:=aaa bl b3;clear hb;have Hh:=qz hh;clear hh;go_wp2_with fail;refine(HB'.out _).mono ?_;rintro e w4 ⟨rfl,b4⟩;replace c4:=(b4.cell (p:=⟨w.heap.size,0,none⟩) (aad c4)).trans c4;replace c5:=(b4.cell (p:=⟨w.heap.size+1,0,none⟩) (aad c5)).trans c5;replace bl:=aaa bl b4;have hh:=(b4.block b (lt_of_block Hh.out)).trans Hh.out;have d0:=aac hh;have f0:=free_of_one hh;have g4:=qz hh;clear hh Hh;go_wp2_with fail;refine wp_loop_rounds 2 ?_;rw[rounds_succ];go_wp2_with fail;refine(IH'.out _).mono ?_;rintro e w5 ⟨rfl,b5⟩;replace c4:=(b5.cell (p:=⟨w.heap.size,0,none⟩) (aad c4)).trans c4;replace c5:=(b5.cell (p:=⟨w.heap.size+1,0,none⟩) (aad c5)).trans c5;replace bl:=aaa bl b5;have h5:=(b5.block b (lt_of_block g4.out)).trans g4.out;clear d0 f0;have d0:=aac h5;have f0:=free_of_one h5;replace c4:=(((Below.refl b w5).setCell (p:=⟨b,0,none⟩) (nl b) (.nilIface)).cell (p:=⟨w.heap.size,0,none⟩) (by show w.heap.size<b;omega)).trans c4;replace c5:=(((Below.refl b w5).setCell (p:=⟨b,0,none⟩) (nl b) (.nilIface)).cell (p:=⟨w.heap.size+1,0,none⟩) (by show w.heap.size+1<b;omega)).trans c5;replace bl:=bl.setCell (p:=⟨b,0,none⟩) (by show w.heap.size<=b;omega) (.nilIface);clear h5;go_wp2_with fail;go_ret2;exact⟨rfl,bl⟩
theorem apc (T:TypeId)(V:Value)(o m U:Int)(hq:(o==m)=false)(T2 T3 T4 tp:TypeId)(V2 V3 V4 vp:Value)(tr:TypeId)(vr:Value)(x:Int)(hx:(x != o)=true)(w:World)(hP:∃(F:FuncId) (R:Value),(∀n w,(method (n+1) T2 V2 "loop.example/g01175/impl.parts").run prog w=.ok (F,R) w)/\(∀n w,(nilAhead (n+1) T2 V2 "loop.example/g01175/impl.parts").run prog w=.ok (some false) w)/\(∀args w,(callFunc F args).run prog w=.ok (.enter F args) w)/\∀w,Calls prog F #[R] w fun e w'=>∃b,e=.returned (.slice (some ⟨b,0,none⟩) 1 1)/\w.heap.size<=b/\w'.heap[b]?=some (.cells #[.iface tp vp] 41 (0,0))/\Zb w w') (HF:Zr 93 #[.iface T V] (.int .u32 U))(HH:Ze 142 #[.int .u32 U,.int .u8 o] (.bool true))(HC:Zr 179 #[.iface T V,.int .u8 o,.int .u8 m] (.tuple #[.iface T2 V2,.bool true]))(HB:Zr 144 #[.iface T2 V2] (.tuple #[.int .u8 x,.bool true]))(IH:Zr 160 #[.iface tp vp,.int .u8 o,.int .u8 m] (.tuple #[.iface tr vr,.bool true]))(HW:∀(b:Nat) (w:World),w.cell? ⟨b,0,none⟩=some (.iface tr vr)->Calls prog 135 #[.iface T2 V2,.slice (some ⟨b,0,none⟩) 1 1] w fun e w'=>e=.returned (.iface T3 V3)/\Zb w w')(HU:∀v,v.cell? ⟨w.heap.size,0,none⟩=some (.int .u8 o)->v.cell? ⟨w.heap.size+1,0,none⟩=some (.int .u8 m)->Calls prog 172 #[.iface T3 V3,.func (.func 180) #[] #[.pointer (some ⟨w.heap.size,0,none⟩),.pointer (some ⟨w.heap.size+1,0,none⟩)]] v fun e v'=>e=.returned (.iface T4 V4)/\Zb v v') : Calls prog 160 #[.iface T V,.int .u8 o,.int .u8 m] w fun e w'=>e=.returned (.tuple #[.iface T4 V4,.bool true])/\Zb w w':=by
 obtain⟨F,RR,hm,hn,hc,hp⟩:=hP;have HP:=qz hp;clear hp;have HF':=qz HF;have HH':=qz HH;have HC':=qz HC;have HB':=qz HB;have IH':=qz IH;have HW':=qz HW;have HU':=qz HU;clear HF HH HC HB IH HW HU
 go_enter func160,ntmps160
 go_upto_region 1 with fail
 go_cut [23] (fun s23 wx=>s23=.bool false/\Zb w wx/\wx.cell? ⟨w.heap.size,0,none⟩=some (.int .u8 o)/\wx.cell? ⟨w.heap.size+1,0,none⟩=some (.int .u8 m))
 case first=>
  obtain⟨W,hW⟩:∃W,W=(w.alloc (.cells #[.int .u8 o] 5)).alloc (.cells #[.int .u8 m] 5):=⟨_,rfl⟩;rw[<-hW];have c4:W.cell? ⟨w.heap.size,0,none⟩=some (.int .u8 o):=by rw[hW];exact aac (aaJ _ _ _)
  have c5:W.cell? ⟨w.heap.size+1,0,none⟩=some (.int .u8 m):=by rw[hW];exact aac (aaK _ _ _)
  have bW:Zb w W:=by rw[hW];exact aaw _ _ _
  have hsz:w.heap.size+1<W.heap.size:=aad c5;clear hW
  go_region_with (first|(go_at_call 93;refine(HF'.out _).mono ?_;rintro e v1 ⟨rfl,d1⟩;have q4:=(d1.cell (p:=⟨w.heap.size,0,none⟩) (by simp;omega)).trans c4;have q5:=(d1.cell (p:=⟨w.heap.size+1,0,none⟩) (by simp;omega)).trans c5;have k1:=aaa bW.drew d1)|(go_at_call 142;refine(HH'.out _).mono ?_;rintro e v2 ⟨rfl,rfl⟩))
  all_goals (go_wp2_with fail;go_meet;exact⟨rfl,k1,q4,q5⟩)
 case rest=>
  obtain⟨rfl,bl,c4,c5⟩:=hcut;go_wp2_with fail;refine(HC'.out _).mono ?_;rintro e w2 ⟨rfl,b2⟩;replace c4:=(b2.cell (p:=⟨w.heap.size,0,none⟩) (aad c4)).trans c4;replace c5:=(b2.cell (p:=⟨w.heap.size+1,0,none⟩) (aad c5)).trans c5;replace bl:=aaa bl b2;go_wp2_with fail;refine(HP.out _).mono ?_;rintro e w3 ⟨b,rfl,hb,hh,b3⟩;have hkb:w.heap.size+1<b:=Nat.lt_of_lt_of_le (aad c5) hb;replace c4:=(b3.cell (p:=⟨w.heap.size,0,none⟩) (aad c4)).trans c4;replace c5:=(b3.cell (p:=⟨w.heap.size+1,0,none⟩) (aad c5)).trans c5;replace bl:=aaa bl b3;clear hb;have Hh:=qz hh;clear hh;go_wp2_with fail;refine(HB'.out _).mono ?_;rintro e w4 ⟨rfl,b4⟩;replace c4:=(b4.cell (p:=⟨w.heap.size,0,none⟩) (aad c4)).trans c4;replace c5:=(b4.cell (p:=⟨w.heap.size+1,0,none⟩) (aad c5)).trans c5;replace bl:=aaa bl b4;have hh:=(b4.block b (lt_of_block Hh.out)).trans Hh.out;have d0:=aac hh;have f0:=free_of_one hh;have g4:=qz hh;clear hh Hh;go_wp2_with fail;refine wp_loop_rounds 2 ?_;rw[rounds_succ];go_wp2_with fail;refine(IH'.out _).mono ?_;rintro e w5 ⟨rfl,b5⟩;replace c4:=(b5.cell (p:=⟨w.heap.size,0,none⟩) (aad c4)).trans c4;replace c5:=(b5.cell (p:=⟨w.heap.size+1,0,none⟩) (aad c5)).trans c5;replace bl:=aaa bl b5;have h5:=(b5.block b (lt_of_block g4.out)).trans g4.out;clear d0 f0;have d0:=aac h5;have f0:=free_of_one h5;replace c4:=(((Below.refl b w5).setCell (p:=⟨b,0,none⟩) (nl b) (.iface tr vr)).cell (p:=⟨w.heap.size,0,none⟩) (by show w.heap.size<b;omega)).trans c4;replace c5:=(((Below.refl b w5).setCell (p:=⟨b,0,none⟩) (nl b) (.iface tr vr)).cell (p:=⟨w.heap.size+1,0,none⟩) (by show w.heap.size+1<b;omega)).trans c5;replace bl:=bl.setCell (p:=⟨b,0,none⟩) (by show w.heap.size<=b;omega) (.iface tr vr);have e5:=one_setCell (u:=.iface tr vr) h5;have e0:=qz (aac e5);clear h5 e5;go_wp2_with fail;rw[rounds_succ];go_wp2_with fail;refine(HW'.out b _ e0.out).mono ?_;rintro e w8 ⟨rfl,b8⟩;replace c4:=(b8.cell (p:=⟨w.heap.size,0,none⟩) (aad c4)).trans c4;replace c5:=(b8.cell (p:=⟨w.heap.size+1,0,none⟩) (aad c5)).trans c5;replace bl:=aaa bl b8;go_wp2_with fail;refine(HU'.out _ c4 c5).mono ?_;rintro e w9 ⟨rfl,b9⟩;replace bl:=aaa bl b9;go_wp2_with fail;go_ret2;exact⟨rfl,bl⟩
theorem akN (T:TypeId)(V:Value)(o m U:Int)(hq:(o==m)=false)(T2 tp:TypeId)(V2 vp:Value)(x:Int)(hx:(x != o)=true)(w:World)(hP:∃(F:FuncId) (R:Value),(∀n w,(method (n+1) T2 V2 "loop.example/g01175/impl.parts").run prog w=.ok (F,R) w)/\(∀n w,(nilAhead (n+1) T2 V2 "loop.example/g01175/impl.parts").run prog w=.ok (some false) w)/\(∀args w,(callFunc F args).run prog w=.ok (.enter F args) w)/\∀w,Calls prog F #[R] w fun e w'=>∃b,e=.returned (.slice (some ⟨b,0,none⟩) 1 1)/\w.heap.size<=b/\w'.heap[b]?=some (.cells #[.iface tp vp] 41 (0,0))/\Zb w w') (HF:Zr 93 #[.iface T V] (.int .u32 U))(HH:Ze 142 #[.int .u32 U,.int .u8 o] (.bool true))(HC:Zr 179 #[.iface T V,.int .u8 o,.int .u8 m] (.tuple #[.iface T2 V2,.bool true]))(HB:Zr 144 #[.iface T2 V2] (.tuple #[.int .u8 x,.bool true]))(IH:Zr 160 #[.iface tp vp,.int .u8 o,.int .u8 m] (.tuple #[.nilIface,.bool false])) : Calls prog 160 #[.iface T V,.int .u8 o,.int .u8 m] w fun e w'=>e=.returned (.tuple #[.nilIface,.bool false])/\Zb w w':=by
 obtain⟨F,RR,hm,hn,hc,hp⟩:=hP;have HP:=qz hp;clear hp;have HF':=qz HF;have HH':=qz HH;have HC':=qz HC;have HB':=qz HB;have IH':=qz IH;clear HF HH HC HB IH
 go_enter func160,ntmps160
 go_upto_region 1 with fail
 go_cut [23] (fun s23 wx=>s23=.bool false/\Zb w wx/\wx.cell? ⟨w.heap.size,0,none⟩=some (.int .u8 o)/\wx.cell? ⟨w.heap.size+1,0,none⟩=some (.int .u8 m))
 case first=>
  obtain⟨W,hW⟩:∃W,W=(w.alloc (.cells #[.int .u8 o] 5)).alloc (.cells #[.int .u8 m] 5):=⟨_,rfl⟩;rw[<-hW];have c4:W.cell? ⟨w.heap.size,0,none⟩=some (.int .u8 o):=by rw[hW];exact aac (aaJ _ _ _)
  have c5:W.cell? ⟨w.heap.size+1,0,none⟩=some (.int .u8 m):=by rw[hW];exact aac (aaK _ _ _)
  have bW:Zb w W:=by rw[hW];exact aaw _ _ _
  have hsz:w.heap.size+1<W.heap.size:=aad c5;clear hW
  go_region_with (first|(go_at_call 93;refine(HF'.out _).mono ?_;rintro e v1 ⟨rfl,d1⟩;have q4:=(d1.cell (p:=⟨w.heap.size,0,none⟩) (by simp;omega)).trans c4;have q5:=(d1.cell (p:=⟨w.heap.size+1,0,none⟩) (by simp;omega)).trans c5;have k1:=aaa bW.drew d1)|(go_at_call 142;refine(HH'.out _).mono ?_;rintro e v2 ⟨rfl,rfl⟩))
  all_goals (go_wp2_with fail;go_meet;exact⟨rfl,k1,q4,q5⟩)
 case rest=>
  obtain⟨rfl,bl,c4,c5⟩:=hcut;go_wp2_with fail;refine(HC'.out _).mono ?_;rintro e w2 ⟨rfl,b2⟩;replace c4:=(b2.cell (p:=⟨w.heap.size,0,none⟩) (aad c4)).trans c4;replace c5:=(b2.cell (p:=⟨w.heap.size+1,0,none⟩) (aad c5)).trans c5;replace bl:=aaa bl b2;go_wp2_with fail;refine(HP.out _).mono ?_;rintro e w3 ⟨b,rfl,hb,hh,b3⟩;have hkb:w.heap.size+1<b:=Nat.lt_of_lt_of_le (aad c5) hb;replace c4:=(b3.cell (p:=⟨w.heap.size,0,none⟩) (aad c4)).trans c4;replace c5:=(b3.cell (p:=⟨w.heap.size+1,0,none⟩) (aad c5)).trans c5;replace bl:=aaa bl b3;clear hb;have Hh:=qz hh;clear hh;go_wp2_with fail;refine(HB'.out _).mono ?_;rintro e w4 ⟨rfl,b4⟩;replace c4:=(b4.cell (p:=⟨w.heap.size,0,none⟩) (aad c4)).trans c4;replace c5:=(b4.cell (p:=⟨w.heap.size+1,0,none⟩) (aad c5)).trans c5;replace bl:=aaa bl b4;have hh:=(b4.block b (lt_of_block Hh.out)).trans Hh.out;have d0:=aac hh;have f0:=free_of_one hh;have g4:=qz hh;clear hh Hh;go_wp2_with fail;refine wp_loop_rounds 2 ?_;rw[rounds_succ];go_wp2_with fail;refine(IH'.out _).mono ?_;rintro e w5 ⟨rfl,b5⟩;replace c4:=(b5.cell (p:=⟨w.heap.size,0,none⟩) (aad c4)).trans c4;replace c5:=(b5.cell (p:=⟨w.heap.size+1,0,none⟩) (aad c5)).trans c5;replace bl:=aaa bl b5;have h5:=(b5.block b (lt_of_block g4.out)).trans g4.out;clear d0 f0;have d0:=aac h5;have f0:=free_of_one h5;replace c4:=(((Below.refl b w5).setCell (p:=⟨b,0,none⟩) (nl b) (.nilIface)).cell (p:=⟨w.heap.size,0,none⟩) (by show w.heap.size<b;omega)).trans c4;replace c5:=(((Below.refl b w5).setCell (p:=⟨b,0,none⟩) (nl b) (.nilIface)).cell (p:=⟨w.heap.size+1,0,none⟩) (by show w.heap.size+1<b;omega)).trans c5;replace bl:=bl.setCell (p:=⟨b,0,none⟩) (by show w.heap.size<=b;omega) (.nilIface);clear h5;go_wp2_with fail;go_ret2;exact⟨rfl,bl⟩
theorem asT (T:TypeId)(V:Value)(o m U:Int)(hq:(o==m)=false)(T2 T3 T4 tp:TypeId)(V2 V3 V4 vp:Value)(tq:TypeId)(vq:Value)(tr ts:TypeId)(vr vs:Value)(w:World)(hP:∃(F:FuncId) (R:Value),(∀n w,(method (n+1) T2 V2 "loop.example/g01175/impl.parts").run prog w=.ok (F,R) w)/\(∀n w,(nilAhead (n+1) T2 V2 "loop.example/g01175/impl.parts").run prog w=.ok (some false) w)/\(∀args w,(callFunc F args).run prog w=.ok (.enter F args) w)/\∀w,Calls prog F #[R] w fun e w'=>∃b,e=.returned (.slice (some ⟨b,0,none⟩) 2 2)/\w.heap.size<=b/\w'.heap[b]?=some (.cells #[.iface tp vp,.iface tq vq] 41 (0,0))/\Zb w w') (HF:Zr 93 #[.iface T V] (.int .u32 U))(HH:Ze 142 #[.int .u32 U,.int .u8 o] (.bool true))(HC:Zr 179 #[.iface T V,.int .u8 o,.int .u8 m] (.tuple #[.iface T2 V2,.bool true]))(HB:Zr 144 #[.iface T2 V2] (.tuple #[.int .u8 0,.bool false]))(IH:Zr 160 #[.iface tp vp,.int .u8 o,.int .u8 m] (.tuple #[.iface tr vr,.bool true]))(IH2:Zr 160 #[.iface tq vq,.int .u8 o,.int .u8 m] (.tuple #[.iface ts vs,.bool true]))(HW:∀(b:Nat) (w:World),w.cell? ⟨b,0,none⟩=some (.iface tr vr)->w.cell? ⟨b,1,none⟩=some (.iface ts vs)->Calls prog 135 #[.iface T2 V2,.slice (some ⟨b,0,none⟩) 2 2] w fun e w'=>e=.returned (.iface T3 V3)/\Zb w w')(HU:∀v,v.cell? ⟨w.heap.size,0,none⟩=some (.int .u8 o)->v.cell? ⟨w.heap.size+1,0,none⟩=some (.int .u8 m)->Calls prog 172 #[.iface T3 V3,.func (.func 180) #[] #[.pointer (some ⟨w.heap.size,0,none⟩),.pointer (some ⟨w.heap.size+1,0,none⟩)]] v fun e v'=>e=.returned (.iface T4 V4)/\Zb v v') : Calls prog 160 #[.iface T V,.int .u8 o,.int .u8 m] w fun e w'=>e=.returned (.tuple #[.iface T4 V4,.bool true])/\Zb w w':=by
 obtain⟨F,RR,hm,hn,hc,hp⟩:=hP;have HP:=qz hp;clear hp;have HF':=qz HF;have HH':=qz HH;have HC':=qz HC;have HB':=qz HB;have IH':=qz IH;have IH2':=qz IH2;have HW':=qz HW;have HU':=qz HU;clear HF HH HC HB IH IH2 HW HU
 go_enter func160,ntmps160
 go_upto_region 1 with fail
 go_cut [23] (fun s23 wx=>s23=.bool false/\Zb w wx/\wx.cell? ⟨w.heap.size,0,none⟩=some (.int .u8 o)/\wx.cell? ⟨w.heap.size+1,0,none⟩=some (.int .u8 m))
 case first=>
  obtain⟨W,hW⟩:∃W,W=(w.alloc (.cells #[.int .u8 o] 5)).alloc (.cells #[.int .u8 m] 5):=⟨_,rfl⟩;rw[<-hW];have c4:W.cell? ⟨w.heap.size,0,none⟩=some (.int .u8 o):=by rw[hW];exact aac (aaJ _ _ _)
  have c5:W.cell? ⟨w.heap.size+1,0,none⟩=some (.int .u8 m):=by rw[hW];exact aac (aaK _ _ _)
  have bW:Zb w W:=by rw[hW];exact aaw _ _ _
  have hsz:w.heap.size+1<W.heap.size:=aad c5;clear hW
  go_region_with (first|(go_at_call 93;refine(HF'.out _).mono ?_;rintro e v1 ⟨rfl,d1⟩;have q4:=(d1.cell (p:=⟨w.heap.size,0,none⟩) (by simp;omega)).trans c4;have q5:=(d1.cell (p:=⟨w.heap.size+1,0,none⟩) (by simp;omega)).trans c5;have k1:=aaa bW.drew d1)|(go_at_call 142;refine(HH'.out _).mono ?_;rintro e v2 ⟨rfl,rfl⟩))
  all_goals (go_wp2_with fail;go_meet;exact⟨rfl,k1,q4,q5⟩)
 case rest=>
  obtain⟨rfl,bl,c4,c5⟩:=hcut;go_wp2_with fail;refine(HC'.out _).mono ?_;rintro e w2 ⟨rfl,b2⟩;replace c4:=(b2.cell (p:=⟨w.heap.size,0,none⟩) (aad c4)).trans c4;replace c5:=(b2.cell (p:=⟨w.heap.size+1,0,none⟩) (aad c5)).trans c5;replace bl:=aaa bl b2;go_wp2_with fail;refine(HP.out _).mono ?_;rintro e w3 ⟨b,rfl,hb,hh,b3⟩;have hkb:w.heap.size+1<b:=Nat.lt_of_lt_of_le (aad c5) hb;replace c4:=(b3.cell (p:=⟨w.heap.size,0,none⟩) (aad c4)).trans c4;replace c5:=(b3.cell (p:=⟨w.heap.size+1,0,none⟩) (aad c5)).trans c5;replace bl:=aaa bl b3;clear hb;have Hh:=qz hh;clear hh;go_wp2_with fail;refine(HB'.out _).mono ?_;rintro e w4 ⟨rfl,b4⟩;replace c4:=(b4.cell (p:=⟨w.heap.size,0,none⟩) (aad c4)).trans c4;replace c5:=(b4.cell (p:=⟨w.heap.size+1,0,none⟩) (aad c5)).trans c5;replace bl:=aaa bl b4;have hh:=(b4.block b (lt_of_block Hh.out)).trans Hh.out;have d0:=aaf hh;have f0:=aa6 hh 0;have g4:=qz hh;clear hh Hh;go_wp2_with fail;refine wp_loop_rounds 3 ?_;rw[rounds_succ];go_wp2_with fail;refine(IH'.out _).mono ?_;rintro e w5 ⟨rfl,b5⟩;replace c4:=(b5.cell (p:=⟨w.heap.size,0,none⟩) (aad c4)).trans c4;replace c5:=(b5.cell (p:=⟨w.heap.size+1,0,none⟩) (aad c5)).trans c5;replace bl:=aaa bl b5;have h5:=(b5.block b (lt_of_block g4.out)).trans g4.out;clear d0 f0;have d0:=aaf h5;have f0:=aa6 h5 0;replace c4:=(((Below.refl b w5).setCell (p:=⟨b,0,none⟩) (nl b) (.iface tr vr)).cell (p:=⟨w.heap.size,0,none⟩) (by show w.heap.size<b;omega)).trans c4;replace c5:=(((Below.refl b w5).setCell (p:=⟨b,0,none⟩) (nl b) (.iface tr vr)).cell (p:=⟨w.heap.size+1,0,none⟩) (by show w.heap.size+1<b;omega)).trans c5;replace bl:=bl.setCell (p:=⟨b,0,none⟩) (by show w.heap.size<=b;omega) (.iface tr vr);have e5:=ad1 h5 (.iface tr vr);have E5:=qz e5;have x1:=aak e5;clear h5 e5;go_wp2_with fail;rw[rounds_succ];go_wp2_with fail;refine(IH2'.out _).mono ?_;rintro e w6 ⟨rfl,b6⟩;replace c4:=(b6.cell (p:=⟨w.heap.size,0,none⟩) (aad c4)).trans c4;replace c5:=(b6.cell (p:=⟨w.heap.size+1,0,none⟩) (aad c5)).trans c5;replace bl:=aaa bl b6;have h6:=(b6.block b (lt_of_block E5.out)).trans E5.out;clear x1 d0 f0;have d1:=aak h6;have f1:=aa6 h6 1;replace c4:=(((Below.refl b w6).setCell (p:=⟨b,1,none⟩) (nl b) (.iface ts vs)).cell (p:=⟨w.heap.size,0,none⟩) (by show w.heap.size<b;omega)).trans c4;replace c5:=(((Below.refl b w6).setCell (p:=⟨b,1,none⟩) (nl b) (.iface ts vs)).cell (p:=⟨w.heap.size+1,0,none⟩) (by show w.heap.size+1<b;omega)).trans c5;replace bl:=bl.setCell (p:=⟨b,1,none⟩) (by show w.heap.size<=b;omega) (.iface ts vs);have e6:=aff h6 (.iface ts vs);have e0:=qz (aaf e6);have e1:=qz (aak e6);clear h6 e6;go_wp2_with fail;rw[rounds_succ];go_wp2_with fail;refine(HW'.out b _ e0.out e1.out).mono ?_;rintro e w8 ⟨rfl,b8⟩;replace c4:=(b8.cell (p:=⟨w.heap.size,0,none⟩) (aad c4)).trans c4;replace c5:=(b8.cell (p:=⟨w.heap.size+1,0,none⟩) (aad c5)).trans c5;replace bl:=aaa bl b8;go_wp2_with fail;refine(HU'.out _ c4 c5).mono ?_;rintro e w9 ⟨rfl,b9⟩;replace bl:=aaa bl b9;go_wp2_with fail;go_ret2;exact⟨rfl,bl⟩
theorem apd (T:TypeId)(V:Value)(o m U:Int)(hq:(o==m)=false)(T2 tp tq:TypeId)(V2 vp vq:Value)(w:World)(hP:∃(F:FuncId) (R:Value),(∀n w,(method (n+1) T2 V2 "loop.example/g01175/impl.parts").run prog w=.ok (F,R) w)/\(∀n w,(nilAhead (n+1) T2 V2 "loop.example/g01175/impl.parts").run prog w=.ok (some false) w)/\(∀args w,(callFunc F args).run prog w=.ok (.enter F args) w)/\∀w,Calls prog F #[R] w fun e w'=>∃b,e=.returned (.slice (some ⟨b,0,none⟩) 2 2)/\w.heap.size<=b/\w'.heap[b]?=some (.cells #[.iface tp vp,.iface tq vq] 41 (0,0))/\Zb w w') (HF:Zr 93 #[.iface T V] (.int .u32 U))(HH:Ze 142 #[.int .u32 U,.int .u8 o] (.bool true))(HC:Zr 179 #[.iface T V,.int .u8 o,.int .u8 m] (.tuple #[.iface T2 V2,.bool true]))(HB:Zr 144 #[.iface T2 V2] (.tuple #[.int .u8 0,.bool false]))(IH:Zr 160 #[.iface tp vp,.int .u8 o,.int .u8 m] (.tuple #[.nilIface,.bool false])) : Calls prog 160 #[.iface T V,.int .u8 o,.int .u8 m] w fun e w'=>e=.returned (.tuple #[.nilIface,.bool false])/\Zb w w':=by
 obtain⟨F,RR,hm,hn,hc,hp⟩:=hP;have HP:=qz hp;clear hp;have HF':=qz HF;have HH':=qz HH;have HC':=qz HC;have HB':=qz HB;have IH':=qz IH;clear HF HH HC HB IH
 go_enter func160,ntmps160
 go_upto_region 1 with fail
 go_cut [23] (fun s23 wx=>s23=.bool false/\Zb w wx/\wx.cell? ⟨w.heap.size,0,none⟩=some (.int .u8 o)/\wx.cell? ⟨w.heap.size+1,0,none⟩=some (.int .u8 m))
 case first=>
  obtain⟨W,hW⟩:∃W,W=(w.alloc (.cells #[.int .u8 o] 5)).alloc (.cells #[.int .u8 m] 5):=⟨_,rfl⟩;rw[<-hW];have c4:W.cell? ⟨w.heap.size,0,none⟩=some (.int .u8 o):=by rw[hW];exact aac (aaJ _ _ _)
  have c5:W.cell? ⟨w.heap.size+1,0,none⟩=some (.int .u8 m):=by rw[hW];exact aac (aaK _ _ _)
  have bW:Zb w W:=by rw[hW];exact aaw _ _ _
  have hsz:w.heap.size+1<W.heap.size:=aad c5;clear hW
  go_region_with (first|(go_at_call 93;refine(HF'.out _).mono ?_;rintro e v1 ⟨rfl,d1⟩;have q4:=(d1.cell (p:=⟨w.heap.size,0,none⟩) (by simp;omega)).trans c4;have q5:=(d1.cell (p:=⟨w.heap.size+1,0,none⟩) (by simp;omega)).trans c5;have k1:=aaa bW.drew d1)|(go_at_call 142;refine(HH'.out _).mono ?_;rintro e v2 ⟨rfl,rfl⟩))
  all_goals (go_wp2_with fail;go_meet;exact⟨rfl,k1,q4,q5⟩)
 case rest=>
  obtain⟨rfl,bl,c4,c5⟩:=hcut;go_wp2_with fail;refine(HC'.out _).mono ?_;rintro e w2 ⟨rfl,b2⟩;replace c4:=(b2.cell (p:=⟨w.heap.size,0,none⟩) (aad c4)).trans c4;replace c5:=(b2.cell (p:=⟨w.heap.size+1,0,none⟩) (aad c5)).trans c5;replace bl:=aaa bl b2;go_wp2_with fail;refine(HP.out _).mono ?_;rintro e w3 ⟨b,rfl,hb,hh,b3⟩;have hkb:w.heap.size+1<b:=Nat.lt_of_lt_of_le (aad c5) hb;replace c4:=(b3.cell (p:=⟨w.heap.size,0,none⟩) (aad c4)).trans c4;replace c5:=(b3.cell (p:=⟨w.heap.size+1,0,none⟩) (aad c5)).trans c5;replace bl:=aaa bl b3;clear hb;have Hh:=qz hh;clear hh;go_wp2_with fail;refine(HB'.out _).mono ?_;rintro e w4 ⟨rfl,b4⟩;replace c4:=(b4.cell (p:=⟨w.heap.size,0,none⟩) (aad c4)).trans c4;replace c5:=(b4.cell (p:=⟨w.heap.size+1,0,none⟩) (aad c5)).trans c5;replace bl:=aaa bl b4;have hh:=(b4.block b (lt_of_block Hh.out)).trans Hh.out;have d0:=aaf hh;have f0:=aa6 hh 0;have g4:=qz hh;clear hh Hh;go_wp2_with fail;refine wp_loop_rounds 3 ?_;rw[rounds_succ];go_wp2_with fail;refine(IH'.out _).mono ?_;rintro e w5 ⟨rfl,b5⟩;replace c4:=(b5.cell (p:=⟨w.heap.size,0,none⟩) (aad c4)).trans c4;replace c5:=(b5.cell (p:=⟨w.heap.size+1,0,none⟩) (aad c5)).trans c5;replace bl:=aaa bl b5;have h5:=(b5.block b (lt_of_block g4.out)).trans g4.out;clear d0 f0;have d0:=aaf h5;have f0:=aa6 h5 0;replace c4:=(((Below.refl b w5).setCell (p:=⟨b,0,none⟩) (nl b) (.nilIface)).cell (p:=⟨w.heap.size,0,none⟩) (by show w.heap.size<b;omega)).trans c4;replace c5:=(((Below.refl b w5).setCell (p:=⟨b,0,none⟩) (nl b) (.nilIface)).cell (p:=⟨w.heap.size+1,0,none⟩) (by show w.heap.size+1<b;omega)).trans c5;replace bl:=bl.setCell (p:=⟨b,0,none⟩) (by show w.heap.size<=b;omega) (.nilIface);clear h5;go_wp2_with fail;go_ret2;exact⟨rfl,bl⟩
theorem ape (T:TypeId)(V:Value)(o m U:Int)(hq:(o==m)=false)(T2 tp tq tr:TypeId)(V2 vp vq vr:Value)(w:World)(hP:∃(F:FuncId) (R:Value),(∀n w,(method (n+1) T2 V2 "loop.example/g01175/impl.parts").run prog w=.ok (F,R) w)/\(∀n w,(nilAhead (n+1) T2 V2 "loop.example/g01175/impl.parts").run prog w=.ok (some false) w)/\(∀args w,(callFunc F args).run prog w=.ok (.enter F args) w)/\∀w,Calls prog F #[R] w fun e w'=>∃b,e=.returned (.slice (some ⟨b,0,none⟩) 2 2)/\w.heap.size<=b/\w'.heap[b]?=some (.cells #[.iface tp vp,.iface tq vq] 41 (0,0))/\Zb w w') (HF:Zr 93 #[.iface T V] (.int .u32 U))(HH:Ze 142 #[.int .u32 U,.int .u8 o] (.bool true))(HC:Zr 179 #[.iface T V,.int .u8 o,.int .u8 m] (.tuple #[.iface T2 V2,.bool true]))(HB:Zr 144 #[.iface T2 V2] (.tuple #[.int .u8 0,.bool false]))(IH:Zr 160 #[.iface tp vp,.int .u8 o,.int .u8 m] (.tuple #[.iface tr vr,.bool true]))(IH2:Zr 160 #[.iface tq vq,.int .u8 o,.int .u8 m] (.tuple #[.nilIface,.bool false])) : Calls prog 160 #[.iface T V,.int .u8 o,.int .u8 m] w fun e w'=>e=.returned (.tuple #[.nilIface,.bool false])/\Zb w w':=by
 obtain⟨F,RR,hm,hn,hc,hp⟩:=hP;have HP:=qz hp;clear hp;have HF':=qz HF;have HH':=qz HH;have HC':=qz HC;have HB':=qz HB;have IH':=qz IH;have IH2':=qz IH2;clear HF HH HC HB IH IH2
 go_enter func160,ntmps160
 go_upto_region 1 with fail
 go_cut [23] (fun s23 wx=>s23=.bool false/\Zb w wx/\wx.cell? ⟨w.heap.size,0,none⟩=some (.int .u8 o)/\wx.cell? ⟨w.heap.size+1,0,none⟩=some (.int .u8 m))
 case first=>
  obtain⟨W,hW⟩:∃W,W=(w.alloc (.cells #[.int .u8 o] 5)).alloc (.cells #[.int .u8 m] 5):=⟨_,rfl⟩;rw[<-hW];have c4:W.cell? ⟨w.heap.size,0,none⟩=some (.int .u8 o):=by rw[hW];exact aac (aaJ _ _ _)
  have c5:W.cell? ⟨w.heap.size+1,0,none⟩=some (.int .u8 m):=by rw[hW];exact aac (aaK _ _ _)
  have bW:Zb w W:=by rw[hW];exact aaw _ _ _
  have hsz:w.heap.size+1<W.heap.size:=aad c5;clear hW
  go_region_with (first|(go_at_call 93;refine(HF'.out _).mono ?_;rintro e v1 ⟨rfl,d1⟩;have q4:=(d1.cell (p:=⟨w.heap.size,0,none⟩) (by simp;omega)).trans c4;have q5:=(d1.cell (p:=⟨w.heap.size+1,0,none⟩) (by simp;omega)).trans c5;have k1:=aaa bW.drew d1)|(go_at_call 142;refine(HH'.out _).mono ?_;rintro e v2 ⟨rfl,rfl⟩))
  all_goals (go_wp2_with fail;go_meet;exact⟨rfl,k1,q4,q5⟩)
 case rest=>
  obtain⟨rfl,bl,c4,c5⟩:=hcut;go_wp2_with fail;refine(HC'.out _).mono ?_;rintro e w2 ⟨rfl,b2⟩;replace c4:=(b2.cell (p:=⟨w.heap.size,0,none⟩) (aad c4)).trans c4;replace c5:=(b2.cell (p:=⟨w.heap.size+1,0,none⟩) (aad c5)).trans c5;replace bl:=aaa bl b2;go_wp2_with fail;refine(HP.out _).mono ?_;rintro e w3 ⟨b,rfl,hb,hh,b3⟩;have hkb:w.heap.size+1<b:=Nat.lt_of_lt_of_le (aad c5) hb;replace c4:=(b3.cell (p:=⟨w.heap.size,0,none⟩) (aad c4)).trans c4;replace c5:=(b3.cell (p:=⟨w.heap.size+1,0,none⟩) (aad c5)).trans c5;replace bl:=aaa bl b3;clear hb;have Hh:=qz hh;clear hh;go_wp2_with fail;refine(HB'.out _).mono ?_;rintro e w4 ⟨rfl,b4⟩;replace c4:=(b4.cell (p:=⟨w.heap.size,0,none⟩) (aad c4)).trans c4;replace c5:=(b4.cell (p:=⟨w.heap.size+1,0,none⟩) (aad c5)).trans c5;replace bl:=aaa bl b4;have hh:=(b4.block b (lt_of_block Hh.out)).trans Hh.out;have d0:=aaf hh;have f0:=aa6 hh 0;have g4:=qz hh;clear hh Hh;go_wp2_with fail;refine wp_loop_rounds 3 ?_;rw[rounds_succ];go_wp2_with fail;refine(IH'.out _).mono ?_;rintro e w5 ⟨rfl,b5⟩;replace c4:=(b5.cell (p:=⟨w.heap.size,0,none⟩) (aad c4)).trans c4;replace c5:=(b5.cell (p:=⟨w.heap.size+1,0,none⟩) (aad c5)).trans c5;replace bl:=aaa bl b5;have h5:=(b5.block b (lt_of_block g4.out)).trans g4.out;clear d0 f0;have d0:=aaf h5;have f0:=aa6 h5 0;replace c4:=(((Below.refl b w5).setCell (p:=⟨b,0,none⟩) (nl b) (.iface tr vr)).cell (p:=⟨w.heap.size,0,none⟩) (by show w.heap.size<b;omega)).trans c4;replace c5:=(((Below.refl b w5).setCell (p:=⟨b,0,none⟩) (nl b) (.iface tr vr)).cell (p:=⟨w.heap.size+1,0,none⟩) (by show w.heap.size+1<b;omega)).trans c5;replace bl:=bl.setCell (p:=⟨b,0,none⟩) (by show w.heap.size<=b;omega) (.iface tr vr);have e5:=ad1 h5 (.iface tr vr);have E5:=qz e5;have x1:=aak e5;clear h5 e5;go_wp2_with fail;rw[rounds_succ];go_wp2_with fail;refine(IH2'.out _).mono ?_;rintro e w6 ⟨rfl,b6⟩;replace c4:=(b6.cell (p:=⟨w.heap.size,0,none⟩) (aad c4)).trans c4;replace c5:=(b6.cell (p:=⟨w.heap.size+1,0,none⟩) (aad c5)).trans c5;replace bl:=aaa bl b6;have h6:=(b6.block b (lt_of_block E5.out)).trans E5.out;clear x1 d0 f0;have d1:=aak h6;have f1:=aa6 h6 1;replace c4:=(((Below.refl b w6).setCell (p:=⟨b,1,none⟩) (nl b) (.nilIface)).cell (p:=⟨w.heap.size,0,none⟩) (by show w.heap.size<b;omega)).trans c4;replace c5:=(((Below.refl b w6).setCell (p:=⟨b,1,none⟩) (nl b) (.nilIface)).cell (p:=⟨w.heap.size+1,0,none⟩) (by show w.heap.size+1<b;omega)).trans c5;replace bl:=bl.setCell (p:=⟨b,1,none⟩) (by show w.heap.size<=b;omega) (.nilIface);clear h6;go_wp2_with fail;go_ret2;exact⟨rfl,bl⟩
theorem aya (args:Array Value)(w:World):(callFunc 180 args).run prog w=.ok (.enter 180 args) w:=by kernel_rfl
theorem r1_yes (o m:Int)(ao am:Nat)(w:World)(h1:w.cell? ⟨ao,0,none⟩=some (.int .u8 o))(h2:w.cell? ⟨am,0,none⟩=some (.int .u8 m)) : Calls prog 180 #[.int .u8 o,.pointer (some ⟨ao,0,none⟩),.pointer (some ⟨am,0,none⟩)] w fun e w'=>e=.returned (.int .u8 m)/\w=w':=by
 go_enter func180,ntmps180
 go_wp2_with fail;go_ret;exact⟨rfl,rfl⟩
theorem r1_no (c o m:Int)(ao am:Nat)(w:World)(hne:(c==o)=false)(h1:w.cell? ⟨ao,0,none⟩=some (.int .u8 o))(h2:w.cell? ⟨am,0,none⟩=some (.int .u8 m)) : Calls prog 180 #[.int .u8 c,.pointer (some ⟨ao,0,none⟩),.pointer (some ⟨am,0,none⟩)] w fun e w'=>e=.returned (.int .u8 c)/\w=w':=by
 go_enter func180,ntmps180
 go_wp2_with fail;go_ret;exact⟨rfl,rfl⟩
theorem u8_beq (a b:UInt8):(((a.toNat:Nat):Int)==((b.toNat:Nat):Int))=decide (a=b):=by
 rw[Bool.eq_iff_iff,decide_eq_true_iff,beq_iff_eq];exact⟨fun h=>u8_ext (by omega),fun h=>by rw[h]⟩
theorem agZ (a b:UInt8):(((a.toNat:Nat):Int) != ((b.toNat:Nat):Int))=!decide (a=b):=by rw[bne,u8_beq]
theorem awH (c o m:UInt8)(ao am:Nat)(w:World)(h1:w.cell? ⟨ao,0,none⟩=some (.int .u8 (o.toNat:Int)))(h2:w.cell? ⟨am,0,none⟩=some (.int .u8 (m.toNat:Int))) : Calls prog 180 (#[.int .u8 (c.toNat:Int)]++#[.pointer (some ⟨ao,0,none⟩),.pointer (some ⟨am,0,none⟩)]) w fun e w'=>e=.returned (.int .u8 ((sw c o m).toNat:Int))/\w=w':=by
 unfold sw
 split
 ·rename_i h;subst h;exact r1_yes _ _ ao am w h1 h2
 ·rename_i h;exact r1_no _ _ _ ao am w (by rw[u8_beq];exact decide_eq_false h) h1 h2
theorem ago (t:Tm)(o m:UInt8)(ao am:Nat)(v:World)(h1:v.cell? ⟨ao,0,none⟩=some (.int .u8 (o.toNat:Int)))(h2:v.cell? ⟨am,0,none⟩=some (.int .u8 (m.toNat:Int))) :
  Calls prog 172 #[.iface (aau t) (pay t),.func (.func 180) #[] #[.pointer (some ⟨ao,0,none⟩),.pointer (some ⟨am,0,none⟩)]] v fun e v'=>e=.returned (.iface (aau (t.mapU fun c=>sw c o m)) (pay (t.mapU fun c=>sw c o m)))/\Zb v v':=
 acZ t 180 _ (fun c=>sw c o m) aya v fun c _ v1 b1=>
  awH c o m ao am v1 ((b1.cell (p:=⟨ao,0,none⟩) (aad h1)).trans h1) ((b1.cell (p:=⟨am,0,none⟩) (aad h2)).trans h2)
theorem ahK (t:Tm)(ho:t.ok nmL=true)(o:UInt8)(hn:nmL o=true):Ze 142 #[.int .u32 (setN t.free:Nat),.int .u8 (o.toNat:Int)] (.bool (decide (o∈t.free))):=by
 intro w;have h:=(nmL_iff o).1 hn;have h1:=ajk (setN t.free) o.toNat (ab8 _ (lets_free t ho)) h.1 h.2 w
 have e:(setN t.free).testBit (o.toNat - 97)=decide (o∈t.free):=by
  rw[Bool.eq_iff_iff,decide_eq_true_iff,abp _ (lets_free t ho)];exact⟨fun ⟨c,hc,e⟩=>by rw[<-u8_ext (show c.toNat=o.toNat by omega)];exact hc,fun hc=>⟨o,hc,by omega⟩⟩
 rw[e]at h1;exact h1
theorem arB (l:List UInt8)(h:Lets l):lets (flip32 (setN l)) 26=othL l:=by
 have h26:lets (flip32 (setN l)) 26=((List.range 26).filter fun i=>(flip32 (setN l)).testBit i).map fun i=>UInt8.ofNat (97+i):=rfl;unfold othL;rw[h26,List.filter_map];congr 1;refine List.filter_congr fun i hi=>?_;rw[List.mem_range]at hi;rw[aqS _ i (by omega)];show (!(setN l).testBit i)=decide (UInt8.ofNat (97+i)∉l);rw[decide_not];congr 1;rw[Bool.eq_iff_iff,decide_eq_true_iff,abp l h];exact⟨fun ⟨c,hc,e⟩=>by rw[show UInt8.ofNat (97+i)=c from u8_ext (by rw[UInt8.toNat_ofNat'];omega)];exact hc,fun hc=>⟨_,hc,by rw[UInt8.toNat_ofNat'];omega⟩⟩
theorem aeG (l:List UInt8)(h:Lets l)(w:World):Calls prog 94 #[.int .u32 (setN l:Nat)] w fun e w'=>∃v,e=.returned v/\w'.ownsRow w.heap.size 5 1 v (othL l).length ((othL l).map ub)/\Zb w w':=by
 have:=alI (setN l) (ab8 l h) w;rw[arB l h]at this
 exact this
theorem ag0 (l:List UInt8)(h:Lets l)(he:othL l=[])(w:World):Calls prog 94 #[.int .u32 (setN l:Nat)] w fun e w'=>∃v xs,e=.returned v/\w'.ownsRow w.heap.size 5 1 v 0 xs/\Zb w w':=by
 have:=aeG l h w;rw[he]at this
 exact this.mono fun e w' ⟨v,h1,h2,h3⟩=>⟨v,_,h1,h2,h3⟩
theorem afU (l:List UInt8)(h:Lets l)(y:UInt8)(r:List UInt8)(he:othL l=y::r)(w:World):Calls prog 94 #[.int .u32 (setN l:Nat)] w fun e w'=>∃g n cap,e=.returned (.slice (some ⟨g,0,none⟩) (n+1) cap)/\w.heap.size<=g/\w'.cell? ⟨g,0,none⟩=some (.int .u8 (y.toNat:Int))/\Zb w w':=by
 have:=aeG l h w;rw[he]at this
 refine this.mono fun e w' ⟨v,h1,h2,h3⟩=>?_
 rcases h2.2 with⟨rfl,h4⟩|⟨g,cap,cur,rfl,h4,_⟩
 ·simp at h4
 ·exact⟨g,r.length,cap,h1,h4,by rw[h2.cellAt 0 (by simp)];rfl,h3⟩
theorem akO (l:List UInt8)(h:Lets l)(m:UInt8)(hm:nmL m=true):Ze 100 #[.int .u32 (setN l:Nat),.int .u8 (m.toNat:Int)] (.int .u32 (setN (addL l m):Nat)):=by
 intro w;have hm':=(nmL_iff m).1 hm;rw[acp h hm'];exact abV (setN l) m.toNat (ab8 l h) hm'.1 hm'.2 w
def aaT (t:Tm)(o m:UInt8):Option Tm:=if (R t o m).ok nmL=true then some (R t o m) else none
theorem aa7 {t:Tm}{F:FuncId}{args:Array Value}(h:∀w,Calls prog F args w (aas (some t) w)):∀w,Calls prog F args w fun e w'=>e=.returned (.tuple #[.iface (aau t) (pay t),.bool true])/\Zb w w':=fun w=>
 (h w).mono fun e w' hh=>by
  rcases hh with⟨⟨p,h1,h2⟩|⟨h1,_⟩,h3⟩
  ·cases h1;exact⟨h2,h3⟩
  ·cases h1
theorem abg {F:FuncId}{args:Array Value}(h:∀w,Calls prog F args w (aas none w)):∀w,Calls prog F args w fun e w'=>e=.returned (.tuple #[.nilIface,.bool false])/\Zb w w':=fun w=>
 (h w).mono fun e w' hh=>by
  rcases hh with⟨⟨p,h1,_⟩|⟨_,h2⟩,h3⟩
  ·cases h1
  ·exact⟨h2,h3⟩
theorem ag1 {p:Tm}{x o m:UInt8}(hc:x=m/\o∈p.free):capX p x o m=fresh (addL p.free m):=by
 unfold capX;rw[if_pos hc];have:addL p.free o=p.free:=aed (srt_addL (aav p) o) (aav p) fun z=>by rw[mem_addL];constructor;(rintro (h|rfl);exact h;exact hc.2);exact .inl
 show fresh (addL (addL p.free o) m)=_;rw[this]
theorem al8 (a:UInt8)(x o m:UInt8)(p:Tm)(ho:((.rcv a x p):Tm).ok nmL=true)(hx:nmL x=true)(hp:p.ok nmL=true)(hon:nmL o=true)(hm:nmL m=true) (IH:∀y,nmL y=true->∀w,Calls prog 160 #[.iface (aau p) (pay p),.int .u8 (m.toNat:Int),.int .u8 (y.toNat:Int)] w (aas (aaT p m y) w))(w:World) : Calls prog 179 #[.iface (aau (.rcv a x p)) (pay (.rcv a x p)),.int .u8 (o.toNat:Int),.int .u8 (m.toNat:Int)] w (aas (if x=m/\o∈p.free then (if nmL (capX p x o m)=true/\(R p x (capX p x o m)).ok nmL=true then some (.rcv a (capX p x o m) (R p x (capX p x o m))) else none) else some (.rcv a x p)) w):=by
 have hB:=aam (.rcv a x p)
 by_cases hxm:x=m
 ·subst hxm;have hPF:=(parts_fact (.rcv a x p)).pf;have hF:=abD p hp;have hH:=ahK p hp o hon
  by_cases hf:o∈p.free
  ·have hc:x=x/\o∈p.free:=⟨rfl,hf⟩;rw[if_pos hc,ag1 hc];rw[decide_eq_true hf]at hH;have hW:=akO p.free (lets_free p hp) x hx;have hl:Lets (addL p.free x):=lets_addL (lets_free p hp) ((nmL_iff x).1 hx);rcases fresh_oth (addL p.free x) with⟨y,r,h1,h2,h3⟩|⟨h1,h2⟩
   ·have hy:nmL y=true:=by rw[nmL_iff];exact((abv _ y).1 (by rw[h1];simp)).1
    rw[h2];have hO:=afU _ hl y r h1;have hI:=IH y hy
    by_cases hok:(R p x y).ok nmL=true
    ·rw[if_pos ⟨hy,hok⟩];have hr:aaT p x y=some (R p x y):=by unfold aaT;rw[if_pos hok]
     rw[hr]at hI;exact(awC _ _ _ _ _ _ _ hPF hB hF _ hH hW _ hO _ _ (aa7 hI) _ _ _ _ (fun bk w hc=>aaD (.rcv a x p) p (R p x y) rfl bk 1 w (by omega) hc) (aeD _ _ _ _ _) w).mono fun _ _ h=>aas.yes rfl h
    ·rw[if_neg (fun h=>hok h.2)];have hr:aaT p x y=none:=by unfold aaT;rw[if_neg hok]
     rw[hr]at hI;exact(aoZ _ _ _ _ _ _ _ hPF hB hF _ hH hW _ hO (abg hI) w).mono fun _ _ h=>aas.no rfl h
   ·rw[if_neg (fun h=>by have:=(nmL_iff _).1 h.1;omega)];exact(aoY _ _ _ _ _ _ _ hPF hB hF _ hH hW (ag0 _ hl h1) w).mono fun _ _ h=>aas.no rfl h
  ·rw[if_neg (fun h=>hf h.2)];rw[decide_eq_false hf]at hH;exact(aiO _ _ _ _ _ _ _ hPF hB hF hH w).mono fun _ _ h=>aas.yes rfl h
 ·rw[if_neg (fun h=>hxm h.1)];exact(akE _ _ _ _ _ (by rw[agZ];simp[hxm]) hB w).mono fun _ _ h=>aas.yes rfl h
theorem al9 (x o m:UInt8)(p:Tm)(ho:((.own x p):Tm).ok nmL=true)(hx:nmL x=true)(hp:p.ok nmL=true)(hon:nmL o=true)(hm:nmL m=true) (IH:∀y,nmL y=true->∀w,Calls prog 160 #[.iface (aau p) (pay p),.int .u8 (m.toNat:Int),.int .u8 (y.toNat:Int)] w (aas (aaT p m y) w))(w:World) : Calls prog 179 #[.iface (aau (.own x p)) (pay (.own x p)),.int .u8 (o.toNat:Int),.int .u8 (m.toNat:Int)] w (aas (if x=m/\o∈p.free then (if nmL (capX p x o m)=true/\(R p x (capX p x o m)).ok nmL=true then some (.own (capX p x o m) (R p x (capX p x o m))) else none) else some (.own x p)) w):=by
 have hB:=aam (.own x p)
 by_cases hxm:x=m
 ·subst hxm;have hPF:=(parts_fact (.own x p)).pf;have hF:=abD p hp;have hH:=ahK p hp o hon
  by_cases hf:o∈p.free
  ·have hc:x=x/\o∈p.free:=⟨rfl,hf⟩;rw[if_pos hc,ag1 hc];rw[decide_eq_true hf]at hH;have hW:=akO p.free (lets_free p hp) x hx;have hl:Lets (addL p.free x):=lets_addL (lets_free p hp) ((nmL_iff x).1 hx);rcases fresh_oth (addL p.free x) with⟨y,r,h1,h2,h3⟩|⟨h1,h2⟩
   ·have hy:nmL y=true:=by rw[nmL_iff];exact((abv _ y).1 (by rw[h1];simp)).1
    rw[h2];have hO:=afU _ hl y r h1;have hI:=IH y hy
    by_cases hok:(R p x y).ok nmL=true
    ·rw[if_pos ⟨hy,hok⟩];have hr:aaT p x y=some (R p x y):=by unfold aaT;rw[if_pos hok]
     rw[hr]at hI;exact(awC _ _ _ _ _ _ _ hPF hB hF _ hH hW _ hO _ _ (aa7 hI) _ _ _ _ (fun bk w hc=>aaD (.own x p) p (R p x y) rfl bk 1 w (by omega) hc) (asL _ _ _ _) w).mono fun _ _ h=>aas.yes rfl h
    ·rw[if_neg (fun h=>hok h.2)];have hr:aaT p x y=none:=by unfold aaT;rw[if_neg hok]
     rw[hr]at hI;exact(aoZ _ _ _ _ _ _ _ hPF hB hF _ hH hW _ hO (abg hI) w).mono fun _ _ h=>aas.no rfl h
   ·rw[if_neg (fun h=>by have:=(nmL_iff _).1 h.1;omega)];exact(aoY _ _ _ _ _ _ _ hPF hB hF _ hH hW (ag0 _ hl h1) w).mono fun _ _ h=>aas.no rfl h
  ·rw[if_neg (fun h=>hf h.2)];rw[decide_eq_false hf]at hH;exact(aiO _ _ _ _ _ _ _ hPF hB hF hH w).mono fun _ _ h=>aas.yes rfl h
 ·rw[if_neg (fun h=>hxm h.1)];exact(akE _ _ _ _ _ (by rw[agZ];simp[hxm]) hB w).mono fun _ _ h=>aas.yes rfl h
theorem awI {t:Tm}{o m:UInt8}(ho:nmL o=true)(hm:nmL m=true)(h:(R t o m).ok nmL=true):t.ok nmL=true:=ate _ _ _ _ ho hm h
theorem awJ (n:Nat)(ih:∀(t:Tm) (o m:UInt8),t.size<=n->t.ok nmL=true->nmL o=true->nmL m=true->∀w,Calls prog 160 #[.iface (aau t) (pay t),.int .u8 (o.toNat:Int),.int .u8 (m.toNat:Int)] w (aas (aaT t o m) w)) (a:UInt8)(x:UInt8)(p:Tm)(o m:UInt8)(hn:p.size<=n)(ht:((.rcv a x p):Tm).ok nmL=true)(ho:nmL o=true)(hm:nmL m=true)(hq:(((o.toNat:Nat):Int)==((m.toNat:Nat):Int))=false)(hne:¬(o=m\/o∉((.rcv a x p):Tm).free)) (hF:∀w,Calls prog 93 #[.iface (aau (.rcv a x p)) (pay (.rcv a x p))] w fun e w'=>e=.returned (.int .u32 (setN (Tm.free (.rcv a x p)):Nat))/\Zb w w')(hH:Ze 142 #[.int .u32 (setN (Tm.free (.rcv a x p)):Nat),.int .u8 (o.toNat:Int)] (.bool true))(w:World) : Calls prog 160 #[.iface (aau (.rcv a x p)) (pay (.rcv a x p)),.int .u8 (o.toNat:Int),.int .u8 (m.toNat:Int)] w (aas (aaT (.rcv a x p) o m) w):=by
 have ht0:=ht;simp only[Tm.ok,bae]at ht;have hW:=al8 a x o m p ht0 ht.1.2 ht.2 ho hm (fun y hy=>ih p m y hn ht.2 hm hy);have hRt:R (.rcv a x p) o m=.rcv (sw a o m) (capX p x o m) (RB p x o m):=ae5 hne
 obtain⟨P2,hP2⟩:∃P2,P2=if x=m/\o∈p.free then R p x (capX p x o m) else p:=⟨_,rfl⟩
 have hsz:P2.size<=n:=by
  rw[hP2];split
  ·rw[R_size];exact hn
  ·exact hn
 have hRB:RB p x o m=if (capX p x o m)=o then P2 else R P2 o m:=by unfold RB;rw[hP2]
 by_cases hbad:x=m/\o∈p.free/\¬(nmL (capX p x o m)=true/\(R p x (capX p x o m)).ok nmL=true)
 ·have hr2:aaT (.rcv a x p) o m=none:=by
   unfold aaT;rw[hRt,if_neg];intro h;simp only[Tm.ok,bae]at h;refine hbad.2.2 ⟨h.1.2,?_⟩;have h3:=h.2;rw[if_pos ⟨hbad.1,hbad.2.1⟩]at hP2;rw[hRB,hP2]at h3
   split at h3
   ·exact h3
   ·exact awI ho hm h3
  have hW1:∀w,Calls prog 179 #[.iface (aau (.rcv a x p)) (pay (.rcv a x p)),.int .u8 (o.toNat:Int),.int .u8 (m.toNat:Int)] w (aas none w):=fun w=>by
   have:=hW w;rw[if_pos ⟨hbad.1,hbad.2.1⟩,if_neg hbad.2.2]at this
   exact this
  exact(aiS _ _ _ _ _ hq w hF hH (abg hW1)).mono fun _ _ h=>aas.no hr2 h
 ·have hg:x=m/\o∈p.free->nmL (capX p x o m)=true/\(R p x (capX p x o m)).ok nmL=true:=fun hc=>Decidable.not_not.1 fun h=>hbad ⟨hc.1,hc.2,h⟩;have hXx:¬(x=m/\o∈p.free)->(capX p x o m)=x:=fun hc=>by unfold capX;rw[if_neg hc]
  have hW2:∀w,Calls prog 179 #[.iface (aau (.rcv a x p)) (pay (.rcv a x p)),.int .u8 (o.toNat:Int),.int .u8 (m.toNat:Int)] w (aas (some (.rcv a (capX p x o m) P2)) w):=fun w=>by
   have hw:=hW w
   by_cases hc:x=m/\o∈p.free
   ·rw[if_pos hc,if_pos (hg hc)]at hw;rw[if_pos hc]at hP2;rw[hP2];exact hw
   ·rw[if_neg hc]at hw hP2;rw[hP2,hXx hc];exact hw
  have hX:nmL (capX p x o m)=true:=by
   by_cases hc:x=m/\o∈p.free
   ·exact(hg hc).1
   ·rw[hXx hc];exact ht.1.2
  have hok2:P2.ok nmL=true:=by
   rw[hP2];split
   ·rename_i hc;exact(hg hc).2
   ·exact ht.2
  clear hP2 hbad hg hXx hW ht0;obtain⟨Y,hY⟩:∃Y,Y=(capX p x o m):=⟨_,rfl⟩;rw[<-hY]at hRt hRB hW2 hX;clear hY;have hB:=aam (.rcv a Y P2);have hP:=(parts_fact (.rcv a Y P2)).pf;have hW3:=aa7 hW2
  by_cases hXo:Y=o
  ·rw[if_pos hXo]at hRB
   have hr2:aaT (.rcv a x p) o m=some (Tm.mapU (fun c=>sw c o m) (Tm.rcv a Y P2)):=by
    unfold aaT;rw[hRt,hRB,if_pos (by simp only[Tm.ok,bae];exact⟨⟨afi ht.1.1 hm,hX⟩,hok2⟩)];rfl
   subst hXo;exact(apb _ _ _ _ _ hq _ _ _ _ _ _ _ _ (by simp) w hP hF hH hW3 hB (fun bk w hc=>aaD (.rcv a Y P2) P2 P2 rfl bk 1 w (by omega) hc) (fun v h1 h2=>ago (Tm.rcv a Y P2) Y m _ _ v h1 h2)).mono fun _ _ h=>aas.yes hr2 h
  ·rw[if_neg hXo]at hRB;have hI:=ih P2 o m hsz hok2 ho hm
   by_cases hok:(R P2 o m).ok nmL=true
   ·have hr:aaT P2 o m=some (R P2 o m):=by unfold aaT;rw[if_pos hok]
    rw[hr]at hI
    have hr2:aaT (.rcv a x p) o m=some (Tm.mapU (fun c=>sw c o m) (Tm.rcv a Y (R P2 o m))):=by
     unfold aaT;rw[hRt,hRB,if_pos (by simp only[Tm.ok,bae];exact⟨⟨afi ht.1.1 hm,hX⟩,hok⟩)];rfl
    obtain⟨r,hr0⟩:∃r,r=R P2 o m:=⟨_,rfl⟩;rw[<-hr0]at hI hr2;exact(apc _ _ _ _ _ hq _ _ _ _ _ _ _ _ _ _ _ (by rw[agZ];simp[hXo]) w hP hF hH hW3 hB (aa7 hI) (fun bk w hc=>aaD (.rcv a Y P2) P2 r rfl bk 1 w (by omega) hc) (fun v h1 h2=>ago (Tm.rcv a Y r) o m _ _ v h1 h2)).mono fun _ _ h=>aas.yes hr2 h
   ·have hr:aaT P2 o m=none:=by unfold aaT;rw[if_neg hok]
    rw[hr]at hI
    have hr2:aaT (.rcv a x p) o m=none:=by
     unfold aaT;rw[hRt,hRB,if_neg (fun h=>by simp only[Tm.ok,bae]at h;exact hok h.2)]
    exact(akN _ _ _ _ _ hq _ _ _ _ _ (by rw[agZ];simp[hXo]) w hP hF hH hW3 hB (abg hI)).mono fun _ _ h=>aas.no hr2 h
theorem awK (n:Nat)(ih:∀(t:Tm) (o m:UInt8),t.size<=n->t.ok nmL=true->nmL o=true->nmL m=true->∀w,Calls prog 160 #[.iface (aau t) (pay t),.int .u8 (o.toNat:Int),.int .u8 (m.toNat:Int)] w (aas (aaT t o m) w)) (x:UInt8)(p:Tm)(o m:UInt8)(hn:p.size<=n)(ht:((.own x p):Tm).ok nmL=true)(ho:nmL o=true)(hm:nmL m=true)(hq:(((o.toNat:Nat):Int)==((m.toNat:Nat):Int))=false)(hne:¬(o=m\/o∉((.own x p):Tm).free)) (hF:∀w,Calls prog 93 #[.iface (aau (.own x p)) (pay (.own x p))] w fun e w'=>e=.returned (.int .u32 (setN (Tm.free (.own x p)):Nat))/\Zb w w')(hH:Ze 142 #[.int .u32 (setN (Tm.free (.own x p)):Nat),.int .u8 (o.toNat:Int)] (.bool true))(w:World) : Calls prog 160 #[.iface (aau (.own x p)) (pay (.own x p)),.int .u8 (o.toNat:Int),.int .u8 (m.toNat:Int)] w (aas (aaT (.own x p) o m) w):=by
 have ht0:=ht;simp only[Tm.ok,bae]at ht;have hW:=al9 x o m p ht0 ht.1 ht.2 ho hm (fun y hy=>ih p m y hn ht.2 hm hy);have hRt:R (.own x p) o m=.own (capX p x o m) (RB p x o m):=afx hne
 obtain⟨P2,hP2⟩:∃P2,P2=if x=m/\o∈p.free then R p x (capX p x o m) else p:=⟨_,rfl⟩
 have hsz:P2.size<=n:=by
  rw[hP2];split
  ·rw[R_size];exact hn
  ·exact hn
 have hRB:RB p x o m=if (capX p x o m)=o then P2 else R P2 o m:=by unfold RB;rw[hP2]
 by_cases hbad:x=m/\o∈p.free/\¬(nmL (capX p x o m)=true/\(R p x (capX p x o m)).ok nmL=true)
 ·have hr2:aaT (.own x p) o m=none:=by
   unfold aaT;rw[hRt,if_neg];intro h;simp only[Tm.ok,bae]at h;refine hbad.2.2 ⟨h.1,?_⟩;have h3:=h.2;rw[if_pos ⟨hbad.1,hbad.2.1⟩]at hP2;rw[hRB,hP2]at h3
   split at h3
   ·exact h3
   ·exact awI ho hm h3
  have hW1:∀w,Calls prog 179 #[.iface (aau (.own x p)) (pay (.own x p)),.int .u8 (o.toNat:Int),.int .u8 (m.toNat:Int)] w (aas none w):=fun w=>by
   have:=hW w;rw[if_pos ⟨hbad.1,hbad.2.1⟩,if_neg hbad.2.2]at this
   exact this
  exact(aiS _ _ _ _ _ hq w hF hH (abg hW1)).mono fun _ _ h=>aas.no hr2 h
 ·have hg:x=m/\o∈p.free->nmL (capX p x o m)=true/\(R p x (capX p x o m)).ok nmL=true:=fun hc=>Decidable.not_not.1 fun h=>hbad ⟨hc.1,hc.2,h⟩;have hXx:¬(x=m/\o∈p.free)->(capX p x o m)=x:=fun hc=>by unfold capX;rw[if_neg hc]
  have hW2:∀w,Calls prog 179 #[.iface (aau (.own x p)) (pay (.own x p)),.int .u8 (o.toNat:Int),.int .u8 (m.toNat:Int)] w (aas (some (.own (capX p x o m) P2)) w):=fun w=>by
   have hw:=hW w
   by_cases hc:x=m/\o∈p.free
   ·rw[if_pos hc,if_pos (hg hc)]at hw;rw[if_pos hc]at hP2;rw[hP2];exact hw
   ·rw[if_neg hc]at hw hP2;rw[hP2,hXx hc];exact hw
  have hX:nmL (capX p x o m)=true:=by
   by_cases hc:x=m/\o∈p.free
   ·exact(hg hc).1
   ·rw[hXx hc];exact ht.1
  have hok2:P2.ok nmL=true:=by
   rw[hP2];split
   ·rename_i hc;exact(hg hc).2
   ·exact ht.2
  clear hP2 hbad hg hXx hW ht0;obtain⟨Y,hY⟩:∃Y,Y=(capX p x o m):=⟨_,rfl⟩;rw[<-hY]at hRt hRB hW2 hX;clear hY;have hB:=aam (.own Y P2);have hP:=(parts_fact (.own Y P2)).pf;have hW3:=aa7 hW2
  by_cases hXo:Y=o
  ·rw[if_pos hXo]at hRB
   have hr2:aaT (.own x p) o m=some (Tm.mapU (fun c=>sw c o m) (Tm.own Y P2)):=by
    unfold aaT;rw[hRt,hRB,if_pos (by simp only[Tm.ok,bae];exact⟨hX,hok2⟩)];rfl
   subst hXo;exact(apb _ _ _ _ _ hq _ _ _ _ _ _ _ _ (by simp) w hP hF hH hW3 hB (fun bk w hc=>aaD (.own Y P2) P2 P2 rfl bk 1 w (by omega) hc) (fun v h1 h2=>ago (Tm.own Y P2) Y m _ _ v h1 h2)).mono fun _ _ h=>aas.yes hr2 h
  ·rw[if_neg hXo]at hRB;have hI:=ih P2 o m hsz hok2 ho hm
   by_cases hok:(R P2 o m).ok nmL=true
   ·have hr:aaT P2 o m=some (R P2 o m):=by unfold aaT;rw[if_pos hok]
    rw[hr]at hI
    have hr2:aaT (.own x p) o m=some (Tm.mapU (fun c=>sw c o m) (Tm.own Y (R P2 o m))):=by
     unfold aaT;rw[hRt,hRB,if_pos (by simp only[Tm.ok,bae];exact⟨hX,hok⟩)];rfl
    obtain⟨r,hr0⟩:∃r,r=R P2 o m:=⟨_,rfl⟩;rw[<-hr0]at hI hr2;exact(apc _ _ _ _ _ hq _ _ _ _ _ _ _ _ _ _ _ (by rw[agZ];simp[hXo]) w hP hF hH hW3 hB (aa7 hI) (fun bk w hc=>aaD (.own Y P2) P2 r rfl bk 1 w (by omega) hc) (fun v h1 h2=>ago (Tm.own Y r) o m _ _ v h1 h2)).mono fun _ _ h=>aas.yes hr2 h
   ·have hr:aaT P2 o m=none:=by unfold aaT;rw[if_neg hok]
    rw[hr]at hI
    have hr2:aaT (.own x p) o m=none:=by
     unfold aaT;rw[hRt,hRB,if_neg (fun h=>by simp only[Tm.ok,bae]at h;exact hok h.2)]
    exact(akN _ _ _ _ _ hq _ _ _ _ _ (by rw[agZ];simp[hXo]) w hP hF hH hW3 hB (abg hI)).mono fun _ _ h=>aas.no hr2 h
theorem agp (n:Nat):∀(t:Tm) (o m:UInt8),t.size<=n->t.ok nmL=true->nmL o=true->nmL m=true->∀w,Calls prog 160 #[.iface (aau t) (pay t),.int .u8 (o.toNat:Int),.int .u8 (m.toNat:Int)] w (aas (aaT t o m) w):=by
 induction n with
 | zero=>intro t o m h;have:=aao t;omega
 | succ n ih=>
  intro t o m hn ht ho hm w
  by_cases e:o=m
  ·subst e;have hr:aaT t o o=some t:=by unfold aaT;rw[abk _ _ _ (.inl rfl),if_pos ht]
   exact(at4 _ _ _ w).mono fun _ _ h=>aas.yes hr h
  have hq:(((o.toNat:Nat):Int)==((m.toNat:Nat):Int))=false:=by rw[u8_beq];exact decide_eq_false e
  have hF:=abD t ht;have hH:=ahK t ht o ho
  by_cases hf:o∈t.free
  case neg=>
   rw[decide_eq_false hf]at hH;have hr:aaT t o m=some t:=by unfold aaT;rw[abk _ _ _ (.inr hf),if_pos ht]
   exact(apa _ _ _ _ _ hq w hF hH).mono fun _ _ h=>aas.yes hr h
  rw[decide_eq_true hf]at hH;have hne:¬(o=m\/o∉t.free):=fun h=>h.elim e (fun h=>h hf)
  cases t with
  | nil=>simp[Tm.free]at hf
  | snd a b p=>
   simp only[Tm.size]at hn;have hB:=aam (.snd a b p);have hP:=(parts_fact (.snd a b p)).pf;simp only[Tm.ok,bae]at ht;have hI:=ih p o m (by omega) ht.2 ho hm
   by_cases hok:(R p o m).ok nmL=true
   ·have hr:aaT p o m=some (R p o m):=by unfold aaT;rw[if_pos hok]
    rw[hr]at hI
    have hr2:aaT (.snd a b p) o m=some (Tm.mapU (fun c=>sw c o m) (Tm.snd a b (R p o m))):=by
     unfold aaT;rw[aet hne,if_pos (by simp only[Tm.ok,bae];exact⟨⟨afi ht.1.1 hm,afi ht.1.2 hm⟩,hok⟩)];rfl
    exact(akM _ _ _ _ _ hq _ _ _ _ _ _ _ _ _ _ w hP hF hH (ad2 _ _ _ _ hB) hB (aa7 hI) (fun bk w hc=>aaD (.snd a b p) p (R p o m) rfl bk 1 w (by omega) hc) (fun v h1 h2=>ago (Tm.snd a b (R p o m)) o m _ _ v h1 h2)).mono fun _ _ h=>aas.yes hr2 h
   ·have hr:aaT p o m=none:=by unfold aaT;rw[if_neg hok]
    rw[hr]at hI
    have hr2:aaT (.snd a b p) o m=none:=by
     unfold aaT;rw[aet hne,if_neg (fun h=>by simp only[Tm.ok,bae]at h;exact hok h.2)]
    exact(ahJ _ _ _ _ _ hq _ _ _ _ w hP hF hH (ad2 _ _ _ _ hB) hB (abg hI)).mono fun _ _ h=>aas.no hr2 h
  | mat a b p=>
   simp only[Tm.size]at hn;have hB:=aam (.mat a b p);have hP:=(parts_fact (.mat a b p)).pf;simp only[Tm.ok,bae]at ht;have hI:=ih p o m (by omega) ht.2 ho hm
   by_cases hok:(R p o m).ok nmL=true
   ·have hr:aaT p o m=some (R p o m):=by unfold aaT;rw[if_pos hok]
    rw[hr]at hI
    have hr2:aaT (.mat a b p) o m=some (Tm.mapU (fun c=>sw c o m) (Tm.mat a b (R p o m))):=by
     unfold aaT;rw[aeu hne,if_pos (by simp only[Tm.ok,bae];exact⟨⟨afi ht.1.1 hm,afi ht.1.2 hm⟩,hok⟩)];rfl
    exact(akM _ _ _ _ _ hq _ _ _ _ _ _ _ _ _ _ w hP hF hH (ad2 _ _ _ _ hB) hB (aa7 hI) (fun bk w hc=>aaD (.mat a b p) p (R p o m) rfl bk 1 w (by omega) hc) (fun v h1 h2=>ago (Tm.mat a b (R p o m)) o m _ _ v h1 h2)).mono fun _ _ h=>aas.yes hr2 h
   ·have hr:aaT p o m=none:=by unfold aaT;rw[if_neg hok]
    rw[hr]at hI
    have hr2:aaT (.mat a b p) o m=none:=by
     unfold aaT;rw[aeu hne,if_neg (fun h=>by simp only[Tm.ok,bae]at h;exact hok h.2)]
    exact(ahJ _ _ _ _ _ hq _ _ _ _ w hP hF hH (ad2 _ _ _ _ hB) hB (abg hI)).mono fun _ _ h=>aas.no hr2 h
  | tau p=>
   simp only[Tm.size]at hn;have hB:=aam (.tau p);have hP:=(parts_fact (.tau p)).pf;simp only[Tm.ok]at ht;have hI:=ih p o m (by omega) ht ho hm
   by_cases hok:(R p o m).ok nmL=true
   ·have hr:aaT p o m=some (R p o m):=by unfold aaT;rw[if_pos hok]
    rw[hr]at hI
    have hr2:aaT (.tau p) o m=some (Tm.mapU (fun c=>sw c o m) (Tm.tau (R p o m))):=by
     unfold aaT;rw[aev hne,if_pos (by simp only[Tm.ok];exact hok)];rfl
    exact(akM _ _ _ _ _ hq _ _ _ _ _ _ _ _ _ _ w hP hF hH (ad2 _ _ _ _ hB) hB (aa7 hI) (fun bk w hc=>aaD (.tau p) p (R p o m) rfl bk 1 w (by omega) hc) (fun v h1 h2=>ago (Tm.tau (R p o m)) o m _ _ v h1 h2)).mono fun _ _ h=>aas.yes hr2 h
   ·have hr:aaT p o m=none:=by unfold aaT;rw[if_neg hok]
    rw[hr]at hI
    have hr2:aaT (.tau p) o m=none:=by
     unfold aaT;rw[aev hne,if_neg (fun h=>by simp only[Tm.ok]at h;exact hok h)]
    exact(ahJ _ _ _ _ _ hq _ _ _ _ w hP hF hH (ad2 _ _ _ _ hB) hB (abg hI)).mono fun _ _ h=>aas.no hr2 h
  | rep p=>
   simp only[Tm.size]at hn;have hB:=aam (.rep p);have hP:=(parts_fact (.rep p)).pf;simp only[Tm.ok]at ht;have hI:=ih p o m (by omega) ht ho hm
   by_cases hok:(R p o m).ok nmL=true
   ·have hr:aaT p o m=some (R p o m):=by unfold aaT;rw[if_pos hok]
    rw[hr]at hI
    have hr2:aaT (.rep p) o m=some (Tm.mapU (fun c=>sw c o m) (Tm.rep (R p o m))):=by
     unfold aaT;rw[aew hne,if_pos (by simp only[Tm.ok];exact hok)];rfl
    exact(akM _ _ _ _ _ hq _ _ _ _ _ _ _ _ _ _ w hP hF hH (ad2 _ _ _ _ hB) hB (aa7 hI) (fun bk w hc=>aaD (.rep p) p (R p o m) rfl bk 1 w (by omega) hc) (fun v h1 h2=>ago (Tm.rep (R p o m)) o m _ _ v h1 h2)).mono fun _ _ h=>aas.yes hr2 h
   ·have hr:aaT p o m=none:=by unfold aaT;rw[if_neg hok]
    rw[hr]at hI
    have hr2:aaT (.rep p) o m=none:=by
     unfold aaT;rw[aew hne,if_neg (fun h=>by simp only[Tm.ok]at h;exact hok h)]
    exact(ahJ _ _ _ _ _ hq _ _ _ _ w hP hF hH (ad2 _ _ _ _ hB) hB (abg hI)).mono fun _ _ h=>aas.no hr2 h
  | sum p q=>
   simp only[Tm.size]at hn;have hB:=aam (.sum p q);have hP:=(parts_fact (.sum p q)).pf;simp only[Tm.ok,bae]at ht;have hI:=ih p o m (by omega) ht.1 ho hm;have hI2:=ih q o m (by omega) ht.2 ho hm
   by_cases hok:(R p o m).ok nmL=true
   ·have hr:aaT p o m=some (R p o m):=by unfold aaT;rw[if_pos hok]
    rw[hr]at hI
    by_cases hok2:(R q o m).ok nmL=true
    ·have hr1:aaT q o m=some (R q o m):=by unfold aaT;rw[if_pos hok2]
     rw[hr1]at hI2
     have hr2:aaT (.sum p q) o m=some (Tm.mapU (fun c=>sw c o m) (Tm.sum (R p o m) (R q o m))):=by
      unfold aaT;rw[adI hne,if_pos (by simp only[Tm.ok,bae];exact⟨hok,hok2⟩)];rfl
     exact(asT _ _ _ _ _ hq _ _ _ _ _ _ _ _ _ _ _ _ _ _ w hP hF hH (ad2 _ _ _ _ hB) hB (aa7 hI) (aa7 hI2) (fun bk w hc hc1=>acx (.sum p q) p q (R p o m) (R q o m) rfl bk 2 w (by omega) hc hc1) (fun v h1 h2=>ago (Tm.sum (R p o m) (R q o m)) o m _ _ v h1 h2)).mono fun _ _ h=>aas.yes hr2 h
    ·have hr1:aaT q o m=none:=by unfold aaT;rw[if_neg hok2]
     rw[hr1]at hI2
     have hr2:aaT (.sum p q) o m=none:=by
      unfold aaT;rw[adI hne,if_neg (fun h=>by simp only[Tm.ok,bae]at h;exact hok2 h.2)]
     exact(ape _ _ _ _ _ hq _ _ _ _ _ _ _ _ w hP hF hH (ad2 _ _ _ _ hB) hB (aa7 hI) (abg hI2)).mono fun _ _ h=>aas.no hr2 h
   ·have hr:aaT p o m=none:=by unfold aaT;rw[if_neg hok]
    rw[hr]at hI
    have hr2:aaT (.sum p q) o m=none:=by
     unfold aaT;rw[adI hne,if_neg (fun h=>by simp only[Tm.ok,bae]at h;exact hok h.1)]
    exact(apd _ _ _ _ _ hq _ _ _ _ _ _ w hP hF hH (ad2 _ _ _ _ hB) hB (abg hI)).mono fun _ _ h=>aas.no hr2 h
  | par p q=>
   simp only[Tm.size]at hn;have hB:=aam (.par p q);have hP:=(parts_fact (.par p q)).pf;simp only[Tm.ok,bae]at ht;have hI:=ih p o m (by omega) ht.1 ho hm;have hI2:=ih q o m (by omega) ht.2 ho hm
   by_cases hok:(R p o m).ok nmL=true
   ·have hr:aaT p o m=some (R p o m):=by unfold aaT;rw[if_pos hok]
    rw[hr]at hI
    by_cases hok2:(R q o m).ok nmL=true
    ·have hr1:aaT q o m=some (R q o m):=by unfold aaT;rw[if_pos hok2]
     rw[hr1]at hI2
     have hr2:aaT (.par p q) o m=some (Tm.mapU (fun c=>sw c o m) (Tm.par (R p o m) (R q o m))):=by
      unfold aaT;rw[ae6 hne,if_pos (by simp only[Tm.ok,bae];exact⟨hok,hok2⟩)];rfl
     exact(asT _ _ _ _ _ hq _ _ _ _ _ _ _ _ _ _ _ _ _ _ w hP hF hH (ad2 _ _ _ _ hB) hB (aa7 hI) (aa7 hI2) (fun bk w hc hc1=>acx (.par p q) p q (R p o m) (R q o m) rfl bk 2 w (by omega) hc hc1) (fun v h1 h2=>ago (Tm.par (R p o m) (R q o m)) o m _ _ v h1 h2)).mono fun _ _ h=>aas.yes hr2 h
    ·have hr1:aaT q o m=none:=by unfold aaT;rw[if_neg hok2]
     rw[hr1]at hI2
     have hr2:aaT (.par p q) o m=none:=by
      unfold aaT;rw[ae6 hne,if_neg (fun h=>by simp only[Tm.ok,bae]at h;exact hok2 h.2)]
     exact(ape _ _ _ _ _ hq _ _ _ _ _ _ _ _ w hP hF hH (ad2 _ _ _ _ hB) hB (aa7 hI) (abg hI2)).mono fun _ _ h=>aas.no hr2 h
   ·have hr:aaT p o m=none:=by unfold aaT;rw[if_neg hok]
    rw[hr]at hI
    have hr2:aaT (.par p q) o m=none:=by
     unfold aaT;rw[ae6 hne,if_neg (fun h=>by simp only[Tm.ok,bae]at h;exact hok h.1)]
    exact(apd _ _ _ _ _ hq _ _ _ _ _ _ w hP hF hH (ad2 _ _ _ _ hB) hB (abg hI)).mono fun _ _ h=>aas.no hr2 h
  | rcv a x p=>simp only[Tm.size]at hn;exact awJ n ih a x p o m (by omega) ht ho hm hq hne hF hH w
  | own x p=>simp only[Tm.size]at hn;exact awK n ih x p o m (by omega) ht ho hm hq hne hF hH w
end Go.Proofs.YtihmcgcgjmbmhaaGreat.T1
