/- Texts of the proof. No conditions. -/
import Derived.Test.YtalegefnppbkdaaGreatQac
import Derived.Test.YtalegefnppbkdaaGreatQaf
import Derived.Test.YtalegefnppbkdaaGreatQah
namespace Go.Proofs.YtalegefnppbkdaaGreat.T1
open Go.Proofs.Tryz
set_option maxHeartbeats 1000000
open Go.RowKit
set_option maxRecDepth 100000
def CntI (bf bn:Nat)(fv:Value)(hp:Tm->Bool)(J:World->Prop)(acc:List Tm)(w:World):Prop:=
 (∃Tf,w.heap[bf]?=some (.cells #[fv] Tf (0,0)))/\(∃Tn,w.heap[bn]?=some (.cells #[.int .i64 (wrap64 (acc.countP hp:Nat))] Tn (0,0)))/\J w
theorem amK (x:Int):-9223372036854775808<=wrap64 x/\wrap64 x<=9223372036854775807:=by unfold wrap64;omega
theorem ai1 (c:Nat):wrap64 (wrap64 (c:Int)+1)=wrap64 ((c+1:Nat):Int):=by unfold wrap64;omega
theorem auD (bf bn:Nat)(HF:FuncId)(hcaps:Array Value)(hp:Tm->Bool)(J:World->Prop)(B:Nat)(hne:bf≠bn)(hB:B<=bn) (hFH:∀args w,(callFunc HF args).run prog w=.ok (.enter HF args) w)(hJ:∀w w',J w->Below B w w'->J w') (T:TypeId)(V:Value)(t:Tm)(hH:∀w,J w->Calls prog HF (#[.iface T V]++hcaps) w fun e w'=>e=.returned (.bool (hp t))/\Zb w w') (acc:List Tm)(w:World)(h0:CntI bf bn (.func (.func HF) #[] hcaps) hp J acc w)(hBw:B<=w.heap.size) : Calls prog 147 #[.iface T V,.pointer (some ⟨bf,0,none⟩),.pointer (some ⟨bn,0,none⟩)] w (VisPost bn (CntI bf bn (.func (.func HF) #[] hcaps) hp J) (acc++[t]) w):=by
 obtain⟨⟨Tf,hf⟩,⟨Tn,hn⟩,j0⟩:=h0;have cf:=aah hf;have Hf:=qz hf;have Hn:=qz hn;have HH:=qz hH;have HJ:=qz hJ;clear hf hn hH hJ
 cases hq:hp t with
 | true=>
  have Hq:Hid ((acc++[t]).countP hp=acc.countP hp+1):=by simp[Hid,hq]
  have HH2:Hid (Calls prog HF (#[.iface T V]++hcaps) w fun e w'=>e=.returned (.bool true)/\Zb w w'):=by have:=HH.out w j0;rw[hq]at this;exact this
  clear HH hq
  go_enter func147,ntmps147
  go_wp2_with fail;refine(HH2.out).mono ?_;rintro e w1 ⟨rfl,bl⟩;have hn1:=(bl.block bn (lt_of_block Hn.out)).trans Hn.out;have hf1:=(bl.block bf (lt_of_block Hf.out)).trans Hf.out;obtain⟨x,hx⟩:∃x,x=wrap64 (acc.countP hp:Nat):=⟨_,rfl⟩;rw[<-hx]at hn1;have cn:=aah hn1;have fn:=free_of_one hn1;have Hn1:=qz hn1;have Hf1:=qz hf1;have xb:=amK (acc.countP hp:Nat);rw[<-hx]at xb;have Hx:=qz hx;have HJ1:Hid (J w1):=HJ.out _ _ j0 (bl.mono hBw);clear hn1 hf1 hx cf j0;go_wp2_with fail;go_end0;refine⟨rfl,⟨⟨Tf,?_⟩,⟨Tn,?_⟩,?_⟩,?_⟩
  ·rw[Below.heap_setCell _ _ _ _ hne];exact Hf1.out
  ·rw[one_setCell Hn1.out,Hq.out,<-ai1,<-Hx.out]
  ·exact HJ.out _ _ HJ1.out ((Below.refl _ _).setCell hB _)
  ·exact((Only.refl bn w).below bl).setCell _ _ _
 | false=>
  have Hq:Hid ((acc++[t]).countP hp=acc.countP hp):=by simp[Hid,hq]
  have HH2:Hid (Calls prog HF (#[.iface T V]++hcaps) w fun e w'=>e=.returned (.bool false)/\Zb w w'):=by have:=HH.out w j0;rw[hq]at this;exact this
  clear HH hq
  go_enter func147,ntmps147
  go_wp2_with fail;refine(HH2.out).mono ?_;rintro e w1 ⟨rfl,bl⟩;have HJ1:Hid (J w1):=HJ.out _ _ j0 (bl.mono hBw);clear cf j0;go_wp2_with fail;go_end0;refine⟨rfl,⟨⟨Tf,(bl.block bf (lt_of_block Hf.out)).trans Hf.out⟩,⟨Tn,?_⟩,HJ1.out⟩,(Only.refl bn w).below bl⟩;rw[Hq.out];exact(bl.block bn (lt_of_block Hn.out)).trans Hn.out
theorem cf_c1 (args:Array Value)(w:World):(callFunc 147 args).run prog w=.ok (.enter 147 args) w:=by kernel_rfl
theorem ajD (t:Tm):t.subs.length=t.size:=by
 induction t<;>simp_all [Tm.subs,Tm.size]<;>omega
theorem ab4 (w:World)(o o':Obj):((w.alloc o).alloc o').heap[w.heap.size]?=some o:=by
 show ((w.heap.push o).push o')[w.heap.size]?=_;rw[Array.getElem?_push,if_neg (by simp),Array.getElem?_push,if_pos rfl]
theorem acw (HF:FuncId)(hcaps:Array Value)(hp:Tm->Bool)(J:World->Prop) (hFH:∀args w,(callFunc HF args).run prog w=.ok (.enter HF args) w) (hH:∀t w,J w->Calls prog HF (#[.iface (aaB t) (pay t)]++hcaps) w fun e w'=>e=.returned (.bool (hp t))/\Zb w w') (t:Tm)(ht:t.size<=1000)(w:World)(hJ:∀w1 w',J w1->Below w.heap.size w1 w'->J w')(j0:J w) : Calls prog 109 #[.iface (aaB t) (pay t),.func (.func HF) #[] hcaps] w fun e w'=>e=.returned (.int .i64 (t.subs.countP hp:Nat))/\Zb w w':=by
 have HV:=qz (ahQ 147 #[.pointer (some ⟨w.heap.size,0,none⟩),.pointer (some ⟨w.heap.size+1,0,none⟩)] (w.heap.size+1)
  (fun acc w1=>CntI w.heap.size (w.heap.size+1) (.func (.func HF) #[] hcaps) hp J acc w1) cf_c1
  (fun acc w1 w' h bl=>by
   obtain⟨⟨Tf,hf⟩,⟨Tn,hn⟩,j⟩:=h
   exact⟨⟨Tf,(bl.block _ (lt_of_block hf)).trans hf⟩,⟨Tn,(bl.block _ (lt_of_block hn)).trans hn⟩,hJ _ _ j (bl.mono (Nat.le_of_lt (lt_of_block hf)))⟩)
  (fun acc w1 h=>by obtain⟨_,⟨Tn,hn⟩,_⟩:=h;exact lt_of_block hn)
  (fun t acc w1 h=>auD _ _ HF hcaps hp J w.heap.size (by omega) (by omega) hFH hJ _ _ t (fun w2 j=>hH t w2 j) acc w1 h (by obtain⟨⟨Tf,hf⟩,_⟩:=h;exact Nat.le_of_lt (lt_of_block hf))) t)
 have HJ:=qz hJ;have J0:=qz j0
 have hc:Hid (wrap64 ((t.subs.countP hp:Nat):Int)=((t.subs.countP hp:Nat):Int)):=by
  have h1:t.subs.countP hp<=t.subs.length:=List.countP_le_length;rw[ajD]at h1;exact IntWalk.wrap64_in _ (by omega)
 have H0:Hid (∀T1 T2,CntI w.heap.size (w.heap.size+1) (.func (.func HF) #[] hcaps) hp J [] ((w.alloc (.cells #[.func (.func HF) #[] hcaps] T1)).alloc (.cells #[.int .i64 0] T2))):=
  fun T1 T2=>⟨⟨T1,ab4 _ _ _⟩,⟨T2,(abj _ _ _).trans (by simp[wrap64])⟩,hJ _ _ j0 (aaM _ _ _)⟩
 clear hJ hH j0;obtain⟨T,hT⟩:∃T,T=aaB t:=⟨_,rfl⟩;obtain⟨V,hV⟩:∃V,V=pay t:=⟨_,rfl⟩;obtain⟨N,hN⟩:∃N,N=t.subs.countP hp:=⟨_,rfl⟩;rw[<-hT,<-hV]at HV ⊢;rw[<-hN]at hc ⊢;have HN:=qz hN;clear hT hV hN
 go_enter func109,ntmps109
 go_wp2_with fail;refine((HV.out) [] _ (H0.out _ _)).mono ?_;rintro e w1 ⟨rfl,⟨_,⟨Tn,hn⟩,_⟩,o1⟩;rw[List.nil_append,<-HN.out,hc.out]at hn;have cn:=aah hn;go_wp2_with fail;go_ret;exact⟨rfl,Below.only (aaM _ _ _) o1 (by omega) (by simp;omega)⟩
theorem amL (T:TypeId)(V:Value)(w:World):Calls prog 110 (#[.iface T V]++#[]) w fun e w'=>e=.returned (.bool true)/\Zb w w':=by
 show Calls prog 110 #[.iface T V] w _
 go_enter func110,ntmps110
 go_wp2_with fail;go_ret;exact⟨rfl,Below.refl _ _⟩
theorem awr (args:Array Value)(w:World):(callFunc 110 args).run prog w=.ok (.enter 110 args) w:=by kernel_rfl
theorem ajE (t:Tm)(ht:t.size<=1000)(w:World):Calls prog 84 #[.iface (aaB t) (pay t)] w fun e w'=>e=.returned (.int .i64 (t.size:Nat))/\Zb w w':=by
 have HC:=acw 110 #[] (fun _=>true) (fun _=>True) awr (fun t w _=>amL _ _ w) t ht w (fun _ _ _ _=>trivial) trivial;rw[List.countP_true,ajD]at HC;obtain⟨T,hT⟩:∃T,T=aaB t:=⟨_,rfl⟩;obtain⟨V,hV⟩:∃V,V=pay t:=⟨_,rfl⟩;obtain⟨N,hN⟩:∃N,N=t.size:=⟨_,rfl⟩;rw[<-hT,<-hV]at HC ⊢;rw[<-hN]at HC ⊢;have H:=qz HC;clear hT hV hN HC
 go_enter func84,ntmps84
 go_wp2_with fail;refine(H.out).mono ?_;rintro e w1 ⟨rfl,bl⟩;go_wp2_with fail;go_ret;exact⟨rfl,bl⟩
noncomputable def good (l:List UInt8):Option Tm:=
 if l.length<=300 then
  match E nmL l with
  | some (t,[])=>if t.size<=60 then some t else none
  | _=>none
 else none
theorem amM {l:List UInt8}(h:300<l.length):good l=none:=by rw[good,if_neg (by omega)]
theorem amN {l:List UInt8}(h:E nmL l=none):good l=none:=by unfold good;rw[h];split<;>rfl
theorem amO {l r:List UInt8}{t:Tm}(h:E nmL l=some (t,r))(hr:r≠[]):good l=none:=by
 unfold good;rw[h]
 cases r with
 | nil=>exact absurd rfl hr
 | cons c r=>split<;>rfl
theorem agh {l:List UInt8}{t:Tm}(h:E nmL l=some (t,[]))(ht:60<t.size):good l=none:=by
 unfold good;rw[h]
 split
 ·simp only[];rw[if_neg (by omega)]
 ·rfl
theorem agP {l:List UInt8}{t:Tm}(hl:l.length<=300)(h:E nmL l=some (t,[]))(ht:t.size<=60):good l=some t:=by
 unfold good;rw[h,if_pos hl];simp only[];rw[if_pos ht]
theorem aeJ {l:List UInt8}{t:Tm}(h:good l=some t):l.length<=300/\l=t.pr/\t.ok nmL=true/\t.size<=60:=by
 unfold good at h
 split at h
 ·rename_i hl
  split at h
  ·rename_i t' he
   split at h
   ·rename_i ht
    cases h;have:=(aa9 aa2).1 he;exact⟨hl,by have h2:=this.1;rw[List.append_nil]at h2;exact h2,this.2,ht⟩
   ·cases h
  ·cases h
 ·cases h
def amP (s:ByteArray)(w:World)(e:Ending)(w':World):Prop:=
 ((∃t,good s.data.toList=some t/\e=.returned (.tuple #[.iface (aaB t) (pay t),.bool true]))\/(good s.data.toList=none/\e=.returned (.tuple #[.nilIface,.bool false])))/\Zb w w'
theorem amQ (w:World)(o:Obj):(w.alloc o).heap[w.heap.size]?=some o:=by
 show (w.heap.push o)[w.heap.size]?=_;rw[Array.getElem?_push,if_pos rfl]
theorem ahV (s:ByteArray)(w:World)(hm:s.size<=9223372036854775807):Calls prog 50 #[.string s] w (amP s w):=by
 by_cases hs:s.size<=300
 ·have HR:Hid (∀T,RdAt (w.alloc (.cells #[.string s,.int .i64 0] T)) w.heap.size s 0):=fun T=>⟨T,amQ _ _⟩;have HL:Hid (s.data.toList.length=s.size):=by simp[Hid]
  go_enter func50,ntmps50
  go_wp2_with fail;refine(ai0 w.heap.size s hs 0 _ (Nat.zero_le _) (HR.out _)).mono ?_;rintro e w1 (⟨t,m,rfl,r1,o1,h1,h2,e1⟩|⟨v,rfl,o1,e1⟩)
  ·have HE:Hid (E nmL s.data.toList=some (t,s.data.toList.drop m)):=e1
   have hsz:t.size<=300:=by
    have h3:=(aa9 aa2).1 HE.out;have h4:=aaO t;have h5:s.data.toList.length=t.pr.length+(s.data.toList.drop m).length:=by rw[<-lla,<-h3.1]
    rw[HL.out]at h5;omega
   have HS:=fun w=>ajE t (by omega) w;clear e1;have hB:Zb w w1:=Below.only (bra) o1 (nl _) (by simp);have c1:=r1.c1
   by_cases hme:m=s.size
   ·have t1:((m:Int) != (s.size:Int))=false:=by rw[hme];simp
    have HE2:Hid (E nmL s.data.toList=some (t,[])):=by have:=HE.out;rw[List.drop_of_length_le (by rw[HL.out];omega)]at this;exact this
    by_cases ht:t.size<=60
    ·have HG:Hid (good s.data.toList=some t):=agP (by rw[HL.out];exact hs) HE2.out ht;obtain⟨T,hT⟩:∃T,T=aaB t:=⟨_,rfl⟩;obtain⟨V,hV⟩:∃V,V=pay t:=⟨_,rfl⟩;obtain⟨N,hN⟩:∃N,N=t.size:=⟨_,rfl⟩;rw[<-hT,<-hV,<-hN]at HS;rw[<-hT,<-hV];rw[<-hN]at ht;have HTV:Hid (T=aaB t/\V=pay t):=⟨hT,hV⟩;have HS2:=qz HS;clear hme hT hV hN HS;go_wp2_with fail;refine(HS2.out _).mono ?_;rintro e w2 ⟨rfl,bl⟩;go_wp2_with fail;go_ret2;exact⟨.inl ⟨t,HG.out,by rw[<-HTV.out.1,<-HTV.out.2];rfl⟩,aab hB bl hB.size⟩
    ·have HG:Hid (good s.data.toList=none):=agh HE2.out (by omega);obtain⟨T,hT⟩:∃T,T=aaB t:=⟨_,rfl⟩;obtain⟨V,hV⟩:∃V,V=pay t:=⟨_,rfl⟩;obtain⟨N,hN⟩:∃N,N=t.size:=⟨_,rfl⟩;rw[<-hT,<-hV,<-hN]at HS;rw[<-hT,<-hV];rw[<-hN]at ht;have HS2:=qz HS;clear hme hT hV hN HS;go_wp2_with fail;refine(HS2.out _).mono ?_;rintro e w2 ⟨rfl,bl⟩;go_wp2_with fail;go_ret2;exact⟨.inr ⟨HG.out,rfl⟩,aab hB bl hB.size⟩
   ·have t1:((m:Int) != (s.size:Int))=true:=by simp;omega
    have HG:Hid (good s.data.toList=none):=amO HE.out (by intro h;have:=congrArg List.length h;rw[List.length_drop,HL.out]at this;simp at this;omega);obtain⟨T,hT⟩:∃T,T=aaB t:=⟨_,rfl⟩;obtain⟨V,hV⟩:∃V,V=pay t:=⟨_,rfl⟩;rw[<-hT,<-hV];clear hme hT hV HS;go_wp2_with fail;go_ret2;exact⟨.inr ⟨HG.out,rfl⟩,hB⟩
  ·have HG:Hid (good s.data.toList=none):=amN e1;have hB:Zb w w1:=Below.only (bra) o1 (nl _) (by simp);clear e1;go_wp2_with fail;go_ret2;exact⟨.inr ⟨HG.out,rfl⟩,hB⟩
 ·have HG:Hid (good s.data.toList=none):=amM (by simp;omega)
  go_enter func50,ntmps50
  go_wp2_with fail;go_ret2;exact⟨.inr ⟨HG.out,rfl⟩,Below.refl _ _⟩
theorem asi (s:ByteArray)(HP:∀w,Calls prog 72 #[.string s] w (PartsS [] w))(w:World) : Calls prog 80 #[.string s] w fun e w'=>e=.returned (.int .i64 1)/\Zb w w':=by
 have H:=qz HP;clear HP
 go_enter func80,ntmps80
 go_wp2_with fail;refine(H.out _).mono ?_;rintro e w1 ⟨rfl,bl⟩;go_wp2_with fail;refine wp_loop_rounds 1 ?_;rw[rounds_succ];go_wp2_with fail;go_ret;exact⟨rfl,bl⟩
theorem aea (s u:ByteArray)(n:Nat)(hn:n<=1000)(HP:∀w,Calls prog 72 #[.string s] w fun e w'=>∃b,e=.returned (.slice (some ⟨b,0,none⟩) 1 1)/\w.heap.size<=b/\w'.heap[b]?=some (.cells #[.string u] 9 (0,0))/\Zb w w') (ih:Zr 80 #[.string u] (.int .i64 (n:Int)))(w:World) : Calls prog 80 #[.string s] w fun e w'=>e=.returned (.int .i64 (1+(n:Int)))/\Zb w w':=by
 have H:=qz HP;have IH:=qz ih;clear HP ih
 go_enter func80,ntmps80
 go_wp2_with fail;refine(H.out _).mono ?_;rintro e w1 ⟨b,rfl,hb,hh,bl⟩;have c0:=aah hh;clear hh;go_wp2_with fail;refine wp_loop_rounds 2 ?_;rw[rounds_succ];go_wp2_with fail;refine(IH.out _).mono ?_;rintro e w2 ⟨rfl,bl2⟩;clear c0;go_wp2_with fail;rw[rounds_succ];go_wp2_with fail;go_ret;exact⟨rfl,aab bl bl2 bl.size⟩
theorem amR (s u v:ByteArray)(n m:Nat)(hn:n<=1000)(hm:m<=1000)(HP:∀w,Calls prog 72 #[.string s] w fun e w'=>∃b,e=.returned (.slice (some ⟨b,0,none⟩) 2 2)/\w.heap.size<=b/\w'.heap[b]?=some (.cells #[.string u,.string v] 9 (0,0))/\Zb w w') (ih:Zr 80 #[.string u] (.int .i64 (n:Int)))(ih2:Zr 80 #[.string v] (.int .i64 (m:Int)))(w:World) : Calls prog 80 #[.string s] w fun e w'=>e=.returned (.int .i64 (1+(n:Int)+(m:Int)))/\Zb w w':=by
 have H:=qz HP;have IH:=qz ih;have IH2:=qz ih2;clear HP ih ih2
 go_enter func80,ntmps80
 go_wp2_with fail;refine(H.out _).mono ?_;rintro e w1 ⟨b,rfl,hb,hh,bl⟩;have c0:=aai hh;have Hh:=qz hh;clear hh;go_wp2_with fail;refine wp_loop_rounds 3 ?_;rw[rounds_succ];go_wp2_with fail;refine(IH.out _).mono ?_;rintro e w2 ⟨rfl,bl2⟩;have h2:=(bl2.block b (lt_of_block Hh.out)).trans Hh.out;clear c0;have c1:=aak h2;clear h2;go_wp2_with fail;rw[rounds_succ];go_wp2_with fail;refine(IH2.out _).mono ?_;rintro e w3 ⟨rfl,bl3⟩;clear c1;go_wp2_with fail;rw[rounds_succ];go_wp2_with fail;go_ret;exact⟨rfl,aab (aab bl bl2 bl.size) bl3 (Nat.le_trans bl.size bl2.size)⟩
theorem akZ (t:Tm):t.ok nmE=true->t.pr.length<=700->∀(w:World),Calls prog 80 #[.string (S t)] w fun e w'=>e=.returned (.int .i64 (t.size:Nat))/\Zb w w':=by
 have conv:∀(t:Tm) (n:Int),n=(t.size:Nat)->(Zr 80 #[.string (S t)] (.int .i64 n))->Zr 80 #[.string (S t)] (.int .i64 (t.size:Nat)):=by
  intro t n h hc;rw[h]at hc;exact hc
 induction t with
 | nil=>exact fun ho hl=>asi _ (aaf .nil ho hl)
 | snd a b p ih=>
  intro ho hl;have hq:=aaO p;have ho':=ho;simp only[Tm.ok,bae]at ho';have hl':=hl;simp only[Tm.pr,List.length_cons]at hl';exact conv _ _ (by simp only[Tm.size];omega) (aea _ _ p.size (by omega) (aaf (.snd a b p) ho hl) (ih ho'.2 (by omega)))
 | rcv a b p ih=>
  intro ho hl;have hq:=aaO p;have ho':=ho;simp only[Tm.ok,bae]at ho';have hl':=hl;simp only[Tm.pr,List.length_cons]at hl';exact conv _ _ (by simp only[Tm.size];omega) (aea _ _ p.size (by omega) (aaf (.rcv a b p) ho hl) (ih ho'.2 (by omega)))
 | mat a b p ih=>
  intro ho hl;have hq:=aaO p;have ho':=ho;simp only[Tm.ok,bae]at ho';have hl':=hl;simp only[Tm.pr,List.length_cons]at hl';exact conv _ _ (by simp only[Tm.size];omega) (aea _ _ p.size (by omega) (aaf (.mat a b p) ho hl) (ih ho'.2 (by omega)))
 | own x p ih=>
  intro ho hl;have hq:=aaO p;have ho':=ho;simp only[Tm.ok,bae]at ho';have hl':=hl;simp only[Tm.pr,List.length_cons]at hl';exact conv _ _ (by simp only[Tm.size];omega) (aea _ _ p.size (by omega) (aaf (.own x p) ho hl) (ih ho'.2 (by omega)))
 | tau p ih=>
  intro ho hl;have hq:=aaO p;have hl':=hl;simp only[Tm.pr,List.length_cons]at hl';exact conv _ _ (by simp only[Tm.size];omega) (aea _ _ p.size (by omega) (aaf (.tau p) ho hl) (ih ho (by omega)))
 | rep p ih=>
  intro ho hl;have hq:=aaO p;have hl':=hl;simp only[Tm.pr,List.length_cons]at hl';exact conv _ _ (by simp only[Tm.size];omega) (aea _ _ p.size (by omega) (aaf (.rep p) ho hl) (ih ho (by omega)))
 | sum p q ih ih2=>
  intro ho hl;have hq:=aaO p;have hq2:=aaO q;have ho':=ho;simp only[Tm.ok,bae]at ho';have hl':=hl;simp only[Tm.pr,List.length_cons,lla]at hl';exact conv _ _ (by simp only[Tm.size];omega) (amR _ _ _ p.size q.size (by omega) (by omega) (aaf (.sum p q) ho hl) (ih ho'.1 (by omega)) (ih2 ho'.2 (by omega)))
 | par p q ih ih2=>
  intro ho hl;have hq:=aaO p;have hq2:=aaO q;have ho':=ho;simp only[Tm.ok,bae]at ho';have hl':=hl;simp only[Tm.pr,List.length_cons,lla]at hl';exact conv _ _ (by simp only[Tm.size];omega) (amR _ _ _ p.size q.size (by omega) (by omega) (aaf (.par p q) ho hl) (ih ho'.1 (by omega)) (ih2 ho'.2 (by omega)))
theorem asj (t:Tm)(h:t.ok nmL=true):t.ok nmE=true:=by
 have k:∀c,nmL c=true->nmE c=true:=fun c h=>by simp[nmL,nmE]at h ⊢;omega
 induction t<;>simp_all [Tm.ok]
theorem apV (t:Tm)(h:t.ok nmE=true)(hs:t.pr.all smB=true):t.ok nmL=true:=by
 have k:∀c,nmE c=true->smB c=true->nmL c=true:=fun c h h2=>by simp[nmL,nmE,smB]at h h2 ⊢;omega
 induction t<;>simp_all [Tm.ok,Tm.pr]
theorem apW (t:Tm)(h:t.ok nmL=true):t.pr.all smB=true:=by
 have k:∀c,nmL c=true->smB c=true:=fun c h=>by simp[nmL,smB]at h ⊢;omega
 induction t<;>simp_all [Tm.ok,Tm.pr,smB]
noncomputable def aeb (s:ByteArray):Bool:=(good s.data.toList).isSome
theorem amS {l:List UInt8}{t:Tm}(h:good l=some t):E nmE l=some (t,[])/\l.all smB=true:=by
 obtain⟨_,h2,h3,_⟩:=aeJ h;exact⟨(aa9 nmE_nm).2 ⟨by rw[h2,List.append_nil],asj t h3⟩,by rw[h2];exact apW t h3⟩
theorem adC {s:ByteArray}(h:∀t,good s.data.toList≠some t):aeb s=false:=by
 unfold aeb
 cases hg:good s.data.toList with
 | none=>rfl
 | some t=>exact absurd hg (h t)
theorem ahW {s:ByteArray}{t:Tm}(h:good s.data.toList=some t):aeb s=true:=by unfold aeb;rw[h];rfl
theorem awm {s:ByteArray}{t:Tm}(h:s.data.toList=t.pr):s=S t:=by
 apply ByteArray.ext
 apply Array.ext'
 exact h
theorem agi (s:ByteArray)(w:World)(hmax:s.size<=9223372036854775807):Calls prog 48 #[.string s] w fun e w'=>e=.returned (.bool (aeb s))/\Zb w w':=by
 have HL:Hid (s.data.toList.length=s.size):=by simp[Hid]
 by_cases hs:s.size<=300
 ·have HSM:=fun w=>aiW s w hs
  cases hsm:amo s with
  | false=>
   have HG:Hid (aeb s=false):=adC (fun t h=>by have:=(amS h).2;rw[show s.data.toList.all smB=amo s from rfl,hsm]at this;cases this);rw[hsm]at HSM;have H1:=qz HSM;clear HSM hsm
   go_enter func48,ntmps48
   go_wp2_with fail;refine(H1.out _).mono ?_;rintro e w1 ⟨rfl,rfl⟩;go_wp2_with fail;go_ret;exact⟨by rw[HG.out];rfl,Below.refl _ _⟩
  | true=>
   rw[hsm]at HSM;have H1:=qz HSM;have HS:Hid (s.data.toList.all smB=true):=hsm;clear HSM hsm;have HEN:=fun w=>aeT s (by omega) 710 0 w (by omega) (by omega);rcases endOf_cases nmE nmE_nm s 0 with⟨e1,E1⟩|⟨t,m,hm1,hm2,e1,E1⟩
   ·have HG:Hid (aeb s=false):=adC (fun t h=>by have:=(amS h).1;rw[List.drop_zero]at E1;rw[E1]at this;cases this);rw[e1]at HEN;have H2:Hid (Ze 79 #[.string s,.int .i64 0] (.int .i64 (-1))):=HEN;have t1:((-1:Int)==(s.size:Int))=false:=by rw[beq_eq_false_iff_ne];omega
    clear HEN e1 E1
    go_enter func48,ntmps48
    go_wp2_with fail;refine(H1.out _).mono ?_;rintro e w1 ⟨rfl,rfl⟩;go_wp2_with fail;refine(H2.out _).mono ?_;rintro e w1 ⟨rfl,rfl⟩;go_wp2_with fail;go_ret;exact⟨by rw[HG.out];rfl,Below.refl _ _⟩
   ·rw[e1]at HEN;have H2:Hid (Ze 79 #[.string s,.int .i64 0] (.int .i64 (m:Int))):=HEN;rw[List.drop_zero]at E1;clear HEN e1
    by_cases hms:m=s.size
    ·rw[List.drop_of_length_le (by rw[HL.out];omega)]at E1;have hr:=(aa9 nmE_nm).1 E1;have hl:s.data.toList=t.pr:=by have:=hr.1;rw[List.append_nil]at this;exact this
     have hokL:=apV t hr.2 (by rw[<-hl];exact HS.out);have hlen:t.pr.length<=300:=by rw[<-hl,HL.out];exact hs
     have H3:=akZ t hr.2 (by omega);rw[<-awm hl]at H3;have EL:E nmL s.data.toList=some (t,[]):=(aa9 aa2).2 ⟨by rw[hl,List.append_nil],hokL⟩;have t1:((m:Int)==(s.size:Int))=true:=by rw[hms];simp
     by_cases hts:t.size<=60
     ·have HG:Hid (aeb s=true):=ahW (agP (by rw[HL.out];exact hs) EL hts);obtain⟨N,hN⟩:∃N,N=t.size:=⟨_,rfl⟩;rw[<-hN]at H3 hts;have H3':=qz H3;clear E1 hr hl hokL hlen H3 EL hms hN
      go_enter func48,ntmps48
      go_wp2_with fail;refine(H1.out _).mono ?_;rintro e w1 ⟨rfl,rfl⟩;go_wp2_with fail;refine(H2.out _).mono ?_;rintro e w1 ⟨rfl,rfl⟩;go_wp2_with fail;refine(H3'.out _).mono ?_;rintro e w1 ⟨rfl,bl⟩;go_wp2_with fail;go_ret;exact⟨by rw[HG.out];exact abP (a:=decide ((N:Int)<=60)) (by simp;omega),bl⟩
     ·have HG:Hid (aeb s=false):=adC (fun t' h=>by rw[agh EL (by omega)]at h;cases h);obtain⟨N,hN⟩:∃N,N=t.size:=⟨_,rfl⟩;rw[<-hN]at H3 hts;have H3':=qz H3;clear E1 hr hl hokL hlen H3 EL hms hN
      go_enter func48,ntmps48
      go_wp2_with fail;refine(H1.out _).mono ?_;rintro e w1 ⟨rfl,rfl⟩;go_wp2_with fail;refine(H2.out _).mono ?_;rintro e w1 ⟨rfl,rfl⟩;go_wp2_with fail;refine(H3'.out _).mono ?_;rintro e w1 ⟨rfl,bl⟩;go_wp2_with fail;go_ret;exact⟨by rw[HG.out];exact abP (a:=decide ((N:Int)<=60)) (by simp;omega),bl⟩
    ·have HG:Hid (aeb s=false):=adC (fun t' h=>by
      have:=(amS h).1;rw[E1]at this
      have h5:=congrArg (Option.map (fun x:Tm × List UInt8=>x.2.length)) this
      simp at h5
      omega)
     have t1:((m:Int)==(s.size:Int))=false:=by rw[beq_eq_false_iff_ne];omega
     clear E1 hms
     go_enter func48,ntmps48
     go_wp2_with fail;refine(H1.out _).mono ?_;rintro e w1 ⟨rfl,rfl⟩;go_wp2_with fail;refine(H2.out _).mono ?_;rintro e w1 ⟨rfl,rfl⟩;go_wp2_with fail;go_ret;exact⟨by rw[HG.out];rfl,Below.refl _ _⟩
 ·have HG:Hid (aeb s=false):=adC (fun t h=>by have:=(aeJ h).1;rw[HL.out]at this;omega)
  go_enter func48,ntmps48
  go_wp2_with fail;go_ret;exact⟨by rw[HG.out];rfl,Below.refl _ _⟩
end Go.Proofs.YtalegefnppbkdaaGreat.T1
