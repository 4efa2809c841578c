/- Texts of the proof. No conditions. -/
import Derived.Test.YtalegefnppbkdaaGreatQay
import Derived.Test.YtalegefnppbkdaaGreatQbd
import Derived.Deep.MidRow
namespace Go.Proofs.YtalegefnppbkdaaGreat.T1
open Go.Proofs.Tryz
set_option maxHeartbeats 8000000
open Go.RowKit
open Go.Sort (Holds putRow putCells swp)
set_option maxRecDepth 100000
set_option linter.unusedVariables false
set_option linter.unusedSimpArgs false
theorem aoF (n:Int)(w:World):Calls prog 202 #[.int .u8 n] w fun e w'=>e=.returned (.bool false)/\w=w':=by
 go_enter func202,ntmps202
 go_wp2_with fail;go_ret;exact⟨rfl,rfl⟩
theorem atf (n0 n1:Int)(h:¬n0<n1)(w:World):Calls prog 196 #[.int .u8 n0,.int .u8 n1] w fun e w'=>e=.returned (.bool false)/\w=w':=by
 have H:=qz (aoF n0)
 go_enter func196,ntmps196
 go_wp2_with fail;refine(H.out _).mono ?_;rintro e w1 ⟨rfl,rfl⟩;go_wp2_with fail;go_ret;exact⟨by show Ending.returned (Value.bool (decide (n0<n1)))=_;rw[decide_eq_false (fun e=>by omega)],rfl⟩
theorem aoG (fs:List UInt8)(g cap n:Nat)(hn:n=fs.length)(hs:fs.Pairwise (·<·))(hn2:n<=1000)(hc:n<=cap)(w:World)(hH:Holds ub w g 0 fs.toArray) : Calls prog 190 #[.slice (some ⟨g,0,none⟩) n cap,.int .i64 0,.int .i64 (n:Int)] w fun e w'=>e=.returned (.tuple #[])/\∃q,w'=Sort.ahead w q:=by
 have HN:=qz hn;have HS:=qz hs;have HH:=qz hH;clear hn hs hH
 go_enter func190,ntmps190
 go_wp2_with fail
 go_loopg [6] n (fun k s6 wr=>(∃m:Nat,1<=m/\s6=.int .i64 (m:Int)/\n+1<=m+k)/\Hid (∃q,wr=Sort.ahead w q))
 case atStart=>exact⟨⟨1,by omega,by congr 1,by omega⟩,⟨0,rfl⟩⟩
 case round=>
  obtain⟨⟨m,hm1,rfl,hm2⟩,hwr⟩:=hrel;obtain⟨q,hq⟩:=hwr.out
  by_cases hlt:(m:Int)<(n:Int)
  ·have hm:m<fs.length:=by rw[<-HN.out];omega
   obtain⟨p,rfl⟩:∃p,m=p+1:=⟨m - 1,by omega⟩;have hp:p<fs.length:=by omega
   obtain⟨n0,hn0⟩:∃n0:Int,n0=(fs[p].toNat:Int):=⟨_,rfl⟩;obtain⟨n1,hn1⟩:∃n1:Int,n1=(fs[p+1].toNat:Int):=⟨_,rfl⟩;have c1:wr.cell? ⟨g,p,none⟩=some (.int .u8 n0):=by rw[hq,hn0];exact(abY HH.out p hp).1
   have c2:wr.cell? ⟨g,p+1,none⟩=some (.int .u8 n1):=by rw[hq,hn1];exact(abY HH.out (p+1) hm).1
   have hle:¬n1<n0:=by
    have:=List.pairwise_iff_getElem.1 HS.out p (p+1) hp hm (by omega);rw[abO]at this;omega
   have HL:=qz (atf n1 n0 hle);have hpos:(0:Int)<(p:Int)+1:=by omega
   have HQ:=qz hq;clear hq hwr hn0 hn1 hm hp hle;go_wp2_with fail;refine wp_loop_rounds 1 ?_;rw[rounds_succ];go_wp2_with fail
   go_quiet ((go_at_call 196;exact Calls.quiet_of_same ((HL.out _).mono fun _ _ hh=>⟨hh.1,hh.2.symm⟩)))
   go_wp2_with fail
   go_roundg (gk - 1)
   case rel=>exact⟨⟨p+2,by omega,by congr 1,by omega⟩,⟨q+nq,by rw[HQ.out,adr]⟩⟩
   case measure=>omega
  ·have HQ:=qz hq;clear hq hwr;go_wp2_with fail;go_end0;exact⟨rfl,q,HQ.out⟩
theorem aoH (fs:List UInt8)(g cap n:Nat)(l:Int)(hn:n=fs.length)(hs:fs.Pairwise (·<·))(hn2:n<=12)(hc:n<=cap)(w:World)(hH:Holds ub w g 0 fs.toArray) : Calls prog 188 #[.slice (some ⟨g,0,none⟩) n cap,.int .i64 0,.int .i64 (n:Int),.int .i64 l] w fun e w'=>e=.returned (.tuple #[])/\∃q,w'=Sort.ahead w q:=by
 have HI:=qz (aoG fs g cap n hn hs (by omega) hc w hH);clear hn hs hH
 go_enter func188,ntmps188
 go_wp2_with fail;refine wp_loop_rounds 1 ?_;rw[rounds_succ];go_wp2_with fail;refine(HI.out).mono ?_;rintro e w1 ⟨rfl,q,rfl⟩;go_wp2_with fail
 (try simp only[Exit.inBlock,Exit.then])
 refine bodyPost_ret (results_none rfl _ _ _) rfl ?_;exact⟨rfl,q,rfl⟩
theorem awH (fs:List UInt8)(g cap n:Nat)(hn:n=fs.length)(hs:fs.Pairwise (·<·))(hn2:n<=12)(hc:n<=cap)(w:World)(hH:Holds ub w g 0 fs.toArray) : Calls prog 180 #[.slice (some ⟨g,0,none⟩) n cap] w fun e w'=>e=.returned (.tuple #[])/\∃q,w'=Sort.ahead w q:=by
 have HP:=qz fun l=>aoH fs g cap n l hn hs hn2 hc w hH;have HB:=qz fun w=>Tryz.bits_Len (n:Int) w (by omega) (by omega);clear hn hs hH;obtain⟨b,hb⟩:∃b:Int,b=((Lib.bitLen ((n:Int)).toNat:Nat):Int):=⟨_,rfl⟩;rw[<-hb]at HB;have hw:IntKind.u64.wrap (n:Int)=(n:Int):=by rw[IntKind.wrap_u64]<;>omega
 clear hb
 go_enter func180,ntmps180
 go_wp2_with fail;refine(HB.out _).mono ?_;rintro e w1 ⟨rfl,rfl⟩;go_wp2_with fail;refine(HP.out _).mono ?_;rintro e w1 ⟨rfl,q,rfl⟩;go_wp2_with fail;go_end0;exact⟨rfl,q,rfl⟩
theorem atg (w:World):Calls prog 190 #[.slice none 0 0,.int .i64 0,.int .i64 0] w fun e w'=>e=.returned (.tuple #[])/\w'=w:=by
 go_enter func190,ntmps190
 go_wp2_with fail;refine wp_loop_rounds 1 ?_;rw[rounds_succ];go_wp2_with fail;go_end0;exact⟨rfl,rfl⟩
theorem ath (l:Int)(w:World):Calls prog 188 #[.slice none 0 0,.int .i64 0,.int .i64 0,.int .i64 l] w fun e w'=>e=.returned (.tuple #[])/\w'=w:=by
 have HI:=qz (atg w)
 go_enter func188,ntmps188
 go_wp2_with fail;refine wp_loop_rounds 1 ?_;rw[rounds_succ];go_wp2_with fail;refine(HI.out).mono ?_;rintro e w1 ⟨rfl,rfl⟩;go_wp2_with fail
 (try simp only[Exit.inBlock,Exit.then])
 refine bodyPost_ret (results_none rfl _ _ _) rfl ?_;exact⟨rfl,rfl⟩
theorem alD (w:World):Calls prog 180 #[.slice none 0 0] w fun e w'=>e=.returned (.tuple #[])/\w'=w:=by
 have HP:=qz fun l=>ath l w;have HB:=qz fun w=>Tryz.bits_Len 0 w (by omega) (by omega);obtain⟨b,hb⟩:∃b:Int,b=((Lib.bitLen ((0:Int)).toNat:Nat):Int):=⟨_,rfl⟩;rw[<-hb]at HB;clear hb
 go_enter func180,ntmps180
 go_wp2_with fail;refine(HB.out _).mono ?_;rintro e w1 ⟨rfl,rfl⟩;go_wp2_with fail;refine(HP.out _).mono ?_;rintro e w1 ⟨rfl,rfl⟩;go_wp2_with fail;go_end0;exact⟨rfl,rfl⟩
open Go.Sort (Holds putRow putCells swp)
def aeQ (X:ByteArray)(w:World)(e:Ending)(w':World):Prop:=e=.returned (.string X)/\Zb w w'
def TxP (us:List Tm)(n:Nat)(w:World)(e:Ending)(w':World):Prop:=∃v',e=.returned v'/\w'.ownsRow w.heap.size 9 1 v' n (us.map sv)/\Zb w w'
theorem afu (F:FuncId)(hF:∀args w,(callFunc F args).run prog w=.ok (.enter F args) w)(D:Array Value)(hD:D.size=257)(ts us:List Tm)(n:Nat)(hn:n=ts.length)(hu:us.length=n)(hn2:n<=300)(v:Value)(base:Nat)(w:World)(ho:w.ownsRow base 38 1 v n (ts.map enc)) (HF:∀i (h1:i<ts.length) (h2:i<us.length) w',Zb w w'->Calls prog F #[.agg D,.iface (aaB ts[i]) (pay ts[i])] w' (aeQ (S us[i]) w')) : Calls prog 154 #[.agg D,v,.func (.func F) #[] #[]] w (TxP (srtT us) n w):=by
 obtain⟨i0,hi,hz0,hz1,hz2⟩:=info_parts Tryz.infoS;obtain⟨p,cap,rfl⟩:=aaD ho;have HO:=qz ho;have HF':=qz HF;have HN:=qz hn;have HU:=qz hu;have HI:Hid ((prog.info? 127).map (·.size)=some D.size):=by show _=_;rw[Tryz.infoDf,hD]
 clear ho HF hn hu
 go_enter func154,ntmps154
 go_wp2_with fail;obtain⟨W,hW⟩:∃W,W=w.alloc (.cells D 127):=⟨_,rfl⟩;have hbk:W.heap[w.heap.size]?=some (.cells D 127 (0,0)):=by rw[hW];exact aag _ _
 have blW:Zb w W:=by rw[hW];exact bra
 rw[<-hW];have Hbk:=qz hbk;have BlW:=qz blW;clear hW hbk blW
 go_loopg [7,12] n (fun k s7 s12 wr=>(∃i:Nat,s12=.int .i64 (i:Int)/\i+k=n/\Hid (wr.ownsRow (w.heap.size+1) 9 1 s7 i ((us.take i).map sv)))/\Hid (wr.heap[w.heap.size]?=some (.cells D 127 (0,0)))/\Hid (Zb w wr))
 case atStart=>exact⟨⟨0,by congr 1,by omega,World.ownsRow_nil _ _ _ _⟩,Hbk,BlW⟩
 case round=>
  obtain⟨⟨i,rfl,hik,hown⟩,hb,hbw⟩:=hrel;have hsz:=lt_of_block hb.out
  by_cases hlt:(i:Int)<(n:Int)
  ·have hit:i<ts.length:=by rw[<-HN.out];omega
   have hiu:i<us.length:=by rw[HU.out];omega
   obtain⟨g,hpg,hg1,hg2,hg3,hcells⟩:=act HO.out (by omega);subst hpg
   have c1:wr.cell? ⟨g,i,none⟩=some (.iface (aaB ts[i]) (pay ts[i])):=
    (hbw.out.cell (p:=⟨g,i,none⟩) hg2).trans (hcells i (enc ts[i]) (by rw[List.getElem?_map,List.getElem?_eq_getElem hit];rfl))
   obtain⟨T,hT⟩:∃T,T=aaB ts[i]:=⟨_,rfl⟩;obtain⟨V,hV⟩:∃V,V=pay ts[i]:=⟨_,rfl⟩;obtain⟨X,hX⟩:∃X,X=S us[i]:=⟨_,rfl⟩
   have HC:Hid (∀w',Zb w w'->Calls prog F #[.agg D,.iface T V] w' (aeQ X w')):=by
    rw[hT,hV,hX];exact HF'.out i hit hiu
   rw[<-hT,<-hV]at c1;have hxs:[Value.string X]=[us[i]].map sv:=by rw[hX];rfl
   have htk:Hid ((us.take (i+1)).map sv=(us.take i).map sv++[.string X]):=by
    show _=_;rw[List.take_succ_eq_append_getElem hiu,List.map_append,hxs]
   clear hT hV hX hxs hcells hg1 hit hiu;have hgt:0<n:=by omega
   go_wp2_with (refine wpList_load_row rfl 127 (.tmp 3) rfl w.heap.size rfl 127 D (0,0) _ hb.out underlying127 rfl HI.out ?_)
   refine(HC.out _ hbw.out).mono ?_;rintro e w1 ⟨rfl,b1⟩;have hb1:=qz (aac hb.out b1);have hbw1:=qz (aaa hbw.out b1);have hown1:=qz (aal hown.out b1);have hsz1:=lt_of_block hb1.out;clear b1 c1 hb hbw hown
   go_wp2_with (at_builtin;refine aaw rfl (.tmp 16) (.tmp 21) 29 rfl (w.heap.size+1) (w.heap.size+1) 9 i0 (.string ⟨#[]⟩) 16 underlying29 hi hz0 hz1 hz2 rfl u7 i _ rfl (hown1.out.alloc _) _ 1 [.string X] rfl (aa3 w1 (.string X) 9 (w.heap.size+1) hsz1) (fun u hu=>by simp at hu;subst hu;rfl) ?c2 ?c3 ?c4 ?_)
   case c2=>unfold maxLen;omega
   case c3=>omega
   case c4=>simp;omega
   intro v3 w3 hown3 hgrow3 _
   have O3:Hid (w3.ownsRow (w.heap.size+1) 9 1 v3 (i+1) ((us.take (i+1)).map sv)):=by
    show World.ownsRow _ _ _ _ _ _ _;rw[htk.out,List.map_take];exact hown3
   have hol:∀g,u7.ownBlock=some g->w.heap.size+1<=g:=fun g e=>(hown1.out.lt g e).1
   have Hb3:Hid (w3.heap[w.heap.size]?=some (.cells D 127 (0,0))):=by
    show _=_;rw[hgrow3.block _ (by simp;omega) (fun e=>by have:=hol _ e.symm;omega)];exact(heap_alloc_old w1 _ hsz1).trans hb1.out
   have Bl3:=qz (aas (hbw1.out.alloc (by omega) _) hgrow3 (fun g e=>by have:=hol g e;omega) (by simp;omega));clear hown3 hgrow3 hol hb1 hbw1 hown1 htk;go_wp2_with fail
   go_roundg (gk - 1)
   case rel=>exact⟨⟨i+1,by congr 1,by omega,O3⟩,Hb3,Bl3⟩
   case measure=>omega
  ·obtain rfl:i=n:=by omega
   have htk:us.take i=us:=List.take_of_length_le (by rw[HU.out];exact nl _);rw[htk]at hown;have HS:=qz (avh us u7 i (w.heap.size+1) wr hown.out (by omega));have hol:Hid (∀g,u7.ownBlock=some g->w.heap.size<=g):=fun g e=>by have:=(hown.out.lt g e).1;omega
   clear htk hown;go_wp2_with fail;refine(HS.out).mono ?_;rintro e w1 ⟨rfl,ho,hg⟩;have O:=qz (aaW (b2:=w.heap.size) ho (by omega));have Bl:=qz (aas hbw.out hg (fun g e=>hol.out g e) (by omega));clear ho hg;go_wp2_with fail;go_ret;exact⟨_,rfl,O.out,Bl.out⟩
theorem ati (w:World)(g:Nat)(D:Array Value)(hD:D.size=257)(hg:w.heap[g]?=some (.cells D 127 (0,0))):(loadVar 127 ⟨g,0,none⟩).run prog w=.ok (.agg D) w:=
 run_loadVar_row w g 127 127 D (0,0) _ hg underlying127 rfl (by rw[Tryz.infoDf,hD])
theorem adc (w:World)(g:Nat)(D:Array Value)(hg:w.heap[g]?=some (.cells D 127 (0,0))):w.rangeAt g 0 D.toList:=fun j v hv=>by
 rw[Nat.zero_add,cell_of_row w g j D _ _ hg];simpa using hv
theorem acu {ops:Array Oper}{S:World->Prop}{op:Oper}{a:Act}{D:Array Value}{g:Nat}(hw:Region.wanted op (yielded ops a.tmps)=true)(ty:TypeId)(x:Operand)(ho:op.op=.load ty x)(hty:ty=127) (hx:a.eval x=.pointer (some ⟨g,0,none⟩))(hD:D.size=257)(hS:∀w,S w->w.rangeAt g 0 D.toList):YieldsIf prog ops S op (.agg D) a:=by
 subst hty;have:=yieldsIf_load_mid (P:=prog) (S:=S) hw 127 x ho g 0 hx D.toList _ hS underlying127 rfl (by rw[Tryz.infoDf,Array.length_toList,hD]);simpa using this
theorem aoI (args:Array Value)(w:World):(callFunc 155 args).run prog w=.ok (.enter 155 args) w:=by kernel_rfl
theorem aqJ (args:Array Value)(w:World):(callFunc 117 args).run prog w=.ok (.enter 117 args) w:=by kernel_rfl
theorem atj (args:Array Value)(w:World):(callFunc 152 args).run prog w=.ok (.enter 152 args) w:=by kernel_rfl
theorem TxP.go {us:List Tm}{n:Nat}{u w:World}{e:Ending}{w':World}(h:TxP us n w e w')(b:Zb u w):TxP us n u e w':=by
 obtain⟨v',h1,h2,h3⟩:=h;exact⟨v',h1,aaW h2 b.size,aaa b h3⟩
theorem aqK (D:Array Value)(L:UInt8->UInt8)(vL:Value)(gL:Nat)(ns ord:List UInt8)(hD:DrOf D L vL)(hns:ns.length<=1000)(hle:ord.length<=ns.length)(po:Option Addr)(go co:Nat)(gd gt:Nat)(vT:Value)(ts us:List Tm)(n base:Nat)(hn:n=ts.length)(hu:us.length=n)(hn2:n<=300) (w:World)(hL:LfS w gL vL ns)(hgL:gL<w.heap.size)(hord:ord≠[]->po=some ⟨go,0,none⟩/\∀k (h:k<ord.length),w.cell? ⟨go,k,none⟩=some (.int .u8 (ord[k].toNat:Int))) (hgd:w.heap[gd]?=some (.cells D 127 (0,0)))(hct:w.cell? ⟨gt,0,none⟩=some vT)(ho:w.ownsRow base 38 1 vT n (ts.map enc)) (HT:∀D' vL' w',DrOf D' (updL L ord ns) vL'->LfS w' gL vL' (ns.drop ord.length)->gL<w'.heap.size->∀i (h1:i<ts.length) (h2:i<us.length),Calls prog 155 #[.agg D',.iface (aaB ts[i]) (pay ts[i])] w' (aeQ (S us[i]) w')) : Calls prog 152 #[.slice po ord.length co,.pointer (some ⟨gd,0,none⟩),.pointer (some ⟨gt,0,none⟩)] w (TxP (srtT us) n w):=by
 have HB:=qz fun (w1:World) (b:Zb w w1)=>aft D L vL gL ns ord po go co hD (by omega) hle hns w1 (hL.below b) (Nat.lt_of_lt_of_le hgL b.size) (fun h=>⟨(hord h).1,fun k hk=>(b.cell (p:=⟨go,k,none⟩) (aa1 ((hord h).2 k hk))).trans ((hord h).2 k hk)⟩)
 have HI:=qz fun (D':Array Value) (vL':Value) (w1:World) (b:Zb w w1) (h1:DrOf D' (updL L ord ns) vL') (h2:LfS w1 gL vL' (ns.drop ord.length))=>
  (afu 155 aoI D' h1.sz ts us n hn hu hn2 vT base w1 (aal ho b) (fun i a1 a2 w' b'=>HT D' vL' w' h1 (h2.below b') (Nat.lt_of_lt_of_le hgL (Nat.le_trans b.size b'.size)) i a1 a2)).mono fun e w' h=>TxP.go h b
 obtain⟨R,hR⟩:∃R,R=TxP (srtT us) n w:=⟨_,rfl⟩;rw[<-hR]at HI ⊢;have hl0:=fun (w1:World) (b:Zb w w1)=>ati w1 gd D hD.sz (aac hgd b);have hc0:=fun (w1:World) (b:Zb w w1)=>(b.cell (p:=⟨gt,0,none⟩) (aa1 hct)).trans hct;have HL0:=qz hl0;have HDs:=qz hD.sz;have rg0:=qz fun (w1:World) (b:Zb w w1)=>adc w1 gd D (aac hgd b);have HC0:=qz hc0;obtain⟨m,hm⟩:∃m,m=ord.length:=⟨_,rfl⟩;rw[<-hm]at HB HI ⊢;have hR':=qz hR;clear hD hns hle hm hn hu hn2 hL hgL hord hgd hct ho HT hl0 hc0 hR;have bl0:Zb w w.drew:=(Below.refl _ _).drew;have l0:=HL0.out _ bl0;have c0:=HC0.out _ bl0
 go_enter func152,ntmps152
 go_wp2_with fail;refine wp_region_held_drew (S:=fun w'=>w'.rangeAt gd 0 D.toList/\w'.cell? ⟨gt,0,none⟩=some vT) (by kernel_rfl) ⟨rg0.out _ bl0,c0⟩ (fun hHeld=>?_);refine wpAnyH_take (i:=0) (v:=.agg D) rfl (by kernel_rfl) (by kernel_rfl) (by kernel_rfl) (fun _ _ _ h=>h) (acu rfl _ _ rfl rfl rfl HDs.out (fun w h=>h.1)) (by assumption) ?_
 try simp only[Act.put,List.setIfInBounds_toArray,List.set_cons_zero,List.set_cons_succ]
 refine wpAnyH_take (i:=1) (v:=?_) rfl (by kernel_rfl) (by kernel_rfl) (by kernel_rfl) (fun _ _ _ h=>h) (Or.inl ⟨by rfl,?_⟩) (by assumption) ?_
 rotate_left
 ·intro w hSw
  go_simp
  with_reducible rfl
 try simp only[Act.put,List.setIfInBounds_toArray,List.set_cons_zero,List.set_cons_succ]
 refine wpAnyH_take (i:=3) (v:=?_) rfl (by kernel_rfl) (by kernel_rfl) (by kernel_rfl) (fun _ _ _ h=>h) (Or.inl ⟨by rfl,?_⟩) (by assumption) ?_
 rotate_left
 ·intro w hSw
  (try dsimp only at hSw)
  go_simp
  with_reducible rfl
 try simp only[Act.put,List.setIfInBounds_toArray,List.set_cons_zero,List.set_cons_succ]
 refine wpAnyH_ready (rs:=[2]) (by kernel_rfl) (by simp) ?_;refine AllReadyH.cons rfl (fun K hK=>?_) AllReadyH.nil
 go_simp
 refine(HB.out _ bl0).mono ?_;rintro e w1 ⟨D1,v1,rfl,hd1,hl1,b1⟩;have bl1:=aaa bl0 b1;have c1:=HC0.out _ bl1;have rr1:=rg0.out _ bl1
 dsimp only
 refine hK.out _ _ ⟨rr1,c1⟩ (fun hHeld=>?_);clear hK K
 try simp only[Act.put,List.setIfInBounds_toArray,List.set_cons_zero,List.set_cons_succ]
 refine wpAnyH_ready (rs:=[4]) (by kernel_rfl) (by simp) ?_;refine AllReadyH.cons rfl (fun K hK=>?_) AllReadyH.nil
 go_simp
 refine(HI.out _ _ _ bl1 hd1 hl1).mono ?_;intro e w2 hr;rw[hR'.out]at hr;obtain⟨v2,rfl,ho2,bl2⟩:=hr;have c2:=HC0.out _ bl2;have rr2:=rg0.out _ bl2
 dsimp only
 refine hK.out _ _ ⟨rr2,c2⟩ (fun hHeld=>?_);clear hK K
 try simp only[Act.put,List.setIfInBounds_toArray,List.set_cons_zero,List.set_cons_succ]
 refine wpAnyH_take (i:=5) (oi:=⟨some 4,_,_,_,_,_⟩) (v:=?_) rfl (by kernel_rfl) (by kernel_rfl) (by kernel_rfl) (fun _ _ _ h=>h) (Or.inl ⟨by rfl,?_⟩) (by assumption) ?_
 rotate_left
 ·intro w hSw
  go_simp
  with_reducible rfl
 try simp only[Act.put,List.setIfInBounds_toArray,List.set_cons_zero,List.set_cons_succ]
 refine wpAnyH_done (by kernel_rfl) ?_ _;go_wp2_with fail;show R (.returned v2) w2;rw[hR'.out];exact⟨_,rfl,ho2,bl2⟩
end Go.Proofs.YtalegefnppbkdaaGreat.T1
