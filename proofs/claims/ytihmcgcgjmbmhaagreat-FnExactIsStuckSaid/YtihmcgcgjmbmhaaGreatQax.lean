/- Texts of the proof. No conditions. -/
import Derived.Test.YtihmcgcgjmbmhaaGreatQan
import Derived.Test.YtihmcgcgjmbmhaaGreatQau
import Derived.Deep.MidRow
import Derived.WalkMore
import Derived.Scope
namespace Go.Proofs.YtihmcgcgjmbmhaaGreat.T1
open Go.Proofs.Tryz
set_option maxHeartbeats 16000000
open Go.RowKit
open Go.Sort (Holds putRow putCells swp)
set_option maxRecDepth 100000
set_option linter.unusedVariables false
set_option linter.unusedSimpArgs false
theorem apL (n:Int)(w:World):Calls prog 224 #[.int .u8 n] w fun e w'=>e=.returned (.bool false)/\w=w':=by
 go_enter func224,ntmps224
 go_wp2_with fail;go_ret;exact⟨rfl,rfl⟩
theorem auR (n0 n1:Int)(h:¬n0<n1)(w:World):Calls prog 216 #[.int .u8 n0,.int .u8 n1] w fun e w'=>e=.returned (.bool false)/\w=w':=by
 have H:=qz (apL n0)
 go_enter func216,ntmps216
 go_wp2_with fail;refine(H.out _).mono ?_;rintro e w1 ⟨rfl,rfl⟩;go_wp2_with fail;go_ret;exact⟨by show Ending.returned (Value.bool (decide (n0<n1)))=_;rw[decide_eq_false (fun e=>by omega)],rfl⟩
theorem apM (fs:List UInt8)(g cap n:Nat)(hn:n=fs.length)(hs:fs.Pairwise (·<·))(hn2:n<=1000)(hc:n<=cap)(w:World)(hH:Holds ub w g 0 fs.toArray) : Calls prog 210 #[.slice (some ⟨g,0,none⟩) n cap,.int .i64 0,.int .i64 (n:Int)] w fun e w'=>e=.returned (.tuple #[])/\∃q,w'=Sort.ahead w q:=by
 have HN:=qz hn;have HS:=qz hs;have HH:=qz hH;clear hn hs hH
 go_enter func210,ntmps210
 go_wp2_with fail
 go_loopg [6] n (fun k s6 wr=>(∃m:Nat,1<=m/\s6=.int .i64 (m:Int)/\n+1<=m+k)/\Hid (∃q,wr=Sort.ahead w q))
 case atStart=>exact⟨⟨1,by omega,by congr 1,by omega⟩,⟨0,rfl⟩⟩
 case round=>
  obtain⟨⟨m,hm1,rfl,hm2⟩,hwr⟩:=hrel;obtain⟨q,hq⟩:=hwr.out
  by_cases hlt:(m:Int)<(n:Int)
  ·have hm:m<fs.length:=by rw[<-HN.out];omega
   obtain⟨p,rfl⟩:∃p,m=p+1:=⟨m - 1,by omega⟩;have hp:p<fs.length:=by omega
   obtain⟨n0,hn0⟩:∃n0:Int,n0=(fs[p].toNat:Int):=⟨_,rfl⟩;obtain⟨n1,hn1⟩:∃n1:Int,n1=(fs[p+1].toNat:Int):=⟨_,rfl⟩;have c1:wr.cell? ⟨g,p,none⟩=some (.int .u8 n0):=by rw[hq,hn0];exact(ab3 HH.out p hp).1
   have c2:wr.cell? ⟨g,p+1,none⟩=some (.int .u8 n1):=by rw[hq,hn1];exact(ab3 HH.out (p+1) hm).1
   have hle:¬n1<n0:=by
    have:=List.pairwise_iff_getElem.1 HS.out p (p+1) hp hm (by omega);rw[abT]at this;omega
   have HL:=qz (auR n1 n0 hle);have hpos:(0:Int)<(p:Int)+1:=by omega
   have HQ:=qz hq;clear hq hwr hn0 hn1 hm hp hle;go_wp2_with fail;refine wp_loop_rounds 1 ?_;rw[rounds_succ];go_wp2_with fail
   go_quiet ((go_at_call 216;exact Calls.quiet_of_same ((HL.out _).mono fun _ _ hh=>⟨hh.1,hh.2.symm⟩)))
   go_wp2_with fail
   go_roundg (gk - 1)
   case rel=>exact⟨⟨p+2,by omega,by congr 1,by omega⟩,⟨q+nq,by rw[HQ.out,adu]⟩⟩
   case measure=>omega
  ·have HQ:=qz hq;clear hq hwr;go_wp2_with fail;go_end0;exact⟨rfl,q,HQ.out⟩
theorem apN (fs:List UInt8)(g cap n:Nat)(l:Int)(hn:n=fs.length)(hs:fs.Pairwise (·<·))(hn2:n<=12)(hc:n<=cap)(w:World)(hH:Holds ub w g 0 fs.toArray) : Calls prog 199 #[.slice (some ⟨g,0,none⟩) n cap,.int .i64 0,.int .i64 (n:Int),.int .i64 l] w fun e w'=>e=.returned (.tuple #[])/\∃q,w'=Sort.ahead w q:=by
 have HI:=qz (apM fs g cap n hn hs (by omega) hc w hH);clear hn hs hH
 go_enter func199,ntmps199
 go_wp2_with fail;refine wp_loop_rounds 1 ?_;rw[rounds_succ];go_wp2_with fail;refine(HI.out).mono ?_;rintro e w1 ⟨rfl,q,rfl⟩;go_wp2_with fail
 (try simp only[Exit.inBlock,Exit.then])
 refine bodyPost_ret (results_none rfl _ _ _) rfl ?_;exact⟨rfl,q,rfl⟩
theorem ayg (fs:List UInt8)(g cap n:Nat)(hn:n=fs.length)(hs:fs.Pairwise (·<·))(hn2:n<=12)(hc:n<=cap)(w:World)(hH:Holds ub w g 0 fs.toArray) : Calls prog 177 #[.slice (some ⟨g,0,none⟩) n cap] w fun e w'=>e=.returned (.tuple #[])/\∃q,w'=Sort.ahead w q:=by
 have HP:=qz fun l=>apN fs g cap n l hn hs hn2 hc w hH;have HB:=qz fun w=>Tryz.bits_Len (n:Int) w (by omega) (by omega);clear hn hs hH;obtain⟨b,hb⟩:∃b:Int,b=((Lib.bitLen ((n:Int)).toNat:Nat):Int):=⟨_,rfl⟩;rw[<-hb]at HB;have hw:IntKind.u64.wrap (n:Int)=(n:Int):=by rw[IntKind.wrap_u64]<;>omega
 clear hb
 go_enter func177,ntmps177
 go_wp2_with fail;refine(HB.out _).mono ?_;rintro e w1 ⟨rfl,rfl⟩;go_wp2_with fail;refine(HP.out _).mono ?_;rintro e w1 ⟨rfl,q,rfl⟩;go_wp2_with fail;go_end0;exact⟨rfl,q,rfl⟩
theorem auS (w:World):Calls prog 210 #[.slice none 0 0,.int .i64 0,.int .i64 0] w fun e w'=>e=.returned (.tuple #[])/\w'=w:=by
 go_enter func210,ntmps210
 go_wp2_with fail;refine wp_loop_rounds 1 ?_;rw[rounds_succ];go_wp2_with fail;go_end0;exact⟨rfl,rfl⟩
theorem auT (l:Int)(w:World):Calls prog 199 #[.slice none 0 0,.int .i64 0,.int .i64 0,.int .i64 l] w fun e w'=>e=.returned (.tuple #[])/\w'=w:=by
 have HI:=qz (auS w)
 go_enter func199,ntmps199
 go_wp2_with fail;refine wp_loop_rounds 1 ?_;rw[rounds_succ];go_wp2_with fail;refine(HI.out).mono ?_;rintro e w1 ⟨rfl,rfl⟩;go_wp2_with fail
 (try simp only[Exit.inBlock,Exit.then])
 refine bodyPost_ret (results_none rfl _ _ _) rfl ?_;exact⟨rfl,rfl⟩
theorem amh (w:World):Calls prog 177 #[.slice none 0 0] w fun e w'=>e=.returned (.tuple #[])/\w'=w:=by
 have HP:=qz fun l=>auT l w;have HB:=qz fun w=>Tryz.bits_Len 0 w (by omega) (by omega);obtain⟨b,hb⟩:∃b:Int,b=((Lib.bitLen ((0:Int)).toNat:Nat):Int):=⟨_,rfl⟩;rw[<-hb]at HB;clear hb
 go_enter func177,ntmps177
 go_wp2_with fail;refine(HB.out _).mono ?_;rintro e w1 ⟨rfl,rfl⟩;go_wp2_with fail;refine(HP.out _).mono ?_;rintro e w1 ⟨rfl,rfl⟩;go_wp2_with fail;go_end0;exact⟨rfl,rfl⟩
open Go.Sort (Holds putRow putCells swp)
def ae7 (X:ByteArray)(w:World)(e:Ending)(w':World):Prop:=e=.returned (.string X)/\Zb w w'
def TxP (us:List Tm)(n:Nat)(w:World)(e:Ending)(w':World):Prop:=∃v',e=.returned v'/\w'.ownsRow w.heap.size 9 1 v' n (us.map sv)/\Zb w w'
theorem af6 (F:FuncId)(hF:∀args w,(callFunc F args).run prog w=.ok (.enter F args) w)(D:Array Value)(hD:D.size=257)(ts us:List Tm)(n:Nat)(hn:n=ts.length)(hu:us.length=n)(hn2:n<=300)(v:Value)(base:Nat)(w:World)(ho:w.ownsRow base 41 1 v n (ts.map enc)) (HF:∀i (h1:i<ts.length) (h2:i<us.length) w',Zb w w'->Calls prog F #[.agg D,.iface (aau ts[i]) (pay ts[i])] w' (ae7 (S us[i]) w')) : Calls prog 153 #[.agg D,v,.func (.func F) #[] #[]] w (TxP (srtT us) n w):=by
 obtain⟨i0,hi,hz0,hz1,hz2⟩:=info_parts Tryz.infoS;obtain⟨p,cap,rfl⟩:=aaM ho;have HO:=qz ho;have HF':=qz HF;have HN:=qz hn;have HU:=qz hu;have HI:Hid ((prog.info? 132).map (·.size)=some D.size):=by show _=_;rw[Tryz.infoDf,hD]
 clear ho HF hn hu
 go_enter func153,ntmps153
 go_wp2_with fail;obtain⟨W,hW⟩:∃W,W=w.alloc (.cells D 132):=⟨_,rfl⟩;have hbk:W.heap[w.heap.size]?=some (.cells D 132 (0,0)):=by rw[hW];exact aai _ _
 have blW:Zb w W:=by rw[hW];exact bra
 rw[<-hW];have Hbk:=qz hbk;have BlW:=qz blW;clear hW hbk blW
 go_loopg [7,12] n (fun k s7 s12 wr=>(∃i:Nat,s12=.int .i64 (i:Int)/\i+k=n/\Hid (wr.ownsRow (w.heap.size+1) 9 1 s7 i ((us.take i).map sv)))/\Hid (wr.heap[w.heap.size]?=some (.cells D 132 (0,0)))/\Hid (Zb w wr))
 case atStart=>exact⟨⟨0,by congr 1,by omega,World.ownsRow_nil _ _ _ _⟩,Hbk,BlW⟩
 case round=>
  obtain⟨⟨i,rfl,hik,hown⟩,hb,hbw⟩:=hrel;have hsz:=lt_of_block hb.out
  by_cases hlt:(i:Int)<(n:Int)
  ·have hit:i<ts.length:=by rw[<-HN.out];omega
   have hiu:i<us.length:=by rw[HU.out];omega
   obtain⟨g,hpg,hg1,hg2,hg3,hcells⟩:=abQ HO.out (by omega);subst hpg
   have c1:wr.cell? ⟨g,i,none⟩=some (.iface (aau ts[i]) (pay ts[i])):=
    (hbw.out.cell (p:=⟨g,i,none⟩) hg2).trans (hcells i (enc ts[i]) (by rw[List.getElem?_map,List.getElem?_eq_getElem hit];rfl))
   obtain⟨T,hT⟩:∃T,T=aau ts[i]:=⟨_,rfl⟩;obtain⟨V,hV⟩:∃V,V=pay ts[i]:=⟨_,rfl⟩;obtain⟨X,hX⟩:∃X,X=S us[i]:=⟨_,rfl⟩
   have HC:Hid (∀w',Zb w w'->Calls prog F #[.agg D,.iface T V] w' (ae7 X w')):=by
    rw[hT,hV,hX];exact HF'.out i hit hiu
   rw[<-hT,<-hV]at c1;have hxs:[Value.string X]=[us[i]].map sv:=by rw[hX];rfl
   have htk:Hid ((us.take (i+1)).map sv=(us.take i).map sv++[.string X]):=by
    show _=_;rw[List.take_succ_eq_append_getElem hiu,List.map_append,hxs]
   clear hT hV hX hxs hcells hg1 hit hiu;have hgt:0<n:=by omega
   go_wp2_with (refine wpList_load_row rfl 132 (.tmp 3) rfl w.heap.size rfl 132 D (0,0) _ hb.out underlying132 rfl HI.out ?_)
   refine(HC.out _ hbw.out).mono ?_;rintro e w1 ⟨rfl,b1⟩;have hb1:=qz (aae hb.out b1);have hbw1:=qz (aaa hbw.out b1);have hown1:=qz (aan hown.out b1);have hsz1:=lt_of_block hb1.out;clear b1 c1 hb hbw hown
   go_wp2_with (at_builtin;refine aaN rfl (.tmp 16) (.tmp 21) 22 rfl (w.heap.size+1) (w.heap.size+1) 9 i0 (.string ⟨#[]⟩) 16 underlying22 hi hz0 hz1 hz2 rfl u7 i _ rfl (hown1.out.alloc _) _ 1 [.string X] rfl (abr w1 (.string X) 9 (w.heap.size+1) hsz1) (fun u hu=>by simp at hu;subst hu;rfl) ?c2 ?c3 ?c4 ?_)
   case c2=>unfold maxLen;omega
   case c3=>omega
   case c4=>simp;omega
   intro v3 w3 hown3 hgrow3 _
   have O3:Hid (w3.ownsRow (w.heap.size+1) 9 1 v3 (i+1) ((us.take (i+1)).map sv)):=by
    show World.ownsRow _ _ _ _ _ _ _;rw[htk.out,List.map_take];exact hown3
   have hol:∀g,u7.ownBlock=some g->w.heap.size+1<=g:=fun g e=>(hown1.out.lt g e).1
   have Hb3:Hid (w3.heap[w.heap.size]?=some (.cells D 132 (0,0))):=by
    show _=_;rw[hgrow3.block _ (by simp;omega) (fun e=>by have:=hol _ e.symm;omega)];exact(heap_alloc_old w1 _ hsz1).trans hb1.out
   have Bl3:=qz (aaB (hbw1.out.alloc (by omega) _) hgrow3 (fun g e=>by have:=hol g e;omega) (by simp;omega));clear hown3 hgrow3 hol hb1 hbw1 hown1 htk;go_wp2_with fail
   go_roundg (gk - 1)
   case rel=>exact⟨⟨i+1,by congr 1,by omega,O3⟩,Hb3,Bl3⟩
   case measure=>omega
  ·obtain rfl:i=n:=by omega
   have htk:us.take i=us:=List.take_of_length_le (by rw[HU.out];exact nl _);rw[htk]at hown;have HS:=qz (ax_ us u7 i (w.heap.size+1) wr hown.out (by omega));have hol:Hid (∀g,u7.ownBlock=some g->w.heap.size<=g):=fun g e=>by have:=(hown.out.lt g e).1;omega
   clear htk hown;go_wp2_with fail;refine(HS.out).mono ?_;rintro e w1 ⟨rfl,ho,hg⟩;have O:=qz (aaO (b2:=w.heap.size) ho (by omega));have Bl:=qz (aaB hbw.out hg (fun g e=>hol.out g e) (by omega));clear ho hg;go_wp2_with fail;go_ret;exact⟨_,rfl,O.out,Bl.out⟩
theorem auU (w:World)(g:Nat)(D:Array Value)(hD:D.size=257)(hg:w.heap[g]?=some (.cells D 132 (0,0))):(loadVar 132 ⟨g,0,none⟩).run prog w=.ok (.agg D) w:=
 run_loadVar_row w g 132 132 D (0,0) _ hg underlying132 rfl (by rw[Tryz.infoDf,hD])
theorem adj (w:World)(g:Nat)(D:Array Value)(hg:w.heap[g]?=some (.cells D 132 (0,0))):w.rangeAt g 0 D.toList:=fun j v hv=>by
 rw[Nat.zero_add,cell_of_row w g j D _ _ hg];simpa using hv
theorem acA {ops:Array Oper}{S:World->Prop}{op:Oper}{a:Act}{D:Array Value}{g:Nat}(hw:Region.wanted op (yielded ops a.tmps)=true)(ty:TypeId)(x:Operand)(ho:op.op=.load ty x)(hty:ty=132) (hx:a.eval x=.pointer (some ⟨g,0,none⟩))(hD:D.size=257)(hS:∀w,S w->w.rangeAt g 0 D.toList):YieldsIf prog ops S op (.agg D) a:=by
 subst hty;have:=yieldsIf_load_mid (P:=prog) (S:=S) hw 132 x ho g 0 hx D.toList _ hS underlying132 rfl (by rw[Tryz.infoDf,Array.length_toList,hD]);simpa using this
theorem apO (args:Array Value)(w:World):(callFunc 154 args).run prog w=.ok (.enter 154 args) w:=by kernel_rfl
theorem ar3 (args:Array Value)(w:World):(callFunc 99 args).run prog w=.ok (.enter 99 args) w:=by kernel_rfl
theorem auV (args:Array Value)(w:World):(callFunc 151 args).run prog w=.ok (.enter 151 args) w:=by kernel_rfl
theorem TxP.go {us:List Tm}{n:Nat}{u w:World}{e:Ending}{w':World}(h:TxP us n w e w')(b:Zb u w):TxP us n u e w':=by
 obtain⟨v',h1,h2,h3⟩:=h;exact⟨v',h1,aaO h2 b.size,aaa b h3⟩
theorem ar4 (D:Array Value)(L:UInt8->UInt8)(vL:Value)(gL:Nat)(ns ord:List UInt8)(hD:DrOf D L vL)(hns:ns.length<=1000)(hle:ord.length<=ns.length)(po:Option Addr)(go co:Nat)(gd gt:Nat)(vT:Value)(ts us:List Tm)(n base:Nat)(hn:n=ts.length)(hu:us.length=n)(hn2:n<=300) (w:World)(hL:LfS w gL vL ns)(hgL:gL<w.heap.size)(hord:ord≠[]->po=some ⟨go,0,none⟩/\∀k (h:k<ord.length),w.cell? ⟨go,k,none⟩=some (.int .u8 (ord[k].toNat:Int))) (hgd:w.heap[gd]?=some (.cells D 132 (0,0)))(hct:w.cell? ⟨gt,0,none⟩=some vT)(ho:w.ownsRow base 41 1 vT n (ts.map enc)) (HT:∀D' vL' w',DrOf D' (updL L ord ns) vL'->LfS w' gL vL' (ns.drop ord.length)->gL<w'.heap.size->∀i (h1:i<ts.length) (h2:i<us.length),Calls prog 154 #[.agg D',.iface (aau ts[i]) (pay ts[i])] w' (ae7 (S us[i]) w')) : Calls prog 151 #[.slice po ord.length co,.pointer (some ⟨gd,0,none⟩),.pointer (some ⟨gt,0,none⟩)] w (TxP (srtT us) n w):=by
 have HB:=qz fun (w1:World) (b:Zb w w1)=>af1 D L vL gL ns ord po go co hD (by omega) hle hns w1 (hL.below b) (Nat.lt_of_lt_of_le hgL b.size) (fun h=>⟨(hord h).1,fun k hk=>(b.cell (p:=⟨go,k,none⟩) (aad ((hord h).2 k hk))).trans ((hord h).2 k hk)⟩)
 have HI:=qz fun (D':Array Value) (vL':Value) (w1:World) (b:Zb w w1) (h1:DrOf D' (updL L ord ns) vL') (h2:LfS w1 gL vL' (ns.drop ord.length))=>
  (af6 154 apO D' h1.sz ts us n hn hu hn2 vT base w1 (aan ho b) (fun i a1 a2 w' b'=>HT D' vL' w' h1 (h2.below b') (Nat.lt_of_lt_of_le hgL (Nat.le_trans b.size b'.size)) i a1 a2)).mono fun e w' h=>TxP.go h b
 obtain⟨R,hR⟩:∃R,R=TxP (srtT us) n w:=⟨_,rfl⟩;rw[<-hR]at HI ⊢;have hl0:=fun (w1:World) (b:Zb w w1)=>auU w1 gd D hD.sz (aae hgd b);have hc0:=fun (w1:World) (b:Zb w w1)=>(b.cell (p:=⟨gt,0,none⟩) (aad hct)).trans hct;have HL0:=qz hl0;have HDs:=qz hD.sz;have rg0:=qz fun (w1:World) (b:Zb w w1)=>adj w1 gd D (aae hgd b);have HC0:=qz hc0;obtain⟨m,hm⟩:∃m,m=ord.length:=⟨_,rfl⟩;rw[<-hm]at HB HI ⊢;have hR':=qz hR;clear hD hns hle hm hn hu hn2 hL hgL hord hgd hct ho HT hl0 hc0 hR;have bl0:Zb w w.drew:=(Below.refl _ _).drew;have l0:=HL0.out _ bl0;have c0:=HC0.out _ bl0
 go_enter func151,ntmps151
 go_wp2_with fail;refine wp_region_held_drew (S:=fun w'=>w'.rangeAt gd 0 D.toList/\w'.cell? ⟨gt,0,none⟩=some vT) (by kernel_rfl) ⟨rg0.out _ bl0,c0⟩ (fun hHeld=>?_);refine wpAnyH_take (i:=0) (v:=.agg D) rfl (by kernel_rfl) (by kernel_rfl) (by kernel_rfl) (fun _ _ _ h=>h) (acA rfl _ _ rfl rfl rfl HDs.out (fun w h=>h.1)) (by assumption) ?_
 try simp only[Act.put,List.setIfInBounds_toArray,List.set_cons_zero,List.set_cons_succ]
 refine wpAnyH_take (i:=1) (v:=?_) rfl (by kernel_rfl) (by kernel_rfl) (by kernel_rfl) (fun _ _ _ h=>h) (Or.inl ⟨by rfl,?_⟩) (by assumption) ?_
 rotate_left
 ·intro w hSw
  go_simp
  with_reducible rfl
 try simp only[Act.put,List.setIfInBounds_toArray,List.set_cons_zero,List.set_cons_succ]
 refine wpAnyH_take (i:=3) (v:=?_) rfl (by kernel_rfl) (by kernel_rfl) (by kernel_rfl) (fun _ _ _ h=>h) (Or.inl ⟨by rfl,?_⟩) (by assumption) ?_
 rotate_left
 ·intro w hSw
  (try dsimp only at hSw)
  go_simp
  with_reducible rfl
 try simp only[Act.put,List.setIfInBounds_toArray,List.set_cons_zero,List.set_cons_succ]
 refine wpAnyH_ready (rs:=[2]) (by kernel_rfl) (by simp) ?_;refine AllReadyH.cons rfl (fun K hK=>?_) AllReadyH.nil
 go_simp
 refine(HB.out _ bl0).mono ?_;rintro e w1 ⟨D1,v1,rfl,hd1,hl1,b1⟩;have bl1:=aaa bl0 b1;have c1:=HC0.out _ bl1;have rr1:=rg0.out _ bl1
 dsimp only
 refine hK.out _ _ ⟨rr1,c1⟩ (fun hHeld=>?_);clear hK K
 try simp only[Act.put,List.setIfInBounds_toArray,List.set_cons_zero,List.set_cons_succ]
 refine wpAnyH_ready (rs:=[4]) (by kernel_rfl) (by simp) ?_;refine AllReadyH.cons rfl (fun K hK=>?_) AllReadyH.nil
 go_simp
 refine(HI.out _ _ _ bl1 hd1 hl1).mono ?_;intro e w2 hr;rw[hR'.out]at hr;obtain⟨v2,rfl,ho2,bl2⟩:=hr;have c2:=HC0.out _ bl2;have rr2:=rg0.out _ bl2
 dsimp only
 refine hK.out _ _ ⟨rr2,c2⟩ (fun hHeld=>?_);clear hK K
 try simp only[Act.put,List.setIfInBounds_toArray,List.set_cons_zero,List.set_cons_succ]
 refine wpAnyH_take (i:=5) (oi:=⟨some 4,_,_,_,_,_⟩) (v:=?_) rfl (by kernel_rfl) (by kernel_rfl) (by kernel_rfl) (fun _ _ _ h=>h) (Or.inl ⟨by rfl,?_⟩) (by assumption) ?_
 rotate_left
 ·intro w hSw
  go_simp
  with_reducible rfl
 try simp only[Act.put,List.setIfInBounds_toArray,List.set_cons_zero,List.set_cons_succ]
 refine wpAnyH_done (by kernel_rfl) ?_ _;go_wp2_with fail;show R (.returned v2) w2;rw[hR'.out];exact⟨_,rfl,ho2,bl2⟩
open Go.Sort (Holds putRow putCells swp)
theorem agv (w:World):Calls prog 178 #[.slice none 0 0] w fun e w'=>e=.returned (.bool false)/\w'=w:=by
 go_enter func178,ntmps178
 go_wp2_with fail
 go_loopg [3] 1 (fun k s3 wr=>s3=.int .i64 (-2)/\wr=w)
 case atStart=>exact⟨by congr 1,rfl⟩
 case round=>
  obtain⟨rfl,rfl⟩:=hrel;go_wp2_with fail;go_ret;exact⟨rfl,rfl⟩
theorem apP:(5:TypeId)≠9:=by decide
theorem ami (w:World)(r:Option Nat):w.grownBy w r:=⟨rfl,rfl,rfl,nl _,fun _ _ _=>rfl⟩
theorem ahT {o m:List UInt8}(h:nextG ltU o=some m):m.length=o.length:=by
 unfold nextG at h;obtain⟨i,_,h⟩:=List.exists_of_findSome?_eq_some h;rw[Option.map_eq_some_iff]at h;obtain⟨j,_,h⟩:=h;rw[<-h]
 split
 ·simp;omega
 ·rfl
theorem auW (o:List UInt8)(v:Value)(n base:Nat)(w:World)(hn:n=o.length)(hn2:n<=1000)(h:w.ownsRow base 5 1 v n (o.map ub)) : Calls prog 178 #[v] w fun e w'=>e=.returned (.bool (nextG ltU o).isSome)/\w'.ownsRow base 5 1 v n (((nextG ltU o).getD o).map ub)/\w.grownBy w' v.ownBlock:=by
 rcases h.2 with⟨rfl,rfl⟩|⟨g,cap,cur,rfl,h2,h3,h4,h5,h6,h7⟩
 ·have ho:o=[]:=List.length_eq_zero_iff.1 hn.symm;subst ho;have e0:nextG ltU ([]:List UInt8)=none:=aeA _ _ fun i j _ hj=>by simp at hj
  refine(agv w).mono ?_;rintro e w' ⟨rfl,rfl⟩;rw[e0];exact⟨rfl,h,ami _ _⟩
 ·subst hn;rw[Nat.mul_one]at h7;refine(ahE ayJ o g cap hn2 h4 w (adv ub h3 h7)).mono ?_;rintro e w' ⟨rfl,q,rfl⟩;refine⟨rfl,arq ub ?_ h2 h3 h4 h5 h6,aoV ub _⟩
  cases hx:nextG ltU o with
  | none=>rfl
  | some m=>exact ahT hx
theorem auX (o:List UInt8)(v:Value)(n base:Nat)(w:World)(hn:n=o.length)(hn2:n<=12)(hs:o.Pairwise (·<·))(h:w.ownsRow base 5 1 v n (o.map ub)) : Calls prog 177 #[v] w fun e w'=>e=.returned (.tuple #[])/\w'.ownsRow base 5 1 v n (o.map ub)/\Zb w w':=by
 rcases h.2 with⟨rfl,rfl⟩|⟨g,cap,cur,rfl,h2,h3,h4,h5,h6,h7⟩
 ·refine(amh w).mono ?_;rintro e w' ⟨rfl,rfl⟩;exact⟨rfl,h,Below.refl _ _⟩
 ·have hn':=hn;subst hn;rw[Nat.mul_one]at h7;refine(ayg o g cap _ rfl hs hn2 h4 w (adv ub h3 h7)).mono ?_;rintro e w' ⟨rfl,q,rfl⟩;exact⟨rfl,h,⟨rfl,rfl,rfl,nl _,fun _ _=>rfl⟩⟩
theorem auY {w:World}{base:Nat}{v:Value}{o:List UInt8}(h:w.ownsRow base 5 1 v o.length (o.map ub)) : ∃po go co,v=.slice po o.length co/\(o≠[]->po=some ⟨go,0,none⟩/\∀k (h:k<o.length),w.cell? ⟨go,k,none⟩=some (.int .u8 (o[k].toNat:Int))):=by
 have h0:=h;rcases h.2 with⟨e1,e2⟩|⟨g,cap,cur,rfl,_⟩
 ·exact⟨none,0,0,by rw[e1,e2],fun hne=>absurd (List.length_eq_zero_iff.1 e2) hne⟩
 ·refine⟨_,g,cap,rfl,fun _=>⟨rfl,fun k hk=>?_⟩⟩;have:=ab_ h0 k (ub o[k]) (by rw[List.getElem?_map,List.getElem?_eq_getElem hk];rfl);rw[aoW]at this
  exact this
theorem apQ (G:List UInt8)(hs:G.Pairwise (·<·))(hl5:G.length<=5)(Fc:List UInt8->List Tm)(k:Nat)(hk:∀o∈visG ltU 200 G,(Fc o).length=k)(hk2:k<=300) (C:FuncId)(caps:Array Value)(hC:∀args w,(callFunc C args).run prog w=.ok (.enter C args) w)(v0:Value)(base:Nat)(w:World)(hown:w.ownsRow base 5 1 v0 G.length (G.map ub)) (HT:∀o,o∈visG ltU 200 G->∀po go co w',Zb w w'->(o≠[]->po=some ⟨go,0,none⟩/\∀j (h:j<o.length),w'.cell? ⟨go,j,none⟩=some (.int .u8 (o[j].toNat:Int)))-> Calls prog C (#[.slice po o.length co]++caps) w' (TxP (Fc o) k w')) : Calls prog 156 #[.agg #[.func (.func C) #[] caps],v0] w (TxP (bestL ((visG ltU 200 G).map Fc)) k w):=by
 have HTv:=qz fun (o:List UInt8) (ho:o∈visG ltU 200 G) (b2:Nat) (v:Value) (w':World) (hb:Zb w w') (hw:w'.ownsRow b2 5 1 v o.length (o.map ub))=>
  (show Calls prog C (#[v]++caps) w' (TxP (Fc o) k w') by
   obtain⟨po,go,co,rfl,hc⟩:=auY hw
   exact HT o ho po go co w' hb hc)
 have HCl:=qz fun (w':World) (hb:Zb w w')=>awG G v0 G.length base w' (aan hown hb) (by omega);have HSo:=qz fun (v:Value) (b2:Nat) (w':World) (h:w'.ownsRow b2 5 1 v G.length (G.map ub))=>auX G v G.length b2 w' rfl (by omega) hs h;have HNx:=qz fun (o:List UInt8) (v:Value) (b2:Nat) (w':World) (hn:G.length=o.length) (h:w'.ownsRow b2 5 1 v G.length (o.map ub))=>auW o v G.length b2 w' hn (by omega) h;have HS:=qz hs;have HK:=qz hk;obtain⟨n,hn⟩:∃n,n=G.length:=⟨_,rfl⟩;have HN:=qz hn;rw[<-hn]at HCl HSo HNx;clear hn hs hk hown HT
 go_enter func156,ntmps156
 go_wp2_with fail
 go_step3
 go_wp2_with fail;obtain⟨W,hW⟩:∃W,W=w.alloc (.cells #[.func (.func C) #[] caps] 186):=⟨_,rfl⟩;have hbk:W.heap[w.heap.size]?=some (.cells #[.func (.func C) #[] caps] 186 (0,0)):=by rw[hW];exact aai _ _
 have blW:Zb w W:=by rw[hW];exact bra
 rw[<-hW];clear hW;refine(HCl.out _ blW).mono ?_;rintro e w1 ⟨v1,rfl,ho1,b1⟩;have bk1:=aae hbk b1;have bl1:=aaa blW b1;have O1:=qz (aaO (b2:=w.heap.size+1) ho1 (lt_of_block hbk));clear hbk blW ho1 b1;go_wp2_with fail;refine(HSo.out _ _ _ O1.out).mono ?_;rintro e w2 ⟨rfl,ho2,b2⟩;have bk2:=qz (aae bk1 b2);have bl2:=qz (aaa bl1 b2);have O2:=qz ho2;have k2:=aac bk2.out;clear bk1 bl1 ho2 b2 O1;go_wp2_with fail;have ho2:=O2.out;rw[HN.out]at ho2;refine(HTv.out G (Srch.start G Fc).mem _ _ _ bl2.out ho2).mono ?_;rintro e w3 ⟨vb,rfl,ho3,b3⟩;have bk3:=qz (aae bk2.out b3);have bl3:=qz (aaa bl2.out b3);have O3:=qz (aan O2.out b3);have P3:=qz (aaO (b2:=w.heap.size+1) ho3 (lt_of_block bk2.out));clear ho2 ho3 b3 k2 bk2 bl2 O2;go_wp2_with fail
 go_step3
 go_wp2_with fail
 go_loopg [6] 199 (fun gk s6 wr=>∃(o:List UInt8) (b:List Tm),Hid (Srch G Fc o b gk)/\Hid (wr.ownsRow (w.heap.size+1) 5 1 v1 n (o.map ub))/\Hid (wr.ownsRow (w.heap.size+1) 9 1 s6 k (b.map sv))/\
  Hid (wr.heap[w.heap.size]?=some (.cells #[.func (.func C) #[] caps] 186 (0,0)))/\Hid (Zb w wr))
 case atStart=>exact⟨G,Fc G,Srch.start G Fc,O3,P3,bk3,bl3⟩
 case round=>
  obtain⟨o,b,hsr,ho,hb,hbk,hbl⟩:=hrel;have hol:Hid (n=o.length):=by show _=_;rw[HN.out];exact(aju G HS.out hl5 hsr.out.mem).1.symm
  go_wp2_with fail;refine(HNx.out o _ _ _ hol.out ho.out).mono ?_;rintro e w4 ⟨rfl,ho4,g4⟩;have hv1:=qz fun g (e:v1.ownBlock=some g)=>(ho.out.lt g e).1;have hb4:=qz (ac0 hb.out g4 (fun g e h=>ad0 apP ho.out hb.out g h e));have hbk4:Hid (w4.heap[w.heap.size]?=some (.cells #[.func (.func C) #[] caps] 186 (0,0))):=(g4.block _ (lt_of_block hbk.out) (fun e=>by have:=hv1.out _ e.symm;omega)).trans hbk.out;have hbl4:=qz (aaB hbl.out g4 (fun g e=>by have:=hv1.out g e;omega) hbl.out.size);have hb0:=lt_of_block hbk4.out;have HO4:=qz ho4;clear g4 ho4 hb hbk hbl
  cases hx:nextG ltU o with
  | none=>
   have he:=qz (hsr.out.stop hx);simp only[Option.isSome_none];go_wp2_with fail
   try rw[Exit.noGoto_ret]
   go_ret;rw[<-he.out];exact⟨_,rfl,aaO hb4.out (by omega),hbl4.out⟩
  | some m=>
   obtain⟨k',rfl,hs2⟩:=hsr.out.go HS.out hl5 hx;have hsm:=qz hs2;have ho4:=HO4.out;rw[hx]at ho4
   have ho5:w4.ownsRow (w.heap.size+1) 5 1 v1 m.length (m.map ub):=by
    rw[ahT hx,<-hol.out];exact ho4
   have hbl0:Hid (b.length=k):=by
    obtain⟨_,_,o',h1,h2⟩:=hsr.out;show _=_;rw[h2];exact HK.out o' h1
   have HO5:=qz ho4;have hml:Hid (m.length=n):=by show _=_;rw[ahT hx,hol.out]
   have k4:=aac hbk4.out;simp only[Option.isSome_some];clear hs2 HO4 ho4 hsr hx hol ho;go_wp2_with fail;refine(HTv.out m hsm.out.mem _ _ _ hbl4.out ho5).mono ?_;rintro e w5 ⟨vt,rfl,ht5,b5⟩;have hb5:=qz (aan hb4.out b5);have hbk5:=qz (aae hbk4.out b5);have hbl5:=qz (aaa hbl4.out b5);have HO6:=qz (aan HO5.out b5);have HT5:=qz (aaO (b2:=w.heap.size+1) ht5 hb0);have hml2:Hid ((Fc m).length=k):=HK.out m hsm.out.mem;clear ho5 b5 ht5 k4 hb0 hb4 hbk4 hbl4 HO5;obtain⟨pt,ct,rfl⟩:=aaM HT5.out;obtain⟨pb,cb,rfl⟩:=aaM hb5.out;go_wp2_with fail
   go_loopg [6,26] k (fun j s6 s26 wr=>∃i:Nat,s26=.int .i64 (i:Int)/\i+j=k/\s6=.slice pb k cb/\wr=w5/\Hid (((Fc m).map Tm.pr).take i=(b.map Tm.pr).take i))
   case atStart=>exact⟨0,by congr 1,by omega,rfl,rfl,rfl⟩
   case round=>
    obtain⟨i,rfl,hij,rfl,rfl,htk⟩:=hrel
    by_cases hlt:(i:Int)<(k:Int)
    ·have hi1:i<(Fc m).length:=by rw[hml2.out];omega
     have hi2:i<b.length:=by rw[hbl0.out];omega
     obtain⟨gt',hpt,_,hgt2,hgt3,hct⟩:=abQ HT5.out (by omega);obtain⟨gb',hpb,_,hgb2,hgb3,hcb⟩:=abQ hb5.out (by omega);subst hpt hpb;have c1:wr.cell? ⟨gt',i,none⟩=some (.string (S (Fc m)[i])):=hct i (sv (Fc m)[i]) (by rw[List.getElem?_map,List.getElem?_eq_getElem hi1];rfl);have c2:wr.cell? ⟨gb',i,none⟩=some (.string (S b[i])):=hcb i (sv b[i]) (by rw[List.getElem?_map,List.getElem?_eq_getElem hi2];rfl);have hg1:((Fc m).map Tm.pr)[i]?=some (Fc m)[i].pr:=by rw[List.getElem?_map,List.getElem?_eq_getElem hi1];rfl
     have hg2:(b.map Tm.pr)[i]?=some b[i].pr:=by rw[List.getElem?_map,List.getElem?_eq_getElem hi2];rfl
     obtain⟨x,hx⟩:∃x,x=(Fc m)[i]:=⟨_,rfl⟩;obtain⟨y,hy⟩:∃y,y=b[i]:=⟨_,rfl⟩;rw[<-hx]at c1 hg1;rw[<-hy]at c2 hg2;obtain⟨X,hX⟩:∃X,X=S x:=⟨_,rfl⟩;obtain⟨Y,hY⟩:∃Y,Y=S y:=⟨_,rfl⟩;have hless:Op.bytesLess X.toList Y.toList=decide (x.pr<y.pr):=by rw[bytesLess_eq,Lib.toList_data,Lib.toList_data,hX,hY];rfl
     have hgtr:(X.toList==Y.toList)=(x.pr==y.pr):=by rw[Lib.toList_data,Lib.toList_data,hX,hY];rfl
     rw[<-hX]at c1;rw[<-hY]at c2;have G1:=qz hg1;have G2:=qz hg2;clear hX hY hx hy hg1 hg2 hct hcb hi1 hi2
     by_cases h1:x.pr<y.pr
     ·rw[decide_eq_true h1]at hless;have hyes:Hid (agS ((Fc m).map Tm.pr) (b.map Tm.pr)=true):=arm i _ _ _ _ htk.out G1.out G2.out h1;clear hgtr;go_wp2_with fail
      go_roundg k'
      case rel=>exact⟨m,Fc m,by have:=hsm.out;rw[hyes.out]at this;show Srch _ _ _ _ _;simpa using this,HO6,HT5,hbk5,hbl5⟩
      case measure=>omega
     ·rw[decide_eq_false h1]at hless
      by_cases h2:y.pr<x.pr
      ·rw[show (x.pr==y.pr)=false from by simp only[beq_eq_false_iff_ne];intro e;rw[e]at h2;exact lt_irr _ h2]at hgtr;have hno:Hid (agS ((Fc m).map Tm.pr) (b.map Tm.pr)=false):=atQ i _ _ _ _ htk.out G1.out G2.out h2;go_wp2_with fail
       go_roundg k'
       case rel=>exact⟨m,b,by have:=hsm.out;rw[hno.out]at this;show Srch _ _ _ _ _;simpa using this,HO6,hb5,hbk5,hbl5⟩
       case measure=>omega
      ·have hxy:x.pr=y.pr:=List.le_antisymm (List.not_lt.1 h2) (List.not_lt.1 h1);rw[show (x.pr==y.pr)=true from by rw[hxy];simp]at hgtr
       have hsame:Hid (((Fc m).map Tm.pr).take (i+1)=(b.map Tm.pr).take (i+1)):=by
        show _=_;obtain⟨a1,e1⟩:=List.getElem?_eq_some_iff.1 G1.out;obtain⟨a2,e2⟩:=List.getElem?_eq_some_iff.1 G2.out;rw[List.take_succ_eq_append_getElem a1,List.take_succ_eq_append_getElem a2,htk.out,e1,e2,hxy]
       go_wp2_with fail
       go_roundg (gk - 1)
       case rel=>exact⟨i+1,by congr 1,by omega,rfl,rfl,hsame⟩
       case measure=>omega
    ·obtain rfl:i=k:=by omega
     have hno:Hid (agS ((Fc m).map Tm.pr) (b.map Tm.pr)=false):=by
      have:=htk.out;rw[List.take_of_length_le (by rw[List.length_map,hml2.out];exact nl _),List.take_of_length_le (by rw[List.length_map,hbl0.out];exact nl _)]at this
      show _=_;rw[this];exact aoU _
     go_wp2_with fail
     go_roundg k'
     case rel=>exact⟨m,b,by have:=hsm.out;rw[hno.out]at this;show Srch _ _ _ _ _;simpa using this,HO6,hb5,hbk5,hbl5⟩
     case measure=>omega
theorem ac5 (a b:ByteArray):leT2 a b=decide (a.data.toList<=b.data.toList):=by
 unfold leT2;rw[bytesLess_eq,Lib.toList_data,Lib.toList_data]
 by_cases h:a.data.toList<b.data.toList
 ·have:a.data.toList<=b.data.toList:=List.le_of_lt h;simp[h,this]
 ·by_cases e:a.data.toList=b.data.toList
  ·have:a.data.toList<=b.data.toList:=by rw[e];exact List.le_refl _
   simp[e]
  ·have:¬a.data.toList<=b.data.toList:=fun hle=>by
    rcases List.le_iff_lt_or_eq.1 hle with h1|h1
    ·exact h h1
    ·exact e h1
   have e':(a.data.toList==b.data.toList)=false:=by simpa using e
   rw[e',decide_eq_false h,decide_eq_false this];rfl
theorem amj (a b c:ByteArray)(h:leT2 a b=true)(k:leT2 b c=true):leT2 a c=true:=by
 rw[ac5]at *;exact decide_eq_true (List.le_trans (of_decide_eq_true h) (of_decide_eq_true k))
theorem amk (a b:ByteArray):leT2 a b=true\/leT2 b a=true:=by
 rw[ac5,ac5];rcases List.le_total a.data.toList b.data.toList with h|h
 ·exact .inl (decide_eq_true h)
 ·exact .inr (decide_eq_true h)
theorem abt {a b:ByteArray}(h:a.data.toList=b.data.toList):a=b:=by
 cases a;cases b;congr;exact Array.toList_inj.1 h
theorem apR (a b:ByteArray)(h:leT2 a b=true)(k:leT2 b a=true):a=b:=by
 rw[ac5]at *;exact abt (List.le_antisymm (of_decide_eq_true h) (of_decide_eq_true k))
theorem insB_perm (out:List ByteArray)(s:ByteArray):(ahR out s).Perm (s::out):=by
 unfold ahR;have h:=List.take_append_drop (amL out s) out;rw[List.append_assoc,List.singleton_append];refine List.perm_middle.trans ?_;rw[h]
theorem apS (a:ByteArray)(out:List ByteArray)(s:ByteArray):ahR (a::out) s=if leT2 a s then a::ahR out s else s::a::out:=by
 unfold ahR amL;rw[List.takeWhile_cons]
 split<;>simp
theorem insB_sorted (out:List ByteArray)(s:ByteArray)(h:out.Pairwise fun a b=>leT2 a b=true):(ahR out s).Pairwise fun a b=>leT2 a b=true:=by
 induction out with
 | nil=>simp[ahR,amL]
 | cons a out ih=>
  rw[apS];rw[List.pairwise_cons]at h
  split
  ·rename_i hle
   refine List.pairwise_cons.2 ⟨fun x hx=>?_,ih h.2⟩;rcases List.mem_cons.1 ((insB_perm out s).mem_iff.1 hx) with rfl|hx
   ·exact hle
   ·exact h.1 x hx
  ·rename_i hle
   have h1:leT2 s a=true:=(amk s a).resolve_right hle;refine List.pairwise_cons.2 ⟨fun x hx=>?_,List.pairwise_cons.2 h⟩;rcases List.mem_cons.1 hx with rfl|hx
   ·exact h1
   ·exact amj s a x h1 (h.1 x hx)
theorem apT (xs:List ByteArray):(ad6 xs).Perm xs:=by
 have:∀(l out:List ByteArray),(l.foldl ahR out).Perm (out++l):=by
  intro l;induction l with
  | nil=>intro out;simp
  | cons a l ih=>
   intro out;refine(ih _).trans ?_;refine((insB_perm out a).append_right l).trans ?_;exact List.perm_middle.symm
 exact this xs []
theorem ajO (xs:List ByteArray):(ad6 xs).Pairwise fun a b=>leT2 a b=true:=by
 have:∀(l out:List ByteArray),(out.Pairwise fun a b=>leT2 a b=true)->(l.foldl ahR out).Pairwise fun a b=>leT2 a b=true:=by
  intro l;induction l with
  | nil=>intro out h;exact h
  | cons a l ih=>intro out h;exact ih _ (insB_sorted out a h)
 exact this xs [] List.Pairwise.nil
theorem ajP (l:List Tm):(srtT l).Pairwise fun a b=>a.pr<=b.pr:=by
 have:=List.pairwise_mergeSort (le:=fun a b:Tm=>decide (a.pr<=b.pr)) (fun a b c h k=>decide_eq_true (List.le_trans (of_decide_eq_true h) (of_decide_eq_true k)))
  (fun a b=>by
   rcases List.le_total a.pr b.pr with h|h
   ·simp[h]
   ·simp[h]) l
 exact this.imp fun h=>of_decide_eq_true h
theorem ak8 (l:List Tm):ad6 (l.map S)=(srtT l).map S:=by
 refine List.Perm.eq_of_pairwise (le:=fun a b=>leT2 a b=true) (fun a b _ _ h k=>apR a b h k) (ajO _) ?_ ?_
 ·refine List.pairwise_map.2 ((ajP l).imp fun {a b} h=>?_);rw[ac5];exact decide_eq_true (by simpa [aaW] using h)
 ·exact(apT _).trans (((List.mergeSort_perm l _).symm).map S)
theorem af7 (l:List Tm)(h:l≠[]):abJ ⟨#[38]⟩ (l.map S)=S (joinR .par l):=by
 induction l with
 | nil=>exact absurd rfl h
 | cons a l ih=>
  cases l with
  | nil=>rfl
  | cons b l=>
   have:=ih (by simp);simp only[List.map_cons]at this ⊢
   show (⟨#[40]⟩:ByteArray)++S a++_++abJ _ (S b::l.map S)++(⟨#[41]⟩:ByteArray)=_;rw[this];refine abt ?_;simp[S,joinR,Tm.pr]
theorem ai5 (l:List Tm)(h:l≠[]):abJ ⟨#[43]⟩ (l.map S)=S (joinR .sum l):=by
 induction l with
 | nil=>exact absurd rfl h
 | cons a l ih=>
  cases l with
  | nil=>rfl
  | cons b l=>
   have:=ih (by simp);simp only[List.map_cons]at this ⊢
   show (⟨#[40]⟩:ByteArray)++S a++_++abJ _ (S b::l.map S)++(⟨#[41]⟩:ByteArray)=_;rw[this];refine abt ?_;simp[S,joinR,Tm.pr]
theorem axi (sg:ByteArray)(hsg:sg.size<=1)(ts:List Tm)(v:Value)(n base:Nat)(w:World)(h:w.ownsRow base 9 1 v n (ts.map sv))(hn:n=ts.length)(hn1:1<=n)(hn2:n<=100)(ht:∀t∈ts,t.pr.length<=1000) : Calls prog 155 #[v,.string sg] w fun e w'=>e=.returned (.string (abJ sg (ts.map S)))/\w=w':=by
 rcases h.2 with⟨_,h0⟩|⟨g,cap,cur,rfl,h2,h3,h4,h5,h6,h7⟩
 ·omega
 ·refine agq w g n cap cur (ts.map S) sg (by rw[List.length_map];exact hn) hn1 hn2 hsg (fun x hx=>?_) (fun j hj=>?_) h3
  ·obtain⟨t,htm,rfl⟩:=List.mem_map.1 hx;rw[aaq];exact ht t htm
  ·have hj':j<ts.length:=by simpa using hj
   have:=ab_ h j (sv ts[j]) (by rw[List.getElem?_map,List.getElem?_eq_getElem hj'];rfl);rw[aoW,cell_of_row w g j cur _ _ h3]at this
   rw[this,List.getElem_map];rfl
theorem axj (sg:ByteArray)(v:Value)(base:Nat)(w:World)(h:w.ownsRow base 9 1 v 0 []) : Calls prog 155 #[v,.string sg] w fun e w'=>e=.returned (.string ⟨#[48]⟩)/\w=w':=by
 obtain⟨p,cap,rfl⟩:=aaM h;exact agr p cap sg w
theorem axk (args:Array Value)(w:World):(callFunc 175 args).run prog w=.ok (.enter 175 args) w:=by kernel_rfl
theorem axl (j g:Nat)(hj:j<256)(n0:Int)(w:World)(h1:w.cell? ⟨g,j,none⟩=some (.int .u8 n0)) : Calls prog 175 #[.int .u8 ((j:Int)),.pointer (some ⟨g,0,none⟩)] w fun e w'=>e=.returned (.int .u8 n0)/\w=w':=by
 have hj2:(j:Int)<256:=by omega
 go_enter func175,ntmps175
 go_wp2_with fail;go_ret;exact⟨rfl,rfl⟩
theorem auZ (c:UInt8)(D:Array Value)(L:UInt8->UInt8)(v:Value)(hD:DrOf D L v)(g:Nat)(w:World)(h:w.heap[g]?=some (.cells D 132 (0,0))) : Calls prog 175 (#[.int .u8 (c.toNat:Int)]++#[.pointer (some ⟨g,0,none⟩)]) w fun e w'=>e=.returned (.int .u8 ((L c).toNat:Int))/\w=w':=by
 have h1:=c.toNat_lt;have h3:UInt8.ofNat c.toNat=c:=u8_ext (by rw[UInt8.toNat_ofNat'];omega);have:=axl (c.toNat) g (by omega) ((L c).toNat:Int) w (by rw[cell_of_row w g _ D _ _ h,hD.at_ _ (by omega),h3]);exact this
theorem aml (t:Tm)(D:Array Value)(L:UInt8->UInt8)(vL:Value)(hs:DrOf D L vL)(g:Nat)(v:World)(h:v.heap[g]?=some (.cells D 132 (0,0))) :
  Calls prog 172 #[.iface (aau t) (pay t),.func (.func 175) #[] #[.pointer (some ⟨g,0,none⟩)]] v fun e v'=>e=.returned (.iface (aau (t.mapU L)) (pay (t.mapU L)))/\Zb v v':=
 acZ t 175 _ L axk v fun c hc v1 b1=>auZ c D L vL hs g v1 (aaz h b1)
end Go.Proofs.YtihmcgcgjmbmhaaGreat.T1
