/- Texts of the proof. No conditions. -/
import Derived.Test.YtihmcgcgjmbmhaaGreatQbc
namespace Go.Proofs.YtihmcgcgjmbmhaaGreat.T1
open Go.Proofs.Tryz
set_option maxHeartbeats 8000000
open Go.RowKit
set_option maxRecDepth 100000
set_option linter.unusedVariables false
set_option linter.unusedSimpArgs false
theorem axy {nm:UInt8->Bool}(t:Tm)(h:t.ok nm=true):t.fro.2.ok nm=true/\t.fro.2.pr.length<=t.pr.length/\t.fro.2.size<=t.size/\∀x p,t.fro.2≠.own x p:=by
 induction t with
 | own x p ih=>
  simp only[Tm.ok,bae]at h;obtain⟨h1,h2,h3,h4⟩:=ih h.2;exact⟨h1,by simp only[Tm.fro,Tm.pr,lla,List.length_cons];omega,by simp only[Tm.fro,Tm.size];omega,h4⟩
 | _=>exact⟨h,nl _,nl _,fun _ _ e=>(by cases e)⟩
theorem ash {t:Tm}(hE:t.ok nmE=true)(h:∀x p,t≠.own x p):((t.kind.toNat:Int)==35)=false:=by
 cases t<;>first|rfl|exact absurd rfl (h _ _)
theorem ap0 {a b:ByteArray}(h:a.data.toList=b.data.toList):a=b:=by
 cases a;cases b;congr;exact Array.toList_inj.1 h
theorem BL (f:List UInt8)(x:UInt8):B f++B [x]=B (f++[x]):=by
 apply ap0
 show (B f++B [x]).data.toList=(B (f++[x])).data.toList;rw[ByteArray.data_append,Array.toList_append,aaQ,aaQ,aaQ]
theorem adz (t:Tm)(hE:t.ok nmE=true)(hl:t.pr.length<=700)(hs:t.size<=500)(w:World) : Calls prog 72 #[.string (S t)] w fun e w'=>e=.returned (.tuple #[.string (B t.fro.1),.string (S t.fro.2)])/\w=w':=by
 have HE:=qz hE;have HL:=qz hl;have HS:=qz hs;clear hE hl hs;obtain⟨X0,hX0⟩:∃X,X=S t:=⟨_,rfl⟩;have HX0:=qz hX0;rw[<-hX0];clear hX0
 go_enter func72,ntmps72
 go_wp2_with fail
 go_loopg [0,4] 500 (fun g s0 s4 wr=>(∃X Y:ByteArray,s0=.string X/\s4=.string Y/\Y.size+g<=500/\Hid (∃(f:List UInt8) (u:Tm),X=S u/\Y=B f/\t.fro=(f++u.fro.1,u.fro.2)/\u.ok nmE=true/\u.pr.length<=700/\u.size<=g))/\wr=w)
 case atStart=>exact⟨⟨X0,⟨#[]⟩,rfl,rfl,by decide,[],t,HX0.out,rfl,rfl,HE.out,HL.out,HS.out⟩,rfl⟩
 case round=>
  obtain⟨⟨X,Y,rfl,rfl,hY,hex⟩,rfl⟩:=hrel;obtain⟨f,u,rfl,eY,ef,hu,hul,hus⟩:=hex.out;have HK:=qz (aah u hu hul wr)
  by_cases ho:∃x p,u=.own x p
  ·obtain⟨x,p,rfl⟩:=ho
   have e1:(S (Tm.own x p)).extract 1 2=B [x]:=by
    refine ap0 ?_;rw[ByteArray.data_extract,Array.toList_extract,List.extract_eq_take_drop,aaW,aaQ];rfl
   have e2:(S (Tm.own x p)).extract 3 (S (Tm.own x p)).size=S p:=abK (t:=.own x p) (p:=p) (pre:=[35,x,46]) rfl;have hz:(S (Tm.own x p)).size=p.pr.length+3:=by rw[aaq];simp[Tm.pr]
   simp only[Tm.pr,lla,List.length_cons,List.length_nil]at hul;simp only[Tm.size]at hus;simp only[Tm.ok,bae]at hu;have hk:(((Tm.own x p).kind.toNat:Nat):Int)=35:=rfl;rw[hk]at HK;obtain⟨U,hU⟩:∃U,U=S (Tm.own x p):=⟨_,rfl⟩;rw[<-hU]at HK e1 e2 hz
   have hnew:Hid (∃(f:List UInt8) (u:Tm),U.extract 3 U.size=S u/\Y++U.extract 1 2=B f/\t.fro=(f++u.fro.1,u.fro.2)/\u.ok nmE=true/\u.pr.length<=700/\u.size<=gk - 1):=
    ⟨f++[x],p,e2,by rw[eY,e1,BL],by rw[ef];simp[Tm.fro],hu.2,by omega,by omega⟩
   have hy1:(Y++U.extract 1 2).size=Y.size+1:=by rw[ByteArray.size_append,e1,aa1];rfl
   have hs3:(3:Int)<=(U.size:Int):=by omega
   have hs2:(2:Int)<=(U.size:Int):=by omega
   have hsU:U.size<=1000:=by omega
   clear hz;have he12:(U.extract 1 2).size=1:=by rw[e1,aa1];rfl
   have hgp:1<=gk:=by omega
   rw[<-hU];clear hU eY ef hu hul hus hk e1 e2 hex;go_wp2_with fail;refine(HK.out).mono ?_;rintro e w1 ⟨rfl,rfl⟩;go_wp2_with fail
   go_roundg (gk - 1)
   case rel=>exact⟨⟨_,_,rfl,rfl,by omega,hnew⟩,rfl⟩
   case measure=>omega
  ·have hno:∀x p,u≠.own x p:=fun x p e=>ho ⟨x,p,e⟩;have hk:=ash hu hno
   have hfr:u.fro=([],u):=by cases u<;>first|rfl|exact absurd rfl (hno _ _)
   have h1:Hid (Y=B t.fro.1):=by show _=_;rw[ef,hfr,eY];simp
   have h2:Hid (S u=S t.fro.2):=by show _=_;rw[ef,hfr]
   obtain⟨kk,hkk⟩:∃kk:Int,kk=(u.kind.toNat:Int):=⟨_,rfl⟩;rw[<-hkk]at HK hk;obtain⟨U,hU⟩:∃U,U=S u:=⟨_,rfl⟩;rw[<-hU]at HK h2 ⊢;clear hU hkk eY ef hu hul hus hex ho hno hfr;go_wp2_with fail;refine(HK.out).mono ?_;rintro e w1 ⟨rfl,rfl⟩;go_wp2_with fail;go_ret2;exact⟨by rw[<-h1.out,<-h2.out];rfl,rfl⟩
theorem asi {t:Tm}(h:t≠.nil)(hE:t.ok nmE=true):((t.kind.toNat:Int)==48)=false:=by
 cases t<;>first|rfl|exact absurd rfl h
theorem asj {t:Tm}(h:∀p q,t≠.par p q)(hE:t.ok nmE=true):((t.kind.toNat:Int)==38)=false:=by
 cases t<;>first|rfl|exact absurd rfl (h _ _)
theorem ajQ (t:Tm):t.pars≠[]:=by cases t<;>(intro e;cases e)
theorem avj {t:Tm}(h:∀p q,t≠.par p q):t.pars=[t]:=by
 cases t<;>first|rfl|exact absurd rfl (h _ _)
theorem ap1 (t:Tm):t.pars.length<=t.size:=by
 induction t with
 | par p q ih ih2=>simp only[Tm.pars,List.length_cons,Tm.size];omega
 | _=>simp[Tm.pars,Tm.size]
theorem ahY (X Y F:ByteArray)(hF:Ze 72 #[.string X] (.tuple #[.string F,.string Y]))(hK:Ze 116 #[.string Y] (.int .u8 48))(w:World) : Calls prog 73 #[.string X] w (TxP [] 0 w):=by
 have HF:=qz hF;have HK:=qz hK;clear hF hK
 go_enter func73,ntmps73
 go_wp2_with fail;refine(HF.out _).mono ?_;rintro e w1 ⟨rfl,rfl⟩;go_wp2_with fail;refine(HK.out _).mono ?_;rintro e w1 ⟨rfl,rfl⟩;go_wp2_with fail;go_ret;exact⟨_,rfl,World.ownsRow_nil _ _ _ _,Below.refl _ _⟩
theorem agw (X F:ByteArray)(t:Tm)(hF:Ze 72 #[.string X] (.tuple #[.string F,.string (S t)]))(hn:t≠.nil)(hE:t.ok nmE=true)(hl:t.pr.length<=700)(hs:t.size<=500)(w:World) : Calls prog 73 #[.string X] w (TxP t.pars t.pars.length w):=by
 obtain⟨i0,hi,hz0,hz1,hz2⟩:=info_parts Tryz.infoS;have HF:=qz hF;have HK:=qz (aah t hE hl);have hk0:=asi hn hE;have HE:=qz hE;have HL:=qz hl;have HS:=qz hs;have hps:=ap1 t;obtain⟨k0,hk⟩:∃k0:Int,k0=(t.kind.toNat:Int):=⟨_,rfl⟩;rw[<-hk]at HK hk0;obtain⟨X0,hX0⟩:∃X,X=S t:=⟨_,rfl⟩;have HX0:=qz hX0;rw[<-hX0]at HF HK;obtain⟨N,hN⟩:∃N,N=t.pars.length:=⟨_,rfl⟩;have HN:=qz hN;rw[<-hN]at hps ⊢;clear hF hE hl hk hX0 hn hN
 go_enter func73,ntmps73
 go_wp2_with fail;refine(HF.out _).mono ?_;rintro e w1 ⟨rfl,rfl⟩;go_wp2_with fail;refine(HK.out _).mono ?_;rintro e w1 ⟨rfl,rfl⟩;go_wp2_with fail
 go_loopg [0,3] 500 (fun g s0 s3 wr=>(∃(Y:ByteArray) (i:Nat),s0=.string Y/\i+1<=N/\Hid (∃(xs:List Tm) (u:Tm),Y=S u/\i=xs.length/\t.pars=xs++u.pars/\u.ok nmE=true/\u.pr.length<=700/\u.size<=g/\wr.ownsRow w.heap.size 9 1 s3 i (xs.map sv)))/\Hid (Zb w wr))
 case atStart=>
  exact⟨⟨X0,0,rfl,by have:=HN.out;have:=ajQ t;have:0<t.pars.length:=List.length_pos_iff.2 (ajQ t);omega,[],t,HX0.out,rfl,rfl,HE.out,HL.out,HS.out,World.ownsRow_nil _ _ _ _⟩,Below.refl _ _⟩
 case round=>
  obtain⟨⟨Y,i,rfl,hiN,hex⟩,hbl⟩:=hrel;obtain⟨xs,u,rfl,hix,hpx,hu,hul,hus,hown⟩:=hex.out;have HKu:=qz (aah u hu hul wr);have HO:=qz hown;have hsz:=hbl.out.size;clear hex
  by_cases hp:∃p q,u=.par p q
  ·obtain⟨p,q,rfl⟩:=hp;have HP:=qz (aaj (.par p q) hu hul wr);have hk:(((Tm.par p q).kind.toNat:Nat):Int)=38:=rfl;rw[hk]at HKu;simp only[Tm.ok,bae]at hu;simp only[Tm.pr,lla,List.length_cons,List.length_nil]at hul;simp only[Tm.size]at hus;have hpl:(p::q.pars).length<=t.pars.length:=by rw[hpx];simp[Tm.pars]
   have hiN2:i+2<=N:=by
    have:=HN.out;have h2:t.pars.length=xs.length+(Tm.par p q).pars.length:=by rw[hpx,lla]
    have h3:0<q.pars.length:=List.length_pos_iff.2 (ajQ q);simp only[Tm.pars,List.length_cons]at h2;omega
   have hnew:Hid (t.pars=(xs++[p])++q.pars/\i+1=(xs++[p]).length/\(xs++[p]).map sv=xs.map sv++[.string (S p)]):=⟨by rw[hpx];simp[Tm.pars],by rw[hix];simp,by simp[sv]⟩;have hq:=qz (show q.ok nmE=true/\q.pr.length<=700/\q.size<=gk - 1 from ⟨hu.2,by omega,by omega⟩);obtain⟨U,hU⟩:∃U,U=S (Tm.par p q):=⟨_,rfl⟩;obtain⟨A,hA⟩:∃A,A=S p:=⟨_,rfl⟩;obtain⟨Bq,hB⟩:∃Bq,Bq=S q:=⟨_,rfl⟩;have HBq:=qz hB
   have HP2:Hid (Calls prog 117 #[.string U] wr fun e w'=>∃b,e=.returned (.slice (some ⟨b,0,none⟩) 2 2)/\wr.heap.size<=b/\w'.heap[b]?=some (.cells #[.string A,.string Bq] 9 (0,0))/\Zb wr w'):=by
    rw[hU,hA,hB];exact HP.out
   rw[<-hA]at hnew;rw[<-hU]at HKu ⊢;have hgp:1<=gk:=by omega
   clear hU hA hB HP hu hul hus hpl hk hpx hix hown;go_wp2_with fail;refine(HKu.out).mono ?_;rintro e w2 ⟨rfl,rfl⟩;go_wp2_with fail;refine(HP2.out).mono ?_;rintro e w3 ⟨b,rfl,hb,hh,b3⟩;have c0:=aaf hh;have hO3:=qz (aan HO.out b3);have hbl3:=qz (aaa hbl.out b3);have HH:=qz hh;have hblt:=lt_of_block hh
   have hne:Hid (∀g,u3.ownBlock=some g->g<b/\w.heap.size<=g):=fun g e=>by
    have:=HO.out.lt g e;exact⟨by omega,this.1⟩
   clear hb hh b3 hbl HO
   go_wp2_with (at_builtin;refine aaN rfl (.tmp 18) (.tmp 22) 22 rfl w.heap.size w.heap.size 9 i0 (.string ⟨#[]⟩) 16 underlying22 hi hz0 hz1 hz2 rfl u3 i _ rfl (hO3.out.alloc _) _ 1 [.string A] rfl (abr w3 (.string A) 9 w.heap.size hbl3.out.size) (fun u hu=>by simp at hu;subst hu;rfl) ?c2 ?c3 ?c4 ?_)
   case c2=>unfold maxLen;omega
   case c3=>omega
   case c4=>have:=hbl3.out.size;simp;omega
   intro v4 w4 hown4 hgrow4 _
   have hb4:w4.heap[b]?=some (.cells #[.string A,.string Bq] 9 (0,0)):=by
    rw[hgrow4.block b (by simp;omega) (fun e=>by have:=hne.out b e.symm;omega)];exact(heap_alloc_old w3 _ hblt).trans HH.out
   have c1:=aak hb4
   have O4:Hid (w4.ownsRow w.heap.size 9 1 v4 (i+1) ((xs++[p]).map sv)):=by
    show World.ownsRow _ _ _ _ _ _ _;rw[hnew.out.2.2];exact hown4
   have bl4:=qz (aaB (hbl3.out.alloc hbl3.out.size _) hgrow4 (fun g e=>(hne.out g e).2) (by have:=hbl3.out.size;simp;omega));clear hown4 hgrow4 hb4 hbl3 hO3 HH;go_wp2_with fail
   go_roundg (gk - 1)
   case rel=>exact⟨⟨_,i+1,rfl,by omega,xs++[p],q,HBq.out,hnew.out.2.1,hnew.out.1,hq.out.1,hq.out.2.1,hq.out.2.2,O4.out⟩,bl4⟩
   case measure=>omega
  ·have hno:∀p q,u≠.par p q:=fun p q e=>hp ⟨p,q,e⟩;have hk:=asj hno hu;have hpp:=avj hno;have hfin:Hid (i+1=N/\t.pars.map sv=xs.map sv++[.string (S u)]):=⟨by rw[HN.out,hpx,hpp,hix];simp,by rw[hpx,hpp];simp[sv]⟩;obtain⟨kk,hkk⟩:∃kk:Int,kk=(u.kind.toNat:Int):=⟨_,rfl⟩;rw[<-hkk]at HKu hk;obtain⟨U,hU⟩:∃U,U=S u:=⟨_,rfl⟩;rw[<-hU]at HKu hfin ⊢;have hne:Hid (∀g,u3.ownBlock=some g->w.heap.size<=g):=fun g e=>(HO.out.lt g e).1;clear hU hkk hpx hix hu hul hus hp hno hpp hown;go_wp2_with fail;refine(HKu.out).mono ?_;rintro e w2 ⟨rfl,rfl⟩
   go_wp2_with (at_builtin;refine aaN rfl (.tmp 27) (.tmp 29) 22 rfl w.heap.size w.heap.size 9 i0 (.string ⟨#[]⟩) 16 underlying22 hi hz0 hz1 hz2 rfl u3 i _ rfl (HO.out.alloc _) _ 1 [.string U] rfl (abr _ (.string U) 9 w.heap.size hsz) (fun u hu=>by simp at hu;subst hu;rfl) ?c2 ?c3 ?c4 ?_)
   case c2=>unfold maxLen;omega
   case c3=>omega
   case c4=>simp;omega
   intro v4 w4 hown4 hgrow4 _
   have O4:Hid (w4.ownsRow w.heap.size 9 1 v4 N (t.pars.map sv)):=by
    show World.ownsRow _ _ _ _ _ _ _;rw[hfin.out.2,<-hfin.out.1];exact hown4
   have bl4:=qz (aaB (hbl.out.alloc hsz _) hgrow4 (fun g e=>hne.out g e) (by simp;omega));clear hown4 hgrow4;go_wp2_with fail;go_ret;exact⟨_,rfl,O4.out,bl4.out⟩
theorem ap2 {t:Tm}(h:t.fro.2≠.nil):t.thrs=t.fro.2.pars:=by
 unfold Tm.thrs
 cases e:t.fro.2<;>first|rfl|exact absurd e h
theorem ahZ (t:Tm)(hE:t.ok nmE=true)(hl:t.pr.length<=700)(hs:t.size<=500)(w:World) : Calls prog 73 #[.string (S t)] w (TxP t.thrs t.thrs.length w):=by
 obtain⟨h1,h2,h3,h4⟩:=axy t hE
 by_cases hn:t.fro.2=.nil
 ·have e:t.thrs=[]:=by unfold Tm.thrs;rw[hn]
  rw[e];have hF:=adz t hE hl hs;rw[hn]at hF;exact ahY (S t) (S .nil) _ hF (fun w=>aah .nil rfl (by simp[Tm.pr]) w) w
 ·rw[ap2 hn];exact agw (S t) _ t.fro.2 (adz t hE hl hs) hn h1 (by omega) (by omega) w
theorem ajR (ts:List Tm)(n:Nat)(hn:n=ts.length)(hn2:n<=300)(ht:∀t∈ts,t.pr.length<=900)(v:Value)(base:Nat)(w:World)(ho:w.ownsRow base 41 1 v n (ts.map enc)) : Calls prog 63 #[v] w (TxP ts n w):=by
 obtain⟨i0,hi,hz0,hz1,hz2⟩:=info_parts Tryz.infoS;obtain⟨p,cap,rfl⟩:=aaM ho;have HO:=qz ho;have HF':=qz fun i (h:i<ts.length) w'=>agX ts[i] (ht _ (List.getElem_mem h)) w';have HN:=qz hn;clear ho hn ht
 go_enter func63,ntmps63
 go_wp2_with fail
 go_loopg [3,8] n (fun k s3 s8 wr=>(∃i:Nat,s8=.int .i64 (i:Int)/\i+k=n/\Hid (wr.ownsRow w.heap.size 9 1 s3 i ((ts.take i).map sv)))/\Hid (Zb w wr))
 case atStart=>exact⟨⟨0,by congr 1,by omega,World.ownsRow_nil _ _ _ _⟩,Below.refl _ _⟩
 case round=>
  obtain⟨⟨i,rfl,hik,hown⟩,hbw⟩:=hrel;have hsz:=hbw.out.size
  by_cases hlt:(i:Int)<(n:Int)
  ·have hit:i<ts.length:=by rw[<-HN.out];omega
   obtain⟨g,hpg,hg1,hg2,hg3,hcells⟩:=abQ HO.out (by omega);subst hpg
   have c1:wr.cell? ⟨g,i,none⟩=some (.iface (aau ts[i]) (pay ts[i])):=
    (hbw.out.cell (p:=⟨g,i,none⟩) hg2).trans (hcells i (enc ts[i]) (by rw[List.getElem?_map,List.getElem?_eq_getElem hit];rfl))
   obtain⟨T,hT⟩:∃T,T=aau ts[i]:=⟨_,rfl⟩;obtain⟨V,hV⟩:∃V,V=pay ts[i]:=⟨_,rfl⟩;obtain⟨X,hX⟩:∃X,X=S ts[i]:=⟨_,rfl⟩
   have HC:Hid (∀w',Calls prog 48 #[.iface T V] w' (ae7 X w')):=by
    rw[hT,hV,hX];exact HF'.out i hit
   rw[<-hT,<-hV]at c1;have hxs:[Value.string X]=[ts[i]].map sv:=by rw[hX];rfl
   have htk:Hid ((ts.take (i+1)).map sv=(ts.take i).map sv++[.string X]):=by
    show _=_;rw[List.take_succ_eq_append_getElem hit,List.map_append,hxs]
   clear hT hV hX hxs hcells hg1 hit;have hgt:0<n:=by omega
   go_wp2_with fail;refine(HC.out _).mono ?_;rintro e w1 ⟨rfl,b1⟩;have hbw1:=qz (aaa hbw.out b1);have hown1:=qz (aan hown.out b1);have hsz1:=hbw1.out.size;clear b1 c1 hbw hown
   go_wp2_with (at_builtin;refine aaN rfl (.tmp 12) (.tmp 15) 22 rfl w.heap.size w.heap.size 9 i0 (.string ⟨#[]⟩) 16 underlying22 hi hz0 hz1 hz2 rfl u3 i _ rfl (hown1.out.alloc _) _ 1 [.string X] rfl (abr w1 (.string X) 9 w.heap.size hsz1) (fun u hu=>by simp at hu;subst hu;rfl) ?c2 ?c3 ?c4 ?_)
   case c2=>unfold maxLen;omega
   case c3=>omega
   case c4=>simp;omega
   intro v3 w3 hown3 hgrow3 _
   have O3:Hid (w3.ownsRow w.heap.size 9 1 v3 (i+1) ((ts.take (i+1)).map sv)):=by
    show World.ownsRow _ _ _ _ _ _ _;rw[htk.out,List.map_take];exact hown3
   have hol:∀g,u3.ownBlock=some g->w.heap.size<=g:=fun g e=>(hown1.out.lt g e).1;have Bl3:=qz (aaB (hbw1.out.alloc hsz1 _) hgrow3 (fun g e=>hol g e) (by simp;omega));clear hown3 hgrow3 hol hbw1 hown1 htk;go_wp2_with fail
   go_roundg (gk - 1)
   case rel=>exact⟨⟨i+1,by congr 1,by omega,O3⟩,Bl3⟩
   case measure=>omega
  ·obtain rfl:i=n:=by omega
   have htk:ts.take i=ts:=List.take_of_length_le (by rw[HN.out];exact nl _);rw[htk]at hown;clear htk;go_wp2_with fail;go_ret;exact⟨_,rfl,hown.out,hbw.out⟩
def TxAt (W:World)(g off:Nat)(ls:List Tm):Prop:=∀j (h:j<ls.length),W.cell? ⟨g,off+j,none⟩=some (.string (S ls[j]))
theorem TxAt.below {W W':World}{g off:Nat}{ls:List Tm}(h:TxAt W g off ls)(k:Zb W W'):TxAt W' g off ls:=fun j hj=>(k.cell (p:=⟨g,off+j,none⟩) (aad (h j hj))).trans (h j hj)
theorem TxAt.tail {W:World}{g off:Nat}{T:Tm}{ls:List Tm}(h:TxAt W g off (T::ls)):TxAt W g (off+1) ls:=fun j hj=>by
 have:=h (j+1) (by simp;omega);rw[show off+1+j=off+(j+1) by omega];exact this
theorem TxAt.grown {W W':World}{g off:Nat}{ls:List Tm}{r:Option Nat}(h:TxAt W g off ls)(k:W.grownBy W' r)(hne:some g≠r):TxAt W' g off ls:=fun j hj=>k.cell (h j hj) hne
theorem TxAt.take {W:World}{g off:Nat}{ls:List Tm}(h:TxAt W g off ls)(i:Nat):∀j u,((ls.take i).map sv)[j]?=some u->W.cell? ((⟨g,off,none⟩:Addr).add j)=some u:=fun j u hj=>by
 rw[List.getElem?_map,List.getElem?_take]at hj
 split at hj
 ·by_cases hl:j<ls.length
  ·rw[List.getElem?_eq_getElem hl]at hj;have e2:(Addr.add ⟨g,off,none⟩ j)=⟨g,off+j,none⟩:=by cases j<;>simp[Addr.add]
   rw[e2,h j hl];exact hj
  ·rw[List.getElem?_eq_none (by omega)]at hj;cases hj
 ·cases hj
theorem TxAt.drop {W:World}{g off:Nat}{ls:List Tm}(h:TxAt W g off ls)(i:Nat):∀j u,((ls.drop i).map sv)[j]?=some u->W.cell? ((⟨g,off+i,none⟩:Addr).add j)=some u:=fun j u hj=>by
 rw[List.getElem?_map,List.getElem?_drop]at hj
 by_cases hl:i+j<ls.length
 ·rw[List.getElem?_eq_getElem hl]at hj;have e2:(Addr.add ⟨g,off+i,none⟩ j)=⟨g,off+(i+j),none⟩:=by cases j<;>simp[Addr.add]<;>omega
  rw[e2,h (i+j) hl];exact hj
 ·rw[List.getElem?_eq_none (by omega)]at hj;cases hj
theorem avk (p:Option Addr)(c:Nat)(w:World):Calls prog 50 #[.slice p 0 c] w fun e w'=>e=.returned (.slice none 0 0)/\w=w':=by
 go_enter func50,ntmps50
 go_wp2_with fail
 go_loopw [3,10] (fun v c wr=>v=.slice none 0 0/\c=.int .i64 (0:Int)/\wr=w) (fun _ c _=>0)
 case atStart=>exact⟨rfl,rfl,rfl⟩
 case round=>
  obtain⟨rfl,rfl,rfl⟩:=hrel;go_wp2_with fail;go_ret;exact⟨rfl,rfl⟩
theorem ap3 (B:List Tm)(k:Nat)(h:k<B.length):ajz (B.take (k+1))=.par B[k] (ajz (B.take k)):=by
 unfold ajz;rw[List.take_succ_eq_append_getElem h,List.foldl_append];rfl
theorem amt (N:List UInt8)(k:Nat)(h:k<N.length)(t:Tm):wrapO (N.take (k+1)).reverse t=.own N[k] (wrapO (N.take k).reverse t):=by
 rw[List.take_succ_eq_append_getElem h,List.reverse_append];rfl
theorem amu (N:List UInt8)(n:Nat)(hn:n<2 ^ 32)(hN:lets n 26=N)(hNl:N.length<=26)(Bk:List Tm)(hB:Bk.length<=300)(base:Nat)(v:Value)(w:World)(ho:w.ownsRow base 41 1 v Bk.length (Bk.map enc)) : Calls prog 104 #[.agg #[.int .u32 (n:Int),v]] w fun e w'=>e=.returned (enc (wrapO N.reverse (ajz Bk)))/\Zb w w':=by
 have HLE:=fun w=>qz (afu n hn w);rw[hN]at HLE;obtain⟨p,c,rfl⟩:=aaM ho
 have h0:Bk≠[]->∃g,p=some ⟨g,0,none⟩/\Bk.length<=c/\∀j (hj:j<Bk.length),w.cell? ⟨g,j,none⟩=some (enc Bk[j]):=fun hne=>by
  obtain⟨g,e1,e2,e3,e4,e5⟩:=abQ ho (List.length_pos_iff.2 hne);exact⟨g,e1,e4,fun j hj=>e5 j _ (by rw[List.getElem?_map,List.getElem?_eq_getElem hj];rfl)⟩
 have H0:=qz h0;clear ho h0 hn hN
 go_enter func104,ntmps104
 go_wp2_with fail
 go_loopg [3,13] Bk.length (fun gk s3 s13 wr=>(∃k:Nat,s13=.int .i64 (k:Int)/\k+gk=Bk.length/\s3=enc (ajz (Bk.take k)))/\Zb w wr/\wr.cell? ⟨w.heap.size,0,none⟩=some (.int .u32 (n:Int)))
 case atStart=>exact⟨⟨0,by congr 1,by omega,rfl⟩,bra,(cell_of_row _ _ _ _ _ _ (heap_alloc_new w _)).trans rfl⟩
 case round=>
  obtain⟨⟨k,rfl,hkg,rfl⟩,hbw,hcn⟩:=hrel
  by_cases hlt:(k:Int)<(Bk.length:Int)
  ·have hk:k<Bk.length:=by omega
   obtain⟨g,rfl,hcl,hc⟩:=H0.out (by intro e;subst e;simp at hk);obtain⟨T,hT⟩:∃T,T=Bk[k]:=⟨_,rfl⟩;have c0:wr.cell? ⟨g,k,none⟩=some (.iface (aau T) (pay T)):=(hbw.cell (p:=⟨g,k,none⟩) (aad (hc k hk))).trans (by rw[hc k hk,hT];rfl);obtain⟨s,hs⟩:∃s,s=ajz (Bk.take k):=⟨_,rfl⟩;have HS:Hid (ajz (Bk.take (k+1))=.par T s):=by show _=_;rw[ap3 Bk k hk,hT,hs]
   rw[<-hs];have hes:enc s=.iface (aau s) (pay s):=rfl;rw[hes];have BW:=qz hbw;have HCN:=qz hcn;clear hT hs hes hc hbw hcn;go_wp2_with fail
   go_roundg (gk - 1)
   case rel=>exact⟨⟨k+1,by congr 1,by omega,by rw[HS.out];rfl⟩,BW.out,HCN.out⟩
   case measure=>omega
  ·obtain rfl:k=Bk.length:=by omega
   rw[List.take_length];obtain⟨t,ht⟩:∃t,t=ajz Bk:=⟨_,rfl⟩;rw[<-ht];have BW:=qz hbw;have hes:enc t=.iface (aau t) (pay t):=rfl;have HT:=qz ht;rw[hes];clear ht hbw hes;go_wp2_with fail;refine((HLE _).out).mono ?_;rintro e w2 ⟨vl,rfl,o2,b2⟩;obtain⟨pl,cl,rfl⟩:=aaM o2
   have h2:N≠[]->∃g,pl=some ⟨g,0,none⟩/\N.length<=cl/\∀j (hj:j<N.length),w2.cell? ⟨g,j,none⟩=some (ub N[j]):=fun hne=>by
    obtain⟨g,e1,e2,e3,e4,e5⟩:=abQ o2 (List.length_pos_iff.2 hne);exact⟨g,e1,e4,fun j hj=>e5 j _ (by rw[List.getElem?_map,List.getElem?_eq_getElem hj];rfl)⟩
   have H2:=qz h2;have B2:=qz (aaa BW.out b2);clear o2 h2 b2 hcn;go_wp2_with fail
   go_loopg [3,27] N.length (fun gk s3 s27 wz=>(∃k:Nat,s27=.int .i64 (k:Int)/\k+gk=N.length/\s3=enc (wrapO (N.take k).reverse t))/\wz=w2)
   case atStart=>exact⟨⟨0,by congr 1,by omega,rfl⟩,rfl⟩
   case round=>
    obtain⟨⟨k,rfl,hkm,rfl⟩,rfl⟩:=hrel
    by_cases hlt:(k:Int)<(N.length:Int)
    ·have hk:k<N.length:=by omega
     obtain⟨g,rfl,hcl,hc⟩:=H2.out (by intro e;subst e;simp at hk);obtain⟨a,ha⟩:∃a,a=N[k]:=⟨_,rfl⟩;have c0:wr.cell? ⟨g,k,none⟩=some (.int .u8 (a.toNat:Int)):=by rw[hc k hk,ha];rfl
     obtain⟨s,hs⟩:∃s,s=wrapO (N.take k).reverse t:=⟨_,rfl⟩;have HS:Hid (wrapO (N.take (k+1)).reverse t=.own a s):=by show _=_;rw[amt N k hk,ha,hs]
     rw[<-hs];have hes:enc s=.iface (aau s) (pay s):=rfl;rw[hes];clear ha hs hes hc;go_wp2_with fail
     go_roundg (gk - 1)
     case rel=>exact⟨⟨k+1,by congr 1,by omega,by rw[HS.out];rfl⟩,rfl⟩
     case measure=>omega
    ·obtain rfl:k=N.length:=by omega
     rw[List.take_length];go_wp2_with fail;go_ret;exact⟨by rw[<-HT.out];rfl,B2.out⟩
end Go.Proofs.YtihmcgcgjmbmhaaGreat.T1
