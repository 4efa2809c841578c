/- Texts of the proof. No conditions. -/
import Derived.Test.YtalegefnppbkdaaGreatQbu
namespace Go.Proofs.YtalegefnppbkdaaGreat.T1
open Go.Proofs.Tryz
set_option maxHeartbeats 8000000
open Go.RowKit
set_option maxRecDepth 100000
set_option linter.unusedVariables false
set_option linter.unusedSimpArgs false
theorem av7 {nm:UInt8->Bool}(t:Tm)(h:t.ok nm=true):t.fro.2.ok nm=true/\t.fro.2.pr.length<=t.pr.length/\t.fro.2.size<=t.size/\∀x p,t.fro.2≠.own x p:=by
 induction t with
 | own x p ih=>
  simp only[Tm.ok,bae]at h;obtain⟨h1,h2,h3,h4⟩:=ih h.2;exact⟨h1,by simp only[Tm.fro,Tm.pr,lla,List.length_cons];omega,by simp only[Tm.fro,Tm.size];omega,h4⟩
 | _=>exact⟨h,nl _,nl _,fun _ _ e=>(by cases e)⟩
theorem ara {t:Tm}(hE:t.ok nmE=true)(h:∀x p,t≠.own x p):((t.kind.toNat:Int)==35)=false:=by
 cases t<;>first|rfl|exact absurd rfl (h _ _)
theorem ao0 {a b:ByteArray}(h:a.data.toList=b.data.toList):a=b:=by
 cases a;cases b;congr;exact Array.toList_inj.1 h
theorem BL (f:List UInt8)(x:UInt8):B f++B [x]=B (f++[x]):=by
 apply ao0
 show (B f++B [x]).data.toList=(B (f++[x])).data.toList;rw[ByteArray.data_append,Array.toList_append,aaE,aaE,aaE]
theorem ab_ (t:Tm)(hE:t.ok nmE=true)(hl:t.pr.length<=700)(hs:t.size<=500)(w:World) : Calls prog 52 #[.string (S t)] w fun e w'=>e=.returned (.tuple #[.string (B t.fro.1),.string (S t.fro.2)])/\w=w':=by
 have HE:=qz hE;have HL:=qz hl;have HS:=qz hs;clear hE hl hs;obtain⟨X0,hX0⟩:∃X,X=S t:=⟨_,rfl⟩;have HX0:=qz hX0;rw[<-hX0];clear hX0
 go_enter func52,ntmps52
 go_wp2_with fail
 go_loopg [0,4] 500 (fun g s0 s4 wr=>(∃X Y:ByteArray,s0=.string X/\s4=.string Y/\Y.size+g<=500/\Hid (∃(f:List UInt8) (u:Tm),X=S u/\Y=B f/\t.fro=(f++u.fro.1,u.fro.2)/\u.ok nmE=true/\u.pr.length<=700/\u.size<=g))/\wr=w)
 case atStart=>exact⟨⟨X0,⟨#[]⟩,rfl,rfl,by decide,[],t,HX0.out,rfl,rfl,HE.out,HL.out,HS.out⟩,rfl⟩
 case round=>
  obtain⟨⟨X,Y,rfl,rfl,hY,hex⟩,rfl⟩:=hrel;obtain⟨f,u,rfl,eY,ef,hu,hul,hus⟩:=hex.out;have HK:=qz (aad u hu hul wr)
  by_cases ho:∃x p,u=.own x p
  ·obtain⟨x,p,rfl⟩:=ho
   have e1:(S (Tm.own x p)).extract 1 2=B [x]:=by
    refine ao0 ?_;rw[ByteArray.data_extract,Array.toList_extract,List.extract_eq_take_drop,aaN,aaE];rfl
   have e2:(S (Tm.own x p)).extract 3 (S (Tm.own x p)).size=S p:=abz (t:=.own x p) (p:=p) (pre:=[35,x,46]) rfl;have hz:(S (Tm.own x p)).size=p.pr.length+3:=by rw[aan];simp[Tm.pr]
   simp only[Tm.pr,lla,List.length_cons,List.length_nil]at hul;simp only[Tm.size]at hus;simp only[Tm.ok,bae]at hu;have hk:(((Tm.own x p).kind.toNat:Nat):Int)=35:=rfl;rw[hk]at HK;obtain⟨U,hU⟩:∃U,U=S (Tm.own x p):=⟨_,rfl⟩;rw[<-hU]at HK e1 e2 hz
   have hnew:Hid (∃(f:List UInt8) (u:Tm),U.extract 3 U.size=S u/\Y++U.extract 1 2=B f/\t.fro=(f++u.fro.1,u.fro.2)/\u.ok nmE=true/\u.pr.length<=700/\u.size<=gk - 1):=
    ⟨f++[x],p,e2,by rw[eY,e1,BL],by rw[ef];simp[Tm.fro],hu.2,by omega,by omega⟩
   have hy1:(Y++U.extract 1 2).size=Y.size+1:=by rw[ByteArray.size_append,e1,aaR];rfl
   have hs3:(3:Int)<=(U.size:Int):=by omega
   have hs2:(2:Int)<=(U.size:Int):=by omega
   have hsU:U.size<=1000:=by omega
   clear hz;have he12:(U.extract 1 2).size=1:=by rw[e1,aaR];rfl
   have hgp:1<=gk:=by omega
   rw[<-hU];clear hU eY ef hu hul hus hk e1 e2 hex;go_wp2_with fail;refine(HK.out).mono ?_;rintro e w1 ⟨rfl,rfl⟩;go_wp2_with fail
   go_roundg (gk - 1)
   case rel=>exact⟨⟨_,_,rfl,rfl,by omega,hnew⟩,rfl⟩
   case measure=>omega
  ·have hno:∀x p,u≠.own x p:=fun x p e=>ho ⟨x,p,e⟩;have hk:=ara hu hno
   have hfr:u.fro=([],u):=by cases u<;>first|rfl|exact absurd rfl (hno _ _)
   have h1:Hid (Y=B t.fro.1):=by show _=_;rw[ef,hfr,eY];simp
   have h2:Hid (S u=S t.fro.2):=by show _=_;rw[ef,hfr]
   obtain⟨kk,hkk⟩:∃kk:Int,kk=(u.kind.toNat:Int):=⟨_,rfl⟩;rw[<-hkk]at HK hk;obtain⟨U,hU⟩:∃U,U=S u:=⟨_,rfl⟩;rw[<-hU]at HK h2 ⊢;clear hU hkk eY ef hu hul hus hex ho hno hfr;go_wp2_with fail;refine(HK.out).mono ?_;rintro e w1 ⟨rfl,rfl⟩;go_wp2_with fail;go_ret2;exact⟨by rw[<-h1.out,<-h2.out];rfl,rfl⟩
theorem arb {t:Tm}(h:t≠.nil)(hE:t.ok nmE=true):((t.kind.toNat:Int)==48)=false:=by
 cases t<;>first|rfl|exact absurd rfl h
theorem arc {t:Tm}(h:∀p q,t≠.par p q)(hE:t.ok nmE=true):((t.kind.toNat:Int)==38)=false:=by
 cases t<;>first|rfl|exact absurd rfl (h _ _)
theorem ajp (t:Tm):t.pars≠[]:=by cases t<;>(intro e;cases e)
theorem atX {t:Tm}(h:∀p q,t≠.par p q):t.pars=[t]:=by
 cases t<;>first|rfl|exact absurd rfl (h _ _)
theorem aiG (t:Tm):t.pars.length<=t.size:=by
 induction t with
 | par p q ih ih2=>simp only[Tm.pars,List.length_cons,Tm.size];omega
 | _=>simp[Tm.pars,Tm.size]
theorem ahz (X Y F:ByteArray)(hF:Ze 52 #[.string X] (.tuple #[.string F,.string Y]))(hK:Ze 71 #[.string Y] (.int .u8 48))(w:World) : Calls prog 55 #[.string X] w (TxP [] 0 w):=by
 have HF:=qz hF;have HK:=qz hK;clear hF hK
 go_enter func55,ntmps55
 go_wp2_with fail;refine(HF.out _).mono ?_;rintro e w1 ⟨rfl,rfl⟩;go_wp2_with fail;refine(HK.out _).mono ?_;rintro e w1 ⟨rfl,rfl⟩;go_wp2_with fail;go_ret;exact⟨_,rfl,World.ownsRow_nil _ _ _ _,Below.refl _ _⟩
theorem af1 (X F:ByteArray)(t:Tm)(hF:Ze 52 #[.string X] (.tuple #[.string F,.string (S t)]))(hn:t≠.nil)(hE:t.ok nmE=true)(hl:t.pr.length<=700)(hs:t.size<=500)(w:World) : Calls prog 55 #[.string X] w (TxP t.pars t.pars.length w):=by
 obtain⟨i0,hi,hz0,hz1,hz2⟩:=info_parts Tryz.infoS;have HF:=qz hF;have HK:=qz (aad t hE hl);have hk0:=arb hn hE;have HE:=qz hE;have HL:=qz hl;have HS:=qz hs;have hps:=aiG t;obtain⟨k0,hk⟩:∃k0:Int,k0=(t.kind.toNat:Int):=⟨_,rfl⟩;rw[<-hk]at HK hk0;obtain⟨X0,hX0⟩:∃X,X=S t:=⟨_,rfl⟩;have HX0:=qz hX0;rw[<-hX0]at HF HK;obtain⟨N,hN⟩:∃N,N=t.pars.length:=⟨_,rfl⟩;have HN:=qz hN;rw[<-hN]at hps ⊢;clear hF hE hl hk hX0 hn hN
 go_enter func55,ntmps55
 go_wp2_with fail;refine(HF.out _).mono ?_;rintro e w1 ⟨rfl,rfl⟩;go_wp2_with fail;refine(HK.out _).mono ?_;rintro e w1 ⟨rfl,rfl⟩;go_wp2_with fail
 go_loopg [0,3] 500 (fun g s0 s3 wr=>(∃(Y:ByteArray) (i:Nat),s0=.string Y/\i+1<=N/\Hid (∃(xs:List Tm) (u:Tm),Y=S u/\i=xs.length/\t.pars=xs++u.pars/\u.ok nmE=true/\u.pr.length<=700/\u.size<=g/\wr.ownsRow w.heap.size 9 1 s3 i (xs.map sv)))/\Hid (Zb w wr))
 case atStart=>
  exact⟨⟨X0,0,rfl,by have:=HN.out;have:=ajp t;have:0<t.pars.length:=List.length_pos_iff.2 (ajp t);omega,[],t,HX0.out,rfl,rfl,HE.out,HL.out,HS.out,World.ownsRow_nil _ _ _ _⟩,Below.refl _ _⟩
 case round=>
  obtain⟨⟨Y,i,rfl,hiN,hex⟩,hbl⟩:=hrel;obtain⟨xs,u,rfl,hix,hpx,hu,hul,hus,hown⟩:=hex.out;have HKu:=qz (aad u hu hul wr);have HO:=qz hown;have hsz:=hbl.out.size;clear hex
  by_cases hp:∃p q,u=.par p q
  ·obtain⟨p,q,rfl⟩:=hp;have HP:=qz (aaf (.par p q) hu hul wr);have hk:(((Tm.par p q).kind.toNat:Nat):Int)=38:=rfl;rw[hk]at HKu;simp only[Tm.ok,bae]at hu;simp only[Tm.pr,lla,List.length_cons,List.length_nil]at hul;simp only[Tm.size]at hus;have hpl:(p::q.pars).length<=t.pars.length:=by rw[hpx];simp[Tm.pars]
   have hiN2:i+2<=N:=by
    have:=HN.out;have h2:t.pars.length=xs.length+(Tm.par p q).pars.length:=by rw[hpx,lla]
    have h3:0<q.pars.length:=List.length_pos_iff.2 (ajp q);simp only[Tm.pars,List.length_cons]at h2;omega
   have hnew:Hid (t.pars=(xs++[p])++q.pars/\i+1=(xs++[p]).length/\(xs++[p]).map sv=xs.map sv++[.string (S p)]):=⟨by rw[hpx];simp[Tm.pars],by rw[hix];simp,by simp[sv]⟩;have hq:=qz (show q.ok nmE=true/\q.pr.length<=700/\q.size<=gk - 1 from ⟨hu.2,by omega,by omega⟩);obtain⟨U,hU⟩:∃U,U=S (Tm.par p q):=⟨_,rfl⟩;obtain⟨A,hA⟩:∃A,A=S p:=⟨_,rfl⟩;obtain⟨Bq,hB⟩:∃Bq,Bq=S q:=⟨_,rfl⟩;have HBq:=qz hB
   have HP2:Hid (Calls prog 72 #[.string U] wr fun e w'=>∃b,e=.returned (.slice (some ⟨b,0,none⟩) 2 2)/\wr.heap.size<=b/\w'.heap[b]?=some (.cells #[.string A,.string Bq] 9 (0,0))/\Zb wr w'):=by
    rw[hU,hA,hB];exact HP.out
   rw[<-hA]at hnew;rw[<-hU]at HKu ⊢;have hgp:1<=gk:=by omega
   clear hU hA hB HP hu hul hus hpl hk hpx hix hown;go_wp2_with fail;refine(HKu.out).mono ?_;rintro e w2 ⟨rfl,rfl⟩;go_wp2_with fail;refine(HP2.out).mono ?_;rintro e w3 ⟨b,rfl,hb,hh,b3⟩;have c0:=aai hh;have hO3:=qz (aal HO.out b3);have hbl3:=qz (aaa hbl.out b3);have HH:=qz hh;have hblt:=lt_of_block hh
   have hne:Hid (∀g,u3.ownBlock=some g->g<b/\w.heap.size<=g):=fun g e=>by
    have:=HO.out.lt g e;exact⟨by omega,this.1⟩
   clear hb hh b3 hbl HO
   go_wp2_with (at_builtin;refine aaw rfl (.tmp 18) (.tmp 22) 29 rfl w.heap.size w.heap.size 9 i0 (.string ⟨#[]⟩) 16 underlying29 hi hz0 hz1 hz2 rfl u3 i _ rfl (hO3.out.alloc _) _ 1 [.string A] rfl (aa3 w3 (.string A) 9 w.heap.size hbl3.out.size) (fun u hu=>by simp at hu;subst hu;rfl) ?c2 ?c3 ?c4 ?_)
   case c2=>unfold maxLen;omega
   case c3=>omega
   case c4=>have:=hbl3.out.size;simp;omega
   intro v4 w4 hown4 hgrow4 _
   have hb4:w4.heap[b]?=some (.cells #[.string A,.string Bq] 9 (0,0)):=by
    rw[hgrow4.block b (by simp;omega) (fun e=>by have:=hne.out b e.symm;omega)];exact(heap_alloc_old w3 _ hblt).trans HH.out
   have c1:=aak hb4
   have O4:Hid (w4.ownsRow w.heap.size 9 1 v4 (i+1) ((xs++[p]).map sv)):=by
    show World.ownsRow _ _ _ _ _ _ _;rw[hnew.out.2.2];exact hown4
   have bl4:=qz (aas (hbl3.out.alloc hbl3.out.size _) hgrow4 (fun g e=>(hne.out g e).2) (by have:=hbl3.out.size;simp;omega));clear hown4 hgrow4 hb4 hbl3 hO3 HH;go_wp2_with fail
   go_roundg (gk - 1)
   case rel=>exact⟨⟨_,i+1,rfl,by omega,xs++[p],q,HBq.out,hnew.out.2.1,hnew.out.1,hq.out.1,hq.out.2.1,hq.out.2.2,O4.out⟩,bl4⟩
   case measure=>omega
  ·have hno:∀p q,u≠.par p q:=fun p q e=>hp ⟨p,q,e⟩;have hk:=arc hno hu;have hpp:=atX hno;have hfin:Hid (i+1=N/\t.pars.map sv=xs.map sv++[.string (S u)]):=⟨by rw[HN.out,hpx,hpp,hix];simp,by rw[hpx,hpp];simp[sv]⟩;obtain⟨kk,hkk⟩:∃kk:Int,kk=(u.kind.toNat:Int):=⟨_,rfl⟩;rw[<-hkk]at HKu hk;obtain⟨U,hU⟩:∃U,U=S u:=⟨_,rfl⟩;rw[<-hU]at HKu hfin ⊢;have hne:Hid (∀g,u3.ownBlock=some g->w.heap.size<=g):=fun g e=>(HO.out.lt g e).1;clear hU hkk hpx hix hu hul hus hp hno hpp hown;go_wp2_with fail;refine(HKu.out).mono ?_;rintro e w2 ⟨rfl,rfl⟩
   go_wp2_with (at_builtin;refine aaw rfl (.tmp 27) (.tmp 29) 29 rfl w.heap.size w.heap.size 9 i0 (.string ⟨#[]⟩) 16 underlying29 hi hz0 hz1 hz2 rfl u3 i _ rfl (HO.out.alloc _) _ 1 [.string U] rfl (aa3 _ (.string U) 9 w.heap.size hsz) (fun u hu=>by simp at hu;subst hu;rfl) ?c2 ?c3 ?c4 ?_)
   case c2=>unfold maxLen;omega
   case c3=>omega
   case c4=>simp;omega
   intro v4 w4 hown4 hgrow4 _
   have O4:Hid (w4.ownsRow w.heap.size 9 1 v4 N (t.pars.map sv)):=by
    show World.ownsRow _ _ _ _ _ _ _;rw[hfin.out.2,<-hfin.out.1];exact hown4
   have bl4:=qz (aas (hbl.out.alloc hsz _) hgrow4 (fun g e=>hne.out g e) (by simp;omega));clear hown4 hgrow4;go_wp2_with fail;go_ret;exact⟨_,rfl,O4.out,bl4.out⟩
theorem aiH {t:Tm}(h:t.fro.2≠.nil):t.thrs=t.fro.2.pars:=by
 unfold Tm.thrs
 cases e:t.fro.2<;>first|rfl|exact absurd e h
theorem acI (t:Tm)(hE:t.ok nmE=true)(hl:t.pr.length<=700)(hs:t.size<=500)(w:World) : Calls prog 55 #[.string (S t)] w (TxP t.thrs t.thrs.length w):=by
 obtain⟨h1,h2,h3,h4⟩:=av7 t hE
 by_cases hn:t.fro.2=.nil
 ·have e:t.thrs=[]:=by unfold Tm.thrs;rw[hn]
  rw[e];have hF:=ab_ t hE hl hs;rw[hn]at hF;exact ahz (S t) (S .nil) _ hF (fun w=>aad .nil rfl (by simp[Tm.pr]) w) w
 ·rw[aiH hn];exact af1 (S t) _ t.fro.2 (ab_ t hE hl hs) hn h1 (by omega) (by omega) w
noncomputable def nfO (s:ByteArray):Option Tm:=(good s.data.toList).bind nfI
theorem ard {s:ByteArray}{r:Tm}(h:nfO s=some r):NfForm r/\r.ok nmL=true/\r.pr.length<=300/\r.size<=60:=by
 unfold nfO at h
 cases hg:good s.data.toList with
 | none=>rw[hg]at h;cases h
 | some t=>
  rw[hg]at h;have h':nfI t=some r:=h;refine⟨ahp h',?_⟩;unfold nfI at h'
  split at h'
  ·cases h'
  ·split at h'
   ·rename_i hh;cases h';exact hh
   ·cases h'
theorem awM (s:ByteArray)(n1:Zr 50 #[.string s] (.tuple #[.nilIface,.bool false]))(w:World):Calls prog 53 #[.string s] w fun e w'=>e=.returned (.tuple #[.nilIface,.bool false])/\Zb w w':=by
 have Hn1:=qz n1;clear n1
 go_enter func53,ntmps53
 go_wp2_with fail;refine(Hn1.out _).mono ?_;rintro e w1 ⟨rfl,c1⟩;have b1:=c1;go_wp2_with fail;go_ret2;exact⟨rfl,b1⟩
theorem av8 (s:ByteArray)(T:TypeId)(V PV:Value)(b:Bool)(n1:Zr 50 #[.string s] (.tuple #[.iface T V,.bool true]))(n2:Zr 85 #[.iface T V] (.tuple #[PV,.bool b]))(w:World):Calls prog 53 #[.string s] w fun e w'=>e=.returned (.tuple #[PV,.bool b])/\Zb w w':=by
 have Hn1:=qz n1;have Hn2:=qz n2;clear n1 n2
 go_enter func53,ntmps53
 go_wp2_with fail;refine(Hn1.out _).mono ?_;rintro e w1 ⟨rfl,c1⟩;have b1:=c1;go_wp2_with fail;refine(Hn2.out _).mono ?_;rintro e w2 ⟨rfl,c2⟩;have b2:=aaa b1 c2;go_wp2_with fail;go_ret2;exact⟨rfl,b2⟩
theorem awN (s:ByteArray)(hm:s.size<=9223372036854775807)(w:World):Calls prog 53 #[.string s] w fun e w'=>e=.returned (.tuple #[nfV (nfO s),.bool (nfO s).isSome])/\Zb w w':=by
 unfold nfO
 cases hg:good s.data.toList with
 | none=>exact awM s (fun w=>aec hg w hm) w
 | some t=>
  obtain⟨es,hL,hE,h300,h60⟩:=ajF hg;exact av8 s _ _ _ _ (fun w=>ac5 hg w hm) (acl t hL (by omega) (by omega)) w
theorem awO (s:ByteArray)(hm:s.size<=9223372036854775807)(w:World):Calls prog 17 #[.string s] w (alP (aue (nfO s)) (nfO s).isSome w):=by
 unfold nfO
 cases hg:good s.data.toList with
 | none=>exact awL s (fun w=>adn hg w hm) w
 | some t=>
  obtain⟨es,hL,hE,h300,h60⟩:=ajF hg;have hf:FitT t:=.inl (ar4 t hL (by omega));have h1:=aeR t (by omega) hf hL (by omega);rw[ai9 hL (by omega) hf,<-es]at h1;exact av6 s _ _ (fun w=>acx hg w hm) h1 w
theorem awP (t:Tm):gd t=gp t:=by cases t<;>simp only[gd,Tm.kind,gp]<;>decide +kernel
theorem atY (t:Tm):(t.kind==63)=rq t:=by cases t<;>rfl
theorem ar5 (t:Tm):(t.grd && t.inp)=t.smp:=by
 induction t with
 | nil=>rfl
 | snd a b p ih=>exact ih
 | rcv a x p ih=>exact ih
 | tau p ih=>exact ih
 | own x p ih=>exact ih
 | mat a b p ih=>exact ih
 | sum p q ih ih2=>simp only[Tm.grd,Tm.inp,Tm.smp,awP];rw[<-ih,<-ih2];cases gp p<;>cases gp q<;>cases p.grd<;>cases q.grd<;>cases p.inp<;>cases q.inp<;>rfl
 | par p q ih ih2=>simp only[Tm.grd,Tm.inp,Tm.smp];rw[<-ih,<-ih2];cases p.grd<;>cases q.grd<;>cases p.inp<;>cases q.inp<;>rfl
 | rep p ih=>simp only[Tm.grd,Tm.inp,Tm.smp];rw[atY,<-ih];cases rq p<;>cases p.grd<;>cases p.inp<;>rfl
theorem aeS (t:Tm):(offs t).length<=t.size:=by
 induction t with
 | sum p q ih ih2=>simp only[offs,lla,Tm.size];omega
 | rep p ih=>simp only[offs,List.length_map,Tm.size];omega
 | _=>simp[offs,Tm.size]
theorem ao1 (l:List Off):∀x∈l.flatMap offCs,x.oneCell'=true:=by
 intro x hx;obtain⟨o,_,h⟩:=List.mem_flatMap.1 hx;simp only[offCs,aub,List.mem_cons,List.not_mem_nil,or_false]at h;rcases h with rfl|rfl|rfl|rfl|rfl<;>rfl
theorem afC (t:Tm)(hE:t.ok nmE=true)(hl:t.pr.length<=700)(hs:t.size<=900)(hq:t.smq=true)(hg:gq t=true)(w:World) : Calls prog 99 #[.string (S t)] w (aqt ((offs t).flatMap offCs) (offs t).length w):=by
 have hsz:=aan t
 induction t generalizing w with
 | snd a b p ih=>
  have hp:(Tm.snd a b p).pr=a::33::b::46::p.pr:=rfl;have h4:4<=(S (.snd a b p)).size:=by rw[hsz,hp];simp
  have h:=aj7 (S (.snd a b p)) 33 (by omega) (by omega) h4 (by omega) (.inl rfl) (aad _ hE hl) w;have e4:(S (.snd a b p)).extract 4 (S (.snd a b p)).size=S p:=afZ (.snd a b p) p rfl;rw[ajZ,ajZ,e4]at h;exact h
 | rcv a x p ih=>
  have hp:(Tm.rcv a x p).pr=a::63::x::46::p.pr:=rfl;have h4:4<=(S (.rcv a x p)).size:=by rw[hsz,hp];simp
  have h:=aj7 (S (.rcv a x p)) 63 (by omega) (by omega) h4 (by omega) (.inr ⟨rfl,rfl⟩) (aad _ hE hl) w;have e4:(S (.rcv a x p)).extract 4 (S (.rcv a x p)).size=S p:=afZ (.rcv a x p) p rfl;rw[ajZ,ajZ,e4]at h;exact h
 | tau p ih=>
  have hp:(Tm.tau p).pr=126::46::p.pr:=rfl;have h4:2<=(S (.tau p)).size:=by rw[hsz,hp];simp
  have h:=asX (S (.tau p)) 126 h4 (by omega) rfl rfl rfl (aad _ hE hl) w;have e4:(S (.tau p)).extract 2 (S (.tau p)).size=S p:=afZ (.tau p) p rfl;rw[e4]at h;exact h
 | sum p q ih ih2=>
  obtain⟨⟨g1,s1⟩,g2,s2⟩:=smq_sum.1 hq;simp only[Tm.ok,bae]at hE;simp only[Tm.size]at hs;have hlp:p.pr.length<=700/\q.pr.length<=700:=by simp only[Tm.pr,List.length_cons,lla]at hl;omega
  have l1:=aeS p;have l2:=aeS q;have hne:=atb q s2 g2
  have h:=asY (S (.sum p q)) (S p) (S q) 43 rfl rfl rfl rfl (aad _ (by simp only[Tm.ok,bae];exact hE) hl) ((offs p).flatMap offCs) ((offs q).flatMap offCs) (offs p).length (offs q).length (by omega) (by omega) (List.length_pos_iff.2 hne) (ao1 _)
   (aaf (.sum p q) (by simp only[Tm.ok,bae];exact hE) hl) (fun w=>ih hE.1 hlp.1 (by omega) s1 g1 w (aan p)) (fun w=>ih2 hE.2 hlp.2 (by omega) s2 g2 w (aan q)) w
  simp only[offs,List.flatMap_append,lla];exact h
 | _=>cases hg
theorem ao2 (t:Tm)(hE:t.ok nmE=true)(hl:t.pr.length<=700)(hs:t.size<=900)(hq:t.smq=true)(w:World):Calls prog 99 #[.string (S t)] w (OffP t w):=by
 cases t with
 | snd a b p=>exact(afC _ hE hl hs hq rfl w).mono fun e w' h=>.inr h
 | rcv a x p=>exact(afC _ hE hl hs hq rfl w).mono fun e w' h=>.inr h
 | tau p=>exact(afC _ hE hl hs hq rfl w).mono fun e w' h=>.inr h
 | sum p q=>exact(afC _ hE hl hs hq rfl w).mono fun e w' h=>.inr h
 | nil=>exact(aeO _ 48 rfl rfl rfl rfl rfl (aad _ hE hl) w).mono fun e w' h=>.inl ⟨rfl,h⟩
 | par p q=>exact(aeO _ 38 rfl rfl rfl rfl rfl (aad _ hE hl) w).mono fun e w' h=>.inl ⟨rfl,h⟩
 | own x p=>exact(aeO _ 35 rfl rfl rfl rfl rfl (aad _ hE hl) w).mono fun e w' h=>.inl ⟨rfl,h⟩
 | mat a b p=>exact(aeO _ 61 rfl rfl rfl rfl rfl (aad _ hE hl) w).mono fun e w' h=>.inl ⟨rfl,h⟩
 | rep p=>
  have hq':=hq;simp only[Tm.smq,bae]at hq'
  cases p with
  | rcv a x p=>
   have hsz:=aan (.rep (.rcv a x p));have hp:(Tm.rep (.rcv a x p)).pr=42::(Tm.rcv a x p).pr:=rfl;have hE':(Tm.rcv a x p).ok nmE=true:=hE;have h:=afC (.rcv a x p) hE' (by rw[hp]at hl;simp at hl;omega) (by simp only[Tm.size]at hs ⊢;omega) hq'.2 rfl;have e4:(S (.rep (.rcv a x p))).extract 1 (S (.rep (.rcv a x p))).size=S (.rcv a x p):=afZ (.rep (.rcv a x p)) (.rcv a x p) rfl;have h2:=asZ (S (.rep (.rcv a x p))) 42 (by rw[hsz,hp];simp) (by omega) rfl rfl rfl rfl rfl (aad _ hE hl) 63 (a.toNat:Int) (x.toNat:Int) (S p) (by rw[e4];exact h) w;exact h2.mono fun e w' h=>.inr h
  | _=>cases hq'.1
noncomputable def stO (s:ByteArray):Option Tm:=(good s.data.toList).bind fun t=>if t.smp then nfI t else none
theorem aku {s:ByteArray}{r:Tm}(h:stO s=some r):NfForm r/\r.ok nmL=true/\r.pr.length<=300/\r.size<=60/\r.smq=true:=by
 unfold stO at h
 cases hg:good s.data.toList with
 | none=>rw[hg]at h;cases h
 | some t=>
  rw[hg]at h;have h':(if t.smp=true then nfI t else none)=some r:=h
  split at h'
  ·rename_i hs
   have h2:=h';refine⟨ahp h',?_⟩;unfold nfI at h'
   split at h'
   ·cases h'
   ·split at h'
    ·rename_i hh;cases h';exact⟨hh.1,hh.2.1,hh.2.2,as_ h2 hs⟩
    ·cases h'
  ·cases h'
theorem awQ (s:ByteArray)(n1:Zr 48 #[.string s] (.bool false))(w:World):Calls prog 98 #[.string s] w fun e w'=>e=.returned (.tuple #[.string ⟨#[]⟩,.bool false])/\Zb w w':=by
 have Hn1:=qz n1;clear n1
 go_enter func98,ntmps98
 go_wp2_with fail;refine(Hn1.out _).mono ?_;rintro e w1 ⟨rfl,c1⟩;have b1:=c1;go_wp2_with fail;go_ret2;exact⟨rfl,b1⟩
theorem awR (s:ByteArray)(n1:Zr 48 #[.string s] (.bool true))(n2:Zr 134 #[.string s] (.bool false))(w:World):Calls prog 98 #[.string s] w fun e w'=>e=.returned (.tuple #[.string ⟨#[]⟩,.bool false])/\Zb w w':=by
 have Hn1:=qz n1;have Hn2:=qz n2;clear n1 n2
 go_enter func98,ntmps98
 go_wp2_with fail;refine(Hn1.out _).mono ?_;rintro e w1 ⟨rfl,c1⟩;have b1:=c1;go_wp2_with fail;refine(Hn2.out _).mono ?_;rintro e w2 ⟨rfl,c2⟩;have b2:=aaa b1 c2;go_wp2_with fail;go_ret2;exact⟨rfl,b2⟩
theorem av9 (s X:ByteArray)(b:Bool)(n1:Zr 48 #[.string s] (.bool true))(n2:Zr 134 #[.string s] (.bool true))(n3:Zr 49 #[.string s] (.tuple #[.string X,.bool b]))(w:World):Calls prog 98 #[.string s] w fun e w'=>e=.returned (.tuple #[.string X,.bool b])/\Zb w w':=by
 have Hn1:=qz n1;have Hn2:=qz n2;have Hn3:=qz n3;clear n1 n2 n3
 go_enter func98,ntmps98
 go_wp2_with fail;refine(Hn1.out _).mono ?_;rintro e w1 ⟨rfl,c1⟩;have b1:=c1;go_wp2_with fail;refine(Hn2.out _).mono ?_;rintro e w2 ⟨rfl,c2⟩;have b2:=aaa b1 c2;go_wp2_with fail;refine(Hn3.out _).mono ?_;rintro e w3 ⟨rfl,c3⟩;have b3:=aaa b2 c3;go_wp2_with fail;go_ret2;exact⟨rfl,b3⟩
theorem awS (s:ByteArray)(n1:Zr 50 #[.string s] (.tuple #[.nilIface,.bool false]))(w:World):Calls prog 100 #[.string s] w fun e w'=>e=.returned (.tuple #[.nilIface,.bool false])/\Zb w w':=by
 have Hn1:=qz n1;clear n1
 go_enter func100,ntmps100
 go_wp2_with fail;refine(Hn1.out _).mono ?_;rintro e w1 ⟨rfl,c1⟩;have b1:=c1;go_wp2_with fail;go_ret2;exact⟨rfl,b1⟩
theorem awT (s:ByteArray)(T:TypeId)(V:Value)(n1:Zr 50 #[.string s] (.tuple #[.iface T V,.bool true]))(n2:Zr 135 #[.iface T V] (.bool false))(w:World):Calls prog 100 #[.string s] w fun e w'=>e=.returned (.tuple #[.nilIface,.bool false])/\Zb w w':=by
 have Hn1:=qz n1;have Hn2:=qz n2;clear n1 n2
 go_enter func100,ntmps100
 go_wp2_with fail;refine(Hn1.out _).mono ?_;rintro e w1 ⟨rfl,c1⟩;have b1:=c1;go_wp2_with fail;refine(Hn2.out _).mono ?_;rintro e w2 ⟨rfl,c2⟩;have b2:=aaa b1 c2;go_wp2_with fail;go_ret2;exact⟨rfl,b2⟩
theorem av_ (s:ByteArray)(T:TypeId)(V PV:Value)(b:Bool)(n1:Zr 50 #[.string s] (.tuple #[.iface T V,.bool true]))(n2:Zr 135 #[.iface T V] (.bool true))(n3:Zr 85 #[.iface T V] (.tuple #[PV,.bool b]))(w:World):Calls prog 100 #[.string s] w fun e w'=>e=.returned (.tuple #[PV,.bool b])/\Zb w w':=by
 have Hn1:=qz n1;have Hn2:=qz n2;have Hn3:=qz n3;clear n1 n2 n3
 go_enter func100,ntmps100
 go_wp2_with fail;refine(Hn1.out _).mono ?_;rintro e w1 ⟨rfl,c1⟩;have b1:=c1;go_wp2_with fail;refine(Hn2.out _).mono ?_;rintro e w2 ⟨rfl,c2⟩;have b2:=aaa b1 c2;go_wp2_with fail;refine(Hn3.out _).mono ?_;rintro e w3 ⟨rfl,c3⟩;have b3:=aaa b2 c3;go_wp2_with fail;go_ret2;exact⟨rfl,b3⟩
theorem afD (s:ByteArray)(hm:s.size<=9223372036854775807)(w:World):Calls prog 98 #[.string s] w (alP (aue (stO s)) (stO s).isSome w):=by
 unfold stO
 cases hg:good s.data.toList with
 | none=>exact awQ s (fun w=>adn hg w hm) w
 | some t=>
  obtain⟨es,hL,hE,h300,h60⟩:=ajF hg;have hf:FitT t:=.inl (ar4 t hL (by omega));have h2:=ah4 t hE (by omega);rw[ar5,<-es]at h2;show Calls prog 98 #[.string s] w (alP (aue (if t.smp=true then nfI t else none)) (if t.smp=true then nfI t else none).isSome w)
  cases hs:t.smp with
  | false=>rw[hs]at h2;exact awR s (fun w=>acx hg w hm) h2 w
  | true=>
   rw[hs]at h2;have h1:=aeR t (by omega) hf hL (by omega);rw[ai9 hL (by omega) hf,<-es]at h1;exact av9 s _ _ (fun w=>acx hg w hm) h2 h1 w
theorem acO (s:ByteArray)(hm:s.size<=9223372036854775807)(w:World):Calls prog 100 #[.string s] w fun e w'=>e=.returned (.tuple #[nfV (stO s),.bool (stO s).isSome])/\Zb w w':=by
 unfold stO
 cases hg:good s.data.toList with
 | none=>exact awS s (fun w=>aec hg w hm) w
 | some t=>
  obtain⟨es,hL,hE,h300,h60⟩:=ajF hg;have h2:=ah3 t (by omega);rw[ar5]at h2;show Calls prog 100 #[.string s] w fun e w'=>e=.returned (.tuple #[nfV (if t.smp=true then nfI t else none),.bool (if t.smp=true then nfI t else none).isSome])/\Zb w w'
  cases hs:t.smp with
  | false=>rw[hs]at h2;exact awT s _ _ (fun w=>ac5 hg w hm) h2 w
  | true=>rw[hs]at h2;exact av_ s _ _ _ _ (fun w=>ac5 hg w hm) h2 (acl t hL (by omega) (by omega)) w
end Go.Proofs.YtalegefnppbkdaaGreat.T1
