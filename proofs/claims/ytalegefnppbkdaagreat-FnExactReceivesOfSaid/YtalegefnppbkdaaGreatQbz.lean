/- Texts of the proof. No conditions. -/
import Derived.Test.YtalegefnppbkdaaGreatQbw
import Derived.Test.YtalegefnppbkdaaGreatQby
namespace Go.Proofs.YtalegefnppbkdaaGreat.T1
open Go.Proofs.Tryz
set_option maxHeartbeats 16000000
set_option linter.unusedVariables false
set_option linter.unusedSimpArgs false
theorem ahC:∀B:List Tm,(B.map Tm.size).sum+B.length<=(joinR .par B).size+1:=by
 intro B
 induction B with
 | nil=>simp
 | cons a l ih=>
  cases l with
  | nil=>simp[joinR]
  | cons b l=>simp only[joinR,Tm.size,List.map_cons,List.sum_cons,List.length_cons]at ih ⊢;omega
theorem aiP:∀B:List Tm,(B.map fun T=>T.pr.length).sum+3 * B.length<=(joinR .par B).pr.length+3:=by
 intro B
 induction B with
 | nil=>simp
 | cons a l ih=>
  cases l with
  | nil=>simp[joinR]
  | cons b l=>simp only[joinR,Tm.pr,lla,List.map_cons,List.sum_cons,List.length_cons,List.length_nil]at ih ⊢;omega
theorem at7 (t:Tm):t.bnd.length+1<=t.size:=by
 induction t with
 | nil=>simp[Tm.bnd,Tm.size]
 | _=>simp only[Tm.bnd,Tm.size,lla,List.length_cons]<;>omega
theorem arj {nm:UInt8->Bool}{t:Tm}:∀ls:List UInt8,(wrapO ls t).ok nm=true->(∀l∈ls,nm l=true)/\t.ok nm=true:=by
 intro ls
 induction ls with
 | nil=>intro h;exact⟨by simp,h⟩
 | cons a ls ih=>
  intro h;have h':(Tm.own a (wrapO ls t)).ok nm=true:=h;simp only[Tm.ok,bae]at h';obtain⟨h1,h2⟩:=ih h'.2;exact⟨fun l hl=>(List.mem_cons.1 hl).elim (fun e=>e▸h'.1) (h1 l),h2⟩
theorem ark {t r:Tm}(h:nfI t=some r):r.ok nmL=true/\r.pr.length<=300/\r.size<=60:=by
 unfold nfI at h
 split at h
 ·cases h
 ·split at h
  ·rename_i h2;cases h;exact h2
  ·cases h
theorem apd {t r:Tm}(h:nfI t=some r):Lev r.fro.1 r.thrs:=by
 obtain⟨ho,hp,hs⟩:=ark h;obtain⟨ls,l,rfl,hl⟩:=ahp h;have h1:∀T∈l,Thd T:=fun T hT=>(hl T hT).1;rw[acF,ac_ l h1,adT ls l h1];have e1:=aer (joinR .par l) ls;have e2:=adX (joinR .par l) ls;have e3:=ahC l;have e4:=aiP l;have e5:=aiI l;have e6:=at7 (wrapO ls (joinR .par l));obtain⟨o1,o2⟩:=arj ls ho;refine⟨by simpa using o1,ae_ l o2,?_,?_,?_⟩
 ·simp only[List.append_nil];omega
 ·simp only[List.append_nil];omega
 ·simp only[List.append_nil];omega
theorem arl {t r:Tm}(h:nfI t=some r):r.thrs.length<=61/\r.fro.1.length<=60:=by
 have:=(apd h).sz;have h2:=(apd h).bn;omega
theorem alY (n:Nat)(L:UInt8->UInt8)(left:List UInt8)(s:Tm)(hc:Neat s)(hf:fl s left.length=true)(hn:s.size<=n+1):∃l,levI (n+1) L left s=wrapO (left.take (lvl s).1.length) (joinR .par l)/\∀T∈l,Thd T:=by
 obtain⟨f1,f2,f3⟩:=adk hf;rw[abI];have hne:(visG ltU 200 (lvl s).1).map (candI n L left s)≠[]:=fun e=>acV ltU 199 _ (List.map_eq_nil_iff.1 e);obtain⟨o,_,e⟩:=List.mem_map.1 (ab6 _ hne);refine⟨_,rfl,fun t ht=>?_⟩;rw[<-e]at ht;obtain⟨T,hT,rfl⟩:=List.mem_map.1 ((aaV _ _).1 ht);exact(ake n _ _ T (abb s T hT) (aho s hc T hT) (by rw[List.length_drop];exact f3 T hT) (by have:=aa8 s T hT;omega)).1
theorem ape {t r:Tm}(h:nfI t=some r):Srt r.fro.1/\r.fro.1.length<=5:=by
 unfold nfI at h
 split at h
 ·cases h
 ·rename_i h1
  split at h
  ·cases h
   have hfl:fl (numb t) (othL t.usd).length=true:=by
    cases e:fl (numb t) (othL t.usd).length with
    | true=>rfl
    | false=>exact absurd (.inr e) h1
   obtain⟨m,hm⟩:∃m,t.size=m+1:=⟨t.size - 1,by have:=aaq t;omega⟩;have hsz:(numb t).size<=t.size:=by unfold numb;rw[acE];exact abB t
   rw[hm]at hsz ⊢;obtain⟨l,e,hl⟩:=alY m id (othL t.usd) (numb t) (ahn _ _ _ (ahm t)) hfl hsz;rw[e,acF,ac_ l hl];have h5:=(adk hfl).1;refine⟨by rw[List.append_nil];exact(adF t.usd).sublist (List.take_sublist _ _),?_⟩;simp only[List.append_nil,List.length_take];omega
  ·cases h
open Go.RowKit
set_option maxRecDepth 100000
theorem Tryz.infoCm:(prog.info? 73).map (fun i=>(i.zero,i.size,i.bytes))=some (some (.agg #[.int .u32 0,.slice none 0 0]),2,32):=by kernel_rfl
theorem abK:(38:TypeId)≠73:=by decide
structure AllO (W:World) (base:Nat) (fr:List UInt8) (Ps:List (List Tm)) (xs:List Value):Prop where
 len:xs.length=Ps.length * 2
 at_:∀k (h:k<Ps.length),∃v,xs[k * 2]?=some (.int .u32 ((setN (nB fr Ps[k]):Nat):Int))/\xs[k * 2+1]?=some v/\W.ownsRow base 38 1 v Ps[k].length (Ps[k].map enc)
theorem AllO.keep {W W':World}{base:Nat}{fr:List UInt8}{Ps:List (List Tm)}{xs:List Value}(h:AllO W base fr Ps xs)(hk:∀(v:Value) (n:Nat) (zs:List Value),W.ownsRow base 38 1 v n zs->W'.ownsRow base 38 1 v n zs):AllO W' base fr Ps xs:=
 ⟨h.len,fun k hh=>by obtain⟨v,a,b,c⟩:=h.at_ k hh;exact⟨v,a,b,hk _ _ _ c⟩⟩
theorem AllO.below {W W':World}{base:Nat}{fr:List UInt8}{Ps:List (List Tm)}{xs:List Value}(h:AllO W base fr Ps xs)(k:Zb W W'):AllO W' base fr Ps xs:=h.keep fun _ _ _ o=>aal o k
theorem AllO.nil (W:World)(base:Nat)(fr:List UInt8):AllO W base fr [] []:=⟨rfl,fun k h=>absurd h (by simp)⟩
theorem AllO.snoc {W:World}{base:Nat}{fr:List UInt8}{Ps:List (List Tm)}{xs:List Value}(h:AllO W base fr Ps xs)(B:List Tm)(v:Value)(ho:W.ownsRow base 38 1 v B.length (B.map enc)):AllO W base fr (Ps++[B]) (xs++[.int .u32 ((setN (nB fr B):Nat):Int),v]):=by
 refine⟨by have:=h.len;simp;omega,fun k hk=>?_⟩;have hl:=h.len
 by_cases hkp:k<Ps.length
 ·obtain⟨u,a,b,c⟩:=h.at_ k hkp;refine⟨u,?_,?_,?_⟩
  ·rw[List.getElem?_append_left (by omega),List.getElem_append_left hkp];exact a
  ·rw[List.getElem?_append_left (by omega)];exact b
  ·rw[List.getElem_append_left hkp];exact c
 ·have hk2:k=Ps.length:=by simp at hk;omega
  subst hk2;refine⟨v,?_,?_,?_⟩
  ·rw[List.getElem?_append_right (by omega),show Ps.length * 2 - xs.length=0 by omega];simp
  ·rw[List.getElem?_append_right (by omega),show Ps.length * 2+1 - xs.length=1 by omega];simp
  ·simpa using ho
theorem afF {w w':World}{base n k:Nat}{e:TypeId}{v:Value}{xs:List Value}(h:w.ownsRow base e k v n xs)(hk:∀g,v.ownBlock=some g->w'.heap[g]?=w.heap[g]?):w'.ownsRow base e k v n xs:=by
 refine⟨h.1,h.2.imp id ?_⟩;rintro⟨g,cap,cur,hv,h2,h3,h4⟩;exact⟨g,cap,cur,hv,h2,(hk g (by rw[hv];rfl)).trans h3,h4⟩
theorem arm {w:World}{base b2 n k:Nat}{e:TypeId}{v:Value}{xs:List Value}(h:w.ownsRow base e k v n xs)(hb:b2<=base):w.ownsRow b2 e k v n xs:=by
 refine⟨h.1,h.2.imp id ?_⟩;rintro⟨g,cap,cur,hv,h2,h3⟩;exact⟨g,cap,cur,hv,Nat.le_trans hb h2,h3⟩
theorem alZ {w w':World}{base n k:Nat}{e:TypeId}{v:Value}{xs:List Value}(h:w.ownsRow base e k v n xs)(k':Zb w w'):w'.ownsRow base e k v n xs:=
 afF h fun g hg=>k'.block g (h.lt g hg).2
theorem aet {w:World}{base k:Nat}{e:TypeId}{g n cap:Nat}{xs:List Value}(h:w.ownsRow base e k (.slice (some ⟨g,0,none⟩) n cap) n xs):∀j u,xs[j]?=some u->w.cell? ((⟨g,0,none⟩:Addr).add j)=some u:=by
 intro j u hj;rcases h.2 with⟨h1,_⟩|⟨g',cap',cur,h1,_,h3,_,_,_,h7⟩
 ·cases h1
 ·cases h1
  have hjl:j<xs.length:=by
   rcases Nat.lt_or_ge j xs.length with c|c
   ·exact c
   ·rw[List.getElem?_eq_none c]at hj;cases hj
  have hx:=h.1;have:(cur.toList.take (n * k))[j]?=some u:=by rw[h7];exact hj
  rw[List.getElem?_take,if_pos (by omega)]at this
  show w.cell? (Addr.add ⟨g,0,none⟩ j)=some u;have e2:(Addr.add ⟨g,0,none⟩ j)=⟨g,j,none⟩:=by cases j<;>simp[Addr.add]
  rw[e2];simp only[World.cell?,h3];simpa using this
theorem akz (w:World)(xs:Array Value)(e:TypeId)(k base:Nat)(hk:xs.size=k)(hb:base<=w.heap.size):(w.alloc (.cells xs e)).ownsRow base e k (.slice (some ⟨w.heap.size,0,none⟩) 1 1) 1 xs.toList:=by
 refine⟨by simp[hk],.inr ⟨w.heap.size,1,xs,rfl,hb,?_,nl _,by unfold maxLen;omega,by omega,by rw[Nat.one_mul,<-hk,Array.size_eq_length_toList,List.take_length]⟩⟩;show (w.heap.push _)[w.heap.size]?=_;simp
theorem afG {w:World}{base n k:Nat}{e:TypeId}{v:Value}{xs:List Value}(h:w.ownsRow base e k v n xs):∃p cap,v=.slice p n cap:=by
 rcases h.2 with⟨h1,h2⟩|⟨g,cap,cur,h1,_⟩
 ·exact⟨_,_,by rw[h1,h2]⟩
 ·exact⟨_,_,h1⟩
theorem apf {w:World}{base n cap k:Nat}{e:TypeId}{p:Option Addr}{xs:List Value}(h:w.ownsRow base e k (.slice p n cap) n xs)(hn:0<n):∃g,p=some ⟨g,0,none⟩/\base<=g/\g<w.heap.size/\n<=cap/\∀j u,xs[j]?=some u->w.cell? ⟨g,j,none⟩=some u:=by
 rcases h.2 with⟨h1,h2⟩|⟨g,cap',cur,h1,h2,h3,h4,_⟩
 ·omega
 ·have h1':=h1
  injection h1 with e1 e2 e3
  subst e1 e3;refine⟨g,rfl,h2,lt_of_block h3,h4,fun j u hj=>?_⟩;have:=aet h j u hj;have e2:(Addr.add ⟨g,0,none⟩ j)=⟨g,j,none⟩:=by cases j<;>simp[Addr.add]
  rw[e2]at this;exact this
theorem afH {w:World}{b1 b2 n m j k:Nat}{e f:TypeId}{v u:Value}{xs ys:List Value}(hef:e≠f)(h:w.ownsRow b1 e j v n xs)(k:w.ownsRow b2 f k u m ys)(g:Nat)(h1:v.ownBlock=some g):u.ownBlock≠some g:=by
 intro h2;rcases h.2 with⟨e1,_⟩|⟨g1,c1,r1,e1,_,d1,_⟩
 ·rw[e1]at h1;simp[Value.ownBlock]at h1
 ·rcases k.2 with⟨e2,_⟩|⟨g2,c2,r2,e2,_,d2,_⟩
  ·rw[e2]at h2;simp[Value.ownBlock]at h2
  ·rw[e1]at h1;rw[e2]at h2;simp only[Value.ownBlock,Option.some.injEq]at h1 h2;subst h1;subst h2;rw[d1]at d2;simp only[Option.some.injEq,Obj.cells.injEq]at d2;exact hef d2.2.1
theorem aiQ {w:World}{b1 n j g:Nat}{e f:TypeId}{v:Value}{xs:List Value}{cs:Array Value}{r:Nat × Nat}(hef:e≠f)(h:w.ownsRow b1 e j v n xs)(k:w.heap[g]?=some (.cells cs f r)):v.ownBlock≠some g:=by
 intro h1;rcases h.2 with⟨e1,_⟩|⟨g1,c1,r1,e1,_,d1,_⟩
 ·rw[e1]at h1;simp[Value.ownBlock]at h1
 ·rw[e1]at h1;simp only[Value.ownBlock,Option.some.injEq]at h1;subst h1;rw[d1]at k;simp only[Option.some.injEq,Obj.cells.injEq]at k;exact hef k.2.1
theorem apg {W:World}{g:Nat}{x y:Value}{T:TypeId}(h:W.heap[g]?=some (.cells #[x,y] T (0,0)))(z:Value):(W.setCell ⟨g,0,none⟩ z).heap[g]?=some (.cells #[z,y] T (0,0))/\(W.setCell ⟨g,1,none⟩ z).heap[g]?=some (.cells #[x,z] T (0,0)):=by
 have hlt:=lt_of_block h;have h':W.heap[g]=.cells #[x,y] T (0,0):=by simpa [Array.getElem?_eq_getElem hlt] using h
 constructor
 ·show (W.heap.modify g _)[g]?=_;rw[Array.getElem?_eq_getElem (by simpa using hlt),Array.getElem_modify_self,h'];rfl
 ·show (W.heap.modify g _)[g]?=_;rw[Array.getElem?_eq_getElem (by simpa using hlt),Array.getElem_modify_self,h'];rfl
theorem arn {W:World}{g i:Nat}(o:Nat)(z:Value)(hne:i≠g):(W.setCell ⟨g,o,none⟩ z).heap[i]?=W.heap[i]?:=Below.heap_setCell _ _ _ _ hne
theorem aiR {W:World}{g base n j:Nat}{e:TypeId}{v:Value}{xs:List Value}(h:W.ownsRow base e j v n xs)(o:Nat)(z:Value)(hne:v.ownBlock≠some g):(W.setCell ⟨g,o,none⟩ z).ownsRow base e j v n xs:=
 afF h fun i hi=>arn o z (fun e=>hne (e▸hi))
theorem abF {W:World}{base n j:Nat}{e:TypeId}{v:Value}{xs:List Value}(h:W.ownsRow base e j v n xs)(ob:Obj):(W.alloc ob).ownsRow base e j v n xs:=alZ h ((Below.refl _ _).alloc (nl _) ob)
theorem ahD {w w':World}{base n j:Nat}{e:TypeId}{v:Value}{r:Option Nat}{xs:List Value}(h:w.ownsRow base e j v n xs)(k:w.grownBy w' r)(hr:∀g,v.ownBlock=some g->r≠some g):w'.ownsRow base e j v n xs:=
 afF h fun g hg=>k.block g (h.lt g hg).2 (fun e=>hr g hg e.symm)
theorem ahE {fr:List UInt8}:∀{Ps:List (List Tm)} {us:List Tm},Part fr Ps us->Ps.length<=us.length:=by
 intro Ps us h;have h1:=h.flat.length_eq;rw[<-h1];have h2:∀B∈Ps,B≠[]:=fun B hB=>(h.blk B hB).ne;clear h h1
 induction Ps with
 | nil=>simp
 | cons B Ps ih=>
  have:=ih fun D hD=>h2 D (by simp[hD]);have hb:=List.length_pos_iff.2 (h2 B (by simp));rw[List.flatten_cons,lla,List.length_cons];omega
theorem aph {fr:List UInt8}{Ps:List (List Tm)}{us:List Tm}(h:Part fr Ps us){B:List Tm}(hB:B∈Ps):B.length<=us.length:=by
 obtain⟨R,hR⟩:=agE h hB;have:=hR.length_eq;rw[lla]at this;omega
theorem aro {fr:List UInt8}{T:Tm}{Ps A:List (List Tm)}{D us:List Tm}{k:Nat}(hp:Part fr Ps us)(hs:Scan fr T Ps k A D):A.length<=Ps.length/\D.length<=us.length+1:=by
 obtain⟨J,e,hq,_,_⟩:=hs.ex;have h1:=hq.length_eq;rw[lla,List.length_take]at h1;have h2:=hq.flatten.length_eq;rw[List.flatten_append,lla]at h2
 have h3:(Ps.take k).flatten.length<=Ps.flatten.length:=by
  conv=>rhs;rw[<-List.take_append_drop k Ps,List.flatten_append,lla]
  omega
 have h4:=hp.flat.length_eq;refine⟨by omega,?_⟩;rw[e,lla,List.length_singleton];omega
structure InvC (fr:List UInt8) (T:Tm) (Ps:List (List Tm)) (W0:World) (base jb k:Nat) (A:List (List Tm)) (D:List Tm) (vD vA:Value) (xsA:List Value) (W:World):Prop where
 below:Zb W0 W
 box:W.heap[jb]?=some (.cells #[.int .u32 ((setN (nB fr D):Nat):Int),vD] 73 (0,0))
 rowD:W.ownsRow W0.heap.size 38 1 vD D.length (D.map enc)
 rowA:W.ownsRow (jb+1) 73 2 vA A.length xsA
 all:AllO W0 base fr A xsA
 scan:Scan fr T Ps k A D
def ar9 (fr:List UInt8)(us:List Tm)(w:World)(e:Ending)(w':World):Prop:=
 ∃Ps v xs,Part fr Ps us/\e=.returned v/\w'.ownsRow w.heap.size 73 2 v Ps.length xs/\AllO w' w.heap.size fr Ps xs/\Zb w w'
theorem api (fr:List UInt8):Part fr [] []:=⟨by simp,by simp,.nil⟩
theorem apj (fr:List UInt8)(hfr:Lets fr)(us:List Tm)(hu:us.length<=61)(hok:∀T∈us,T.ok nmL=true)(base0:Nat)(v:Value)(w:World)(ho:w.ownsRow base0 38 1 v us.length (us.map enc)) : Calls prog 67 #[.int .u32 ((setN fr:Nat):Int),v] w (ar9 fr us w):=by
 obtain⟨i0,hi,hz0,hz1,hz2⟩:=info_parts Tryz.infoCm;obtain⟨j0,hj,hy0,hy1,hy2⟩:=info_parts Tryz.infoSg;obtain⟨p,cap,rfl⟩:=aaD ho;have HO:=qz ho;have HF:Hid (∀T∈us,Zr 92 #[.iface (aaB T) (pay T)] (.int .u32 ((setN T.free:Nat):Int))):=fun T hT w=>abv T (hok T hT) w;have HL:=qz hfr;have HOK:=qz hok;obtain⟨nF,hnF⟩:∃nF,nF=setN fr:=⟨_,rfl⟩;rw[<-hnF];have HNF:=qz hnF;clear ho hfr hok hnF
 go_enter func67,ntmps67
 go_wp2_with fail
 go_loopg [5,14] us.length (fun gk s5 s14 wr=>∃(i:Nat) (Ps:List (List Tm)) (xs:List Value),s14=.int .i64 (i:Int)/\i+gk=us.length/\Hid (Part fr Ps (us.take i))/\Hid (wr.ownsRow w.heap.size 73 2 s5 Ps.length xs)/\Hid (AllO wr w.heap.size fr Ps xs)/\Hid (Zb w wr))
 case atStart=>exact⟨0,[],[],by congr 1,by omega,api fr,World.ownsRow_nil _ _ _ _,AllO.nil _ _ _,Below.refl _ _⟩
 case round=>
  obtain⟨i,Ps,xs,rfl,hig,HP,HR,HA,HB⟩:=hrel;obtain⟨GO,hGO⟩:∃G,G=gk:=⟨_,rfl⟩;obtain⟨W0,rfl⟩:∃W0,W0=wr:=⟨wr,rfl⟩
  by_cases hlt:(i:Int)<(us.length:Int)
  ·have hit:i<us.length:=by omega
   obtain⟨g,hpg,hg1,hg2,hg3,hcells⟩:=act HO.out (by omega);subst hpg;obtain⟨T,hT⟩:∃T,T=us[i]:=⟨_,rfl⟩
   have c1:W0.cell? ⟨g,i,none⟩=some (.iface (aaB T) (pay T)):=
    (HB.out.cell (p:=⟨g,i,none⟩) hg2).trans (hcells i (enc T) (by rw[hT,List.getElem?_map,List.getElem?_eq_getElem hit];rfl))
   have HFT:=qz (HF.out T (hT▸List.getElem_mem hit));have hlT:Lets T.free:=lets_free T (HOK.out T (hT▸List.getElem_mem hit))
   have HAND:Hid (bits .and .u32 ((setN T.free:Nat):Int) (nF:Int)=((setN (nB fr [T]):Nat):Int)):=by
    show _=_;rw[HNF.out,anj _ _ (setN_lt32 _ hlT) (setN_lt32 _ HL.out),arh HL.out T hlT]
   have HTK:Hid (us.take (i+1)=us.take i++[T]):=by show _=_;rw[List.take_succ_eq_append_getElem hit,hT]
   have hPl:Ps.length<=61:=by have:=ahE HP.out;rw[List.length_take]at this;omega
   have hBl:∀B∈Ps,B.length<=61:=fun B hB=>by have:=aph HP.out hB;rw[List.length_take]at this;omega
   have HBL:=qz hBl;obtain⟨nT,hnT⟩:∃nT,nT=setN T.free:=⟨_,rfl⟩;rw[<-hnT]at HFT HAND;obtain⟨tT,htT⟩:∃tT,tT=aaB T:=⟨_,rfl⟩;obtain⟨pT,hpT⟩:∃pT,pT=pay T:=⟨_,rfl⟩;rw[<-htT,<-hpT]at HFT c1;have HEN:Hid (enc T=.iface tT pT):=by show _=_;rw[htT,hpT];rfl
   clear hnT htT hpT hT hcells hlT hBl;obtain⟨p5,c5,rfl⟩:=afG HR.out;go_wp2_with fail;refine(HFT.out _).mono ?_;rintro e w1 ⟨rfl,b1⟩;clear c1;go_wp2_with fail;rw[HAND.out];go_wp2_with fail;have hs1:W0.heap.size<=w1.heap.size:=b1.size;obtain⟨W2,hW2⟩:∃W2,W2=(w1.alloc (.cells #[.iface tT pT] 38)).alloc (.cells #[.int .u32 ((setN (nB fr [T]):Nat):Int),.slice (some ⟨w1.heap.size,0,none⟩) 1 1] 73):=⟨_,rfl⟩
   have INV0:Hid (InvC fr T Ps W0 w.heap.size (w1.heap.size+1) 0 [] [T] (.slice (some ⟨w1.heap.size,0,none⟩) 1 1) (.slice none 0 0) [] W2):=by
    refine qz ⟨?_,?_,?_,World.ownsRow_nil _ _ _ _,AllO.nil _ _ _,alW fr T Ps⟩
    ·rw[hW2];exact(b1.alloc hs1 _).alloc (by simp;omega) _
    ·rw[hW2];exact abj _ _ _
    ·rw[hW2];have:=abF (aa3 w1 (.iface tT pT) 38 W0.heap.size hs1) (.cells #[.int .u32 ((setN (nB fr [T]):Nat):Int),.slice (some ⟨w1.heap.size,0,none⟩) 1 1] 73);rw[<-HEN.out]at this ⊢
     exact this
   have HJB:Hid (W0.heap.size<=w1.heap.size+1):=by show _<=_;omega
   rw[<-hW2];obtain⟨jb,hjb⟩:∃jb,jb=w1.heap.size+1:=⟨_,rfl⟩;rw[<-hjb]at INV0 HJB ⊢;clear hW2 hjb b1 hs1 HAND HFT
   go_loopg [9,27] Ps.length (fun gk s9 s27 wz=>∃(k:Nat) (A:List (List Tm)) (D:List Tm) (vD:Value) (xsA:List Value),s27=.int .i64 (k:Int)/\k+gk=Ps.length/\Hid (InvC fr T Ps W0 w.heap.size jb k A D vD s9 xsA wz))
   case atStart=>exact⟨0,[],[T],_,[],by congr 1,by omega,INV0⟩
   case round=>
    obtain⟨k,A,D,vD,xsA,rfl,hkg,HI⟩:=hrel;obtain⟨p9,c9,rfl⟩:=afG HI.out.rowA;have hwz:=HI.out.below.size;obtain⟨hal,hdl⟩:=aro HP.out HI.out.scan;rw[List.length_take]at hdl;have bx:=HI.out.box;have hjw:jb<wr.heap.size:=lt_of_block bx;have b0:wr.cell? ⟨jb,0,none⟩=some (.int .u32 ((setN (nB fr D):Nat):Int)):=by simp[World.cell?,bx]
    have b1:wr.cell? ⟨jb,1,none⟩=some vD:=by simp[World.cell?,bx]
    have fz0:wr.frozen? ⟨jb,0,none⟩=false:=by simp[World.frozen?,bx]
    have fz1:wr.frozen? ⟨jb,1,none⟩=false:=by simp[World.frozen?,bx]
    have BX:=qz bx;have hJ:=HJB.out;obtain⟨pD,cD,rfl⟩:=aaD HI.out.rowD;obtain⟨nD,hnD⟩:∃nD,nD=setN (nB fr D):=⟨_,rfl⟩;have HND:=qz hnD;rw[<-hnD]at b0 BX;clear bx hnD
    by_cases hlt2:(k:Int)<(Ps.length:Int)
    ·have hkp:k<Ps.length:=by omega
     obtain⟨g5,hp5,hg51,hg52,hg53,hcells5⟩:=apf HR.out (by omega);subst hp5;obtain⟨vB,x0,x1,ovB⟩:=HA.out.at_ k hkp;obtain⟨Bk,hBk⟩:∃Bk,Bk=Ps[k]:=⟨_,rfl⟩;rw[<-hBk]at x0 ovB;have hbl:Bk.length<=61:=HBL.out Bk (hBk▸List.getElem_mem hkp);obtain⟨n1,hn1⟩:∃n1,n1=setN (nB fr Bk):=⟨_,rfl⟩;have HN1:=qz hn1;rw[<-hn1]at x0;have k0:=(HI.out.below.cell (p:=⟨g5,k * 2,none⟩) hg52).trans (hcells5 _ _ x0);have k1:=(HI.out.below.cell (p:=⟨g5,k * 2+1,none⟩) hg52).trans (hcells5 _ _ x1);obtain⟨pB,cB,rfl⟩:=aaD ovB;have OVB:=qz ovB;have HBK:=qz hBk;have l1:n1<2 ^ 32:=by rw[HN1.out];exact setN_lt32 _ (aca _ HL.out)
     have l2:nD<2 ^ 32:=by rw[HND.out];exact setN_lt32 _ (aca _ HL.out)
     have hk2:k<=61:=by omega
     clear hn1 hBk x0 x1 hcells5 ovB
     by_cases hap:Apt fr Bk D
     ·have t1:(bits .and .u32 (n1:Int) (nD:Int)==0)=true:=by
       rw[anj _ _ l1 l2,HN1.out,HND.out,(ar6 HL.out Bk D).2 hap];rfl
      have HAP:=qz hap;clear hap l1 l2;have ROWA:=qz (abF (abF HI.out.rowA (.cells #[.int .u32 (n1:Int),.slice pB Bk.length cB] 73)) (.cells #[.int .u32 (n1:Int),.slice pB Bk.length cB] 73))
      have NEWS:Hid (∀(j:Nat) (u:Value),([.int .u32 (n1:Int),.slice pB Bk.length cB]:List Value)[j]?=some u->((wr.alloc (.cells #[.int .u32 (n1:Int),.slice pB Bk.length cB] 73)).alloc (.cells #[.int .u32 (n1:Int),.slice pB Bk.length cB] 73)).cell? ((⟨wr.heap.size+1,0,none⟩:Addr).add j)=some u):=fun j u h=>by
       have:=aet (akz (wr.alloc (.cells #[.int .u32 (n1:Int),.slice pB Bk.length cB] 73)) #[.int .u32 (n1:Int),.slice pB Bk.length cB] 73 2 0 rfl (Nat.zero_le _)) j u h;rw[show (wr.alloc (.cells #[.int .u32 (n1:Int),.slice pB Bk.length cB] 73)).heap.size=wr.heap.size+1 by simp]at this
       exact this
      go_wp2_with (at_builtin;refine wpList_append_own_at _ rfl (.tmp 37) (.tmp 39) 67 rfl (jb+1) 73 i0 _ 2 32 underlying67 hi hz0 hz1 hz2 rfl (by decide) _ A.length xsA rfl ROWA.out ⟨wr.heap.size+1,0,none⟩ 1 1 [.int .u32 (n1:Int),.slice pB Bk.length cB] rfl rfl NEWS.out (by intro u hu;simp at hu;rcases hu with rfl|rfl<;>rfl) ?c2 ?c3 ?c4 ?_)
      case c2=>unfold maxLen;omega
      case c3=>omega
      case c4=>first|omega|(simp;omega)
      intro v3 w3 hown3 hgrow3 _ _
      have INV:Hid (InvC fr T Ps W0 w.heap.size jb (k+1) (A++[Bk]) D (.slice pD D.length cD) v3 (xsA++[.int .u32 (n1:Int),.slice pB Bk.length cB]) w3):=by
       refine qz ⟨?_,?_,?_,?_,?_,?_⟩
       ·exact aas ((HI.out.below.alloc hwz _).alloc (by simp;omega) _) hgrow3 (fun g e=>by have:=(HI.out.rowA.lt g e).1;omega) (by simp;omega)
       ·refine(hgrow3.block jb (by simp;omega) (fun e=>by have:=(HI.out.rowA.lt jb e.symm).1;omega)).trans ?_;rw[<-HND.out];exact((((Below.refl wr.heap.size wr).alloc (nl _) _).alloc (by simp) _).block jb hjw).trans BX.out
       ·exact ahD (abF (abF HI.out.rowD _) _) hgrow3 (fun g e=>afH abK HI.out.rowD HI.out.rowA g e)
       ·rw[lla];exact hown3
       ·have:=AllO.snoc HI.out.all Bk (.slice pB Bk.length cB) OVB.out;rw[<-HN1.out]at this;exact this
       ·rw[HBK.out];exact alX HP.out hkp HI.out.scan (by rw[<-HBK.out];exact HAP.out)
      clear hown3 hgrow3;go_wp2_with fail
      go_roundg (gk - 1)
      case rel=>exact⟨k+1,A++[Bk],D,_,_,by congr 1,by omega,INV⟩
      case measure=>omega
     ·have t1:(bits .and .u32 (n1:Int) (nD:Int)==0)=false:=by
       rw[anj _ _ l1 l2,beq_eq_false_iff_ne];intro e;refine hap ((ar6 HL.out Bk D).1 ?_);rw[<-HN1.out,<-HND.out];omega
      obtain⟨n2,hn2⟩:∃n2,n2=setN (nB fr (D++Bk)):=⟨_,rfl⟩;have t2:bits .or .u32 (nD:Int) (n1:Int)=(n2:Int):=by rw[ajJ _ _ l2 l1,hn2,<-awU HL.out D Bk,HND.out,HN1.out]
      have HN2:=qz hn2;have HAP:=qz hap;clear hap l1 l2 hn2;have nDj:=qz (aiQ abK HI.out.rowD BX.out);have nAj:Hid ((Value.slice p9 A.length c9).ownBlock≠some jb):=qz fun e=>by have:=(HI.out.rowA.lt jb e).1;omega
      have nBj:Hid ((Value.slice pB Bk.length cB).ownBlock≠some jb):=qz fun e=>by have:=(OVB.out.lt jb e).2;omega
      have ROWD:=qz (abF (aiR HI.out.rowD 0 (.int .u32 (n2:Int)) nDj.out) (.cells #[.int .u32 (n1:Int),.slice pB Bk.length cB] 73));have ROWB:=qz (abF (aiR (aal OVB.out HI.out.below) 0 (.int .u32 (n2:Int)) nBj.out) (.cells #[.int .u32 (n1:Int),.slice pB Bk.length cB] 73))
      have BJ:Hid (((wr.setCell ⟨jb,0,none⟩ (.int .u32 (n2:Int))).alloc (.cells #[.int .u32 (n1:Int),.slice pB Bk.length cB] 73)).heap[jb]?=some (.cells #[.int .u32 (n2:Int),.slice pD D.length cD] 73 (0,0))):=
       qz (((bra).block jb (by simp;exact hjw)).trans (apg BX.out _).1)
      go_wp2_with (at_builtin;refine aaw rfl (.tmp 48) (.tmp 50) 45 rfl W0.heap.size w.heap.size 38 j0 .nilIface 16 underlying45 hj hy0 hy1 hy2 rfl _ D.length (D.map enc) rfl ROWD.out _ Bk.length (Bk.map enc) rfl ROWB.out (ajd Bk).one ?c2 ?c3 ?c4 ?_)
      case c2=>unfold maxLen;omega
      case c3=>omega
      case c4=>first|omega|(simp;omega)
      intro v3 w3 hown3 hgrow3 _;obtain⟨p3,c3,rfl⟩:=aaD hown3;have bw3:w3.heap[jb]?=some (.cells #[.int .u32 (n2:Int),.slice pD D.length cD] 73 (0,0)):=(hgrow3.block jb (by simp;omega) (fun e=>nDj.out e.symm)).trans BJ.out;have x0:w3.cell? ⟨jb,1,none⟩=some (.slice pD D.length cD):=by simp[World.cell?,bw3]
      have x1:w3.frozen? ⟨jb,1,none⟩=false:=by simp[World.frozen?,bw3]
      have INV:Hid (InvC fr T Ps W0 w.heap.size jb (k+1) A (D++Bk) (.slice p3 (D.length+Bk.length) c3) (Value.slice p9 A.length c9) xsA (w3.setCell ⟨jb,1,none⟩ (.slice p3 (D.length+Bk.length) c3))):=by
       refine qz ⟨?_,?_,?_,?_,HI.out.all,?_⟩
       ·have hb1:Zb W0 (wr.setCell ⟨jb,0,none⟩ (.int .u32 (n2:Int))):=HI.out.below.setCell (by simpa using hJ) _;have hb2:=aas (hb1.alloc (by simp;exact hwz) _) hgrow3 (fun g e=>(HI.out.rowD.lt g e).1) (by simp;omega);exact hb2.setCell (by simpa using hJ) _
       ·rw[<-HN2.out];exact(apg bw3 (.slice p3 (D.length+Bk.length) c3)).2
       ·rw[lla,List.map_append];exact aiR hown3 1 (.slice p3 (D.length+Bk.length) c3) (aiQ abK hown3 bw3)
       ·exact aiR (ahD (abF (aiR HI.out.rowA 0 _ nAj.out) _) hgrow3 (fun g e=>afH (Ne.symm abK) HI.out.rowA HI.out.rowD g e)) 1 (.slice p3 (D.length+Bk.length) c3) nAj.out
       ·rw[HBK.out];exact ao9 HP.out hkp HI.out.scan (by rw[<-HBK.out];exact HAP.out)
      have hj3:jb<w3.heap.size:=lt_of_block bw3;clear hown3 hgrow3 bw3 b0 b1 fz0 fz1 k0 k1;go_wp2_with fail
      go_roundg (gk - 1)
      case rel=>exact⟨k+1,A,D++Bk,_,xsA,by congr 1,by omega,INV⟩
      case measure=>omega
    ·obtain rfl:k=Ps.length:=by omega
     have ROWA:=qz (abF HI.out.rowA (.cells #[.int .u32 (nD:Int),.slice pD D.length cD] 73))
     have NEWS:Hid (∀(j:Nat) (u:Value),([.int .u32 (nD:Int),.slice pD D.length cD]:List Value)[j]?=some u->(wr.alloc (.cells #[.int .u32 (nD:Int),.slice pD D.length cD] 73)).cell? ((⟨wr.heap.size,0,none⟩:Addr).add j)=some u):=fun j u h=>
      aet (akz wr #[.int .u32 (nD:Int),.slice pD D.length cD] 73 2 0 rfl (Nat.zero_le _)) j u h
     go_wp2_with (at_builtin;refine wpList_append_own_at _ rfl (.tmp 54) (.tmp 56) 67 rfl (jb+1) 73 i0 _ 2 32 underlying67 hi hz0 hz1 hz2 rfl (by decide) _ A.length xsA rfl ROWA.out ⟨wr.heap.size,0,none⟩ 1 1 [.int .u32 (nD:Int),.slice pD D.length cD] rfl rfl NEWS.out (by intro u hu;simp at hu;rcases hu with rfl|rfl<;>rfl) ?c2 ?c3 ?c4 ?_)
     case c2=>unfold maxLen;omega
     case c3=>omega
     case c4=>first|omega|(simp;omega)
     intro v3 w3 hown3 hgrow3 _ _;have hwW:w.heap.size<=W0.heap.size:=HB.out.size;have P':Hid (Part fr (A++[D]) (us.take (i+1))):=by show Part _ _ _;rw[HTK.out];exact ao_ HP.out HI.out.scan
     have R':Hid (w3.ownsRow w.heap.size 73 2 v3 (A++[D]).length (xsA++[.int .u32 (nD:Int),.slice pD D.length cD])):=by
      show World.ownsRow _ _ _ _ _ _ _;rw[lla];exact arm hown3 (by omega)
     have gr:Hid (∀(v:Value) (n b:Nat) (zs:List Value),wr.ownsRow b 38 1 v n zs->w3.ownsRow b 38 1 v n zs):=fun v n b zs o=>ahD (abF o _) hgrow3 (fun g e=>afH abK o HI.out.rowA g e)
     have A':Hid (AllO w3 w.heap.size fr (A++[D]) (xsA++[.int .u32 (nD:Int),.slice pD D.length cD])):=by
      have:=AllO.snoc ((HI.out.all.below HI.out.below).keep fun v n zs o=>gr.out v n _ zs o) D (.slice pD D.length cD) (aaW (gr.out _ _ _ _ HI.out.rowD) hwW);rw[<-HND.out]at this;exact this
     have B':Hid (Zb w w3):=qz (aas ((aaa HB.out HI.out.below).alloc (by omega) _) hgrow3 (fun g e=>by have:=(HI.out.rowA.lt g e).1;omega) (by simp;omega));clear hown3 hgrow3;go_wp2_with fail
     go_roundg (GO - 1)
     case rel=>exact⟨i+1,A++[D],_,by congr 1,by omega,P',R',A',B'⟩
     case measure=>omega
  ·obtain rfl:i=us.length:=by omega
   rw[List.take_length]at HP;go_wp2_with fail;go_ret;exact⟨Ps,_,xs,HP.out,rfl,HR.out,HA.out,HB.out⟩
theorem al0 (l:List UInt8)(c:UInt8):setN (l++[c])=setN l ||| 2 ^ (c.toNat - 97):=by
 induction l with
 | nil=>simp[setN]
 | cons a l ih=>simp only[List.cons_append,setN,ih,Nat.or_assoc];rw[Nat.or_comm (2 ^ (c.toNat - 97))]
theorem apk (fs:List UInt8)(hl:Lets fs)(hn:fs.length<=300)(base:Nat)(v:Value)(w:World)(ho:w.ownsRow base 5 1 v fs.length (fs.map ub)) : Calls prog 68 #[v] w fun e w'=>e=.returned (.int .u32 ((setN fs:Nat):Int))/\w=w':=by
 obtain⟨p,cap,rfl⟩:=aaD ho;have HO:=qz ho;have HL:=qz hl;clear ho hl
 go_enter func68,ntmps68
 go_wp2_with fail
 go_loopg [3,8] fs.length (fun gk s2 s7 wr=>∃k:Nat,s7=.int .i64 (k:Int)/\k+gk=fs.length/\s2=.int .u32 ((setN (fs.take k):Nat):Int)/\wr=w)
 case atStart=>exact⟨0,by congr 1,by omega,by simp[setN],rfl⟩
 case round=>
  obtain⟨k,rfl,hkg,rfl,rfl⟩:=hrel
  by_cases hlt:(k:Int)<(fs.length:Int)
  ·have hk:k<fs.length:=by omega
   obtain⟨g,hpg,hg1,hg2,hg3,hcells⟩:=act HO.out (by omega);subst hpg;obtain⟨c,hc⟩:∃c,c=fs[k]:=⟨_,rfl⟩;have hcl:=HL.out c (hc▸List.getElem_mem hk);have c0:wr.cell? ⟨g,k,none⟩=some (.int .u8 (c.toNat:Int)):=hcells k (ub c) (by rw[hc,List.getElem?_map,List.getElem?_eq_getElem hk];rfl);obtain⟨n,hn⟩:∃n,n=setN (fs.take k):=⟨_,rfl⟩;have hlt32:n<2 ^ 32:=by rw[hn];exact setN_lt32 _ fun x hx=>HL.out x (List.mem_of_mem_take hx)
   have HS:Hid (setN (fs.take (k+1))=n ||| 2 ^ (c.toNat - 97)):=by show _=_;rw[List.take_succ_eq_append_getElem hk,al0,<-hc,<-hn]
   have HW:=qz (abQ n c.toNat hlt32 hcl.1 hcl.2);rw[<-hn];clear hn hc hcells hlt32;go_wp2_with fail;refine(HW.out _).mono ?_;rintro e w1 ⟨rfl,rfl⟩;rw[<-HS.out];clear c0;go_wp2_with fail
   go_roundg (gk - 1)
   case rel=>exact⟨k+1,by congr 1,by omega,rfl,rfl⟩
   case measure=>omega
  ·obtain rfl:k=fs.length:=by omega
   rw[List.take_length];go_wp2_with fail;go_ret;exact⟨rfl,rfl⟩
theorem at8 {r1 r2:List Tm}(h:r1.Perm r2):(srtT r1).map sv=(srtT r2).map sv:=by
 have e:(srtT r1).map Tm.pr=(srtT r2).map Tm.pr:=by
  refine List.Perm.eq_of_pairwise (le:=fun a b=>a<=b) (fun a b _ _ h k=>List.le_antisymm h k) (List.pairwise_map.2 (adw r1)) (List.pairwise_map.2 (adw r2)) ?_;unfold srtT;exact((List.mergeSort_perm r1 _).trans (h.trans (List.mergeSort_perm r2 _).symm)).map _
 rw[aj3,aj3,e]
theorem All2.eq_of {α β:Type}{g:α->Option β}:∀{Q:List α} {r1 r2:List β},All2 (fun a r=>g a=some r) Q r1->All2 (fun a r=>g a=some r) Q r2->r1=r2:=by
 intro Q r1 r2 h
 induction h generalizing r2 with
 | nil=>intro k;cases k;rfl
 | cons e _ ih=>
  intro k
  cases k with
  | cons e2 k=>rw[ih k];rw[e]at e2;cases e2;rfl
theorem All2.imp_mem {α β:Type}{R R':α->β->Prop}:∀{Q:List α} {rs:List β},All2 R Q rs->(∀a r,a∈Q->R a r->R' a r)->All2 R' Q rs:=by
 intro Q rs h
 induction h with
 | nil=>intro _;exact .nil
 | cons e _ ih=>intro hm;exact .cons (hm _ _ (by simp) e) (ih fun a r ha=>hm a r (by simp[ha]))
theorem akA {fr:List UInt8}{us rs:List Tm}{Q:List (List Tm)}(hL:Lev fr us)(hQ:Part fr Q us)(h:All2 (fun D r=>nfI (tI fr D)=some r) Q rs):CompIs fr us rs:=
 ⟨Q,hQ,h.imp_mem fun D r hD e=>by
  obtain⟨R,hR⟩:=agE hQ hD
  rw[ahB hL hR (hQ.blk D hD).ne (.refl D)];exact e⟩
theorem akB {fr:List UInt8}{us:List Tm}{Q:List (List Tm)}(hL:Lev fr us)(hQ:Part fr Q us){D:List Tm}(hD:D∈Q)(h:nfI (tI fr D)=none):CompNo fr us:=
 ⟨Q,hQ,D,hD,by obtain⟨R,hR⟩:=agE hQ hD;rw[ahB hL hR (hQ.blk D hD).ne (.refl D)];exact h⟩
theorem arp {fr:List UInt8}{us r1 r2:List Tm}(hL:Lev fr us)(h1:CompIs fr us r1)(h2:CompIs fr us r2):r1.Perm r2:=by
 obtain⟨P,hP,ha⟩:=h2.ex;obtain⟨r',p1,h3⟩:=afE hL h1 hP;obtain⟨r'',p2,h4⟩:=afE hL h2 hP;have:=h3.eq_of h4;subst this
 exact p1.trans p2.symm
theorem All2.no {α β:Type}{g:α->Option β}:∀{Q:List α} {rs:List β},All2 (fun a r=>g a=some r) Q rs->∀a∈Q,g a=none->False:=by
 intro Q rs h
 induction h with
 | nil=>intro a ha;cases ha
 | cons e _ ih=>
  intro a ha hn;rcases List.mem_cons.1 ha with rfl|ha
  ·rw[e]at hn;cases hn
  ·exact ih a ha hn
theorem akC {fr:List UInt8}{us rs:List Tm}(hL:Lev fr us)(h1:CompIs fr us rs)(h2:CompNo fr us):False:=by
 obtain⟨P,hP,ha⟩:=h1.ex;obtain⟨D,hD,hn⟩:=atZ hL h2 hP;obtain⟨r',_,h3⟩:=afE hL h1 hP;exact h3.no D hD hn
theorem comp_or {fr:List UInt8}{us:List Tm}(hL:Lev fr us):(∃rs,CompIs fr us rs)\/CompNo fr us:=by
 obtain⟨P,hP⟩:=ao3 fr us
 by_cases h:∃D∈P,nfI (tI fr D)=none
 ·obtain⟨D,hD,hn⟩:=h;exact .inr (akB hL hP hD hn)
 ·refine .inl ?_
  have:∀Q:List (List Tm),(∀D∈Q,nfI (tI fr D)≠none)->∃rs,All2 (fun D r=>nfI (tI fr D)=some r) Q rs:=by
   intro Q
   induction Q with
   | nil=>intro _;exact⟨[],.nil⟩
   | cons D Q ih=>
    intro hq;obtain⟨rs,hr⟩:=ih fun E hE=>hq E (by simp[hE])
    cases e:nfI (tI fr D) with
    | none=>exact absurd e (hq D (by simp))
    | some r=>exact⟨r::rs,.cons e hr⟩
  obtain⟨rs,hr⟩:=this P fun D hD hn=>h ⟨D,hD,hn⟩
  exact⟨rs,akA hL hP hr⟩
theorem CompIs.len {fr:List UInt8}{us rs:List Tm}(h:CompIs fr us rs):rs.length<=us.length:=by
 obtain⟨P,hP,ha⟩:=h.ex;have h1:=ahE hP
 have h2:∀{Q:List (List Tm)} {rs:List Tm},All2 (fun B r=>nfS (tS fr B)=some r) Q rs->rs.length=Q.length:=by
  intro Q rs h
  induction h with
  | nil=>rfl
  | cons _ _ ih=>simp[ih]
 rw[h2 ha];exact h1
theorem awV (s X:ByteArray)(n1:Zr 17 #[.string s] (.tuple #[.string X,.bool false]))(w:World):Calls prog 40 #[.string s] w fun e w'=>e=.returned (.tuple #[.slice none 0 0,.bool false])/\Zb w w':=by
 have Hn1:=qz n1;clear n1
 go_enter func40,ntmps40
 go_wp2_with fail;refine(Hn1.out _).mono ?_;rintro e w1 ⟨rfl,c1⟩;go_wp2_with fail;go_ret2;exact⟨rfl,c1⟩
theorem awW (s:ByteArray)(n1:Zr 53 #[.string s] (.tuple #[.nilIface,.bool false]))(w:World):Calls prog 41 #[.string s] w fun e w'=>e=.returned (.tuple #[.slice none 0 0,.bool false])/\Zb w w':=by
 have Hn1:=qz n1;clear n1
 go_enter func41,ntmps41
 go_wp2_with fail;refine(Hn1.out _).mono ?_;rintro e w1 ⟨rfl,c1⟩;go_wp2_with fail;go_ret2;exact⟨rfl,c1⟩
theorem awX (s:ByteArray)(T:TypeId)(V:Value)(fr:List UInt8)(us:List Tm)(hL:Lev fr us)(hsr:Srt fr)(hfl:fr.length<=5)(hu:us.length<=61)(n1:Zr 53 #[.string s] (.tuple #[.iface T V,.bool true]))(n2:∀w,Calls prog 54 #[.iface T V] w (agu fr (us.map enc) w))(w:World) : Calls prog 41 #[.string s] w fun e w'=>(∃rs v,CompIs fr us rs/\e=.returned (.tuple #[v,.bool true])/\w'.ownsRow w.heap.size 9 1 v rs.length ((srtT rs).map sv)/\Zb w w')\/(CompNo fr us/\e=.returned (.tuple #[.slice none 0 0,.bool false])/\Zb w w'):=by
 obtain⟨i0,hi,hz0,hz1,hz2⟩:=info_parts Tryz.infoS;have hlf:Lets fr:=fun c hc=>by have:=hL.frl c hc;simp[nmL]at this;exact this
 have G1:=qz n1;have G2:=qz n2;have G3:Hid (∀(v:Value) (b:Nat) (w':World),w'.ownsRow b 5 1 v fr.length (fr.map ub)->Calls prog 68 #[v] w' fun e w2=>e=.returned (.int .u32 ((setN fr:Nat):Int))/\w'=w2):=fun v b w' h=>apk fr hlf (by omega) b v w' h;have G4:Hid (∀(v:Value) (b:Nat) (w':World),w'.ownsRow b 38 1 v (us.map enc).length (us.map enc)->Calls prog 67 #[.int .u32 ((setN fr:Nat):Int),v] w' (ar9 fr us w')):=fun v b w' h=>apj fr hlf us hu (hL.ok) b v w' (by rw[List.length_map]at h;exact h);have HL:=qz hL;have HSR:=qz hsr;have HLF:=qz hlf;obtain⟨nF,hnF⟩:∃nF,nF=setN fr:=⟨_,rfl⟩;rw[<-hnF]at G3 G4;clear n1 n2 hL hsr hlf hnF
 go_enter func41,ntmps41
 go_wp2_with fail;refine(G1.out _).mono ?_;rintro e w1 ⟨rfl,b1⟩;go_wp2_with fail;refine(G2.out _).mono ?_;rintro e w2 ⟨v1,v2,rfl,o1,o2,c2⟩;have B2:=qz (aaa b1 c2);have O1:=qz o1;have O2:=qz o2;clear o1 o2 c2 b1;go_wp2_with fail;refine(G3.out _ _ _ O1.out).mono ?_;rintro e w3 ⟨rfl,rfl⟩;go_wp2_with fail;refine(G4.out _ _ _ O2.out).mono ?_;rintro e W3 ⟨Ps,vP,xs,hP,rfl,oP,aP,b3⟩;have HP:=qz hP;have OP:=qz oP;have AP:=qz aP;have B3:=qz (aaa B2.out b3);have hPl:Ps.length<=61:=by have:=ahE hP;omega
 obtain⟨p5,c5,rfl⟩:=afG oP;clear hP oP aP b3;go_wp2_with fail
 go_loopg [8,30] Ps.length (fun gk s8 s30 wr=>∃(k:Nat) (rs:List Tm),s30=.int .i64 (k:Int)/\k+gk=Ps.length/\rs.length=k/\Hid (All2 (fun D r=>nfI (tI fr D)=some r) (Ps.take k) rs)/\Hid (wr.ownsRow W3.heap.size 9 1 s8 k (rs.map sv))/\Hid (Zb W3 wr))
 case atStart=>exact⟨0,[],by congr 1,by omega,rfl,.nil,World.ownsRow_nil _ _ _ _,Below.refl _ _⟩
 case round=>
  obtain⟨k,rs,rfl,hkg,hrl,HA2,HR,HB⟩:=hrel;have hwz:=HB.out.size;obtain⟨p8,c8,rfl⟩:=aaD HR.out
  by_cases hlt:(k:Int)<(Ps.length:Int)
  ·have hkp:k<Ps.length:=by omega
   obtain⟨g5,hp5,hg51,hg52,hg53,hcells5⟩:=apf OP.out (by omega);subst hp5;obtain⟨vB,x0,x1,ovB⟩:=AP.out.at_ k hkp;obtain⟨Bk,hBk⟩:∃Bk,Bk=Ps[k]:=⟨_,rfl⟩;rw[<-hBk]at x0 ovB;have hbm:Bk∈Ps:=hBk▸List.getElem_mem hkp;have hbl:=aph HP.out hbm;obtain⟨R,hR⟩:=agE HP.out hbm;have hfine:=(adY HL.out hR).2;have hsr2:Srt (nB fr Bk):=ab0 HSR.out _;have hlt2:Lets (nB fr Bk):=aca Bk HLF.out;have hnbl:=ao5 fr Bk
   have HWH:Hid (∀(v:Value) (b:Nat) (w':World),w'.ownsRow b 38 1 v Bk.length (Bk.map enc)->Calls prog 69 #[.agg #[.int .u32 ((setN (nB fr Bk):Nat):Int),v]] w' fun e w2=>e=.returned (enc (tI fr Bk))/\Zb w' w2):=fun v b w' h=>
    alV (nB fr Bk) (setN (nB fr Bk)) (setN_lt32 _ hlt2) (aog _ hsr2 hlt2) (by omega) Bk (by omega) b v w' h
   have HNT:=qz (af0 (tI fr Bk) hfine.ok hfine.sz (by have:=hfine.pl;omega));obtain⟨n1,hn1⟩:∃n1,n1=setN (nB fr Bk):=⟨_,rfl⟩;rw[<-hn1]at x0 HWH;have k0:=(HB.out.cell (p:=⟨g5,k * 2,none⟩) hg52).trans (hcells5 _ _ x0);have k1:=(HB.out.cell (p:=⟨g5,k * 2+1,none⟩) hg52).trans (hcells5 _ _ x1);obtain⟨pB,cB,rfl⟩:=aaD ovB;have OVB:=qz (aal ovB HB.out);have HTK:Hid (Ps.take (k+1)=Ps.take k++[Bk]):=by show _=_;rw[List.take_succ_eq_append_getElem hkp,hBk]
   obtain⟨tt,htt⟩:∃tt,tt=aaB (tI fr Bk):=⟨_,rfl⟩;obtain⟨pt,hpt⟩:∃pt,pt=pay (tI fr Bk):=⟨_,rfl⟩;have hen:enc (tI fr Bk)=.iface tt pt:=by rw[htt,hpt];rfl
   rw[hen]at HWH;rw[<-htt,<-hpt]at HNT;have hk2:k<=61:=by omega
   clear htt hpt hen hn1 hBk x0 x1 hcells5 ovB hfine hsr2 hlt2 hnbl hR
   cases hnf:nfI (tI fr Bk) with
   | none=>
    rw[hnf]at HNT;have HNO:Hid (CompNo fr us):=akB HL.out HP.out hbm hnf;clear hnf hbm;go_wp2_with fail;refine(HWH.out _ _ _ (aal OVB.out (bra))).mono ?_;rintro e w5 ⟨rfl,b5⟩;clear k0 k1;have B5:=qz (aaa (HB.out.alloc hwz _) b5);clear b5;go_wp2_with fail;refine(HNT.out _).mono ?_;rintro e w6 ⟨rfl,b6⟩;have B6:=qz (aaa B3.out (aaa B5.out b6));clear b6;go_wp2_with fail;go_ret2;exact .inr ⟨HNO.out,rfl,B6.out⟩
   | some r=>
    rw[hnf]at HNT;have HSO:=qz hnf;obtain⟨X,hX⟩:∃X,X=aue (some r):=⟨_,rfl⟩;rw[<-hX]at HNT;have hxs:Hid ([Value.string X]=[r].map sv):=by show _=_;rw[hX];rfl
    clear hnf hbm hX;go_wp2_with fail;refine(HWH.out _ _ _ (aal OVB.out (bra))).mono ?_;rintro e w5 ⟨rfl,b5⟩;clear k0 k1;have B5:=qz (aaa (HB.out.alloc hwz _) b5);have R5:=qz (aal (aal HR.out (bra)) b5);clear b5;go_wp2_with fail;refine(HNT.out _).mono ?_;rintro e w6 ⟨rfl,b6⟩;have B6:=qz (aaa B5.out b6);have R6:=qz (aal R5.out b6);have hz6:=B6.out.size;clear b6
    go_wp2_with (at_builtin;refine aaw rfl (.tmp 42) (.tmp 44) 29 rfl W3.heap.size W3.heap.size 9 i0 (.string ⟨#[]⟩) 16 underlying29 hi hz0 hz1 hz2 rfl _ k _ rfl (R6.out.alloc _) _ 1 [.string X] rfl (aa3 w6 (.string X) 9 W3.heap.size hz6) (fun u hu=>by simp at hu;subst hu;rfl) ?c2 ?c3 ?c4 ?_)
    case c2=>unfold maxLen;omega
    case c3=>omega
    case c4=>first|omega|(simp;omega)
    intro v3 w7 hown3 hgrow3 _
    have O3:Hid (w7.ownsRow W3.heap.size 9 1 v3 (k+1) ((rs++[r]).map sv)):=by
     show World.ownsRow _ _ _ _ _ _ _;rw[List.map_append,<-hxs.out];exact hown3
    have hol:∀g,(Value.slice p8 k c8).ownBlock=some g->W3.heap.size<=g:=fun g e=>(R6.out.lt g e).1;have Bl7:=qz (aas (B6.out.alloc hz6 _) hgrow3 hol (by simp;omega))
    have A7:Hid (All2 (fun D r=>nfI (tI fr D)=some r) (Ps.take (k+1)) (rs++[r])):=by
     show All2 _ _ _;rw[HTK.out];exact agG (R:=fun D r=>nfI (tI fr D)=some r) HSO.out HA2.out
    clear hown3 hgrow3 hol;go_wp2_with fail
    go_roundg (gk - 1)
    case rel=>exact⟨k+1,rs++[r],by congr 1,by omega,by simp[hrl],A7,O3,Bl7⟩
    case measure=>omega
  ·obtain rfl:k=Ps.length:=by omega
   rw[List.take_length]at HA2;have HIS:=qz (akA HL.out HP.out HA2.out);have HST:=qz (fun w' (h:w'.ownsRow W3.heap.size 9 1 (.slice p8 Ps.length c8) Ps.length (rs.map sv))=>avh rs _ _ _ w' h (by omega));go_wp2_with fail;refine(HST.out _ HR.out).mono ?_;rintro e w5 ⟨rfl,o5,g5⟩;have hb5:=aas HB.out g5 (fun g e=>(HR.out.lt g e).1) hwz;have O5:=qz (aaW (b2:=w.heap.size) o5 B3.out.size);have B5:=qz (aes B3.out hb5 B3.out.size);clear o5 g5 hb5;go_wp2_with fail;go_ret2;exact .inl ⟨rs,_,HIS.out,rfl,by rw[hrl];exact O5.out,B5.out⟩
theorem awk (s:ByteArray)(hs:s.size<=9223372036854775807):∃(us:List Tm) (b:Bool),us.length<=300/\(∀w,Calls prog 40 #[.string s] w (fun e w'=>∃v',e=.returned (.tuple #[v',.bool b])/\w'.ownsRow w.heap.size 9 1 v' us.length (us.map sv)/\Zb w w'))/\(∀w,Calls prog 41 #[.string s] w (fun e w'=>∃v',e=.returned (.tuple #[v',.bool b])/\w'.ownsRow w.heap.size 9 1 v' us.length (us.map sv)/\Zb w w')):=by
 have h1:=awO s hs;have h2:=awN s hs
 cases e:nfO s with
 | none=>
  rw[e]at h1 h2;refine⟨[],false,by simp,fun w=>(awV s ⟨#[]⟩ h1 w).mono ?_,fun w=>(awW s h2 w).mono ?_⟩
  ·rintro e w' ⟨rfl,b⟩;exact⟨_,rfl,World.ownsRow_nil _ _ _ _,b⟩
  ·rintro e w' ⟨rfl,b⟩;exact⟨_,rfl,World.ownsRow_nil _ _ _ _,b⟩
 | some r=>
  rw[e]at h1 h2;obtain⟨hf,hok,h300,h60⟩:=ard e;obtain⟨f1,f2,f3⟩:=adU hf;have hl:=ab8 r (by omega);rw[f1,f2]at hl
  obtain⟨t,hg,hnf⟩:∃t,good s.data.toList=some t/\nfI t=some r:=by
   unfold nfO at e
   cases hg:good s.data.toList with
   | none=>rw[hg]at e;cases e
   | some t=>rw[hg]at e;exact⟨t,rfl,e⟩
  have hL:=apd hnf;obtain⟨hsr,hfl⟩:=ape hnf;have hu:=(arl hnf).1;have hS:=awb s (S r) _ r.fro.1 hfl hsr r.thrs hu hL h1 (ab_ r (ag_ r hok) (by omega) (by omega)) (acI r (ag_ r hok) (by omega) (by omega)) (fun T hT=>acs T (ag_ T (hL.ok T hT)) (by have h5:=akw (fun T:Tm=>T.pr.length) hT;have h6:=hL.pl;omega));have hI:=awX s _ _ r.fro.1 r.thrs hL hsr hfl hu h2 hl;rcases comp_or hL with⟨rs,hrs⟩|hno
  ·refine⟨srtT rs,true,by rw[aci];have:=hrs.len;omega,fun w=>(hS w).mono ?_,fun w=>(hI w).mono ?_⟩
   all_goals
    rintro e w' (⟨r2,v,hr2,rfl,o,b⟩|⟨hn,_,_⟩)
    ·have hp:=arp hL hr2 hrs;refine⟨v,rfl,?_,b⟩;rw[aci,<-hp.length_eq,<-at8 hp];exact o
    ·exact(akC hL hrs hn).elim
  ·refine⟨[],false,by simp,fun w=>(hS w).mono ?_,fun w=>(hI w).mono ?_⟩
   all_goals
    rintro e w' (⟨r2,v,hr2,rfl,o,b⟩|⟨hn,rfl,b⟩)
    ·exact(akC hL hr2 hno).elim
    ·exact⟨_,rfl,World.ownsRow_nil _ _ _ _,b⟩
theorem aiS (t:Tm):t.thrs.length<=t.size/\∀u∈t.thrs,u.pr.length<=t.pr.length:=by
 have hp:∀t:Tm,∀u∈t.pars,u.pr.length<=t.pr.length:=by
  intro t;induction t with
  | par p q ih ih2=>
   intro u hu;simp only[Tm.pars,List.mem_cons]at hu;simp only[Tm.pr,lla,List.length_cons];rcases hu with rfl|hu
   ·omega
   ·have:=ih2 u hu;omega
  | _=>intro u hu;simp only[Tm.pars,List.mem_singleton]at hu;subst hu;exact nl _
 have hf:t.fro.2.pr.length<=t.pr.length/\t.fro.2.size<=t.size:=by
  induction t with
  | own x p ih=>simp only[Tm.fro,Tm.pr,Tm.size,lla,List.length_cons];omega
  | _=>exact⟨nl _,nl _⟩
 by_cases hn:t.fro.2=.nil
 ·have e:t.thrs=[]:=by unfold Tm.thrs;rw[hn]
  rw[e];simp
 ·rw[aiH hn];refine⟨Nat.le_trans (aiG _) hf.2,fun u hu=>Nat.le_trans (hp _ u hu) hf.1⟩
theorem acJ {r:Tm}{nm:UInt8->Bool}(h:NfForm r)(ho:r.ok nm=true):(∀l∈r.fro.1,nm l=true)/\∀T∈r.thrs,T.ok nm=true:=by
 obtain⟨ls,l,rfl,hl⟩:=h;have h1:∀T∈l,Thd T:=fun T hT=>(hl T hT).1;obtain⟨a1,a2⟩:=ag2 _ ls ho;rw[adT ls l h1,acF,ac_ l h1];exact⟨by simpa using a1,ae_ l a2⟩
theorem apl {T:Tm}(h:T.ok nmL=true):∀o∈offs T,nmL o.a=true\/o.k=126:=by
 induction T with
 | snd a b p ih=>intro o ho;simp only[offs,List.mem_singleton]at ho;subst ho;simp only[Tm.ok,bae]at h;exact .inl h.1.1
 | rcv a x p ih=>intro o ho;simp only[offs,List.mem_singleton]at ho;subst ho;simp only[Tm.ok,bae]at h;exact .inl h.1.1
 | tau p ih=>intro o ho;simp only[offs,List.mem_singleton]at ho;subst ho;exact .inr rfl
 | sum p q ih ih2=>
  intro o ho;simp only[Tm.ok,bae]at h;simp only[offs,lma]at ho;exact ho.elim (ih h.1 o) (ih2 h.2 o)
 | rep p ih=>
  intro o ho;simp only[offs,List.mem_map]at ho;obtain⟨o',ho',rfl⟩:=ho;exact ih h o' ho'
 | _=>intro o ho;simp[offs]at ho
theorem apm (t:Tm):(smds t).length<=t.size:=by
 induction t with
 | sum p q ih ih2=>simp only[smds,lla,Tm.size];omega
 | _=>simp[smds,Tm.size]
theorem akD (t:Tm):(offT t).length<=t.size:=by
 cases t with
 | rep p=>simp[offT,Tm.size]
 | _=>exact apm _
theorem akE {r:Tm}(h:NfForm r):∀T∈r.thrs,T.size<=r.size:=by
 intro T hT;rw[<-(adU h).2.1]at hT;exact aa8 r T hT
theorem ar_ (t:Tm):t.fro.1.length<=t.size:=by
 induction t with
 | own x p ih=>show (x::p.fro.1).length<=_;simp only[List.length_cons,Tm.size];omega
 | _=>simp[Tm.fro]
theorem akF (s X:ByteArray)(b:Bool)(n1:Zr 74 #[.string s,.int .u8 33] (.tuple #[.string X,.bool b]))(w:World):Calls prog 44 #[.string s] w fun e w'=>e=.returned (.tuple #[.string X,.bool b])/\Zb w w':=by
 have G1:=qz n1;clear n1
 go_enter func44,ntmps44
 go_wp2_with fail;refine(G1.out _).mono ?_;rintro e w1 ⟨rfl,b1⟩;go_wp2_with fail;go_ret2;exact⟨rfl,b1⟩
theorem akG (s X:ByteArray)(b:Bool)(n1:Zr 75 #[.string s,.func (.func 76) #[] #[]] (.tuple #[.string X,.bool b]))(w:World):Calls prog 45 #[.string s] w fun e w'=>e=.returned (.tuple #[.string X,.bool b])/\Zb w w':=by
 have G1:=qz n1;clear n1
 go_enter func45,ntmps45
 go_wp2_with fail;refine(G1.out _).mono ?_;rintro e w1 ⟨rfl,b1⟩;go_wp2_with fail;go_ret2;exact⟨rfl,b1⟩
theorem ajr:∀args w,(callFunc 76 args).run prog w=.ok (.enter 76 args) w:=fun args w=>by kernel_rfl
theorem ajs (s:ByteArray)(hs:s.size<=9223372036854775807):∃(X:ByteArray) (b:Bool),(∀w,Calls prog 44 #[.string s] w (alP X b w))/\(∀w,Calls prog 45 #[.string s] w (alP X b w)):=by
 have h1:=afD s hs;have h2:=acO s hs
 cases e:stO s with
 | none=>
  rw[e]at h1 h2;exact⟨_,_,akF s _ _ (awf s 33 h1),akG s _ _ (awh s _ h2)⟩
 | some r=>
  rw[e]at h1 h2;obtain⟨fm,hok,hl,hz,hq⟩:=aku e;have hE:=ag_ r hok;obtain⟨f1,f2,f3⟩:=adU fm;have tk:=acJ fm hok;have tE:=acJ fm hE;have tl:=aiS r;have ts:=akE fm;have tq:=aeP fm hq
  have hg:alB=alB\/alB=alC:=by first|exact .inl rfl|exact .inr rfl
  have hfr:(B r.fro.1).size<=1000:=by
   have h5:=ar_ r;have:(B r.fro.1).size=r.fro.1.length:=by show r.fro.1.toArray.size=_;simp
   omega
  have S1:=ar7 s (S r) (B r.fro.1) (S r.fro.2) r.fro.1 rfl hfr r.thrs (by omega) 33 h1 (fun w=>ab_ r hE (by omega) (by omega) w) (fun w=>acI r hE (by omega) (by omega) w)
   (fun T hT=>⟨by have:=aeS T;have:=ts T hT;omega,apl (tk.2 T hT),fun w=>(ao2 T (tE.2 T hT) (by have:=tl.2 T hT;omega) (by have:=ts T hT;omega) (tq T hT) w).mono fun _ _ h=>h.q⟩) (by decide)
  have hgf:∀(q:Tm) (a:UInt8),alB q=some a->a∈q.free:=fun q a e=>by
   cases q<;>first|(cases e)|skip
   first|(rw[mf_snd];exact .inl rfl)|(rw[mf_rcv];exact .inl rfl)
  have hlv:∀w,Calls prog 54 #[.iface (aaB r) (pay r)] w (agu r.fro.1 (r.thrs.map enc) w):=fun w=>by
   have:=ab8 r (by omega) w;rw[f1,f2]at this;exact this
  have I1:=ar8 s 76 ajr alB aiO (aaB r) (pay r) r.fro.1 r.thrs (by omega) r.free (fun c hc=>lets_free r hok c hc) (srt_free r) h2 hlv
   (fun T hT=>⟨by have:=akD T;have:=ts T hT;omega,fun q hq' a e=>(okL_names (tk.2 T hT)).1 a (afp hq' a (hgf q a e)),by have:=ts T hT;omega⟩) (abv r hok)
  rw[<-aiu fm hq hok 33 alB (by first|exact .inl ⟨rfl,rfl⟩|exact .inr ⟨rfl,rfl⟩)]at I1;exact⟨_,_,akF s _ _ S1,akG s _ _ I1⟩
theorem afI (s X:ByteArray)(b:Bool)(n1:Zr 74 #[.string s,.int .u8 63] (.tuple #[.string X,.bool b]))(w:World):Calls prog 46 #[.string s] w fun e w'=>e=.returned (.tuple #[.string X,.bool b])/\Zb w w':=by
 have G1:=qz n1;clear n1
 go_enter func46,ntmps46
 go_wp2_with fail;refine(G1.out _).mono ?_;rintro e w1 ⟨rfl,b1⟩;go_wp2_with fail;go_ret2;exact⟨rfl,b1⟩
theorem afJ (s X:ByteArray)(b:Bool)(n1:Zr 75 #[.string s,.func (.func 77) #[] #[]] (.tuple #[.string X,.bool b]))(w:World):Calls prog 47 #[.string s] w fun e w'=>e=.returned (.tuple #[.string X,.bool b])/\Zb w w':=by
 have G1:=qz n1;clear n1
 go_enter func47,ntmps47
 go_wp2_with fail;refine(G1.out _).mono ?_;rintro e w1 ⟨rfl,b1⟩;go_wp2_with fail;go_ret2;exact⟨rfl,b1⟩
theorem afK:∀args w,(callFunc 77 args).run prog w=.ok (.enter 77 args) w:=fun args w=>by kernel_rfl
theorem af2 (s:ByteArray)(hs:s.size<=9223372036854775807):∃(X:ByteArray) (b:Bool),(∀w,Calls prog 46 #[.string s] w (alP X b w))/\(∀w,Calls prog 47 #[.string s] w (alP X b w)):=by
 have h1:=afD s hs;have h2:=acO s hs
 cases e:stO s with
 | none=>
  rw[e]at h1 h2;exact⟨_,_,afI s _ _ (awf s 63 h1),afJ s _ _ (awh s _ h2)⟩
 | some r=>
  rw[e]at h1 h2;obtain⟨fm,hok,hl,hz,hq⟩:=aku e;have hE:=ag_ r hok;obtain⟨f1,f2,f3⟩:=adU fm;have tk:=acJ fm hok;have tE:=acJ fm hE;have tl:=aiS r;have ts:=akE fm;have tq:=aeP fm hq
  have hg:alC=alB\/alC=alC:=by first|exact .inl rfl|exact .inr rfl
  have hfr:(B r.fro.1).size<=1000:=by
   have h5:=ar_ r;have:(B r.fro.1).size=r.fro.1.length:=by show r.fro.1.toArray.size=_;simp
   omega
  have S1:=ar7 s (S r) (B r.fro.1) (S r.fro.2) r.fro.1 rfl hfr r.thrs (by omega) 63 h1 (fun w=>ab_ r hE (by omega) (by omega) w) (fun w=>acI r hE (by omega) (by omega) w)
   (fun T hT=>⟨by have:=aeS T;have:=ts T hT;omega,apl (tk.2 T hT),fun w=>(ao2 T (tE.2 T hT) (by have:=tl.2 T hT;omega) (by have:=ts T hT;omega) (tq T hT) w).mono fun _ _ h=>h.q⟩) (by decide)
  have hgf:∀(q:Tm) (a:UInt8),alC q=some a->a∈q.free:=fun q a e=>by
   cases q<;>first|(cases e)|skip
   first|(rw[mf_snd];exact .inl rfl)|(rw[mf_rcv];exact .inl rfl)
  have hlv:∀w,Calls prog 54 #[.iface (aaB r) (pay r)] w (agu r.fro.1 (r.thrs.map enc) w):=fun w=>by
   have:=ab8 r (by omega) w;rw[f1,f2]at this;exact this
  have I1:=ar8 s 77 afK alC aeI (aaB r) (pay r) r.fro.1 r.thrs (by omega) r.free (fun c hc=>lets_free r hok c hc) (srt_free r) h2 hlv
   (fun T hT=>⟨by have:=akD T;have:=ts T hT;omega,fun q hq' a e=>(okL_names (tk.2 T hT)).1 a (afp hq' a (hgf q a e)),by have:=ts T hT;omega⟩) (abv r hok)
  rw[<-aiu fm hq hok 63 alC (by first|exact .inl ⟨rfl,rfl⟩|exact .inr ⟨rfl,rfl⟩)]at I1;exact⟨_,_,afI s _ _ S1,afJ s _ _ I1⟩
end Go.Proofs.YtalegefnppbkdaaGreat.T1
