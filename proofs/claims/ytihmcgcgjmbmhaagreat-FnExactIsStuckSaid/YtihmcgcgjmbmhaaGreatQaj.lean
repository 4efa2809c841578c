/- Texts of the proof. No conditions. -/
import Derived.Test.YtihmcgcgjmbmhaaGreatQah
import Derived.Test.YtihmcgcgjmbmhaaGreatQai
import Derived.Sort.WalkB12
import Derived.Sort.WalkA
import Derived.Sort.OwnSorted
import Derived.Deep.LoopGhost
namespace Go.Proofs.YtihmcgcgjmbmhaaGreat.T1
open Go.Proofs.Tryz
set_option maxHeartbeats 4000000
set_option linter.unusedVariables false
theorem alY {α β:Type}(f:α->β)(n:Nat):∀l:List α,ordsL n (l.map f)=(ordsL n l).map (·.map f):=by
 induction n with
 | zero=>intro l;rfl
 | succ n ih=>
  intro l;unfold ordsL
  by_cases he:l=[]
  ·subst he;rfl
  ·have h1:l.isEmpty=false:=by simpa using he
   have h2:(l.map f).isEmpty=false:=by simpa using he
   rw[h1,h2];simp only[Bool.false_eq_true,if_false,List.length_map];rw[List.map_flatMap];congr 1
   funext i
   have e:(l.map f).eraseIdx i=(l.eraseIdx i).map f:=by
    rw[List.eraseIdx_eq_take_drop_succ,List.eraseIdx_eq_take_drop_succ,List.map_append,List.map_take,List.map_drop]
   rw[e,ih,List.map_map,List.map_map];congr 1
   funext r
   simp[List.map_drop,List.map_take]
theorem akq:∀(i:Nat) (o:List Nat) (ls:List UInt8) (T:Tm) (h1:i<o.length) (h2:i<ls.length),nmG (o.take (i+1)) (ls.take (i+1)) T=R (nmG (o.take i) (ls.take i) T) (gl o[i]) ls[i]
 | 0,a::o,l::ls,T,_,_=>by simp[nmG]
 | i+1,a::o,l::ls,T,h1,h2=>by
  have:=akq i o ls (R T (gl a) l) (by simpa using h1) (by simpa using h2);simp only[List.take_succ_cons,nmG,List.getElem_cons_succ]at this ⊢
  exact this
 | _,[],_,_,h,_=>by simp at h
 | _,_::_,[],_,_,h=>by simp at h
theorem aiD (l:List Tm):wtL (srtT l)=wtL l:=aty (List.mergeSort_perm l _)
theorem ajv (f:Tm->List UInt8->Tm × Bool)(hf:∀p tk,(f p tk).1.pr.length<=p.pr.length)(T:Tm)(tk:List UInt8):(thS f T tk).1.pr.length<=T.pr.length:=by
 have hdef:∀T:Tm,(joinR .sum (srtT ((Tm.sums T.size T).map fun q=>(f q tk).1))).pr.length<=T.pr.length:=fun T=>by
  by_cases he:Tm.sums T.size T=[]
  ·have e0:joinR .sum (srtT (([]:List Tm).map fun q=>(f q tk).1))=.nil:=by simp[srtT,joinR]
   rw[he,e0];exact pr_pos T
  ·have h1:=afJ (srtT ((Tm.sums T.size T).map fun q=>(f q tk).1)) (fun e=>he (by
    have:=congrArg List.length e;unfold srtT at this
    rw[List.length_mergeSort,List.length_map]at this
    exact List.length_eq_zero_iff.1 this))
   rw[aiD]at h1;have h2:=aot (Tm.sums T.size T) (fun q=>(f q tk).1) id (fun q _=>hf q tk);rw[List.map_id]at h2;have h3:=(aeC T.size T).1;omega
 cases T with
 | snd a b p=>have:=hf p tk;simp only[thS,Tm.pr,List.length_cons];omega
 | tau p=>have:=hf p tk;simp only[thS,Tm.pr,List.length_cons];omega
 | rep p=>have:=hf p tk;simp only[thS,Tm.pr,List.length_cons];omega
 | rcv a x p=>
  have:=hf (R p x (fresh tk)) (addL tk (fresh tk));rw[acV]at this
  simp only[thS,Tm.pr,List.length_cons];omega
 | mat a b p=>
  have:=hf p tk;simp only[thS]
  split<;>simp only[Tm.pr,List.length_cons]<;>omega
 | nil=>exact hdef .nil
 | sum p q=>exact hdef (.sum p q)
 | par p q=>exact hdef (.par p q)
 | own x p=>exact hdef (.own x p)
theorem ahz (n:Nat):∀(once:Bool) (t:Tm) (tk:List UInt8),(whl n once t tk).1.pr.length<=t.pr.length:=by
 induction n with
 | zero=>intro once t tk;exact pr_pos t
 | succ n ih=>
  intro once t tk;unfold whl
  split
  ·exact pr_pos t
  ·rename_i hne
   split
   ·exact pr_pos t
   ·rename_i h5
    have hg:=(aos t.size 0 t).1
    generalize (gath t.size 0 t).2=m at *
    generalize (gath t.size 0 t).1=TT at *
    have hTT:TT≠[]:=by simpa using hne
    simp only;rw[afa,abE]
    have hone:(if once=true then (ords m).take 1 else ords m)≠[]:=by
     have:=acW m (by omega)
     split
     ·intro e;rw[List.take_eq_nil_iff]at e;simp at e;exact this e
     ·exact this
    have hm:=acu ((if once=true then (ords m).take 1 else ords m).map fun o=>joinR .par (srtT (TT.map fun T=>(thS (whl n once) (nmG o (nexts tk m) T) (allT tk m)).1))) (by simpa using hone);obtain⟨o,_,e⟩:=List.mem_map.1 hm;rw[<-e]
    have h1:=adT (srtT (TT.map fun T=>(thS (whl n once) (nmG o (nexts tk m) T) (allT tk m)).1)) (fun e=>hTT (by
     have:=congrArg List.length e;unfold srtT at this
     rw[List.length_mergeSort,List.length_map]at this
     exact List.length_eq_zero_iff.1 this))
    rw[aiD]at h1
    have h2:=aot TT (fun T=>(thS (whl n once) (nmG o (nexts tk m) T) (allT tk m)).1) id (fun T _=>by
     have:=ajv (whl n once) (ih once) (nmG o (nexts tk m) T) (allT tk m);rw[(ahy _ _ _).1]at this
     exact this)
    rw[List.map_id]at h2;omega
theorem afM:∀(k:Nat) (tk:List UInt8),∀l∈nexts tk k,nmE l=true:=by
 intro k;induction k with
 | zero=>intro tk l h;simp[nexts]at h
 | succ k ih=>
  intro tk l h;simp only[nexts,List.mem_cons]at h;rcases h with rfl|h
  ·exact acC tk
  ·exact ih _ l h
set_option linter.unusedSimpArgs false
theorem aq6 {α:Type}(lt:α->α->Bool):∀(cs:List α) (b:α),minB lt cs b∈b::cs:=by
 intro cs;induction cs with
 | nil=>intro b;simp[minB]
 | cons c cs ih=>
  intro b;simp only[minB];have:=ih (if lt c b then c else b)
  split at this<;>rename_i h
  ·simp only[h,if_true];exact List.mem_cons_of_mem _ this
  ·simp only[h,if_false,Bool.false_eq_true]
   rcases List.mem_cons.1 this with e|e
   ·rw[e];simp
   ·exact List.mem_cons_of_mem _ (List.mem_cons_of_mem _ e)
theorem abO:∀l:List (List Tm),l≠[]->bestL l∈l
 | [],h=>absurd rfl h
 | c::cs,_=>aq6 _ cs c
theorem ajw (s:Tm):3 * (lvl s).1.length+1<=s.pr.length/\3 * (lvl s).1.length+wtL (lvl s).2<=s.pr.length+3:=by
 induction s with
 | own x p ih=>
  have e:(Tm.own x p).pr.length=p.pr.length+3:=by simp[Tm.pr]
  rw[e];simp only[lvl,List.length_cons];omega
 | par p q ih ih2=>
  have e:(Tm.par p q).pr.length=p.pr.length+q.pr.length+3:=by simp[Tm.pr];omega
  rw[e];simp only[lvl,lla,ahx];omega
 | nil=>simp[lvl,Tm.pr,wtL]
 | _=>simp[lvl,Tm.pr,wtL]
theorem akr (s:Tm):wtL (smds s)<=s.pr.length+3:=by
 induction s with
 | sum p q ih ih2=>
  have e:(Tm.sum p q).pr.length=p.pr.length+q.pr.length+3:=by simp[Tm.pr];omega
  rw[e];simp only[smds,ahx];omega
 | _=>simp[smds,wtL]
theorem ahA (s:Tm):smds s≠[]:=by
 induction s with
 | sum p q ih ih2=>simp only[smds];intro e;exact ih (List.append_eq_nil_iff.1 e).1
 | _=>simp[smds]
theorem ahB {l:List Tm}(h:srtT l=[]):l=[]:=by
 have:=congrArg List.length h;unfold srtT at this
 rw[List.length_mergeSort]at this
 exact List.length_eq_zero_iff.1 this
theorem adb (l:List Tm):(srtT l).length=l.length:=by unfold srtT;rw[List.length_mergeSort]
theorem aoy (f:(UInt8->UInt8)->List UInt8->Tm->Tm)(hf:∀L left s,(f L left s).pr.length<=s.pr.length)(L:UInt8->UInt8)(left:List UInt8)(T:Tm)(hn:T≠.nil):(thI f L left T).pr.length<=T.pr.length:=by
 have hs:∀T,(joinR .sum (srtT ((smds T).map (f L left)))).pr.length<=T.pr.length:=by
  intro T;have hne:srtT ((smds T).map (f L left))≠[]:=fun e=>ahA T (List.map_eq_nil_iff.1 (ahB e));have h1:=afJ _ hne;rw[aiD]at h1;have h2:=aot (smds T) (f L left) id fun a _=>hf L left a;rw[List.map_id]at h2;have h3:=akr T;omega
 cases T with
 | nil=>exact absurd rfl hn
 | snd a b p=>have:=hf L left p;simp only[thI,Tm.pr,lla,List.length_cons]at *;omega
 | tau p=>have:=hf L left p;simp only[thI,Tm.pr,lla,List.length_cons]at *;omega
 | rep p=>have:=hf L left p;simp only[thI,Tm.pr,lla,List.length_cons]at *;omega
 | rcv a x p=>have:=hf (upd L x (left.headD 0)) left.tail p;simp only[thI,Tm.pr,lla,List.length_cons]at *;omega
 | mat a b p=>have:=hf L left p;simp only[thI];split<;>simp only[Tm.pr,lla,List.length_cons]at *<;>omega
 | sum p q=>exact hs _
 | par p q=>exact hs _
 | own x p=>exact hs _
theorem abL (n:Nat):∀(L:UInt8->UInt8) (left:List UInt8) (s:Tm),(levI n L left s).pr.length<=s.pr.length:=by
 induction n with
 | zero=>intro L left s;have:=(ajw s).1;simp only[levI,Tm.pr,List.length_cons,List.length_nil];omega
 | succ n ih=>
  intro L left s;obtain⟨h1,h2⟩:=ajw s;unfold levI;rw[afa,List.length_take];have hm:=abO ((visG ltU 200 (lvl s).1).map fun o=>srtT ((lvl s).2.map (thI (levI n) (updL L o left) (left.drop (lvl s).1.length)))) (fun e=>acK ltU 199 _ (List.map_eq_nil_iff.1 e));obtain⟨o,_,e⟩:=List.mem_map.1 hm;rw[<-e]
  by_cases hU:(lvl s).2=[]
  ·rw[hU]
   have:(joinR .par (srtT (List.map (thI (levI n) (updL L o left) (left.drop (lvl s).1.length)) []))).pr.length=1:=by
    have e0:srtT ([]:List Tm)=[]:=List.length_eq_zero_iff.1 (adb []);rw[List.map_nil,e0];rfl
   rw[this];omega
  ·have hne:srtT ((lvl s).2.map (thI (levI n) (updL L o left) (left.drop (lvl s).1.length)))≠[]:=fun e=>hU (List.map_eq_nil_iff.1 (ahB e));have h3:=adT _ hne;rw[aiD]at h3;have h4:=aot (lvl s).2 (thI (levI n) (updL L o left) (left.drop (lvl s).1.length)) id fun a ha=>aoy _ (ih) _ _ a (aba s a ha).2.2;rw[List.map_id]at h4;omega
def candI (n:Nat)(L:UInt8->UInt8)(left:List UInt8)(s:Tm)(o:List UInt8):List Tm:=srtT ((lvl s).2.map (thI (levI n) (updL L o left) (left.drop (lvl s).1.length)))
theorem abF (n:Nat)(L:UInt8->UInt8)(left:List UInt8)(s:Tm):levI (n+1) L left s=wrapO (left.take (lvl s).1.length) (joinR .par (bestL ((visG ltU 200 (lvl s).1).map (candI n L left s)))):=rfl
theorem aoz (s:Tm):∀T∈(lvl s).2,T.pr.length<=s.pr.length:=fun T hT=>by
 have h1:=(ajw s).2;have h2:=(adS hT).1;omega
theorem aq7 (s:Tm):∀T∈smds s,T.pr.length<=s.pr.length:=fun T hT=>by
 have h1:=akr s;have h2:=(adS hT).1;omega
theorem afN (n:Nat)(L:UInt8->UInt8)(left:List UInt8)(s:Tm)(o:List UInt8):(candI n L left s o).length=(lvl s).2.length/\∀t∈candI n L left s o,t.pr.length<=s.pr.length:=by
 refine⟨by unfold candI;rw[adb,List.length_map],fun t ht=>?_⟩;obtain⟨T,hT,rfl⟩:=List.mem_map.1 ((aaG _ _).1 ht);have h1:=aoy _ (abL n) (updL L o left) (left.drop (lvl s).1.length) T (aba s T hT).2.2;have h2:=aoz s T hT;omega
def Thd (T:Tm):Prop:=(∀p q,T≠.par p q)/\(∀x p,T≠.own x p)/\T≠.nil
def Tm.fro:Tm->List UInt8 × Tm
 | .own x p=>(x::p.fro.1,p.fro.2)
 | t=>([],t)
def Tm.pars:Tm->List Tm
 | .par p q=>p::q.pars
 | t=>[t]
def Tm.sumR:Tm->List Tm
 | .sum p q=>p::q.sumR
 | t=>[t]
def Tm.thrs (t:Tm):List Tm:=match t.fro.2 with
 | .nil=>[]
 | u=>u.pars
theorem aoA {T:Tm}(h:Thd T):lvl T=([],[T]):=by
 cases T with
 | nil=>exact absurd rfl h.2.2
 | par p q=>exact absurd rfl (h.1 p q)
 | own x p=>exact absurd rfl (h.2.1 x p)
 | _=>rfl
theorem atC {T:Tm}(h:Thd T):T.fro=([],T):=by
 cases T with
 | own x p=>exact absurd rfl (h.2.1 x p)
 | _=>rfl
theorem aq8 {T:Tm}(h:Thd T):T.pars=[T]:=by
 cases T with
 | par p q=>exact absurd rfl (h.1 p q)
 | _=>rfl
theorem aks:∀l:List Tm,(∀T∈l,Thd T)->lvl (joinR .par l)=([],l)
 | [],_=>rfl
 | [a],h=>aoA (h a (by simp))
 | a::b::l,h=>by
  have h1:=aoA (h a (by simp));have h2:=aks (b::l) fun T hT=>h T (by simp[hT]);show ((lvl a).1++(lvl (joinR .par (b::l))).1,(lvl a).2++(lvl (joinR .par (b::l))).2)=_;rw[h1,h2];rfl
theorem akt (t:Tm):∀ls:List UInt8,lvl (wrapO ls t)=(ls++(lvl t).1,(lvl t).2)
 | []=>rfl
 | a::ls=>by
  have:=akt t ls;show (a::(lvl (wrapO ls t)).1,(lvl (wrapO ls t)).2)=_;rw[this];rfl
theorem adU (l:List Tm)(h:∀T∈l,Thd T):(joinR .par l).fro=([],joinR .par l):=by
 cases l with
 | nil=>rfl
 | cons a l=>
  cases l with
  | nil=>exact atC (h a (by simp))
  | cons b l=>rfl
theorem adc (t:Tm):∀ls:List UInt8,(wrapO ls t).fro=(ls++t.fro.1,t.fro.2)
 | []=>rfl
 | a::ls=>by
  have:=adc t ls;show (a::(wrapO ls t).fro.1,(wrapO ls t).fro.2)=_;rw[this];rfl
theorem aiE:∀l:List Tm,l≠[]->(∀T∈l,Thd T)->(joinR .par l).pars=l
 | [],h,_=>absurd rfl h
 | [a],_,h=>aq8 (h a (by simp))
 | a::b::l,_,h=>by
  have:=aiE (b::l) (by simp) fun T hT=>h T (by simp[hT]);show a::(joinR .par (b::l)).pars=_;rw[this]
theorem ajx (l:List Tm)(hl:l≠[])(h:∀T∈l,Thd T):joinR .par l≠.nil:=by
 cases l with
 | nil=>exact absurd rfl hl
 | cons a l=>
  cases l with
  | nil=>exact(h a (by simp)).2.2
  | cons b l=>intro e;cases e
theorem afO (ls:List UInt8)(l:List Tm)(h:∀T∈l,Thd T):(wrapO ls (joinR .par l)).thrs=l:=by
 unfold Tm.thrs;rw[adc,adU l h]
 by_cases hl:l=[]
 ·subst hl;rfl
 ·have h1:=ajx l hl h;have h2:=aiE l hl h
  generalize joinR .par l=u at *
  cases u with
  | nil=>exact absurd rfl h1
  | _=>exact h2
def NotS (t:Tm):Prop:=∀p q,t≠.sum p q
theorem afP {t:Tm}(h:NotS t):smds t=[t]:=by
 cases t with
 | sum p q=>exact absurd rfl (h p q)
 | _=>rfl
theorem aiF {t:Tm}(h:NotS t):t.sumR=[t]:=by
 cases t with
 | sum p q=>exact absurd rfl (h p q)
 | _=>rfl
theorem aiG:∀l:List Tm,l≠[]->(∀t∈l,NotS t)->smds (joinR .sum l)=l/\(joinR .sum l).sumR=l
 | [],h,_=>absurd rfl h
 | [a],_,h=>⟨afP (h a (by simp)),aiF (h a (by simp))⟩
 | a::b::l,_,h=>by
  obtain⟨h1,h2⟩:=aiG (b::l) (by simp) fun T hT=>h T (by simp[hT]);constructor
  ·show smds a++smds (joinR .sum (b::l))=_;rw[afP (h a (by simp)),h1];rfl
  ·show a::(joinR .sum (b::l)).sumR=_;rw[h2]
def avy (T:Tm):Prop:=smds T=T.sumR
theorem aoB (t:Tm):∀q∈smds t,NotS q:=by
 induction t with
 | sum p q ih ih2=>intro r hr;simp only[smds,lma]at hr;exact hr.elim (ih r) (ih2 r)
 | _=>intro r hr;simp only[smds,List.mem_singleton]at hr;subst hr;intro a b e;cases e
def Neat:Tm->Prop
 | .nil=>True
 | .snd _ _ p=>Neat p
 | .rcv _ _ p=>Neat p
 | .tau p=>Neat p
 | .sum p q=>Neat p/\Neat q
 | .par p q=>(p≠.nil/\q≠.nil)/\Neat p/\Neat q
 | .own _ p=>p≠.nil/\Neat p
 | .mat _ _ p=>Neat p
 | .rep p=>Neat p
theorem ade (t:Tm)(h:Neat t):Clean t:=by
 induction t with
 | nil=>trivial
 | snd a b p ih=>exact ih h
 | rcv a x p ih=>exact ih h
 | tau p ih=>exact ih h
 | sum p q ih ih2=>exact⟨ih h.1,ih2 h.2⟩
 | par p q ih ih2=>exact⟨h.1.1,ih h.2.1,ih2 h.2.2⟩
 | own x p ih=>exact⟨h.1,ih h.2⟩
 | mat a b p ih=>exact ih h
 | rep p ih=>exact ih h
theorem afb (t:Tm):Neat t.sim:=by
 induction t with
 | nil=>trivial
 | snd a b p ih=>exact ih
 | rcv a x p ih=>exact ih
 | tau p ih=>exact ih
 | sum p q ih ih2=>
  unfold Tm.sim
  split
  ·exact ih2
  ·split
   ·exact ih
   ·exact⟨ih,ih2⟩
 | par p q ih ih2=>
  unfold Tm.sim
  split
  ·exact ih2
  ·split
   ·exact ih
   ·rename_i h1 h2;exact⟨⟨h1,h2⟩,ih,ih2⟩
 | own x p ih=>
  unfold Tm.sim
  split
  ·rename_i h;exact⟨fun e=>by rw[e]at h;simp[Tm.free]at h,ih⟩
  ·exact ih
 | mat a b p ih=>unfold Tm.sim;split<;>exact ih
 | rep p ih=>unfold Tm.sim;split<;>exact ih
theorem afc (s:Tm):∀(f:UInt8->UInt8) (ns:List UInt8),Neat s->Neat (can s f ns):=by
 induction s with
 | nil=>intro f ns h;trivial
 | snd a b p ih=>intro f ns h;exact ih _ _ h
 | rcv a x p ih=>intro f ns h;exact ih _ _ h
 | tau p ih=>intro f ns h;exact ih _ _ h
 | mat a b p ih=>intro f ns h;exact ih _ _ h
 | rep p ih=>intro f ns h;exact ih _ _ h
 | sum p q ih ih2=>intro f ns h;exact⟨ih _ _ h.1,ih2 _ _ h.2⟩
 | par p q ih ih2=>intro f ns h;exact⟨⟨fun e=>h.1.1 (afG e),fun e=>h.1.2 (afG e)⟩,ih _ _ h.2.1,ih2 _ _ h.2.2⟩
 | own x p ih=>intro f ns h;exact⟨fun e=>h.1 (afG e),ih _ _ h.2⟩
theorem afd (s:Tm)(h:Neat s):∀T∈(lvl s).2,Neat T:=by
 induction s with
 | nil=>intro T hT;simp[lvl]at hT
 | own x p ih=>exact ih h.2
 | par p q ih ih2=>
  intro T hT;simp only[lvl,lma]at hT;exact hT.elim (ih h.2.1 T) (ih2 h.2.2 T)
 | _=>intro T hT;simp only[lvl,List.mem_singleton]at hT;rw[hT];exact h
theorem aiH (s:Tm)(h:Neat s):∀q∈smds s,Neat q:=by
 induction s with
 | sum p q ih ih2=>
  intro T hT;simp only[smds,lma]at hT;exact hT.elim (ih h.1 T) (ih2 h.2 T)
 | _=>intro T hT;simp only[smds,List.mem_singleton]at hT;rw[hT];exact h
theorem atD (x:Tm):srtT [x]=[x]:=by unfold srtT;exact List.mergeSort_singleton _
theorem aku (c:Tm->Tm->Tm)(l:List Tm)(h:2<=l.length):∃a b,joinR c l=c a b:=by
 match l with
 | []=>simp at h
 | [a]=>simp at h
 | a::b::l=>exact⟨_,_,rfl⟩
theorem adf (n:Nat)(L:UInt8->UInt8)(left:List UInt8)(s x:Tm)(h0:(lvl s).1=[])(h1:(lvl s).2=[s])(hx:∀o,thI (levI n) (updL L o left) (left.drop (lvl s).1.length) s=x->True) : ∃o,levI (n+1) L left s=thI (levI n) (updL L o left) (left.drop (lvl s).1.length) s:=by
 rw[abF];have hne:(visG ltU 200 (lvl s).1).map (candI n L left s)≠[]:=fun e=>acK ltU 199 _ (List.map_eq_nil_iff.1 e);obtain⟨o,_,e⟩:=List.mem_map.1 (abO _ hne);refine⟨o,?_⟩;rw[<-e];unfold candI;rw[h1,h0];simp only[List.length_nil,List.take_zero,List.map_cons,List.map_nil];rw[atD];rfl
theorem aoC (n:Nat)(L:UInt8->UInt8)(left:List UInt8)(s:Tm)(hc:Neat s)(hf:fl s left.length=true)(hs:NotS s)(hn:s.size<=n):NotS (levI n L left s):=by
 cases n with
 | zero=>have:=aao s;omega
 | succ n=>
  obtain⟨f1,f2,f3⟩:=acg hf
  have hfr:(lvl s).1≠[]->NotS (levI (n+1) L left s):=by
   intro h;rw[abF]
   cases hh:left.take (lvl s).1.length with
   | nil=>
    have:=congrArg List.length hh;rw[List.length_take,List.length_nil]at this
    have h0:0<(lvl s).1.length:=List.length_pos_iff.2 h;omega
   | cons a l=>intro p q e;cases e
  cases s with
  | nil=>rw[akn];intro p q e;cases e
  | sum p q=>exact absurd rfl (hs p q)
  | own x p=>exact hfr (by simp[lvl])
  | snd a b p=>obtain⟨o,e⟩:=adf n L left (.snd a b p) .nil rfl rfl (fun _ _=>trivial);rw[e];intro p q e;cases e
  | rcv a x p=>obtain⟨o,e⟩:=adf n L left (.rcv a x p) .nil rfl rfl (fun _ _=>trivial);rw[e];intro p q e;cases e
  | tau p=>obtain⟨o,e⟩:=adf n L left (.tau p) .nil rfl rfl (fun _ _=>trivial);rw[e];intro p q e;cases e
  | rep p=>obtain⟨o,e⟩:=adf n L left (.rep p) .nil rfl rfl (fun _ _=>trivial);rw[e];intro p q e;cases e
  | mat a b p=>
   obtain⟨o,e⟩:=adf n L left (.mat a b p) .nil rfl rfl (fun _ _=>trivial);rw[e];intro p q e;simp only[thI]at e
   split at e<;>cases e
  | par p q=>
   by_cases h0:(lvl (.par p q)).1=[]
   ·have h1:1<=(lvl p).2.length:=List.length_pos_iff.2 (acY p (ade p hc.2.1) hc.1.1);have h2:1<=(lvl q).2.length:=List.length_pos_iff.2 (acY q (ade q hc.2.2) hc.1.2);rw[abF];have hne:(visG ltU 200 (lvl (.par p q)).1).map (candI n L left (.par p q))≠[]:=fun e=>acK ltU 199 _ (List.map_eq_nil_iff.1 e);obtain⟨o,_,e⟩:=List.mem_map.1 (abO _ hne);rw[<-e,h0];obtain⟨a,b,e2⟩:=aku .par (candI n L left (.par p q) o) (by rw[(afN n L left (.par p q) o).1];simp only[lvl,lla];omega);rw[e2];intro u v e3;cases e3
   ·exact hfr h0
theorem aiI (p q:Tm):2<=(smds (.sum p q)).length:=by
 have h1:1<=(smds p).length:=List.length_pos_iff.2 (ahA p);have h2:1<=(smds q).length:=List.length_pos_iff.2 (ahA q);simp only[smds,lla];omega
theorem ahC (n:Nat)(L:UInt8->UInt8)(left:List UInt8)(T:Tm)(hk:Thd T)(hc:Neat T)(htf:tf T left.length=true)(hn:T.size<=n+1):Thd (thI (levI n) L left T)/\avy (thI (levI n) L left T):=by
 have hsimple:∀t:Tm,Thd t->NotS t->Thd t/\avy t:=fun t h1 h2=>⟨h1,by unfold avy;rw[afP h2,aiF h2]⟩
 cases T with
 | nil=>exact absurd rfl hk.2.2
 | par p q=>exact absurd rfl (hk.1 p q)
 | own x p=>exact absurd rfl (hk.2.1 x p)
 | snd a b p=>exact hsimple _ ⟨fun _ _ e=>(by cases e),fun _ _ e=>(by cases e),fun e=>(by cases e)⟩ (fun _ _ e=>(by cases e))
 | tau p=>exact hsimple _ ⟨fun _ _ e=>(by cases e),fun _ _ e=>(by cases e),fun e=>(by cases e)⟩ (fun _ _ e=>(by cases e))
 | rep p=>exact hsimple _ ⟨fun _ _ e=>(by cases e),fun _ _ e=>(by cases e),fun e=>(by cases e)⟩ (fun _ _ e=>(by cases e))
 | rcv a x p=>exact hsimple _ ⟨fun _ _ e=>(by cases e),fun _ _ e=>(by cases e),fun e=>(by cases e)⟩ (fun _ _ e=>(by cases e))
 | mat a b p=>
  simp only[thI]
  split
  ·exact hsimple _ ⟨fun _ _ e=>(by cases e),fun _ _ e=>(by cases e),fun e=>(by cases e)⟩ (fun _ _ e=>(by cases e))
  ·exact hsimple _ ⟨fun _ _ e=>(by cases e),fun _ _ e=>(by cases e),fun e=>(by cases e)⟩ (fun _ _ e=>(by cases e))
 | sum p q=>
  have hsm:=(acX (.sum p q) left.length).1 (by rw[afH];exact htf);have e1:thI (levI n) L left (.sum p q)=joinR .sum (srtT ((smds (.sum p q)).map (levI n L left))):=rfl;rw[e1];have hlen:2<=(srtT ((smds (.sum p q)).map (levI n L left))).length:=by rw[adb,List.length_map];exact aiI p q
  have hnots:∀t∈srtT ((smds (.sum p q)).map (levI n L left)),NotS t:=fun t ht=>by
   obtain⟨r,hr,rfl⟩:=List.mem_map.1 ((aaG _ _).1 ht);refine aoC n L left r (aiH _ hc r hr) (hsm r hr) (aoB _ r hr) ?_
   have:r.size<(Tm.sum p q).size:=by
    simp only[smds,lma]at hr;simp only[Tm.size];rcases hr with hr|hr
    ·have:=aaL p r hr;omega
    ·have:=aaL q r hr;omega
   omega
  obtain⟨h1,h2⟩:=aiG _ (fun e=>by rw[e]at hlen;simp at hlen) hnots;refine⟨?_,by unfold avy;rw[h1,h2]⟩;obtain⟨a,b,e2⟩:=aku .sum _ hlen;rw[e2];exact⟨fun _ _ e=>(by cases e),fun _ _ e=>(by cases e),fun e=>(by cases e)⟩
def NfForm (r:Tm):Prop:=∃ls l,r=wrapO ls (joinR .par l)/\∀T∈l,Thd T/\avy T
theorem aoD (n:Nat)(L:UInt8->UInt8)(left:List UInt8)(s:Tm)(hc:Neat s)(hf:fl s left.length=true)(hn:s.size<=n+1):NfForm (levI (n+1) L left s):=by
 obtain⟨f1,f2,f3⟩:=acg hf;rw[abF];have hne:(visG ltU 200 (lvl s).1).map (candI n L left s)≠[]:=fun e=>acK ltU 199 _ (List.map_eq_nil_iff.1 e);obtain⟨o,_,e⟩:=List.mem_map.1 (abO _ hne);refine⟨_,_,rfl,fun t ht=>?_⟩;rw[<-e]at ht;obtain⟨T,hT,rfl⟩:=List.mem_map.1 ((aaG _ _).1 ht);exact ahC n _ _ T (aba s T hT) (afd s hc T hT) (by rw[List.length_drop];exact f3 T hT) (by have:=aa_ s T hT;omega)
theorem afe {t r:Tm}(h:nfI t=some r):NfForm r:=by
 unfold nfI at h
 split at h
 ·cases h
 ·rename_i h1
  split at h
  ·cases h
   have hfl:fl (numb t) (othL t.usd).length=true:=by
    cases e:fl (numb t) (othL t.usd).length with
    | true=>rfl
    | false=>exact absurd (.inr e) h1
   obtain⟨m,hm⟩:∃m,t.size=m+1:=⟨t.size - 1,by have:=aao t;omega⟩;have hsz:(numb t).size<=t.size:=by unfold numb;rw[ach];exact abq t
   rw[hm]at hsz ⊢;exact aoD m id _ _ (afc _ _ _ (afb t)) hfl hsz
  ·cases h
theorem akv {r:Tm}(h:NfForm r):(lvl r).1=r.fro.1/\(lvl r).2=r.thrs/\∀T∈r.thrs,Thd T/\avy T:=by
 obtain⟨ls,l,rfl,hl⟩:=h;have h1:∀T∈l,Thd T:=fun T hT=>(hl T hT).1;rw[akt,aks l h1,adc,adU l h1,afO ls l h1];exact⟨rfl,rfl,hl⟩
def gp:Tm->Bool
 | .nil=>true
 | .snd _ _ _=>true
 | .rcv _ _ _=>true
 | .tau _=>true
 | .sum _ _=>true
 | _=>false
def rq:Tm->Bool
 | .rcv _ _ _=>true
 | _=>false
def Tm.smp:Tm->Bool
 | .nil=>true
 | .snd _ _ p=>p.smp
 | .rcv _ _ p=>p.smp
 | .tau p=>p.smp
 | .sum p q=>(gp p && p.smp) && (gp q && q.smp)
 | .par p q=>p.smp && q.smp
 | .own _ p=>p.smp
 | .mat _ _ p=>p.smp
 | .rep p=>rq p && p.smp
def gq:Tm->Bool
 | .snd _ _ _=>true
 | .rcv _ _ _=>true
 | .tau _=>true
 | .sum _ _=>true
 | _=>false
def Tm.smq:Tm->Bool
 | .nil=>true
 | .snd _ _ p=>p.smq
 | .rcv _ _ p=>p.smq
 | .tau p=>p.smq
 | .sum p q=>(gq p && p.smq) && (gq q && q.smq)
 | .par p q=>p.smq && q.smq
 | .own _ p=>p.smq
 | .mat _ _ p=>p.smq
 | .rep p=>rq p && p.smq
theorem smq_sum {p q:Tm}:(Tm.sum p q).smq=true↔(gq p=true/\p.smq=true)/\gq q=true/\q.smq=true:=by simp[Tm.smq]
theorem awu {t:Tm}(h:gq t=true):gp t=true:=by cases t<;>first|rfl|cases h
theorem atE (t:Tm)(h:t.smq=true):t.smp=true:=by
 induction t with
 | nil=>rfl
 | snd a b p ih=>exact ih h
 | rcv a x p ih=>exact ih h
 | tau p ih=>exact ih h
 | own x p ih=>exact ih h
 | mat a b p ih=>exact ih h
 | sum p q ih ih2=>obtain⟨⟨g1,s1⟩,g2,s2⟩:=smq_sum.1 h;simp only[Tm.smp,bae];exact⟨⟨awu g1,ih s1⟩,awu g2,ih2 s2⟩
 | par p q ih ih2=>simp only[Tm.smq,Tm.smp,bae]at h ⊢;exact⟨ih h.1,ih2 h.2⟩
 | rep p ih=>simp only[Tm.smq,Tm.smp,bae]at h ⊢;exact⟨h.1,ih h.2⟩
theorem gp_gq {t:Tm}(h:gp t=true)(hn:t≠.nil):gq t=true:=by cases t<;>first|exact absurd rfl hn|rfl|(cases h)
theorem atF {p q:Tm}:(Tm.sum p q).smp=true↔(gp p=true/\p.smp=true)/\gp q=true/\q.smp=true:=by simp[Tm.smp]
theorem atG (t:Tm)(h:t.smp=true):t.sim.smq=true/\(gp t=true->gp t.sim=true)/\(rq t=true->rq t.sim=true):=by
 induction t with
 | nil=>exact⟨rfl,id,id⟩
 | snd a b p ih=>exact⟨(ih h).1,fun _=>rfl,id⟩
 | rcv a x p ih=>exact⟨(ih h).1,fun _=>rfl,fun _=>rfl⟩
 | tau p ih=>exact⟨(ih h).1,fun _=>rfl,id⟩
 | sum p q ih ih2=>
  obtain⟨⟨g1,s1⟩,g2,s2⟩:=atF.1 h;unfold Tm.sim
  split
  ·exact⟨(ih2 s2).1,fun _=>(ih2 s2).2.1 g2,fun h=>by cases h⟩
  ·split
   ·exact⟨(ih s1).1,fun _=>(ih s1).2.1 g1,fun h=>by cases h⟩
   ·rename_i n1 n2;exact⟨smq_sum.2 ⟨⟨gp_gq ((ih s1).2.1 g1) n1,(ih s1).1⟩,gp_gq ((ih2 s2).2.1 g2) n2,(ih2 s2).1⟩,fun _=>rfl,fun h=>by cases h⟩
 | par p q ih ih2=>
  simp only[Tm.smp,bae]at h;refine⟨?_,(fun h=>by cases h),(fun h=>by cases h)⟩;unfold Tm.sim
  split
  ·exact(ih2 h.2).1
  ·split
   ·exact(ih h.1).1
   ·simp only[Tm.smq,bae];exact⟨(ih h.1).1,(ih2 h.2).1⟩
 | own x p ih=>
  refine⟨?_,(fun h=>by cases h),(fun h=>by cases h)⟩;unfold Tm.sim;split<;>exact(ih h).1
 | mat a b p ih=>
  refine⟨?_,(fun h=>by cases h),(fun h=>by cases h)⟩;unfold Tm.sim;split<;>exact(ih h).1
 | rep p ih=>
  simp only[Tm.smp,bae]at h;refine⟨?_,(fun h=>by cases h),(fun h=>by cases h)⟩;unfold Tm.sim;split
  ·exact(ih h.2).1
  ·simp only[Tm.smq,bae];exact⟨(ih h.2).2.2 h.1,(ih h.2).1⟩
theorem aoE (s:Tm)(f:UInt8->UInt8)(ns:List UInt8):gq (can s f ns)=gq s/\rq (can s f ns)=rq s:=by cases s<;>exact⟨rfl,rfl⟩
theorem atH (s:Tm):∀(f:UInt8->UInt8) (ns:List UInt8),(can s f ns).smq=s.smq:=by
 induction s with
 | nil=>intro f ns;rfl
 | snd a b p ih=>intro f ns;exact ih _ _
 | rcv a x p ih=>intro f ns;exact ih _ _
 | tau p ih=>intro f ns;exact ih _ _
 | sum p q ih ih2=>intro f ns;simp only[can,Tm.smq];rw[ih,ih2,(aoE p _ _).1,(aoE q _ _).1]
 | par p q ih ih2=>intro f ns;simp only[can,Tm.smq];rw[ih,ih2]
 | own x p ih=>intro f ns;exact ih _ _
 | mat a b p ih=>intro f ns;exact ih _ _
 | rep p ih=>intro f ns;simp only[can,Tm.smq];rw[ih,(aoE p _ _).2]
theorem akw (s:Tm)(h:s.smq=true)(hg:gq s=true):∀q∈smds s,q.smq=true/\gq q=true:=by
 induction s with
 | sum p q ih ih2=>
  obtain⟨⟨g1,s1⟩,g2,s2⟩:=smq_sum.1 h;intro r hr;simp only[smds,lma]at hr;exact hr.elim (ih s1 g1 r) (ih2 s2 g2 r)
 | _=>intro r hr;simp only[smds,List.mem_singleton]at hr;subst hr;exact⟨h,hg⟩
theorem aoF (s:Tm)(h:s.smq=true):∀T∈(lvl s).2,T.smq=true:=by
 induction s with
 | nil=>intro T hT;simp[lvl]at hT
 | own x p ih=>exact ih h
 | par p q ih ih2=>
  simp only[Tm.smq,bae]at h;intro T hT;simp only[lvl,lma]at hT;exact hT.elim (ih h.1 T) (ih2 h.2 T)
 | _=>intro T hT;simp only[lvl,List.mem_singleton]at hT;subst hT;exact h
theorem akx (t:Tm):∀ls:List UInt8,(wrapO ls t).smq=t.smq:=by
 intro ls
 induction ls with
 | nil=>rfl
 | cons a ls ih=>exact ih
theorem aiJ:∀l:List Tm,(∀t∈l,t.smq=true)->(joinR .par l).smq=true:=by
 intro l
 induction l with
 | nil=>intro _;rfl
 | cons a l ih=>
  cases l with
  | nil=>intro h;exact h a (by simp)
  | cons b l=>intro h;simp only[joinR,Tm.smq,bae];exact⟨h a (by simp),ih fun t ht=>h t (by simp[ht])⟩
theorem aiK:∀l:List Tm,(∀t∈l,t.smq=true/\gq t=true)->(joinR .sum l).smq=true/\(l≠[]->gq (joinR .sum l)=true):=by
 intro l
 induction l with
 | nil=>intro _;exact⟨rfl,fun h=>absurd rfl h⟩
 | cons a l ih=>
  cases l with
  | nil=>intro h;exact⟨(h a (by simp)).1,fun _=>(h a (by simp)).2⟩
  | cons b l=>
   intro h;have i:=ih fun t ht=>h t (by simp[ht]);exact⟨smq_sum.2 ⟨⟨(h a (by simp)).2,(h a (by simp)).1⟩,i.2 (by simp),i.1⟩,fun _=>rfl⟩
theorem aq9 (n:Nat):∀(L:UInt8->UInt8) (left:List UInt8) (s:Tm),s.smq=true->s.size<=n->(levI n L left s).smq=true/\(gq s=true->gq (levI n L left s)=true)/\(rq s=true->rq (levI n L left s)=true):=by
 induction n with
 | zero=>intro L left s _ h;have:=aao s;omega
 | succ n ih=>
  intro L left s h hn
  have hth:∀(L':UInt8->UInt8) (lf:List UInt8) (T:Tm),T.smq=true->T.size<=n+1->(∀p q,T≠.par p q)->(∀x p,T≠.own x p)->T≠.nil->(thI (levI n) L' lf T).smq=true:=by
   intro L' lf T hT hsz h1 h2 h3
   cases T with
   | nil=>exact absurd rfl h3
   | par p q=>exact absurd rfl (h1 p q)
   | own x p=>exact absurd rfl (h2 x p)
   | snd a b p=>simp only[Tm.size]at hsz;exact(ih _ _ p hT (by omega)).1
   | tau p=>simp only[Tm.size]at hsz;exact(ih _ _ p hT (by omega)).1
   | rcv a x p=>simp only[Tm.size]at hsz;exact(ih _ _ p hT (by omega)).1
   | mat a b p=>
    simp only[Tm.size]at hsz;have:=(ih L' lf p hT (by omega)).1;simp only[thI];split<;>exact this
   | rep p=>
    simp only[Tm.size]at hsz;simp only[Tm.smq,bae]at hT;have:=ih L' lf p hT.2 (by omega);simp only[thI,Tm.smq,bae];exact⟨this.2.2 hT.1,this.1⟩
   | sum p q=>
    have e1:thI (levI n) L' lf (.sum p q)=joinR .sum (srtT ((smds (.sum p q)).map (levI n L' lf))):=rfl;rw[e1];refine(aiK _ fun t ht=>?_).1;obtain⟨r,hr,rfl⟩:=List.mem_map.1 ((aaG _ _).1 ht)
    have hrs:r.size<(Tm.sum p q).size:=by
     simp only[smds,lma]at hr;simp only[Tm.size];rcases hr with hr|hr
     ·have:=aaL p r hr;omega
     ·have:=aaL q r hr;omega
    have hq:=akw _ hT rfl r hr;have:=ih L' lf r hq.1 (by omega);exact⟨this.1,this.2.1 hq.2⟩
  have hone:∀T,s=T->(lvl T).1=[]->(lvl T).2=[T]->∃o,levI (n+1) L left s=thI (levI n) (updL L o left) (left.drop (lvl s).1.length) s:=fun T e h0 h1=>by
   subst e;exact adf n L left s .nil h0 h1 fun _ _=>trivial
  refine⟨?_,fun hg=>?_,fun hg=>?_⟩
  ·rw[abF,akx];have hne:(visG ltU 200 (lvl s).1).map (candI n L left s)≠[]:=fun e=>acK ltU 199 _ (List.map_eq_nil_iff.1 e);obtain⟨o,_,e⟩:=List.mem_map.1 (abO _ hne);refine aiJ _ fun t ht=>?_;rw[<-e]at ht;obtain⟨T,hT,rfl⟩:=List.mem_map.1 ((aaG _ _).1 ht);have hk:=aba s T hT;exact hth _ _ T (aoF s h T hT) (by have:=aa_ s T hT;omega) hk.1 hk.2.1 hk.2.2
  ·cases s with
   | nil=>cases hg
   | snd a b p=>obtain⟨o,e⟩:=hone _ rfl rfl rfl;rw[e];rfl
   | rcv a x p=>obtain⟨o,e⟩:=hone _ rfl rfl rfl;rw[e];rfl
   | tau p=>obtain⟨o,e⟩:=hone _ rfl rfl rfl;rw[e];rfl
   | sum p q=>
    obtain⟨o,e⟩:=hone _ rfl rfl rfl;rw[e];show gq (joinR .sum (srtT ((smds (.sum p q)).map (levI n _ _))))=true;refine(aiK _ fun t ht=>?_).2 (fun e=>?_)
    rotate_left
    ·have h2:=aiI p q;have h3:(srtT ((smds (.sum p q)).map (levI n (updL L o left) (left.drop (lvl (Tm.sum p q)).1.length)))).length=(smds (.sum p q)).length:=by unfold srtT;rw[List.length_mergeSort,List.length_map]
     rw[e]at h3;rw[<-h3]at h2;exact absurd h2 (by decide)
    obtain⟨r,hr,rfl⟩:=List.mem_map.1 ((aaG _ _).1 ht)
    have hrs:r.size<(Tm.sum p q).size:=by
     simp only[smds,lma]at hr;simp only[Tm.size];rcases hr with hr|hr
     ·have:=aaL p r hr;omega
     ·have:=aaL q r hr;omega
    have hq:=akw _ h rfl r hr;have:=ih (updL L o left) (left.drop (lvl (Tm.sum p q)).1.length) r hq.1 (by omega);exact⟨this.1,this.2.1 hq.2⟩
   | _=>cases hg
  ·cases s with
   | rcv a x p=>obtain⟨o,e⟩:=hone _ rfl rfl rfl;rw[e];rfl
   | _=>cases hg
theorem atI {t r:Tm}(h:nfI t=some r)(hs:t.smp=true):r.smq=true:=by
 unfold nfI at h
 split at h
 ·cases h
 ·split at h
  ·cases h;have hsz:(numb t).size<=t.size:=by unfold numb;rw[ach];exact abq t
   exact(aq9 t.size id _ _ (by unfold numb;rw[atH];exact(atG t hs).1) hsz).1
  ·cases h
def offT:Tm->List Tm
 | .rep p=>[p]
 | t=>smds t
structure Off where
 k:UInt8
 a:UInt8
 b:UInt8
 r:Tm
 st:Bool
def offs:Tm->List Off
 | .snd a b p=>[⟨33,a,b,p,false⟩]
 | .rcv a x p=>[⟨63,a,x,p,false⟩]
 | .tau p=>[⟨126,0,0,p,false⟩]
 | .sum p q=>offs p++offs q
 | .rep p=>(offs p).map fun o=>{ o with st:=true }
 | _=>[]
def offOf (st:Bool):Tm->Option Off
 | .snd a b p=>some ⟨33,a,b,p,st⟩
 | .rcv a x p=>some ⟨63,a,x,p,st⟩
 | .tau p=>some ⟨126,0,0,p,st⟩
 | _=>none
def isRep:Tm->Bool
 | .rep _=>true
 | _=>false
theorem aq_ (s:Tm)(h:s.smq=true)(hg:gq s=true):offs s=(smds s).filterMap (offOf false):=by
 induction s with
 | sum p q ih ih2=>
  obtain⟨⟨g1,s1⟩,g2,s2⟩:=smq_sum.1 h;simp only[offs,smds,List.filterMap_append];rw[ih s1 g1,ih2 s2 g2]
 | snd a b p=>rfl
 | rcv a x p=>rfl
 | tau p=>rfl
 | _=>cases hg
theorem atJ (s:Tm)(h:s.smq=true)(hg:gq s=true):offs s≠[]:=by
 induction s with
 | sum p q ih ih2=>
  obtain⟨⟨g1,s1⟩,g2,s2⟩:=smq_sum.1 h;simp only[offs];intro e;exact ih s1 g1 (List.append_eq_nil_iff.1 e).1
 | snd a b p=>simp[offs]
 | rcv a x p=>simp[offs]
 | tau p=>simp[offs]
 | _=>cases hg
theorem aeE (T:Tm)(h:T.smq=true):offs T=(offT T).filterMap (offOf (isRep T)):=by
 cases T with
 | rep p=>
  simp only[Tm.smq,bae]at h
  cases p with
  | rcv a x p=>rfl
  | _=>cases h.1
 | sum p q=>exact aq_ _ h rfl
 | _=>rfl
theorem alZ {α:Type}:∀(l:List α) (i:Nat) (h:i<l.length),l.Perm (l[i]::l.eraseIdx i):=by
 intro l
 induction l with
 | nil=>intro i h;simp at h
 | cons a l ih=>
  intro i h
  cases i with
  | zero=>exact .refl _
  | succ i=>
   simp only[List.getElem_cons_succ,List.eraseIdx_cons_succ];exact((ih i (by simpa using h)).cons a).trans (List.Perm.swap _ _ _)
theorem ara {α:Type}:∀(l:List α) (i:Nat) (h:i<l.length),(l.drop i).take 1=[l[i]]:=by
 intro l
 induction l with
 | nil=>intro i h;simp at h
 | cons a l ih=>
  intro i h
  cases i with
  | zero=>rfl
  | succ i=>simp only[List.drop_succ_cons,List.getElem_cons_succ];exact ih i (by simpa using h)
theorem aoG {α:Type}:∀(n:Nat) (l r:List α),r.Perm l->l.length<=n->r∈ordsL n l:=by
 intro n
 induction n with
 | zero=>
  intro l r h hl;have:l=[]:=List.length_eq_zero_iff.1 (by omega);subst this
  rw[List.Perm.eq_nil h];simp[ordsL]
 | succ n ih=>
  intro l r h hl;unfold ordsL
  cases l with
  | nil=>rw[List.Perm.eq_nil h];simp
  | cons b l=>
   simp only[List.isEmpty_cons,Bool.false_eq_true,if_false]
   cases r with
   | nil=>exact absurd h.length_eq (by simp)
   | cons a r=>
    have ha:a∈b::l:=h.mem_iff.1 (by simp);obtain⟨i,hi,e⟩:=List.getElem_of_mem ha;rw[List.mem_flatMap];refine⟨i,by simpa using hi,?_⟩;rw[List.mem_map]
    have hp:(b::l).Perm (a::(b::l).eraseIdx i):=by
     rw[<-e];exact alZ _ i hi
    refine⟨r,ih _ r ?_ ?_,?_⟩
    ·exact(h.trans hp).cons_inv
    ·rw[List.length_eraseIdx_of_lt hi];simp at hl ⊢;omega
    ·rw[ara _ i hi,e];rfl
theorem arb {m:Nat}{o:List Nat}(h:o.Perm (List.range m)):o∈ords m:=aoG m _ _ h (by simp)
theorem aky {G Y:List UInt8}(hn:G.Nodup)(h:Y.Perm G):∃p∈ords G.length,(p.map fun i=>G.getD i 0)=Y:=by
 refine⟨Y.map G.idxOf,arb ?_,?_⟩
 ·refine(h.map _).trans ?_
  have:G.map G.idxOf=List.range G.length:=by
   refine List.ext_getElem (by simp) fun i h1 h2=>?_;simp at h1;rw[List.getElem_map,List.getElem_range];exact hn.idxOf_getElem i h1
  rw[this]
 ·rw[List.map_map];refine(List.map_congr_left fun y hy=>?_).trans (List.map_id _);have hy':=h.mem_iff.1 hy;have hi:=List.idxOf_lt_length_of_mem hy';simp[List.getD_eq_getElem?_getD,List.getElem?_eq_getElem hi]
theorem akz {G:List UInt8}{p:List Nat}(hG:G.length<=5)(hp:p∈ords G.length):(p.map fun i=>G.getD i 0).Perm G:=by
 obtain⟨p1,p2,p3⟩:=acn _ hG p hp;have hpr:p.Perm (List.range G.length):=(List.perm_ext_iff_of_nodup p2 List.nodup_range).2 fun i=>by rw[p3];simp
 have:(List.range G.length).map (fun i=>G.getD i 0)=G:=by
  refine List.ext_getElem (by simp) fun i h1 h2=>?_;simp[List.getD_eq_getElem?_getD,List.getElem?_eq_getElem h2]
 have h:=hpr.map fun i=>G.getD i 0;rw[this]at h;exact h
theorem arc {nm:UInt8->Bool}(hn:Nm nm){a b:List Tm}(h:a.Perm b)(hok:∀t∈a,t.ok nm=true):srtT a=srtT b:=by
 have tr:∀x y z:Tm,decide (x.pr<=y.pr)=true->decide (y.pr<=z.pr)=true->decide (x.pr<=z.pr)=true:=fun x y z h1 h2=>by
  simp only[decide_eq_true_eq]at *;exact List.le_trans h1 h2
 have tt:∀x y:Tm,(decide (x.pr<=y.pr) || decide (y.pr<=x.pr))=true:=fun x y=>by
  simp only[Bool.or_eq_true,decide_eq_true_eq];exact List.le_total _ _
 have s1:=List.pairwise_mergeSort (le:=fun a b:Tm=>decide (a.pr<=b.pr)) tr tt a;have s2:=List.pairwise_mergeSort (le:=fun a b:Tm=>decide (a.pr<=b.pr)) tr tt b;have hp:(srtT a).Perm (srtT b):=((List.mergeSort_perm a _).trans h).trans (List.mergeSort_perm b _).symm;refine List.Perm.eq_of_pairwise (fun x y hx hy h1 h2=>?_) s1 s2 hp;simp only[decide_eq_true_eq]at h1 h2;have hx':=hok x ((aaG _ _).1 hx);have hy':=hok y (h.mem_iff.2 ((aaG _ _).1 hy));exact(ab6 hn x y [] [] hx' hy' (by rw[List.le_antisymm h1 h2])).1
structure Lp (s s':Tm):Prop where
 fro:(lvl s).1.Perm (lvl s').1
 thr:(lvl s).2.Perm (lvl s').2
theorem Lp.refl (s:Tm):Lp s s:=⟨.refl _,.refl _⟩
theorem Lp.trans {a b c:Tm}(h:Lp a b)(k:Lp b c):Lp a c:=⟨h.fro.trans k.fro,h.thr.trans k.thr⟩
theorem Lp.bnd {s s':Tm}(h:Lp s s'):s.bnd.Perm s'.bnd:=
 ((adM s).trans (h.fro.append (h.thr.flatMap_right _))).trans (adM s').symm
theorem Lp.fl {s s':Tm}(h:Lp s s')(k:Nat):fl s k=fl s' k:=by
 unfold T1.fl fcnt;rw[h.fro.length_eq,aiu,aiu,h.thr.all_eq]
theorem Lp.ownc {s s':Tm}(h:Lp s s'):ownc s=ownc s':=by
 rw[ahq,ahq s',h.fro.length_eq,aiv h.thr]
theorem Lp.mid {s s':Tm}(h:Lp s s')(n:Nat)(L:UInt8->UInt8)(left:List UInt8)(hn:s.size<=n+1)(hf:T1.fl s left.length=true)(hl:∀l∈left,nmL l=true)(hL:∀v,v∈s.free->nmL (L v)=true)(hnd:s.bnd.Nodup) : T1.mid (n+1) false L left s=T1.mid (n+1) false L left s':=by
 obtain⟨f1,f2,f3⟩:=acg hf;have hnG:=(asI hnd).1;have hnG':=h.fro.nodup_iff.1 hnG;have hlen:(left.drop (lvl s).1.length).length=left.length - (lvl s).1.length:=List.length_drop;have hl2:∀l∈left.drop (lvl s).1.length,nmL l=true:=fun l h=>hl l (List.mem_of_mem_drop h);unfold T1.mid
 by_cases hU:(lvl s).2=[]
 ·have hU':(lvl s').2=[]:=by have:=h.thr;rw[hU]at this;exact this.symm.eq_nil
  rw[hU,hU'];rfl
 ·have hU':¬(lvl s').2=[]:=fun e=>hU (by have:=h.thr;rw[e]at this;exact this.eq_nil);have e1:(lvl s).2.isEmpty=false:=by simpa using hU
  have e2:(lvl s').2.isEmpty=false:=by simpa using hU'
  rw[e1,e2];simp only[Bool.false_eq_true,if_false];rw[<-h.fro.length_eq];congr 1
  let C (s:Tm) (k:Nat):List (List Tm):=(ords k).map fun o=>srtT ((lvl s).2.map (thI (T1.mid n false) (updL L (o.map fun i=>(lvl s).1.getD i 0) left) (left.drop k)))
  have hC:∀(s:Tm) (k:Nat),((ords k).map fun o=>joinR .par (srtT ((lvl s).2.map (thI (T1.mid n false) (updL L (o.map fun i=>(lvl s).1.getD i 0) left) (left.drop k)))))=(C s k).map (joinR .par):=fun s k=>by
   show _=List.map _ (List.map _ _);rw[List.map_map];rfl
  rw[hC,hC]
  have hok:∀p∈ords (lvl s).1.length,∀T∈(lvl s).2,(thI (T1.mid n false) (updL L (p.map fun i=>(lvl s).1.getD i 0) left) (left.drop (lvl s).1.length) T).ok nmL=true:=fun p hp T hT=>
   aon (T1.mid n false) n (aiA n false) _ _ T (by have:=aa_ s T hT;omega) (aba s T hT) (by rw[hlen];exact f3 T hT) hl2
    (aom hl hL (by rw[List.length_map];have:=(acn _ f1 p hp).1;omega) (adO (acn _ f1 p hp).2.2) hT)
  have hne:C s (lvl s).1.length≠[]:=fun e=>acW _ f1 (List.map_eq_nil_iff.1 e);have hne':C s' (lvl s).1.length≠[]:=fun e=>acW _ f1 (List.map_eq_nil_iff.1 e)
  have hcok:∀c∈C s (lvl s).1.length,c.length=(lvl s).2.length/\∀t∈c,t.ok nmL=true:=fun c hc=>by
   obtain⟨p,hp,rfl⟩:=List.mem_map.1 hc;refine⟨by unfold srtT;rw[List.length_mergeSort,List.length_map],fun t ht=>?_⟩;obtain⟨T,hT,rfl⟩:=List.mem_map.1 ((aaG _ _).1 ht);exact hok p hp T hT
  have hsame:∀p∈ords (lvl s).1.length,∀p':List Nat,(p'.map fun i=>(lvl s').1.getD i 0)=(p.map fun i=>(lvl s).1.getD i 0)->
    srtT ((lvl s).2.map (thI (T1.mid n false) (updL L (p.map fun i=>(lvl s).1.getD i 0) left) (left.drop (lvl s).1.length)))=srtT ((lvl s').2.map (thI (T1.mid n false) (updL L (p'.map fun i=>(lvl s').1.getD i 0) left) (left.drop (lvl s).1.length))):=fun p hp p' e=>by
   rw[e];refine arc aa5 (h.thr.map _) fun t ht=>?_;obtain⟨T,hT,rfl⟩:=List.mem_map.1 ht;exact hok p hp T hT
  have hmem:∀c,c∈C s (lvl s).1.length↔c∈C s' (lvl s).1.length:=fun c=>by
   constructor
   ·intro hc;obtain⟨p,hp,rfl⟩:=List.mem_map.1 hc;obtain⟨p',hp',e⟩:=aky hnG' ((akz f1 hp).trans h.fro);exact List.mem_map.2 ⟨p',by rw[h.fro.length_eq];exact hp',(hsame p hp p' e).symm⟩
   ·intro hc;obtain⟨p',hp',rfl⟩:=List.mem_map.1 hc;have hp2:p'∈ords (lvl s').1.length:=by rw[<-h.fro.length_eq];exact hp'
    obtain⟨p,hp,e⟩:=aky hnG ((akz (by rw[<-h.fro.length_eq];exact f1) hp2).trans h.fro.symm);exact List.mem_map.2 ⟨p,hp,hsame p hp p' e.symm⟩
  have a1:=afF aa5 _ _ _ hne hne (fun c=>Iff.rfl) hcok;have a2:=afF aa5 _ _ _ hne hne' hmem hcok;exact a1.symm.trans a2
theorem akA (n:Nat):∀(m:Nat) (once:Bool) (L:UInt8->UInt8) (left:List UInt8) (s:Tm),s.size<=n->s.size<=m->mid n once L left s=mid m once L left s:=by
 induction n with
 | zero=>intro m once L left s h;have:=aao s;omega
 | succ n ih=>
  intro m once L left s hn hm
  cases m with
  | zero=>have:=aao s;omega
  | succ m=>
   have hth:∀(L':UInt8->UInt8) (lf:List UInt8) (T:Tm),T∈(lvl s).2->thI (mid n once) L' lf T=thI (mid m once) L' lf T:=by
    intro L' lf T hT;have hsz:=aa_ s T hT;have hk:=aba s T hT
    cases T with
    | nil=>exact absurd rfl hk.2.2
    | par p q=>exact absurd rfl (hk.1 p q)
    | own x p=>exact absurd rfl (hk.2.1 x p)
    | snd a b p=>simp only[Tm.size]at hsz;simp only[thI];rw[ih m once _ _ p (by omega) (by omega)]
    | tau p=>simp only[Tm.size]at hsz;simp only[thI];rw[ih m once _ _ p (by omega) (by omega)]
    | rep p=>simp only[Tm.size]at hsz;simp only[thI];rw[ih m once _ _ p (by omega) (by omega)]
    | mat a b p=>simp only[Tm.size]at hsz;simp only[thI];rw[ih m once _ _ p (by omega) (by omega)]
    | rcv a x p=>simp only[Tm.size]at hsz;simp only[thI];rw[ih m once _ _ p (by omega) (by omega)]
    | sum p q=>
     have e1:∀f,thI f L' lf (.sum p q)=joinR .sum (srtT ((smds (.sum p q)).map (f L' lf))):=fun f=>rfl;rw[e1,e1];congr 2;refine List.map_congr_left fun r hr=>?_
     have hrs:r.size<(Tm.sum p q).size:=by
      simp only[smds,lma]at hr;simp only[Tm.size];rcases hr with hr|hr
      ·have:=aaL p r hr;omega
      ·have:=aaL q r hr;omega
     exact ih m once _ _ r (by omega) (by omega)
   unfold mid;have:∀o:List Nat,(lvl s).2.map (thI (mid n once) (updL L (o.map fun i=>(lvl s).1.getD i 0) left) (left.drop (lvl s).1.length))=(lvl s).2.map (thI (mid m once) (updL L (o.map fun i=>(lvl s).1.getD i 0) left) (left.drop (lvl s).1.length)):=fun o=>List.map_congr_left fun T hT=>hth _ _ T hT;simp only[this]
inductive Cg:Tm->Tm->Prop where
 | refl (t:Tm):Cg t t
 | trans {a b c:Tm}:Cg a b->Cg b c->Cg a c
 | comm (p q:Tm):Cg (.par p q) (.par q p)
 | assoc (p q r:Tm):Cg (.par (.par p q) r) (.par p (.par q r))
 | assoc' (p q r:Tm):Cg (.par p (.par q r)) (.par (.par p q) r)
 | nil (p:Tm):Cg (.par p .nil) p
 | nil' (p:Tm):Cg p (.par p .nil)
 | swap (x y:UInt8) (p:Tm):x≠y->Cg (.own x (.own y p)) (.own y (.own x p))
 | par {p p' q q':Tm}:Cg p p'->Cg q q'->Cg (.par p q) (.par p' q')
 | own (x:UInt8) {p p':Tm}:Cg p p'->Cg (.own x p) (.own x p')
theorem adt {p q:Tm}{E:UInt8->UInt8->Prop}{s:Tm}(h:Sm (.par p q) E s):∃p' q',Sm p E p'/\Sm q E q'/\lvl s=((lvl p').1++(lvl q').1,(lvl p').2++(lvl q').2):=by
 unfold Sm at h
 split at h
 ·rename_i hp;exact⟨.nil,s,akc p E hp,h,by simp[lvl]⟩
 ·split at h
  ·rename_i hp hq;exact⟨s,.nil,h,akc q E hq,by simp[lvl]⟩
  ·obtain⟨p',q',rfl,h1,h2⟩:=h;exact⟨p',q',h1,h2,rfl⟩
theorem afQ {p q:Tm}{E:UInt8->UInt8->Prop}{p' q':Tm}(h1:Sm p E p')(h2:Sm q E q'):∃s,Sm (.par p q) E s/\lvl s=((lvl p').1++(lvl q').1,(lvl p').2++(lvl q').2):=by
 by_cases hp:p.dead=true
 ·have e:=aey p E p' hp h1;subst e;refine⟨q',?_,by simp[lvl]⟩;unfold Sm;rw[if_pos hp];exact h2
 ·by_cases hq:q.dead=true
  ·have e:=aey q E q' hq h2;subst e;refine⟨p',?_,by simp[lvl]⟩;unfold Sm;rw[if_neg hp,if_pos hq];exact h1
  ·refine⟨.par p' q',?_,rfl⟩;unfold Sm;rw[if_neg hp,if_neg hq];exact⟨p',q',rfl,h1,h2⟩
theorem ajy {s s':Tm}{a b a' b'}(h:lvl s=(a,b))(h':lvl s'=(a',b'))(k1:a.Perm a')(k2:b.Perm b'):Lp s s':=⟨by rw[h,h'];exact k1,by rw[h,h'];exact k2⟩
theorem ayt {s p':Tm}{a b:List UInt8}{c d:List Tm}(h:lvl s=(a++(lvl p').1++b,c++(lvl p').2++d))(hn:s.bnd.Nodup):p'.bnd.Nodup:=by
 have h1:=(adM s).nodup_iff.1 hn;rw[h]at h1;refine(adM p').nodup_iff.2 (h1.sublist ?_);simp only[List.flatMap_append];exact List.Sublist.append ((List.sublist_append_right _ _).trans (List.sublist_append_left _ _)) ((List.sublist_append_right _ _).trans (List.sublist_append_left _ _))
theorem ard {E:UInt8->UInt8->Prop}{x y x' y':UInt8}(h:x≠y)(h':x'≠y'):∀u v,bdE (bdE E x x') y y' u v->bdE (bdE E y y') x x' u v:=by
 rintro u v (⟨h1,h2⟩|⟨h1,h2,h3⟩)
 ·subst h1 h2;exact .inr ⟨fun e=>h e.symm,fun e=>h' e.symm,.inl ⟨rfl,rfl⟩⟩
 ·rcases h3 with⟨a1,a2⟩|⟨a1,a2,a3⟩
  ·exact .inl ⟨a1,a2⟩
  ·exact .inr ⟨a1,a2,.inr ⟨h1,h2,a3⟩⟩
structure CgK (t t':Tm):Prop where
 dead:t.dead=t'.dead
 usd:∀z,z∈t.usd↔z∈t'.usd
 sm:∀E s,s.bnd.Nodup->Sm t E s->∃s',Sm t' E s'/\Lp s s'
theorem Cg.keep {t t':Tm}(h:Cg t t'):CgK t t':=by
 induction h with
 | refl t=>exact⟨rfl,fun _=>Iff.rfl,fun E s _ h=>⟨s,h,.refl _⟩⟩
 | trans _ _ ih ih2=>
  refine⟨ih.dead.trans ih2.dead,fun z=>(ih.usd z).trans (ih2.usd z),fun E s hn h=>?_⟩;obtain⟨s1,h1,l1⟩:=ih.sm E s hn h;obtain⟨s2,h2,l2⟩:=ih2.sm E s1 (l1.bnd.nodup_iff.1 hn) h1;exact⟨s2,h2,l1.trans l2⟩
 | comm p q=>
  refine⟨by simp[Tm.dead,Bool.and_comm],fun z=>by rw[mu_par,mu_par];exact Or.comm,fun E s hn h=>?_⟩;obtain⟨p',q',h1,h2,e⟩:=adt h;obtain⟨s',h3,e'⟩:=afQ h2 h1;exact⟨s',h3,ajy e e' List.perm_append_comm List.perm_append_comm⟩
 | assoc p q r=>
  refine⟨by simp[Tm.dead,Bool.and_assoc],fun z=>by simp only[mu_par];exact or_assoc,fun E s hn h=>?_⟩;obtain⟨a,r',h1,h2,e⟩:=adt h;obtain⟨p',q',h3,h4,e2⟩:=adt h1;obtain⟨b,h5,e3⟩:=afQ h4 h2;obtain⟨s',h6,e4⟩:=afQ h3 h5;exact⟨s',h6,ajy e e4 (by rw[e2,e3];simp) (by rw[e2,e3];simp)⟩
 | assoc' p q r=>
  refine⟨by simp[Tm.dead,Bool.and_assoc],fun z=>by simp only[mu_par];exact or_assoc.symm,fun E s hn h=>?_⟩;obtain⟨p',a,h1,h2,e⟩:=adt h;obtain⟨q',r',h3,h4,e2⟩:=adt h2;obtain⟨b,h5,e3⟩:=afQ h1 h3;obtain⟨s',h6,e4⟩:=afQ h5 h4;exact⟨s',h6,ajy e e4 (by rw[e2,e3];simp) (by rw[e2,e3];simp)⟩
 | nil p=>
  refine⟨by simp[Tm.dead],fun z=>by rw[mu_par];simp[Tm.usd],fun E s hn h=>?_⟩;obtain⟨p',a,h1,h2,e⟩:=adt h;have ea:=aey .nil E a rfl h2;subst ea;exact⟨p',h1,ajy e rfl (by simp[lvl]) (by simp[lvl])⟩
 | nil' p=>
  refine⟨by simp[Tm.dead],fun z=>by rw[mu_par];simp[Tm.usd],fun E s hn h=>?_⟩;obtain⟨s',h3,e'⟩:=afQ h (akc .nil E rfl);exact⟨s',h3,ajy rfl e' (by simp[lvl]) (by simp[lvl])⟩
 | swap x y p hxy=>
  refine⟨by simp[Tm.dead],fun z=>by simp only[mu_own];grind,fun E s hn h=>?_⟩
  by_cases hx:x∈p.usd
  ·have hx2:x∈(Tm.own y p).usd:=(mu_own _ _ _).2 ⟨hx,hxy⟩;unfold Sm at h;rw[if_pos hx2]at h;obtain⟨x',p1,rfl,h⟩:=h
   by_cases hy:y∈p.usd
   ·unfold Sm at h;rw[if_pos hy]at h;obtain⟨y',p',rfl,h⟩:=h
    have hn':x'≠y':=by
     simp only[Tm.bnd,List.nodup_cons,List.mem_cons]at hn;exact fun e=>hn.1 (.inl e)
    refine⟨.own y' (.own x' p'),?_,ajy (lvl.eq_2 _ _) (lvl.eq_2 _ _) (List.Perm.swap _ _ _) (.refl _)⟩;unfold Sm;rw[if_pos ((mu_own _ _ _).2 ⟨hy,hxy.symm⟩)];refine⟨y',.own x' p',rfl,?_⟩;unfold Sm;rw[if_pos hx];exact⟨x',p',rfl,aaV p _ _ p' (fun u v _=>ard hxy hn' u v) h⟩
   ·unfold Sm at h;rw[if_neg hy]at h;refine⟨.own x' p1,?_,.refl _⟩;unfold Sm;rw[if_neg (fun e=>hy ((mu_own _ _ _).1 e).1)];unfold Sm;rw[if_pos hx];exact⟨x',p1,rfl,h⟩
  ·unfold Sm at h;rw[if_neg (fun e=>hx ((mu_own _ _ _).1 e).1)]at h
   by_cases hy:y∈p.usd
   ·unfold Sm at h;rw[if_pos hy]at h;obtain⟨y',p',rfl,h⟩:=h;refine⟨.own y' p',?_,.refl _⟩;unfold Sm;rw[if_pos ((mu_own _ _ _).2 ⟨hy,hxy.symm⟩)];refine⟨y',p',rfl,?_⟩;unfold Sm;rw[if_neg hx];exact h
   ·unfold Sm at h;rw[if_neg hy]at h;refine⟨s,?_,.refl _⟩;unfold Sm;rw[if_neg (fun e=>hy ((mu_own _ _ _).1 e).1)];unfold Sm;rw[if_neg hx];exact h
 | par h1 h2 ih ih2=>
  refine⟨by simp[Tm.dead,ih.dead,ih2.dead],fun z=>by rw[mu_par,mu_par,ih.usd,ih2.usd],fun E s hn h=>?_⟩;obtain⟨p',q',h1,h2,e⟩:=adt h;obtain⟨p2,k1,l1⟩:=ih.sm E p' (ayt (a:=[]) (c:=[]) (by rw[e];rfl) hn) h1;obtain⟨q2,k2,l2⟩:=ih2.sm E q' (ayt (a:=(lvl p').1) (b:=[]) (c:=(lvl p').2) (d:=[]) (by rw[e];simp) hn) h2;obtain⟨s',h3,e'⟩:=afQ k1 k2;exact⟨s',h3,ajy e e' (l1.fro.append l2.fro) (l1.thr.append l2.thr)⟩
 | own x h1 ih=>
  refine⟨ih.dead,fun z=>by rw[mu_own,mu_own,ih.usd],fun E s hn h=>?_⟩;unfold Sm at h
  split at h
  ·rename_i hx
   obtain⟨x',p',rfl,h⟩:=h;obtain⟨p2,k1,l1⟩:=ih.sm _ p' (List.nodup_cons.1 hn).2 h;refine⟨.own x' p2,?_,⟨l1.fro.cons x',l1.thr⟩⟩;unfold Sm;rw[if_pos ((ih.usd x).1 hx)];exact⟨x',p2,rfl,k1⟩
  ·rename_i hx
   obtain⟨p2,k1,l1⟩:=ih.sm _ s hn h;refine⟨p2,?_,l1⟩;unfold Sm;rw[if_neg (fun e=>hx ((ih.usd x).2 e))];exact k1
theorem atK (t:Tm):∀(E:UInt8->UInt8->Prop) (s:Tm),Sm t E s->∀v,v∈s.free->∃u,u∈t.usd/\E u v:=by
 induction t with
 | nil=>intro E s h v hv;have h':s=.nil:=h;subst h';simp[Tm.free]at hv
 | snd a b p ih=>
  rintro E s ⟨a',b',p',rfl,h1,h2,h3⟩ v hv;rw[mf_snd]at hv;rcases hv with rfl|rfl|hv
  ·exact⟨a,by rw[mu_snd];simp,h1⟩
  ·exact⟨b,by rw[mu_snd];simp,h2⟩
  ·obtain⟨u,hu,he⟩:=ih E p' h3 v hv;exact⟨u,by rw[mu_snd];simp[hu],he⟩
 | rcv a x p ih=>
  rintro E s ⟨a',x',p',rfl,h1,h3⟩ v hv;rw[mf_rcv]at hv;rcases hv with rfl|⟨hv,hx⟩
  ·exact⟨a,by rw[mu_rcv];simp,h1⟩
  ·obtain⟨u,hu,he⟩:=ih _ p' h3 v hv;rcases he with⟨_,e⟩|⟨e1,_,e3⟩
   ·exact absurd e hx
   ·exact⟨u,by rw[mu_rcv];exact .inr ⟨hu,e1⟩,e3⟩
 | tau p ih=>
  rintro E s ⟨p',rfl,h3⟩ v hv;rw[mf_tau]at hv;obtain⟨u,hu,he⟩:=ih E p' h3 v hv;exact⟨u,by rw[mu_tau];exact hu,he⟩
 | sum p q ih ih2=>
  intro E s h v hv;have k1:(∃u,u∈p.usd/\E u v)->∃u,u∈(Tm.sum p q).usd/\E u v:=fun ⟨u,hu,he⟩=>⟨u,by rw[mu_sum];exact .inl hu,he⟩;have k2:(∃u,u∈q.usd/\E u v)->∃u,u∈(Tm.sum p q).usd/\E u v:=fun ⟨u,hu,he⟩=>⟨u,by rw[mu_sum];exact .inr hu,he⟩;unfold Sm at h
  split at h
  ·exact k2 (ih2 E s h v hv)
  ·split at h
   ·exact k1 (ih E s h v hv)
   ·obtain⟨p',q',rfl,h1,h2⟩:=h;rw[mf_sum]at hv;exact hv.elim (fun hv=>k1 (ih E p' h1 v hv)) (fun hv=>k2 (ih2 E q' h2 v hv))
 | par p q ih ih2=>
  intro E s h v hv;have k1:(∃u,u∈p.usd/\E u v)->∃u,u∈(Tm.par p q).usd/\E u v:=fun ⟨u,hu,he⟩=>⟨u,by rw[mu_par];exact .inl hu,he⟩;have k2:(∃u,u∈q.usd/\E u v)->∃u,u∈(Tm.par p q).usd/\E u v:=fun ⟨u,hu,he⟩=>⟨u,by rw[mu_par];exact .inr hu,he⟩;unfold Sm at h
  split at h
  ·exact k2 (ih2 E s h v hv)
  ·split at h
   ·exact k1 (ih E s h v hv)
   ·obtain⟨p',q',rfl,h1,h2⟩:=h;rw[mf_par]at hv;exact hv.elim (fun hv=>k1 (ih E p' h1 v hv)) (fun hv=>k2 (ih2 E q' h2 v hv))
 | own x p ih=>
  intro E s h v hv;unfold Sm at h
  split at h
  ·obtain⟨x',p',rfl,h1⟩:=h;rw[mf_own]at hv;obtain⟨u,hu,he⟩:=ih _ p' h1 v hv.1;rcases he with⟨_,e⟩|⟨e1,_,e3⟩
   ·exact absurd e hv.2
   ·exact⟨u,by rw[mu_own];exact⟨hu,e1⟩,e3⟩
  ·rename_i hx
   obtain⟨u,hu,he⟩:=ih E s h v hv;exact⟨u,by rw[mu_own];exact⟨hu,fun e=>hx (e▸hu)⟩,he⟩
 | mat a b p ih=>
  intro E s h v hv;unfold Sm at h
  split at h
  ·rename_i hab
   obtain⟨u,hu,he⟩:=ih E s h v hv;exact⟨u,by rw[mu_mat];exact .inl ⟨hab,hu⟩,he⟩
  ·rename_i hab
   split at h
   ·subst h;simp[Tm.free]at hv
   ·rename_i hd
    have hd':p.dead=false:=by simpa using hd
    obtain⟨a',b',p',rfl,h1,h2,h3⟩:=h;rw[mf_mat]at hv;rcases hv with rfl|rfl|hv
    ·exact⟨a,by rw[mu_mat];exact .inr ⟨hab,hd',.inl rfl⟩,h1⟩
    ·exact⟨b,by rw[mu_mat];exact .inr ⟨hab,hd',.inr (.inl rfl)⟩,h2⟩
    ·obtain⟨u,hu,he⟩:=ih E p' h3 v hv;exact⟨u,by rw[mu_mat];exact .inr ⟨hab,hd',.inr (.inr hu)⟩,he⟩
 | rep p ih=>
  intro E s h v hv;unfold Sm at h
  split at h
  ·subst h;simp[Tm.free]at hv
  ·obtain⟨p',rfl,h1⟩:=h;rw[mf_rep]at hv;obtain⟨u,hu,he⟩:=ih E p' h1 v hv;exact⟨u,by rw[mu_rep];exact hu,he⟩
theorem awv {t:Tm}{E:UInt8->UInt8->Prop}{s:Tm}(h:Sm t E s)(hd:t.dead=false):s≠.nil:=fun e=>by
 subst e;exact an9 t E .nil hd h rfl
theorem akB (t:Tm):∀(E:UInt8->UInt8->Prop) (s:Tm),Sm t E s->Clean s:=by
 induction t with
 | nil=>intro E s h;have h':s=.nil:=h;subst h';trivial
 | snd a b p ih=>rintro E s ⟨a',b',p',rfl,h1,h2,h3⟩;exact ih E p' h3
 | rcv a x p ih=>rintro E s ⟨a',x',p',rfl,h1,h3⟩;exact ih _ p' h3
 | tau p ih=>rintro E s ⟨p',rfl,h3⟩;exact ih E p' h3
 | sum p q ih ih2=>
  intro E s h;unfold Sm at h
  split at h
  ·exact ih2 E s h
  ·split at h
   ·exact ih E s h
   ·obtain⟨p',q',rfl,h1,h2⟩:=h;exact⟨ih E p' h1,ih2 E q' h2⟩
 | par p q ih ih2=>
  intro E s h;unfold Sm at h
  split at h
  ·exact ih2 E s h
  ·split at h
   ·exact ih E s h
   ·rename_i hp hq
    obtain⟨p',q',rfl,h1,h2⟩:=h;exact⟨awv h1 (by simpa using hp),ih E p' h1,ih2 E q' h2⟩
 | own x p ih=>
  intro E s h;unfold Sm at h
  split at h
  ·rename_i hx
   obtain⟨x',p',rfl,h1⟩:=h;refine⟨awv h1 ?_,ih _ p' h1⟩
   cases hd:p.dead with
   | false=>rfl
   | true=>rw[dead_usd p hd]at hx;simp at hx
  ·exact ih E s h
 | mat a b p ih=>
  intro E s h;unfold Sm at h
  split at h
  ·exact ih E s h
  ·split at h
   ·subst h;trivial
   ·obtain⟨a',b',p',rfl,h1,h2,h3⟩:=h;exact ih E p' h3
 | rep p ih=>
  intro E s h;unfold Sm at h
  split at h
  ·subst h;trivial
  ·obtain⟨p',rfl,h1⟩:=h;exact ih E p' h1
def nfM (n:Nat)(s:Tm)(left:List UInt8):Option Tm:=
 if 8<ownc s\/fl s left.length=false then none else
 if (mid n false id left s).ok nmL=true/\(mid n false id left s).pr.length<=300/\(mid n false id left s).size<=60 then some (mid n false id left s) else none
theorem asM {t:Tm}(hs:t.size<=121)(hf:FitT t){E:UInt8->UInt8->Prop}{s:Tm}(cx:Cx t E s id t.usd)(hlet:∀l∈othL t.usd,nmL l=true)(hfr:∀v,v∈s.free->nmL v=true)(ho:∀n once,s.size<=n->fl s (othL t.usd).length=true->ownc (mid n once id (othL t.usd) s)=ownc s):nfS t=nfM t.size s (othL t.usd):=by
 have g:=fun once=>aoe t.size once t t.usd s E id (nl _) hf cx;have hsz:s.size<=t.size:=(ac_ t _ _ cx.sm).2.2;unfold nfS nfM
 cases hfl:fl s (othL t.usd).length with
 | false=>
  rw[if_pos (show 8<ownc s\/false=false from .inr rfl)]
  split
  ·rfl
  ·split
   ·rfl
   ·rename_i h1 h2
    rcases (g false).2 hfl with h3|h3
    ·exact absurd h3 h2
    ·rw[if_neg (by rw[h3];simp)]
 | true=>
  have e1:=aez (g true) hfl;have e2:=aez (g false) hfl;have o1:=aiA t.size true id (othL t.usd) s hsz hfl hlet hfr;rw[e1,e2];simp only[aof _ (ajs _ o1),ho _ _ hsz hfl,Bool.false_eq_true,false_or,if_false,Bool.true_eq_false,or_false]
theorem aww {t t':Tm}(hg:Cg t t')(h:t.ok nmL=true)(h':t'.ok nmL=true)(hs:t.size<=121)(hs':t'.size<=121)(hf:FitT t)(hf':FitT t'):nfS t=nfS t':=by
 obtain⟨E,cx⟩:=aop h hs;have kp:=hg.keep;obtain⟨s',hm,lp⟩:=kp.sm E _ cx.nd cx.sm;have hu:t.usd=t'.usd:=aed (abo _) (abo _) kp.usd
 have cx':Cx t' E s' id t'.usd:=⟨hm,fun z hz=>aci (hz.elim ((okL_names h').1 z) ((okL_names h').2 z)),lp.bnd.nodup_iff.1 cx.nd,fun u v he=>by
  obtain⟨a1,a2,a3,a4⟩:=cx.rel u v he
  exact⟨a1,fun hv=>a2 (lp.bnd.mem_iff.2 hv),hu▸a3,a4⟩,hs'⟩
 have hlet:∀l∈othL t.usd,nmL l=true:=fun l hl=>(nmL_iff l).2 ((abv _ _).1 hl).1
 have hfr:∀v,v∈(numb t).free->nmL v=true:=fun v hv=>by
  obtain⟨w,hw,e⟩:=adQ t.sim id marksN (by have:=acB t.sim;have:=abq t;rw[aaZ];omega) v hv;rw[e];rw[sim_usd]at hw;exact(okL_names h).1 _ (usd_free t _ hw)
 have hfr':∀v,v∈s'.free->nmL v=true:=fun v hv=>by
  obtain⟨u,hu',he⟩:=atK t' E s' hm v hv;have e:u=v:=(cx'.rel u v he).1;exact(okL_names h').1 _ (usd_free t' _ (e▸hu'))
 have hsz:(numb t).size<=t.size:=(ac_ t _ _ cx.sm).2.2;have hsz':s'.size<=t'.size:=(ac_ t' _ _ cx'.sm).2.2;have hlet':∀l∈othL t'.usd,nmL l=true:=hu▸hlet;rw[asM hs hf cx hlet hfr fun n once h1 h2=>ajq n once id _ _ h1 (akB t E _ cx.sm) h2];rw[asM hs' hf' cx' hlet' hfr' fun n once h1 h2=>ajq n once id _ _ h1 (akB t' E _ hm) h2];unfold nfM;rw[<-hu,lp.ownc,lp.fl]
 cases hfl:fl s' (othL t.usd).length with
 | false=>rw[if_pos (.inr rfl),if_pos (.inr rfl)]
 | true=>
  have e1:mid t.size false id (othL t.usd) (numb t)=mid (t.size+t'.size+1) false id (othL t.usd) (numb t):=akA _ _ _ _ _ _ hsz (by omega);have e2:mid t'.size false id (othL t.usd) s'=mid (t.size+t'.size+1) false id (othL t.usd) s':=akA _ _ _ _ _ _ hsz' (by omega);rw[e1,e2,lp.mid (t.size+t'.size) id _ (by omega) (by rw[lp.fl];exact hfl) hlet hfr cx.nd]
def fnm (fr:List UInt8)(T:Tm):List UInt8:=fr.filter fun z=>decide (z∈T.free)
def shr (fr:List UInt8)(x y:Tm):Prop:=∃z,z∈fnm fr x/\z∈fnm fr y
def ayu (fr:List UInt8)(B:List Tm)(z:UInt8):Prop:=∃x∈B,z∈fnm fr x
structure Blk (fr:List UInt8) (B:List Tm):Prop where
 ne:B≠[]
 con:∀R:Tm->Prop,(∃x∈B,R x)->(∀x∈B,∀y∈B,R x->shr fr x y->R y)->∀x∈B,R x
 one:2<=B.length->∀x∈B,fnm fr x≠[]
def Apt (fr:List UInt8)(B D:List Tm):Prop:=∀z,ayu fr B z->ayu fr D z->False
theorem Apt.symm {fr:List UInt8}{B D:List Tm}(h:Apt fr B D):Apt fr D B:=fun z h1 h2=>h z h2 h1
structure Part (fr:List UInt8) (P:List (List Tm)) (us:List Tm):Prop where
 flat:P.flatten.Perm us
 blk:∀B∈P,Blk fr B
 apt:P.Pairwise (Apt fr)
def nB (fr:List UInt8)(B:List Tm):List UInt8:=fr.filter fun z=>B.any fun x=>decide (z∈x.free)
def tS (fr:List UInt8)(B:List Tm):Tm:=wrapO (nB fr B).reverse (joinR .par B)
def ajz (B:List Tm):Tm:=B.foldl (fun s t=>.par t s) .nil
theorem Cg.symm {a b:Tm}(h:Cg a b):Cg b a:=by
 induction h with
 | refl t=>exact .refl t
 | trans _ _ ih ih2=>exact .trans ih2 ih
 | comm p q=>exact .comm q p
 | assoc p q r=>exact .assoc' p q r
 | assoc' p q r=>exact .assoc p q r
 | nil p=>exact .nil' p
 | nil' p=>exact .nil p
 | swap x y p h=>exact .swap y x p fun e=>h e.symm
 | par _ _ ih ih2=>exact .par ih ih2
 | own x _ ih=>exact .own x ih
theorem aoH {a b:Tm}(h:Cg a b):∀ls:List UInt8,Cg (wrapO ls a) (wrapO ls b):=by
 intro ls
 induction ls with
 | nil=>exact h
 | cons x ls ih=>exact .own x ih
theorem atL:∀B:List Tm,B≠[]->Cg (joinR .par B) (B.foldr .par .nil):=by
 intro B
 induction B with
 | nil=>intro h;exact absurd rfl h
 | cons a l ih=>
  intro _
  cases l with
  | nil=>exact .nil' a
  | cons b l=>exact .par (.refl a) (ih (by simp))
theorem adV {B D:List Tm}(h:B.Perm D):Cg (B.foldr .par .nil) (D.foldr .par .nil):=by
 induction h with
 | nil=>exact .refl _
 | cons a _ ih=>exact .par (.refl a) ih
 | swap a b l=>exact .trans (.assoc' b a _) (.trans (.par (.comm b a) (.refl _)) (.assoc a b _))
 | trans _ _ ih ih2=>exact .trans ih ih2
theorem aoI {T q:Tm}(hq:q∈offT T):∀z,z∈q.free->z∈T.free:=by
 cases T with
 | rep p=>intro z hz;simp only[offT,List.mem_singleton]at hq;subst hq;rw[mf_rep];exact hz
 | _=>exact adN _ q hq
theorem aoJ (t:Tm):∀(ls:List UInt8) (z:UInt8),z∈(wrapO ls t).free↔z∈t.free/\z∉ls:=by
 intro ls
 induction ls with
 | nil=>intro z;simp[wrapO]
 | cons a ls ih=>intro z;show z∈(Tm.own a (wrapO ls t)).free↔_;rw[mf_own,ih,List.mem_cons];grind
theorem aoK:∀(l:List Tm) (z:UInt8),z∈(joinR .par l).free↔∃T∈l,z∈T.free:=by
 intro l
 induction l with
 | nil=>intro z;simp[joinR,Tm.free]
 | cons a l ih=>
  intro z
  cases l with
  | nil=>simp[joinR]
  | cons b l=>show z∈(Tm.par a (joinR .par (b::l))).free↔_;rw[mf_par,ih];simp
theorem arf {r:Tm}(h:NfForm r)(hs:r.smq=true):∀T∈r.thrs,T.smq=true:=by
 intro T hT;rw[<-(akv h).2.1]at hT;exact aoF r hs T hT
structure CompIs (fr:List UInt8) (us rs:List Tm):Prop where
 ex:∃P,Part fr P us/\All2 (fun B r=>nfS (tS fr B)=some r) P rs
structure Lev (fr:List UInt8) (us:List Tm):Prop where
 frl:∀l∈fr,nmL l=true
 ok:∀T∈us,T.ok nmL=true
 sz:fr.length+(us.map Tm.size).sum+us.length<=61
 bn:fr.length+(us.map fun T=>T.bnd.length).sum<=60
 pl:3 * fr.length+(us.map fun T=>T.pr.length).sum+3 * us.length<=303
theorem atM (B:List Tm):B.length<=(B.map Tm.size).sum:=by
 induction B with
 | nil=>simp
 | cons a l ih=>have:=aao a;simp only[List.length_cons,List.map_cons,List.sum_cons];omega
theorem al0:∀B:List Tm,(joinR .par B).size<=(B.map Tm.size).sum+B.length+1:=by
 intro B
 induction B with
 | nil=>simp[joinR,Tm.size]
 | cons a l ih=>
  cases l with
  | nil=>simp[joinR];omega
  | cons b l=>simp only[joinR,Tm.size,List.map_cons,List.sum_cons,List.length_cons]at ih ⊢;omega
theorem aoL:∀B:List Tm,(joinR .par B).bnd.length=(B.map fun T=>T.bnd.length).sum:=by
 intro B
 induction B with
 | nil=>simp[joinR,Tm.bnd]
 | cons a l ih=>
  cases l with
  | nil=>simp[joinR]
  | cons b l=>simp only[joinR,Tm.bnd,lla,List.map_cons,List.sum_cons]at ih ⊢;omega
theorem aiL (B:List Tm):ajz B=B.reverse.foldr .par .nil:=by unfold ajz;rw[List.foldr_reverse]
theorem awx:∀B:List Tm,(B.foldr Tm.par Tm.nil).size<=(B.map Tm.size).sum+B.length+1/\(B.foldr Tm.par Tm.nil).bnd.length=(B.map fun T=>T.bnd.length).sum/\((∀T∈B,T.ok nmL=true)->(B.foldr Tm.par Tm.nil).ok nmL=true):=by
 intro B
 induction B with
 | nil=>exact⟨by simp[Tm.size],rfl,fun _=>rfl⟩
 | cons a l ih=>
  simp only[List.foldr_cons,Tm.size,Tm.bnd,lla,List.map_cons,List.sum_cons,List.length_cons,Tm.ok,bae];exact⟨by omega,by omega,fun h=>⟨h a (by simp),ih.2.2 fun T hT=>h T (by simp[hT])⟩⟩
theorem adg (t:Tm):∀ls:List UInt8,(wrapO ls t).size=ls.length+t.size/\(wrapO ls t).bnd.length=ls.length+t.bnd.length:=by
 intro ls
 induction ls with
 | nil=>simp[wrapO]
 | cons a l ih=>exact⟨by show (wrapO l t).size+1=_;rw[ih.1];simp;omega,by show (a::(wrapO l t).bnd).length=_;rw[List.length_cons,ih.2];simp;omega⟩
theorem aoM:∀B:List Tm,(joinR .par B).pr.length<=(B.map fun T=>T.pr.length).sum+3 * B.length+1:=by
 intro B
 induction B with
 | nil=>simp[joinR,Tm.pr]
 | cons a l ih=>
  cases l with
  | nil=>simp[joinR];omega
  | cons b l=>simp only[joinR,Tm.pr,lla,List.map_cons,List.sum_cons,List.length_cons,List.length_nil]at ih ⊢;omega
theorem al1:∀B:List Tm,(B.foldr Tm.par Tm.nil).pr.length<=(B.map fun T=>T.pr.length).sum+3 * B.length+1:=by
 intro B
 induction B with
 | nil=>simp[Tm.pr]
 | cons a l ih=>simp only[List.foldr_cons,Tm.pr,lla,List.map_cons,List.sum_cons,List.length_cons,List.length_nil]at ih ⊢;omega
theorem acw (t:Tm):∀ls:List UInt8,(wrapO ls t).pr.length=3 * ls.length+t.pr.length:=by
 intro ls
 induction ls with
 | nil=>simp[wrapO]
 | cons a l ih=>show (Tm.own a (wrapO l t)).pr.length=_;simp only[Tm.pr,lla,List.length_cons,List.length_nil];rw[ih];omega
structure Fine (t:Tm):Prop where
 ok:t.ok nmL=true
 sz:t.size<=121
 ft:FitT t
 pl:t.pr.length<=400
theorem All2.comp {α β:Type}{P:List α}{Q:List α}{rs:List β}{R:α->β->Prop}{R':α->β->Prop}{E:α->α->Prop}(h:All2 E P Q)(k:All2 R P rs)(hm:∀a b r,a∈P->E a b->R a r->R' b r):All2 R' Q rs:=by
 induction h generalizing rs with
 | nil=>cases k;exact .nil
 | cons e _ ih=>
  cases k with
  | cons r k=>exact .cons (hm _ _ _ (by simp) e r) (ih k fun a b r ha=>hm a b r (by simp[ha]))
structure Pre (fr:List UInt8) (P:List (List Tm)) (L us:List Tm):Prop where
 flat:(P.flatten++L).Perm us
 blk:∀B∈P,Blk fr B
 apt:P.Pairwise (Apt fr)
 left:∀B∈P,∀T∈L,Apt fr B [T]
structure Scan (fr:List UInt8) (T:Tm) (all:List (List Tm)) (k:Nat) (A:List (List Tm)) (D:List Tm):Prop where
 ex:∃J:List (List Tm),D=[T]++J.flatten/\(A++J).Perm (all.take k)/\(∀B∈A,Apt fr B [T])/\∀B∈J,¬Apt fr B [T]
theorem adW:∀B:List Tm,(B.map Tm.size).sum+B.length<=(joinR .par B).size+1:=by
 intro B
 induction B with
 | nil=>simp
 | cons a l ih=>
  cases l with
  | nil=>simp[joinR]
  | cons b l=>simp only[joinR,Tm.size,List.map_cons,List.sum_cons,List.length_cons]at ih ⊢;omega
theorem aeS:∀B:List Tm,(B.map fun T=>T.pr.length).sum+3 * B.length<=(joinR .par B).pr.length+3:=by
 intro B
 induction B with
 | nil=>simp
 | cons a l ih=>
  cases l with
  | nil=>simp[joinR]
  | cons b l=>simp only[joinR,Tm.pr,lla,List.map_cons,List.sum_cons,List.length_cons,List.length_nil]at ih ⊢;omega
theorem atN (t:Tm):t.bnd.length+1<=t.size:=by
 induction t with
 | nil=>simp[Tm.bnd,Tm.size]
 | _=>simp only[Tm.bnd,Tm.size,lla,List.length_cons]<;>omega
theorem arg {nm:UInt8->Bool}{t:Tm}:∀ls:List UInt8,(wrapO ls t).ok nm=true->(∀l∈ls,nm l=true)/\t.ok nm=true:=by
 intro ls
 induction ls with
 | nil=>intro h;exact⟨by simp,h⟩
 | cons a ls ih=>
  intro h;have h':(Tm.own a (wrapO ls t)).ok nm=true:=h;simp only[Tm.ok,bae]at h';obtain⟨h1,h2⟩:=ih h'.2;exact⟨fun l hl=>(List.mem_cons.1 hl).elim (fun e=>e▸h'.1) (h1 l),h2⟩
theorem adX {t r:Tm}(h:nfI t=some r):r.ok nmL=true/\r.pr.length<=300/\r.size<=60:=by
 unfold nfI at h
 split at h
 ·cases h
 ·split at h
  ·rename_i h2;cases h;exact h2
  ·cases h
theorem awy {t r:Tm}(h:nfI t=some r):Lev r.fro.1 r.thrs:=by
 obtain⟨ho,hp,hs⟩:=adX h;obtain⟨ls,l,rfl,hl⟩:=afe h;have h1:∀T∈l,Thd T:=fun T hT=>(hl T hT).1;rw[adc,adU l h1,afO ls l h1];have e1:=adg (joinR .par l) ls;have e2:=acw (joinR .par l) ls;have e3:=adW l;have e4:=aeS l;have e5:=aoL l;have e6:=atN (wrapO ls (joinR .par l));obtain⟨o1,o2⟩:=arg ls ho;refine⟨by simpa using o1,ais l o2,?_,?_,?_⟩
 ·simp only[List.append_nil];omega
 ·simp only[List.append_nil];omega
 ·simp only[List.append_nil];omega
theorem al2 (n:Nat)(L:UInt8->UInt8)(left:List UInt8)(s:Tm)(hc:Neat s)(hf:fl s left.length=true)(hn:s.size<=n+1):∃l,levI (n+1) L left s=wrapO (left.take (lvl s).1.length) (joinR .par l)/\∀T∈l,Thd T:=by
 obtain⟨f1,f2,f3⟩:=acg hf;rw[abF];have hne:(visG ltU 200 (lvl s).1).map (candI n L left s)≠[]:=fun e=>acK ltU 199 _ (List.map_eq_nil_iff.1 e);obtain⟨o,_,e⟩:=List.mem_map.1 (abO _ hne);refine⟨_,rfl,fun t ht=>?_⟩;rw[<-e]at ht;obtain⟨T,hT,rfl⟩:=List.mem_map.1 ((aaG _ _).1 ht);exact(ahC n _ _ T (aba s T hT) (afd s hc T hT) (by rw[List.length_drop];exact f3 T hT) (by have:=aa_ s T hT;omega)).1
theorem aiM {t r:Tm}(h:nfI t=some r):Srt r.fro.1/\r.fro.1.length<=5:=by
 unfold nfI at h
 split at h
 ·cases h
 ·rename_i h1
  split at h
  ·cases h
   have hfl:fl (numb t) (othL t.usd).length=true:=by
    cases e:fl (numb t) (othL t.usd).length with
    | true=>rfl
    | false=>exact absurd (.inr e) h1
   obtain⟨m,hm⟩:∃m,t.size=m+1:=⟨t.size - 1,by have:=aao t;omega⟩;have hsz:(numb t).size<=t.size:=by unfold numb;rw[ach];exact abq t
   rw[hm]at hsz ⊢;obtain⟨l,e,hl⟩:=al2 m id (othL t.usd) (numb t) (afc _ _ _ (afb t)) hfl hsz;rw[e,adc,adU l hl];have h5:=(acg hfl).1;refine⟨by rw[List.append_nil];exact(adJ t.usd).sublist (List.take_sublist _ _),?_⟩;simp only[List.append_nil,List.length_take];omega
  ·cases h
set_option maxRecDepth 100000
def Nam (P Q:UInt8->Prop)(t:Tm):Prop:=(∀z,z∈t.free->P z)/\∀z,z∈t.bnd->Q z
theorem arh (t:Tm):∀ls:List UInt8,(wrapO ls t).bnd=ls++t.bnd:=by
 intro ls;induction ls with
 | nil=>rfl
 | cons a ls ih=>show a::(wrapO ls t).bnd=_;rw[ih];rfl
theorem aoN:∀(l:List Tm) (z:UInt8),z∈(joinR .par l).bnd↔∃T∈l,z∈T.bnd:=by
 intro l;induction l with
 | nil=>intro z;simp[joinR,Tm.bnd]
 | cons a l ih=>
  cases l with
  | nil=>intro z;simp[joinR]
  | cons b l=>intro z;simp only[joinR,Tm.bnd,lma];rw[ih];simp
theorem aoO:∀(l:List Tm) (z:UInt8),z∈(joinR .sum l).bnd↔∃T∈l,z∈T.bnd:=by
 intro l;induction l with
 | nil=>intro z;simp[joinR,Tm.bnd]
 | cons a l ih=>
  cases l with
  | nil=>intro z;simp[joinR]
  | cons b l=>intro z;simp only[joinR,Tm.bnd,lma];rw[ih];simp
theorem al3:∀(l:List Tm) (z:UInt8),z∈(joinR .sum l).free↔∃T∈l,z∈T.free:=by
 intro l;induction l with
 | nil=>intro z;simp[joinR,awj]
 | cons a l ih=>
  cases l with
  | nil=>intro z;simp[joinR]
  | cons b l=>intro z;simp only[joinR];rw[mf_sum,ih];simp
theorem aoP (f:(UInt8->UInt8)->List UInt8->Tm->Tm)(n:Nat)(P Q:UInt8->Prop) (ih:∀(L:UInt8->UInt8) (left:List UInt8) (s:Tm) (P:UInt8->Prop),s.size<=n->fl s left.length=true->s.bnd.Pairwise (·<·)->(∀l∈left,Q l)->(∀v,v∈s.free->P (L v))->Nam P Q (f L left s)) (L:UInt8->UInt8)(lf:List UInt8)(T:Tm)(hsz:T.size<=n+1)(hk:(∀p q,T≠.par p q)/\(∀x p,T≠.own x p)/\T≠.nil)(htf:tf T lf.length=true)(hb:T.bnd.Pairwise (·<·))(hl:∀l∈lf,Q l)(hL:∀v,v∈T.free->P (L v)) : Nam P Q (thI f L lf T):=by
 cases T with
 | nil=>exact absurd rfl hk.2.2
 | par p q=>exact absurd rfl (hk.1 p q)
 | own x p=>exact absurd rfl (hk.2.1 x p)
 | snd a b p=>
  simp only[Tm.size]at hsz;have h:=ih L lf p P (by omega) htf hb hl fun v hv=>hL v (by rw[mf_snd];simp[hv]);refine⟨fun z hz=>?_,fun z hz=>h.2 z hz⟩;rw[show thI f L lf (.snd a b p)=.snd (L a) (L b) (f L lf p) from rfl,mf_snd]at hz;rcases hz with rfl|rfl|hz
  ·exact hL a (by rw[mf_snd];simp)
  ·exact hL b (by rw[mf_snd];simp)
  ·exact h.1 z hz
 | tau p=>
  simp only[Tm.size]at hsz;have h:=ih L lf p P (by omega) htf hb hl fun v hv=>hL v (by rw[mf_tau];exact hv);exact⟨fun z hz=>h.1 z (by rwa[show thI f L lf (.tau p)=.tau (f L lf p) from rfl,mf_tau]at hz),fun z hz=>h.2 z hz⟩
 | rep p=>
  simp only[Tm.size]at hsz;have h:=ih L lf p P (by omega) htf hb hl fun v hv=>hL v (by rw[mf_rep];exact hv);exact⟨fun z hz=>h.1 z (by rwa[show thI f L lf (.rep p)=.rep (f L lf p) from rfl,mf_rep]at hz),fun z hz=>h.2 z hz⟩
 | mat a b p=>
  simp only[Tm.size]at hsz;have h1:=hL a (by rw[mf_mat];simp);have h2:=hL b (by rw[mf_mat];simp);have h:=ih L lf p P (by omega) htf hb hl fun v hv=>hL v (by rw[mf_mat];simp[hv]);simp only[thI];split
  ·refine⟨fun z hz=>?_,fun z hz=>h.2 z hz⟩;rw[mf_mat]at hz;rcases hz with rfl|rfl|hz
   ·exact h2
   ·exact h1
   ·exact h.1 z hz
  ·refine⟨fun z hz=>?_,fun z hz=>h.2 z hz⟩;rw[mf_mat]at hz;rcases hz with rfl|rfl|hz
   ·exact h1
   ·exact h2
   ·exact h.1 z hz
 | rcv a x p=>
  simp only[Tm.size]at hsz
  cases lf with
  | nil=>simp[tf]at htf
  | cons c lf=>
   simp only[Tm.bnd,List.pairwise_cons]at hb
   have h:=ih (upd L x c) lf p (fun z=>P z\/z=c) (by omega) (by
    simp only[tf,List.length_cons,bae]at htf
    simpa [fl] using htf) hb.2 (fun l h=>hl l (by simp[h])) (fun v hv=>by
    unfold upd;split
    ·exact .inr rfl
    ·rename_i e;exact .inl (hL v (by rw[mf_rcv];exact .inr ⟨hv,e⟩)))
   simp only[thI,List.headD_cons,List.tail_cons];refine⟨fun z hz=>?_,fun z hz=>?_⟩
   ·rw[mf_rcv]at hz;rcases hz with rfl|⟨hz,e⟩
    ·exact hL a (by rw[mf_rcv];simp)
    ·exact(h.1 z hz).resolve_right e
   ·simp only[Tm.bnd,List.mem_cons]at hz;rcases hz with rfl|hz
    ·exact hl z (by simp)
    ·exact h.2 z hz
 | sum p q=>
  have hsm:=(acX (.sum p q) lf.length).1 (by rw[afH];exact htf);have e1:thI f L lf (.sum p q)=joinR .sum (srtT ((smds (.sum p q)).map (f L lf))):=rfl;rw[e1]
  have H:∀r∈smds (.sum p q),Nam P Q (f L lf r):=fun r hr=>by
   have hrs:r.size<(Tm.sum p q).size:=by
    have hr':=hr;simp only[smds,lma]at hr';simp only[Tm.size];rcases hr' with hr'|hr'
    ·have:=aaL p r hr';omega
    ·have:=aaL q r hr';omega
   exact ih L lf r P (by omega) (hsm r hr) (hb.sublist (adP _ r hr)) hl fun v hv=>hL v (adN _ r hr v hv)
  refine⟨fun z hz=>?_,fun z hz=>?_⟩
  ·obtain⟨t,ht,hz⟩:=(al3 _ z).1 hz;obtain⟨r,hr,rfl⟩:=List.mem_map.1 ((aaG _ _).1 ht);exact(H r hr).1 z hz
  ·obtain⟨t,ht,hz⟩:=(aoO _ z).1 hz;obtain⟨r,hr,rfl⟩:=List.mem_map.1 ((aaG _ _).1 ht);exact(H r hr).2 z hz
theorem asN {L:UInt8->UInt8}{left:List UInt8}{s:Tm}{P:UInt8->Prop}(hf:fl s left.length=true)(hb:s.bnd.Pairwise (·<·))(hL:∀v,v∈s.free->P (L v)){o:List UInt8}(ho:o∈visG ltU 200 (lvl s).1){T:Tm}(hT:T∈(lvl s).2) : ∀v,v∈T.free->P (updL L o left v)\/updL L o left v∈left.take (lvl s).1.length:=by
 intro v hv;obtain⟨f1,f2,f3⟩:=acg hf;obtain⟨o1,o2⟩:=aju _ (hb.sublist (ajr s)) f1 ho
 by_cases hvo:v∈o
 ·right
  rw[<-o1,<-ait o L left];exact(ahs o L _ v (by rw[List.length_take];omega)).1 hvo
 ·left
  rw[(ahs o L left v (by omega)).2 hvo];rcases lvl_free s T hT v hv with h|h
  ·exact hL v h
  ·exact absurd (o2 v h) hvo
def topL (n:Nat)(L:UInt8->UInt8)(left:List UInt8)(s:Tm):List Tm:=bestL ((visG ltU 200 (lvl s).1).map (candI n L left s))
theorem ajA (n:Nat)(L:UInt8->UInt8)(left:List UInt8)(s:Tm):∃o,o∈visG ltU 200 (lvl s).1/\topL n L left s=candI n L left s o:=by
 have hne:(visG ltU 200 (lvl s).1).map (candI n L left s)≠[]:=fun e=>acK ltU 199 _ (List.map_eq_nil_iff.1 e);obtain⟨o,ho,e⟩:=List.mem_map.1 (abO _ hne);exact⟨o,ho,e.symm⟩
theorem ari (n:Nat)(L:UInt8->UInt8)(left:List UInt8)(s:Tm)(hc:Neat s)(hf:fl s left.length=true)(hn:s.size<=n+1):∀T∈topL n L left s,Thd T:=by
 intro t ht;obtain⟨o,ho,e⟩:=ajA n L left s;obtain⟨f1,f2,f3⟩:=acg hf;rw[e]at ht;obtain⟨T,hT,rfl⟩:=List.mem_map.1 ((aaG _ _).1 ht);exact(ahC n _ _ T (aba s T hT) (afd s hc T hT) (by rw[List.length_drop];exact f3 T hT) (by have:=aa_ s T hT;omega)).1
theorem arj (n:Nat):∀(L:UInt8->UInt8) (left:List UInt8) (s:Tm) (P R:UInt8->Prop),s.size<=n+1->fl s left.length=true->s.bnd.Pairwise (·<·)->(∀v,v∈s.free->P (L v))-> (∀c∈left.drop (lvl s).1.length,R c)->∀T∈topL n L left s,Nam (fun z=>P z\/z∈left.take (lvl s).1.length) R T:=by
 induction n with
 | zero=>
  intro L left s P R hn hf hb hL hR t ht;obtain⟨f1,f2,f3⟩:=acg hf;obtain⟨o,ho,e⟩:=ajA 0 L left s;rw[e]at ht;obtain⟨T,hT,rfl⟩:=List.mem_map.1 ((aaG _ _).1 ht);exact aoP (levI 0) 0 _ R (fun L left s P h1=>by have:=aao s;omega) _ _ T (by have:=aa_ s T hT;omega) (aba s T hT) (by rw[List.length_drop];exact f3 T hT) (hb.sublist (ae_ s T hT)) hR (asN hf hb hL ho hT)
 | succ n ih=>
  intro L left s P R hn hf hb hL hR t ht;obtain⟨f1,f2,f3⟩:=acg hf;obtain⟨o,ho,e⟩:=ajA (n+1) L left s;rw[e]at ht;obtain⟨T,hT,rfl⟩:=List.mem_map.1 ((aaG _ _).1 ht);refine aoP (levI (n+1)) (n+1) _ R (fun L left s P h1 h2 h3 h4 h5=>?_) _ _ T (by have:=aa_ s T hT;omega) (aba s T hT) (by rw[List.length_drop];exact f3 T hT) (hb.sublist (ae_ s T hT)) hR (asN hf hb hL ho hT);have k:=ih L left s P R h1 h2 h3 h5 (fun c hc=>h4 c (List.mem_of_mem_drop hc));rw[abF];refine⟨fun z hz=>?_,fun z hz=>?_⟩
  ·rw[aoJ]at hz;obtain⟨U,hU,hz1⟩:=(aoK _ z).1 hz.1;exact((k U hU).1 z hz1).resolve_right hz.2
  ·rw[arh,lma]at hz;rcases hz with hz|hz
   ·exact h4 z (List.mem_of_mem_take hz)
   ·obtain⟨U,hU,hz1⟩:=(aoN _ z).1 hz;exact(k U hU).2 z hz1
theorem ark {t r:Tm}(h:nfI t=some r)(hs:t.size<=121):∀U∈r.thrs,∀z,z∈U.bnd->z∉r.fro.1/\∀T∈r.thrs,z∉T.free:=by
 have hf:=afe h;unfold nfI at h
 split at h
 ·cases h
 ·rename_i h1
  split at h
  ·cases h
   have hfl:fl (numb t) (othL t.usd).length=true:=by
    cases e:fl (numb t) (othL t.usd).length with
    | true=>rfl
    | false=>exact absurd (.inr e) h1
   have hsz:(numb t).size<=t.size:=by unfold numb;rw[ach];exact abq t
   have hb:t.sim.bnd.length<=marksN.length:=by have:=acB t.sim;have:=abq t;rw[aaZ];omega
   obtain⟨m,hm⟩:∃m,t.size=m+1:=⟨t.size - 1,by have:=aao t;omega⟩;rw[hm]at hsz ⊢
   have hl':=arj m id (othL t.usd) (numb t) (fun z=>z∉othL t.usd) (fun c=>c∈(othL t.usd).drop (lvl (numb t)).1.length) hsz hfl (by rw[ada hs];exact acv.sublist (List.take_sublist _ _)) (fun v hv=>by
    obtain⟨w,hw,e⟩:=adQ _ _ _ hb v hv;rw[sim_usd]at hw
    rw[abv];exact fun h=>h.2 (by rw[id,e];exact hw)) (fun c hc=>hc)
   have hth:=ari m id (othL t.usd) (numb t) (afc _ _ _ (afb t)) hfl hsz
   -- the letters at the front and those behind them
   have hnd:=air t.usd;rw[<-List.take_append_drop (lvl (numb t)).1.length (othL t.usd),List.nodup_append]at hnd;rw[show levI (m+1) id (othL t.usd) (numb t)=wrapO ((othL t.usd).take (lvl (numb t)).1.length) (joinR .par (topL m id (othL t.usd) (numb t))) from rfl];rw[adc,adU _ hth,afO _ _ hth,List.append_nil];intro U hU z hz;have hzd:=(hl' U hU).2 z hz;refine⟨fun hf=>hnd.2.2 z hf z hzd rfl,fun T hT hz2=>?_⟩;rcases (hl' T hT).1 z hz2 with h|h
   ·exact h (List.mem_of_mem_drop hzd)
   ·exact hnd.2.2 z h z hzd rfl
  ·cases h
theorem aoQ {nm:UInt8->Bool}{a o m:UInt8}(ha:nm a=true)(hm:nm m=true):nm (sw a o m)=true:=by
 unfold sw;split
 ·exact hm
 ·exact ha
theorem atO (n:Nat):∀(t:Tm) (o m:UInt8),t.size<=n->m∉t.bnd->(R t o m).bnd=t.bnd/\∀nm:UInt8->Bool,t.ok nm=true->nm m=true->(R t o m).ok nm=true:=by
 induction n with
 | zero=>intro t o m h;have:=aao t;omega
 | succ n ih=>
  intro t o m hn hm
  by_cases h:o=m\/o∉t.free
  ·rw[abk _ _ _ h];exact⟨rfl,fun _ h _=>h⟩
  ·have hb:∀p x,p.size<=n->x≠m->m∉p.bnd->capX p x o m=x/\(RB p x o m).bnd=p.bnd/\∀nm:UInt8->Bool,p.ok nm=true->nm m=true->(RB p x o m).ok nm=true:=by
    intro p x h1 h2 h3;have e:capX p x o m=x:=by unfold capX;rw[if_neg (fun h=>h2 h.1)]
    refine⟨e,?_⟩;unfold RB;rw[e,if_neg (fun h:x=m/\o∈p.free=>h2 h.1)]
    split
    ·exact⟨rfl,fun _ h _=>h⟩
    ·exact ih p o m h1 h3
   cases t with
   | nil=>exact absurd (.inr (by simp[Tm.free])) h
   | snd a b p=>
    simp only[Tm.size]at hn;rw[aet h];obtain⟨i1,i2⟩:=ih p o m (by omega) hm;refine⟨i1,fun nm hk hmm=>?_⟩;simp only[Tm.ok,bae]at hk ⊢;exact⟨⟨aoQ hk.1.1 hmm,aoQ hk.1.2 hmm⟩,i2 nm hk.2 hmm⟩
   | rcv a x p=>
    simp only[Tm.size]at hn;rw[ae5 h];simp only[Tm.bnd,List.mem_cons,not_or]at hm;obtain⟨e,i1,i2⟩:=hb p x (by omega) (fun e=>hm.1 e.symm) hm.2;rw[e];refine⟨by simp only[Tm.bnd];rw[i1],fun nm hk hmm=>?_⟩;simp only[Tm.ok,bae]at hk ⊢;exact⟨⟨aoQ hk.1.1 hmm,hk.1.2⟩,i2 nm hk.2 hmm⟩
   | tau p=>simp only[Tm.size]at hn;rw[aev h];exact ih p o m (by omega) hm
   | sum p q=>
    simp only[Tm.size]at hn;rw[adI h];simp only[Tm.bnd,lma,not_or]at hm;obtain⟨i1,i2⟩:=ih p o m (by omega) hm.1;obtain⟨j1,j2⟩:=ih q o m (by omega) hm.2;refine⟨by simp only[Tm.bnd];rw[i1,j1],fun nm hk hmm=>?_⟩;simp only[Tm.ok,bae]at hk ⊢;exact⟨i2 nm hk.1 hmm,j2 nm hk.2 hmm⟩
   | par p q=>
    simp only[Tm.size]at hn;rw[ae6 h];simp only[Tm.bnd,lma,not_or]at hm;obtain⟨i1,i2⟩:=ih p o m (by omega) hm.1;obtain⟨j1,j2⟩:=ih q o m (by omega) hm.2;refine⟨by simp only[Tm.bnd];rw[i1,j1],fun nm hk hmm=>?_⟩;simp only[Tm.ok,bae]at hk ⊢;exact⟨i2 nm hk.1 hmm,j2 nm hk.2 hmm⟩
   | own x p=>
    simp only[Tm.size]at hn;rw[afx h];simp only[Tm.bnd,List.mem_cons,not_or]at hm;obtain⟨e,i1,i2⟩:=hb p x (by omega) (fun e=>hm.1 e.symm) hm.2;rw[e];refine⟨by simp only[Tm.bnd];rw[i1],fun nm hk hmm=>?_⟩;simp only[Tm.ok,bae]at hk ⊢;exact⟨hk.1,i2 nm hk.2 hmm⟩
   | mat a b p=>
    simp only[Tm.size]at hn;rw[aeu h];obtain⟨i1,i2⟩:=ih p o m (by omega) hm;refine⟨i1,fun nm hk hmm=>?_⟩;simp only[Tm.ok,bae]at hk ⊢;exact⟨⟨aoQ hk.1.1 hmm,aoQ hk.1.2 hmm⟩,i2 nm hk.2 hmm⟩
   | rep p=>simp only[Tm.size]at hn;rw[aew h];exact ih p o m (by omega) hm
theorem atP (n:Nat):∀(t:Tm) (o m:UInt8),t.size<=n->gp (R t o m)=gp t/\rq (R t o m)=rq t/\gq (R t o m)=gq t/\(R t o m).smp=t.smp/\(R t o m).smq=t.smq:=by
 induction n with
 | zero=>intro t o m h;have:=aao t;omega
 | succ n ih=>
  intro t o m hn
  by_cases h:o=m\/o∉t.free
  ·rw[abk _ _ _ h];exact⟨rfl,rfl,rfl,rfl,rfl⟩
  ·have hb:∀p x,p.size<=n->(RB p x o m).smp=p.smp/\(RB p x o m).smq=p.smq:=by
    intro p x h1;unfold RB
    split<;>split
    ·exact(ih _ _ _ h1).2.2.2
    ·exact⟨rfl,rfl⟩
    ·have a:=(ih p x (capX p x o m) h1).2.2.2;have b:=(ih (R p x (capX p x o m)) o m (by rw[R_size];exact h1)).2.2.2;exact⟨b.1.trans a.1,b.2.trans a.2⟩
    ·exact(ih _ _ _ h1).2.2.2
   cases t with
   | nil=>exact absurd (.inr (by simp[Tm.free])) h
   | snd a b p=>simp only[Tm.size]at hn;rw[aet h];exact⟨rfl,rfl,rfl,(ih p o m (by omega)).2.2.2⟩
   | rcv a x p=>simp only[Tm.size]at hn;rw[ae5 h];exact⟨rfl,rfl,rfl,hb p x (by omega)⟩
   | tau p=>simp only[Tm.size]at hn;rw[aev h];exact⟨rfl,rfl,rfl,(ih p o m (by omega)).2.2.2⟩
   | sum p q=>
    simp only[Tm.size]at hn;rw[adI h];obtain⟨a1,a2,a3,a4,a5⟩:=ih p o m (by omega);obtain⟨b1,b2,b3,b4,b5⟩:=ih q o m (by omega);exact⟨rfl,rfl,rfl,by simp only[Tm.smp];rw[a1,a4,b1,b4],by simp only[Tm.smq];rw[a3,a5,b3,b5]⟩
   | par p q=>
    simp only[Tm.size]at hn;rw[ae6 h];obtain⟨a1,a2,a3,a4,a5⟩:=ih p o m (by omega);obtain⟨b1,b2,b3,b4,b5⟩:=ih q o m (by omega);exact⟨rfl,rfl,rfl,by simp only[Tm.smp];rw[a4,b4],by simp only[Tm.smq];rw[a5,b5]⟩
   | own x p=>simp only[Tm.size]at hn;rw[afx h];exact⟨rfl,rfl,rfl,hb p x (by omega)⟩
   | mat a b p=>simp only[Tm.size]at hn;rw[aeu h];exact⟨rfl,rfl,rfl,(ih p o m (by omega)).2.2.2⟩
   | rep p=>
    simp only[Tm.size]at hn;rw[aew h];obtain⟨a1,a2,a3,a4,a5⟩:=ih p o m (by omega);exact⟨rfl,rfl,rfl,by simp only[Tm.smp];rw[a2,a4],by simp only[Tm.smq];rw[a2,a5]⟩
-- what is behind a step,as both sides make it
def tR (fr:List UInt8)(B:List Tm):Tm:=wrapO fr (joinR .par B)
def tP (fr:List UInt8)(B:List Tm):Tm:=wrapO fr.reverse (ajz B)
theorem arl (t:Tm){ls ms:List UInt8}(h:ls.Perm ms):ls.Nodup->Cg (wrapO ls t) (wrapO ms t):=by
 induction h with
 | nil=>exact fun _=>.refl _
 | cons a _ ih=>exact fun hn=>.own a (ih (List.nodup_cons.1 hn).2)
 | swap a b l=>exact fun hn=>.swap b a _ fun e=>by subst e;exact absurd (List.mem_cons_self ..) (List.nodup_cons.1 hn).1
 | trans h1 _ ih ih2=>exact fun hn=>.trans (ih hn) (ih2 ((h1.nodup_iff).1 hn))
theorem ahD (B:List Tm):Cg (joinR .par B) (B.foldr .par .nil):=by
 cases B with
 | nil=>exact .refl _
 | cons a l=>exact atL _ (by simp)
theorem awz (a b:Tm)(D2:List Tm):∀D1:List Tm,Cg ((D1++.par a b::D2).foldr .par .nil) ((D1++a::b::D2).foldr .par .nil):=by
 intro D1
 induction D1 with
 | nil=>exact .assoc a b _
 | cons c D1 ih=>exact .par (.refl c) ih
theorem awA {fr:List UInt8}(hn:fr.Nodup){B D:List Tm}(h:Cg (B.foldr .par .nil) (D.foldr .par .nil)):Cg (tR fr B) (tP fr D):=by
 unfold tR tP;refine .trans (arl _ (List.reverse_perm fr).symm hn) (aoH (.trans (ahD B) (.trans h ?_)) _);have e:ajz D=D.reverse.foldr .par .nil:=by unfold ajz;rw[List.foldr_reverse]
 rw[e];exact adV (List.reverse_perm D).symm
structure Fine7 (t:Tm):Prop where
 ok:t.ok nmL=true
 sz:t.size<=121
 ft:FitT t
 pl:t.pr.length<=700
structure Lev7 (fr:List UInt8) (B:List Tm):Prop where
 frl:∀l∈fr,nmL l=true
 ok:∀T∈B,T.ok nmL=true
 sz:fr.length+(B.map Tm.size).sum+B.length<=120
 bn:∀T∈B,fr.length+T.bdp<=60
 f5:fr.length<=60
 pl:3 * fr.length+(B.map fun T=>T.pr.length).sum+3 * B.length<=699
theorem Lev7.perm {fr:List UInt8}{B D:List Tm}(h:Lev7 fr B)(hp:B.Perm D):Lev7 fr D:=by
 have h1:=(hp.map Tm.size).sum_nat;have h2:=(hp.map fun T:Tm=>T.pr.length).sum_nat;have h3:=hp.length_eq;have s:=h.sz;have p:=h.pl;exact⟨h.frl,fun T hT=>h.ok T (hp.mem_iff.2 hT),by omega,fun T hT=>h.bn T (hp.mem_iff.2 hT),h.f5,by omega⟩
theorem Lev7.two {fr:List UInt8}{D1 D2:List Tm}{a b:Tm}(h:Lev7 fr (D1++a::b::D2)):Lev7 fr (D1++.par a b::D2):=by
 have ha:=h.ok a (by simp);have hb:=h.ok b (by simp);have ba:=h.bn a (by simp);have bb:=h.bn b (by simp);have s:=h.sz;have p:=h.pl;simp only[List.map_append,List.sum_append,List.map_cons,List.sum_cons,lla,List.length_cons]at s p;refine⟨h.frl,fun T hT=>?_,?_,fun T hT=>?_,h.f5,?_⟩
 ·rcases lma.1 hT with hT|hT
  ·exact h.ok T (by simp[hT])
  ·rcases List.mem_cons.1 hT with rfl|hT
   ·simp only[Tm.ok,bae];exact⟨ha,hb⟩
   ·exact h.ok T (by simp[hT])
 ·simp only[List.map_append,List.sum_append,List.map_cons,List.sum_cons,lla,List.length_cons,Tm.size];omega
 ·rcases lma.1 hT with hT|hT
  ·exact h.bn T (by simp[hT])
  ·rcases List.mem_cons.1 hT with rfl|hT
   ·simp only[Tm.bdp];omega
   ·exact h.bn T (by simp[hT])
 ·simp only[List.map_append,List.sum_append,List.map_cons,List.sum_cons,lla,List.length_cons,Tm.pr,List.length_nil];omega
theorem aiN (t:Tm):∀ls:List UInt8,(wrapO ls t).bdp=ls.length+t.bdp:=by
 intro ls
 induction ls with
 | nil=>simp[wrapO]
 | cons a l ih=>show (Tm.own a (wrapO l t)).bdp=_;simp only[Tm.bdp,List.length_cons];rw[ih];omega
theorem aoR {k:Nat}:∀B:List Tm,(∀T∈B,T.bdp<=k)->(B.foldr Tm.par Tm.nil).bdp<=k:=by
 intro B
 induction B with
 | nil=>intro _;simp[Tm.bdp]
 | cons a l ih=>
  intro h;have h1:=h a (by simp);have h2:=ih fun T hT=>h T (by simp[hT]);simp only[List.foldr_cons,Tm.bdp];omega
theorem aoS {k:Nat}:∀B:List Tm,(∀T∈B,T.bdp<=k)->(joinR .par B).bdp<=k:=by
 intro B
 induction B with
 | nil=>intro _;simp[joinR,Tm.bdp]
 | cons a l ih=>
  intro h;have h1:=h a (by simp);have h2:=ih fun T hT=>h T (by simp[hT])
  cases l with
  | nil=>exact h1
  | cons b l=>simp only[joinR,Tm.bdp]at h2 ⊢;omega
theorem ayv {t:Tm}(h:t.ok nmL=true)(hb:t.bdp<=60):Fit t:=by
 have h1:=acF (aav t) ahn (fun z hz=>(ajm z).2 (lets_free t h z hz));have h2:aqZ.length=26:=by unfold aqZ;simp
 unfold Fit;omega
theorem Lev7.spec {fr:List UInt8}{B:List Tm}(h:Lev7 fr B):Fine7 (tR fr B):=by
 have s:=h.sz;have p:=h.pl;have f:=h.f5;have h4:=al0 B;have h6:=adg (joinR .par B) fr;have h7:=acw (joinR .par B) fr;have h8:=aoM B;have ho:(tR fr B).ok nmL=true:=aht _ h.frl (ahu B h.ok)
 have hd:(tR fr B).bdp<=60:=by
  unfold tR;rw[aiN];have:=aoS (k:=60 - fr.length) B fun T hT=>by have:=h.bn T hT;omega
  omega
 exact⟨ho,by unfold tR;omega,.inl (ayv ho hd),by unfold tR;omega⟩
theorem Lev7.prog {fr:List UInt8}{B:List Tm}(h:Lev7 fr B):Fine7 (tP fr B):=by
 have g:=h.perm (List.reverse_perm B).symm;have s:=g.sz;have p:=g.pl;have f:=h.f5;obtain⟨f1,f2,f3⟩:=awx B.reverse;have f4:=al1 B.reverse;rw[<-aiL]at f1 f2 f3 f4;have h6:=adg (ajz B) fr.reverse;have h7:=acw (ajz B) fr.reverse;rw[List.length_reverse]at h6 h7;have ho:(tP fr B).ok nmL=true:=aht _ (fun l hl=>h.frl l (List.mem_reverse.1 hl)) (f3 g.ok)
 have hd:(tP fr B).bdp<=60:=by
  unfold tP;rw[aiN,List.length_reverse,aiL];have:=aoR (k:=60 - fr.length) B.reverse fun T hT=>by have:=g.bn T hT;omega
  omega
 exact⟨ho,by unfold tP;omega,.inl (ayv ho hd),by unfold tP;omega⟩
theorem aoT {fr:List UInt8}(hn:fr.Nodup){B D:List Tm}(hB:Lev7 fr B)(hD:Lev7 fr D)(h:Cg (B.foldr .par .nil) (D.foldr .par .nil)):nfS (tR fr B)=nfI (tP fr D):=by
 have a:=hB.spec;have b:=hD.prog;rw[aww (awA hn h) a.ok b.ok a.sz b.sz a.ft b.ft];exact ajt b.ok b.sz b.ft
open Go.RowKit
open Go.Sort (Holds putRow putCells swp mapBlock onCells)
theorem afR:∀(i:Nat) (a b:List (List UInt8)),a.take i=b.take i->i<=a.length->i<=b.length->agS a b=agS (a.drop i) (b.drop i)
 | 0,_,_,_,_,_=>rfl
 | i+1,[],_,_,h,_=>by simp at h
 | i+1,_::_,[],_,_,h=>by simp at h
 | i+1,x::a,y::b,h,h1,h2=>by
  simp only[List.take_succ_cons,List.cons.injEq]at h;obtain⟨rfl,h⟩:=h;have:=afR i a b h (by simpa using h1) (by simpa using h2);rw[List.drop_succ_cons,List.drop_succ_cons,<-this,agS,if_neg (lt_irr x),if_neg (lt_irr x)]
theorem arm (i:Nat)(a b:List (List UInt8))(x y:List UInt8)(h:a.take i=b.take i)(ha:a[i]?=some x)(hb:b[i]?=some y)(hlt:x<y):agS a b=true:=by
 obtain⟨h1,rfl⟩:=List.getElem?_eq_some_iff.1 ha;obtain⟨h2,rfl⟩:=List.getElem?_eq_some_iff.1 hb;rw[afR i a b h (by omega) (by omega),List.drop_eq_getElem_cons h1,List.drop_eq_getElem_cons h2];rw[agS,if_pos hlt]
theorem atQ (i:Nat)(a b:List (List UInt8))(x y:List UInt8)(h:a.take i=b.take i)(ha:a[i]?=some x)(hb:b[i]?=some y)(hlt:y<x):agS a b=false:=by
 obtain⟨h1,rfl⟩:=List.getElem?_eq_some_iff.1 ha;obtain⟨h2,rfl⟩:=List.getElem?_eq_some_iff.1 hb;rw[afR i a b h (by omega) (by omega),List.drop_eq_getElem_cons h1,List.drop_eq_getElem_cons h2];rw[agS,if_neg (fun e=>List.lt_asymm hlt e),if_pos hlt]
theorem aoU (a:List (List UInt8)):agS a a=false:=by
 induction a with
 | nil=>rfl
 | cons x a ih=>rw[agS,if_neg (lt_irr x),if_neg (lt_irr x)];exact ih
theorem ajB (enc:UInt8->Value)(w:World)(g k:Nat)(l m:List UInt8)(hk:k+m.length=l.length):putRow enc (putRow enc w g 0 l.toArray) g k m.toArray=putRow enc w g 0 (l.take k++m).toArray:=by
 unfold putRow;rw[Go.Sort.mapBlock_mapBlock];refine Go.Sort.mapBlock_congr _ _ _ _ fun c e fr _=>?_
 apply Array.ext_getElem?
 intro j;simp only[putCells,Array.getElem?_mapIdx,Option.map_map]
 cases c[j]? with
 | none=>rfl
 | some x=>
  simp only[Option.map_some,Function.comp,List.size_toArray,lla,List.length_take];congr 1;have hmin:min k l.length=k:=by omega
  rw[hmin]
  by_cases h1:k<=j/\j<k+m.length
  ·rw[if_pos h1,if_pos ⟨Nat.zero_le _,by omega⟩];congr 1;rw[getElem!_pos _ _ (by simp;omega),getElem!_pos _ _ (by simp;omega)];simp only[List.getElem_toArray,Nat.sub_zero];rw[List.getElem_append_right (by simp;omega)];congr 1;simp;omega
  ·rw[if_neg h1]
   by_cases h2:j<l.length
   ·rw[if_pos ⟨Nat.zero_le _,by omega⟩,if_pos ⟨Nat.zero_le _,by omega⟩];congr 1;rw[getElem!_pos _ _ (by simp;omega),getElem!_pos _ _ (by simp;omega)];simp only[List.getElem_toArray,Nat.sub_zero];rw[List.getElem_append_left (by simp;omega),List.getElem_take]
   ·rw[if_neg (by omega),if_neg (by omega)]
theorem arn (l:List UInt8)(i j:Nat)(a b:UInt8)(ha:l[i]?=some a)(hb:l[j]?=some b):swp l.toArray i j=((l.set i b).set j a).toArray:=by
 obtain⟨h1,rfl⟩:=List.getElem?_eq_some_iff.1 ha;obtain⟨h2,rfl⟩:=List.getElem?_eq_some_iff.1 hb;unfold swp;rw[getElem!_pos _ _ (by simpa using h2),getElem!_pos _ _ (by simpa using h1)];simp
theorem al4 (enc:UInt8->Value){w:World}{g:Nat}{l:List UInt8}(h:Holds enc w g 0 l.toArray)(k:Nat)(hk:k<=l.length):Holds enc w g k (l.drop k).toArray:=by
 intro j hj;have hj':j<l.length - k:=by simpa using hj
 have:=h (k+j) (by simp;omega);rw[Nat.zero_add]at this
 refine⟨this.1.trans ?_,this.2⟩;rw[getElem!_pos _ _ (by simp;omega),getElem!_pos ((l.drop k).toArray) j hj];simp
theorem adu (w:World)(m n:Nat):(Sort.ahead w m).drewN n=Sort.ahead w (m+n):=by simp[Sort.ahead,World.drewN,Nat.add_assoc]
theorem al5 (enc:UInt8->Value)(w:World)(g:Nat)(o:List UInt8)(i j:Nat)(a b:UInt8)(m n:Nat)(hi:i<o.length) : putRow enc (Sort.ahead (putRow enc (Sort.ahead w m) g 0 ((o.set i b).set j a).toArray) n) g (i+1) ((((o.set i b).set j a).drop (i+1)).reverse).toArray=putRow enc (Sort.ahead w (m+n)) g 0 (aiC o i j a b).toArray:=by
 rw[<-Go.Sort.putRow_ahead,Go.Sort.ahead_ahead,ajB enc _ g (i+1) _ _ (by simp;omega)];rfl
-- a row of one's own whose cells are put anew
section
variable {α:Type} [Inhabited α] (enc:α->Value)
theorem aro {w:World}{g n:Nat}{cur:Array Value}{e:TypeId}{fr:Nat × Nat}(d:Array α)(hb:w.heap[g]?=some (.cells cur e fr)) : (putRow enc (Sort.ahead w n) g 0 d).heap[g]?=some (.cells (putCells enc 0 d cur) e fr):=by
 simp[putRow,mapBlock,Sort.ahead,Array.getElem?_modify,hb,onCells]
theorem aoV {w:World}{g n:Nat}(d:Array α):w.grownBy (putRow enc (Sort.ahead w n) g 0 d) (some g):=by
 refine⟨rfl,rfl,rfl,by simp,fun k hk hne=>?_⟩;have:g≠k:=fun e=>hne (by rw[e]);simp[putRow,mapBlock,Sort.ahead,Array.getElem?_modify,this]
theorem arp (cur:Array Value)(ts:List α)(h:ts.length<=cur.size):(putCells enc 0 ts.toArray cur).toList.take ts.length=ts.map enc:=by
 apply List.ext_getElem?
 intro j
 by_cases hj:j<ts.length
 ·rw[List.getElem?_take_of_lt hj,Array.getElem?_toList];simp[putCells,hj,show j<cur.size by omega]
 ·rw[List.getElem?_take_eq_none (by omega),List.getElem?_eq_none (by simp;omega)]
theorem arq {w:World}{base g cap n m:Nat}{e:TypeId}{cur:Array Value}{ts:List α}(hl:ts.length=m)(hbase:base<=g)(hb:w.heap[g]?=some (.cells cur e (0,0)))
  (h1:m<=cap)(h2:cap<=maxLen)(h3:cur.size=cap * 1) :
  (putRow enc (Sort.ahead w n) g 0 ts.toArray).ownsRow base e 1 (.slice (some ⟨g,0,none⟩) m cap) m (ts.map enc):=
 ⟨by simp[hl],.inr ⟨g,cap,_,rfl,hbase,aro enc _ hb,h1,h2,by simp[putCells,h3],by rw[Nat.mul_one,<-hl];exact arp enc cur ts (by omega)⟩⟩
theorem adv {w:World}{g:Nat}{cur:Array Value}{e:TypeId}{ss:List α}(hb:w.heap[g]?=some (.cells cur e (0,0)))(ht:cur.toList.take ss.length=ss.map enc):Holds enc w g 0 ss.toArray:=by
 intro j hj;have hj':j<ss.length:=by simpa using hj
 refine⟨?_,by simp[World.frozen?,hb]⟩;have h1:(cur.toList.take ss.length)[j]?=(ss.map enc)[j]?:=by rw[ht]
 rw[List.getElem?_take_of_lt hj']at h1;simp only[World.cell?,hb,Nat.zero_add];simp only[Option.isSome_none,Bool.false_eq_true,if_false];rw[<-Array.getElem?_toList,h1];simp[hj']
end
open Go.Sort (Holds putRow putCells swp)
def ax9:Prop:=∀(g k c:Nat) (zs:List UInt8) (w:World),Holds ub w g k zs.toArray->zs.length<=1000->
 Calls prog 200 #[.slice (some ⟨g,k,none⟩) zs.length c] w fun e w'=>e=.returned (.tuple #[])/\∃n,w'=putRow ub (Sort.ahead w n) g k zs.reverse.toArray
def NxP (o:List UInt8)(g:Nat)(w:World)(e:Ending)(w':World):Prop:=
 e=.returned (.bool (nextG ltU o).isSome)/\∃q,w'=putRow ub (Sort.ahead w q) g 0 ((nextG ltU o).getD o).toArray
theorem ab3 {w:World}{g:Nat}{o:List UInt8}(h:Holds ub w g 0 o.toArray)(k:Nat)(hk:k<o.length):w.cell? ⟨g,k,none⟩=some (.int .u8 (o[k].toNat:Int))/\w.frozen? ⟨g,k,none⟩=false:=by
 have:=h k (by simpa using hk);rw[Nat.zero_add,getElem!_pos _ _ (by simpa using hk)]at this
 simpa [ub] using this
theorem arr (HR:ax9)(o:List UInt8)(g i j:Nat)(a b:UInt8)(c:Nat)(w W:World)(m n:Nat)(n0 n1:Int)(hH:Holds ub w g 0 o.toArray)(hn:n+1=o.length)(hij:i<j)(hj:j<=n)(ha:o[i]?=some a)(hb:o[j]?=some b)(h0:n0=(a.toNat:Int))(h1:n1=(b.toNat:Int))(hW:W=Sort.ahead w m)(hl:o.length<=1000) : Calls prog 200 #[.slice (some ⟨g,i+1,none⟩) (n - i) c] ((W.setCell ⟨g,i,none⟩ (.int .u8 n1)).setCell ⟨g,j,none⟩ (.int .u8 n0)).drew fun e w'=> e=.returned (.tuple #[])/\∃q,w'=putRow ub (Sort.ahead w q) g 0 (aiC o i j a b).toArray:=by
 have hself:W=putRow ub (Sort.ahead w m) g 0 o.toArray:=by rw[hW];exact(Go.Sort.putRow_self ub (Sort.ahead w m) g 0 _ hH).symm
 obtain⟨hi,ea⟩:=List.getElem?_eq_some_iff.1 ha;obtain⟨hjl,eb⟩:=List.getElem?_eq_some_iff.1 hb;have hsw:=swap_world ub (i:=i) (j:=j) (dk:=o.toArray) (by simpa using hi) (by simpa using hjl) hself (x:=.int .u8 n1) (y:=.int .u8 n0) (by rw[h1,getElem!_pos _ _ (by simpa using hjl)];simp[ub,eb]) (by rw[h0,getElem!_pos _ _ (by simpa using hi)];simp[ub,ea]);rw[Nat.zero_add,Nat.zero_add]at hsw;rw[hsw,arn o i j a b ha hb];have hlen:((o.set i b).set j a).length=o.length:=by simp
 have hH2:Holds ub (putRow ub (Sort.ahead w (m+1)) g 0 ((o.set i b).set j a).toArray) g 0 ((o.set i b).set j a).toArray:=
  Go.Sort.holds_putRow ub _ g 0 o.toArray _ (Go.Sort.holds_ahead ub w _ g 0 _ hH) (by simp)
 have hd:=al4 ub hH2 (i+1) (by omega);have hdl:(((o.set i b).set j a).drop (i+1)).length=n - i:=by rw[List.length_drop,hlen];omega
 have:=HR g (i+1) c _ _ hd (by rw[hdl];omega);rw[hdl]at this
 refine this.mono ?_
 rintro e w' ⟨rfl,q,rfl⟩;exact⟨rfl,m+1+q,al5 ub w g o i j a b (m+1) q hi⟩
theorem ahE (HR:ax9)(o:List UInt8)(g cap:Nat)(hn:o.length<=1000)(hc:o.length<=cap)(w:World)(hH:Holds ub w g 0 o.toArray) : Calls prog 178 #[.slice (some ⟨g,0,none⟩) o.length cap] w (NxP o g w):=by
 have HR':=qz HR;have HH:=qz hH;obtain⟨n,hnn⟩:∃n,n=o.length:=⟨_,rfl⟩;have HN:=qz hnn;rw[<-hnn]at hn hc ⊢;clear hH hnn HR
 cases n with
 | zero=>
  have e0:Hid (nextG ltU o=none):=aeA _ _ fun i j _ hj=>by rw[<-HN.out]at hj;omega
  have e1:Hid (w=putRow ub (Sort.ahead w 0) g 0 o.toArray):=(Go.Sort.putRow_self ub w g 0 _ HH.out).symm
  go_enter func178,ntmps178
  go_wp2_with fail
  go_loopg [3] 1 (fun k s3 wr=>s3=.int .i64 (-2)/\wr=w)
  case atStart=>exact⟨by congr 1,rfl⟩
  case round=>
   obtain⟨rfl,rfl⟩:=hrel;go_wp2_with fail;go_ret;exact⟨by rw[e0.out];rfl,0,by rw[e0.out];exact e1.out⟩
 | succ n=>
  obtain⟨R,hR⟩:∃R:Prop,R=True:=⟨_,rfl⟩
  have nxtS:Hid (∀(k l:Nat) (a b:UInt8),k<l->l<n+1->o[k]?=some a->o[l]?=some b->a<b->(∀j,l<j->j<n+1->asc ltU o k j=false)->(∀i j,k<i->i<j->j<n+1->asc ltU o i j=false)->nextG ltU o=some (aiC o k l a b)):=
   fun k l a b h1 h2 h3 h4 h5 h6 h7=>alU ltU o k l a b h1 (by rw[<-HN.out];exact h2) h3 h4 (by unfold ltU;exact decide_eq_true h5) (fun j a1 a2=>h6 j a1 (by rw[HN.out];exact a2)) (fun i j a1 a2 a3=>h7 i j a1 a2 (by rw[HN.out];exact a3))
  have nxtN:Hid ((∀i j,i<j->j<n+1->asc ltU o i j=false)->nextG ltU o=none):=fun h=>aeA _ _ fun i j a1 a2=>h i j a1 (by rw[HN.out];exact a2);have hself:Hid (∀q,Sort.ahead w q=putRow ub (Sort.ahead w q) g 0 o.toArray):=fun q=>(Go.Sort.putRow_self ub (Sort.ahead w q) g 0 _ HH.out).symm
  go_enter func178,ntmps178
  go_wp2_with fail
  go_loopg [3] (n+1) (fun k s3 wr=>k<=n+1/\1<=k/\s3=.int .i64 ((k:Int) - 2)/\Hid (∃q,wr=Sort.ahead w q)/\Hid (∀i j,k<=i+1->i<j->j<n+1->asc ltU o i j=false))
  case atStart=>exact⟨nl _,by omega,by congr 1,⟨0,rfl⟩,fun i j h1 h2 h3=>by omega⟩
  case round=>
   obtain⟨hk1,hk2,rfl,hwr,hasc⟩:=hrel;obtain⟨q,hq⟩:=hwr.out;have HQ:=qz hq;have HA:=qz hasc.out;clear hq hwr hasc
   by_cases hlt:(0:Int)<=(gk:Int) - 2
   ·obtain⟨i,rfl⟩:∃i,gk=i+2:=⟨gk - 2,by omega⟩;obtain⟨a,ha⟩:∃a,o[i]?=some a:=⟨_,List.getElem?_eq_getElem (by rw[<-HN.out];omega)⟩;have hi:((i+2:Nat):Int) - 2=(i:Int):=by omega
    rw[hi]at hlt ⊢;clear hi;have Ha:=qz ha;have hin:i+1<=n:=by omega
    clear ha hk1 hk2;go_wp2_with fail
    go_loopg [4] n (fun k s4 wr'=>k<=n/\i<=k/\s4=.int .i64 (k:Int)/\Hid (∃q,wr'=Sort.ahead w q)/\Hid (∀j,k<j->j<n+1->asc ltU o i j=false))
    case atStart=>exact⟨nl _,by omega,by congr 1,⟨q,HQ.out⟩,fun j h1 h2=>by omega⟩
    case round=>
     obtain⟨hk1,hk2,rfl,hwr,hasj⟩:=hrel;obtain⟨q2,hq2⟩:=hwr.out;have HQ2:=qz hq2;have HJ:=qz hasj.out;have hsz:wr.heap.size=w.heap.size:=by rw[hq2];rfl
     by_cases hgt:i<gk
     ·obtain⟨b,hb⟩:∃b,o[gk]?=some b:=⟨_,List.getElem?_eq_getElem (by rw[<-HN.out];omega)⟩;obtain⟨n0,hn0⟩:∃n0:Int,n0=(a.toNat:Int):=⟨_,rfl⟩;obtain⟨n1,hn1⟩:∃n1:Int,n1=(b.toNat:Int):=⟨_,rfl⟩;have hoi:i<o.length:=by rw[<-HN.out];omega
      have hog:gk<o.length:=by rw[<-HN.out];omega
      have c1:wr.cell? ⟨g,i,none⟩=some (.int .u8 n0):=by
       rw[hq2,hn0,show a=o[i] from (by have:=Ha.out;rw[List.getElem?_eq_getElem hoi]at this;exact(Option.some.inj this).symm)];exact(ab3 HH.out i hoi).1
      have c2:wr.cell? ⟨g,gk,none⟩=some (.int .u8 n1):=by
       rw[hq2,hn1,show b=o[gk] from (by have:=hb;rw[List.getElem?_eq_getElem hog]at this;exact(Option.some.inj this).symm)];exact(ab3 HH.out gk hog).1
      have f1:wr.frozen? ⟨g,i,none⟩=false:=by rw[hq2];exact(ab3 HH.out i hoi).2
      have f2:wr.frozen? ⟨g,gk,none⟩=false:=by rw[hq2];exact(ab3 HH.out gk hog).2
      have hgi:(i:Int)<(gk:Int):=by omega
      have Hb:=qz hb;have HN0:=qz hn0;have HN1:=qz hn1;clear hq2 hwr hasj hn0 hn1 hb hoi hog
      by_cases hab:n0<n1
      ·go_wp2_with fail
       go_quiet (fail)
       obtain⟨W,hW⟩:∃W,W=wr.drewN nq:=⟨_,rfl⟩;have HW:Hid (W=Sort.ahead w (q2+nq)):=by show _=_;rw[hW,HQ2.out,adu]
       rw[<-hW];replace c1:W.cell? ⟨g,i,none⟩=some (.int .u8 n0):=by rw[hW];exact c1
       replace c2:W.cell? ⟨g,gk,none⟩=some (.int .u8 n1):=by rw[hW];exact c2
       replace f1:W.frozen? ⟨g,i,none⟩=false:=by rw[hW];exact f1
       replace f2:W.frozen? ⟨g,gk,none⟩=false:=by rw[hW];exact f2
       clear hW hsz;have hcall:=qz (arr HR'.out o g i gk a b (cap - (i+1)) w W (q2+nq) n n0 n1 HH.out HN.out hgt hk1 Ha.out Hb.out HN0.out HN1.out HW.out (by have:=HN.out;omega));have hnx:Hid (nextG ltU o=some (aiC o i gk a b)):=nxtS.out i gk a b hgt (by omega) Ha.out Hb.out (by rw[abT];have:=HN0.out;have:=HN1.out;omega) HJ.out fun i' j h1 h2 h3=>HA.out i' j (by omega) h2 h3;have hb1:(i:Int)+1<=(n:Int)+1:=by omega
       have hb2:(i:Int)+1<=(cap:Int):=by omega
       go_wp2_with fail
       go_region
       go_wp2_with fail;refine(hcall.out).mono ?_;rintro e w1 ⟨rfl,q3,rfl⟩;go_wp2_with fail;go_ret;exact⟨by rw[hnx.out];rfl,q3,by rw[hnx.out];rfl⟩
      ·go_wp2_with fail
       go_quiet (fail)
       go_wp2_with fail
       go_roundg (gk - 1)
       case rel=>
        refine⟨by omega,by omega,by congr 1;omega,⟨q2+nq,?_⟩,fun j h1 h2=>?_⟩
        ·rw[HQ2.out,adu]
        ·by_cases e:j=gk
         ·subst e;unfold asc;rw[Ha.out,Hb.out];have:ltU a b=false:=by unfold ltU;exact decide_eq_false fun h=>by(rw[abT]at h;have:=HN0.out;have:=HN1.out;omega)
          simp[this]
         ·exact HJ.out j (by omega) h2
       case measure=>omega
     ·obtain rfl:gk=i:=by omega
      go_wp2_with fail
      go_roundg (gk+1)
      case rel=>
       refine⟨by omega,by omega,by congr 1;omega,⟨q2,rfl⟩,fun i' j h1 h2 h3=>?_⟩
       by_cases e:i'=gk
       ·subst e;exact HJ.out j h2 h3
       ·exact HA.out i' j (by omega) h2 h3
      case measure=>omega
   ·have e1:Hid (nextG ltU o=none):=nxtN.out fun i j h1 h2=>HA.out i j (by omega) h1 h2;go_wp2_with fail;go_ret;exact⟨by rw[e1.out];rfl,q,by rw[e1.out,HQ.out];exact hself.out q⟩
theorem adY {t:Tm}(h:FitX t)(hn:∀p q,t≠.sum p q):Fit t:=by
 rcases h with h|⟨p,q,e,_⟩
 ·exact h
 ·exact absurd e (hn p q)
theorem atR (n:Nat)(once:Bool)(ih:∀(t:Tm) (tk:List UInt8),t.size<=n->t.size<=121->FitT t->Plain t->t.ok nmE=true->(whl n once t tk).1.ok nmE=true) (T:Tm)(tk:List UInt8)(hn:T.size<=n+1)(h121:T.size<=121)(hw:Thw T)(hf:FitX T)(hp:Plain T)(ho:T.ok nmE=true):(thS (whl n once) T tk).1.ok nmE=true:=by
 cases T with
 | nil=>exact hw.elim
 | par p q=>exact hw.elim
 | own x p=>exact hw.elim
 | snd a b p=>
  have hF:=adY hf (by intros;simp);simp only[Tm.ok,bae]at ho;simp only[thS,Tm.ok,bae];simp only[Tm.size]at hn h121;exact⟨ho.1,ih p tk (by omega) (by omega) (.inl (aa9 hF (by simp only[Tm.bdp];try omega) fun z hz=>by rw[mf_snd];grind)) (fun z hz=>hp z (by rw[mf_snd];simp only[Tm.bnd];grind)) ho.2⟩
 | tau p=>
  have hF:=adY hf (by intros;simp);simp only[Tm.ok]at ho;simp only[thS,Tm.ok];simp only[Tm.size]at hn h121;exact ih p tk (by omega) (by omega) (.inl (aa9 hF (by simp only[Tm.bdp];try omega) fun z hz=>by rw[mf_tau];exact hz)) (fun z hz=>hp z (by rw[mf_tau];simp only[Tm.bnd];exact hz)) ho
 | rep p=>
  have hF:=adY hf (by intros;simp);simp only[Tm.ok]at ho;simp only[thS,Tm.ok];simp only[Tm.size]at hn h121;exact ih p tk (by omega) (by omega) (.inl (aa9 hF (by simp only[Tm.bdp];try omega) fun z hz=>by rw[mf_rep];exact hz)) (fun z hz=>hp z (by rw[mf_rep];simp only[Tm.bnd];exact hz)) ho
 | mat a b p=>
  have hF:=adY hf (by intros;simp);simp only[Tm.ok,bae]at ho;simp only[Tm.size]at hn h121;have:=ih p tk (by omega) (by omega) (.inl (aa9 hF (by simp only[Tm.bdp];try omega) fun z hz=>by rw[mf_mat];grind)) (fun z hz=>hp z (by rw[mf_mat];simp only[Tm.bnd];grind)) ho.2;simp only[thS]
  split<;>simp only[Tm.ok,bae]
  ·exact⟨⟨ho.1.2,ho.1.1⟩,this⟩
  ·exact⟨ho.1,this⟩
 | rcv a x p=>
  have hF:=adY hf (by intros;simp);have hfp:Fit p:=acG (x:=x) hF (by simp only[Tm.bdp];try omega) (fun z hz=>by rw[mf_rcv];grind);simp only[Tm.ok,bae]at ho;simp only[thS,Tm.ok,bae];simp only[Tm.size]at hn h121
  have hpx:∀z,z∈p.free\/z∈p.bnd->¬aa4 z:=fun z hz=>by
   by_cases c:z=x
   ·exact hp z (.inr (by simp[Tm.bnd,c]))
   ·exact hp z (by rw[mf_rcv];simp only[Tm.bnd,List.mem_cons];grind)
  refine⟨⟨ho.1.1,acC tk⟩,ih _ _ (by rw[R_size];omega) (by rw[R_size];omega) (.inl (afB hfp _ _)) (fun z hz=>?_) (aee _ _ _ _ ho.2 (acC tk))⟩;rcases R_names hfp x (fresh tk) z hz with h|h|h
  ·exact hpx z h
  ·rw[h];exact acI tk
  ·exact h
 | sum p q=>
  show (joinR .sum (srtT ((Tm.sums (Tm.sum p q).size (Tm.sum p q)).map fun q=>(whl n once q tk).1))).ok nmE=true;refine akm _ fun t ht=>?_;rw[aaG]at ht;obtain⟨r,hr,rfl⟩:=List.mem_map.1 ht;obtain⟨f1,f2,f3⟩:=agW _ _ ho hf hp r hr;have hpe:(Tm.sum p q).peel=.sum p q:=afD _ hw
  have hsub:r.size<(Tm.sum p q).size:=by
   have e:(Tm.sum p q).size=(p.size+q.size)+1:=rfl;rw[e]at hr ⊢;unfold Tm.sums at hr;rw[hpe]at hr;simp only[lma]at hr;have hq1:=aao q;have hp1:=aao p;rcases hr with h|h
   ·have:=(adS h).2;have:=(aeC (p.size+q.size) p).2;omega
   ·have:=(adS h).2;have:=(aeC (p.size+q.size) q).2;omega
  exact ih r tk (by omega) (by omega) f2 f3 f1
theorem atS (n:Nat):∀(once:Bool) (t:Tm) (tk:List UInt8),t.size<=n->t.size<=121->FitT t->Plain t->t.ok nmE=true->(whl n once t tk).1.ok nmE=true:=by
 induction n with
 | zero=>intro once t tk h;have:=aao t;omega
 | succ n ih=>
  intro once t tk hn h121 hf hp ho;obtain⟨g89,gfa⟩:=agV h121 hf hp;have gok:=akp t.size 0 t ho g89;unfold whl
  split
  ·rfl
  ·split
   ·rfl
   ·rename_i hne h5
    generalize (gath t.size 0 t).2=mm at *
    generalize (gath t.size 0 t).1=TT at *
    have hTT:TT≠[]:=by simpa using hne
    simp only;refine aht _ (afM mm tk) ?_
    have hone:(if once=true then (ords mm).take 1 else ords mm)≠[]:=by
     have:=acW mm (by omega)
     split
     ·intro e;rw[List.take_eq_nil_iff]at e;simp at e;exact this e
     ·exact this
    have hOm:∀o∈(if once=true then (ords mm).take 1 else ords mm),o.length=mm/\o.Nodup/\∀i,i∈o↔i<mm:=fun o h1=>by
     refine acn mm (by omega) o ?_
     split at h1
     ·exact List.mem_of_mem_take h1
     ·exact h1
    have hm:=acu ((if once=true then (ords mm).take 1 else ords mm).map fun o=>joinR .par (srtT (TT.map fun T=>(thS (whl n once) (nmG o (nexts tk mm) T) (allT tk mm)).1))) (by simpa using hone);obtain⟨o,ho',e⟩:=List.mem_map.1 hm;rw[<-e];refine ahu _ fun t' ht=>?_;rw[aaG]at ht;obtain⟨T,hT,rfl⟩:=List.mem_map.1 ht;obtain⟨o1,o2,o3⟩:=hOm o ho';obtain⟨b1,b2,b3,b4,b5,b6⟩:=gfa T hT;have hnl:=abE mm tk;have hoi:∀i∈o,i<90:=fun i hi=>by have:=(o3 i).1 hi;omega
    have hz:Fit T\/o=[]:=b2.imp id fun h=>List.length_eq_zero_iff.1 (by omega);obtain⟨k1,k2,k3⟩:=afK o (nexts tk mm) T (by omega) hoi (afM mm tk) hz b1 (gok T hT) b4;have kl:=ahy o (nexts tk mm) T;exact atR n once (ih once) _ _ (by omega) (by omega) k3 k1 (afL o (nexts tk mm) T (by omega) o2 hoi (acJ mm tk) hz (fun z hz=>(b5 z hz).imp id fun ⟨j,hj,e⟩=>⟨j,(o3 j).2 hj,e⟩) b6) k2
end Go.Proofs.YtihmcgcgjmbmhaaGreat.T1
