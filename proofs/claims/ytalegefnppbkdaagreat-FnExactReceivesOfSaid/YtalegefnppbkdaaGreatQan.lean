/- Texts of the proof. No conditions. -/
import Derived.Test.YtalegefnppbkdaaGreatQam
namespace Go.Proofs.YtalegefnppbkdaaGreat.T1
open Go.Proofs.Tryz
set_option linter.unusedVariables false
def nexts:List UInt8->Nat->List UInt8
 | _,0=>[]
 | tk,k+1=>fresh tk::nexts (addL tk (fresh tk)) k
def allT:List UInt8->Nat->List UInt8
 | tk,0=>tk
 | tk,k+1=>allT (addL tk (fresh tk)) k
def nmG:List Nat->List UInt8->Tm->Tm
 | i::o,l::ls,t=>nmG o ls (R t (gl i) l)
 | _,_,t=>t
def ordsL {α:Type}:Nat->List α->List (List α)
 | 0,_=>[[]]
 | n+1,l=>if l.isEmpty then [[]] else (List.range l.length).flatMap fun i=>(ordsL n (l.eraseIdx i)).map fun r=>(l.drop i).take 1++r
def ords (m:Nat):List (List Nat):=ordsL m (List.range m)
def srtT (l:List Tm):List Tm:=l.mergeSort fun a b=>decide (a.pr<=b.pr)
def ag1:List Tm->Tm
 | []=>.nil
 | c::cs=>cs.foldl (fun b c=>if c.pr<b.pr then c else b) c
def wrapO (ls:List UInt8)(t:Tm):Tm:=ls.foldr Tm.own t
def thS (f:Tm->List UInt8->Tm × Bool):Tm->List UInt8->Tm × Bool
 | .snd a b p,tk=>(.snd a b (f p tk).1,(f p tk).2)
 | .tau p,tk=>(.tau (f p tk).1,(f p tk).2)
 | .rcv a x p,tk=>(.rcv a (fresh tk) (f (R p x (fresh tk)) (addL tk (fresh tk))).1,(f (R p x (fresh tk)) (addL tk (fresh tk))).2)
 | .mat a b p,tk=>(if b<a then .mat b a (f p tk).1 else .mat a b (f p tk).1,(f p tk).2)
 | .rep p,tk=>(.rep (f p tk).1,(f p tk).2)
 | t,tk=>(joinR .sum (srtT ((Tm.sums t.size t).map fun q=>(f q tk).1)),(Tm.sums t.size t).any fun q=>(f q tk).2)
def whl:Nat->Bool->Tm->List UInt8->Tm × Bool
 | 0,_,_,_=>(.nil,false)
 | n+1,once,t,tk=>
  if (gath t.size 0 t).1.isEmpty then (.nil,false) else
  if 5<(gath t.size 0 t).2 then (.nil,true) else
  (wrapO (nexts tk (gath t.size 0 t).2) (ag1 ((if once then (ords (gath t.size 0 t).2).take 1 else ords (gath t.size 0 t).2).map fun o=>
    joinR .par (srtT ((gath t.size 0 t).1.map fun T=>(thS (whl n once) (nmG o (nexts tk (gath t.size 0 t).2) T) (allT tk (gath t.size 0 t).2)).1)))),
   (if once then (ords (gath t.size 0 t).2).take 1 else ords (gath t.size 0 t).2).any fun o=>
    (gath t.size 0 t).1.any fun T=>(thS (whl n once) (nmG o (nexts tk (gath t.size 0 t).2) T) (allT tk (gath t.size 0 t).2)).2)
def smds:Tm->List Tm
 | .sum p q=>smds p++smds q
 | s=>[s]
def updL:(UInt8->UInt8)->List UInt8->List UInt8->UInt8->UInt8
 | L,x::o,l::ls=>updL (upd L x l) o ls
 | L,_,_=>L
def thI (f:(UInt8->UInt8)->List UInt8->Tm->Tm)(L:UInt8->UInt8)(left:List UInt8):Tm->Tm
 | .snd a b p=>.snd (L a) (L b) (f L left p)
 | .tau p=>.tau (f L left p)
 | .rcv a x p=>.rcv (L a) (left.headD 0) (f (upd L x (left.headD 0)) left.tail p)
 | .mat a b p=>if L b<L a then .mat (L b) (L a) (f L left p) else .mat (L a) (L b) (f L left p)
 | .rep p=>.rep (f L left p)
 | s=>joinR .sum (srtT ((smds s).map (f L left)))
def mid:Nat->Bool->(UInt8->UInt8)->List UInt8->Tm->Tm
 | 0,_,_,_,_=>.nil
 | n+1,once,L,left,s=>
  if (lvl s).2.isEmpty then .nil else
  wrapO (left.take (lvl s).1.length) (ag1 ((if once then (ords (lvl s).1.length).take 1 else ords (lvl s).1.length).map fun o=>
   joinR .par (srtT ((lvl s).2.map (thI (mid n once) (updL L (o.map fun i=>(lvl s).1.getD i 0) left) (left.drop (lvl s).1.length))))))
def fcnt (s:Tm):Nat:=(lvl s).1.length
def tf:Tm->Nat->Bool
 | .nil,_=>true
 | .own _ p,k=>tf p k
 | .par p q,k=>tf p k && tf q k
 | .snd _ _ p,k=>decide (fcnt p<=5) && decide (fcnt p<=k) && tf p (k - fcnt p)
 | .tau p,k=>decide (fcnt p<=5) && decide (fcnt p<=k) && tf p (k - fcnt p)
 | .mat _ _ p,k=>decide (fcnt p<=5) && decide (fcnt p<=k) && tf p (k - fcnt p)
 | .rep p,k=>decide (fcnt p<=5) && decide (fcnt p<=k) && tf p (k - fcnt p)
 | .rcv _ _ p,k=>decide (1<=k) && (decide (fcnt p<=5) && decide (fcnt p<=k - 1) && tf p (k - 1 - fcnt p))
 | .sum p q,k=>(decide (fcnt p<=5) && decide (fcnt p<=k) && tf p (k - fcnt p)) && (decide (fcnt q<=5) && decide (fcnt q<=k) && tf q (k - fcnt q))
def fl (s:Tm)(k:Nat):Bool:=decide (fcnt s<=5) && decide (fcnt s<=k) && tf s (k - fcnt s)
-- letters
theorem abu:∀(k:Nat) (tk:List UInt8),(nexts tk k).length=k:=by
 intro k;induction k with
 | zero=>intro tk;rfl
 | succ k ih=>intro tk;simp[nexts,ih]
theorem anv:∀(k:Nat) (tk:List UInt8),k<=(othL tk).length->nexts tk k=(othL tk).take k/\othL (allT tk k)=(othL tk).drop k:=by
 intro k;induction k with
 | zero=>intro tk _;simp[nexts,allT]
 | succ k ih=>
  intro tk h;rcases fresh_oth tk with⟨c,r,h1,h2,h3⟩|⟨h1,h2⟩
  ·have ha:=ai5 h1;rw[h1]at h;have:=ih (addL tk c) (by rw[ha];simpa using h);rw[ha]at this
   simp only[nexts,allT,h2];rw[h1];simp only[List.take_succ_cons,List.drop_succ_cons];exact⟨by rw[this.1],this.2⟩
  ·rw[h1]at h;simp at h
theorem anw:∀(k:Nat) (tk:List UInt8),(othL tk).length<k->∃l∈nexts tk k,nmL l=false:=by
 intro k;induction k with
 | zero=>intro tk h;omega
 | succ k ih=>
  intro tk h;rcases fresh_oth tk with⟨c,r,h1,h2,h3⟩|⟨h1,h2⟩
  ·have ha:=ai5 h1;rw[h1]at h;obtain⟨l,hl,e⟩:=ih (addL tk c) (by rw[ha];simpa using h);exact⟨l,by simp only[nexts,h2,List.mem_cons];exact .inr hl,e⟩
  ·refine⟨fresh tk,by simp[nexts],?_⟩
   cases hc:nmL (fresh tk) with
   | false=>rfl
   | true=>rw[nmL_iff]at hc;omega
theorem ajN:∀(k:Nat) (tk:List UInt8) (z:UInt8),z∈allT tk k↔z∈tk\/z∈nexts tk k:=by
 intro k;induction k with
 | zero=>intro tk z;simp[allT,nexts]
 | succ k ih=>intro tk z;simp only[allT,nexts,ih,mem_addL,List.mem_cons];grind
theorem anx (l:List UInt8):(othL l).Nodup:=(adF l).imp fun h e=>by rw[e,abO]at h;omega
theorem anz {l:List UInt8}{z:UInt8}(h:z∈othL l):¬aaX z:=by
 rw[abL]at h;unfold aaX;omega
theorem acD:∀(k:Nat) (tk:List UInt8),∀l∈nexts tk k,¬aaX l:=by
 intro k;induction k with
 | zero=>intro tk l h;simp[nexts]at h
 | succ k ih=>
  intro tk l h;simp only[nexts,List.mem_cons]at h;rcases h with h|h
  ·rw[h];exact acC _
  ·exact ih _ l h
-- orders
theorem ack:∀m,m<=5->∀o∈ords m,o.length=m/\o.Nodup/\∀i,i∈o↔i<m:=by
 have h:∀m,m<=5->∀o∈ords m,o.length=m/\o.Nodup/\(∀i∈o,i<m)/\∀i∈List.range m,i∈o:=by
  intro m hm;have:m=0\/m=1\/m=2\/m=3\/m=4\/m=5:=by omega
  rcases this with rfl|rfl|rfl|rfl|rfl|rfl<;>decide +kernel
 intro m hm o ho;obtain⟨a,b,c,d⟩:=h m hm o ho;exact⟨a,b,fun i=>⟨c i,fun hi=>d i (List.mem_range.2 hi)⟩⟩
theorem acT:∀m,m<=5->ords m≠[]:=by
 intro m hm;have:m=0\/m=1\/m=2\/m=3\/m=4\/m=5:=by omega
 rcases this with rfl|rfl|rfl|rfl|rfl|rfl<;>decide +kernel
-- what is used has its name in the simplified one
theorem anA (t:Tm):∀(E:UInt8->UInt8->Prop) (s:Tm),Sm t E s->∀u,u∈t.usd->∃v,v∈s.free/\E u v:=by
 induction t with
 | nil=>intro E s _ u hu;simp[Tm.usd]at hu
 | snd a b p ih=>
  rintro E s ⟨a',b',p',rfl,h1,h2,h3⟩ u hu;rw[mu_snd]at hu;rcases hu with rfl|rfl|hu
  ·exact⟨a',by rw[mf_snd];simp,h1⟩
  ·exact⟨b',by rw[mf_snd];simp,h2⟩
  ·obtain⟨v,hv,e⟩:=ih E p' h3 u hu;exact⟨v,by rw[mf_snd];simp[hv],e⟩
 | rcv a x p ih=>
  rintro E s ⟨a',x',p',rfl,h1,h3⟩ u hu;rw[mu_rcv]at hu;rcases hu with rfl|⟨hu,hx⟩
  ·exact⟨a',by rw[mf_rcv];simp,h1⟩
  ·obtain⟨v,hv,e⟩:=ih _ p' h3 u hu;rcases e with⟨e,_⟩|⟨_,e1,e2⟩
   ·exact absurd e hx
   ·exact⟨v,by rw[mf_rcv];exact .inr ⟨hv,e1⟩,e2⟩
 | tau p ih=>
  rintro E s ⟨p',rfl,h3⟩ u hu;rw[mu_tau]at hu;obtain⟨v,hv,e⟩:=ih E p' h3 u hu;exact⟨v,by rw[mf_tau];exact hv,e⟩
 | sum p q ih ih2=>
  intro E s h u hu;rw[mu_sum]at hu;unfold Sm at h
  split at h
  ·rename_i c;rw[dead_usd _ c]at hu;exact ih2 E s h u (by simpa using hu)
  ·split at h
   ·rename_i c;rw[dead_usd _ c]at hu;exact ih E s h u (by simpa using hu)
   ·obtain⟨p',q',rfl,h1,h2⟩:=h;rcases hu with hu|hu
    ·obtain⟨v,hv,e⟩:=ih E p' h1 u hu;exact⟨v,by rw[mf_sum];exact .inl hv,e⟩
    ·obtain⟨v,hv,e⟩:=ih2 E q' h2 u hu;exact⟨v,by rw[mf_sum];exact .inr hv,e⟩
 | par p q ih ih2=>
  intro E s h u hu;rw[mu_par]at hu;unfold Sm at h
  split at h
  ·rename_i c;rw[dead_usd _ c]at hu;exact ih2 E s h u (by simpa using hu)
  ·split at h
   ·rename_i c;rw[dead_usd _ c]at hu;exact ih E s h u (by simpa using hu)
   ·obtain⟨p',q',rfl,h1,h2⟩:=h;rcases hu with hu|hu
    ·obtain⟨v,hv,e⟩:=ih E p' h1 u hu;exact⟨v,by rw[mf_par];exact .inl hv,e⟩
    ·obtain⟨v,hv,e⟩:=ih2 E q' h2 u hu;exact⟨v,by rw[mf_par];exact .inr hv,e⟩
 | own x p ih=>
  intro E s h u hu;rw[mu_own]at hu;unfold Sm at h
  split at h
  ·obtain⟨x',p',rfl,h1⟩:=h;obtain⟨v,hv,e⟩:=ih _ p' h1 u hu.1;rcases e with⟨e,_⟩|⟨_,e1,e2⟩
   ·exact absurd e hu.2
   ·exact⟨v,by rw[mf_own];exact⟨hv,e1⟩,e2⟩
  ·exact ih E s h u hu.1
 | mat a b p ih=>
  intro E s h u hu;rw[mu_mat]at hu;unfold Sm at h
  split at h
  ·rename_i c;exact ih E s h u (by grind)
  ·rename_i c
   split at h
   ·rename_i d;grind
   ·obtain⟨a',b',p',rfl,h1,h2,h3⟩:=h;have hu:u=a\/u=b\/u∈p.usd:=by grind
    rcases hu with rfl|rfl|hu
    ·exact⟨a',by rw[mf_mat];simp,h1⟩
    ·exact⟨b',by rw[mf_mat];simp,h2⟩
    ·obtain⟨v,hv,e⟩:=ih E p' h3 u hu;exact⟨v,by rw[mf_mat];simp[hv],e⟩
 | rep p ih=>
  intro E s h u hu;rw[mu_rep]at hu;unfold Sm at h
  split at h
  ·rename_i c;rw[dead_usd _ c]at hu;simp at hu
  ·obtain⟨p',rfl,h3⟩:=h;obtain⟨v,hv,e⟩:=ih E p' h3 u hu;exact⟨v,by rw[mf_rep];exact hv,e⟩
theorem anB (t:Tm):∀(E:UInt8->UInt8->Prop) (s:Tm),t.dead=false->Sm t E s->(lvl s).2≠[]:=by
 induction t with
 | nil=>intro E s h;simp[Tm.dead]at h
 | snd a b p ih=>rintro E s _ ⟨a',b',p',rfl,_⟩;simp[lvl]
 | rcv a x p ih=>rintro E s _ ⟨a',x',p',rfl,_⟩;simp[lvl]
 | tau p ih=>rintro E s _ ⟨p',rfl,_⟩;simp[lvl]
 | sum p q ih ih2=>
  intro E s h hs;simp only[Tm.dead,Bool.and_eq_false_iff]at h;unfold Sm at hs
  split at hs
  ·exact ih2 E s (by grind) hs
  ·split at hs
   ·exact ih E s (by grind) hs
   ·obtain⟨p',q',rfl,_⟩:=hs;simp[lvl]
 | par p q ih ih2=>
  intro E s h hs;simp only[Tm.dead,Bool.and_eq_false_iff]at h;unfold Sm at hs
  split at hs
  ·exact ih2 E s (by grind) hs
  ·split at hs
   ·exact ih E s (by grind) hs
   ·obtain⟨p',q',rfl,h1,h2⟩:=hs;have:=ih E p' (by grind) h1;simp only[lvl];intro e;exact this (List.append_eq_nil_iff.1 e).1
 | own x p ih=>
  intro E s h hs;have h':p.dead=false:=h;unfold Sm at hs
  split at hs
  ·obtain⟨x',p',rfl,h1⟩:=hs;exact ih _ p' h' h1
  ·exact ih E s h' hs
 | mat a b p ih=>
  intro E s h hs;have h':p.dead=false:=h;unfold Sm at hs
  split at hs
  ·exact ih E s h' hs
  ·rw[if_neg (by rw[h'];simp)]at hs;obtain⟨a',b',p',rfl,_⟩:=hs;simp[lvl]
 | rep p ih=>
  intro E s h hs;have h':p.dead=false:=h;unfold Sm at hs;rw[if_neg (by rw[h'];simp)]at hs;obtain⟨p',rfl,_⟩:=hs;simp[lvl]
def plc:Tm->Nat
 | .nil=>0
 | .snd _ _ p=>plc p+2
 | .rcv _ _ p=>plc p+1
 | .tau p=>plc p
 | .sum p q=>plc p+plc q
 | .par p q=>plc p+plc q
 | .own _ p=>plc p
 | .mat _ _ p=>plc p+2
 | .rep p=>plc p
theorem ae9 (l A:List UInt8):(bothL l A).length<=l.length+A.length:=adG l A
theorem ac7 (s:Tm):s.free.length<=plc s:=by
 induction s with
 | nil=>simp[Tm.free,plc]
 | snd a b p ih=>simp only[Tm.free,plc,abn (srt_free p)];have:=abS b (addL p.free a);have:=abS a p.free;omega
 | mat a b p ih=>simp only[Tm.free,plc,abn (srt_free p)];have:=abS b (addL p.free a);have:=abS a p.free;omega
 | rcv a x p ih=>
  simp only[Tm.free,plc,abn (srt_free p)];have:=abS a (abx p.free x);have:(abx p.free x).length<=p.free.length:=List.length_filter_le _ _;omega
 | own x p ih=>
  simp only[Tm.free,plc,abn (srt_free p)];have:(abx p.free x).length<=p.free.length:=List.length_filter_le _ _;omega
 | tau p ih=>simp only[Tm.free,plc,abn (srt_free p)];exact ih
 | rep p ih=>simp only[Tm.free,plc,abn (srt_free p)];exact ih
 | sum p q ih ih2=>simp only[Tm.free,plc,abn (srt_free p)];have:=ae9 p.free q.free;omega
 | par p q ih ih2=>simp only[Tm.free,plc,abn (srt_free p)];have:=ae9 p.free q.free;omega
theorem ac8 (t:Tm):∀(E:UInt8->UInt8->Prop) (s:Tm),Sm t E s->fcnt s+s.free.length<=plc s/\2 * fcnt s+plc s<=2 * s.size/\s.size<=t.size:=by
 have hp:∀s,2 * 0+plc s<=2 * s.size:=by
  intro s;induction s<;>simp only[plc,Tm.size]<;>omega
 induction t with
 | nil=>rintro E s rfl;exact⟨by simp[fcnt,lvl,Tm.free],by simp[fcnt,lvl,plc],nl _⟩
 | snd a b p ih=>
  rintro E s ⟨a',b',p',rfl,h1,h2,h3⟩;have:=(ih _ _ h3).2.2;exact⟨by simpa [fcnt,lvl] using ac7 _,by simpa [fcnt,lvl] using hp _,by simp only[Tm.size];omega⟩
 | rcv a x p ih=>
  rintro E s ⟨a',x',p',rfl,h1,h3⟩;have:=(ih _ _ h3).2.2;exact⟨by simpa [fcnt,lvl] using ac7 _,by simpa [fcnt,lvl] using hp _,by simp only[Tm.size];omega⟩
 | tau p ih=>
  rintro E s ⟨p',rfl,h3⟩;have:=(ih _ _ h3).2.2;exact⟨by simpa [fcnt,lvl] using ac7 _,by simpa [fcnt,lvl] using hp _,by simp only[Tm.size];omega⟩
 | sum p q ih ih2=>
  intro E s h;unfold Sm at h
  split at h
  ·have:=ih2 E s h;exact⟨this.1,this.2.1,by simp only[Tm.size];omega⟩
  ·split at h
   ·have:=ih E s h;exact⟨this.1,this.2.1,by simp only[Tm.size];omega⟩
   ·obtain⟨p',q',rfl,h1,h2⟩:=h;have:=(ih _ _ h1).2.2;have:=(ih2 _ _ h2).2.2;exact⟨by simpa [fcnt,lvl] using ac7 _,by simpa [fcnt,lvl] using hp _,by simp only[Tm.size];omega⟩
 | par p q ih ih2=>
  intro E s h;unfold Sm at h
  split at h
  ·have:=ih2 E s h;exact⟨this.1,this.2.1,by simp only[Tm.size];omega⟩
  ·split at h
   ·have:=ih E s h;exact⟨this.1,this.2.1,by simp only[Tm.size];omega⟩
   ·obtain⟨p',q',rfl,h1,h2⟩:=h;have a:=ih _ _ h1;have b:=ih2 _ _ h2;have e:fcnt (.par p' q')=fcnt p'+fcnt q':=by simp[fcnt,lvl]
    have c:=ae9 p'.free q'.free;have d:(Tm.par p' q').free=bothL p'.free q'.free:=by simp only[Tm.free,abn (srt_free p')]
    rw[d,e];exact⟨by simp only[plc];omega,by simp only[plc,Tm.size];omega,by simp only[Tm.size];omega⟩
 | own x p ih=>
  intro E s h;unfold Sm at h
  split at h
  ·rename_i c
   obtain⟨x',p',rfl,h1⟩:=h;have a:=ih _ _ h1;obtain⟨v,hv,e⟩:=anA p _ p' h1 x c
   have hx:x'∈p'.free:=by
    rcases e with⟨_,e⟩|⟨e,_⟩
    ·exact e▸hv
    ·exact absurd rfl e
   have e:fcnt (.own x' p')=fcnt p'+1:=by simp[fcnt,lvl]
   have d:(Tm.own x' p').free=abx p'.free x':=by simp only[Tm.free,abn (srt_free p')]
   have l:=ah7 hx;rw[d,e];exact⟨by simp only[plc];omega,by simp only[plc,Tm.size];omega,by simp only[Tm.size];omega⟩
  ·have:=ih E s h;exact⟨this.1,this.2.1,by simp only[Tm.size];omega⟩
 | mat a b p ih=>
  intro E s h;unfold Sm at h
  split at h
  ·have:=ih E s h;exact⟨this.1,this.2.1,by simp only[Tm.size];omega⟩
  ·split at h
   ·subst h;exact⟨by simp[fcnt,lvl,Tm.free],by simp[fcnt,lvl,plc],by simp only[Tm.size];omega⟩
   ·obtain⟨a',b',p',rfl,h1,h2,h3⟩:=h;have:=(ih _ _ h3).2.2;exact⟨by simpa [fcnt,lvl] using ac7 _,by simpa [fcnt,lvl] using hp _,by simp only[Tm.size];omega⟩
 | rep p ih=>
  intro E s h;unfold Sm at h
  split at h
  ·subst h;exact⟨by simp[fcnt,lvl,Tm.free],by simp[fcnt,lvl,plc],by simp only[Tm.size];omega⟩
  ·obtain⟨p',rfl,h3⟩:=h;have:=(ih _ _ h3).2.2;exact⟨by simpa [fcnt,lvl] using ac7 _,by simpa [fcnt,lvl] using hp _,by simp only[Tm.size];omega⟩
theorem anC {t s:Tm}{E:UInt8->UInt8->Prop}(h:Sm t E s)(hs:t.size<=121):fcnt s<=89:=by
 have:=ac8 t E s h;omega
theorem adI (s:Tm):s.bnd.Perm ((lvl s).1++(lvl s).2.flatMap Tm.bnd):=by
 induction s with
 | nil=>simp[Tm.bnd,lvl]
 | own x p ih=>simp only[Tm.bnd,lvl,List.cons_append];exact ih.cons x
 | par p q ih ih2=>
  simp only[Tm.bnd,lvl,List.flatMap_append];refine(ih.append ih2).trans ?_;rw[List.append_assoc,List.append_assoc];refine List.Perm.append_left _ ?_;rw[<-List.append_assoc,<-List.append_assoc];exact List.Perm.append_right _ List.perm_append_comm
 | _=>simp[Tm.bnd,lvl]
theorem arE {s:Tm}(h:s.bnd.Nodup):(lvl s).1.Nodup/\(∀T∈(lvl s).2,T.bnd.Nodup)/\∀z∈(lvl s).1,∀T∈(lvl s).2,z∉T.bnd:=by
 have h:=(adI s).nodup_iff.1 h;rw[List.nodup_append]at h;refine⟨h.1,fun T hT=>?_,fun z hz T hT hz2=>h.2.2 z hz z (List.mem_flatMap.2 ⟨T,hT,hz2⟩) rfl⟩;have:=h.2.1;unfold List.Nodup at this ⊢
 rw[List.pairwise_flatMap]at this
 exact this.1 T hT
theorem aww {t:Tm}{o m:UInt8}(h:Thr t)(hm:m∉t.usd):Thr (R t o m):=by
 by_cases hs:o=m\/o∉t.free
 ·rw[abt _ _ _ hs];exact h
 ·obtain⟨h1,h2,h3,h4⟩:=h
  cases t with
  | nil=>simp[Tm.dead]at h1
  | snd a b p=>rw[agR hs];exact⟨rfl,trivial,by intros;simp,by intros;simp⟩
  | rcv a x p=>rw[agT hs];exact⟨rfl,trivial,by intros;simp,by intros;simp⟩
  | tau p=>rw[agU hs];exact⟨rfl,trivial,by intros;simp,by intros;simp⟩
  | sum p q=>
   have:=abM (.sum p q) o m;rw[agW hs]at this ⊢
   exact⟨this.trans h1,⟨by rw[abM];exact h2.1,by rw[abM];exact h2.2⟩,by intros;simp,by intros;simp⟩
  | par p q=>exact absurd rfl (h3 p q)
  | own x p=>exact absurd rfl (h4 x p)
  | mat a b p=>
   have:=abM (.mat a b p) o m;rw[agS hs]at this ⊢
   refine⟨this.trans h1,?_,by intros;simp,by intros;simp⟩;have hd:p.dead=false:=h1;have hne:a≠b:=h2;rw[mu_mat]at hm;show sw a o m≠sw b o m;unfold sw;grind
  | rep p=>
   have:=abM (.rep p) o m;rw[agV hs]at this ⊢
   exact⟨this.trans h1,trivial,by intros;simp,by intros;simp⟩
theorem auZ {l:List UInt8}(h:l.Nodup){i j:Nat}(hi:i<l.length)(hj:j<l.length)(e:l[i]=l[j]):i=j:=by
 unfold List.Nodup at h;rw[List.pairwise_iff_getElem]at h;rcases Nat.lt_trichotomy i j with h1|h1|h1
 ·exact absurd e (h i j hi hj h1)
 ·exact h1
 ·exact absurd e.symm (h j i hj hi h1)
theorem au0:∀(o:List Nat) (ls:List UInt8) (T:Tm) (X:UInt8->UInt8->Prop) (L:UInt8->UInt8) (G:List UInt8) (A V:UInt8->Prop) (s':Tm), o.length=ls.length->o.Nodup->ls.Nodup->G.Nodup->G.length<=89->(∀i∈o,i<G.length)->(∀l∈ls,¬aaX l/\A l)-> FitX T->(Fit T\/o=[])->Thr T->Sm T X s'-> (∀u v,X u v->V v/\((∃i,i∈o/\u=gl i/\v=G.getD i 0)\/(u=L v/\A u/\u∉ls/\¬aaX u/\∀i∈o,v≠G.getD i 0)))-> Sm (nmG o ls T) (fun u v=>u=updL L (o.map fun i=>G.getD i 0) ls v/\V v/\A u) s'/\FitX (nmG o ls T)/\Thr (nmG o ls T)/\(nmG o ls T).size=T.size/\ ∀z,(z∈(nmG o ls T).free\/z∈(nmG o ls T).bnd)->(z∈T.free/\∀i∈o,z≠gl i)\/z∈T.bnd\/¬aaX z:=by
 intro o
 induction o with
 | nil=>
  intro ls T X L G A V s' hlen _ _ _ _ _ _ hX _ hT hS hE
  cases ls with
  | cons l ls=>simp at hlen
  | nil=>
   refine⟨aaL T X _ s' (fun u v _ he=>?_) hS,hX,hT,rfl,fun z hz=>?_⟩
   ·obtain⟨h1,h2⟩:=hE u v he;rcases h2 with⟨i,hi,_⟩|⟨h2,h3,_⟩
    ·simp at hi
    ·exact⟨h2,h1,h3⟩
   ·exact hz.imp (fun h=>⟨h,fun i hi=>by simp at hi⟩) .inl
 | cons i o ih=>
  intro ls T X L G A V s' hlen ho hls hG hGl hio hl hX hF hT hS hE
  cases ls with
  | nil=>simp at hlen
  | cons l ls=>
   have hF:Fit T:=hF.resolve_right (by simp);simp only[List.length_cons,Nat.add_right_cancel_iff]at hlen;rw[List.nodup_cons]at ho hls;have hig:i<G.length:=hio i (by simp);have hgl:gl i≠l:=fun e=>(hl l (by simp)).1 (e▸acf (by omega))
   have hlu:l∉T.usd:=fun hu=>by
    obtain⟨v,_,e⟩:=anA T X s' hS l hu;rcases (hE l v e).2 with⟨j,hj,e,_⟩|⟨_,_,e,_⟩
    ·exact(hl l (by simp)).1 (e▸acf (by have:=hio j hj;omega))
    ·exact e (by simp)
   have hS1:=awv _ T (gl i) l X s' (nl _) (fit_roomy hF _ _) hgl hlu hS;have hF1:=ae6 hF (gl i) l
   have hinj:∀j,j∈o->G.getD j 0≠G.getD i 0:=fun j hj e=>by
    have hj2:j<G.length:=hio j (by simp[hj]);rw[List.getD_eq_getElem?_getD,List.getD_eq_getElem?_getD,List.getElem?_eq_getElem hj2,List.getElem?_eq_getElem hig]at e;exact ho.1 (auZ hG hj2 hig (by simpa using e)▸hj)
   obtain⟨a1,a2,a3,a4,a5⟩:=ih ls (R T (gl i) l) _ (upd L (G.getD i 0) l) G A V s' hlen ho.2 hls.2 hG hGl (fun j hj=>hio j (by simp[hj])) (fun z hz=>hl z (by simp[hz])) (.inl hF1) (.inl hF1) (aww hT hlu) hS1 (fun u v he=>by
    rcases he with⟨e1,he⟩|⟨d1,d2,he⟩
    ·obtain⟨h1,h2⟩:=hE _ v he;refine⟨h1,.inr ?_⟩;rcases h2 with⟨j,hj,e,ev⟩|⟨_,_,_,e,_⟩
     ·have:i=j:=ah6 (by omega) (by have:=hio j hj;omega) e;subst this
      refine⟨by unfold upd;rw[if_pos ev];exact e1,e1▸(hl l (by simp)).2,e1▸hls.1,e1▸(hl l (by simp)).1,fun j hj=>?_⟩;rw[ev];exact(hinj j hj).symm
     ·exact absurd (acf (by omega)) e
    ·obtain⟨h1,h2⟩:=hE u v he;refine⟨h1,?_⟩;rcases h2 with⟨j,hj,e,ev⟩|⟨e1,e2,e3,e4,e5⟩
     ·rcases List.mem_cons.1 hj with hj|hj
      ·exact absurd (hj▸e) d2
      ·exact .inl ⟨j,hj,e,ev⟩
     ·refine .inr ⟨?_,e2,fun h=>e3 (by simp[h]),e4,fun j hj=>e5 j (by simp[hj])⟩
      unfold upd;rw[if_neg (e5 i (by simp))];exact e1)
   refine⟨a1,a2,a3,by rw[<-R_size T (gl i) l];exact a4,fun z hz=>?_⟩;rcases a5 z hz with⟨h1,h2⟩|h|h
   ·have:=(R_free _ T (gl i) l (nl _) (fit_roomy hF _ _) hgl z).1 h1
    rcases this with⟨f1,f2⟩|⟨f1,_⟩
    ·exact .inl ⟨f1,fun j hj=>by
      rcases List.mem_cons.1 hj with hj|hj
      ·exact hj▸f2
      ·exact h2 j hj⟩
    ·exact .inr (.inr (f1▸(hl l (by simp)).1))
   ·rcases R_bnds _ T (gl i) l (nl _) z h with h|h
    ·exact .inr (.inl h)
    ·exact .inr (.inr h)
   ·exact .inr (.inr h)
structure Cx (t:Tm) (E:UInt8->UInt8->Prop) (s:Tm) (L:UInt8->UInt8) (tk:List UInt8):Prop where
 sm:Sm t E s
 ng:∀z,z∈t.free\/z∈t.bnd->¬aaX z
 nd:s.bnd.Nodup
 rel:∀u v,E u v->u=L v/\v∉s.bnd/\u∈tk/\¬aaX u
 sz:t.size<=121
def Good (r:Tm × Bool)(b:Bool)(m:Tm):Prop:=(b=true->r=(m,false))/\(b=false->r.2=true\/r.1.ok nmL=false)
theorem aeg {r:Tm × Bool}{b:Bool}{m:Tm}(h:Good r b m)(hb:b=true):r=(m,false):=h.1 hb
def aw1 (n:Nat)(once:Bool):Prop:=∀t tk s E L,t.size<=n->FitT t->Cx t E s L tk->Good (whl n once t tk) (fl s (othL tk).length) (mid n once L (othL tk) s)
theorem adq (s:Tm)(k:Nat):(fl s k=true->∀q∈smds s,fl q k=true)/\(fl s k=false->∃q,q∈smds s/\fl q k=false):=by
 induction s with
 | sum p q ih ih2=>
  have e:fl (.sum p q) k=(fl p k && fl q k):=by unfold fl;simp[fcnt,lvl,tf]<;>rfl
  simp only[smds];rw[e];constructor
  ·intro h z hz;rw[bae]at h;rcases lma.1 hz with hz|hz
   ·exact ih.1 h.1 z hz
   ·exact ih2.1 h.2 z hz
  ·intro h;rw[Bool.and_eq_false_iff]at h;rcases h with h|h
   ·obtain⟨z,hz,e⟩:=ih.2 h;exact⟨z,List.mem_append_left _ hz,e⟩
   ·obtain⟨z,hz,e⟩:=ih2.2 h;exact⟨z,List.mem_append_right _ hz,e⟩
 | _=>exact⟨fun h z hz=>by simp only[smds,List.mem_singleton]at hz;rw[hz];exact h,fun h=>⟨_,by simp only[smds,List.mem_singleton],h⟩⟩
theorem anD {s:Tm}(h:s.bnd.Nodup):∀q∈smds s,q.bnd.Nodup/\∀z,z∈q.bnd->z∈s.bnd:=by
 induction s with
 | sum p q ih ih2=>
  intro z hz;have h':(p.bnd++q.bnd).Nodup:=h;rw[List.nodup_append]at h';simp only[smds]at hz;rcases lma.1 hz with hz|hz
  ·exact⟨(ih h'.1 z hz).1,fun y hy=>by simp only[Tm.bnd,lma];exact .inl ((ih h'.1 z hz).2 y hy)⟩
  ·exact⟨(ih2 h'.2.1 z hz).1,fun y hy=>by simp only[Tm.bnd,lma];exact .inr ((ih2 h'.2.1 z hz).2 y hy)⟩
 | _=>intro z hz;simp only[smds,List.mem_singleton]at hz;rw[hz];exact⟨h,fun _ h=>h⟩
theorem anE (n:Nat):∀(t:Tm) (E:UInt8->UInt8->Prop) (s:Tm),t.size<=n->t.dead=false->Sm t E s->Fit t-> All2 (fun q q'=>Sm q E q'/\Fit q/\q.size<=t.size/\∀z,z∈q.free\/z∈q.bnd->z∈t.free\/z∈t.bnd) (Tm.sums n t) (smds s):=by
 induction n with
 | zero=>intro t E s h;have:=aaq t;omega
 | succ n ih=>
  intro t E s hn hd hS hf;have hps:=aba t;have hSp:=ans t E s hS;have hpf:=ab5 t;have hd':=ae7 t;have hnm:=acq t;have hfp:=acB t hf;unfold Tm.sums
  generalize hu:t.peel=u at *
  rw[hd]at hd'
  cases u with
  | sum p q=>
   have h':=hSp;unfold Sm at h';rw[if_neg (by rw[hpf.1];simp),if_neg (by rw[hpf.2];simp)]at h';obtain⟨p',q',rfl,h1,h2⟩:=h';have hsz:p.size+q.size+1<=t.size:=hps.2.2.1;simp only[smds];refine .append ((ih p E p' (by omega) hpf.1 h1 (aeK (.inl hfp)).1).mono fun a b _ _ h=>?_) ((ih q E q' (by omega) hpf.2 h2 (aeK (.inl hfp)).2).mono fun a b _ _ h=>?_)
   ·exact⟨h.1,h.2.1,by omega,fun z hz=>hnm z (by rw[mf_sum];simp only[Tm.bnd,lma];have:=h.2.2.2 z hz;grind)⟩
   ·exact⟨h.1,h.2.1,by omega,fun z hz=>hnm z (by rw[mf_sum];simp only[Tm.bnd,lma];have:=h.2.2.2 z hz;grind)⟩
  | nil=>simp[Tm.dead]at hd'
  | snd a b p=>obtain⟨a',b',p',rfl,_⟩:=id hSp;exact .cons ⟨hSp,hfp,hps.2.2.1,hnm⟩ .nil
  | rcv a x p=>obtain⟨a',x',p',rfl,_⟩:=id hSp;exact .cons ⟨hSp,hfp,hps.2.2.1,hnm⟩ .nil
  | tau p=>obtain⟨p',rfl,_⟩:=id hSp;exact .cons ⟨hSp,hfp,hps.2.2.1,hnm⟩ .nil
  | par p q=>
   have h':=hSp;unfold Sm at h';rw[if_neg (by rw[hpf.1];simp),if_neg (by rw[hpf.2];simp)]at h';obtain⟨p',q',rfl,h1,h2⟩:=h';simp only[hd',Bool.false_eq_true,if_false];exact .cons ⟨hSp,hfp,hps.2.2.1,hnm⟩ .nil
  | own x p=>
   have h':=hSp;unfold Sm at h';rw[if_pos (show x∈p.usd from hpf)]at h';obtain⟨x',p',rfl,h1⟩:=h';simp only[hd',Bool.false_eq_true,if_false];exact .cons ⟨hSp,hfp,hps.2.2.1,hnm⟩ .nil
  | mat a b p=>
   have h':=hSp;unfold Sm at h';rw[if_neg hpf,if_neg (show ¬p.dead=true by rw[show p.dead=false from hd'];simp)]at h';obtain⟨a',b',p',rfl,_⟩:=h';simp only[hd',Bool.false_eq_true,if_false];exact .cons ⟨hSp,hfp,hps.2.2.1,hnm⟩ .nil
  | rep p=>
   have h':=hSp;unfold Sm at h';rw[if_neg (show ¬p.dead=true by rw[show p.dead=false from hd'];simp)]at h';obtain⟨p',rfl,_⟩:=h';simp only[hd',Bool.false_eq_true,if_false];exact .cons ⟨hSp,hfp,hps.2.2.1,hnm⟩ .nil
theorem All2.ex {α β:Type}{P:α->β->Prop}{l:List α}{m:List β}(h:All2 P l m):∀b∈m,∃a∈l,P a b:=by
 induction h with
 | nil=>intro b hb;simp at hb
 | cons p _ ih=>
  intro b hb;rcases List.mem_cons.1 hb with rfl|hb
  ·exact⟨_,by simp,p⟩
  ·obtain⟨a,ha,e⟩:=ih b hb;exact⟨a,by simp[ha],e⟩
theorem All2.ex' {α β:Type}{P:α->β->Prop}{l:List α}{m:List β}(h:All2 P l m):∀a∈l,∃b∈m,P a b:=by
 induction h with
 | nil=>intro b hb;simp at hb
 | cons p _ ih=>
  intro b hb;rcases List.mem_cons.1 hb with rfl|hb
  ·exact⟨_,by simp,p⟩
  ·obtain⟨a,ha,e⟩:=ih b hb;exact⟨a,by simp[ha],e⟩
theorem All2.map_eq {α β γ:Type}{f:α->γ}{g:β->γ}{l:List α}{m:List β}(h:All2 (fun a b=>f a=g b) l m):l.map f=m.map g:=by
 induction h with
 | nil=>rfl
 | cons p _ ih=>simp[p,ih]
theorem aaV (l:List Tm)(t:Tm):t∈srtT l↔t∈l:=List.mem_mergeSort
theorem anF {nm:UInt8->Bool}:∀l:List Tm,(joinR .sum l).ok nm=true->∀t∈l,t.ok nm=true:=by
 intro l;induction l with
 | nil=>intro _ t ht;simp at ht
 | cons a l ih=>
  cases l with
  | nil=>intro h t ht;rw[List.mem_singleton.1 ht];exact h
  | cons b l=>
   intro h t ht;simp only[joinR,Tm.ok,bae]at h;rcases List.mem_cons.1 ht with rfl|ht
   ·exact h.1
   ·exact ih h.2 t ht
theorem ae_ {nm:UInt8->Bool}:∀l:List Tm,(joinR .par l).ok nm=true->∀t∈l,t.ok nm=true:=by
 intro l;induction l with
 | nil=>intro _ t ht;simp at ht
 | cons a l ih=>
  cases l with
  | nil=>intro h t ht;rw[List.mem_singleton.1 ht];exact h
  | cons b l=>
   intro h t ht;simp only[joinR,Tm.ok,bae]at h;rcases List.mem_cons.1 ht with rfl|ht
   ·exact h.1
   ·exact ih h.2 t ht
theorem acr:∀l:List Tm,l≠[]->ag1 l∈l:=by
 have h:∀(cs:List Tm) (c:Tm),cs.foldl (fun b c=>if c.pr<b.pr then c else b) c=c\/cs.foldl (fun b c=>if c.pr<b.pr then c else b) c∈cs:=by
  intro cs;induction cs with
  | nil=>intro c;exact .inl rfl
  | cons d cs ih=>
   intro c;simp only[List.foldl_cons];rcases ih (if d.pr<c.pr then d else c) with h|h
   ·rw[h];split
    ·exact .inr (by simp)
    ·exact .inl rfl
   ·exact .inr (by simp[h])
 intro l hl
 cases l with
 | nil=>exact absurd rfl hl
 | cons c cs=>
  show cs.foldl (fun b c=>if c.pr<b.pr then c else b) c∈c::cs;rcases h cs c with e|e
  ·rw[e];simp
  ·exact List.mem_cons_of_mem _ e
theorem ag2 {nm:UInt8->Bool}(t:Tm):∀ls:List UInt8,(wrapO ls t).ok nm=true->(∀l∈ls,nm l=true)/\t.ok nm=true:=by
 intro ls;induction ls with
 | nil=>intro h;exact⟨fun l hl=>by simp at hl,h⟩
 | cons a ls ih=>
  intro h;have h':(nm a && (wrapO ls t).ok nm)=true:=h;rw[bae]at h';obtain⟨a1,a2⟩:=ih h'.2
  exact⟨fun l hl=>by
   rcases List.mem_cons.1 hl with rfl|hl
   ·exact h'.1
   ·exact a1 l hl,a2⟩
theorem abT {nm:UInt8->Bool}{t:Tm}(h:t.ok nm=true->False):t.ok nm=false:=by
 cases e:t.ok nm with
 | false=>rfl
 | true=>exact(h e).elim
theorem ale {tk:List UInt8}{c:UInt8}{r:List UInt8}(h:othL tk=c::r):fresh tk=c/\othL (addL tk c)=r/\c∉tk/\¬aaX c:=by
 have hc:c∈othL tk:=by rw[h];simp
 refine⟨?_,ai5 h,((abL _ _).1 hc).2,anz hc⟩;rcases fresh_oth tk with⟨c',r',h1,h2,_⟩|⟨h1,_⟩
 ·rw[h]at h1;injection h1 with e1 _;rw[h2,e1]
 ·rw[h]at h1;cases h1
theorem alf {tk:List UInt8}(h:othL tk=[]):nmL (fresh tk)=false:=by
 rcases fresh_oth tk with⟨c,r,h1,_⟩|⟨_,h2⟩
 ·rw[h]at h1;cases h1
 ·cases hc:nmL (fresh tk) with
  | false=>rfl
  | true=>rw[nmL_iff]at hc;omega
theorem anG {t:Tm}(h:FitX t)(hp:∀p q,t≠.sum p q):Fit t:=by
 rcases h with h|⟨p,q,e,_⟩
 ·exact h
 ·exact absurd e (hp p q)
theorem au1 (n:Nat)(once:Bool)(H:aw1 n once)(T:Tm)(tk:List UInt8)(T':Tm)(E:UInt8->UInt8->Prop)(L:UInt8->UInt8) (hn:T.size<=n+1)(hX:FitX T)(hT:Thr T)(cx:Cx T E T' L tk) : Good (thS (whl n once) T tk) (tf T' (othL tk).length) (thI (mid n once) L (othL tk) T'):=by
 obtain⟨hsm,hng,hnd,hrel,hsz⟩:=cx;obtain⟨t1,t2,t3,t4⟩:=hT
 cases T with
 | nil=>simp[Tm.dead]at t1
 | par p q=>exact absurd rfl (t3 p q)
 | own x p=>exact absurd rfl (t4 x p)
 | snd a b p=>
  obtain⟨a',b',p',rfl,h1,h2,h3⟩:=hsm;have hf:Fit p:=aa0 (anG hX (by intros;simp)) (nl _) (fun z hz=>by rw[mf_snd];simp[hz]);simp only[Tm.size]at hn hsz;have g:=H p tk p' E L (by omega) (.inl hf) ⟨h3,fun z hz=>hng z (by rw[mf_snd];simp only[Tm.bnd];grind),hnd,hrel,by omega⟩;have e1:=(hrel _ _ h1).1;have e2:=(hrel _ _ h2).1;refine⟨fun hb=>?_,fun hb=>?_⟩
  ·have:=aeg g hb;simp only[thS,thI,this,<-e1,<-e2]
  ·refine(g.2 hb).imp id fun h=>abT fun h'=>?_;simp only[thS,Tm.ok,bae]at h';rw[h]at h';simp at h'
 | tau p=>
  obtain⟨p',rfl,h3⟩:=hsm;have hf:Fit p:=aa0 (anG hX (by intros;simp)) (nl _) (fun z hz=>by rw[mf_tau];exact hz);simp only[Tm.size]at hn hsz;have g:=H p tk p' E L (by omega) (.inl hf) ⟨h3,fun z hz=>hng z (by rw[mf_tau];simp only[Tm.bnd];grind),hnd,hrel,by omega⟩;refine⟨fun hb=>?_,fun hb=>?_⟩
  ·have:=aeg g hb;simp only[thS,thI,this]
  ·refine(g.2 hb).imp id fun h=>abT fun h'=>?_;simp only[thS,Tm.ok]at h';rw[h]at h';simp at h'
 | rep p=>
  have hd:¬p.dead=true:=by rw[show p.dead=false from t1];simp
  unfold Sm at hsm;rw[if_neg hd]at hsm;obtain⟨p',rfl,h3⟩:=hsm;have hf:Fit p:=aa0 (anG hX (by intros;simp)) (nl _) (fun z hz=>by rw[mf_rep];exact hz);simp only[Tm.size]at hn hsz;have g:=H p tk p' E L (by omega) (.inl hf) ⟨h3,fun z hz=>hng z (by rw[mf_rep];simp only[Tm.bnd];grind),hnd,hrel,by omega⟩;refine⟨fun hb=>?_,fun hb=>?_⟩
  ·have:=aeg g hb;simp only[thS,thI,this]
  ·refine(g.2 hb).imp id fun h=>abT fun h'=>?_;simp only[thS,Tm.ok]at h';rw[h]at h';simp at h'
 | mat a b p=>
  have hd:¬p.dead=true:=by rw[show p.dead=false from t1];simp
  unfold Sm at hsm;rw[if_neg (show ¬a=b from t2),if_neg hd]at hsm;obtain⟨a',b',p',rfl,h1,h2,h3⟩:=hsm;have hf:Fit p:=aa0 (anG hX (by intros;simp)) (nl _) (fun z hz=>by rw[mf_mat];simp[hz]);simp only[Tm.size]at hn hsz;have g:=H p tk p' E L (by omega) (.inl hf) ⟨h3,fun z hz=>hng z (by rw[mf_mat];simp only[Tm.bnd];grind),hnd,hrel,by omega⟩;have e1:=(hrel _ _ h1).1;have e2:=(hrel _ _ h2).1;refine⟨fun hb=>?_,fun hb=>?_⟩
  ·have:=aeg g hb;simp only[thS,thI,this,<-e1,<-e2]
  ·refine(g.2 hb).imp id fun h=>abT fun h'=>?_;simp only[thS]at h';split at h'<;>simp only[Tm.ok,bae]at h'<;>rw[h]at h'<;>simp at h'
 | rcv a x p=>
  obtain⟨a',x',p',rfl,h1,h3⟩:=hsm;have hfT:=anG hX (by intros;simp);have hf:Fit p:=acA (x:=x) hfT (by simp only[Tm.bdp];try omega) (fun z hz=>by rw[mf_rcv];grind);simp only[Tm.size]at hn hsz;have e1:=(hrel _ _ h1).1;rcases ho:othL tk with _|⟨c,r⟩
  ·have hbad:=alf ho;refine⟨fun hb=>by simp[tf]at hb,fun hb=>.inr (abT fun h'=>?_)⟩;simp only[thS,Tm.ok,bae]at h';rw[hbad]at h';simp at h'
  ·obtain⟨c1,c2,c3,c4⟩:=ale ho;have hnd':x'∉p'.bnd/\p'.bnd.Nodup:=by rw[<-List.nodup_cons];exact hnd
   have hpn:∀z,z∈p.free\/z∈p.bnd->¬aaX z:=fun z hz=>hng z (by rw[mf_rcv];simp only[Tm.bnd,List.mem_cons];grind)
   have hrel2:∀u v,bdE E x x' u v->(x=c->u=upd L x' c v/\v∉p'.bnd/\u∈addL tk c/\¬aaX u)/\(u≠x->u=upd L x' c v/\v∉p'.bnd/\u∈addL tk c/\¬aaX u):=by
    intro u v he;rcases he with⟨q1,q2⟩|⟨q1,q2,q3⟩
    ·exact⟨fun e=>⟨by unfold upd;rw[if_pos q2,q1,e],q2▸hnd'.1,by rw[mem_addL];exact .inr (q1.trans e),by rw[q1,e];exact c4⟩,fun h=>absurd q1 h⟩
    ·obtain⟨r1,r2,r3,r4⟩:=hrel u v q3
     have:u=upd L x' c v/\v∉p'.bnd/\u∈addL tk c/\¬aaX u:=
      ⟨by unfold upd;rw[if_neg q2];exact r1,fun h=>r2 (by simp only[Tm.bnd,List.mem_cons];exact .inr h),by rw[mem_addL];exact .inl r3,r4⟩
     exact⟨fun _=>this,fun _=>this⟩
   have hcx:∃E2,Cx (R p x c) E2 p' (upd L x' c) (addL tk c):=by
    by_cases e:x=c
    ·refine⟨_,⟨by rw[abt _ _ _ (.inl e)];exact h3,by rw[abt _ _ _ (.inl e)];exact hpn,hnd'.2,fun u v he=>(hrel2 u v he).1 e,by rw[R_size];omega⟩⟩
    ·have hcu:c∉p.usd:=fun hu=>by
      obtain⟨v,_,he⟩:=anA _ _ _ h3 c hu;rcases he with⟨q,_⟩|⟨_,_,q⟩
      ·exact e q.symm
      ·exact c3 (hrel _ _ q).2.2.1
     refine⟨_,⟨awv _ p x c _ p' (nl _) (fit_roomy hf _ _) e hcu h3,fun z hz=>?_,hnd'.2,fun u v he=>?_,by rw[R_size];omega⟩⟩
     ·rcases R_names hf x c z hz with h|h|h
      ·exact hpn z h
      ·exact h▸c4
      ·exact h
     ·rcases he with⟨q1,q2⟩|⟨q1,q2,q3⟩
      ·rcases q2 with⟨_,q⟩|⟨q,_⟩
       ·exact⟨by unfold upd;rw[if_pos q,q1],q▸hnd'.1,by rw[mem_addL];exact .inr q1,q1▸c4⟩
       ·exact absurd rfl q
      ·exact(hrel2 u v q3).2 q2
   obtain⟨E2,cx2⟩:=hcx;have g:=H (R p x c) (addL tk c) p' E2 (upd L x' c) (by rw[R_size];omega) (.inl (ae6 hf _ _)) cx2;rw[c2]at g;have et:tf (.rcv a' x' p') (c::r).length=fl p' r.length:=by simp[tf,fl]
   rw[et];refine⟨fun hb=>?_,fun hb=>?_⟩
   ·have:=aeg g hb;simp only[thS,thI,c1,this,<-e1,List.headD_cons,List.tail_cons]
   ·refine(g.2 hb).imp (fun h=>?_) fun h=>abT fun h'=>?_
    ·simp only[thS,c1];exact h
    ·simp only[thS,Tm.ok,bae,c1]at h';rw[h]at h';simp at h'
 | sum p q=>
  have hd:¬p.dead=true:=by rw[t2.1];simp
  have hd2:¬q.dead=true:=by rw[t2.2];simp
  unfold Sm at hsm;rw[if_neg hd,if_neg hd2]at hsm;obtain⟨p',q',rfl,h1,h2⟩:=hsm;obtain⟨f1,f2⟩:=aeK hX;simp only[Tm.size]at hn hsz;have hpos:=aaq p;have hpos2:=aaq q
  have hsums:Tm.sums (Tm.sum p q).size (.sum p q)=Tm.sums (p.size+q.size) p++Tm.sums (p.size+q.size) q:=by
   show Tm.sums (p.size+q.size+1) (.sum p q)=_;unfold Tm.sums;rw[ae8 _ t2]
   cases p.size+q.size<;>rfl
  have hA:All2 (fun a b=>Good (whl n once a tk) (fl b (othL tk).length) (mid n once L (othL tk) b)) (Tm.sums (Tm.sum p q).size (.sum p q)) (smds (.sum p' q')):=by
   rw[hsums];simp only[smds];have hnd':(p'.bnd++q'.bnd).Nodup:=hnd;rw[List.nodup_append]at hnd';refine .append ((anE _ p E p' (by omega) t2.1 h1 f1).mono fun a b ha hb h=>?_) ((anE _ q E q' (by omega) t2.2 h2 f2).mono fun a b ha hb h=>?_)
   ·obtain⟨b1,b2⟩:=anD hnd'.1 b hb
    exact H a tk b E L (by omega) (.inl h.2.1) ⟨h.1,fun z hz=>hng z (by rw[mf_sum];simp only[Tm.bnd,lma];have:=h.2.2.2 z hz;grind),b1,fun u v he=>by
     obtain⟨r1,r2,r3⟩:=hrel u v he
     exact⟨r1,fun hv=>r2 (by simp only[Tm.bnd,lma];exact .inl (b2 v hv)),r3⟩,by omega⟩
   ·obtain⟨b1,b2⟩:=anD hnd'.2.1 b hb
    exact H a tk b E L (by omega) (.inl h.2.1) ⟨h.1,fun z hz=>hng z (by rw[mf_sum];simp only[Tm.bnd,lma];have:=h.2.2.2 z hz;grind),b1,fun u v he=>by
     obtain⟨r1,r2,r3⟩:=hrel u v he
     exact⟨r1,fun hv=>r2 (by simp only[Tm.bnd,lma];exact .inr (b2 v hv)),r3⟩,by omega⟩
  have hs:=adq (.sum p' q') (othL tk).length;have et:fl (.sum p' q') (othL tk).length=tf (.sum p' q') (othL tk).length:=by simp[fl,fcnt,lvl]
  rw[et]at hs;have e1:thS (whl n once) (.sum p q) tk=(joinR .sum (srtT ((Tm.sums (Tm.sum p q).size (.sum p q)).map fun q=>(whl n once q tk).1)),(Tm.sums (Tm.sum p q).size (.sum p q)).any fun q=>(whl n once q tk).2):=rfl;have e2:thI (mid n once) L (othL tk) (.sum p' q')=joinR .sum (srtT ((smds (.sum p' q')).map (mid n once L (othL tk)))):=rfl;rw[e1,e2]
  generalize Tm.sums (Tm.sum p q).size (.sum p q)=l at *
  generalize smds (.sum p' q')=m at *
  refine⟨fun hb=>?_,fun hb=>?_⟩
  ·have hall:=hs.1 hb;have hm:l.map (fun q=>(whl n once q tk).1)=m.map (mid n once L (othL tk)):=(hA.mono fun a b _ hb h=>by rw[aeg h (hall b hb)]).map_eq;rw[hm];congr 1;rw[List.any_eq_false];intro a ha;obtain⟨b,hb,h⟩:=hA.ex' a ha;rw[aeg h (hall b hb)];simp
  ·obtain⟨b,hb,e⟩:=hs.2 hb;obtain⟨a,ha,h⟩:=hA.ex b hb;refine(h.2 e).imp (fun h=>?_) fun h=>abT fun h'=>?_
   ·rw[List.any_eq_true];exact⟨a,ha,h⟩
   ·have:=anF _ h' (whl n once a tk).1 ((aaV _ _).2 (List.mem_map.2 ⟨a,ha,rfl⟩));rw[h]at this;simp at this
theorem anH:∀(o:List UInt8) (L:UInt8->UInt8) (ls:List UInt8),updL L o (ls.take o.length)=updL L o ls:=by
 intro o;induction o with
 | nil=>intro L ls;cases ls<;>rfl
 | cons x o ih=>
  intro L ls
  cases ls with
  | nil=>rfl
  | cons l ls=>simp only[List.length_cons,List.take_succ_cons,updL];exact ih _ ls
theorem ah8 (s:Tm)(k:Nat):tf s k=(lvl s).2.all fun T=>tf T k:=by
 induction s with
 | nil=>rfl
 | own x p ih=>simp only[tf,lvl];exact ih
 | par p q ih ih2=>simp only[tf,lvl,List.all_append];rw[ih,ih2]
 | _=>simp[lvl]
theorem ap_ (t:Tm):∀z,z∈t.peel.bnd->z∈t.bnd:=by
 induction t with
 | mat a b p ih=>unfold Tm.peel;split;exact ih;exact fun _ h=>h
 | sum p q ih ih2=>
  unfold Tm.peel;split
  ·intro z hz;simp only[Tm.bnd,lma];exact .inr (ih2 z hz)
  ·split
   ·intro z hz;simp only[Tm.bnd,lma];exact .inl (ih z hz)
   ·exact fun _ h=>h
 | par p q ih ih2=>
  unfold Tm.peel;split
  ·intro z hz;simp only[Tm.bnd,lma];exact .inr (ih2 z hz)
  ·split
   ·intro z hz;simp only[Tm.bnd,lma];exact .inl (ih z hz)
   ·exact fun _ h=>h
 | own x p ih=>
  unfold Tm.peel;split
  ·exact fun _ h=>h
  ·intro z hz;simp only[Tm.bnd,List.mem_cons];exact .inr (ih z hz)
 | _=>exact fun _ h=>h
theorem ajO (n:Nat):∀(k:Nat) (t:Tm),(∀z∈t.bnd,¬aaX z)->∀T∈(gath n k t).1,∀z∈T.bnd,¬aaX z:=by
 induction n with
 | zero=>intro k t _ T hT;simp[gath]at hT
 | succ n ih=>
  intro k t h T hT;have h':∀z∈t.peel.bnd,¬aaX z:=fun z hz=>h z (ap_ t z hz);unfold gath at hT
  split at hT
  ·simp at hT
  ·generalize t.peel=u at *
   cases u with
   | par p q=>
    simp only[lma]at hT;rcases hT with hT|hT
    ·exact ih k p (fun z hz=>h' z (by simp only[Tm.bnd,lma];exact .inl hz)) T hT
    ·exact ih _ q (fun z hz=>h' z (by simp only[Tm.bnd,lma];exact .inr hz)) T hT
   | own x p=>
    refine ih (k+1) (R p x (gl k)) (fun z hz=>?_) T hT;rcases R_bnds _ p x (gl k) (nl _) z hz with hz|hz
    ·exact h' z (by simp only[Tm.bnd,List.mem_cons];exact .inr hz)
    ·exact hz
   | nil=>simp only[List.mem_singleton]at hT;rw[hT];exact h'
   | snd a b p=>simp only[List.mem_singleton]at hT;rw[hT];exact h'
   | rcv a b p=>simp only[List.mem_singleton]at hT;rw[hT];exact h'
   | tau p=>simp only[List.mem_singleton]at hT;rw[hT];exact h'
   | sum p q=>simp only[List.mem_singleton]at hT;rw[hT];exact h'
   | mat a b p=>simp only[List.mem_singleton]at hT;rw[hT];exact h'
   | rep p=>simp only[List.mem_singleton]at hT;rw[hT];exact h'
theorem anI (n:Nat):∀once,aw1 n once:=by
 induction n with
 | zero=>intro once t tk s E L h;have:=aaq t;omega
 | succ n ih=>
  intro once t tk s E L hn hf cx;obtain⟨hsm,hng,hnd,hrel,hsz⟩:=id cx;have h89:=anC hsm hsz;obtain⟨g1,g2,g3⟩:=anu t.size 0 t E s (fun z=>¬aaX z) (nl _) hf hsm (by unfold fcnt at h89;omega) (fun z h=>h) (fun i _ hi h=>h (acf hi)) hng hnd (fun u v h=>(hrel u v h).2.1);have gb:=ajO t.size 0 t (fun z hz=>hng z (.inr hz));simp only[Nat.zero_add]at g1 g3;obtain⟨n1,n2,n3⟩:=arE hnd;unfold whl mid
  by_cases hU:(lvl s).2=[]
  ·have hd:t.dead=true:=by
    cases e:t.dead with
    | true=>rfl
    | false=>exact absurd hU (anB t E s e hsm)
   have e:=aef t E s hd hsm;subst e;have hT:(gath t.size 0 t).1=[]:=List.length_eq_zero_iff.1 (by rw[g2.len];rfl);rw[hT];exact⟨fun _=>rfl,fun hb=>by simp[fl,fcnt,lvl,tf]at hb⟩
  ·have hT:(gath t.size 0 t).1≠[]:=fun e=>hU (List.length_eq_zero_iff.1 (by rw[<-g2.len,e];rfl));have hT':(gath t.size 0 t).1.isEmpty=false:=by simpa using hT
   have hU':(lvl s).2.isEmpty=false:=by simpa using hU
   rw[hT',hU',g1];simp only[Bool.false_eq_true,if_false]
   have hfl:fl s (othL tk).length=(decide ((lvl s).1.length<=5) && decide ((lvl s).1.length<=(othL tk).length) && (lvl s).2.all fun T=>tf T ((othL tk).length - (lvl s).1.length)):=by
    unfold fl fcnt;rw[ah8]
   rw[hfl]
   generalize hG:(lvl s).1=G at *
   generalize hU2:(lvl s).2=U at *
   generalize (gath t.size 0 t).1=TT at *
   by_cases h5:5<G.length
   ·rw[if_pos h5];refine⟨fun hb=>?_,fun _=>.inl rfl⟩;simp only[bae,decide_eq_true_eq]at hb;omega
   ·rw[if_neg h5]
    have hos:∀o∈(if once=true then (ords G.length).take 1 else ords G.length),o.length=G.length/\o.Nodup/\∀i,i∈o↔i<G.length:=by
     intro o ho;refine ack G.length (by omega) o ?_
     split at ho
     ·exact List.mem_of_mem_take ho
     ·exact ho
    have hone:(if once=true then (ords G.length).take 1 else ords G.length)≠[]:=by
     have:=acT G.length (by omega)
     split
     ·intro e;rw[List.take_eq_nil_iff]at e;simp at e;exact this e
     ·exact this
    generalize (if once=true then (ords G.length).take 1 else ords G.length)=os at *
    by_cases hk:G.length<=(othL tk).length
    ·obtain⟨l1,l2⟩:=anv G.length tk hk
     have hA:∀o∈os,All2 (fun T T'=>Good (thS (whl n once) (nmG o (nexts tk G.length) T) (allT tk G.length)) (tf T' ((othL tk).length - G.length)) (thI (mid n once) (updL L (o.map fun i=>G.getD i 0) (othL tk)) ((othL tk).drop G.length) T')) TT U:=by
      intro o ho;obtain⟨o1,o2,o3⟩:=hos o ho;refine g2.mono fun T T' hT hT' hm=>?_;obtain⟨⟨x1,x2⟩,x3,x4,x5⟩:=g3 T hT
      obtain⟨m1,m2,m3,m4,m5⟩:=au0 o (nexts tk G.length) T (exE E 0 G) L G (fun u=>u∈allT tk G.length/\¬aaX u) (fun v=>v∉T'.bnd) T'
       (by rw[abu];exact o1) o2 (by rw[l1];exact(anx tk).sublist (List.take_sublist _ _)) n1 (by unfold fcnt at h89;rw[hG]at h89;exact h89) (fun i hi=>(o3 i).1 hi)
       (fun l hl=>⟨acD _ _ l hl,by rw[ajN];exact .inr hl,acD _ _ l hl⟩) x1
       (x2.imp id fun h=>List.length_eq_zero_iff.1 (by rw[o1,h.1];rfl)) x4 hm (fun u v he=>by
        rcases he with⟨j,hj,e1,e2⟩|⟨e1,e2,e3⟩
        ·refine⟨fun hv=>n3 v (by rw[e2];exact List.getElem_mem hj) T' hT' hv,.inl ⟨j,(o3 j).2 hj,by rw[e1,Nat.zero_add],?_⟩⟩;rw[e2,List.getD_eq_getElem?_getD,List.getElem?_eq_getElem hj];rfl
        ·obtain⟨r1,r2,r3,r4⟩:=hrel u v e3;refine⟨fun hv=>r2 (ai6 s T' (by rw[hU2];exact hT') v hv),.inr ⟨r1,⟨by rw[ajN];exact .inl r3,r4⟩,fun hu=>?_,r4,fun i hi e=>e2 ?_⟩⟩
         ·rw[l1]at hu;exact((abL _ _).1 (List.mem_of_mem_take hu)).2 r3
         ·have hi':=(o3 i).1 hi;rw[e,List.getD_eq_getElem?_getD,List.getElem?_eq_getElem hi']
          exact List.getElem_mem hi')
      have hcx:Cx (nmG o (nexts tk G.length) T) _ T' (updL L (o.map fun i=>G.getD i 0) (nexts tk G.length)) (allT tk G.length):=
       ⟨m1,fun z hz=>by
        rcases m5 z hz with⟨h1,h2⟩|h|h
        ·rcases x5 z (.inl h1) with h|⟨j,hj,e⟩
         ·exact h
         ·exact absurd e (h2 j ((o3 j).2 hj))
        ·exact gb T hT z h
        ·exact h,n2 T' hT',fun u v he=>⟨he.1,he.2.1,he.2.2.1,he.2.2.2⟩,by rw[m4];omega⟩
      have g:=au1 n once (ih once) _ (allT tk G.length) T' _ _ (by rw[m4];omega) m2 m3 hcx;rw[l2,List.length_drop]at g
      have e:updL L (o.map fun i=>G.getD i 0) (nexts tk G.length)=updL L (o.map fun i=>G.getD i 0) (othL tk):=by
       rw[l1];have:=anH (o.map fun i=>G.getD i 0) L (othL tk);rw[List.length_map,o1]at this
       exact this
      rw[e]at g;exact g
     rw[l1]at hA ⊢;refine⟨fun hb=>?_,fun hb=>?_⟩
     ·simp only[bae,List.all_eq_true]at hb
      have hm:os.map (fun o=>joinR .par (srtT (TT.map fun T=>(thS (whl n once) (nmG o ((othL tk).take G.length) T) (allT tk G.length)).1))) =
        os.map (fun o=>joinR .par (srtT (U.map (thI (mid n once) (updL L (o.map fun i=>G.getD i 0) (othL tk)) ((othL tk).drop G.length))))):=by
       refine List.map_congr_left fun o ho=>?_;congr 2;exact((hA o ho).mono fun a b _ hb' h=>by rw[aeg h (hb.2 b hb')]).map_eq
      rw[hm];congr 1;rw[List.any_eq_false];intro o ho;rw[Bool.not_eq_true,List.any_eq_false];intro a ha;obtain⟨b,hb',h⟩:=(hA o ho).ex' a ha;rw[aeg h (hb.2 b hb')];simp
     ·have hbad:∃T'∈U,tf T' ((othL tk).length - G.length)=false:=by
       simp only[Bool.and_eq_false_iff,decide_eq_false_iff_not,List.all_eq_false]at hb;rcases hb with (hb|hb)|⟨T',h1,h2⟩
       ·omega
       ·omega
       ·exact⟨T',h1,by simpa using h2⟩
      obtain⟨T',hT2,e⟩:=hbad
      by_cases hany:(os.any fun o=>TT.any fun T=>(thS (whl n once) (nmG o ((othL tk).take G.length) T) (allT tk G.length)).2)=true
      ·exact .inl hany
      ·refine .inr (abT fun h'=>hany ?_);have h2:=(ag2 _ _ h').2;have hm:=acr (os.map fun o=>joinR .par (srtT (TT.map fun T=>(thS (whl n once) (nmG o ((othL tk).take G.length) T) (allT tk G.length)).1))) (by simpa using hone);obtain⟨o,ho,e2⟩:=List.mem_map.1 hm;rw[<-e2]at h2;obtain⟨a,ha,h⟩:=(hA o ho).ex T' hT2;rw[List.any_eq_true];refine⟨o,ho,?_⟩;rw[List.any_eq_true];refine⟨a,ha,?_⟩;rcases h.2 e with h|h
       ·exact h
       ·have:=ae_ _ h2 _ ((aaV _ _).2 (List.mem_map.2 ⟨a,ha,rfl⟩));rw[h]at this;simp at this
    ·refine⟨fun hb=>?_,fun _=>.inr (abT fun h'=>?_)⟩
     ·simp only[bae,decide_eq_true_eq]at hb;omega
     ·obtain⟨l,hl,e⟩:=anw G.length tk (by omega);have:=(ag2 _ _ h').1 l hl;rw[e]at this;simp at this
def Tm.sim:Tm->Tm
 | .nil=>.nil
 | .snd a b p=>.snd a b p.sim
 | .rcv a x p=>.rcv a x p.sim
 | .tau p=>.tau p.sim
 | .sum p q=>if p.sim=.nil then q.sim else if q.sim=.nil then p.sim else .sum p.sim q.sim
 | .par p q=>if p.sim=.nil then q.sim else if q.sim=.nil then p.sim else .par p.sim q.sim
 | .own x p=>if x∈p.sim.free then .own x p.sim else p.sim
 | .mat a b p=>if a=b\/p.sim=.nil then p.sim else .mat a b p.sim
 | .rep p=>if p.sim=.nil then p.sim else .rep p.sim
theorem aa7 (t:Tm):(t.sim=.nil↔t.dead=true)/\∀z,z∈t.sim.free↔z∈t.usd:=by
 induction t with
 | nil=>exact⟨by simp[Tm.sim,Tm.dead],fun z=>by simp[Tm.sim,Tm.free,Tm.usd]⟩
 | snd a b p ih=>exact⟨by simp[Tm.sim,Tm.dead],fun z=>by rw[mu_snd];simp only[Tm.sim];rw[mf_snd,ih.2]⟩
 | rcv a x p ih=>exact⟨by simp[Tm.sim,Tm.dead],fun z=>by rw[mu_rcv];simp only[Tm.sim];rw[mf_rcv,ih.2]⟩
 | tau p ih=>exact⟨by simp[Tm.sim,Tm.dead],fun z=>by rw[mu_tau];simp only[Tm.sim];rw[mf_tau,ih.2]⟩
 | sum p q ih ih2=>
  simp only[Tm.sim,Tm.dead,bae]
  by_cases h:p.sim=.nil
  ·rw[if_pos h];have hd:=ih.1.1 h;exact⟨by rw[ih2.1];simp[hd],fun z=>by rw[mu_sum,ih2.2,dead_usd _ hd];simp⟩
  ·rw[if_neg h];have hd:¬p.dead=true:=fun e=>h (ih.1.2 e)
   by_cases h2:q.sim=.nil
   ·rw[if_pos h2];have hd2:=ih2.1.1 h2;exact⟨by rw[ih.1];simp[hd2],fun z=>by rw[mu_sum,ih.2,dead_usd _ hd2];simp⟩
   ·rw[if_neg h2];exact⟨by simp[hd],fun z=>by rw[mu_sum,mf_sum,ih.2,ih2.2]⟩
 | par p q ih ih2=>
  simp only[Tm.sim,Tm.dead,bae]
  by_cases h:p.sim=.nil
  ·rw[if_pos h];have hd:=ih.1.1 h;exact⟨by rw[ih2.1];simp[hd],fun z=>by rw[mu_par,ih2.2,dead_usd _ hd];simp⟩
  ·rw[if_neg h];have hd:¬p.dead=true:=fun e=>h (ih.1.2 e)
   by_cases h2:q.sim=.nil
   ·rw[if_pos h2];have hd2:=ih2.1.1 h2;exact⟨by rw[ih.1];simp[hd2],fun z=>by rw[mu_par,ih.2,dead_usd _ hd2];simp⟩
   ·rw[if_neg h2];exact⟨by simp[hd],fun z=>by rw[mu_par,mf_par,ih.2,ih2.2]⟩
 | own x p ih=>
  simp only[Tm.sim,Tm.dead]
  by_cases h:x∈p.sim.free
  ·rw[if_pos h];have hx:=(ih.2 x).1 h;exact⟨⟨fun e=>(by cases e),fun e=>(by rw[dead_usd _ e]at hx;simp at hx)⟩,fun z=>by rw[mu_own,mf_own,ih.2]⟩
  ·rw[if_neg h];exact⟨ih.1,fun z=>by rw[mu_own,ih.2];exact⟨fun hz=>⟨hz,fun e=>h ((ih.2 x).2 (e▸hz))⟩,fun hz=>hz.1⟩⟩
 | mat a b p ih=>
  simp only[Tm.sim,Tm.dead]
  by_cases h:a=b\/p.sim=.nil
  ·rw[if_pos h];refine⟨ih.1,fun z=>?_⟩;rw[mu_mat,ih.2];rcases h with h|h
   ·simp[h]
   ·have:=ih.1.1 h;rw[dead_usd _ this];simp[this]
  ·rw[if_neg h];have hd:¬p.dead=true:=fun e=>h (.inr (ih.1.2 e));have hd':p.dead=false:=by simpa using hd
   have hab:a≠b:=fun e=>h (.inl e);exact⟨by simp[hd],fun z=>by rw[mu_mat,mf_mat,ih.2];simp[hab,hd']⟩
 | rep p ih=>
  simp only[Tm.sim,Tm.dead]
  by_cases h:p.sim=.nil
  ·rw[if_pos h];exact⟨ih.1,fun z=>by rw[mu_rep,ih.2]⟩
  ·rw[if_neg h];have hd:¬p.dead=true:=fun e=>h (ih.1.2 e);exact⟨by simp[hd],fun z=>by rw[mu_rep,mf_rep,ih.2]⟩
theorem sim_usd (t:Tm):t.sim.free=t.usd:=acP (srt_free _) (abe _) (aa7 t).2
theorem ajP (t:Tm):Sm t (fun u v=>u=v) t.sim:=by
 have hb:∀(x:UInt8) (p s:Tm),Sm p (fun u v=>u=v) s->Sm p (bdE (fun u v=>u=v) x x) s:=fun x p s h=>
  aaL p _ _ s (fun u v _ e=>by
   by_cases hx:u=x
   ·exact .inl ⟨hx,e▸hx⟩
   ·exact .inr ⟨hx,e▸hx,e⟩) h
 induction t with
 | nil=>rfl
 | snd a b p ih=>exact⟨a,b,p.sim,rfl,rfl,rfl,ih⟩
 | rcv a x p ih=>exact⟨a,x,p.sim,rfl,rfl,hb x p _ ih⟩
 | tau p ih=>exact⟨p.sim,rfl,ih⟩
 | sum p q ih ih2=>
  unfold Sm Tm.sim
  by_cases h:p.sim=.nil
  ·rw[if_pos h,if_pos ((aa7 p).1.1 h)];exact ih2
  ·rw[if_neg h,if_neg (fun e=>h ((aa7 p).1.2 e))]
   by_cases h2:q.sim=.nil
   ·rw[if_pos h2,if_pos ((aa7 q).1.1 h2)];exact ih
   ·rw[if_neg h2,if_neg (fun e=>h2 ((aa7 q).1.2 e))];exact⟨_,_,rfl,ih,ih2⟩
 | par p q ih ih2=>
  unfold Sm Tm.sim
  by_cases h:p.sim=.nil
  ·rw[if_pos h,if_pos ((aa7 p).1.1 h)];exact ih2
  ·rw[if_neg h,if_neg (fun e=>h ((aa7 p).1.2 e))]
   by_cases h2:q.sim=.nil
   ·rw[if_pos h2,if_pos ((aa7 q).1.1 h2)];exact ih
   ·rw[if_neg h2,if_neg (fun e=>h2 ((aa7 q).1.2 e))];exact⟨_,_,rfl,ih,ih2⟩
 | own x p ih=>
  unfold Sm Tm.sim
  by_cases h:x∈p.sim.free
  ·rw[if_pos h,if_pos (((aa7 p).2 x).1 h)];exact⟨x,p.sim,rfl,hb x p _ ih⟩
  ·rw[if_neg h,if_neg (fun e=>h (((aa7 p).2 x).2 e))];exact ih
 | mat a b p ih=>
  unfold Sm Tm.sim
  by_cases h:a=b
  ·rw[if_pos h,if_pos (show a=b\/p.sim=.nil from .inl h)];exact ih
  ·rw[if_neg h]
   by_cases h2:p.sim=.nil
   ·rw[if_pos (show a=b\/p.sim=.nil from .inr h2),if_pos ((aa7 p).1.1 h2)];exact h2
   ·rw[if_neg (show ¬(a=b\/p.sim=.nil) from fun e=>e.elim h h2),if_neg (fun e=>h2 ((aa7 p).1.2 e))];exact⟨a,b,p.sim,rfl,rfl,rfl,ih⟩
 | rep p ih=>
  unfold Sm Tm.sim
  by_cases h2:p.sim=.nil
  ·rw[if_pos h2,if_pos ((aa7 p).1.1 h2)];exact h2
  ·rw[if_neg h2,if_neg (fun e=>h2 ((aa7 p).1.2 e))];exact⟨p.sim,rfl,ih⟩
theorem arF (t:Tm):∀(E:UInt8->UInt8->Prop) (s:Tm) (f:UInt8->UInt8) (ns:List UInt8),Sm t E s->s.bnd.length<=ns.length->ns.Nodup->(∀z,z∈s.free->f z∉ns)-> Sm t (fun u v=>∃w,w∈s.free/\E u w/\v=f w) (can s f ns):=by
 have hbind:∀(p p':Tm) (E:UInt8->UInt8->Prop) (x x' n:UInt8) (f:UInt8->UInt8) (ns:List UInt8) (F:List UInt8),(∀z,z∈p'.free->z≠x'->z∈F)->(∀z,z∈F->f z∉n::ns)->(n::ns).Nodup->
   Sm p (fun u v=>∃w,w∈p'.free/\bdE E x x' u w/\v=upd f x' n w) (can p' (upd f x' n) ns)->
   Sm p (bdE (fun u v=>∃w,w∈F/\E u w/\v=f w) x n) (can p' (upd f x' n) ns):=by
  intro p p' E x x' n f ns F hF hf hnd h;refine aaL p _ _ _ (fun u v _ he=>?_) h;obtain⟨w,hw,he,hv⟩:=he;rcases he with⟨e1,e2⟩|⟨e1,e2,e3⟩
  ·exact .inl ⟨e1,by rw[hv];unfold upd;rw[if_pos e2]⟩
  ·have hv':v=f w:=by rw[hv];unfold upd;rw[if_neg e2]
   refine .inr ⟨e1,fun e=>hf w (hF w hw e2) (by rw[<-hv',e];simp),w,hF w hw e2,e3,hv'⟩
 have hsub:∀(p':Tm) (x' n:UInt8) (f:UInt8->UInt8) (ns:List UInt8) (F:List UInt8),(∀z,z∈p'.free->z≠x'->z∈F)->(∀z,z∈F->f z∉n::ns)->(n::ns).Nodup->∀z,z∈p'.free->upd f x' n z∉ns:=by
  intro p' x' n f ns F hF hf hnd z hz;rw[List.nodup_cons]at hnd;unfold upd;split
  ·exact hnd.1
  ·rename_i e;exact fun h=>hf z (hF z hz e) (by simp[h])
 induction t with
 | nil=>rintro E s f ns rfl _ _ _;rfl
 | snd a b p ih=>
  rintro E s f ns ⟨a',b',p',rfl,h1,h2,h3⟩ hl hn hf;refine⟨f a',f b',can p' f ns,rfl,⟨a',by rw[mf_snd];simp,h1,rfl⟩,⟨b',by rw[mf_snd];simp,h2,rfl⟩,?_⟩;exact aaL p _ _ _ (fun u v _ he=>by obtain⟨w,hw,e⟩:=he;exact⟨w,by rw[mf_snd];simp[hw],e⟩) (ih E p' f ns h3 hl hn (fun z hz=>hf z (by rw[mf_snd];simp[hz])))
 | tau p ih=>
  rintro E s f ns ⟨p',rfl,h3⟩ hl hn hf;refine⟨can p' f ns,rfl,?_⟩;exact aaL p _ _ _ (fun u v _ he=>by obtain⟨w,hw,e⟩:=he;exact⟨w,by rw[mf_tau];exact hw,e⟩) (ih E p' f ns h3 hl hn (fun z hz=>hf z (by rw[mf_tau];exact hz)))
 | rcv a x p ih=>
  rintro E s f ns ⟨a',x',p',rfl,h1,h3⟩ hl hn hf
  cases ns with
  | nil=>simp[Tm.bnd]at hl
  | cons n ns=>
   have hF:∀z,z∈p'.free->z≠x'->z∈(Tm.rcv a' x' p').free:=fun z hz e=>by rw[mf_rcv];exact .inr ⟨hz,e⟩
   refine⟨f a',n,can p' (upd f x' n) ns,rfl,⟨a',by rw[mf_rcv];simp,h1,rfl⟩,?_⟩;exact hbind p p' E x x' n f ns _ hF hf hn (ih _ p' (upd f x' n) ns h3 (by simpa [Tm.bnd] using hl) (List.nodup_cons.1 hn).2 (hsub p' x' n f ns _ hF hf hn))
 | own x p ih=>
  intro E s f ns h hl hn hf;unfold Sm at h ⊢
  split at h
  ·rename_i c;rw[if_pos c]
   obtain⟨x',p',rfl,h3⟩:=h
   cases ns with
   | nil=>simp[Tm.bnd]at hl
   | cons n ns=>
    have hF:∀z,z∈p'.free->z≠x'->z∈(Tm.own x' p').free:=fun z hz e=>by rw[mf_own];exact⟨hz,e⟩
    refine⟨n,can p' (upd f x' n) ns,rfl,?_⟩;exact hbind p p' E x x' n f ns _ hF hf hn (ih _ p' (upd f x' n) ns h3 (by simpa [Tm.bnd] using hl) (List.nodup_cons.1 hn).2 (hsub p' x' n f ns _ hF hf hn))
  ·rename_i c;rw[if_neg c];exact ih E s f ns h hl hn hf
 | sum p q ih ih2=>
  intro E s f ns h hl hn hf;unfold Sm at h ⊢
  split at h
  ·rename_i c;rw[if_pos c];exact ih2 E s f ns h hl hn hf
  ·rename_i c;rw[if_neg c]
   split at h
   ·rename_i c;rw[if_pos c];exact ih E s f ns h hl hn hf
   ·rename_i c;rw[if_neg c]
    obtain⟨p',q',rfl,h1,h2⟩:=h;simp only[Tm.bnd,lla]at hl;refine⟨can p' f ns,can q' f (ns.drop p'.bnd.length),rfl,?_,?_⟩
    ·exact aaL p _ _ _ (fun u v _ he=>by obtain⟨w,hw,e⟩:=he;exact⟨w,by rw[mf_sum];exact .inl hw,e⟩) (ih E p' f ns h1 (by omega) hn (fun z hz=>hf z (by rw[mf_sum];exact .inl hz)))
    ·exact aaL q _ _ _ (fun u v _ he=>by obtain⟨w,hw,e⟩:=he;exact⟨w,by rw[mf_sum];exact .inr hw,e⟩) (ih2 E q' f _ h2 (by rw[List.length_drop];omega) (hn.sublist (List.drop_sublist _ _)) (fun z hz h=>hf z (by rw[mf_sum];exact .inr hz) (List.mem_of_mem_drop h)))
 | par p q ih ih2=>
  intro E s f ns h hl hn hf;unfold Sm at h ⊢
  split at h
  ·rename_i c;rw[if_pos c];exact ih2 E s f ns h hl hn hf
  ·rename_i c;rw[if_neg c]
   split at h
   ·rename_i c;rw[if_pos c];exact ih E s f ns h hl hn hf
   ·rename_i c;rw[if_neg c]
    obtain⟨p',q',rfl,h1,h2⟩:=h;simp only[Tm.bnd,lla]at hl;refine⟨can p' f ns,can q' f (ns.drop p'.bnd.length),rfl,?_,?_⟩
    ·exact aaL p _ _ _ (fun u v _ he=>by obtain⟨w,hw,e⟩:=he;exact⟨w,by rw[mf_par];exact .inl hw,e⟩) (ih E p' f ns h1 (by omega) hn (fun z hz=>hf z (by rw[mf_par];exact .inl hz)))
    ·exact aaL q _ _ _ (fun u v _ he=>by obtain⟨w,hw,e⟩:=he;exact⟨w,by rw[mf_par];exact .inr hw,e⟩) (ih2 E q' f _ h2 (by rw[List.length_drop];omega) (hn.sublist (List.drop_sublist _ _)) (fun z hz h=>hf z (by rw[mf_par];exact .inr hz) (List.mem_of_mem_drop h)))
 | mat a b p ih=>
  intro E s f ns h hl hn hf;unfold Sm at h ⊢
  by_cases c:a=b
  ·rw[if_pos c]at h ⊢;exact ih E s f ns h hl hn hf
  ·rw[if_neg c]at h ⊢
   split at h
   ·rename_i d;rw[if_pos d];subst h;rfl
   ·rename_i d;rw[if_neg d]
    obtain⟨a',b',p',rfl,h1,h2,h3⟩:=h;refine⟨f a',f b',can p' f ns,rfl,⟨a',by rw[mf_mat];simp,h1,rfl⟩,⟨b',by rw[mf_mat];simp,h2,rfl⟩,?_⟩;exact aaL p _ _ _ (fun u v _ he=>by obtain⟨w,hw,e⟩:=he;exact⟨w,by rw[mf_mat];simp[hw],e⟩) (ih E p' f ns h3 hl hn (fun z hz=>hf z (by rw[mf_mat];simp[hz])))
 | rep p ih=>
  intro E s f ns h hl hn hf;unfold Sm at h ⊢
  split at h
  ·rename_i d;rw[if_pos d];subst h;rfl
  ·rename_i d;rw[if_neg d]
   obtain⟨p',rfl,h3⟩:=h;refine⟨can p' f ns,rfl,?_⟩;exact aaL p _ _ _ (fun u v _ he=>by obtain⟨w,hw,e⟩:=he;exact⟨w,by rw[mf_rep];exact hw,e⟩) (ih E p' f ns h3 hl hn (fun z hz=>hf z (by rw[mf_rep];exact hz)))
theorem ai7 (s:Tm):∀(f:UInt8->UInt8) (ns:List UInt8),s.bnd.length<=ns.length->(can s f ns).bnd=ns.take s.bnd.length:=by
 induction s with
 | nil=>intro f ns _;simp[can,Tm.bnd]
 | snd a b p ih=>intro f ns h;exact ih f ns h
 | tau p ih=>intro f ns h;exact ih f ns h
 | mat a b p ih=>intro f ns h;exact ih f ns h
 | rep p ih=>intro f ns h;exact ih f ns h
 | rcv a x p ih=>
  intro f ns h
  cases ns with
  | nil=>simp[Tm.bnd]at h
  | cons n ns=>
   simp only[can,Tm.bnd,List.headD_cons,List.tail_cons,List.length_cons,List.take_succ_cons];rw[ih _ ns (by simpa [Tm.bnd] using h)]
 | own x p ih=>
  intro f ns h
  cases ns with
  | nil=>simp[Tm.bnd]at h
  | cons n ns=>
   simp only[can,Tm.bnd,List.headD_cons,List.tail_cons,List.length_cons,List.take_succ_cons];rw[ih _ ns (by simpa [Tm.bnd] using h)]
 | sum p q ih ih2=>
  intro f ns h;simp only[Tm.bnd,lla]at h;simp only[can,Tm.bnd,lla];rw[ih f ns (by omega),ih2 f _ (by rw[List.length_drop];omega),<-List.take_add]
 | par p q ih ih2=>
  intro f ns h;simp only[Tm.bnd,lla]at h;simp only[can,Tm.bnd,lla];rw[ih f ns (by omega),ih2 f _ (by rw[List.length_drop];omega),<-List.take_add]
def ownc:Tm->Nat
 | .nil=>0
 | .snd _ _ p=>ownc p
 | .rcv _ _ p=>ownc p
 | .tau p=>ownc p
 | .sum p q=>ownc p+ownc q
 | .par p q=>ownc p+ownc q
 | .own _ p=>ownc p+1
 | .mat _ _ p=>ownc p
 | .rep p=>ownc p
theorem anJ (t:Tm)(h:t.ok nmE=true):t.pr.count 35=ownc t:=by
 have hn:∀c,nmE c=true->c≠35:=fun c h e=>by rw[e]at h;revert h;decide
 induction t with
 | nil=>rfl
 | snd a b p ih=>
  simp only[Tm.ok,bae]at h;simp only[Tm.pr,List.count_cons,ownc,ih h.2];simp[hn a h.1.1,hn b h.1.2]
 | rcv a b p ih=>
  simp only[Tm.ok,bae]at h;simp only[Tm.pr,List.count_cons,ownc,ih h.2];simp[hn a h.1.1,hn b h.1.2]
 | tau p ih=>simp only[Tm.ok]at h;simp only[Tm.pr,List.count_cons,ownc,ih h];simp
 | rep p ih=>simp only[Tm.ok]at h;simp only[Tm.pr,List.count_cons,ownc,ih h];simp
 | mat a b p ih=>
  simp only[Tm.ok,bae]at h;simp only[Tm.pr,List.count_cons,ownc,ih h.2];simp[hn a h.1.1,hn b h.1.2]
 | own x p ih=>
  simp only[Tm.ok,bae]at h;simp only[Tm.pr,List.count_cons,ownc,ih h.2];simp[hn x h.1]
 | sum p q ih ih2=>
  simp only[Tm.ok,bae]at h;simp only[Tm.pr,List.count_cons,List.count_append,List.count_nil,ownc,ih h.1,ih2 h.2];simp
 | par p q ih ih2=>
  simp only[Tm.ok,bae]at h;simp only[Tm.pr,List.count_cons,List.count_append,List.count_nil,ownc,ih h.1,ih2 h.2];simp
def agm (l:List Tm):Nat:=(l.map ownc).sum
theorem ah9 {l m:List Tm}(h:l.Perm m):agm l=agm m:=by
 unfold agm;induction h with
 | nil=>rfl
 | cons a _ ih=>simp[ih]
 | swap a b l=>simp;omega
 | trans _ _ ih ih2=>rw[ih,ih2]
theorem ajQ (l:List Tm):agm (srtT l)=agm l:=ah9 (List.mergeSort_perm _ _)
theorem alg:∀l:List Tm,ownc (joinR .sum l)=agm l:=by
 intro l;induction l with
 | nil=>rfl
 | cons a l ih=>
  cases l with
  | nil=>simp[joinR,agm]
  | cons b l=>simp only[joinR,ownc,ih];simp[agm]
theorem alh:∀l:List Tm,ownc (joinR .par l)=agm l:=by
 intro l;induction l with
 | nil=>rfl
 | cons a l ih=>
  cases l with
  | nil=>simp[joinR,agm]
  | cons b l=>simp only[joinR,ownc,ih];simp[agm]
theorem anK (t:Tm):∀ls:List UInt8,ownc (wrapO ls t)=ls.length+ownc t:=by
 intro ls;induction ls with
 | nil=>simp[wrapO]
 | cons a ls ih=>show ownc (.own a (wrapO ls t))=_;simp only[ownc,ih,List.length_cons];omega
theorem ag3 (s:Tm):ownc s=(lvl s).1.length+agm (lvl s).2:=by
 induction s with
 | nil=>rfl
 | own x p ih=>simp only[lvl,ownc,ih,List.length_cons];omega
 | par p q ih ih2=>simp only[lvl,ownc,ih,ih2,lla];simp[agm];omega
 | _=>simp[lvl,agm]
theorem anL (s:Tm):agm (smds s)=ownc s:=by
 induction s with
 | sum p q ih ih2=>simp only[smds,ownc,<-ih,<-ih2];simp[agm]
 | _=>simp[smds,agm]
theorem ajR {f:Tm->Tm}:∀l:List Tm,(∀t∈l,ownc (f t)=ownc t)->agm (l.map f)=agm l:=by
 intro l;induction l with
 | nil=>intro _;rfl
 | cons a l ih=>
  intro h;have h1:=h a (by simp);have h2:=ih fun t ht=>h t (by simp[ht]);unfold agm at *;simp only[List.map_cons,List.sum_cons,h1,h2]
theorem aa8 (s:Tm):(∀T∈(lvl s).2,T.size<=s.size):=by
 induction s with
 | own x p ih=>intro T hT;have:=ih T hT;simp only[Tm.size];omega
 | par p q ih ih2=>
  intro T hT;simp only[lvl,lma]at hT;simp only[Tm.size];rcases hT with hT|hT
  ·have:=ih T hT;omega
  ·have:=ih2 T hT;omega
 | nil=>intro T hT;simp[lvl]at hT
 | _=>intro T hT;simp only[lvl,List.mem_singleton]at hT;rw[hT];exact nl _
theorem aaG (s:Tm):∀q∈smds s,q.size<=s.size:=by
 induction s with
 | sum p q ih ih2=>
  intro T hT;simp only[smds,lma]at hT;simp only[Tm.size];rcases hT with hT|hT
  ·have:=ih T hT;omega
  ·have:=ih2 T hT;omega
 | _=>intro T hT;simp only[smds,List.mem_singleton]at hT;rw[hT];exact nl _
theorem abb (s:Tm):∀T∈(lvl s).2,(∀p q,T≠.par p q)/\(∀x p,T≠.own x p)/\T≠.nil:=by
 induction s with
 | own x p ih=>exact ih
 | par p q ih ih2=>
  intro T hT;simp only[lvl,lma]at hT;exact hT.elim (ih T) (ih2 T)
 | nil=>intro T hT;simp[lvl]at hT
 | _=>intro T hT;simp only[lvl,List.mem_singleton]at hT;rw[hT];exact⟨by intros;simp,by intros;simp,by simp⟩
theorem afa (n:Nat):∀(k:Nat) (t:Tm),k<=(gath n k t).2:=by
 induction n with
 | zero=>intro k t;exact nl _
 | succ n ih=>
  intro k t;unfold gath
  split
  ·exact nl _
  ·split
   ·rename_i p q _
    exact Nat.le_trans (ih k p) (ih _ q)
   ·rename_i x p _
    have:=ih (k+1) (R p x (gl k));omega
   ·exact nl _
theorem anM (n:Nat):∀(t:Tm) (k:Nat) (P:UInt8->Prop),t.size<=n->FitT t->(gath n k t).2<=89-> (∀z,¬aaX z->P z)->(∀i,k<=i->i<90->¬P (gl i))->(∀z,z∈t.free\/z∈t.bnd->P z)-> ∀z,(z∈t.usd\/∃i,k<=i/\i<(gath n k t).2/\z=gl i)->∃T∈(gath n k t).1,z∈T.usd:=by
 induction n with
 | zero=>intro t k P h;have:=aaq t;omega
 | succ n ih=>
  intro t k P hn hfit h89 hP1 hP2 hPt z hz;have hps:=aba t;have hpf:=ab5 t;have hPu:∀z,z∈t.peel.free\/z∈t.peel.bnd->P z:=fun z hz=>hPt z (acq t z hz);have hfp:=adH hfit;rw[<-ap9 t z]at hz;unfold gath at h89 hz ⊢
  by_cases hd:t.peel.dead=true
  ·rw[if_pos hd]at hz;rw[dead_usd _ hd]at hz;rcases hz with hz|⟨i,h1,h2,_⟩
   ·simp at hz
   ·simp only at h2;omega
  ·rw[if_neg hd]at h89 hz ⊢
   generalize hu:t.peel=u at *
   have hleaf:∀l:List Tm × Nat,l=([u],k)->(z∈u.usd\/∃i,k<=i/\i<l.2/\z=gl i)->∃T∈l.1,z∈T.usd:=by
    rintro l rfl (h|⟨i,h1,h2,_⟩)
    ·exact⟨u,by simp,h⟩
    ·simp only at h2;omega
   cases u with
   | par p q=>
    simp only at h89 hz ⊢;have hsz:p.size+q.size+1<=t.size:=hps.2.2.1;have m1:=afa n k p;have m2:=afa n (gath n k p).2 q;have hp:=ih p k P (by omega) (.inl (acg hfp).1) (by omega) hP1 hP2 (fun z hz=>hPu z (by rw[mf_par];simp only[Tm.bnd,lma];grind)) z;have hq:=ih q (gath n k p).2 P (by omega) (.inl (acg hfp).2) h89 hP1 (fun i hi=>hP2 i (by omega)) (fun z hz=>hPu z (by rw[mf_par];simp only[Tm.bnd,lma];grind)) z;rw[mu_par]at hz;have hL:(∃T∈(gath n k p).1,z∈T.usd)->∃T∈(gath n k p).1++(gath n (gath n k p).2 q).1,z∈T.usd:=fun ⟨T,h1,h2⟩=>⟨T,List.mem_append_left _ h1,h2⟩;have hR:(∃T∈(gath n (gath n k p).2 q).1,z∈T.usd)->∃T∈(gath n k p).1++(gath n (gath n k p).2 q).1,z∈T.usd:=fun ⟨T,h1,h2⟩=>⟨T,List.mem_append_right _ h1,h2⟩;rcases hz with (h|h)|⟨i,h1,h2,h3⟩
    ·exact hL (hp (.inl h))
    ·exact hR (hq (.inl h))
    ·by_cases c:i<(gath n k p).2
     ·exact hL (hp (.inr ⟨i,h1,c,h3⟩))
     ·exact hR (hq (.inr ⟨i,by omega,h2,h3⟩))
   | own x p=>
    simp only at h89 hz ⊢;have hsz:p.size+1<=t.size:=hps.2.2.1;have hm:=afa n (k+1) (R p x (gl k));have hk:k<=88:=by omega
    have hbn:(Tm.own x p).bdp=p.bdp+1:=by simp[Tm.bdp]
    have hfitp:Fit p:=acA (x:=x) (ag0 hfp) (by omega) (fun z hz=>by rw[mf_own];grind)
    have hPp:∀z,z∈p.free\/z∈p.bnd->P z:=fun z hz=>by
     by_cases c:z=x
     ·exact hPu z (.inr (by simp[Tm.bnd,c]))
     ·exact hPu z (by rw[mf_own];simp only[Tm.bnd,List.mem_cons];grind)
    have hnPk:=hP2 k (nl _) (by omega);have hx:P x:=hPu x (.inr (by simp[Tm.bnd]));have hne:x≠gl k:=fun e=>hnPk (e▸hx);have hnu:gl k∉p.usd:=fun h=>hnPk (hPp _ (.inl (usd_free p _ h)));have hus:=agY p.size p x (gl k) (nl _) (fit_roomy hfitp _ _) hne hnu z;refine ih (R p x (gl k)) (k+1) (fun z=>P z\/z=gl k) (by rw[R_size];omega) (.inl (ae6 hfitp _ _)) h89 (fun z h=>.inl (hP1 z h)) (fun i h1 h2 h=>?_) (fun y hy=>?_) z ?_
    ·rcases h with h|h
     ·exact hP2 i (by omega) h2 h
     ·have:=ah6 (i:=i) (j:=k) (by omega) (by omega) h;omega
    ·rcases R_names hfitp x (gl k) y hy with h|h|h
     ·exact .inl (hPp y h)
     ·exact .inr h
     ·exact .inl (hP1 y h)
    ·rw[hus];rw[mu_own]at hz;rcases hz with h|⟨i,h1,h2,h3⟩
     ·exact .inl (.inl h)
     ·by_cases c:i=k
      ·subst c;exact .inl (.inr ⟨h3,hpf⟩)
      ·exact .inr ⟨i,by omega,h2,h3⟩
   | _=>exact hleaf _ rfl hz
def Plain (t:Tm):Prop:=∀z,z∈t.free\/z∈t.bnd->¬aaX z
def Thw:Tm->Prop
 | .nil=>False
 | .par _ _=>False
 | .own _ _=>False
 | .sum p q=>p.dead=false/\q.dead=false
 | _=>True
theorem asz {t:Tm}(h:Thr t):Thw t:=by
 obtain⟨h1,h2,h3,h4⟩:=h
 cases t with
 | nil=>simp[Tm.dead]at h1
 | par p q=>exact h3 p q rfl
 | own x p=>exact h4 x p rfl
 | sum p q=>exact h2
 | _=>trivial
theorem awx {t:Tm}(h:Thw t)(o m:UInt8):Thw (R t o m):=by
 by_cases hs:o=m\/o∉t.free
 ·rw[abt _ _ _ hs];exact h
 ·cases t with
  | nil=>exact h.elim
  | par p q=>exact h.elim
  | own x p=>exact h.elim
  | snd a b p=>rw[agR hs];trivial
  | rcv a x p=>rw[agT hs];trivial
  | tau p=>rw[agU hs];trivial
  | sum p q=>rw[agW hs];exact⟨by rw[abM];exact h.1,by rw[abM];exact h.2⟩
  | mat a b p=>rw[agS hs];trivial
  | rep p=>rw[agV hs];trivial
theorem agn {t:Tm}(hs:t.size<=121)(hf:FitT t)(hp:Plain t) : (gath t.size 0 t).2<=89/\∀T∈(gath t.size 0 t).1,FitX T/\(Fit T\/(gath t.size 0 t).2=0)/\T.size<=t.size/\Thw T/\(∀z,z∈T.free->¬aaX z\/∃j,j<(gath t.size 0 t).2/\z=gl j)/\∀z∈T.bnd,¬aaX z:=by
 have hb:t.sim.bnd.length<=133:=by have:=acQ t.sim;have:=(ac8 t _ _ (ajP t)).2.2;omega
 obtain⟨ns,hn1,hn2,hn3⟩:∃ns:List UInt8,ns.length=133/\ns.Nodup/\(0:UInt8)∉ns:=
  ⟨(List.range 133).map fun i=>UInt8.ofNat (123+i),by simp,by decide +kernel,by decide +kernel⟩
 have hS:=arF t _ _ (fun _=>0) ns (ajP t) (by omega) hn2 (fun _ _=>hn3)
 have hnd:(can t.sim (fun _=>0) ns).bnd.Nodup:=by
  rw[ai7 _ _ _ (by omega)];exact hn2.sublist (List.take_sublist _ _)
 have h89:=anC hS hs
 obtain⟨g1,g2,g3⟩:=anu t.size 0 t _ _ (fun z=>¬aaX z) (nl _) hf hS (by unfold fcnt at h89;omega) (fun z h=>h) (fun i _ hi h=>h (acf hi)) hp hnd (fun u v h hv=>by
  obtain⟨w,_,_,rfl⟩:=h;rw[ai7 _ _ _ (by omega)]at hv
  exact hn3 (List.mem_of_mem_take hv))
 have gb:=ajO t.size 0 t (fun z hz=>hp z (.inr hz));rw[Nat.zero_add]at g1;unfold fcnt at h89;rw[g1];refine⟨h89,fun T hT=>?_⟩;obtain⟨⟨a1,a2⟩,a3,a4,a5⟩:=g3 T hT;refine⟨a1,a2.imp id fun h=>by rw[h.1];rfl,a3,asz a4,fun z hz=>?_,gb T hT⟩;have:=a5 z (.inl hz);simpa only[Nat.zero_add] using this
theorem ajS (n:Nat):∀(k:Nat) (t:Tm),t.ok nmE=true->(gath n k t).2<=89->∀T∈(gath n k t).1,T.ok nmE=true:=by
 induction n with
 | zero=>intro k t _ _ T hT;simp[gath]at hT
 | succ n ih=>
  intro k t ho h89 T hT;have hou:=(aba t).1 nmE ho;unfold gath at h89 hT
  by_cases hd:t.peel.dead=true
  ·rw[if_pos hd]at hT;simp at hT
  ·rw[if_neg hd]at h89 hT
   generalize t.peel=u at *
   cases u with
   | par p q=>
    simp only at h89 hT;have m2:=afa n (gath n k p).2 q;have hoo:p.ok nmE=true/\q.ok nmE=true:=by simpa only[Tm.ok,bae] using hou
    rcases lma.1 hT with h|h
    ·exact ih k p hoo.1 (by omega) T h
    ·exact ih _ q hoo.2 h89 T h
   | own x p=>
    simp only at h89 hT;have hm:=afa n (k+1) (R p x (gl k));have hoo:nmE x=true/\p.ok nmE=true:=by simpa only[Tm.ok,bae] using hou
    exact ih (k+1) _ (ad2 _ _ _ _ hoo.2 (auY (by omega))) h89 T hT
   | _=>simp only[List.mem_singleton]at hT;subst hT;exact hou
def wtL (l:List Tm):Nat:=(l.map fun t=>t.pr.length+3).sum
def wtS (l:List Tm):Nat:=(l.map fun t=>t.size+1).sum
theorem ag4 (l m:List Tm):wtL (l++m)=wtL l+wtL m:=by simp[wtL]
theorem anN (l m:List Tm):wtS (l++m)=wtS l+wtS m:=by simp[wtS]
theorem anO (n:Nat):∀(k:Nat) (t:Tm),wtL (gath n k t).1+3 * (gath n k t).2<=t.pr.length+3+3 * k/\wtS (gath n k t).1+(gath n k t).2<=t.size+1+k:=by
 induction n with
 | zero=>intro k t;simp[gath,wtL,wtS]
 | succ n ih=>
  intro k t;have hps:=aba t;unfold gath
  generalize t.peel=u at *
  split
  ·simp[wtL,wtS]
  ·cases u with
   | par p q=>
    simp only;have h1:=ih k p;have h2:=ih (gath n k p).2 q;have e1:(Tm.par p q).pr.length=p.pr.length+q.pr.length+3:=by simp[Tm.pr];omega
    have e2:(Tm.par p q).size=p.size+q.size+1:=rfl;rw[ag4,anN];omega
   | own x p=>
    simp only;have h1:=ih (k+1) (R p x (gl k));rw[adf,R_size]at h1;have e1:(Tm.own x p).pr.length=p.pr.length+3:=by simp[Tm.pr]
    have e2:(Tm.own x p).size=p.size+1:=rfl;omega
   | _=>simp only[wtL,wtS,List.map_cons,List.map_nil,List.sum_cons,List.sum_nil];omega
theorem aeh (n:Nat):∀t:Tm,wtL (Tm.sums n t)<=t.pr.length+3/\wtS (Tm.sums n t)<=t.size+1:=by
 induction n with
 | zero=>intro t;simp[Tm.sums,wtL,wtS]
 | succ n ih=>
  intro t;have hps:=aba t;unfold Tm.sums
  generalize t.peel=u at *
  cases u with
  | sum p q=>
   simp only;have h1:=ih p;have h2:=ih q;have e1:(Tm.sum p q).pr.length=p.pr.length+q.pr.length+3:=by simp[Tm.pr];omega
   have e2:(Tm.sum p q).size=p.size+q.size+1:=rfl;rw[ag4,anN];omega
  | _=>simp only;split<;>simp only[wtL,wtS,List.map_cons,List.map_nil,List.sum_cons,List.sum_nil]<;>omega
theorem adJ {l:List Tm}{t:Tm}(h:t∈l):t.pr.length+3<=wtL l/\t.size+1<=wtS l:=by
 induction l with
 | nil=>simp at h
 | cons a l ih=>
  simp only[wtL,wtS,List.map_cons,List.sum_cons];have e1:(l.map fun t=>t.pr.length+3).sum=wtL l:=rfl;have e2:(l.map fun t=>t.size+1).sum=wtS l:=rfl;rcases List.mem_cons.1 h with rfl|h
  ·omega
  ·have:=ih h;omega
theorem arG (l:List Tm):2 * l.length<=wtS l:=by
 induction l with
 | nil=>simp[wtS]
 | cons a l ih=>
  have:=aaq a;have e2:wtS (a::l)=a.size+1+wtS l:=by simp[wtS]
  rw[e2];simp only[List.length_cons];omega
theorem adK:∀l:List Tm,l≠[]->(joinR .par l).pr.length+3=wtL l
 | [],h=>absurd rfl h
 | [t],_=>by simp[joinR,wtL]
 | t::u::l,_=>by
  have:=adK (u::l) (by simp);have e:wtL (t::u::l)=t.pr.length+3+wtL (u::l):=by simp[wtL]
  rw[e,<-this];simp[joinR,Tm.pr];omega
theorem afb:∀l:List Tm,l≠[]->(joinR .sum l).pr.length+3=wtL l
 | [],h=>absurd rfl h
 | [t],_=>by simp[joinR,wtL]
 | t::u::l,_=>by
  have:=afb (u::l) (by simp);have e:wtL (t::u::l)=t.pr.length+3+wtL (u::l):=by simp[wtL]
  rw[e,<-this];simp[joinR,Tm.pr];omega
theorem asA {l m:List Tm}(h:l.Perm m):wtL l=wtL m:=(h.map _).sum_nat
theorem anP {α:Type}(l:List α)(f g:α->Tm)(h:∀a∈l,(f a).pr.length<=(g a).pr.length):wtL (l.map f)<=wtL (l.map g):=by
 induction l with
 | nil=>exact nl _
 | cons a l ih=>
  have e1:wtL ((a::l).map f)=(f a).pr.length+3+wtL (l.map f):=by simp[wtL]
  have e2:wtL ((a::l).map g)=(g a).pr.length+3+wtL (l.map g):=by simp[wtL]
  have:=ih fun b hb=>h b (by simp[hb]);have:=h a (by simp);omega
theorem aeL (ls:List UInt8)(t:Tm):(wrapO ls t).pr.length=3 * ls.length+t.pr.length:=by
 induction ls with
 | nil=>simp[wrapO]
 | cons a l ih=>simp only[wrapO,List.foldr_cons,Tm.pr,List.length_cons]at ih ⊢;omega
theorem ag5:∀(o:List Nat) (ls:List UInt8) (T:Tm),(nmG o ls T).pr.length=T.pr.length/\(nmG o ls T).size=T.size
 | [],ls,T=>by simp[nmG]
 | i::o,[],T=>by simp[nmG]
 | i::o,l::ls,T=>by
  simp only[nmG];have:=ag5 o ls (R T (gl i) l);rw[adf,R_size]at this;exact this
theorem afc:∀(o:List Nat) (ls:List UInt8) (T:Tm),o.length=ls.length->(∀i∈o,i<90)->(∀l∈ls,nmE l=true)->(Fit T\/o=[])->FitX T->T.ok nmE=true->Thw T->
  FitX (nmG o ls T)/\(nmG o ls T).ok nmE=true/\Thw (nmG o ls T)
 | [],ls,T,_,_,_,_,h1,h2,h3=>⟨by simpa [nmG] using h1,by simpa [nmG] using h2,by simpa [nmG] using h3⟩
 | i::o,[],T,h,_,_,_,_,_,_=>by simp at h
 | i::o,l::ls,T,h,hi,hl,hf,h1,h2,h3=>by
  have hF:Fit T:=hf.resolve_right (by simp);simp only[nmG];exact afc o ls _ (by simpa using h) (fun j hj=>hi j (by simp[hj])) (fun z hz=>hl z (by simp[hz])) (.inl (ae6 hF _ _)) (.inl (ae6 hF _ _)) (ad2 _ _ _ _ h2 (hl l (by simp))) (awx h3 _ _)
theorem afd:∀(o:List Nat) (ls:List UInt8) (T:Tm),o.length=ls.length->o.Nodup->(∀i∈o,i<90)->(∀l∈ls,¬aaX l)->(Fit T\/o=[])->(∀z,z∈T.free->¬aaX z\/∃j,j∈o/\z=gl j)->(∀z∈T.bnd,¬aaX z)->Plain (nmG o ls T)
 | [],ls,T,_,_,_,_,_,h1,h2=>by
  simp only[nmG];intro z hz;rcases hz with hz|hz
  ·rcases h1 z hz with h|⟨j,hj,_⟩
   ·exact h
   ·simp at hj
  ·exact h2 z hz
 | i::o,[],T,h,_,_,_,_,_,_=>by simp at h
 | i::o,l::ls,T,h,hnd,hi,hl,hf,h1,h2=>by
  have hF:Fit T:=hf.resolve_right (by simp);rw[List.nodup_cons]at hnd;have hlg:=hl l (by simp);have hgl:gl i≠l:=fun e=>hlg (e▸acf (hi i (by simp)));simp only[nmG];refine afd o ls _ (by simpa using h) hnd.2 (fun j hj=>hi j (by simp[hj])) (fun z hz=>hl z (by simp[hz])) (.inl (ae6 hF _ _)) (fun z hz=>?_) (fun z hz=>?_)
  ·rcases (R_free _ T (gl i) l (nl _) (fit_roomy hF _ _) hgl z).1 hz with⟨f1,f2⟩|⟨f1,_⟩
   ·rcases h1 z f1 with h|⟨j,hj,e⟩
    ·exact .inl h
    ·rcases List.mem_cons.1 hj with hj|hj
     ·exact absurd (hj▸e) f2
     ·exact .inr ⟨j,hj,e⟩
   ·exact .inl (f1▸hlg)
  ·rcases R_bnds _ T (gl i) l (nl _) z hz with h|h
   ·exact h2 z h
   ·exact h
theorem ago (n:Nat):∀t:Tm,t.ok nmE=true->FitX t->Plain t->∀q∈Tm.sums n t,q.ok nmE=true/\FitT q/\Plain q:=by
 induction n with
 | zero=>intro t _ _ _ q hq;simp[Tm.sums]at hq
 | succ n ih=>
  intro t ho hf hp q hq;have hou:=(aba t).1 nmE ho;have hpu:Plain t.peel:=fun z hz=>hp z (acq t z hz);have hfu:FitT t.peel:=adH (hf.imp id fun ⟨p,q,e,h⟩=>⟨p,q,.inr e,h⟩);unfold Tm.sums at hq
  generalize t.peel=u at *
  cases u with
  | sum a b=>
   simp only[lma]at hq;have hoo:a.ok nmE=true/\b.ok nmE=true:=by simpa only[Tm.ok,bae] using hou
   have hfx:=aeK (arD hfu (by intros;simp));rcases hq with hq|hq
   ·exact ih a hoo.1 (.inl hfx.1) (fun z hz=>hpu z (by rw[mf_sum];simp only[Tm.bnd,lma];grind)) q hq
   ·exact ih b hoo.2 (.inl hfx.2) (fun z hz=>hpu z (by rw[mf_sum];simp only[Tm.bnd,lma];grind)) q hq
  | _=>
   simp only at hq
   split at hq
   ·simp at hq
   ·simp only[List.mem_singleton]at hq;subst hq;exact⟨hou,hfu,hpu⟩
theorem asB (n:Nat):∀t:Tm,t.size<=n->t.dead=false->Tm.sums n t≠[]:=by
 induction n with
 | zero=>intro t h;have:=aaq t;omega
 | succ n ih=>
  intro t hn hd;have hps:=aba t;have hd':=ae7 t;have hpf:=ab5 t;rw[hd]at hd';unfold Tm.sums
  generalize t.peel=u at *
  cases u with
  | sum a b=>
   have:a.size+b.size+1<=t.size:=hps.2.2.1;simp only;intro e;rw[List.append_eq_nil_iff]at e;exact ih a (by omega) hpf.1 e.1
  | _=>simp only;rw[if_neg (by rw[hd'];simp)];simp
end Go.Proofs.YtalegefnppbkdaaGreat.T1
