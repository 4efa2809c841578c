/- Texts of the proof. No conditions. -/
import Derived.Test.YtalegefnppbkdaaGreatQan
namespace Go.Proofs.YtalegefnppbkdaaGreat.T1
open Go.Proofs.Tryz
set_option linter.unusedVariables false
-- the order of texts
theorem au2:∀(l m x y:List UInt8),(∀r,l++r≠m)->(∀r,m++r≠l)->(l++x<m++y↔l<m):=by
 intro l;induction l with
 | nil=>intro m x y h _;exact absurd rfl (h m)
 | cons c l ih=>
  intro m x y h h2
  cases m with
  | nil=>exact absurd rfl (h2 (c::l))
  | cons d m=>
   simp only[List.cons_append,List.cons_lt_cons_iff]
   by_cases e:c=d
   ·subst e;rw[ih m x y (fun r hr=>h r (by rw[List.cons_append,hr])) (fun r hr=>h2 r (by rw[List.cons_append,hr]))]
   ·simp[e]
theorem lt_irr (l:List UInt8):¬l<l:=List.lt_irrefl l
theorem au3 {nm:UInt8->Bool}(hn:Nm nm){a b:Tm}(ha:a.ok nm=true)(hb:b.ok nm=true)(h:a≠b):∀r,a.pr++r≠b.pr:=fun r e=>
 h (acb hn a b r [] ha hb (by rw[List.append_nil];exact e)).1
theorem au4 {nm:UInt8->Bool}(hn:Nm nm){a b:Tm}(ha:a.ok nm=true)(hb:b.ok nm=true)(x y:List UInt8):(a.pr++x<b.pr++y)↔(a.pr<b.pr\/(a=b/\x<y)):=by
 by_cases h:a=b
 ·subst h;constructor
  ·intro e;refine .inr ⟨rfl,?_⟩
   have:∀l:List UInt8,l++x<l++y->x<y:=by
    intro l;induction l with
    | nil=>exact id
    | cons c l ih=>intro e;simp only[List.cons_append,List.cons_lt_cons_iff]at e;exact ih (by simpa using e)
   exact this _ e
  ·intro e
   have:∀l:List UInt8,x<y->l++x<l++y:=by
    intro l;induction l with
    | nil=>exact id
    | cons c l ih=>intro e;simp only[List.cons_append,List.cons_lt_cons_iff];exact .inr ⟨trivial,ih e⟩
   rcases e with e|⟨_,e⟩
   ·exact absurd e (lt_irr _)
   ·exact this _ e
 ·rw[au2 _ _ x y (au3 hn ha hb h) (au3 hn hb ha (Ne.symm h))];simp[h]
def agp:List (List UInt8)->List (List UInt8)->Bool
 | a::l,b::m=>if a<b then true else if b<a then false else agp l m
 | _,_=>false
theorem anQ {nm:UInt8->Bool}(hn:Nm nm):∀(c d:List Tm),c.length=d.length->(∀t∈c,t.ok nm=true)->(∀t∈d,t.ok nm=true)-> (agp (c.map Tm.pr) (d.map Tm.pr)=true↔(joinR .par c).pr<(joinR .par d).pr):=by
 have hj:∀(l:List Tm),(∀t∈l,t.ok nm=true)->(joinR .par l).ok nm=true:=by
  intro l;induction l with
  | nil=>intro _;rfl
  | cons a l ih=>
   cases l with
   | nil=>intro h;exact h a (by simp)
   | cons b l=>intro h;simp only[joinR,Tm.ok,bae];exact⟨h a (by simp),ih fun t ht=>h t (by simp[ht])⟩
 intro c;induction c with
 | nil=>
  intro d hl _ _
  cases d with
  | nil=>simp only[List.map_nil,agp,joinR];exact⟨fun h=>(by cases h),fun h=>absurd h (lt_irr _)⟩
  | cons b d=>simp at hl
 | cons a c ih=>
  intro d hl hc hd
  cases d with
  | nil=>simp at hl
  | cons b d=>
   have ha:=hc a (by simp);have hb:=hd b (by simp);have hl':c.length=d.length:=by simpa using hl
   have ih:=ih d hl' (fun t ht=>hc t (by simp[ht])) (fun t ht=>hd t (by simp[ht]));simp only[List.map_cons,agp];have hin:b.pr<a.pr->¬a.pr<b.pr:=fun h1 h2=>lt_irr _ (List.lt_trans h1 h2)
   have hne:¬a.pr<b.pr->¬b.pr<a.pr->a=b:=fun h1 h2=>by
    have:a.pr=b.pr:=List.le_antisymm (List.not_lt.1 h2) (List.not_lt.1 h1);exact(acb hn a b [] [] ha hb (by rw[this])).1
   cases c with
   | nil=>
    cases d with
    | cons _ _=>simp at hl'
    | nil=>
     simp only[List.map_nil,agp,joinR]
     by_cases h1:a.pr<b.pr
     ·simp[h1]
     ·simp[h1]
   | cons c0 c=>
    cases d with
    | nil=>simp at hl'
    | cons d0 d=>
     simp only[joinR,Tm.pr,List.cons_lt_cons_iff];rw[au4 hn ha hb];simp only[List.cons_lt_cons_iff];rw[au4 hn (hj (c0::c) fun t ht=>hc t (by simp[ht])) (hj (d0::d) fun t ht=>hd t (by simp[ht]))]
     by_cases h1:a.pr<b.pr
     ·simp[h1]
     ·by_cases h2:b.pr<a.pr
      ·have:a≠b:=fun e=>by rw[e]at h2;exact lt_irr _ h2
       simp[h1,h2,this]
      ·have e:=hne h1 h2;subst e;simp only[if_neg h1,ih];simp[lt_irr]
-- the least
def minB {α:Type}(lt:α->α->Bool):List α->α->α
 | [],b=>b
 | c::cs,b=>minB lt cs (if lt c b then c else b)
theorem agq {α:Type}(key:α->List UInt8)(lt:α->α->Bool)(hlt:∀a b,lt a b=true↔key a<key b):∀(cs:List α) (b:α),minB lt cs b∈b::cs/\∀c∈b::cs,¬key c<key (minB lt cs b):=by
 intro cs;induction cs with
 | nil=>intro b;exact⟨by simp[minB],fun c hc=>by simp only[List.mem_singleton]at hc;rw[hc];exact lt_irr _⟩
 | cons c cs ih=>
  intro b;simp only[minB]
  by_cases h:lt c b=true
  ·rw[if_pos h];obtain⟨h1,h2⟩:=ih c;refine⟨List.mem_cons_of_mem _ h1,fun d hd=>?_⟩;rcases List.mem_cons.1 hd with rfl|hd
   ·intro hh;have:=(hlt _ _).1 h;exact h2 c (by simp) (List.lt_trans this hh)
   ·exact h2 d hd
  ·rw[if_neg h];obtain⟨h1,h2⟩:=ih b;refine⟨?_,fun d hd=>?_⟩
   ·rcases List.mem_cons.1 h1 with h1|h1
    ·rw[h1];simp
    ·simp[h1]
   ·rcases List.mem_cons.1 hd with rfl|hd
    ·exact h2 d (by simp)
    ·rcases List.mem_cons.1 hd with rfl|hd
     ·intro hh;have h3:¬key d<key b:=fun e=>h ((hlt _ _).2 e);have h4:=h2 b (by simp);exact h3 (Std.lt_of_lt_of_le hh (List.not_lt.1 h4))
     ·exact h2 d (by simp[hd])
def bestL:List (List Tm)->List Tm
 | []=>[]
 | c::cs=>minB (fun a b=>agp (a.map Tm.pr) (b.map Tm.pr)) cs c
theorem anR (c:Tm)(cs:List Tm):ag1 (c::cs)=minB (fun a b=>decide (a.pr<b.pr)) cs c:=by
 show cs.foldl _ c=_
 induction cs generalizing c with
 | nil=>rfl
 | cons d cs ih=>simp only[List.foldl_cons,minB];rw[ih];simp
theorem ali {α:Type}(P:α->Prop)(lt lt':α->α->Bool)(h:∀a b,P a->P b->lt a b=lt' a b):∀(cs:List α) (b:α),P b->(∀c∈cs,P c)->minB lt cs b=minB lt' cs b:=by
 intro cs;induction cs with
 | nil=>intro b _ _;rfl
 | cons c cs ih=>
  intro b hb hc;simp only[minB];rw[h c b (hc c (by simp)) hb];refine ih _ ?_ fun d hd=>hc d (by simp[hd])
  split
  ·exact hc c (by simp)
  ·exact hb
theorem afe {nm:UInt8->Bool}(hn:Nm nm)(k:Nat)(l:List (List Tm))(m:List (List Tm))(hl:l≠[])(hm:m≠[])(hlm:∀c,c∈l↔c∈m)(hok:∀c∈l,c.length=k/\∀t∈c,t.ok nm=true) : joinR .par (bestL l)=ag1 (m.map (joinR .par)):=by
 have hj:∀(l:List Tm),(∀t∈l,t.ok nm=true)->(joinR .par l).ok nm=true:=by
  intro l;induction l with
  | nil=>intro _;rfl
  | cons a l ih=>
   cases l with
   | nil=>intro h;exact h a (by simp)
   | cons b l=>intro h;simp only[joinR,Tm.ok,bae];exact⟨h a (by simp),ih fun t ht=>h t (by simp[ht])⟩
 cases l with
 | nil=>exact absurd rfl hl
 | cons c cs=>
  cases m with
  | nil=>exact absurd rfl hm
  | cons d ds=>
   have e1:bestL (c::cs)=minB (fun a b=>decide ((joinR .par a).pr<(joinR .par b).pr)) cs c:=by
    show minB _ cs c=_;refine ali (fun x=>x∈c::cs) _ _ (fun a b ha hb=>?_) cs c (by simp) fun x hx=>by simp[hx]
    have h1:=hok a ha;have h2:=hok b hb;have:=anQ hn a b (by rw[h1.1,h2.1]) h1.2 h2.2;rw[Bool.eq_iff_iff,this];simp
   obtain⟨a1,a2⟩:=agq (fun x=>(joinR .par x).pr) (fun a b=>decide ((joinR .par a).pr<(joinR .par b).pr)) (fun a b=>by simp) cs c;rw[<-e1]at a1 a2;have e2:ag1 ((d::ds).map (joinR .par))=minB (fun a b=>decide (a.pr<b.pr)) (ds.map (joinR .par)) (joinR .par d):=anR _ _;obtain⟨b1,b2⟩:=agq (fun x:Tm=>x.pr) (fun a b=>decide (a.pr<b.pr)) (fun a b=>by simp) (ds.map (joinR .par)) (joinR .par d);rw[<-e2]at b1 b2;have b1':ag1 ((d::ds).map (joinR .par))∈(d::ds).map (joinR .par):=b1;obtain⟨y,hy,ey⟩:=List.mem_map.1 b1';have f1:=b2 (joinR .par (bestL (c::cs))) (List.mem_map.2 ⟨_,(hlm _).1 a1,rfl⟩);have f2:=a2 y ((hlm y).2 hy);rw[ey]at f2;have f3:(joinR .par (bestL (c::cs))).pr=(ag1 ((d::ds).map (joinR .par))).pr:=List.le_antisymm (List.not_lt.1 f2) (List.not_lt.1 f1);refine(acb hn _ _ [] [] (hj _ (hok _ a1).2) ?_ (by rw[f3])).1;rw[<-ey];exact hj _ (hok y ((hlm y).2 hy)).2
-- orders,one after the other
def nextG {α:Type}(lt:α->α->Bool)(l:List α):Option (List α):=
 (List.range l.length).reverse.findSome? fun i=>((List.range l.length).reverse.find? fun j=>decide (i<j) && (match l[i]?,l[j]? with|some a,some b=>lt a b|_,_=>false)).map fun j=>
  match l[i]?,l[j]? with
  | some a,some b=>((l.set i b).set j a).take (i+1)++(((l.set i b).set j a).drop (i+1)).reverse
  | _,_=>l
def visG {α:Type}(lt:α->α->Bool):Nat->List α->List (List α)
 | 0,_=>[]
 | k+1,l=>l::(match nextG lt l with|some m=>visG lt k m|none=>[])
theorem anS {α β:Type}(f:α->β)(lt:α->α->Bool)(lt':β->β->Bool)(l:List α)(h:∀a∈l,∀b∈l,lt' (f a) (f b)=lt a b):nextG lt' (l.map f)=(nextG lt l).map (List.map f):=by
 have hp:∀i j:Nat,(match (l.map f)[i]?,(l.map f)[j]? with|some a,some b=>lt' a b|_,_=>false)=(match l[i]?,l[j]? with|some a,some b=>lt a b|_,_=>false):=by
  intro i j;rw[List.getElem?_map,List.getElem?_map]
  cases hi:l[i]? with
  | none=>rfl
  | some a=>
   cases hj:l[j]? with
   | none=>rfl
   | some b=>exact h a (List.mem_of_getElem? hi) b (List.mem_of_getElem? hj)
 have hs:∀i j:Nat,(match (l.map f)[i]?,(l.map f)[j]? with|some a,some b=>(((l.map f).set i b).set j a).take (i+1)++((((l.map f).set i b).set j a).drop (i+1)).reverse|_,_=>l.map f) =
   List.map f (match l[i]?,l[j]? with|some a,some b=>((l.set i b).set j a).take (i+1)++(((l.set i b).set j a).drop (i+1)).reverse|_,_=>l):=by
  intro i j;rw[List.getElem?_map,List.getElem?_map]
  cases hi:l[i]? with
  | none=>rfl
  | some a=>
   cases hj:l[j]? with
   | none=>rfl
   | some b=>simp[List.map_set,List.map_take,List.map_drop]
 unfold nextG;rw[List.length_map];simp only[hp,hs]
 have key:∀(g:Nat->Nat->Bool) (F:Nat->Nat->List α) (r r':List Nat),(r'.findSome? fun i=>(r.find? (g i)).map fun j=>List.map f (F i j))=(r'.findSome? fun i=>(r.find? (g i)).map (F i)).map (List.map f):=by
  intro g F r r'
  induction r' with
  | nil=>rfl
  | cons i r' ih=>
   simp only[List.findSome?_cons]
   cases r.find? (g i) with
   | none=>exact ih
   | some j=>rfl
 exact key _ _ _ _
theorem anT {α:Type}(lt:α->α->Bool)(l m:List α)(h:nextG lt l=some m):∀a∈m,a∈l:=by
 unfold nextG at h;obtain⟨r,hr⟩:∃r,r=(List.range l.length).reverse:=⟨_,rfl⟩;rw[<-hr]at h;obtain⟨i,hi,h⟩:=List.exists_of_findSome?_eq_some h;rw[Option.map_eq_some_iff]at h;obtain⟨j,_,h⟩:=h;intro a ha;rw[<-h]at ha
 split at ha
 ·rename_i x y hx hy
  have:a∈(l.set i y).set j x:=by
   rcases lma.1 ha with ha|ha
   ·exact List.mem_of_mem_take ha
   ·exact List.mem_of_mem_drop (List.mem_reverse.1 ha)
  rcases List.mem_or_eq_of_mem_set this with h1|h1
  ·rcases List.mem_or_eq_of_mem_set h1 with h1|h1
   ·exact h1
   ·rw[h1];exact List.mem_of_getElem? hy
  ·rw[h1];exact List.mem_of_getElem? hx
 ·exact ha
theorem ajT {α β:Type}(f:α->β)(lt:α->α->Bool)(lt':β->β->Bool)(P:α->Prop)(h:∀a b,P a->P b->lt' (f a) (f b)=lt a b):∀(k:Nat) (l:List α),(∀a∈l,P a)->visG lt' k (l.map f)=(visG lt k l).map (List.map f):=by
 intro k;induction k with
 | zero=>intro l _;rfl
 | succ k ih=>
  intro l hl;simp only[visG,List.map_cons];rw[anS f lt lt' l fun a ha b hb=>h a b (hl a ha) (hl b hb)]
  cases hn:nextG lt l with
  | none=>rfl
  | some m=>simp only[Option.map_some];rw[ih m fun a ha=>hl a (anT lt l m hn a ha)]
def ltN (a b:Nat):Bool:=decide (a<b)
def ltU (a b:UInt8):Bool:=decide (a<b)
theorem ajU:∀m,m<=5->∀o,o∈visG ltN 200 (List.range m)↔o∈ords m:=by
 have h:∀m,m<=5->(∀o∈visG ltN 200 (List.range m),o∈ords m)/\(∀o∈ords m,o∈visG ltN 200 (List.range m)):=by
  intro m hm;have:m=0\/m=1\/m=2\/m=3\/m=4\/m=5:=by omega
  rcases this with rfl|rfl|rfl|rfl|rfl|rfl<;>decide +kernel
 intro m hm o;exact⟨(h m hm).1 o,(h m hm).2 o⟩
theorem ah_ (G:List UInt8)(hs:G.Pairwise (·<·))(hl:G.length<=5):∀o,o∈visG ltU 200 G↔∃p∈ords G.length,o=p.map fun i=>G.getD i 0:=by
 have e:G=(List.range G.length).map fun i=>G.getD i 0:=by
  apply List.ext_getElem (by simp)
  intro i h1 h2;simp[List.getD_eq_getElem?_getD,List.getElem?_eq_getElem h1]
 have hlt:∀a b,a<G.length->b<G.length->ltU (G.getD a 0) (G.getD b 0)=ltN a b:=by
  intro a b ha hb;rw[List.pairwise_iff_getElem]at hs;rw[List.getD_eq_getElem?_getD,List.getD_eq_getElem?_getD,List.getElem?_eq_getElem ha,List.getElem?_eq_getElem hb];unfold ltU ltN;simp only[Option.getD_some];rcases Nat.lt_trichotomy a b with h|h|h
  ·have:=hs a b ha hb h;simp[this,h]
  ·subst h;simp
  ·have:=hs b a hb ha h;have h':¬a<b:=by omega
   have:¬G[a]<G[b]:=fun e=>by rw[abO]at this e;omega
   simp[this,h']
 intro o
 conv=>lhs;rw[e]
 rw[ajT (fun i=>G.getD i 0) ltN ltU (fun i=>i<G.length) hlt 200 _ (fun a ha=>List.mem_range.1 ha),List.mem_map];exact⟨fun ⟨p,hp,e⟩=>⟨p,(ajU _ hl p).1 hp,e.symm⟩,fun ⟨p,hp,e⟩=>⟨p,(ajU _ hl p).2 hp,e.symm⟩⟩
def levI:Nat->(UInt8->UInt8)->List UInt8->Tm->Tm
 | 0,_,_,_=>.nil
 | n+1,L,left,s=>
  wrapO (left.take (lvl s).1.length) (joinR .par (bestL ((visG ltU 200 (lvl s).1).map fun o=>srtT ((lvl s).2.map (thI (levI n) (updL L o left) (left.drop (lvl s).1.length))))))
def Clean:Tm->Prop
 | .nil=>True
 | .snd _ _ p=>Clean p
 | .rcv _ _ p=>Clean p
 | .tau p=>Clean p
 | .sum p q=>Clean p/\Clean q
 | .par p q=>p≠.nil/\Clean p/\Clean q
 | .own _ p=>p≠.nil/\Clean p
 | .mat _ _ p=>Clean p
 | .rep p=>Clean p
theorem acU (s:Tm)(h:Clean s)(hs:s≠.nil):(lvl s).2≠[]:=by
 induction s with
 | nil=>exact absurd rfl hs
 | own x p ih=>exact ih h.2 h.1
 | par p q ih ih2=>simp only[lvl];intro e;exact ih h.2.1 h.1 (List.append_eq_nil_iff.1 e).1
 | _=>simp[lvl]
theorem aia (s:Tm)(h:Clean s):∀T∈(lvl s).2,Clean T:=by
 induction s with
 | nil=>intro T hT;simp[lvl]at hT
 | own x p ih=>exact ih h.2
 | par p q ih ih2=>
  intro T hT;simp only[lvl,lma]at hT;exact hT.elim (ih h.2.1 T) (ih2 h.2.2 T)
 | _=>intro T hT;simp only[lvl,List.mem_singleton]at hT;rw[hT];exact h
theorem agr (s:Tm)(h:Clean s):∀q∈smds s,Clean q:=by
 induction s with
 | sum p q ih ih2=>
  intro T hT;simp only[smds,lma]at hT;exact hT.elim (ih h.1 T) (ih2 h.2 T)
 | _=>intro T hT;simp only[smds,List.mem_singleton]at hT;rw[hT];exact h
theorem aib (t:Tm):Clean t.sim:=by
 induction t with
 | nil=>trivial
 | snd a b p ih=>exact ih
 | rcv a x p ih=>exact ih
 | tau p ih=>exact ih
 | sum p q ih ih2=>
  unfold Tm.sim
  split
  ·exact ih2
  ·split
   ·exact ih
   ·exact⟨ih,ih2⟩
 | par p q ih ih2=>
  unfold Tm.sim
  split
  ·exact ih2
  ·split
   ·exact ih
   ·rename_i h1 h2;exact⟨h1,ih,ih2⟩
 | own x p ih=>
  unfold Tm.sim
  split
  ·rename_i h;exact⟨fun e=>by rw[e]at h;simp[Tm.free]at h,ih⟩
  ·exact ih
 | mat a b p ih=>unfold Tm.sim;split<;>exact ih
 | rep p ih=>unfold Tm.sim;split<;>exact ih
theorem aff {s:Tm}{f:UInt8->UInt8}{ns:List UInt8}(h:can s f ns=.nil):s=.nil:=by cases s<;>simp[can]at h;rfl
theorem aic (s:Tm):∀(f:UInt8->UInt8) (ns:List UInt8),Clean s->Clean (can s f ns):=by
 induction s with
 | nil=>intro f ns h;trivial
 | snd a b p ih=>intro f ns h;exact ih _ _ h
 | rcv a x p ih=>intro f ns h;exact ih _ _ h
 | tau p ih=>intro f ns h;exact ih _ _ h
 | mat a b p ih=>intro f ns h;exact ih _ _ h
 | rep p ih=>intro f ns h;exact ih _ _ h
 | sum p q ih ih2=>intro f ns h;exact⟨ih _ _ h.1,ih2 _ _ h.2⟩
 | par p q ih ih2=>intro f ns h;exact⟨fun e=>h.1 (aff e),ih _ _ h.2.1,ih2 _ _ h.2.2⟩
 | own x p ih=>intro f ns h;exact⟨fun e=>h.1 (aff e),ih _ _ h.2⟩
theorem adk {s:Tm}{k:Nat}(h:fl s k=true):(lvl s).1.length<=5/\(lvl s).1.length<=k/\∀T∈(lvl s).2,tf T (k - (lvl s).1.length)=true:=by
 unfold fl fcnt at h;rw[ah8]at h;simp only[bae,decide_eq_true_eq,List.all_eq_true]at h;exact⟨h.1.1,h.1.2,h.2⟩
theorem ags {p q:Tm}{k:Nat}:fl (.sum p q) k=tf (.sum p q) k:=by simp[fl,fcnt,lvl]
theorem aqa {once:Bool}{m:Nat}:∀o∈(if once=true then (ords m).take 1 else ords m),o∈ords m:=by
 intro o ho
 split at ho
 ·exact List.mem_of_mem_take ho
 ·exact ho
theorem ag6 {once:Bool}{m:Nat}(hm:m<=5):(if once=true then (ords m).take 1 else ords m)≠[]:=by
 have:=acT m hm
 split
 ·intro e;rw[List.take_eq_nil_iff]at e;simp at e;exact this e
 ·exact this
-- how many names of its own
theorem ai8 (n:Nat):∀(once:Bool) (L:UInt8->UInt8) (left:List UInt8) (s:Tm),s.size<=n->Clean s->fl s left.length=true->ownc (mid n once L left s)=ownc s:=by
 induction n with
 | zero=>intro once L left s h;have:=aaq s;omega
 | succ n ih=>
  intro once L left s hn hc hf;obtain⟨f1,f2,f3⟩:=adk hf;unfold mid
  by_cases hU:(lvl s).2=[]
  ·have:s=.nil:=by
    cases s with
    | nil=>rfl
    | _=>exact absurd hU (acU _ hc (by simp))
   subst this;rfl
  ·have hU':(lvl s).2.isEmpty=false:=by simpa using hU
   rw[hU'];simp only[Bool.false_eq_true,if_false];rw[anK,List.length_take,Nat.min_eq_left f2,ag3 s];congr 1
   have hm:=acr ((if once then (ords (lvl s).1.length).take 1 else ords (lvl s).1.length).map fun o=>
    joinR .par (srtT ((lvl s).2.map (thI (mid n once) (updL L (o.map fun i=>(lvl s).1.getD i 0) left) (left.drop (lvl s).1.length))))) (by simpa using ag6 f1)
   obtain⟨o,ho,e⟩:=List.mem_map.1 hm;rw[<-e,alh,ajQ];refine ajR _ fun T hT=>?_;have hk:=abb s T hT;have hsz:=aa8 s T hT;have hcl:=aia s hc T hT;have htf:=f3 T hT;have hlen:(left.drop (lvl s).1.length).length=left.length - (lvl s).1.length:=List.length_drop;rw[<-hlen]at htf
   generalize left.drop (lvl s).1.length=lf at *
   generalize updL L (o.map fun i=>(lvl s).1.getD i 0) left=L'
   cases T with
   | nil=>exact absurd rfl hk.2.2
   | par p q=>exact absurd rfl (hk.1 p q)
   | own x p=>exact absurd rfl (hk.2.1 x p)
   | snd a b p=>simp only[Tm.size]at hsz;simp only[thI,ownc];exact ih once L' lf p (by omega) hcl htf
   | tau p=>simp only[Tm.size]at hsz;simp only[thI,ownc];exact ih once L' lf p (by omega) hcl htf
   | rep p=>simp only[Tm.size]at hsz;simp only[thI,ownc];exact ih once L' lf p (by omega) hcl htf
   | mat a b p=>simp only[Tm.size]at hsz;simp only[thI];split<;>simp only[ownc]<;>exact ih once L' lf p (by omega) hcl htf
   | rcv a x p=>
    simp only[Tm.size]at hsz
    cases lf with
    | nil=>simp[tf]at htf
    | cons c lf=>
     simp only[thI,ownc,List.headD_cons,List.tail_cons];refine ih once _ lf p (by omega) hcl ?_;simp only[tf,List.length_cons,bae]at htf;simpa [fl] using htf
   | sum p q=>
    have hsm:=(adq (.sum p q) lf.length).1 (by rw[ags];exact htf);have e1:thI (mid n once) L' lf (.sum p q)=joinR .sum (srtT ((smds (.sum p q)).map (mid n once L' lf))):=rfl;rw[e1,alg,ajQ,<-anL (.sum p q)];refine ajR _ fun r hr=>?_
    have hrs:r.size<(Tm.sum p q).size:=by
     simp only[smds,lma]at hr;simp only[Tm.size];rcases hr with hr|hr
     ·have:=aaG p r hr;omega
     ·have:=aaG q r hr;omega
    exact ih once L' lf r (by omega) (agr _ hcl r hr) (hsm r hr)
-- well spelt
theorem lvl_free (s:Tm):∀T∈(lvl s).2,∀z,z∈T.free->z∈s.free\/z∈(lvl s).1:=by
 induction s with
 | nil=>intro T hT;simp[lvl]at hT
 | own x p ih=>
  intro T hT z hz;simp only[lvl,List.mem_cons,mf_own];rcases ih T hT z hz with h|h
  ·by_cases e:z=x
   ·exact .inr (.inl e)
   ·exact .inl ⟨h,e⟩
  ·exact .inr (.inr h)
 | par p q ih ih2=>
  intro T hT z hz;simp only[lvl,lma,mf_par]at hT ⊢;rcases hT with hT|hT
  ·rcases ih T hT z hz with h|h
   ·exact .inl (.inl h)
   ·exact .inr (.inl h)
  ·rcases ih2 T hT z hz with h|h
   ·exact .inl (.inr h)
   ·exact .inr (.inr h)
 | _=>intro T hT z hz;simp only[lvl,List.mem_singleton]at hT;rw[hT]at hz;exact .inl hz
theorem afg (s:Tm):∀q∈smds s,∀z,z∈q.free->z∈s.free:=by
 induction s with
 | sum p q ih ih2=>
  intro T hT z hz;simp only[smds,lma]at hT;rw[mf_sum];exact hT.imp (fun h=>ih T h z hz) (fun h=>ih2 T h z hz)
 | _=>intro T hT z hz;simp only[smds,List.mem_singleton]at hT;rw[hT]at hz;exact hz
theorem aqb:∀(o:List UInt8) (L:UInt8->UInt8) (ls:List UInt8) (v:UInt8),o.length<=ls.length->(v∈o->updL L o ls v∈ls)/\(v∉o->updL L o ls v=L v):=by
 intro o;induction o with
 | nil=>intro L ls v _;exact⟨fun h=>by simp at h,fun _=>by cases ls<;>rfl⟩
 | cons x o ih=>
  intro L ls v h
  cases ls with
  | nil=>simp at h
  | cons l ls=>
   obtain⟨h1,h2⟩:=ih (upd L x l) ls v (by simpa using h);simp only[updL];constructor
   ·intro hv
    by_cases hvo:v∈o
    ·exact List.mem_cons_of_mem _ (h1 hvo)
    ·rw[h2 hvo]
     have:v=x:=by rcases List.mem_cons.1 hv with h|h;exact h;exact absurd h hvo
     unfold upd;rw[if_pos this];simp
   ·intro hv;rw[h2 (fun h=>hv (by simp[h]))];unfold upd;rw[if_neg (fun e=>hv (by simp[e]))]
theorem ag7 {nm:UInt8->Bool}{t:Tm}:∀ls:List UInt8,(∀l∈ls,nm l=true)->t.ok nm=true->(wrapO ls t).ok nm=true:=by
 intro ls;induction ls with
 | nil=>intro _ h;exact h
 | cons a ls ih=>
  intro h ht;show (nm a && (wrapO ls t).ok nm)=true;rw[h a (by simp),ih (fun l hl=>h l (by simp[hl])) ht];rfl
theorem ag8 {nm:UInt8->Bool}:∀l:List Tm,(∀t∈l,t.ok nm=true)->(joinR .par l).ok nm=true:=by
 intro l;induction l with
 | nil=>intro _;rfl
 | cons a l ih=>
  cases l with
  | nil=>intro h;exact h a (by simp)
  | cons b l=>intro h;simp only[joinR,Tm.ok,bae];exact⟨h a (by simp),ih fun t ht=>h t (by simp[ht])⟩
theorem ajV {nm:UInt8->Bool}:∀l:List Tm,(∀t∈l,t.ok nm=true)->(joinR .sum l).ok nm=true:=by
 intro l;induction l with
 | nil=>intro _;rfl
 | cons a l ih=>
  cases l with
  | nil=>intro h;exact h a (by simp)
  | cons b l=>intro h;simp only[joinR,Tm.ok,bae];exact⟨h a (by simp),ih fun t ht=>h t (by simp[ht])⟩
theorem anU {s:Tm}{L:UInt8->UInt8}{left:List UInt8}{o:List UInt8}(hl:∀l∈left,nmL l=true)(hL:∀v,v∈s.free->nmL (L v)=true)(ho:o.length<=left.length)(hG:∀v,v∈(lvl s).1->v∈o){T:Tm}(hT:T∈(lvl s).2) : ∀v,v∈T.free->nmL (updL L o left v)=true:=by
 intro v hv;obtain⟨h1,h2⟩:=aqb o L left v ho
 by_cases hvo:v∈o
 ·exact hl _ (h1 hvo)
 ·rw[h2 hvo];rcases lvl_free s T hT v hv with h|h
  ·exact hL v h
  ·exact absurd (hG v h) hvo
theorem adL {G:List UInt8}{o:List Nat}(h:∀i,i∈o↔i<G.length):∀v,v∈G->v∈o.map fun i=>G.getD i 0:=by
 intro v hv;obtain⟨i,hi,e⟩:=List.getElem_of_mem hv;exact List.mem_map.2 ⟨i,(h i).2 hi,by rw[List.getD_eq_getElem?_getD,List.getElem?_eq_getElem hi,e];rfl⟩
theorem anV (f:(UInt8->UInt8)->List UInt8->Tm->Tm)(n:Nat) (ih:∀(L:UInt8->UInt8) (left:List UInt8) (s:Tm),s.size<=n->fl s left.length=true->(∀l∈left,nmL l=true)->(∀v,v∈s.free->nmL (L v)=true)->(f L left s).ok nmL=true) (L:UInt8->UInt8)(lf:List UInt8)(T:Tm)(hsz:T.size<=n+1)(hk:(∀p q,T≠.par p q)/\(∀x p,T≠.own x p)/\T≠.nil)(htf:tf T lf.length=true)(hl:∀l∈lf,nmL l=true)(hL:∀v,v∈T.free->nmL (L v)=true) : (thI f L lf T).ok nmL=true:=by
 cases T with
 | nil=>exact absurd rfl hk.2.2
 | par p q=>exact absurd rfl (hk.1 p q)
 | own x p=>exact absurd rfl (hk.2.1 x p)
 | snd a b p=>
  simp only[Tm.size]at hsz;simp only[thI,Tm.ok,bae];exact⟨⟨hL a (by rw[mf_snd];simp),hL b (by rw[mf_snd];simp)⟩,ih L lf p (by omega) htf hl fun v hv=>hL v (by rw[mf_snd];simp[hv])⟩
 | tau p=>simp only[Tm.size]at hsz;simp only[thI,Tm.ok];exact ih L lf p (by omega) htf hl fun v hv=>hL v (by rw[mf_tau];exact hv)
 | rep p=>simp only[Tm.size]at hsz;simp only[thI,Tm.ok];exact ih L lf p (by omega) htf hl fun v hv=>hL v (by rw[mf_rep];exact hv)
 | mat a b p=>
  simp only[Tm.size]at hsz;have h1:=hL a (by rw[mf_mat];simp);have h2:=hL b (by rw[mf_mat];simp);have h3:=ih L lf p (by omega) htf hl fun v hv=>hL v (by rw[mf_mat];simp[hv]);simp only[thI];split<;>simp only[Tm.ok,bae]
  ·exact⟨⟨h2,h1⟩,h3⟩
  ·exact⟨⟨h1,h2⟩,h3⟩
 | rcv a x p=>
  simp only[Tm.size]at hsz
  cases lf with
  | nil=>simp[tf]at htf
  | cons c lf=>
   simp only[thI,Tm.ok,bae,List.headD_cons,List.tail_cons];refine⟨⟨hL a (by rw[mf_rcv];simp),hl c (by simp)⟩,ih _ lf p (by omega) ?_ (fun l h=>hl l (by simp[h])) fun v hv=>?_⟩
   ·simp only[tf,List.length_cons,bae]at htf;simpa [fl] using htf
   ·unfold upd;split
    ·exact hl c (by simp)
    ·rename_i e;exact hL v (by rw[mf_rcv];exact .inr ⟨hv,e⟩)
 | sum p q=>
  have hsm:=(adq (.sum p q) lf.length).1 (by rw[ags];exact htf);have e1:thI f L lf (.sum p q)=joinR .sum (srtT ((smds (.sum p q)).map (f L lf))):=rfl;rw[e1];refine ajV _ fun t ht=>?_;obtain⟨r,hr,rfl⟩:=List.mem_map.1 ((aaV _ _).1 ht)
  have hrs:r.size<(Tm.sum p q).size:=by
   simp only[smds,lma]at hr;simp only[Tm.size];rcases hr with hr|hr
   ·have:=aaG p r hr;omega
   ·have:=aaG q r hr;omega
  exact ih L lf r (by omega) (hsm r hr) hl fun v hv=>hL v (afg _ r hr v hv)
theorem aid (n:Nat):∀(once:Bool) (L:UInt8->UInt8) (left:List UInt8) (s:Tm),s.size<=n->fl s left.length=true->(∀l∈left,nmL l=true)->(∀v,v∈s.free->nmL (L v)=true)->(mid n once L left s).ok nmL=true:=by
 induction n with
 | zero=>intro once L left s h;have:=aaq s;omega
 | succ n ih=>
  intro once L left s hn hf hl hL;obtain⟨f1,f2,f3⟩:=adk hf;unfold mid
  split
  ·rfl
  ·refine ag7 _ (fun l h=>hl l (List.mem_of_mem_take h)) ?_
   have hm:=acr ((if once then (ords (lvl s).1.length).take 1 else ords (lvl s).1.length).map fun o=>
    joinR .par (srtT ((lvl s).2.map (thI (mid n once) (updL L (o.map fun i=>(lvl s).1.getD i 0) left) (left.drop (lvl s).1.length))))) (by simpa using ag6 f1)
   obtain⟨o,ho,e⟩:=List.mem_map.1 hm;rw[<-e];obtain⟨o1,o2,o3⟩:=ack _ f1 o (aqa o ho);refine ag8 _ fun t ht=>?_;obtain⟨T,hT,rfl⟩:=List.mem_map.1 ((aaV _ _).1 ht);have hlen:(left.drop (lvl s).1.length).length=left.length - (lvl s).1.length:=List.length_drop
   exact anV (mid n once) n (ih once) _ _ T (by have:=aa8 s T hT;omega) (abb s T hT) (by rw[hlen];exact f3 T hT) (fun l h=>hl l (List.mem_of_mem_drop h))
    (anU hl hL (by rw[List.length_map];omega) (adL o3) hT)
-- the program's way
theorem anW (s:Tm):(lvl s).1.Sublist s.bnd:=by
 induction s with
 | nil=>simp[lvl]
 | own x p ih=>simp only[lvl,Tm.bnd];exact ih.cons_cons x
 | par p q ih ih2=>simp only[lvl,Tm.bnd];exact ih.append ih2
 | _=>simp[lvl]
theorem ajW (s:Tm):∀T∈(lvl s).2,T.bnd.Sublist s.bnd:=by
 induction s with
 | nil=>intro T hT;simp[lvl]at hT
 | own x p ih=>intro T hT;simp only[Tm.bnd];exact(ih T hT).cons x
 | par p q ih ih2=>
  intro T hT;simp only[lvl,lma]at hT;simp only[Tm.bnd];rcases hT with hT|hT
  ·exact(ih T hT).trans (List.sublist_append_left _ _)
  ·exact(ih2 T hT).trans (List.sublist_append_right _ _)
 | _=>intro T hT;simp only[lvl,List.mem_singleton]at hT;rw[hT];exact List.Sublist.refl _
theorem aie (s:Tm):∀T∈smds s,T.bnd.Sublist s.bnd:=by
 induction s with
 | sum p q ih ih2=>
  intro T hT;simp only[smds,lma]at hT;simp only[Tm.bnd];rcases hT with hT|hT
  ·exact(ih T hT).trans (List.sublist_append_left _ _)
  ·exact(ih2 T hT).trans (List.sublist_append_right _ _)
 | _=>intro T hT;simp only[smds,List.mem_singleton]at hT;rw[hT];exact List.Sublist.refl _
theorem acV {α:Type}(lt:α->α->Bool)(k:Nat)(l:List α):visG lt (k+1) l≠[]:=by simp[visG]
theorem aqc {α:Type}(lt:α->α->Bool)(k:Nat):visG lt (k+1) []=[[]]:=by simp[visG,nextG]
theorem ajX (n:Nat)(L:UInt8->UInt8)(left:List UInt8):levI (n+1) L left .nil=.nil:=by
 unfold levI;have e:lvl .nil=([],[]):=rfl;rw[e];simp only[List.length_nil,List.take_zero,List.drop_zero,List.map_nil];rw[aqc ltU 199];simp only[List.map_cons,List.map_nil,bestL,minB];unfold srtT;rw[List.mergeSort_nil];rfl
theorem ag9 (n:Nat):∀(L:UInt8->UInt8) (left:List UInt8) (s:Tm),s.size<=n->Clean s->fl s left.length=true->s.bnd.Pairwise (·<·)->(∀l∈left,nmL l=true)->(∀v,v∈s.free->nmL (L v)=true)-> levI n L left s=mid n false L left s:=by
 induction n with
 | zero=>intro L left s h;have:=aaq s;omega
 | succ n ih=>
  intro L left s hn hc hf hb hl hL;obtain⟨f1,f2,f3⟩:=adk hf;have hlen:(left.drop (lvl s).1.length).length=left.length - (lvl s).1.length:=List.length_drop;have hl2:∀l∈left.drop (lvl s).1.length,nmL l=true:=fun l h=>hl l (List.mem_of_mem_drop h)
  -- the threads
  have hth:∀(L':UInt8->UInt8) (T:Tm),T∈(lvl s).2->(∀v,v∈T.free->nmL (L' v)=true)->thI (levI n) L' (left.drop (lvl s).1.length) T=thI (mid n false) L' (left.drop (lvl s).1.length) T:=by
   intro L' T hT hL';have hk:=abb s T hT;have hsz:=aa8 s T hT;have hcl:=aia s hc T hT;have htf:=f3 T hT;have hbb:=hb.sublist (ajW s T hT);rw[<-hlen]at htf;clear hf f3
   generalize left.drop (lvl s).1.length=lf at *
   cases T with
   | nil=>exact absurd rfl hk.2.2
   | par p q=>exact absurd rfl (hk.1 p q)
   | own x p=>exact absurd rfl (hk.2.1 x p)
   | snd a b p=>simp only[Tm.size]at hsz;simp only[thI];rw[ih L' lf p (by omega) hcl htf hbb hl2 fun v hv=>hL' v (by rw[mf_snd];simp[hv])]
   | tau p=>simp only[Tm.size]at hsz;simp only[thI];rw[ih L' lf p (by omega) hcl htf hbb hl2 fun v hv=>hL' v (by rw[mf_tau];exact hv)]
   | rep p=>simp only[Tm.size]at hsz;simp only[thI];rw[ih L' lf p (by omega) hcl htf hbb hl2 fun v hv=>hL' v (by rw[mf_rep];exact hv)]
   | mat a b p=>simp only[Tm.size]at hsz;simp only[thI];rw[ih L' lf p (by omega) hcl htf hbb hl2 fun v hv=>hL' v (by rw[mf_mat];simp[hv])]
   | rcv a x p=>
    simp only[Tm.size]at hsz
    cases lf with
    | nil=>simp[tf]at htf
    | cons c lf=>
     simp only[thI,List.headD_cons,List.tail_cons];rw[ih _ lf p (by omega) hcl (by simp only[tf,List.length_cons,bae]at htf;simpa [fl] using htf) (List.Pairwise.of_cons hbb) (fun l h=>hl2 l (by simp[h])) fun v hv=>?_];unfold upd;split
     ·exact hl2 c (by simp)
     ·rename_i e;exact hL' v (by rw[mf_rcv];exact .inr ⟨hv,e⟩)
   | sum p q=>
    have hsm:=(adq (.sum p q) lf.length).1 (by rw[ags];exact htf);have e1:∀f,thI f L' lf (.sum p q)=joinR .sum (srtT ((smds (.sum p q)).map (f L' lf))):=fun f=>rfl;rw[e1,e1];congr 2;refine List.map_congr_left fun r hr=>?_
    have hrs:r.size<(Tm.sum p q).size:=by
     simp only[smds,lma]at hr;simp only[Tm.size];rcases hr with hr|hr
     ·have:=aaG p r hr;omega
     ·have:=aaG q r hr;omega
    exact ih L' lf r (by omega) (agr _ hcl r hr) (hsm r hr) (hbb.sublist (aie _ r hr)) hl2 fun v hv=>hL' v (afg _ r hr v hv)
  by_cases hU:(lvl s).2=[]
  ·have:s=.nil:=by
    cases s with
    | nil=>rfl
    | _=>exact absurd hU (acU _ hc (by simp))
   subst this
   rw[ajX];rfl
  ·unfold levI mid;have hU':(lvl s).2.isEmpty=false:=by simpa using hU
   rw[hU'];simp only[Bool.false_eq_true,if_false];congr 1;have hG:=hb.sublist (anW s);have hv:=ah_ _ hG f1
   have hL2:∀p∈ords (lvl s).1.length,∀T∈(lvl s).2,∀v,v∈T.free->nmL (updL L (p.map fun i=>(lvl s).1.getD i 0) left v)=true:=fun p hp T hT=>
    anU hl hL (by rw[List.length_map];have:=(ack _ f1 p hp).1;omega) (adL (ack _ f1 p hp).2.2) hT
   have hcand:∀p∈ords (lvl s).1.length,srtT ((lvl s).2.map (thI (levI n) (updL L (p.map fun i=>(lvl s).1.getD i 0) left) (left.drop (lvl s).1.length))) =
     srtT ((lvl s).2.map (thI (mid n false) (updL L (p.map fun i=>(lvl s).1.getD i 0) left) (left.drop (lvl s).1.length))):=fun p hp=>by
    congr 1;exact List.map_congr_left fun T hT=>hth _ T hT (hL2 p hp T hT)
   have hmap:((ords (lvl s).1.length).map fun o=>joinR .par (srtT ((lvl s).2.map (thI (mid n false) (updL L (o.map fun i=>(lvl s).1.getD i 0) left) (left.drop (lvl s).1.length))))) =
     ((ords (lvl s).1.length).map fun o=>srtT ((lvl s).2.map (thI (mid n false) (updL L (o.map fun i=>(lvl s).1.getD i 0) left) (left.drop (lvl s).1.length)))).map (joinR .par):=by
    rw[List.map_map];rfl
   rw[hmap];refine afe aa2 (lvl s).2.length _ _ ?_ ?_ (fun c=>?_) (fun c hc'=>?_)
   ·exact fun e=>acV ltU 199 _ (List.map_eq_nil_iff.1 e)
   ·exact fun e=>acT _ f1 (List.map_eq_nil_iff.1 e)
   ·rw[List.mem_map,List.mem_map];constructor
    ·rintro⟨o,ho,rfl⟩;obtain⟨p,hp,rfl⟩:=(hv o).1 ho;exact⟨p,hp,(hcand p hp).symm⟩
    ·rintro⟨p,hp,rfl⟩;exact⟨_,(hv _).2 ⟨p,hp,rfl⟩,hcand p hp⟩
   ·obtain⟨o,ho,rfl⟩:=List.mem_map.1 hc';obtain⟨p,hp,rfl⟩:=(hv o).1 ho;refine⟨by unfold srtT;rw[List.length_mergeSort,List.length_map],fun t ht=>?_⟩;obtain⟨T,hT,rfl⟩:=List.mem_map.1 ((aaV _ _).1 ht);rw[hth _ T hT (hL2 p hp T hT)];exact anV (mid n false) n (aid n false) _ _ T (by have:=aa8 s T hT;omega) (abb s T hT) (by rw[hlen];exact f3 T hT) hl2 (hL2 p hp T hT)
def marksN:List UInt8:=(List.range 133).map fun i=>UInt8.ofNat (123+i)
theorem ac9:marksN.Pairwise (·<·):=by unfold marksN;decide +kernel
theorem aaY:marksN.length=133:=by unfold marksN;simp
theorem anX:∀z∈marksN,123<=z.toNat:=by unfold marksN;decide +kernel
def numb (t:Tm):Tm:=can t.sim id marksN
def nfS (t:Tm):Option Tm:=
 if (whl t.size true t t.usd).2=true\/8<(whl t.size true t t.usd).1.pr.count 35 then none else
 if (whl t.size false t t.usd).2=true then none else
 if (whl t.size false t t.usd).1.ok nmL=true/\(whl t.size false t t.usd).1.pr.length<=300/\(whl t.size false t t.usd).1.size<=60 then some (whl t.size false t t.usd).1 else none
def nfI (t:Tm):Option Tm:=
 if 8<ownc (numb t)\/fl (numb t) (othL t.usd).length=false then none else
 if (levI t.size id (othL t.usd) (numb t)).ok nmL=true/\(levI t.size id (othL t.usd) (numb t)).pr.length<=300/\(levI t.size id (othL t.usd) (numb t)).size<=60 then some (levI t.size id (othL t.usd) (numb t)) else none
theorem abB (t:Tm):t.sim.size<=t.size:=(ac8 t _ _ (ajP t)).2.2
theorem acE (s:Tm)(f:UInt8->UInt8)(ns:List UInt8):(can s f ns).size=s.size:=by
 induction s generalizing f ns with
 | _=>simp_all [can,Tm.size]
theorem ach {z:UInt8}(h:nmL z=true):¬aaX z:=by rw[nmL_iff]at h;unfold aaX;omega
theorem okL_names {t:Tm}(h:t.ok nmL=true):(∀z,z∈t.free->nmL z=true)/\∀z,z∈t.bnd->nmL z=true:=
 ⟨fun z hz=>(nmL_iff z).2 (lets_free t h z hz),fun z hz=>(nmL_iff z).2 (apy t h z hz)⟩
theorem adM {t:Tm}(hs:t.size<=121):(numb t).bnd=marksN.take t.sim.bnd.length:=by
 refine ai7 _ _ _ ?_;have:=acQ t.sim;have:=abB t;rw[aaY];omega
theorem anY {t:Tm}(h:t.ok nmL=true)(hs:t.size<=121):∃E,Cx t E (numb t) id t.usd:=by
 have hn:=okL_names h;have hb:t.sim.bnd.length<=marksN.length:=by have:=acQ t.sim;have:=abB t;rw[aaY];omega
 have hf:∀z,z∈t.sim.free->id z∉marksN:=fun z hz hm=>by
  rw[sim_usd]at hz;have h1:=(nmL_iff z).1 (hn.1 z (usd_free t z hz));have h2:=anX _ hm;simp only[id]at h2;omega
 have hnd:marksN.Nodup:=ac9.imp fun h e=>by rw[e,abO]at h;omega
 refine⟨_,arF t _ _ id marksN (ajP t) hb hnd hf,fun z hz=>ach (hz.elim (hn.1 z) (hn.2 z)),?_,fun u v he=>?_,hs⟩
 ·rw[adM hs];exact hnd.sublist (List.take_sublist _ _)
 ·obtain⟨w,hw,rfl,rfl⟩:=he;refine⟨rfl,fun hv=>hf _ hw ?_,by rw[<-sim_usd];exact hw,ach (hn.1 _ (usd_free t _ (by rw[<-sim_usd];exact hw)))⟩;rw[adM hs]at hv;exact List.mem_of_mem_take hv
theorem aeM (s:Tm):∀(f:UInt8->UInt8) (ns:List UInt8),s.bnd.length<=ns.length->∀z,z∈(can s f ns).free->(∃w,w∈s.free/\z=f w):=by
 have hb:∀(p:Tm) (x n:UInt8) (f:UInt8->UInt8) (z:UInt8),(∃w,w∈p.free/\z=upd f x n w)->z≠n->∃w,(w∈p.free/\w≠x)/\z=f w:=by
  rintro p x n f z ⟨w,hw,e⟩ hz;unfold upd at e
  split at e
  ·exact absurd e hz
  ·rename_i hx;exact⟨w,⟨hw,hx⟩,e⟩
 induction s with
 | nil=>intro f ns _ z hz;simp[can,Tm.free]at hz
 | snd a b p ih=>
  intro f ns h z hz;simp only[can,mf_snd]at hz;rcases hz with rfl|rfl|hz
  ·exact⟨a,by rw[mf_snd];simp,rfl⟩
  ·exact⟨b,by rw[mf_snd];simp,rfl⟩
  ·obtain⟨w,hw,e⟩:=ih f ns h z hz;exact⟨w,by rw[mf_snd];simp[hw],e⟩
 | mat a b p ih=>
  intro f ns h z hz;simp only[can,mf_mat]at hz;rcases hz with rfl|rfl|hz
  ·exact⟨a,by rw[mf_mat];simp,rfl⟩
  ·exact⟨b,by rw[mf_mat];simp,rfl⟩
  ·obtain⟨w,hw,e⟩:=ih f ns h z hz;exact⟨w,by rw[mf_mat];simp[hw],e⟩
 | tau p ih=>intro f ns h z hz;simp only[can,mf_tau]at hz;obtain⟨w,hw,e⟩:=ih f ns h z hz;exact⟨w,by rw[mf_tau];exact hw,e⟩
 | rep p ih=>intro f ns h z hz;simp only[can,mf_rep]at hz;obtain⟨w,hw,e⟩:=ih f ns h z hz;exact⟨w,by rw[mf_rep];exact hw,e⟩
 | rcv a x p ih=>
  intro f ns h z hz
  cases ns with
  | nil=>simp[Tm.bnd]at h
  | cons n ns=>
   simp only[can,mf_rcv,List.headD_cons,List.tail_cons]at hz;rcases hz with rfl|⟨hz,hn⟩
   ·exact⟨a,by rw[mf_rcv];simp,rfl⟩
   ·obtain⟨w,hw,e⟩:=hb p x n f z (ih _ ns (by simpa [Tm.bnd] using h) z hz) hn;exact⟨w,by rw[mf_rcv];exact .inr hw,e⟩
 | own x p ih=>
  intro f ns h z hz
  cases ns with
  | nil=>simp[Tm.bnd]at h
  | cons n ns=>
   simp only[can,mf_own,List.headD_cons,List.tail_cons]at hz;obtain⟨w,hw,e⟩:=hb p x n f z (ih _ ns (by simpa [Tm.bnd] using h) z hz.1) hz.2;exact⟨w,by rw[mf_own];exact hw,e⟩
 | sum p q ih ih2=>
  intro f ns h z hz;simp only[Tm.bnd,lla]at h;simp only[can,mf_sum]at hz;rcases hz with hz|hz
  ·obtain⟨w,hw,e⟩:=ih f ns (by omega) z hz;exact⟨w,by rw[mf_sum];exact .inl hw,e⟩
  ·obtain⟨w,hw,e⟩:=ih2 f _ (by rw[List.length_drop];omega) z hz;exact⟨w,by rw[mf_sum];exact .inr hw,e⟩
 | par p q ih ih2=>
  intro f ns h z hz;simp only[Tm.bnd,lla]at h;simp only[can,mf_par]at hz;rcases hz with hz|hz
  ·obtain⟨w,hw,e⟩:=ih f ns (by omega) z hz;exact⟨w,by rw[mf_par];exact .inl hw,e⟩
  ·obtain⟨w,hw,e⟩:=ih2 f _ (by rw[List.length_drop];omega) z hz;exact⟨w,by rw[mf_par];exact .inr hw,e⟩
theorem ag_ (t:Tm)(h:t.ok nmL=true):t.ok nmE=true:=by
 have hc:∀c,nmL c=true->nmE c=true:=fun c h=>by rw[aiU];exact .inl ((nmL_iff c).1 h)
 induction t with
 | nil=>rfl
 | snd a b p ih=>simp only[Tm.ok,bae]at h ⊢;exact⟨⟨hc _ h.1.1,hc _ h.1.2⟩,ih h.2⟩
 | rcv a b p ih=>simp only[Tm.ok,bae]at h ⊢;exact⟨⟨hc _ h.1.1,hc _ h.1.2⟩,ih h.2⟩
 | mat a b p ih=>simp only[Tm.ok,bae]at h ⊢;exact⟨⟨hc _ h.1.1,hc _ h.1.2⟩,ih h.2⟩
 | own a p ih=>simp only[Tm.ok,bae]at h ⊢;exact⟨hc _ h.1,ih h.2⟩
 | tau p ih=>simp only[Tm.ok]at h ⊢;exact ih h
 | rep p ih=>simp only[Tm.ok]at h ⊢;exact ih h
 | sum p q ih ih2=>simp only[Tm.ok,bae]at h ⊢;exact⟨ih h.1,ih2 h.2⟩
 | par p q ih ih2=>simp only[Tm.ok,bae]at h ⊢;exact⟨ih h.1,ih2 h.2⟩
theorem ai9 {t:Tm}(h:t.ok nmL=true)(hs:t.size<=121)(hf:FitT t):nfS t=nfI t:=by
 obtain⟨E,cx⟩:=anY h hs;have g:=fun once=>anI t.size once t t.usd (numb t) E id (nl _) hf cx;have hsz:(numb t).size<=t.size:=by unfold numb;rw[acE];exact abB t
 have hcl:Clean (numb t):=aic _ _ _ (aib t);have hlet:∀l∈othL t.usd,nmL l=true:=fun l hl=>(nmL_iff l).2 ((abL _ _).1 hl).1
 have hfr:∀v,v∈(numb t).free->nmL (id v)=true:=fun v hv=>by
  obtain⟨w,hw,e⟩:=aeM t.sim id marksN (by have:=acQ t.sim;have:=abB t;rw[aaY];omega) v hv;rw[e];rw[sim_usd]at hw;exact(okL_names h).1 _ (usd_free t _ hw)
 unfold nfS nfI
 cases hfl:fl (numb t) (othL t.usd).length with
 | false=>
  rw[if_pos (show 8<ownc (numb t)\/false=false from .inr rfl)]
  split
  ·rfl
  ·split
   ·rfl
   ·rename_i h1 h2
    rcases (g false).2 hfl with h3|h3
    ·exact absurd h3 h2
    ·rw[if_neg (by rw[h3];simp)]
 | true=>
  have e1:=aeg (g true) hfl;have e2:=aeg (g false) hfl;have o1:=aid t.size true id (othL t.usd) (numb t) hsz hfl hlet hfr;have o2:=ai8 t.size true id (othL t.usd) (numb t) hsz hcl hfl;have e3:=ag9 t.size id (othL t.usd) (numb t) hsz hcl hfl (by rw[adM hs];exact ac9.sublist (List.take_sublist _ _)) hlet hfr;rw[e1,e2,e3];simp only[anJ _ (ag_ _ o1),o2,Bool.false_eq_true,false_or,if_false,Bool.true_eq_false,or_false]
theorem aif (n i:Nat)(h:i<n):(List.range n).reverse=(List.range' (i+1) (n - (i+1))).reverse++i::(List.range i).reverse:=by
 have e:List.range n=List.range i++i::List.range' (i+1) (n - (i+1)):=by
  rw[List.range_eq_range',List.range_eq_range'];have h1:n=i+(1+(n - (i+1))):=by omega
  conv=>lhs;rw[h1,<-List.range'_append_1,Nat.zero_add,<-List.range'_append_1]
  simp
 rw[e,List.reverse_append,List.reverse_cons,List.append_assoc];rfl
theorem ajY {n i x:Nat}(h:x∈(List.range' (i+1) (n - (i+1))).reverse):i<x/\x<n:=by
 rw[List.mem_reverse,List.mem_range'_1]at h;omega
def asc {α:Type}(lt:α->α->Bool)(l:List α)(i j:Nat):Bool:=
 decide (i<j) && (match l[i]?,l[j]? with|some a,some b=>lt a b|_,_=>false)
theorem aei {α:Type}(lt:α->α->Bool)(l:List α)(h:∀i j,i<j->j<l.length->asc lt l i j=false):nextG lt l=none:=by
 unfold nextG;rw[List.findSome?_eq_none_iff];intro i hi;rw[Option.map_eq_none_iff,List.find?_eq_none];intro j hj;rw[List.mem_reverse,List.mem_range]at hj
 by_cases hij:i<j
 ·have:=h i j hij hj
  exact fun e=>by
   have e':asc lt l i j=true:=e;rw[this]at e';cases e'
 ·simp[hij]
def aig {α:Type}(l:List α)(i j:Nat)(a b:α):List α:=((l.set i b).set j a).take (i+1)++(((l.set i b).set j a).drop (i+1)).reverse
theorem alj {α:Type}(lt:α->α->Bool)(l:List α)(i j:Nat)(a b:α)(hij:i<j)(hj:j<l.length)(ha:l[i]?=some a)(hb:l[j]?=some b)(hlt:lt a b=true) (h1:∀j',j<j'->j'<l.length->asc lt l i j'=false)(h2:∀i' j',i<i'->i'<j'->j'<l.length->asc lt l i' j'=false):nextG lt l=some (aig l i j a b):=by
 unfold nextG;rw[List.findSome?_eq_some_iff];refine⟨(List.range' (i+1) (l.length - (i+1))).reverse,i,(List.range i).reverse,aif _ _ (by omega),?_,?_⟩
 ·rw[Option.map_eq_some_iff];refine⟨j,?_,by rw[ha,hb];rfl⟩;rw[List.find?_eq_some_iff_append];refine⟨by rw[ha,hb];simp[hij,hlt],(List.range' (j+1) (l.length - (j+1))).reverse,(List.range j).reverse,aif _ _ hj,?_⟩;intro j' hj';have:=ajY hj';have h3:=h1 j' this.1 this.2
  show (!asc lt l i j')=true;rw[h3];rfl
 ·intro i' hi';have hm:=ajY hi';rw[Option.map_eq_none_iff,List.find?_eq_none];intro j' hj';rw[List.mem_reverse,List.mem_range]at hj'
  by_cases hc:i'<j'
  ·have:=h2 i' j' hm.1 hc hj'
   exact fun e=>by
    have e':asc lt l i' j'=true:=e;rw[this]at e';cases e'
  ·simp[hc]
theorem aqd:∀m,m<=5->(visG ltN 200 (List.range m)).length<=120:=by
 intro m hm;have:m=0\/m=1\/m=2\/m=3\/m=4\/m=5:=by omega
 rcases this with rfl|rfl|rfl|rfl|rfl|rfl<;>decide +kernel
theorem asC (G:List UInt8)(hs:G.Pairwise (·<·))(hl:G.length<=5):(visG ltU 200 G).length<=120:=by
 have e:G=(List.range G.length).map fun i=>G.getD i 0:=by
  apply List.ext_getElem (by simp)
  intro i h1 h2;simp[List.getD_eq_getElem?_getD,List.getElem?_eq_getElem h1]
 have hlt:∀a b,a<G.length->b<G.length->ltU (G.getD a 0) (G.getD b 0)=ltN a b:=by
  intro a b ha hb;rw[List.pairwise_iff_getElem]at hs;rw[List.getD_eq_getElem?_getD,List.getD_eq_getElem?_getD,List.getElem?_eq_getElem ha,List.getElem?_eq_getElem hb];unfold ltU ltN;simp only[Option.getD_some];rcases Nat.lt_trichotomy a b with h|h|h
  ·have:=hs a b ha hb h;simp[this,h]
  ·subst h;simp
  ·have:=hs b a hb ha h;have h':¬a<b:=by omega
   have:¬G[a]<G[b]:=fun e=>by rw[abO]at this e;omega
   simp[this,h']
 rw[e,ajT (fun i=>G.getD i 0) ltN ltU (fun i=>i<G.length) hlt 200 _ (fun a ha=>List.mem_range.1 ha),List.length_map];exact aqd _ hl
theorem anZ (G:List UInt8)(hs:G.Pairwise (·<·))(hl:G.length<=5){o:List UInt8}(ho:o∈visG ltU 200 G):o.length=G.length/\∀v,v∈G->v∈o:=by
 obtain⟨p,hp,rfl⟩:=(ah_ G hs hl o).1 ho;have:=ack _ hl p hp;exact⟨by rw[List.length_map];exact this.1,adL this.2.2⟩
def aha (k:Nat)(o:List UInt8):List (List UInt8):=match nextG ltU o with|some m=>visG ltU k m|none=>[]
theorem adN (k:Nat)(o:List UInt8):visG ltU (k+1) o=o::aha k o:=by
 unfold aha;rw[visG];cases nextG ltU o<;>rfl
theorem alk {k:Nat}{o:List UInt8}(h:nextG ltU o=none):aha k o=[]:=by unfold aha;rw[h]
theorem aej {k:Nat}{o m:List UInt8}(h:nextG ltU o=some m):aha (k+1) o=m::aha k m:=by
 rw[<-adN];unfold aha;rw[h]
def Srch (G:List UInt8)(F:List UInt8->List Tm)(o:List UInt8)(b:List Tm)(k:Nat):Prop:=
 (∃pre,pre++o::aha k o=visG ltU 200 G/\pre.length+k=199)/\minB (fun a b=>agp (a.map Tm.pr) (b.map Tm.pr)) ((aha k o).map F) b=bestL ((visG ltU 200 G).map F)/\∃o',o'∈visG ltU 200 G/\b=F o'
theorem Srch.start (G:List UInt8)(F:List UInt8->List Tm):Srch G F G (F G) 199:=by
 refine⟨⟨[],(adN 199 G).symm,rfl⟩,?_,G,?_,rfl⟩
 ·rw[adN 199];rfl
 ·rw[adN 199];simp
theorem Srch.mem {G:List UInt8}{F:List UInt8->List Tm}{o:List UInt8}{b:List Tm}{k:Nat}(h:Srch G F o b k):o∈visG ltU 200 G:=by
 obtain⟨⟨pre,h1,_⟩,_⟩:=h;rw[<-h1];simp
theorem Srch.stop {G:List UInt8}{F:List UInt8->List Tm}{o:List UInt8}{b:List Tm}{k:Nat}(h:Srch G F o b k)(hn:nextG ltU o=none):b=bestL ((visG ltU 200 G).map F):=by
 have:=h.2.1;rw[alk hn]at this
 exact this
theorem Srch.go {G:List UInt8}{F:List UInt8->List Tm}{o m:List UInt8}{b:List Tm}{k:Nat}(hs:G.Pairwise (·<·))(hl:G.length<=5)(h:Srch G F o b k)(hn:nextG ltU o=some m) : ∃k',k=k'+1/\Srch G F m (if agp ((F m).map Tm.pr) (b.map Tm.pr) then F m else b) k':=by
 obtain⟨⟨pre,h1,h2⟩,h3,o',h4,h5⟩:=h;have hlen:=asC G hs hl;rw[<-h1,lla,List.length_cons]at hlen
 cases k with
 | zero=>omega
 | succ k=>
  refine⟨k,rfl,⟨pre++[o],?_,by simp;omega⟩,?_,?_⟩
  ·rw[<-h1,aej hn];simp
  ·rw[aej hn]at h3;simp only[List.map_cons,minB]at h3;exact h3
  ·have hm:m∈visG ltU 200 G:=by rw[<-h1,aej hn];simp
   split
   ·exact⟨m,hm,rfl⟩
   ·exact⟨o',h4,h5⟩
end Go.Proofs.YtalegefnppbkdaaGreat.T1
