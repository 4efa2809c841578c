/- Texts of the proof. No conditions. -/
import Derived.Test.YtalegefnppbkdaaGreatQaz
namespace Go.Proofs.YtalegefnppbkdaaGreat.T1
open Go.Proofs.Tryz
set_option linter.unusedVariables false
theorem agv {α:Type}:∀(l:List α) (i:Nat) (h:i<l.length),l.Perm (l[i]::l.eraseIdx i):=by
 intro l
 induction l with
 | nil=>intro i h;simp at h
 | cons a l ih=>
  intro i h
  cases i with
  | zero=>exact .refl _
  | succ i=>
   simp only[List.getElem_cons_succ,List.eraseIdx_cons_succ];exact((ih i (by simpa using h)).cons a).trans (List.Perm.swap _ _ _)
theorem aqu {α:Type}:∀(l:List α) (i:Nat) (h:i<l.length),(l.drop i).take 1=[l[i]]:=by
 intro l
 induction l with
 | nil=>intro i h;simp at h
 | cons a l ih=>
  intro i h
  cases i with
  | zero=>rfl
  | succ i=>simp only[List.drop_succ_cons,List.getElem_cons_succ];exact ih i (by simpa using h)
theorem aor {α:Type}:∀(n:Nat) (l r:List α),r.Perm l->l.length<=n->r∈ordsL n l:=by
 intro n
 induction n with
 | zero=>
  intro l r h hl;have:l=[]:=List.length_eq_zero_iff.1 (by omega);subst this
  rw[List.Perm.eq_nil h];simp[ordsL]
 | succ n ih=>
  intro l r h hl;unfold ordsL
  cases l with
  | nil=>rw[List.Perm.eq_nil h];simp
  | cons b l=>
   simp only[List.isEmpty_cons,Bool.false_eq_true,if_false]
   cases r with
   | nil=>exact absurd h.length_eq (by simp)
   | cons a r=>
    have ha:a∈b::l:=h.mem_iff.1 (by simp);obtain⟨i,hi,e⟩:=List.getElem_of_mem ha;rw[List.mem_flatMap];refine⟨i,by simpa using hi,?_⟩;rw[List.mem_map]
    have hp:(b::l).Perm (a::(b::l).eraseIdx i):=by
     rw[<-e];exact agv _ i hi
    refine⟨r,ih _ r ?_ ?_,?_⟩
    ·exact(h.trans hp).cons_inv
    ·rw[List.length_eraseIdx_of_lt hi];simp at hl ⊢;omega
    ·rw[aqu _ i hi,e];rfl
theorem aqv {m:Nat}{o:List Nat}(h:o.Perm (List.range m)):o∈ords m:=aor m _ _ h (by simp)
theorem aj8 {G Y:List UInt8}(hn:G.Nodup)(h:Y.Perm G):∃p∈ords G.length,(p.map fun i=>G.getD i 0)=Y:=by
 refine⟨Y.map G.idxOf,aqv ?_,?_⟩
 ·refine(h.map _).trans ?_
  have:G.map G.idxOf=List.range G.length:=by
   refine List.ext_getElem (by simp) fun i h1 h2=>?_;simp at h1;rw[List.getElem_map,List.getElem_range];exact hn.idxOf_getElem i h1
  rw[this]
 ·rw[List.map_map];refine(List.map_congr_left fun y hy=>?_).trans (List.map_id _);have hy':=h.mem_iff.1 hy;have hi:=List.idxOf_lt_length_of_mem hy';simp[List.getD_eq_getElem?_getD,List.getElem?_eq_getElem hi]
theorem aj9 {G:List UInt8}{p:List Nat}(hG:G.length<=5)(hp:p∈ords G.length):(p.map fun i=>G.getD i 0).Perm G:=by
 obtain⟨p1,p2,p3⟩:=ack _ hG p hp;have hpr:p.Perm (List.range G.length):=(List.perm_ext_iff_of_nodup p2 List.nodup_range).2 fun i=>by rw[p3];simp
 have:(List.range G.length).map (fun i=>G.getD i 0)=G:=by
  refine List.ext_getElem (by simp) fun i h1 h2=>?_;simp[List.getD_eq_getElem?_getD,List.getElem?_eq_getElem h2]
 have h:=hpr.map fun i=>G.getD i 0;rw[this]at h;exact h
theorem aqw {nm:UInt8->Bool}(hn:Nm nm){a b:List Tm}(h:a.Perm b)(hok:∀t∈a,t.ok nm=true):srtT a=srtT b:=by
 have tr:∀x y z:Tm,decide (x.pr<=y.pr)=true->decide (y.pr<=z.pr)=true->decide (x.pr<=z.pr)=true:=fun x y z h1 h2=>by
  simp only[decide_eq_true_eq]at *;exact List.le_trans h1 h2
 have tt:∀x y:Tm,(decide (x.pr<=y.pr) || decide (y.pr<=x.pr))=true:=fun x y=>by
  simp only[Bool.or_eq_true,decide_eq_true_eq];exact List.le_total _ _
 have s1:=List.pairwise_mergeSort (le:=fun a b:Tm=>decide (a.pr<=b.pr)) tr tt a;have s2:=List.pairwise_mergeSort (le:=fun a b:Tm=>decide (a.pr<=b.pr)) tr tt b;have hp:(srtT a).Perm (srtT b):=((List.mergeSort_perm a _).trans h).trans (List.mergeSort_perm b _).symm;refine List.Perm.eq_of_pairwise (fun x y hx hy h1 h2=>?_) s1 s2 hp;simp only[decide_eq_true_eq]at h1 h2;have hx':=hok x ((aaV _ _).1 hx);have hy':=hok y (h.mem_iff.2 ((aaV _ _).1 hy));exact(acb hn x y [] [] hx' hy' (by rw[List.le_antisymm h1 h2])).1
structure Lp (s s':Tm):Prop where
 fro:(lvl s).1.Perm (lvl s').1
 thr:(lvl s).2.Perm (lvl s').2
theorem Lp.refl (s:Tm):Lp s s:=⟨.refl _,.refl _⟩
theorem Lp.trans {a b c:Tm}(h:Lp a b)(k:Lp b c):Lp a c:=⟨h.fro.trans k.fro,h.thr.trans k.thr⟩
theorem Lp.bnd {s s':Tm}(h:Lp s s'):s.bnd.Perm s'.bnd:=
 ((adI s).trans (h.fro.append (h.thr.flatMap_right _))).trans (adI s').symm
theorem Lp.fl {s s':Tm}(h:Lp s s')(k:Nat):fl s k=fl s' k:=by
 unfold T1.fl fcnt;rw[h.fro.length_eq,ah8,ah8,h.thr.all_eq]
theorem Lp.ownc {s s':Tm}(h:Lp s s'):ownc s=ownc s':=by
 rw[ag3,ag3 s',h.fro.length_eq,ah9 h.thr]
theorem Lp.mid {s s':Tm}(h:Lp s s')(n:Nat)(L:UInt8->UInt8)(left:List UInt8)(hn:s.size<=n+1)(hf:T1.fl s left.length=true)(hl:∀l∈left,nmL l=true)(hL:∀v,v∈s.free->nmL (L v)=true)(hnd:s.bnd.Nodup) : T1.mid (n+1) false L left s=T1.mid (n+1) false L left s':=by
 obtain⟨f1,f2,f3⟩:=adk hf;have hnG:=(arE hnd).1;have hnG':=h.fro.nodup_iff.1 hnG;have hlen:(left.drop (lvl s).1.length).length=left.length - (lvl s).1.length:=List.length_drop;have hl2:∀l∈left.drop (lvl s).1.length,nmL l=true:=fun l h=>hl l (List.mem_of_mem_drop h);unfold T1.mid
 by_cases hU:(lvl s).2=[]
 ·have hU':(lvl s').2=[]:=by have:=h.thr;rw[hU]at this;exact this.symm.eq_nil
  rw[hU,hU'];rfl
 ·have hU':¬(lvl s').2=[]:=fun e=>hU (by have:=h.thr;rw[e]at this;exact this.eq_nil);have e1:(lvl s).2.isEmpty=false:=by simpa using hU
  have e2:(lvl s').2.isEmpty=false:=by simpa using hU'
  rw[e1,e2];simp only[Bool.false_eq_true,if_false];rw[<-h.fro.length_eq];congr 1
  let C (s:Tm) (k:Nat):List (List Tm):=(ords k).map fun o=>srtT ((lvl s).2.map (thI (T1.mid n false) (updL L (o.map fun i=>(lvl s).1.getD i 0) left) (left.drop k)))
  have hC:∀(s:Tm) (k:Nat),((ords k).map fun o=>joinR .par (srtT ((lvl s).2.map (thI (T1.mid n false) (updL L (o.map fun i=>(lvl s).1.getD i 0) left) (left.drop k)))))=(C s k).map (joinR .par):=fun s k=>by
   show _=List.map _ (List.map _ _);rw[List.map_map];rfl
  rw[hC,hC]
  have hok:∀p∈ords (lvl s).1.length,∀T∈(lvl s).2,(thI (T1.mid n false) (updL L (p.map fun i=>(lvl s).1.getD i 0) left) (left.drop (lvl s).1.length) T).ok nmL=true:=fun p hp T hT=>
   anV (T1.mid n false) n (aid n false) _ _ T (by have:=aa8 s T hT;omega) (abb s T hT) (by rw[hlen];exact f3 T hT) hl2
    (anU hl hL (by rw[List.length_map];have:=(ack _ f1 p hp).1;omega) (adL (ack _ f1 p hp).2.2) hT)
  have hne:C s (lvl s).1.length≠[]:=fun e=>acT _ f1 (List.map_eq_nil_iff.1 e);have hne':C s' (lvl s).1.length≠[]:=fun e=>acT _ f1 (List.map_eq_nil_iff.1 e)
  have hcok:∀c∈C s (lvl s).1.length,c.length=(lvl s).2.length/\∀t∈c,t.ok nmL=true:=fun c hc=>by
   obtain⟨p,hp,rfl⟩:=List.mem_map.1 hc;refine⟨by unfold srtT;rw[List.length_mergeSort,List.length_map],fun t ht=>?_⟩;obtain⟨T,hT,rfl⟩:=List.mem_map.1 ((aaV _ _).1 ht);exact hok p hp T hT
  have hsame:∀p∈ords (lvl s).1.length,∀p':List Nat,(p'.map fun i=>(lvl s').1.getD i 0)=(p.map fun i=>(lvl s).1.getD i 0)->
    srtT ((lvl s).2.map (thI (T1.mid n false) (updL L (p.map fun i=>(lvl s).1.getD i 0) left) (left.drop (lvl s).1.length)))=srtT ((lvl s').2.map (thI (T1.mid n false) (updL L (p'.map fun i=>(lvl s').1.getD i 0) left) (left.drop (lvl s).1.length))):=fun p hp p' e=>by
   rw[e];refine aqw aa2 (h.thr.map _) fun t ht=>?_;obtain⟨T,hT,rfl⟩:=List.mem_map.1 ht;exact hok p hp T hT
  have hmem:∀c,c∈C s (lvl s).1.length↔c∈C s' (lvl s).1.length:=fun c=>by
   constructor
   ·intro hc;obtain⟨p,hp,rfl⟩:=List.mem_map.1 hc;obtain⟨p',hp',e⟩:=aj8 hnG' ((aj9 f1 hp).trans h.fro);exact List.mem_map.2 ⟨p',by rw[h.fro.length_eq];exact hp',(hsame p hp p' e).symm⟩
   ·intro hc;obtain⟨p',hp',rfl⟩:=List.mem_map.1 hc;have hp2:p'∈ords (lvl s').1.length:=by rw[<-h.fro.length_eq];exact hp'
    obtain⟨p,hp,e⟩:=aj8 hnG ((aj9 (by rw[<-h.fro.length_eq];exact f1) hp2).trans h.fro.symm);exact List.mem_map.2 ⟨p,hp,hsame p hp p' e.symm⟩
  have a1:=afe aa2 _ _ _ hne hne (fun c=>Iff.rfl) hcok;have a2:=afe aa2 _ _ _ hne hne' hmem hcok;exact a1.symm.trans a2
theorem aj_ (n:Nat):∀(m:Nat) (once:Bool) (L:UInt8->UInt8) (left:List UInt8) (s:Tm),s.size<=n->s.size<=m->mid n once L left s=mid m once L left s:=by
 induction n with
 | zero=>intro m once L left s h;have:=aaq s;omega
 | succ n ih=>
  intro m once L left s hn hm
  cases m with
  | zero=>have:=aaq s;omega
  | succ m=>
   have hth:∀(L':UInt8->UInt8) (lf:List UInt8) (T:Tm),T∈(lvl s).2->thI (mid n once) L' lf T=thI (mid m once) L' lf T:=by
    intro L' lf T hT;have hsz:=aa8 s T hT;have hk:=abb s T hT
    cases T with
    | nil=>exact absurd rfl hk.2.2
    | par p q=>exact absurd rfl (hk.1 p q)
    | own x p=>exact absurd rfl (hk.2.1 x p)
    | snd a b p=>simp only[Tm.size]at hsz;simp only[thI];rw[ih m once _ _ p (by omega) (by omega)]
    | tau p=>simp only[Tm.size]at hsz;simp only[thI];rw[ih m once _ _ p (by omega) (by omega)]
    | rep p=>simp only[Tm.size]at hsz;simp only[thI];rw[ih m once _ _ p (by omega) (by omega)]
    | mat a b p=>simp only[Tm.size]at hsz;simp only[thI];rw[ih m once _ _ p (by omega) (by omega)]
    | rcv a x p=>simp only[Tm.size]at hsz;simp only[thI];rw[ih m once _ _ p (by omega) (by omega)]
    | sum p q=>
     have e1:∀f,thI f L' lf (.sum p q)=joinR .sum (srtT ((smds (.sum p q)).map (f L' lf))):=fun f=>rfl;rw[e1,e1];congr 2;refine List.map_congr_left fun r hr=>?_
     have hrs:r.size<(Tm.sum p q).size:=by
      simp only[smds,lma]at hr;simp only[Tm.size];rcases hr with hr|hr
      ·have:=aaG p r hr;omega
      ·have:=aaG q r hr;omega
     exact ih m once _ _ r (by omega) (by omega)
   unfold mid;have:∀o:List Nat,(lvl s).2.map (thI (mid n once) (updL L (o.map fun i=>(lvl s).1.getD i 0) left) (left.drop (lvl s).1.length))=(lvl s).2.map (thI (mid m once) (updL L (o.map fun i=>(lvl s).1.getD i 0) left) (left.drop (lvl s).1.length)):=fun o=>List.map_congr_left fun T hT=>hth _ _ T hT;simp only[this]
inductive Cg:Tm->Tm->Prop where
 | refl (t:Tm):Cg t t
 | trans {a b c:Tm}:Cg a b->Cg b c->Cg a c
 | comm (p q:Tm):Cg (.par p q) (.par q p)
 | assoc (p q r:Tm):Cg (.par (.par p q) r) (.par p (.par q r))
 | assoc' (p q r:Tm):Cg (.par p (.par q r)) (.par (.par p q) r)
 | nil (p:Tm):Cg (.par p .nil) p
 | nil' (p:Tm):Cg p (.par p .nil)
 | swap (x y:UInt8) (p:Tm):x≠y->Cg (.own x (.own y p)) (.own y (.own x p))
 | par {p p' q q':Tm}:Cg p p'->Cg q q'->Cg (.par p q) (.par p' q')
 | own (x:UInt8) {p p':Tm}:Cg p p'->Cg (.own x p) (.own x p')
theorem adt {p q:Tm}{E:UInt8->UInt8->Prop}{s:Tm}(h:Sm (.par p q) E s):∃p' q',Sm p E p'/\Sm q E q'/\lvl s=((lvl p').1++(lvl q').1,(lvl p').2++(lvl q').2):=by
 unfold Sm at h
 split at h
 ·rename_i hp;exact⟨.nil,s,ajL p E hp,h,by simp[lvl]⟩
 ·split at h
  ·rename_i hp hq;exact⟨s,.nil,h,ajL q E hq,by simp[lvl]⟩
  ·obtain⟨p',q',rfl,h1,h2⟩:=h;exact⟨p',q',h1,h2,rfl⟩
theorem afn {p q:Tm}{E:UInt8->UInt8->Prop}{p' q':Tm}(h1:Sm p E p')(h2:Sm q E q'):∃s,Sm (.par p q) E s/\lvl s=((lvl p').1++(lvl q').1,(lvl p').2++(lvl q').2):=by
 by_cases hp:p.dead=true
 ·have e:=aef p E p' hp h1;subst e;refine⟨q',?_,by simp[lvl]⟩;unfold Sm;rw[if_pos hp];exact h2
 ·by_cases hq:q.dead=true
  ·have e:=aef q E q' hq h2;subst e;refine⟨p',?_,by simp[lvl]⟩;unfold Sm;rw[if_neg hp,if_pos hq];exact h1
  ·refine⟨.par p' q',?_,rfl⟩;unfold Sm;rw[if_neg hp,if_neg hq];exact⟨p',q',rfl,h1,h2⟩
theorem ajf {s s':Tm}{a b a' b'}(h:lvl s=(a,b))(h':lvl s'=(a',b'))(k1:a.Perm a')(k2:b.Perm b'):Lp s s':=⟨by rw[h,h'];exact k1,by rw[h,h'];exact k2⟩
theorem aw4 {s p':Tm}{a b:List UInt8}{c d:List Tm}(h:lvl s=(a++(lvl p').1++b,c++(lvl p').2++d))(hn:s.bnd.Nodup):p'.bnd.Nodup:=by
 have h1:=(adI s).nodup_iff.1 hn;rw[h]at h1;refine(adI p').nodup_iff.2 (h1.sublist ?_);simp only[List.flatMap_append];exact List.Sublist.append ((List.sublist_append_right _ _).trans (List.sublist_append_left _ _)) ((List.sublist_append_right _ _).trans (List.sublist_append_left _ _))
theorem aqx {E:UInt8->UInt8->Prop}{x y x' y':UInt8}(h:x≠y)(h':x'≠y'):∀u v,bdE (bdE E x x') y y' u v->bdE (bdE E y y') x x' u v:=by
 rintro u v (⟨h1,h2⟩|⟨h1,h2,h3⟩)
 ·subst h1 h2;exact .inr ⟨fun e=>h e.symm,fun e=>h' e.symm,.inl ⟨rfl,rfl⟩⟩
 ·rcases h3 with⟨a1,a2⟩|⟨a1,a2,a3⟩
  ·exact .inl ⟨a1,a2⟩
  ·exact .inr ⟨a1,a2,.inr ⟨h1,h2,a3⟩⟩
structure CgK (t t':Tm):Prop where
 dead:t.dead=t'.dead
 usd:∀z,z∈t.usd↔z∈t'.usd
 sm:∀E s,s.bnd.Nodup->Sm t E s->∃s',Sm t' E s'/\Lp s s'
theorem Cg.keep {t t':Tm}(h:Cg t t'):CgK t t':=by
 induction h with
 | refl t=>exact⟨rfl,fun _=>Iff.rfl,fun E s _ h=>⟨s,h,.refl _⟩⟩
 | trans _ _ ih ih2=>
  refine⟨ih.dead.trans ih2.dead,fun z=>(ih.usd z).trans (ih2.usd z),fun E s hn h=>?_⟩;obtain⟨s1,h1,l1⟩:=ih.sm E s hn h;obtain⟨s2,h2,l2⟩:=ih2.sm E s1 (l1.bnd.nodup_iff.1 hn) h1;exact⟨s2,h2,l1.trans l2⟩
 | comm p q=>
  refine⟨by simp[Tm.dead,Bool.and_comm],fun z=>by rw[mu_par,mu_par];exact Or.comm,fun E s hn h=>?_⟩;obtain⟨p',q',h1,h2,e⟩:=adt h;obtain⟨s',h3,e'⟩:=afn h2 h1;exact⟨s',h3,ajf e e' List.perm_append_comm List.perm_append_comm⟩
 | assoc p q r=>
  refine⟨by simp[Tm.dead,Bool.and_assoc],fun z=>by simp only[mu_par];exact or_assoc,fun E s hn h=>?_⟩;obtain⟨a,r',h1,h2,e⟩:=adt h;obtain⟨p',q',h3,h4,e2⟩:=adt h1;obtain⟨b,h5,e3⟩:=afn h4 h2;obtain⟨s',h6,e4⟩:=afn h3 h5;exact⟨s',h6,ajf e e4 (by rw[e2,e3];simp) (by rw[e2,e3];simp)⟩
 | assoc' p q r=>
  refine⟨by simp[Tm.dead,Bool.and_assoc],fun z=>by simp only[mu_par];exact or_assoc.symm,fun E s hn h=>?_⟩;obtain⟨p',a,h1,h2,e⟩:=adt h;obtain⟨q',r',h3,h4,e2⟩:=adt h2;obtain⟨b,h5,e3⟩:=afn h1 h3;obtain⟨s',h6,e4⟩:=afn h5 h4;exact⟨s',h6,ajf e e4 (by rw[e2,e3];simp) (by rw[e2,e3];simp)⟩
 | nil p=>
  refine⟨by simp[Tm.dead],fun z=>by rw[mu_par];simp[Tm.usd],fun E s hn h=>?_⟩;obtain⟨p',a,h1,h2,e⟩:=adt h;have ea:=aef .nil E a rfl h2;subst ea;exact⟨p',h1,ajf e rfl (by simp[lvl]) (by simp[lvl])⟩
 | nil' p=>
  refine⟨by simp[Tm.dead],fun z=>by rw[mu_par];simp[Tm.usd],fun E s hn h=>?_⟩;obtain⟨s',h3,e'⟩:=afn h (ajL .nil E rfl);exact⟨s',h3,ajf rfl e' (by simp[lvl]) (by simp[lvl])⟩
 | swap x y p hxy=>
  refine⟨by simp[Tm.dead],fun z=>by simp only[mu_own];grind,fun E s hn h=>?_⟩
  by_cases hx:x∈p.usd
  ·have hx2:x∈(Tm.own y p).usd:=(mu_own _ _ _).2 ⟨hx,hxy⟩;unfold Sm at h;rw[if_pos hx2]at h;obtain⟨x',p1,rfl,h⟩:=h
   by_cases hy:y∈p.usd
   ·unfold Sm at h;rw[if_pos hy]at h;obtain⟨y',p',rfl,h⟩:=h
    have hn':x'≠y':=by
     simp only[Tm.bnd,List.nodup_cons,List.mem_cons]at hn;exact fun e=>hn.1 (.inl e)
    refine⟨.own y' (.own x' p'),?_,ajf (lvl.eq_2 _ _) (lvl.eq_2 _ _) (List.Perm.swap _ _ _) (.refl _)⟩;unfold Sm;rw[if_pos ((mu_own _ _ _).2 ⟨hy,hxy.symm⟩)];refine⟨y',.own x' p',rfl,?_⟩;unfold Sm;rw[if_pos hx];exact⟨x',p',rfl,aaL p _ _ p' (fun u v _=>aqx hxy hn' u v) h⟩
   ·unfold Sm at h;rw[if_neg hy]at h;refine⟨.own x' p1,?_,.refl _⟩;unfold Sm;rw[if_neg (fun e=>hy ((mu_own _ _ _).1 e).1)];unfold Sm;rw[if_pos hx];exact⟨x',p1,rfl,h⟩
  ·unfold Sm at h;rw[if_neg (fun e=>hx ((mu_own _ _ _).1 e).1)]at h
   by_cases hy:y∈p.usd
   ·unfold Sm at h;rw[if_pos hy]at h;obtain⟨y',p',rfl,h⟩:=h;refine⟨.own y' p',?_,.refl _⟩;unfold Sm;rw[if_pos ((mu_own _ _ _).2 ⟨hy,hxy.symm⟩)];refine⟨y',p',rfl,?_⟩;unfold Sm;rw[if_neg hx];exact h
   ·unfold Sm at h;rw[if_neg hy]at h;refine⟨s,?_,.refl _⟩;unfold Sm;rw[if_neg (fun e=>hy ((mu_own _ _ _).1 e).1)];unfold Sm;rw[if_neg hx];exact h
 | par h1 h2 ih ih2=>
  refine⟨by simp[Tm.dead,ih.dead,ih2.dead],fun z=>by rw[mu_par,mu_par,ih.usd,ih2.usd],fun E s hn h=>?_⟩;obtain⟨p',q',h1,h2,e⟩:=adt h;obtain⟨p2,k1,l1⟩:=ih.sm E p' (aw4 (a:=[]) (c:=[]) (by rw[e];rfl) hn) h1;obtain⟨q2,k2,l2⟩:=ih2.sm E q' (aw4 (a:=(lvl p').1) (b:=[]) (c:=(lvl p').2) (d:=[]) (by rw[e];simp) hn) h2;obtain⟨s',h3,e'⟩:=afn k1 k2;exact⟨s',h3,ajf e e' (l1.fro.append l2.fro) (l1.thr.append l2.thr)⟩
 | own x h1 ih=>
  refine⟨ih.dead,fun z=>by rw[mu_own,mu_own,ih.usd],fun E s hn h=>?_⟩;unfold Sm at h
  split at h
  ·rename_i hx
   obtain⟨x',p',rfl,h⟩:=h;obtain⟨p2,k1,l1⟩:=ih.sm _ p' (List.nodup_cons.1 hn).2 h;refine⟨.own x' p2,?_,⟨l1.fro.cons x',l1.thr⟩⟩;unfold Sm;rw[if_pos ((ih.usd x).1 hx)];exact⟨x',p2,rfl,k1⟩
  ·rename_i hx
   obtain⟨p2,k1,l1⟩:=ih.sm _ s hn h;refine⟨p2,?_,l1⟩;unfold Sm;rw[if_neg (fun e=>hx ((ih.usd x).2 e))];exact k1
theorem as0 (t:Tm):∀(E:UInt8->UInt8->Prop) (s:Tm),Sm t E s->∀v,v∈s.free->∃u,u∈t.usd/\E u v:=by
 induction t with
 | nil=>intro E s h v hv;have h':s=.nil:=h;subst h';simp[Tm.free]at hv
 | snd a b p ih=>
  rintro E s ⟨a',b',p',rfl,h1,h2,h3⟩ v hv;rw[mf_snd]at hv;rcases hv with rfl|rfl|hv
  ·exact⟨a,by rw[mu_snd];simp,h1⟩
  ·exact⟨b,by rw[mu_snd];simp,h2⟩
  ·obtain⟨u,hu,he⟩:=ih E p' h3 v hv;exact⟨u,by rw[mu_snd];simp[hu],he⟩
 | rcv a x p ih=>
  rintro E s ⟨a',x',p',rfl,h1,h3⟩ v hv;rw[mf_rcv]at hv;rcases hv with rfl|⟨hv,hx⟩
  ·exact⟨a,by rw[mu_rcv];simp,h1⟩
  ·obtain⟨u,hu,he⟩:=ih _ p' h3 v hv;rcases he with⟨_,e⟩|⟨e1,_,e3⟩
   ·exact absurd e hx
   ·exact⟨u,by rw[mu_rcv];exact .inr ⟨hu,e1⟩,e3⟩
 | tau p ih=>
  rintro E s ⟨p',rfl,h3⟩ v hv;rw[mf_tau]at hv;obtain⟨u,hu,he⟩:=ih E p' h3 v hv;exact⟨u,by rw[mu_tau];exact hu,he⟩
 | sum p q ih ih2=>
  intro E s h v hv;have k1:(∃u,u∈p.usd/\E u v)->∃u,u∈(Tm.sum p q).usd/\E u v:=fun ⟨u,hu,he⟩=>⟨u,by rw[mu_sum];exact .inl hu,he⟩;have k2:(∃u,u∈q.usd/\E u v)->∃u,u∈(Tm.sum p q).usd/\E u v:=fun ⟨u,hu,he⟩=>⟨u,by rw[mu_sum];exact .inr hu,he⟩;unfold Sm at h
  split at h
  ·exact k2 (ih2 E s h v hv)
  ·split at h
   ·exact k1 (ih E s h v hv)
   ·obtain⟨p',q',rfl,h1,h2⟩:=h;rw[mf_sum]at hv;exact hv.elim (fun hv=>k1 (ih E p' h1 v hv)) (fun hv=>k2 (ih2 E q' h2 v hv))
 | par p q ih ih2=>
  intro E s h v hv;have k1:(∃u,u∈p.usd/\E u v)->∃u,u∈(Tm.par p q).usd/\E u v:=fun ⟨u,hu,he⟩=>⟨u,by rw[mu_par];exact .inl hu,he⟩;have k2:(∃u,u∈q.usd/\E u v)->∃u,u∈(Tm.par p q).usd/\E u v:=fun ⟨u,hu,he⟩=>⟨u,by rw[mu_par];exact .inr hu,he⟩;unfold Sm at h
  split at h
  ·exact k2 (ih2 E s h v hv)
  ·split at h
   ·exact k1 (ih E s h v hv)
   ·obtain⟨p',q',rfl,h1,h2⟩:=h;rw[mf_par]at hv;exact hv.elim (fun hv=>k1 (ih E p' h1 v hv)) (fun hv=>k2 (ih2 E q' h2 v hv))
 | own x p ih=>
  intro E s h v hv;unfold Sm at h
  split at h
  ·obtain⟨x',p',rfl,h1⟩:=h;rw[mf_own]at hv;obtain⟨u,hu,he⟩:=ih _ p' h1 v hv.1;rcases he with⟨_,e⟩|⟨e1,_,e3⟩
   ·exact absurd e hv.2
   ·exact⟨u,by rw[mu_own];exact⟨hu,e1⟩,e3⟩
  ·rename_i hx
   obtain⟨u,hu,he⟩:=ih E s h v hv;exact⟨u,by rw[mu_own];exact⟨hu,fun e=>hx (e▸hu)⟩,he⟩
 | mat a b p ih=>
  intro E s h v hv;unfold Sm at h
  split at h
  ·rename_i hab
   obtain⟨u,hu,he⟩:=ih E s h v hv;exact⟨u,by rw[mu_mat];exact .inl ⟨hab,hu⟩,he⟩
  ·rename_i hab
   split at h
   ·subst h;simp[Tm.free]at hv
   ·rename_i hd
    have hd':p.dead=false:=by simpa using hd
    obtain⟨a',b',p',rfl,h1,h2,h3⟩:=h;rw[mf_mat]at hv;rcases hv with rfl|rfl|hv
    ·exact⟨a,by rw[mu_mat];exact .inr ⟨hab,hd',.inl rfl⟩,h1⟩
    ·exact⟨b,by rw[mu_mat];exact .inr ⟨hab,hd',.inr (.inl rfl)⟩,h2⟩
    ·obtain⟨u,hu,he⟩:=ih E p' h3 v hv;exact⟨u,by rw[mu_mat];exact .inr ⟨hab,hd',.inr (.inr hu)⟩,he⟩
 | rep p ih=>
  intro E s h v hv;unfold Sm at h
  split at h
  ·subst h;simp[Tm.free]at hv
  ·obtain⟨p',rfl,h1⟩:=h;rw[mf_rep]at hv;obtain⟨u,hu,he⟩:=ih E p' h1 v hv;exact⟨u,by rw[mu_rep];exact hu,he⟩
theorem avt {t:Tm}{E:UInt8->UInt8->Prop}{s:Tm}(h:Sm t E s)(hd:t.dead=false):s≠.nil:=fun e=>by
 subst e;exact anB t E .nil hd h rfl
theorem aka (t:Tm):∀(E:UInt8->UInt8->Prop) (s:Tm),Sm t E s->Clean s:=by
 induction t with
 | nil=>intro E s h;have h':s=.nil:=h;subst h';trivial
 | snd a b p ih=>rintro E s ⟨a',b',p',rfl,h1,h2,h3⟩;exact ih E p' h3
 | rcv a x p ih=>rintro E s ⟨a',x',p',rfl,h1,h3⟩;exact ih _ p' h3
 | tau p ih=>rintro E s ⟨p',rfl,h3⟩;exact ih E p' h3
 | sum p q ih ih2=>
  intro E s h;unfold Sm at h
  split at h
  ·exact ih2 E s h
  ·split at h
   ·exact ih E s h
   ·obtain⟨p',q',rfl,h1,h2⟩:=h;exact⟨ih E p' h1,ih2 E q' h2⟩
 | par p q ih ih2=>
  intro E s h;unfold Sm at h
  split at h
  ·exact ih2 E s h
  ·split at h
   ·exact ih E s h
   ·rename_i hp hq
    obtain⟨p',q',rfl,h1,h2⟩:=h;exact⟨avt h1 (by simpa using hp),ih E p' h1,ih2 E q' h2⟩
 | own x p ih=>
  intro E s h;unfold Sm at h
  split at h
  ·rename_i hx
   obtain⟨x',p',rfl,h1⟩:=h;refine⟨avt h1 ?_,ih _ p' h1⟩
   cases hd:p.dead with
   | false=>rfl
   | true=>rw[dead_usd p hd]at hx;simp at hx
  ·exact ih E s h
 | mat a b p ih=>
  intro E s h;unfold Sm at h
  split at h
  ·exact ih E s h
  ·split at h
   ·subst h;trivial
   ·obtain⟨a',b',p',rfl,h1,h2,h3⟩:=h;exact ih E p' h3
 | rep p ih=>
  intro E s h;unfold Sm at h
  split at h
  ·subst h;trivial
  ·obtain⟨p',rfl,h1⟩:=h;exact ih E p' h1
def nfM (n:Nat)(s:Tm)(left:List UInt8):Option Tm:=
 if 8<ownc s\/fl s left.length=false then none else
 if (mid n false id left s).ok nmL=true/\(mid n false id left s).pr.length<=300/\(mid n false id left s).size<=60 then some (mid n false id left s) else none
theorem arL {t:Tm}(hs:t.size<=121)(hf:FitT t){E:UInt8->UInt8->Prop}{s:Tm}(cx:Cx t E s id t.usd)(hlet:∀l∈othL t.usd,nmL l=true)(hfr:∀v,v∈s.free->nmL v=true)(ho:∀n once,s.size<=n->fl s (othL t.usd).length=true->ownc (mid n once id (othL t.usd) s)=ownc s):nfS t=nfM t.size s (othL t.usd):=by
 have g:=fun once=>anI t.size once t t.usd s E id (nl _) hf cx;have hsz:s.size<=t.size:=(ac8 t _ _ cx.sm).2.2;unfold nfS nfM
 cases hfl:fl s (othL t.usd).length with
 | false=>
  rw[if_pos (show 8<ownc s\/false=false from .inr rfl)]
  split
  ·rfl
  ·split
   ·rfl
   ·rename_i h1 h2
    rcases (g false).2 hfl with h3|h3
    ·exact absurd h3 h2
    ·rw[if_neg (by rw[h3];simp)]
 | true=>
  have e1:=aeg (g true) hfl;have e2:=aeg (g false) hfl;have o1:=aid t.size true id (othL t.usd) s hsz hfl hlet hfr;rw[e1,e2];simp only[anJ _ (ag_ _ o1),ho _ _ hsz hfl,Bool.false_eq_true,false_or,if_false,Bool.true_eq_false,or_false]
theorem awC {t t':Tm}(hg:Cg t t')(h:t.ok nmL=true)(h':t'.ok nmL=true)(hs:t.size<=121)(hs':t'.size<=121)(hf:FitT t)(hf':FitT t'):nfS t=nfS t':=by
 obtain⟨E,cx⟩:=anY h hs;have kp:=hg.keep;obtain⟨s',hm,lp⟩:=kp.sm E _ cx.nd cx.sm;have hu:t.usd=t'.usd:=acP (abe _) (abe _) kp.usd
 have cx':Cx t' E s' id t'.usd:=⟨hm,fun z hz=>ach (hz.elim ((okL_names h').1 z) ((okL_names h').2 z)),lp.bnd.nodup_iff.1 cx.nd,fun u v he=>by
  obtain⟨a1,a2,a3,a4⟩:=cx.rel u v he
  exact⟨a1,fun hv=>a2 (lp.bnd.mem_iff.2 hv),hu▸a3,a4⟩,hs'⟩
 have hlet:∀l∈othL t.usd,nmL l=true:=fun l hl=>(nmL_iff l).2 ((abL _ _).1 hl).1
 have hfr:∀v,v∈(numb t).free->nmL v=true:=fun v hv=>by
  obtain⟨w,hw,e⟩:=aeM t.sim id marksN (by have:=acQ t.sim;have:=abB t;rw[aaY];omega) v hv;rw[e];rw[sim_usd]at hw;exact(okL_names h).1 _ (usd_free t _ hw)
 have hfr':∀v,v∈s'.free->nmL v=true:=fun v hv=>by
  obtain⟨u,hu',he⟩:=as0 t' E s' hm v hv;have e:u=v:=(cx'.rel u v he).1;exact(okL_names h').1 _ (usd_free t' _ (e▸hu'))
 have hsz:(numb t).size<=t.size:=(ac8 t _ _ cx.sm).2.2;have hsz':s'.size<=t'.size:=(ac8 t' _ _ cx'.sm).2.2;have hlet':∀l∈othL t'.usd,nmL l=true:=hu▸hlet;rw[arL hs hf cx hlet hfr fun n once h1 h2=>ai8 n once id _ _ h1 (aka t E _ cx.sm) h2];rw[arL hs' hf' cx' hlet' hfr' fun n once h1 h2=>ai8 n once id _ _ h1 (aka t' E _ hm) h2];unfold nfM;rw[<-hu,lp.ownc,lp.fl]
 cases hfl:fl s' (othL t.usd).length with
 | false=>rw[if_pos (.inr rfl),if_pos (.inr rfl)]
 | true=>
  have e1:mid t.size false id (othL t.usd) (numb t)=mid (t.size+t'.size+1) false id (othL t.usd) (numb t):=aj_ _ _ _ _ _ _ hsz (by omega);have e2:mid t'.size false id (othL t.usd) s'=mid (t.size+t'.size+1) false id (othL t.usd) s':=aj_ _ _ _ _ _ _ hsz' (by omega);rw[e1,e2,lp.mid (t.size+t'.size) id _ (by omega) (by rw[lp.fl];exact hfl) hlet hfr cx.nd]
set_option linter.unusedSimpArgs false
def Thd (T:Tm):Prop:=(∀p q,T≠.par p q)/\(∀x p,T≠.own x p)/\T≠.nil
def Tm.fro:Tm->List UInt8 × Tm
 | .own x p=>(x::p.fro.1,p.fro.2)
 | t=>([],t)
def Tm.pars:Tm->List Tm
 | .par p q=>p::q.pars
 | t=>[t]
def Tm.sumR:Tm->List Tm
 | .sum p q=>p::q.sumR
 | t=>[t]
def Tm.thrs (t:Tm):List Tm:=match t.fro.2 with
 | .nil=>[]
 | u=>u.pars
theorem aos {T:Tm}(h:Thd T):lvl T=([],[T]):=by
 cases T with
 | nil=>exact absurd rfl h.2.2
 | par p q=>exact absurd rfl (h.1 p q)
 | own x p=>exact absurd rfl (h.2.1 x p)
 | _=>rfl
theorem as1 {T:Tm}(h:Thd T):T.fro=([],T):=by
 cases T with
 | own x p=>exact absurd rfl (h.2.1 x p)
 | _=>rfl
theorem aqy {T:Tm}(h:Thd T):T.pars=[T]:=by
 cases T with
 | par p q=>exact absurd rfl (h.1 p q)
 | _=>rfl
theorem akb:∀l:List Tm,(∀T∈l,Thd T)->lvl (joinR .par l)=([],l)
 | [],_=>rfl
 | [a],h=>aos (h a (by simp))
 | a::b::l,h=>by
  have h1:=aos (h a (by simp));have h2:=akb (b::l) fun T hT=>h T (by simp[hT]);show ((lvl a).1++(lvl (joinR .par (b::l))).1,(lvl a).2++(lvl (joinR .par (b::l))).2)=_;rw[h1,h2];rfl
theorem akc (t:Tm):∀ls:List UInt8,lvl (wrapO ls t)=(ls++(lvl t).1,(lvl t).2)
 | []=>rfl
 | a::ls=>by
  have:=akc t ls;show (a::(lvl (wrapO ls t)).1,(lvl (wrapO ls t)).2)=_;rw[this];rfl
theorem ac_ (l:List Tm)(h:∀T∈l,Thd T):(joinR .par l).fro=([],joinR .par l):=by
 cases l with
 | nil=>rfl
 | cons a l=>
  cases l with
  | nil=>exact as1 (h a (by simp))
  | cons b l=>rfl
theorem acF (t:Tm):∀ls:List UInt8,(wrapO ls t).fro=(ls++t.fro.1,t.fro.2)
 | []=>rfl
 | a::ls=>by
  have:=acF t ls;show (a::(wrapO ls t).fro.1,(wrapO ls t).fro.2)=_;rw[this];rfl
theorem aik:∀l:List Tm,l≠[]->(∀T∈l,Thd T)->(joinR .par l).pars=l
 | [],h,_=>absurd rfl h
 | [a],_,h=>aqy (h a (by simp))
 | a::b::l,_,h=>by
  have:=aik (b::l) (by simp) fun T hT=>h T (by simp[hT]);show a::(joinR .par (b::l)).pars=_;rw[this]
theorem ajg (l:List Tm)(hl:l≠[])(h:∀T∈l,Thd T):joinR .par l≠.nil:=by
 cases l with
 | nil=>exact absurd rfl hl
 | cons a l=>
  cases l with
  | nil=>exact(h a (by simp)).2.2
  | cons b l=>intro e;cases e
theorem adT (ls:List UInt8)(l:List Tm)(h:∀T∈l,Thd T):(wrapO ls (joinR .par l)).thrs=l:=by
 unfold Tm.thrs;rw[acF,ac_ l h]
 by_cases hl:l=[]
 ·subst hl;rfl
 ·have h1:=ajg l hl h;have h2:=aik l hl h
  generalize joinR .par l=u at *
  cases u with
  | nil=>exact absurd rfl h1
  | _=>exact h2
def NotS (t:Tm):Prop:=∀p q,t≠.sum p q
theorem afo {t:Tm}(h:NotS t):smds t=[t]:=by
 cases t with
 | sum p q=>exact absurd rfl (h p q)
 | _=>rfl
theorem ail {t:Tm}(h:NotS t):t.sumR=[t]:=by
 cases t with
 | sum p q=>exact absurd rfl (h p q)
 | _=>rfl
theorem aim:∀l:List Tm,l≠[]->(∀t∈l,NotS t)->smds (joinR .sum l)=l/\(joinR .sum l).sumR=l
 | [],h,_=>absurd rfl h
 | [a],_,h=>⟨afo (h a (by simp)),ail (h a (by simp))⟩
 | a::b::l,_,h=>by
  obtain⟨h1,h2⟩:=aim (b::l) (by simp) fun T hT=>h T (by simp[hT]);constructor
  ·show smds a++smds (joinR .sum (b::l))=_;rw[afo (h a (by simp)),h1];rfl
  ·show a::(joinR .sum (b::l)).sumR=_;rw[h2]
def auc (T:Tm):Prop:=smds T=T.sumR
theorem aot (t:Tm):∀q∈smds t,NotS q:=by
 induction t with
 | sum p q ih ih2=>intro r hr;simp only[smds,lma]at hr;exact hr.elim (ih r) (ih2 r)
 | _=>intro r hr;simp only[smds,List.mem_singleton]at hr;subst hr;intro a b e;cases e
def Neat:Tm->Prop
 | .nil=>True
 | .snd _ _ p=>Neat p
 | .rcv _ _ p=>Neat p
 | .tau p=>Neat p
 | .sum p q=>Neat p/\Neat q
 | .par p q=>(p≠.nil/\q≠.nil)/\Neat p/\Neat q
 | .own _ p=>p≠.nil/\Neat p
 | .mat _ _ p=>Neat p
 | .rep p=>Neat p
theorem ada (t:Tm)(h:Neat t):Clean t:=by
 induction t with
 | nil=>trivial
 | snd a b p ih=>exact ih h
 | rcv a x p ih=>exact ih h
 | tau p ih=>exact ih h
 | sum p q ih ih2=>exact⟨ih h.1,ih2 h.2⟩
 | par p q ih ih2=>exact⟨h.1.1,ih h.2.1,ih2 h.2.2⟩
 | own x p ih=>exact⟨h.1,ih h.2⟩
 | mat a b p ih=>exact ih h
 | rep p ih=>exact ih h
theorem ahm (t:Tm):Neat t.sim:=by
 induction t with
 | nil=>trivial
 | snd a b p ih=>exact ih
 | rcv a x p ih=>exact ih
 | tau p ih=>exact ih
 | sum p q ih ih2=>
  unfold Tm.sim
  split
  ·exact ih2
  ·split
   ·exact ih
   ·exact⟨ih,ih2⟩
 | par p q ih ih2=>
  unfold Tm.sim
  split
  ·exact ih2
  ·split
   ·exact ih
   ·rename_i h1 h2;exact⟨⟨h1,h2⟩,ih,ih2⟩
 | own x p ih=>
  unfold Tm.sim
  split
  ·rename_i h;exact⟨fun e=>by rw[e]at h;simp[Tm.free]at h,ih⟩
  ·exact ih
 | mat a b p ih=>unfold Tm.sim;split<;>exact ih
 | rep p ih=>unfold Tm.sim;split<;>exact ih
theorem ahn (s:Tm):∀(f:UInt8->UInt8) (ns:List UInt8),Neat s->Neat (can s f ns):=by
 induction s with
 | nil=>intro f ns h;trivial
 | snd a b p ih=>intro f ns h;exact ih _ _ h
 | rcv a x p ih=>intro f ns h;exact ih _ _ h
 | tau p ih=>intro f ns h;exact ih _ _ h
 | mat a b p ih=>intro f ns h;exact ih _ _ h
 | rep p ih=>intro f ns h;exact ih _ _ h
 | sum p q ih ih2=>intro f ns h;exact⟨ih _ _ h.1,ih2 _ _ h.2⟩
 | par p q ih ih2=>intro f ns h;exact⟨⟨fun e=>h.1.1 (aff e),fun e=>h.1.2 (aff e)⟩,ih _ _ h.2.1,ih2 _ _ h.2.2⟩
 | own x p ih=>intro f ns h;exact⟨fun e=>h.1 (aff e),ih _ _ h.2⟩
theorem aho (s:Tm)(h:Neat s):∀T∈(lvl s).2,Neat T:=by
 induction s with
 | nil=>intro T hT;simp[lvl]at hT
 | own x p ih=>exact ih h.2
 | par p q ih ih2=>
  intro T hT;simp only[lvl,lma]at hT;exact hT.elim (ih h.2.1 T) (ih2 h.2.2 T)
 | _=>intro T hT;simp only[lvl,List.mem_singleton]at hT;rw[hT];exact h
theorem ain (s:Tm)(h:Neat s):∀q∈smds s,Neat q:=by
 induction s with
 | sum p q ih ih2=>
  intro T hT;simp only[smds,lma]at hT;exact hT.elim (ih h.1 T) (ih2 h.2 T)
 | _=>intro T hT;simp only[smds,List.mem_singleton]at hT;rw[hT];exact h
theorem as2 (x:Tm):srtT [x]=[x]:=by unfold srtT;exact List.mergeSort_singleton _
theorem akd (c:Tm->Tm->Tm)(l:List Tm)(h:2<=l.length):∃a b,joinR c l=c a b:=by
 match l with
 | []=>simp at h
 | [a]=>simp at h
 | a::b::l=>exact⟨_,_,rfl⟩
theorem adb (n:Nat)(L:UInt8->UInt8)(left:List UInt8)(s x:Tm)(h0:(lvl s).1=[])(h1:(lvl s).2=[s])(hx:∀o,thI (levI n) (updL L o left) (left.drop (lvl s).1.length) s=x->True) : ∃o,levI (n+1) L left s=thI (levI n) (updL L o left) (left.drop (lvl s).1.length) s:=by
 rw[abI];have hne:(visG ltU 200 (lvl s).1).map (candI n L left s)≠[]:=fun e=>acV ltU 199 _ (List.map_eq_nil_iff.1 e);obtain⟨o,_,e⟩:=List.mem_map.1 (ab6 _ hne);refine⟨o,?_⟩;rw[<-e];unfold candI;rw[h1,h0];simp only[List.length_nil,List.take_zero,List.map_cons,List.map_nil];rw[as2];rfl
theorem aou (n:Nat)(L:UInt8->UInt8)(left:List UInt8)(s:Tm)(hc:Neat s)(hf:fl s left.length=true)(hs:NotS s)(hn:s.size<=n):NotS (levI n L left s):=by
 cases n with
 | zero=>have:=aaq s;omega
 | succ n=>
  obtain⟨f1,f2,f3⟩:=adk hf
  have hfr:(lvl s).1≠[]->NotS (levI (n+1) L left s):=by
   intro h;rw[abI]
   cases hh:left.take (lvl s).1.length with
   | nil=>
    have:=congrArg List.length hh;rw[List.length_take,List.length_nil]at this
    have h0:0<(lvl s).1.length:=List.length_pos_iff.2 h;omega
   | cons a l=>intro p q e;cases e
  cases s with
  | nil=>rw[ajX];intro p q e;cases e
  | sum p q=>exact absurd rfl (hs p q)
  | own x p=>exact hfr (by simp[lvl])
  | snd a b p=>obtain⟨o,e⟩:=adb n L left (.snd a b p) .nil rfl rfl (fun _ _=>trivial);rw[e];intro p q e;cases e
  | rcv a x p=>obtain⟨o,e⟩:=adb n L left (.rcv a x p) .nil rfl rfl (fun _ _=>trivial);rw[e];intro p q e;cases e
  | tau p=>obtain⟨o,e⟩:=adb n L left (.tau p) .nil rfl rfl (fun _ _=>trivial);rw[e];intro p q e;cases e
  | rep p=>obtain⟨o,e⟩:=adb n L left (.rep p) .nil rfl rfl (fun _ _=>trivial);rw[e];intro p q e;cases e
  | mat a b p=>
   obtain⟨o,e⟩:=adb n L left (.mat a b p) .nil rfl rfl (fun _ _=>trivial);rw[e];intro p q e;simp only[thI]at e
   split at e<;>cases e
  | par p q=>
   by_cases h0:(lvl (.par p q)).1=[]
   ·have h1:1<=(lvl p).2.length:=List.length_pos_iff.2 (acU p (ada p hc.2.1) hc.1.1);have h2:1<=(lvl q).2.length:=List.length_pos_iff.2 (acU q (ada q hc.2.2) hc.1.2);rw[abI];have hne:(visG ltU 200 (lvl (.par p q)).1).map (candI n L left (.par p q))≠[]:=fun e=>acV ltU 199 _ (List.map_eq_nil_iff.1 e);obtain⟨o,_,e⟩:=List.mem_map.1 (ab6 _ hne);rw[<-e,h0];obtain⟨a,b,e2⟩:=akd .par (candI n L left (.par p q) o) (by rw[(afj n L left (.par p q) o).1];simp only[lvl,lla];omega);rw[e2];intro u v e3;cases e3
   ·exact hfr h0
theorem aio (p q:Tm):2<=(smds (.sum p q)).length:=by
 have h1:1<=(smds p).length:=List.length_pos_iff.2 (ahc p);have h2:1<=(smds q).length:=List.length_pos_iff.2 (ahc q);simp only[smds,lla];omega
theorem ake (n:Nat)(L:UInt8->UInt8)(left:List UInt8)(T:Tm)(hk:Thd T)(hc:Neat T)(htf:tf T left.length=true)(hn:T.size<=n+1):Thd (thI (levI n) L left T)/\auc (thI (levI n) L left T):=by
 have hsimple:∀t:Tm,Thd t->NotS t->Thd t/\auc t:=fun t h1 h2=>⟨h1,by unfold auc;rw[afo h2,ail h2]⟩
 cases T with
 | nil=>exact absurd rfl hk.2.2
 | par p q=>exact absurd rfl (hk.1 p q)
 | own x p=>exact absurd rfl (hk.2.1 x p)
 | snd a b p=>exact hsimple _ ⟨fun _ _ e=>(by cases e),fun _ _ e=>(by cases e),fun e=>(by cases e)⟩ (fun _ _ e=>(by cases e))
 | tau p=>exact hsimple _ ⟨fun _ _ e=>(by cases e),fun _ _ e=>(by cases e),fun e=>(by cases e)⟩ (fun _ _ e=>(by cases e))
 | rep p=>exact hsimple _ ⟨fun _ _ e=>(by cases e),fun _ _ e=>(by cases e),fun e=>(by cases e)⟩ (fun _ _ e=>(by cases e))
 | rcv a x p=>exact hsimple _ ⟨fun _ _ e=>(by cases e),fun _ _ e=>(by cases e),fun e=>(by cases e)⟩ (fun _ _ e=>(by cases e))
 | mat a b p=>
  simp only[thI]
  split
  ·exact hsimple _ ⟨fun _ _ e=>(by cases e),fun _ _ e=>(by cases e),fun e=>(by cases e)⟩ (fun _ _ e=>(by cases e))
  ·exact hsimple _ ⟨fun _ _ e=>(by cases e),fun _ _ e=>(by cases e),fun e=>(by cases e)⟩ (fun _ _ e=>(by cases e))
 | sum p q=>
  have hsm:=(adq (.sum p q) left.length).1 (by rw[ags];exact htf);have e1:thI (levI n) L left (.sum p q)=joinR .sum (srtT ((smds (.sum p q)).map (levI n L left))):=rfl;rw[e1];have hlen:2<=(srtT ((smds (.sum p q)).map (levI n L left))).length:=by rw[aci,List.length_map];exact aio p q
  have hnots:∀t∈srtT ((smds (.sum p q)).map (levI n L left)),NotS t:=fun t ht=>by
   obtain⟨r,hr,rfl⟩:=List.mem_map.1 ((aaV _ _).1 ht);refine aou n L left r (ain _ hc r hr) (hsm r hr) (aot _ r hr) ?_
   have:r.size<(Tm.sum p q).size:=by
    simp only[smds,lma]at hr;simp only[Tm.size];rcases hr with hr|hr
    ·have:=aaG p r hr;omega
    ·have:=aaG q r hr;omega
   omega
  obtain⟨h1,h2⟩:=aim _ (fun e=>by rw[e]at hlen;simp at hlen) hnots;refine⟨?_,by unfold auc;rw[h1,h2]⟩;obtain⟨a,b,e2⟩:=akd .sum _ hlen;rw[e2];exact⟨fun _ _ e=>(by cases e),fun _ _ e=>(by cases e),fun e=>(by cases e)⟩
def NfForm (r:Tm):Prop:=∃ls l,r=wrapO ls (joinR .par l)/\∀T∈l,Thd T/\auc T
theorem aov (n:Nat)(L:UInt8->UInt8)(left:List UInt8)(s:Tm)(hc:Neat s)(hf:fl s left.length=true)(hn:s.size<=n+1):NfForm (levI (n+1) L left s):=by
 obtain⟨f1,f2,f3⟩:=adk hf;rw[abI];have hne:(visG ltU 200 (lvl s).1).map (candI n L left s)≠[]:=fun e=>acV ltU 199 _ (List.map_eq_nil_iff.1 e);obtain⟨o,_,e⟩:=List.mem_map.1 (ab6 _ hne);refine⟨_,_,rfl,fun t ht=>?_⟩;rw[<-e]at ht;obtain⟨T,hT,rfl⟩:=List.mem_map.1 ((aaV _ _).1 ht);exact ake n _ _ T (abb s T hT) (aho s hc T hT) (by rw[List.length_drop];exact f3 T hT) (by have:=aa8 s T hT;omega)
theorem ahp {t r:Tm}(h:nfI t=some r):NfForm r:=by
 unfold nfI at h
 split at h
 ·cases h
 ·rename_i h1
  split at h
  ·cases h
   have hfl:fl (numb t) (othL t.usd).length=true:=by
    cases e:fl (numb t) (othL t.usd).length with
    | true=>rfl
    | false=>exact absurd (.inr e) h1
   obtain⟨m,hm⟩:∃m,t.size=m+1:=⟨t.size - 1,by have:=aaq t;omega⟩;have hsz:(numb t).size<=t.size:=by unfold numb;rw[acE];exact abB t
   rw[hm]at hsz ⊢;exact aov m id _ _ (ahn _ _ _ (ahm t)) hfl hsz
  ·cases h
theorem adU {r:Tm}(h:NfForm r):(lvl r).1=r.fro.1/\(lvl r).2=r.thrs/\∀T∈r.thrs,Thd T/\auc T:=by
 obtain⟨ls,l,rfl,hl⟩:=h;have h1:∀T∈l,Thd T:=fun T hT=>(hl T hT).1;rw[akc,akb l h1,acF,ac_ l h1,adT ls l h1];exact⟨rfl,rfl,hl⟩
def fnm (fr:List UInt8)(T:Tm):List UInt8:=fr.filter fun z=>decide (z∈T.free)
def shr (fr:List UInt8)(x y:Tm):Prop:=∃z,z∈fnm fr x/\z∈fnm fr y
def as3 (fr:List UInt8)(B:List Tm)(z:UInt8):Prop:=∃x∈B,z∈fnm fr x
structure Blk (fr:List UInt8) (B:List Tm):Prop where
 ne:B≠[]
 con:∀R:Tm->Prop,(∃x∈B,R x)->(∀x∈B,∀y∈B,R x->shr fr x y->R y)->∀x∈B,R x
 one:2<=B.length->∀x∈B,fnm fr x≠[]
def Apt (fr:List UInt8)(B D:List Tm):Prop:=∀z,as3 fr B z->as3 fr D z->False
theorem Apt.symm {fr:List UInt8}{B D:List Tm}(h:Apt fr B D):Apt fr D B:=fun z h1 h2=>h z h2 h1
structure Part (fr:List UInt8) (P:List (List Tm)) (us:List Tm):Prop where
 flat:P.flatten.Perm us
 blk:∀B∈P,Blk fr B
 apt:P.Pairwise (Apt fr)
theorem arM {fr:List UInt8}{B D:List Tm}{P Q:List (List Tm)}(hB:Blk fr B)(hQ:∀E∈Q,Apt fr D E)(hf:∀y∈B,y∈D\/∃E∈Q,y∈E){x:Tm}(hx:x∈B)(hxD:x∈D):∀y∈B,y∈D:=by
 refine hB.con (fun y=>y∈D) ⟨x,hx,hxD⟩ fun a ha b hb had hs=>?_;rcases hf b hb with h|⟨E,hE,h⟩
 ·exact h
 ·obtain⟨z,z1,z2⟩:=hs;exact absurd ⟨b,h,z2⟩ (fun k=>hQ E hE z ⟨a,had,z1⟩ k)
theorem avu {fr:List UInt8}{B:List Tm}{P:List (List Tm)}(hB:Blk fr B)(hP:∀E∈P,Apt fr B E){x:Tm}(hx:x∈B)(hn:fnm fr x≠[]):∀y∈B,y∉P.flatten:=by
 intro y hy hf;obtain⟨E,hE,hyE⟩:=List.mem_flatten.1 hf
 have hny:fnm fr y≠[]:=by
  by_cases h2:2<=B.length
  ·exact hB.one h2 y hy
  ·match B,hx,hy,h2 with
   | [a],hx,hy,_=>
    rw[List.mem_singleton]at hx hy;subst hx;subst hy;exact hn
   | a::b::l,_,_,h2=>exact absurd (by simp) h2
 obtain⟨z,hz⟩:=List.exists_mem_of_ne_nil _ hny;exact hP E hE z ⟨y,hy,hz⟩ ⟨y,hyE,hz⟩
open Classical in
theorem aqz {fr:List UInt8}{B D:List Tm}{P Q:List (List Tm)}(hB:Blk fr B)(hD:Blk fr D)(hP:∀E∈P,Apt fr B E)(hQ:∀E∈Q,Apt fr D E)(hf:(B++P.flatten).Perm (D++Q.flatten)){x:Tm}(hx:x∈B)(hxD:x∈D):B.Perm D:=by
 have sing:∀{C:List Tm},Blk fr C->x∈C->fnm fr x=[]->C=[x]:=fun {C} hC hc h0=>by
  by_cases h2:2<=C.length
  ·exact absurd h0 (hC.one h2 x hc)
  ·match C,hc,h2 with
   | [a],hc,_=>rw[List.mem_singleton]at hc;rw[hc]
   | a::b::l,_,h2=>exact absurd (by simp) h2
 by_cases h0:fnm fr x=[]
 ·rw[sing hB hx h0,sing hD hxD h0]
 ·have m1:∀y∈B,y∈D:=arM (P:=P) hB hQ (fun y hy=>by
   have:=hf.mem_iff.1 (lma.2 (.inl hy))
   rcases lma.1 this with h|h
   ·exact .inl h
   ·obtain⟨E,hE,hh⟩:=List.mem_flatten.1 h;exact .inr ⟨E,hE,hh⟩) hx hxD
  have m2:∀y∈D,y∈B:=arM (P:=Q) hD hP (fun y hy=>by
   have:=hf.mem_iff.2 (lma.2 (.inl hy))
   rcases lma.1 this with h|h
   ·exact .inl h
   ·obtain⟨E,hE,hh⟩:=List.mem_flatten.1 h;exact .inr ⟨E,hE,hh⟩) hxD hx
  rw[List.perm_iff_count];intro y
  by_cases hy:y∈B
  ·have c1:=avu hB hP hx h0 y hy;have c2:=avu hD hQ hxD h0 y (m1 y hy);have hc:=hf.count_eq y;rw[List.count_append,List.count_append,List.count_eq_zero.2 c1,List.count_eq_zero.2 c2]at hc;simpa using hc
  ·rw[List.count_eq_zero.2 hy,List.count_eq_zero.2 fun h=>hy (m2 y h)]
theorem aip {fr:List UInt8}:∀(P Q:List (List Tm)) (us:List Tm),Part fr P us->Part fr Q us->∃Q',Q'.Perm Q/\All2 List.Perm P Q':=by
 intro P
 induction P with
 | nil=>
  intro Q us hP hQ;have hu:us=[]:=hP.flat.symm.eq_nil;subst hu
  cases Q with
  | nil=>exact⟨[],.refl _,.nil⟩
  | cons D Q=>
   have:=hQ.flat.eq_nil;rw[List.flatten_cons,List.append_eq_nil_iff]at this
   exact absurd this.1 (hQ.blk D (by simp)).ne
 | cons B P ih=>
  intro Q us hP hQ;have hB:=hP.blk B (by simp);obtain⟨x,hx⟩:=List.exists_mem_of_ne_nil _ hB.ne;have hxu:x∈us:=hP.flat.mem_iff.1 (by rw[List.flatten_cons];exact lma.2 (.inl hx));obtain⟨D,hD,hxD⟩:=List.mem_flatten.1 (hQ.flat.mem_iff.2 hxu);obtain⟨Q1,Q2,rfl⟩:=List.append_of_mem hD;have hpm:(Q1++D::Q2).Perm (D::(Q1++Q2)):=List.perm_middle;have hap:(D::(Q1++Q2)).Pairwise (Apt fr):=(hpm.pairwise_iff (fun h=>Apt.symm h)).1 hQ.apt
  have hfl:(D++(Q1++Q2).flatten).Perm us:=by
   have:(D::(Q1++Q2)).flatten.Perm us:=hpm.symm.flatten.trans hQ.flat;rwa[List.flatten_cons]at this
  rw[List.pairwise_cons]at hap;have hpP:=List.pairwise_cons.1 hP.apt;have hfP:(B++P.flatten).Perm us:=by have:=hP.flat;rwa[List.flatten_cons]at this
  have hperm:=aqz hB (hQ.blk D hD) hpP.1 hap.1 (hfP.trans hfl.symm) hx hxD
  have hrest:P.flatten.Perm (Q1++Q2).flatten:=by
   have h1:(D++P.flatten).Perm (D++(Q1++Q2).flatten):=(hperm.symm.append_right _).trans (hfP.trans hfl.symm);exact(List.perm_append_left_iff D).1 h1
  obtain⟨Q',h1,h2⟩:=ih (Q1++Q2) P.flatten ⟨.refl _,fun E hE=>hP.blk E (by simp[hE]),hpP.2⟩ ⟨hrest.symm,fun E hE=>hQ.blk E (by simp only[lma,List.mem_cons]at hE ⊢;grind),hap.2⟩;exact⟨D::Q',(h1.cons D).trans hpm.symm,.cons hperm h2⟩
theorem aem (fr:List UInt8)(T:Tm):Blk fr [T]:=by
 refine⟨by simp,fun R h _ x hx=>?_,fun h=>by simp at h⟩;obtain⟨y,hy,hr⟩:=h;rw[List.mem_singleton]at hx hy;rw[hx,<-hy];exact hr
theorem akf {fr:List UInt8}{B D:List Tm}(hB:Blk fr B)(hD:Blk fr D)(h:∃z,as3 fr B z/\as3 fr D z):Blk fr (B++D):=by
 obtain⟨z,⟨b,hb,zb⟩,⟨d,hd,zd⟩⟩:=h
 have non:∀{C:List Tm} (hC:Blk fr C) {c:Tm},c∈C->z∈fnm fr c->∀x∈C,fnm fr x≠[]:=fun {C} hC {c} hc hz x hx=>by
  by_cases h2:2<=C.length
  ·exact hC.one h2 x hx
  ·match C,hc,hx,h2 with
   | [a],hc,hx,_=>
    rw[List.mem_singleton]at hc hx;subst hc;subst hx;intro e;rw[e]at hz;simp at hz
   | a::b::l,_,_,h2=>exact absurd (by simp) h2
 refine⟨fun e=>hB.ne (List.append_eq_nil_iff.1 e).1,fun R hR hcl=>?_,fun _ x hx=>?_⟩
 ·have cB:(∃x∈B,R x)->∀x∈B,R x:=fun h=>hB.con R h fun x hx y hy=>hcl x (lma.2 (.inl hx)) y (lma.2 (.inl hy));have cD:(∃x∈D,R x)->∀x∈D,R x:=fun h=>hD.con R h fun x hx y hy=>hcl x (lma.2 (.inr hx)) y (lma.2 (.inr hy));have bd:(∀x∈B,R x)->∀x∈D,R x:=fun h=>cD ⟨d,hd,hcl b (lma.2 (.inl hb)) d (lma.2 (.inr hd)) (h b hb) ⟨z,zb,zd⟩⟩;have db:(∀x∈D,R x)->∀x∈B,R x:=fun h=>cB ⟨b,hb,hcl d (lma.2 (.inr hd)) b (lma.2 (.inl hb)) (h d hd) ⟨z,zd,zb⟩⟩;obtain⟨x,hx,hr⟩:=hR;rcases lma.1 hx with hx|hx
  ·have h1:=cB ⟨x,hx,hr⟩;have h2:=bd h1;intro y hy;exact(lma.1 hy).elim (h1 y) (h2 y)
  ·have h2:=cD ⟨x,hx,hr⟩;have h1:=db h2;intro y hy;exact(lma.1 hy).elim (h1 y) (h2 y)
 ·rcases lma.1 hx with hx|hx
  ·exact non hB hb zb x hx
  ·exact non hD hd zd x hx
def nB (fr:List UInt8)(B:List Tm):List UInt8:=fr.filter fun z=>B.any fun x=>decide (z∈x.free)
theorem acZ (fr:List UInt8)(B:List Tm)(z:UInt8):z∈nB fr B↔as3 fr B z:=by
 unfold nB as3 fnm;simp only[List.mem_filter,List.any_eq_true,decide_eq_true_eq];constructor
 ·rintro⟨h1,x,hx,h2⟩;exact⟨x,hx,h1,h2⟩
 ·rintro⟨x,hx,h1,h2⟩;exact⟨h1,x,hx,h2⟩
theorem as4 (fr:List UInt8){B D:List Tm}(h:B.Perm D):nB fr B=nB fr D:=by
 unfold nB;refine List.filter_congr fun z _=>?_;rw[h.any_eq]
def tS (fr:List UInt8)(B:List Tm):Tm:=wrapO (nB fr B).reverse (joinR .par B)
def ahG (B:List Tm):Tm:=B.foldl (fun s t=>.par t s) .nil
def tI (fr:List UInt8)(B:List Tm):Tm:=wrapO (nB fr B).reverse (ahG B)
theorem Cg.symm {a b:Tm}(h:Cg a b):Cg b a:=by
 induction h with
 | refl t=>exact .refl t
 | trans _ _ ih ih2=>exact .trans ih2 ih
 | comm p q=>exact .comm q p
 | assoc p q r=>exact .assoc' p q r
 | assoc' p q r=>exact .assoc p q r
 | nil p=>exact .nil' p
 | nil' p=>exact .nil p
 | swap x y p h=>exact .swap y x p fun e=>h e.symm
 | par _ _ ih ih2=>exact .par ih ih2
 | own x _ ih=>exact .own x ih
theorem as5 {a b:Tm}(h:Cg a b):∀ls:List UInt8,Cg (wrapO ls a) (wrapO ls b):=by
 intro ls
 induction ls with
 | nil=>exact h
 | cons x ls ih=>exact .own x ih
theorem as6:∀B:List Tm,B≠[]->Cg (joinR .par B) (B.foldr .par .nil):=by
 intro B
 induction B with
 | nil=>intro h;exact absurd rfl h
 | cons a l ih=>
  intro _
  cases l with
  | nil=>exact .nil' a
  | cons b l=>exact .par (.refl a) (ih (by simp))
theorem aqA {B D:List Tm}(h:B.Perm D):Cg (B.foldr .par .nil) (D.foldr .par .nil):=by
 induction h with
 | nil=>exact .refl _
 | cons a _ ih=>exact .par (.refl a) ih
 | swap a b l=>exact .trans (.assoc' b a _) (.trans (.par (.comm b a) (.refl _)) (.assoc a b _))
 | trans _ _ ih ih2=>exact .trans ih ih2
theorem aqB (fr:List UInt8){B D:List Tm}(hB:B≠[])(h:B.Perm D):Cg (tS fr B) (tI fr D):=by
 unfold tS tI;rw[as4 fr h];refine as5 (.trans (as6 B hB) ?_) _;have e:ahG D=D.reverse.foldr .par .nil:=by unfold ahG;rw[List.foldr_reverse]
 rw[e];exact aqA (h.trans (List.reverse_perm D).symm)
def gp:Tm->Bool
 | .nil=>true
 | .snd _ _ _=>true
 | .rcv _ _ _=>true
 | .tau _=>true
 | .sum _ _=>true
 | _=>false
def rq:Tm->Bool
 | .rcv _ _ _=>true
 | _=>false
def Tm.smp:Tm->Bool
 | .nil=>true
 | .snd _ _ p=>p.smp
 | .rcv _ _ p=>p.smp
 | .tau p=>p.smp
 | .sum p q=>(gp p && p.smp) && (gp q && q.smp)
 | .par p q=>p.smp && q.smp
 | .own _ p=>p.smp
 | .mat _ _ p=>p.smp
 | .rep p=>rq p && p.smp
def gq:Tm->Bool
 | .snd _ _ _=>true
 | .rcv _ _ _=>true
 | .tau _=>true
 | .sum _ _=>true
 | _=>false
def Tm.smq:Tm->Bool
 | .nil=>true
 | .snd _ _ p=>p.smq
 | .rcv _ _ p=>p.smq
 | .tau p=>p.smq
 | .sum p q=>(gq p && p.smq) && (gq q && q.smq)
 | .par p q=>p.smq && q.smq
 | .own _ p=>p.smq
 | .mat _ _ p=>p.smq
 | .rep p=>rq p && p.smq
theorem smq_sum {p q:Tm}:(Tm.sum p q).smq=true↔(gq p=true/\p.smq=true)/\gq q=true/\q.smq=true:=by simp[Tm.smq]
theorem gp_gq {t:Tm}(h:gp t=true)(hn:t≠.nil):gq t=true:=by cases t<;>first|exact absurd rfl hn|rfl|(cases h)
theorem as7 {p q:Tm}:(Tm.sum p q).smp=true↔(gp p=true/\p.smp=true)/\gp q=true/\q.smp=true:=by simp[Tm.smp]
theorem as8 (t:Tm)(h:t.smp=true):t.sim.smq=true/\(gp t=true->gp t.sim=true)/\(rq t=true->rq t.sim=true):=by
 induction t with
 | nil=>exact⟨rfl,id,id⟩
 | snd a b p ih=>exact⟨(ih h).1,fun _=>rfl,id⟩
 | rcv a x p ih=>exact⟨(ih h).1,fun _=>rfl,fun _=>rfl⟩
 | tau p ih=>exact⟨(ih h).1,fun _=>rfl,id⟩
 | sum p q ih ih2=>
  obtain⟨⟨g1,s1⟩,g2,s2⟩:=as7.1 h;unfold Tm.sim
  split
  ·exact⟨(ih2 s2).1,fun _=>(ih2 s2).2.1 g2,fun h=>by cases h⟩
  ·split
   ·exact⟨(ih s1).1,fun _=>(ih s1).2.1 g1,fun h=>by cases h⟩
   ·rename_i n1 n2;exact⟨smq_sum.2 ⟨⟨gp_gq ((ih s1).2.1 g1) n1,(ih s1).1⟩,gp_gq ((ih2 s2).2.1 g2) n2,(ih2 s2).1⟩,fun _=>rfl,fun h=>by cases h⟩
 | par p q ih ih2=>
  simp only[Tm.smp,bae]at h;refine⟨?_,(fun h=>by cases h),(fun h=>by cases h)⟩;unfold Tm.sim
  split
  ·exact(ih2 h.2).1
  ·split
   ·exact(ih h.1).1
   ·simp only[Tm.smq,bae];exact⟨(ih h.1).1,(ih2 h.2).1⟩
 | own x p ih=>
  refine⟨?_,(fun h=>by cases h),(fun h=>by cases h)⟩;unfold Tm.sim;split<;>exact(ih h).1
 | mat a b p ih=>
  refine⟨?_,(fun h=>by cases h),(fun h=>by cases h)⟩;unfold Tm.sim;split<;>exact(ih h).1
 | rep p ih=>
  simp only[Tm.smp,bae]at h;refine⟨?_,(fun h=>by cases h),(fun h=>by cases h)⟩;unfold Tm.sim;split
  ·exact(ih h.2).1
  ·simp only[Tm.smq,bae];exact⟨(ih h.2).2.2 h.1,(ih h.2).1⟩
theorem aow (s:Tm)(f:UInt8->UInt8)(ns:List UInt8):gq (can s f ns)=gq s/\rq (can s f ns)=rq s:=by cases s<;>exact⟨rfl,rfl⟩
theorem as9 (s:Tm):∀(f:UInt8->UInt8) (ns:List UInt8),(can s f ns).smq=s.smq:=by
 induction s with
 | nil=>intro f ns;rfl
 | snd a b p ih=>intro f ns;exact ih _ _
 | rcv a x p ih=>intro f ns;exact ih _ _
 | tau p ih=>intro f ns;exact ih _ _
 | sum p q ih ih2=>intro f ns;simp only[can,Tm.smq];rw[ih,ih2,(aow p _ _).1,(aow q _ _).1]
 | par p q ih ih2=>intro f ns;simp only[can,Tm.smq];rw[ih,ih2]
 | own x p ih=>intro f ns;exact ih _ _
 | mat a b p ih=>intro f ns;exact ih _ _
 | rep p ih=>intro f ns;simp only[can,Tm.smq];rw[ih,(aow p _ _).2]
theorem akg (s:Tm)(h:s.smq=true)(hg:gq s=true):∀q∈smds s,q.smq=true/\gq q=true:=by
 induction s with
 | sum p q ih ih2=>
  obtain⟨⟨g1,s1⟩,g2,s2⟩:=smq_sum.1 h;intro r hr;simp only[smds,lma]at hr;exact hr.elim (ih s1 g1 r) (ih2 s2 g2 r)
 | _=>intro r hr;simp only[smds,List.mem_singleton]at hr;subst hr;exact⟨h,hg⟩
theorem aox (s:Tm)(h:s.smq=true):∀T∈(lvl s).2,T.smq=true:=by
 induction s with
 | nil=>intro T hT;simp[lvl]at hT
 | own x p ih=>exact ih h
 | par p q ih ih2=>
  simp only[Tm.smq,bae]at h;intro T hT;simp only[lvl,lma]at hT;exact hT.elim (ih h.1 T) (ih2 h.2 T)
 | _=>intro T hT;simp only[lvl,List.mem_singleton]at hT;subst hT;exact h
theorem aqC (t:Tm):∀ls:List UInt8,(wrapO ls t).smq=t.smq:=by
 intro ls
 induction ls with
 | nil=>rfl
 | cons a ls ih=>exact ih
theorem aoy:∀l:List Tm,(∀t∈l,t.smq=true)->(joinR .par l).smq=true:=by
 intro l
 induction l with
 | nil=>intro _;rfl
 | cons a l ih=>
  cases l with
  | nil=>intro h;exact h a (by simp)
  | cons b l=>intro h;simp only[joinR,Tm.smq,bae];exact⟨h a (by simp),ih fun t ht=>h t (by simp[ht])⟩
theorem aiq:∀l:List Tm,(∀t∈l,t.smq=true/\gq t=true)->(joinR .sum l).smq=true/\(l≠[]->gq (joinR .sum l)=true):=by
 intro l
 induction l with
 | nil=>intro _;exact⟨rfl,fun h=>absurd rfl h⟩
 | cons a l ih=>
  cases l with
  | nil=>intro h;exact⟨(h a (by simp)).1,fun _=>(h a (by simp)).2⟩
  | cons b l=>
   intro h;have i:=ih fun t ht=>h t (by simp[ht]);exact⟨smq_sum.2 ⟨⟨(h a (by simp)).2,(h a (by simp)).1⟩,i.2 (by simp),i.1⟩,fun _=>rfl⟩
theorem aqD (n:Nat):∀(L:UInt8->UInt8) (left:List UInt8) (s:Tm),s.smq=true->s.size<=n->(levI n L left s).smq=true/\(gq s=true->gq (levI n L left s)=true)/\(rq s=true->rq (levI n L left s)=true):=by
 induction n with
 | zero=>intro L left s _ h;have:=aaq s;omega
 | succ n ih=>
  intro L left s h hn
  have hth:∀(L':UInt8->UInt8) (lf:List UInt8) (T:Tm),T.smq=true->T.size<=n+1->(∀p q,T≠.par p q)->(∀x p,T≠.own x p)->T≠.nil->(thI (levI n) L' lf T).smq=true:=by
   intro L' lf T hT hsz h1 h2 h3
   cases T with
   | nil=>exact absurd rfl h3
   | par p q=>exact absurd rfl (h1 p q)
   | own x p=>exact absurd rfl (h2 x p)
   | snd a b p=>simp only[Tm.size]at hsz;exact(ih _ _ p hT (by omega)).1
   | tau p=>simp only[Tm.size]at hsz;exact(ih _ _ p hT (by omega)).1
   | rcv a x p=>simp only[Tm.size]at hsz;exact(ih _ _ p hT (by omega)).1
   | mat a b p=>
    simp only[Tm.size]at hsz;have:=(ih L' lf p hT (by omega)).1;simp only[thI];split<;>exact this
   | rep p=>
    simp only[Tm.size]at hsz;simp only[Tm.smq,bae]at hT;have:=ih L' lf p hT.2 (by omega);simp only[thI,Tm.smq,bae];exact⟨this.2.2 hT.1,this.1⟩
   | sum p q=>
    have e1:thI (levI n) L' lf (.sum p q)=joinR .sum (srtT ((smds (.sum p q)).map (levI n L' lf))):=rfl;rw[e1];refine(aiq _ fun t ht=>?_).1;obtain⟨r,hr,rfl⟩:=List.mem_map.1 ((aaV _ _).1 ht)
    have hrs:r.size<(Tm.sum p q).size:=by
     simp only[smds,lma]at hr;simp only[Tm.size];rcases hr with hr|hr
     ·have:=aaG p r hr;omega
     ·have:=aaG q r hr;omega
    have hq:=akg _ hT rfl r hr;have:=ih L' lf r hq.1 (by omega);exact⟨this.1,this.2.1 hq.2⟩
  have hone:∀T,s=T->(lvl T).1=[]->(lvl T).2=[T]->∃o,levI (n+1) L left s=thI (levI n) (updL L o left) (left.drop (lvl s).1.length) s:=fun T e h0 h1=>by
   subst e;exact adb n L left s .nil h0 h1 fun _ _=>trivial
  refine⟨?_,fun hg=>?_,fun hg=>?_⟩
  ·rw[abI,aqC];have hne:(visG ltU 200 (lvl s).1).map (candI n L left s)≠[]:=fun e=>acV ltU 199 _ (List.map_eq_nil_iff.1 e);obtain⟨o,_,e⟩:=List.mem_map.1 (ab6 _ hne);refine aoy _ fun t ht=>?_;rw[<-e]at ht;obtain⟨T,hT,rfl⟩:=List.mem_map.1 ((aaV _ _).1 ht);have hk:=abb s T hT;exact hth _ _ T (aox s h T hT) (by have:=aa8 s T hT;omega) hk.1 hk.2.1 hk.2.2
  ·cases s with
   | nil=>cases hg
   | snd a b p=>obtain⟨o,e⟩:=hone _ rfl rfl rfl;rw[e];rfl
   | rcv a x p=>obtain⟨o,e⟩:=hone _ rfl rfl rfl;rw[e];rfl
   | tau p=>obtain⟨o,e⟩:=hone _ rfl rfl rfl;rw[e];rfl
   | sum p q=>
    obtain⟨o,e⟩:=hone _ rfl rfl rfl;rw[e];show gq (joinR .sum (srtT ((smds (.sum p q)).map (levI n _ _))))=true;refine(aiq _ fun t ht=>?_).2 (fun e=>?_)
    rotate_left
    ·have h2:=aio p q;have h3:(srtT ((smds (.sum p q)).map (levI n (updL L o left) (left.drop (lvl (Tm.sum p q)).1.length)))).length=(smds (.sum p q)).length:=by unfold srtT;rw[List.length_mergeSort,List.length_map]
     rw[e]at h3;rw[<-h3]at h2;exact absurd h2 (by decide)
    obtain⟨r,hr,rfl⟩:=List.mem_map.1 ((aaV _ _).1 ht)
    have hrs:r.size<(Tm.sum p q).size:=by
     simp only[smds,lma]at hr;simp only[Tm.size];rcases hr with hr|hr
     ·have:=aaG p r hr;omega
     ·have:=aaG q r hr;omega
    have hq:=akg _ h rfl r hr;have:=ih (updL L o left) (left.drop (lvl (Tm.sum p q)).1.length) r hq.1 (by omega);exact⟨this.1,this.2.1 hq.2⟩
   | _=>cases hg
  ·cases s with
   | rcv a x p=>obtain⟨o,e⟩:=hone _ rfl rfl rfl;rw[e];rfl
   | _=>cases hg
theorem as_ {t r:Tm}(h:nfI t=some r)(hs:t.smp=true):r.smq=true:=by
 unfold nfI at h
 split at h
 ·cases h
 ·split at h
  ·cases h;have hsz:(numb t).size<=t.size:=by unfold numb;rw[acE];exact abB t
   exact(aqD t.size id _ _ (by unfold numb;rw[as9];exact(as8 t hs).1) hsz).1
  ·cases h
def offT:Tm->List Tm
 | .rep p=>[p]
 | t=>smds t
structure Off where
 k:UInt8
 a:UInt8
 b:UInt8
 r:Tm
 st:Bool
def offs:Tm->List Off
 | .snd a b p=>[⟨33,a,b,p,false⟩]
 | .rcv a x p=>[⟨63,a,x,p,false⟩]
 | .tau p=>[⟨126,0,0,p,false⟩]
 | .sum p q=>offs p++offs q
 | .rep p=>(offs p).map fun o=>{ o with st:=true }
 | _=>[]
def offOf (st:Bool):Tm->Option Off
 | .snd a b p=>some ⟨33,a,b,p,st⟩
 | .rcv a x p=>some ⟨63,a,x,p,st⟩
 | .tau p=>some ⟨126,0,0,p,st⟩
 | _=>none
def ata:Tm->Bool
 | .rep _=>true
 | _=>false
theorem aqE (s:Tm)(h:s.smq=true)(hg:gq s=true):offs s=(smds s).filterMap (offOf false):=by
 induction s with
 | sum p q ih ih2=>
  obtain⟨⟨g1,s1⟩,g2,s2⟩:=smq_sum.1 h;simp only[offs,smds,List.filterMap_append];rw[ih s1 g1,ih2 s2 g2]
 | snd a b p=>rfl
 | rcv a x p=>rfl
 | tau p=>rfl
 | _=>cases hg
theorem atb (s:Tm)(h:s.smq=true)(hg:gq s=true):offs s≠[]:=by
 induction s with
 | sum p q ih ih2=>
  obtain⟨⟨g1,s1⟩,g2,s2⟩:=smq_sum.1 h;simp only[offs];intro e;exact ih s1 g1 (List.append_eq_nil_iff.1 e).1
 | snd a b p=>simp[offs]
 | rcv a x p=>simp[offs]
 | tau p=>simp[offs]
 | _=>cases hg
theorem atc (T:Tm)(h:T.smq=true):offs T=(offT T).filterMap (offOf (ata T)):=by
 cases T with
 | rep p=>
  simp only[Tm.smq,bae]at h
  cases p with
  | rcv a x p=>rfl
  | _=>cases h.1
 | sum p q=>exact aqE _ h rfl
 | _=>rfl
def addsL (acc l:List UInt8):List UInt8:=l.foldl addL acc
theorem aoz (acc l m:List UInt8):addsL acc (l++m)=addsL (addsL acc l) m:=List.foldl_append
theorem air (acc l:List UInt8)(c:UInt8):addsL acc (l++[c])=addL (addsL acc l) c:=by rw[aoz];rfl
theorem ais:∀(l acc:List UInt8) (x:UInt8),x∈addsL acc l↔x∈acc\/x∈l:=by
 intro l
 induction l with
 | nil=>intro acc x;simp[addsL]
 | cons a l ih=>
  intro acc x;show x∈addsL (addL acc a) l↔_;rw[ih,mem_addL,List.mem_cons];grind
theorem srt_addsL:∀(l acc:List UInt8),Srt acc->Srt (addsL acc l):=by
 intro l
 induction l with
 | nil=>intro acc h;exact h
 | cons a l ih=>intro acc h;exact ih _ (srt_addL h a)
theorem abZ:∀(l acc:List UInt8),Lets acc->(∀c∈l,nmL c=true)->Lets (addsL acc l):=by
 intro l
 induction l with
 | nil=>intro acc h _;exact h
 | cons a l ih=>intro acc h hl;exact ih _ (lets_addL h ((nmL_iff a).1 (hl a (by simp)))) fun c hc=>hl c (by simp[hc])
theorem akh {l m:List UInt8}(h:Lets l)(k:Lets m):setN (l.filter fun x=>decide (x∈m))=setN l &&& setN m:=by
 have hf:Lets (l.filter fun x=>decide (x∈m)):=fun c hc=>h c (List.mem_filter.1 hc).1;refine adx fun i=>?_;rw[aaF _ hf,Nat.testBit_and,bae,aaF _ h,aaF _ k];constructor
 ·rintro⟨c,hc,e⟩;have:=List.mem_filter.1 hc;exact⟨⟨c,this.1,e⟩,c,by simpa using this.2,e⟩
 ·rintro⟨⟨c,hc,e⟩,d,hd,e'⟩;have:c=d:=UInt8.toNat_inj.1 (by omega);subst this
  exact⟨c,List.mem_filter.2 ⟨hc,by simpa using hd⟩,e⟩
theorem ab0 {l:List UInt8}(h:Srt l)(p:UInt8->Bool):Srt (l.filter p):=List.Pairwise.filter p h
def ovS (k:UInt8)(fr:List UInt8)(o:Off):Option UInt8:=if o.k=k then (if o.a∈fr then none else some o.a) else none
def alB:Tm->Option UInt8
 | .snd a _ _=>some a
 | _=>none
def alC:Tm->Option UInt8
 | .rcv a _ _=>some a
 | _=>none
theorem arN {T:Tm}(h:T.smq=true)(k:UInt8)(g:Tm->Option UInt8)(hk:(k=33/\g=alB)\/(k=63/\g=alC))(fr:List UInt8)(x:UInt8) : x∈(offs T).filterMap (ovS k fr)↔x∉fr/\x∈(offT T).filterMap g:=by
 rw[atc T h,List.mem_filterMap,List.mem_filterMap];constructor
 ·rintro⟨o,ho,e⟩;obtain⟨q,hq,eo⟩:=List.mem_filterMap.1 ho;unfold ovS at e
  split at e
  ·rename_i hk'
   split at e
   ·cases e
   ·rename_i hf
    cases e
    refine⟨hf,q,hq,?_⟩;rcases hk with⟨rfl,rfl⟩|⟨rfl,rfl⟩<;>cases q<;>simp[offOf]at eo<;>subst eo<;>first|rfl|(simp at hk')
  ·cases e
 ·rintro⟨hf,q,hq,e⟩;rcases hk with⟨rfl,rfl⟩|⟨rfl,rfl⟩
  ·cases q with
   | snd a b p=>
    simp only[alB,Option.some.injEq]at e;subst e;exact⟨⟨33,a,b,p,ata T⟩,List.mem_filterMap.2 ⟨_,hq,rfl⟩,by simp[ovS,hf]⟩
   | _=>cases e
  ·cases q with
   | rcv a b p=>
    simp only[alC,Option.some.injEq]at e;subst e;exact⟨⟨63,a,b,p,ata T⟩,List.mem_filterMap.2 ⟨_,hq,rfl⟩,by simp[ovS,hf]⟩
   | _=>cases e
theorem afp {T q:Tm}(hq:q∈offT T):∀z,z∈q.free->z∈T.free:=by
 cases T with
 | rep p=>intro z hz;simp only[offT,List.mem_singleton]at hq;subst hq;rw[mf_rep];exact hz
 | _=>exact afg _ q hq
theorem aqF {T:Tm}{g:Tm->Option UInt8}(hg:g=alB\/g=alC){x:UInt8}(h:x∈(offT T).filterMap g):x∈T.free:=by
 obtain⟨q,hq,e⟩:=List.mem_filterMap.1 h;refine afp hq x ?_;rcases hg with rfl|rfl<;>cases q<;>first|(cases e)|skip
 ·rw[mf_snd];exact .inl rfl
 ·rw[mf_rcv];exact .inl rfl
theorem aoA (t:Tm):∀(ls:List UInt8) (z:UInt8),z∈(wrapO ls t).free↔z∈t.free/\z∉ls:=by
 intro ls
 induction ls with
 | nil=>intro z;simp[wrapO]
 | cons a ls ih=>intro z;show z∈(Tm.own a (wrapO ls t)).free↔_;rw[mf_own,ih,List.mem_cons];grind
theorem aoB:∀(l:List Tm) (z:UInt8),z∈(joinR .par l).free↔∃T∈l,z∈T.free:=by
 intro l
 induction l with
 | nil=>intro z;simp[joinR,Tm.free]
 | cons a l ih=>
  intro z
  cases l with
  | nil=>simp[joinR]
  | cons b l=>show z∈(Tm.par a (joinR .par (b::l))).free↔_;rw[mf_par,ih];simp
theorem ait {r:Tm}(h:NfForm r)(z:UInt8):z∈r.free↔(∃T∈r.thrs,z∈T.free)/\z∉r.fro.1:=by
 obtain⟨ls,l,rfl,hl⟩:=h;have h1:∀T∈l,Thd T:=fun T hT=>(hl T hT).1;rw[aoA,aoB,adT ls l h1,acF,ac_ l h1];simp
theorem aeP {r:Tm}(h:NfForm r)(hs:r.smq=true):∀T∈r.thrs,T.smq=true:=by
 intro T hT;rw[<-(adU h).2.1]at hT;exact aox r hs T hT
theorem aiu {r:Tm}(h:NfForm r)(hs:r.smq=true)(ho:r.ok nmL=true)(k:UInt8)(g:Tm->Option UInt8)(hk:(k=33/\g=alB)\/(k=63/\g=alC)) : addsL [] (r.thrs.flatMap fun T=>(offs T).filterMap (ovS k r.fro.1))=(addsL [] (r.thrs.flatMap fun T=>(offT T).filterMap g)).filter fun x=>decide (x∈r.free):=by
 have hg:g=alB\/g=alC:=hk.imp And.right And.right;refine acP (srt_addsL _ _ srt_nil) (ab0 (srt_addsL _ _ srt_nil) _) fun x=>?_;rw[List.mem_filter,ais,ais];simp only[List.not_mem_nil,false_or,List.mem_flatMap,decide_eq_true_eq];constructor
 ·rintro⟨T,hT,hx⟩;rw[arN (aeP h hs T hT) k g hk]at hx;exact⟨⟨T,hT,hx.2⟩,(ait h x).2 ⟨⟨T,hT,aqF hg hx.2⟩,hx.1⟩⟩
 ·rintro⟨⟨T,hT,hx⟩,hf⟩;exact⟨T,hT,(arN (aeP h hs T hT) k g hk _ x).2 ⟨((ait h x).1 hf).2,hx⟩⟩
open Go.RowKit
set_option maxRecDepth 100000
def offCs (o:Off):List Value:=aub (o.k.toNat:Int) (o.a.toNat:Int) (o.b.toNat:Int) (S o.r) o.st
def OffP (T:Tm)(w:World)(e:Ending)(w':World):Prop:=
 (offs T=[]/\e=.returned (.slice none 0 0)/\Zb w w')\/aqt ((offs T).flatMap offCs) (offs T).length w e w'
def aw5 (T:Tm)(w:World)(e:Ending)(w':World):Prop:=∃v,e=.returned v/\w'.ownsRow w.heap.size 105 5 v (offs T).length ((offs T).flatMap offCs)/\Zb w w'
theorem OffP.q {T:Tm}{w:World}{e:Ending}{w':World}(h:OffP T w e w'):aw5 T w e w':=by
 rcases h with⟨h1,h2,h3⟩|⟨g,c,h1,h2,h3⟩
 ·exact⟨_,h2,by rw[h1];exact World.ownsRow_nil _ _ _ _,h3⟩
 ·exact⟨_,h1,h2,h3⟩
theorem aiv {w:World}{base n k:Nat}{e:TypeId}{v:Value}{xs:List Value}(h:w.ownsRow base e k v n xs):∃p cap,v=.slice p n cap:=by
 rcases h.2 with⟨h1,h2⟩|⟨g,cap,cur,h1,_⟩
 ·exact⟨_,_,by rw[h1,h2]⟩
 ·exact⟨_,_,h1⟩
theorem aoC {w:World}{base n cap k:Nat}{e:TypeId}{p:Option Addr}{xs:List Value}(h:w.ownsRow base e k (.slice p n cap) n xs)(hn:0<n):∃g,p=some ⟨g,0,none⟩/\base<=g/\g<w.heap.size/\n<=cap/\∀j u,xs[j]?=some u->w.cell? ⟨g,j,none⟩=some u:=by
 rcases h.2 with⟨h1,h2⟩|⟨g,cap',cur,h1,h2,h3,h4,_⟩
 ·omega
 ·have h1':=h1
  injection h1 with e1 e2 e3
  subst e1 e3;refine⟨g,rfl,h2,lt_of_block h3,h4,fun j u hj=>?_⟩;have:=ael h j u hj;have e2:(Addr.add ⟨g,0,none⟩ j)=⟨g,j,none⟩:=by cases j<;>simp[Addr.add]
  rw[e2]at this;exact this
theorem atd (l:List Off):∀(i:Nat) (h:i<l.length),(l.flatMap offCs)[i * 5]?=some (.int .u8 (l[i].k.toNat:Int))/\(l.flatMap offCs)[i * 5+1]?=some (.int .u8 (l[i].a.toNat:Int))/\(l.flatMap offCs)[i * 5+2]?=some (.int .u8 (l[i].b.toNat:Int))/\(l.flatMap offCs)[i * 5+3]?=some (.string (S l[i].r))/\(l.flatMap offCs)[i * 5+4]?=some (.bool l[i].st):=by
 induction l with
 | nil=>intro i h;simp at h
 | cons x l ih=>
  intro i h
  cases i with
  | zero=>exact⟨rfl,rfl,rfl,rfl,rfl⟩
  | succ i=>
   have hl:(offCs x).length=5:=rfl
   have e:∀j,((x::l).flatMap offCs)[(i+1) * 5+j]?=(l.flatMap offCs)[i * 5+j]?:=fun j=>by
    rw[List.flatMap_cons,List.getElem?_append_right (by omega)];congr 1;omega
   have h0:=e 0;simp only[Nat.add_zero]at h0;rw[h0,e 1,e 2,e 3,e 4];exact ih i (by simpa using h)
end Go.Proofs.YtalegefnppbkdaaGreat.T1
