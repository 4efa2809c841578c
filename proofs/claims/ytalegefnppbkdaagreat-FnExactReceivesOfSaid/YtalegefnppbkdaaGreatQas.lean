/- Texts of the proof. No conditions. -/
import Derived.Test.YtalegefnppbkdaaGreatQao
import Derived.Test.YtalegefnppbkdaaGreatQap
import Derived.Test.YtalegefnppbkdaaGreatQar
import Derived.Sort.WalkB12
import Derived.Sort.WalkA
import Derived.Sort.OwnSorted
import Derived.Shelf.SlGeneric
import Derived.Ground.SlgnProg
import Derived.Shelf.SlicesE.Reverse
import Derived.Shelf.SlicesE.Clone
import Derived.Shelf.Small.Bits
import Derived.Shelf.Strconv.Itoa0
import Derived.Shelf.Sort.Plain
import Derived.Shelf.Slices.In.SortNone
import Derived.Maps.AppendAt
import Derived.Laws.AppendOwnNone
import Derived.Laws.AppendOwn
namespace Go.Proofs.YtalegefnppbkdaaGreat.T1
open Go.Proofs.Tryz
set_option maxHeartbeats 4000000
set_option linter.unusedVariables false
theorem als {α β:Type}(f:α->β)(n:Nat):∀l:List α,ordsL n (l.map f)=(ordsL n l).map (·.map f):=by
 induction n with
 | zero=>intro l;rfl
 | succ n ih=>
  intro l;unfold ordsL
  by_cases he:l=[]
  ·subst he;rfl
  ·have h1:l.isEmpty=false:=by simpa using he
   have h2:(l.map f).isEmpty=false:=by simpa using he
   rw[h1,h2];simp only[Bool.false_eq_true,if_false,List.length_map];rw[List.map_flatMap];congr 1
   funext i
   have e:(l.map f).eraseIdx i=(l.eraseIdx i).map f:=by
    rw[List.eraseIdx_eq_take_drop_succ,List.eraseIdx_eq_take_drop_succ,List.map_append,List.map_take,List.map_drop]
   rw[e,ih,List.map_map,List.map_map];congr 1
   funext r
   simp[List.map_drop,List.map_take]
theorem aj1:∀(i:Nat) (o:List Nat) (ls:List UInt8) (T:Tm) (h1:i<o.length) (h2:i<ls.length),nmG (o.take (i+1)) (ls.take (i+1)) T=R (nmG (o.take i) (ls.take i) T) (gl o[i]) ls[i]
 | 0,a::o,l::ls,T,_,_=>by simp[nmG]
 | i+1,a::o,l::ls,T,h1,h2=>by
  have:=aj1 i o ls (R T (gl a) l) (by simpa using h1) (by simpa using h2);simp only[List.take_succ_cons,nmG,List.getElem_cons_succ]at this ⊢
  exact this
 | _,[],_,_,h,_=>by simp at h
 | _,_::_,[],_,_,h=>by simp at h
theorem aij (l:List Tm):wtL (srtT l)=wtL l:=asA (List.mergeSort_perm l _)
theorem aja (f:Tm->List UInt8->Tm × Bool)(hf:∀p tk,(f p tk).1.pr.length<=p.pr.length)(T:Tm)(tk:List UInt8):(thS f T tk).1.pr.length<=T.pr.length:=by
 have hdef:∀T:Tm,(joinR .sum (srtT ((Tm.sums T.size T).map fun q=>(f q tk).1))).pr.length<=T.pr.length:=fun T=>by
  by_cases he:Tm.sums T.size T=[]
  ·have e0:joinR .sum (srtT (([]:List Tm).map fun q=>(f q tk).1))=.nil:=by simp[srtT,joinR]
   rw[he,e0];exact pr_pos T
  ·have h1:=afb (srtT ((Tm.sums T.size T).map fun q=>(f q tk).1)) (fun e=>he (by
    have:=congrArg List.length e;unfold srtT at this
    rw[List.length_mergeSort,List.length_map]at this
    exact List.length_eq_zero_iff.1 this))
   rw[aij]at h1;have h2:=anP (Tm.sums T.size T) (fun q=>(f q tk).1) id (fun q _=>hf q tk);rw[List.map_id]at h2;have h3:=(aeh T.size T).1;omega
 cases T with
 | snd a b p=>have:=hf p tk;simp only[thS,Tm.pr,List.length_cons];omega
 | tau p=>have:=hf p tk;simp only[thS,Tm.pr,List.length_cons];omega
 | rep p=>have:=hf p tk;simp only[thS,Tm.pr,List.length_cons];omega
 | rcv a x p=>
  have:=hf (R p x (fresh tk)) (addL tk (fresh tk));rw[adf]at this
  simp only[thS,Tm.pr,List.length_cons];omega
 | mat a b p=>
  have:=hf p tk;simp only[thS]
  split<;>simp only[Tm.pr,List.length_cons]<;>omega
 | nil=>exact hdef .nil
 | sum p q=>exact hdef (.sum p q)
 | par p q=>exact hdef (.par p q)
 | own x p=>exact hdef (.own x p)
theorem ahb (n:Nat):∀(once:Bool) (t:Tm) (tk:List UInt8),(whl n once t tk).1.pr.length<=t.pr.length:=by
 induction n with
 | zero=>intro once t tk;exact pr_pos t
 | succ n ih=>
  intro once t tk;unfold whl
  split
  ·exact pr_pos t
  ·rename_i hne
   split
   ·exact pr_pos t
   ·rename_i h5
    have hg:=(anO t.size 0 t).1
    generalize (gath t.size 0 t).2=m at *
    generalize (gath t.size 0 t).1=TT at *
    have hTT:TT≠[]:=by simpa using hne
    simp only;rw[aeL,abu]
    have hone:(if once=true then (ords m).take 1 else ords m)≠[]:=by
     have:=acT m (by omega)
     split
     ·intro e;rw[List.take_eq_nil_iff]at e;simp at e;exact this e
     ·exact this
    have hm:=acr ((if once=true then (ords m).take 1 else ords m).map fun o=>joinR .par (srtT (TT.map fun T=>(thS (whl n once) (nmG o (nexts tk m) T) (allT tk m)).1))) (by simpa using hone);obtain⟨o,_,e⟩:=List.mem_map.1 hm;rw[<-e]
    have h1:=adK (srtT (TT.map fun T=>(thS (whl n once) (nmG o (nexts tk m) T) (allT tk m)).1)) (fun e=>hTT (by
     have:=congrArg List.length e;unfold srtT at this
     rw[List.length_mergeSort,List.length_map]at this
     exact List.length_eq_zero_iff.1 this))
    rw[aij]at h1
    have h2:=anP TT (fun T=>(thS (whl n once) (nmG o (nexts tk m) T) (allT tk m)).1) id (fun T _=>by
     have:=aja (whl n once) (ih once) (nmG o (nexts tk m) T) (allT tk m);rw[(ag5 _ _ _).1]at this
     exact this)
    rw[List.map_id]at h2;omega
theorem afi:∀(k:Nat) (tk:List UInt8),∀l∈nexts tk k,nmE l=true:=by
 intro k;induction k with
 | zero=>intro tk l h;simp[nexts]at h
 | succ k ih=>
  intro tk l h;simp only[nexts,List.mem_cons]at h;rcases h with rfl|h
  ·exact acv tk
  ·exact ih _ l h
set_option linter.unusedSimpArgs false
theorem aqi {α:Type}(lt:α->α->Bool):∀(cs:List α) (b:α),minB lt cs b∈b::cs:=by
 intro cs;induction cs with
 | nil=>intro b;simp[minB]
 | cons c cs ih=>
  intro b;simp only[minB];have:=ih (if lt c b then c else b)
  split at this<;>rename_i h
  ·simp only[h,if_true];exact List.mem_cons_of_mem _ this
  ·simp only[h,if_false,Bool.false_eq_true]
   rcases List.mem_cons.1 this with e|e
   ·rw[e];simp
   ·exact List.mem_cons_of_mem _ (List.mem_cons_of_mem _ e)
theorem ab6:∀l:List (List Tm),l≠[]->bestL l∈l
 | [],h=>absurd rfl h
 | c::cs,_=>aqi _ cs c
theorem ajb (s:Tm):3 * (lvl s).1.length+1<=s.pr.length/\3 * (lvl s).1.length+wtL (lvl s).2<=s.pr.length+3:=by
 induction s with
 | own x p ih=>
  have e:(Tm.own x p).pr.length=p.pr.length+3:=by simp[Tm.pr]
  rw[e];simp only[lvl,List.length_cons];omega
 | par p q ih ih2=>
  have e:(Tm.par p q).pr.length=p.pr.length+q.pr.length+3:=by simp[Tm.pr];omega
  rw[e];simp only[lvl,lla,ag4];omega
 | nil=>simp[lvl,Tm.pr,wtL]
 | _=>simp[lvl,Tm.pr,wtL]
theorem aj2 (s:Tm):wtL (smds s)<=s.pr.length+3:=by
 induction s with
 | sum p q ih ih2=>
  have e:(Tm.sum p q).pr.length=p.pr.length+q.pr.length+3:=by simp[Tm.pr];omega
  rw[e];simp only[smds,ag4];omega
 | _=>simp[smds,wtL]
theorem ahc (s:Tm):smds s≠[]:=by
 induction s with
 | sum p q ih ih2=>simp only[smds];intro e;exact ih (List.append_eq_nil_iff.1 e).1
 | _=>simp[smds]
theorem ahd {l:List Tm}(h:srtT l=[]):l=[]:=by
 have:=congrArg List.length h;unfold srtT at this
 rw[List.length_mergeSort]at this
 exact List.length_eq_zero_iff.1 this
theorem aci (l:List Tm):(srtT l).length=l.length:=by unfold srtT;rw[List.length_mergeSort]
theorem aob (f:(UInt8->UInt8)->List UInt8->Tm->Tm)(hf:∀L left s,(f L left s).pr.length<=s.pr.length)(L:UInt8->UInt8)(left:List UInt8)(T:Tm)(hn:T≠.nil):(thI f L left T).pr.length<=T.pr.length:=by
 have hs:∀T,(joinR .sum (srtT ((smds T).map (f L left)))).pr.length<=T.pr.length:=by
  intro T;have hne:srtT ((smds T).map (f L left))≠[]:=fun e=>ahc T (List.map_eq_nil_iff.1 (ahd e));have h1:=afb _ hne;rw[aij]at h1;have h2:=anP (smds T) (f L left) id fun a _=>hf L left a;rw[List.map_id]at h2;have h3:=aj2 T;omega
 cases T with
 | nil=>exact absurd rfl hn
 | snd a b p=>have:=hf L left p;simp only[thI,Tm.pr,lla,List.length_cons]at *;omega
 | tau p=>have:=hf L left p;simp only[thI,Tm.pr,lla,List.length_cons]at *;omega
 | rep p=>have:=hf L left p;simp only[thI,Tm.pr,lla,List.length_cons]at *;omega
 | rcv a x p=>have:=hf (upd L x (left.headD 0)) left.tail p;simp only[thI,Tm.pr,lla,List.length_cons]at *;omega
 | mat a b p=>have:=hf L left p;simp only[thI];split<;>simp only[Tm.pr,lla,List.length_cons]at *<;>omega
 | sum p q=>exact hs _
 | par p q=>exact hs _
 | own x p=>exact hs _
theorem abC (n:Nat):∀(L:UInt8->UInt8) (left:List UInt8) (s:Tm),(levI n L left s).pr.length<=s.pr.length:=by
 induction n with
 | zero=>intro L left s;have:=(ajb s).1;simp only[levI,Tm.pr,List.length_cons,List.length_nil];omega
 | succ n ih=>
  intro L left s;obtain⟨h1,h2⟩:=ajb s;unfold levI;rw[aeL,List.length_take];have hm:=ab6 ((visG ltU 200 (lvl s).1).map fun o=>srtT ((lvl s).2.map (thI (levI n) (updL L o left) (left.drop (lvl s).1.length)))) (fun e=>acV ltU 199 _ (List.map_eq_nil_iff.1 e));obtain⟨o,_,e⟩:=List.mem_map.1 hm;rw[<-e]
  by_cases hU:(lvl s).2=[]
  ·rw[hU]
   have:(joinR .par (srtT (List.map (thI (levI n) (updL L o left) (left.drop (lvl s).1.length)) []))).pr.length=1:=by
    have e0:srtT ([]:List Tm)=[]:=List.length_eq_zero_iff.1 (aci []);rw[List.map_nil,e0];rfl
   rw[this];omega
  ·have hne:srtT ((lvl s).2.map (thI (levI n) (updL L o left) (left.drop (lvl s).1.length)))≠[]:=fun e=>hU (List.map_eq_nil_iff.1 (ahd e));have h3:=adK _ hne;rw[aij]at h3;have h4:=anP (lvl s).2 (thI (levI n) (updL L o left) (left.drop (lvl s).1.length)) id fun a ha=>aob _ (ih) _ _ a (abb s a ha).2.2;rw[List.map_id]at h4;omega
def candI (n:Nat)(L:UInt8->UInt8)(left:List UInt8)(s:Tm)(o:List UInt8):List Tm:=srtT ((lvl s).2.map (thI (levI n) (updL L o left) (left.drop (lvl s).1.length)))
theorem abI (n:Nat)(L:UInt8->UInt8)(left:List UInt8)(s:Tm):levI (n+1) L left s=wrapO (left.take (lvl s).1.length) (joinR .par (bestL ((visG ltU 200 (lvl s).1).map (candI n L left s)))):=rfl
theorem aoc (s:Tm):∀T∈(lvl s).2,T.pr.length<=s.pr.length:=fun T hT=>by
 have h1:=(ajb s).2;have h2:=(adJ hT).1;omega
theorem aqj (s:Tm):∀T∈smds s,T.pr.length<=s.pr.length:=fun T hT=>by
 have h1:=aj2 s;have h2:=(adJ hT).1;omega
theorem afj (n:Nat)(L:UInt8->UInt8)(left:List UInt8)(s:Tm)(o:List UInt8):(candI n L left s o).length=(lvl s).2.length/\∀t∈candI n L left s o,t.pr.length<=s.pr.length:=by
 refine⟨by unfold candI;rw[aci,List.length_map],fun t ht=>?_⟩;obtain⟨T,hT,rfl⟩:=List.mem_map.1 ((aaV _ _).1 ht);have h1:=aob _ (abC n) (updL L o left) (left.drop (lvl s).1.length) T (abb s T hT).2.2;have h2:=aoc s T hT;omega
open Go.RowKit
open Go.Sort (Holds putRow putCells swp mapBlock onCells)
theorem afk:∀(i:Nat) (a b:List (List UInt8)),a.take i=b.take i->i<=a.length->i<=b.length->agp a b=agp (a.drop i) (b.drop i)
 | 0,_,_,_,_,_=>rfl
 | i+1,[],_,_,h,_=>by simp at h
 | i+1,_::_,[],_,_,h=>by simp at h
 | i+1,x::a,y::b,h,h1,h2=>by
  simp only[List.take_succ_cons,List.cons.injEq]at h;obtain⟨rfl,h⟩:=h;have:=afk i a b h (by simpa using h1) (by simpa using h2);rw[List.drop_succ_cons,List.drop_succ_cons,<-this,agp,if_neg (lt_irr x),if_neg (lt_irr x)]
theorem aqk (i:Nat)(a b:List (List UInt8))(x y:List UInt8)(h:a.take i=b.take i)(ha:a[i]?=some x)(hb:b[i]?=some y)(hlt:x<y):agp a b=true:=by
 obtain⟨h1,rfl⟩:=List.getElem?_eq_some_iff.1 ha;obtain⟨h2,rfl⟩:=List.getElem?_eq_some_iff.1 hb;rw[afk i a b h (by omega) (by omega),List.drop_eq_getElem_cons h1,List.drop_eq_getElem_cons h2];rw[agp,if_pos hlt]
theorem asG (i:Nat)(a b:List (List UInt8))(x y:List UInt8)(h:a.take i=b.take i)(ha:a[i]?=some x)(hb:b[i]?=some y)(hlt:y<x):agp a b=false:=by
 obtain⟨h1,rfl⟩:=List.getElem?_eq_some_iff.1 ha;obtain⟨h2,rfl⟩:=List.getElem?_eq_some_iff.1 hb;rw[afk i a b h (by omega) (by omega),List.drop_eq_getElem_cons h1,List.drop_eq_getElem_cons h2];rw[agp,if_neg (fun e=>List.lt_asymm hlt e),if_pos hlt]
theorem aod (a:List (List UInt8)):agp a a=false:=by
 induction a with
 | nil=>rfl
 | cons x a ih=>rw[agp,if_neg (lt_irr x),if_neg (lt_irr x)];exact ih
theorem ajc (enc:UInt8->Value)(w:World)(g k:Nat)(l m:List UInt8)(hk:k+m.length=l.length):putRow enc (putRow enc w g 0 l.toArray) g k m.toArray=putRow enc w g 0 (l.take k++m).toArray:=by
 unfold putRow;rw[Go.Sort.mapBlock_mapBlock];refine Go.Sort.mapBlock_congr _ _ _ _ fun c e fr _=>?_
 apply Array.ext_getElem?
 intro j;simp only[putCells,Array.getElem?_mapIdx,Option.map_map]
 cases c[j]? with
 | none=>rfl
 | some x=>
  simp only[Option.map_some,Function.comp,List.size_toArray,lla,List.length_take];congr 1;have hmin:min k l.length=k:=by omega
  rw[hmin]
  by_cases h1:k<=j/\j<k+m.length
  ·rw[if_pos h1,if_pos ⟨Nat.zero_le _,by omega⟩];congr 1;rw[getElem!_pos _ _ (by simp;omega),getElem!_pos _ _ (by simp;omega)];simp only[List.getElem_toArray,Nat.sub_zero];rw[List.getElem_append_right (by simp;omega)];congr 1;simp;omega
  ·rw[if_neg h1]
   by_cases h2:j<l.length
   ·rw[if_pos ⟨Nat.zero_le _,by omega⟩,if_pos ⟨Nat.zero_le _,by omega⟩];congr 1;rw[getElem!_pos _ _ (by simp;omega),getElem!_pos _ _ (by simp;omega)];simp only[List.getElem_toArray,Nat.sub_zero];rw[List.getElem_append_left (by simp;omega),List.getElem_take]
   ·rw[if_neg (by omega),if_neg (by omega)]
theorem aql (l:List UInt8)(i j:Nat)(a b:UInt8)(ha:l[i]?=some a)(hb:l[j]?=some b):swp l.toArray i j=((l.set i b).set j a).toArray:=by
 obtain⟨h1,rfl⟩:=List.getElem?_eq_some_iff.1 ha;obtain⟨h2,rfl⟩:=List.getElem?_eq_some_iff.1 hb;unfold swp;rw[getElem!_pos _ _ (by simpa using h2),getElem!_pos _ _ (by simpa using h1)];simp
theorem alt (enc:UInt8->Value){w:World}{g:Nat}{l:List UInt8}(h:Holds enc w g 0 l.toArray)(k:Nat)(hk:k<=l.length):Holds enc w g k (l.drop k).toArray:=by
 intro j hj;have hj':j<l.length - k:=by simpa using hj
 have:=h (k+j) (by simp;omega);rw[Nat.zero_add]at this
 refine⟨this.1.trans ?_,this.2⟩;rw[getElem!_pos _ _ (by simp;omega),getElem!_pos ((l.drop k).toArray) j hj];simp
theorem adr (w:World)(m n:Nat):(Sort.ahead w m).drewN n=Sort.ahead w (m+n):=by simp[Sort.ahead,World.drewN,Nat.add_assoc]
theorem alu (enc:UInt8->Value)(w:World)(g:Nat)(o:List UInt8)(i j:Nat)(a b:UInt8)(m n:Nat)(hi:i<o.length) : putRow enc (Sort.ahead (putRow enc (Sort.ahead w m) g 0 ((o.set i b).set j a).toArray) n) g (i+1) ((((o.set i b).set j a).drop (i+1)).reverse).toArray=putRow enc (Sort.ahead w (m+n)) g 0 (aig o i j a b).toArray:=by
 rw[<-Go.Sort.putRow_ahead,Go.Sort.ahead_ahead,ajc enc _ g (i+1) _ _ (by simp;omega)];rfl
-- a row of one's own whose cells are put anew
section
variable {α:Type} [Inhabited α] (enc:α->Value)
theorem aqm {w:World}{g n:Nat}{cur:Array Value}{e:TypeId}{fr:Nat × Nat}(d:Array α)(hb:w.heap[g]?=some (.cells cur e fr)) : (putRow enc (Sort.ahead w n) g 0 d).heap[g]?=some (.cells (putCells enc 0 d cur) e fr):=by
 simp[putRow,mapBlock,Sort.ahead,Array.getElem?_modify,hb,onCells]
theorem aoe {w:World}{g n:Nat}(d:Array α):w.grownBy (putRow enc (Sort.ahead w n) g 0 d) (some g):=by
 refine⟨rfl,rfl,rfl,by simp,fun k hk hne=>?_⟩;have:g≠k:=fun e=>hne (by rw[e]);simp[putRow,mapBlock,Sort.ahead,Array.getElem?_modify,this]
theorem aqn (cur:Array Value)(ts:List α)(h:ts.length<=cur.size):(putCells enc 0 ts.toArray cur).toList.take ts.length=ts.map enc:=by
 apply List.ext_getElem?
 intro j
 by_cases hj:j<ts.length
 ·rw[List.getElem?_take_of_lt hj,Array.getElem?_toList];simp[putCells,hj,show j<cur.size by omega]
 ·rw[List.getElem?_take_eq_none (by omega),List.getElem?_eq_none (by simp;omega)]
theorem aqo {w:World}{base g cap n m:Nat}{e:TypeId}{cur:Array Value}{ts:List α}(hl:ts.length=m)(hbase:base<=g)(hb:w.heap[g]?=some (.cells cur e (0,0)))
  (h1:m<=cap)(h2:cap<=maxLen)(h3:cur.size=cap * 1) :
  (putRow enc (Sort.ahead w n) g 0 ts.toArray).ownsRow base e 1 (.slice (some ⟨g,0,none⟩) m cap) m (ts.map enc):=
 ⟨by simp[hl],.inr ⟨g,cap,_,rfl,hbase,aqm enc _ hb,h1,h2,by simp[putCells,h3],by rw[Nat.mul_one,<-hl];exact aqn enc cur ts (by omega)⟩⟩
theorem ads {w:World}{g:Nat}{cur:Array Value}{e:TypeId}{ss:List α}(hb:w.heap[g]?=some (.cells cur e (0,0)))(ht:cur.toList.take ss.length=ss.map enc):Holds enc w g 0 ss.toArray:=by
 intro j hj;have hj':j<ss.length:=by simpa using hj
 refine⟨?_,by simp[World.frozen?,hb]⟩;have h1:(cur.toList.take ss.length)[j]?=(ss.map enc)[j]?:=by rw[ht]
 rw[List.getElem?_take_of_lt hj']at h1;simp only[World.cell?,hb,Nat.zero_add];simp only[Option.isSome_none,Bool.false_eq_true,if_false];rw[<-Array.getElem?_toList,h1];simp[hj']
end
open Go.Sort (Holds putRow putCells swp)
set_option maxRecDepth 100000
def awz:Prop:=∀(g k c:Nat) (zs:List UInt8) (w:World),Holds ub w g k zs.toArray->zs.length<=1000->
 Calls prog 189 #[.slice (some ⟨g,k,none⟩) zs.length c] w fun e w'=>e=.returned (.tuple #[])/\∃n,w'=putRow ub (Sort.ahead w n) g k zs.reverse.toArray
def NxP (o:List UInt8)(g:Nat)(w:World)(e:Ending)(w':World):Prop:=
 e=.returned (.bool (nextG ltU o).isSome)/\∃q,w'=putRow ub (Sort.ahead w q) g 0 ((nextG ltU o).getD o).toArray
theorem abY {w:World}{g:Nat}{o:List UInt8}(h:Holds ub w g 0 o.toArray)(k:Nat)(hk:k<o.length):w.cell? ⟨g,k,none⟩=some (.int .u8 (o[k].toNat:Int))/\w.frozen? ⟨g,k,none⟩=false:=by
 have:=h k (by simpa using hk);rw[Nat.zero_add,getElem!_pos _ _ (by simpa using hk)]at this
 simpa [ub] using this
theorem aqp (HR:awz)(o:List UInt8)(g i j:Nat)(a b:UInt8)(c:Nat)(w W:World)(m n:Nat)(n0 n1:Int)(hH:Holds ub w g 0 o.toArray)(hn:n+1=o.length)(hij:i<j)(hj:j<=n)(ha:o[i]?=some a)(hb:o[j]?=some b)(h0:n0=(a.toNat:Int))(h1:n1=(b.toNat:Int))(hW:W=Sort.ahead w m)(hl:o.length<=1000) : Calls prog 189 #[.slice (some ⟨g,i+1,none⟩) (n - i) c] ((W.setCell ⟨g,i,none⟩ (.int .u8 n1)).setCell ⟨g,j,none⟩ (.int .u8 n0)).drew fun e w'=> e=.returned (.tuple #[])/\∃q,w'=putRow ub (Sort.ahead w q) g 0 (aig o i j a b).toArray:=by
 have hself:W=putRow ub (Sort.ahead w m) g 0 o.toArray:=by rw[hW];exact(Go.Sort.putRow_self ub (Sort.ahead w m) g 0 _ hH).symm
 obtain⟨hi,ea⟩:=List.getElem?_eq_some_iff.1 ha;obtain⟨hjl,eb⟩:=List.getElem?_eq_some_iff.1 hb;have hsw:=swap_world ub (i:=i) (j:=j) (dk:=o.toArray) (by simpa using hi) (by simpa using hjl) hself (x:=.int .u8 n1) (y:=.int .u8 n0) (by rw[h1,getElem!_pos _ _ (by simpa using hjl)];simp[ub,eb]) (by rw[h0,getElem!_pos _ _ (by simpa using hi)];simp[ub,ea]);rw[Nat.zero_add,Nat.zero_add]at hsw;rw[hsw,aql o i j a b ha hb];have hlen:((o.set i b).set j a).length=o.length:=by simp
 have hH2:Holds ub (putRow ub (Sort.ahead w (m+1)) g 0 ((o.set i b).set j a).toArray) g 0 ((o.set i b).set j a).toArray:=
  Go.Sort.holds_putRow ub _ g 0 o.toArray _ (Go.Sort.holds_ahead ub w _ g 0 _ hH) (by simp)
 have hd:=alt ub hH2 (i+1) (by omega);have hdl:(((o.set i b).set j a).drop (i+1)).length=n - i:=by rw[List.length_drop,hlen];omega
 have:=HR g (i+1) c _ _ hd (by rw[hdl];omega);rw[hdl]at this
 refine this.mono ?_
 rintro e w' ⟨rfl,q,rfl⟩;exact⟨rfl,m+1+q,alu ub w g o i j a b (m+1) q hi⟩
theorem ahe (HR:awz)(o:List UInt8)(g cap:Nat)(hn:o.length<=1000)(hc:o.length<=cap)(w:World)(hH:Holds ub w g 0 o.toArray) : Calls prog 181 #[.slice (some ⟨g,0,none⟩) o.length cap] w (NxP o g w):=by
 have HR':=qz HR;have HH:=qz hH;obtain⟨n,hnn⟩:∃n,n=o.length:=⟨_,rfl⟩;have HN:=qz hnn;rw[<-hnn]at hn hc ⊢;clear hH hnn HR
 cases n with
 | zero=>
  have e0:Hid (nextG ltU o=none):=aei _ _ fun i j _ hj=>by rw[<-HN.out]at hj;omega
  have e1:Hid (w=putRow ub (Sort.ahead w 0) g 0 o.toArray):=(Go.Sort.putRow_self ub w g 0 _ HH.out).symm
  go_enter func181,ntmps181
  go_wp2_with fail
  go_loopg [3] 1 (fun k s3 wr=>s3=.int .i64 (-2)/\wr=w)
  case atStart=>exact⟨by congr 1,rfl⟩
  case round=>
   obtain⟨rfl,rfl⟩:=hrel;go_wp2_with fail;go_ret;exact⟨by rw[e0.out];rfl,0,by rw[e0.out];exact e1.out⟩
 | succ n=>
  obtain⟨R,hR⟩:∃R:Prop,R=True:=⟨_,rfl⟩
  have nxtS:Hid (∀(k l:Nat) (a b:UInt8),k<l->l<n+1->o[k]?=some a->o[l]?=some b->a<b->(∀j,l<j->j<n+1->asc ltU o k j=false)->(∀i j,k<i->i<j->j<n+1->asc ltU o i j=false)->nextG ltU o=some (aig o k l a b)):=
   fun k l a b h1 h2 h3 h4 h5 h6 h7=>alj ltU o k l a b h1 (by rw[<-HN.out];exact h2) h3 h4 (by unfold ltU;exact decide_eq_true h5) (fun j a1 a2=>h6 j a1 (by rw[HN.out];exact a2)) (fun i j a1 a2 a3=>h7 i j a1 a2 (by rw[HN.out];exact a3))
  have nxtN:Hid ((∀i j,i<j->j<n+1->asc ltU o i j=false)->nextG ltU o=none):=fun h=>aei _ _ fun i j a1 a2=>h i j a1 (by rw[HN.out];exact a2);have hself:Hid (∀q,Sort.ahead w q=putRow ub (Sort.ahead w q) g 0 o.toArray):=fun q=>(Go.Sort.putRow_self ub (Sort.ahead w q) g 0 _ HH.out).symm
  go_enter func181,ntmps181
  go_wp2_with fail
  go_loopg [3] (n+1) (fun k s3 wr=>k<=n+1/\1<=k/\s3=.int .i64 ((k:Int) - 2)/\Hid (∃q,wr=Sort.ahead w q)/\Hid (∀i j,k<=i+1->i<j->j<n+1->asc ltU o i j=false))
  case atStart=>exact⟨nl _,by omega,by congr 1,⟨0,rfl⟩,fun i j h1 h2 h3=>by omega⟩
  case round=>
   obtain⟨hk1,hk2,rfl,hwr,hasc⟩:=hrel;obtain⟨q,hq⟩:=hwr.out;have HQ:=qz hq;have HA:=qz hasc.out;clear hq hwr hasc
   by_cases hlt:(0:Int)<=(gk:Int) - 2
   ·obtain⟨i,rfl⟩:∃i,gk=i+2:=⟨gk - 2,by omega⟩;obtain⟨a,ha⟩:∃a,o[i]?=some a:=⟨_,List.getElem?_eq_getElem (by rw[<-HN.out];omega)⟩;have hi:((i+2:Nat):Int) - 2=(i:Int):=by omega
    rw[hi]at hlt ⊢;clear hi;have Ha:=qz ha;have hin:i+1<=n:=by omega
    clear ha hk1 hk2;go_wp2_with fail
    go_loopg [4] n (fun k s4 wr'=>k<=n/\i<=k/\s4=.int .i64 (k:Int)/\Hid (∃q,wr'=Sort.ahead w q)/\Hid (∀j,k<j->j<n+1->asc ltU o i j=false))
    case atStart=>exact⟨nl _,by omega,by congr 1,⟨q,HQ.out⟩,fun j h1 h2=>by omega⟩
    case round=>
     obtain⟨hk1,hk2,rfl,hwr,hasj⟩:=hrel;obtain⟨q2,hq2⟩:=hwr.out;have HQ2:=qz hq2;have HJ:=qz hasj.out;have hsz:wr.heap.size=w.heap.size:=by rw[hq2];rfl
     by_cases hgt:i<gk
     ·obtain⟨b,hb⟩:∃b,o[gk]?=some b:=⟨_,List.getElem?_eq_getElem (by rw[<-HN.out];omega)⟩;obtain⟨n0,hn0⟩:∃n0:Int,n0=(a.toNat:Int):=⟨_,rfl⟩;obtain⟨n1,hn1⟩:∃n1:Int,n1=(b.toNat:Int):=⟨_,rfl⟩;have hoi:i<o.length:=by rw[<-HN.out];omega
      have hog:gk<o.length:=by rw[<-HN.out];omega
      have c1:wr.cell? ⟨g,i,none⟩=some (.int .u8 n0):=by
       rw[hq2,hn0,show a=o[i] from (by have:=Ha.out;rw[List.getElem?_eq_getElem hoi]at this;exact(Option.some.inj this).symm)];exact(abY HH.out i hoi).1
      have c2:wr.cell? ⟨g,gk,none⟩=some (.int .u8 n1):=by
       rw[hq2,hn1,show b=o[gk] from (by have:=hb;rw[List.getElem?_eq_getElem hog]at this;exact(Option.some.inj this).symm)];exact(abY HH.out gk hog).1
      have f1:wr.frozen? ⟨g,i,none⟩=false:=by rw[hq2];exact(abY HH.out i hoi).2
      have f2:wr.frozen? ⟨g,gk,none⟩=false:=by rw[hq2];exact(abY HH.out gk hog).2
      have hgi:(i:Int)<(gk:Int):=by omega
      have Hb:=qz hb;have HN0:=qz hn0;have HN1:=qz hn1;clear hq2 hwr hasj hn0 hn1 hb hoi hog
      by_cases hab:n0<n1
      ·go_wp2_with fail
       go_quiet (fail)
       obtain⟨W,hW⟩:∃W,W=wr.drewN nq:=⟨_,rfl⟩;have HW:Hid (W=Sort.ahead w (q2+nq)):=by show _=_;rw[hW,HQ2.out,adr]
       rw[<-hW];replace c1:W.cell? ⟨g,i,none⟩=some (.int .u8 n0):=by rw[hW];exact c1
       replace c2:W.cell? ⟨g,gk,none⟩=some (.int .u8 n1):=by rw[hW];exact c2
       replace f1:W.frozen? ⟨g,i,none⟩=false:=by rw[hW];exact f1
       replace f2:W.frozen? ⟨g,gk,none⟩=false:=by rw[hW];exact f2
       clear hW hsz;have hcall:=qz (aqp HR'.out o g i gk a b (cap - (i+1)) w W (q2+nq) n n0 n1 HH.out HN.out hgt hk1 Ha.out Hb.out HN0.out HN1.out HW.out (by have:=HN.out;omega));have hnx:Hid (nextG ltU o=some (aig o i gk a b)):=nxtS.out i gk a b hgt (by omega) Ha.out Hb.out (by rw[abO];have:=HN0.out;have:=HN1.out;omega) HJ.out fun i' j h1 h2 h3=>HA.out i' j (by omega) h2 h3;have hb1:(i:Int)+1<=(n:Int)+1:=by omega
       have hb2:(i:Int)+1<=(cap:Int):=by omega
       go_wp2_with fail
       go_region
       go_wp2_with fail;refine(hcall.out).mono ?_;rintro e w1 ⟨rfl,q3,rfl⟩;go_wp2_with fail;go_ret;exact⟨by rw[hnx.out];rfl,q3,by rw[hnx.out];rfl⟩
      ·go_wp2_with fail
       go_quiet (fail)
       go_wp2_with fail
       go_roundg (gk - 1)
       case rel=>
        refine⟨by omega,by omega,by congr 1;omega,⟨q2+nq,?_⟩,fun j h1 h2=>?_⟩
        ·rw[HQ2.out,adr]
        ·by_cases e:j=gk
         ·subst e;unfold asc;rw[Ha.out,Hb.out];have:ltU a b=false:=by unfold ltU;exact decide_eq_false fun h=>by(rw[abO]at h;have:=HN0.out;have:=HN1.out;omega)
          simp[this]
         ·exact HJ.out j (by omega) h2
       case measure=>omega
     ·obtain rfl:gk=i:=by omega
      go_wp2_with fail
      go_roundg (gk+1)
      case rel=>
       refine⟨by omega,by omega,by congr 1;omega,⟨q2,rfl⟩,fun i' j h1 h2 h3=>?_⟩
       by_cases e:i'=gk
       ·subst e;exact HJ.out j h2 h3
       ·exact HA.out i' j (by omega) h2 h3
      case measure=>omega
   ·have e1:Hid (nextG ltU o=none):=nxtN.out fun i j h1 h2=>HA.out i j (by omega) h1 h2;go_wp2_with fail;go_ret;exact⟨by rw[e1.out];rfl,q,by rw[e1.out,HQ.out];exact hself.out q⟩
end Go.Proofs.YtalegefnppbkdaaGreat.T1
namespace Go.Proofs
set_option maxHeartbeats 4000000
open Go.Shelf
def Tryz.lays128_ren:Go.Shelf.Ren:=⟨fun|128=>132|n=>n,fun|51=>69|3=>3|4=>4|46=>100|5=>5|9=>9|n=>n,fun|n=>n⟩
theorem Tryz.lays128:Go.Proofs.Lays.n128 prog Tryz.lays128_ren:={
 mixed:=by kernel_rfl
 f128:=func132.trans (congrArg some (by kernel_rfl))
 t3:=underlying3
 a3:=Tryz.isAgg3
 z3:=Tryz.sizeOf3
 v3:=Tryz.zeroValue3
 t4:=underlying4
 a4:=Tryz.isAgg4
 z4:=Tryz.sizeOf4
 v4:=Tryz.zeroValue4
 t5:=underlying5
 a5:=Tryz.isAgg5
 z5:=Tryz.sizeOf5
 v5:=Tryz.zeroValue5
 t9:=underlying9
 a9:=Tryz.isAgg9
 z9:=Tryz.sizeOf9
 v9:=Tryz.zeroValue9
 t46:=underlying100
 a46:=Tryz.isAgg100
 z46:=Tryz.sizeOf100
 v46:=Tryz.zeroValue100
 t51:=underlying69
 a51:=Tryz.isAgg69
 z51:=Tryz.sizeOf69
 v51:=Tryz.zeroValue69 }
theorem Tryz.bits_Len32 (x:Int)(w:World)(h0:0<=x)(h1:x<=4294967295) :
  Calls prog 132 #[.int .u32 x] w fun e w'=>e=.returned (.int .i64 (Lib.bitLen x.toNat))/\w'=w:=Any.bits_Len32 Tryz.lays128 x w h0 h1
def Tryz.lays125_ren:Go.Shelf.Ren:=⟨fun|125=>96|128=>132|129=>133|n=>n,fun|46=>100|3=>3|51=>69|53=>139|4=>4|5=>5|9=>9|n=>n,fun|n=>n⟩
theorem Tryz.lays125:Go.Proofs.Lays.n125 prog Tryz.lays125_ren:={
 mixed:=by kernel_rfl
 f125:=func96.trans (congrArg some (by kernel_rfl))
 f128:=func132.trans (congrArg some (by kernel_rfl))
 f129:=func133.trans (congrArg some (by kernel_rfl))
 t3:=underlying3
 a3:=Tryz.isAgg3
 z3:=Tryz.sizeOf3
 v3:=Tryz.zeroValue3
 t4:=underlying4
 a4:=Tryz.isAgg4
 z4:=Tryz.sizeOf4
 v4:=Tryz.zeroValue4
 t5:=underlying5
 a5:=Tryz.isAgg5
 z5:=Tryz.sizeOf5
 v5:=Tryz.zeroValue5
 t9:=underlying9
 a9:=Tryz.isAgg9
 z9:=Tryz.sizeOf9
 v9:=Tryz.zeroValue9
 t46:=underlying100
 a46:=Tryz.isAgg100
 z46:=Tryz.sizeOf100
 v46:=Tryz.zeroValue100
 t51:=underlying69
 a51:=Tryz.isAgg69
 z51:=Tryz.sizeOf69
 v51:=Tryz.zeroValue69
 t53:=underlying139
 a53:=Tryz.isAgg139
 z53:=Tryz.sizeOf139
 v53:=Tryz.zeroValue139 }
theorem Tryz.bits_Len (x:Int)(w:World)(h0:0<=x)(h1:x<=18446744073709551615) :
  Calls prog 96 #[.int .u64 x] w fun e w'=>e=.returned (.int .i64 (Lib.bitLen x.toNat))/\w'=w:=Any.bits_Len Tryz.lays125 x w h0 h1
def Tryz.lays129_ren:Go.Shelf.Ren:=⟨fun|129=>133|n=>n,fun|53=>139|3=>3|4=>4|46=>100|5=>5|9=>9|n=>n,fun|n=>n⟩
theorem Tryz.lays129:Go.Proofs.Lays.n129 prog Tryz.lays129_ren:={
 mixed:=by kernel_rfl
 f129:=func133.trans (congrArg some (by kernel_rfl))
 t3:=underlying3
 a3:=Tryz.isAgg3
 z3:=Tryz.sizeOf3
 v3:=Tryz.zeroValue3
 t4:=underlying4
 a4:=Tryz.isAgg4
 z4:=Tryz.sizeOf4
 v4:=Tryz.zeroValue4
 t5:=underlying5
 a5:=Tryz.isAgg5
 z5:=Tryz.sizeOf5
 v5:=Tryz.zeroValue5
 t9:=underlying9
 a9:=Tryz.isAgg9
 z9:=Tryz.sizeOf9
 v9:=Tryz.zeroValue9
 t46:=underlying100
 a46:=Tryz.isAgg100
 z46:=Tryz.sizeOf100
 v46:=Tryz.zeroValue100
 t53:=underlying139
 a53:=Tryz.isAgg139
 z53:=Tryz.sizeOf139
 v53:=Tryz.zeroValue139 }
theorem Tryz.bits_Len64 (x:Int)(w:World)(h0:0<=x)(h1:x<=18446744073709551615) :
  Calls prog 133 #[.int .u64 x] w fun e w'=>e=.returned (.int .i64 (Lib.bitLen x.toNat))/\w'=w:=Any.bits_Len64 Tryz.lays129 x w h0 h1
def Tryz.lays190_ren:Go.Shelf.Ren:=⟨fun|190=>70|125=>96|258=>95|128=>132|129=>133|302=>123|303=>124|304=>125|305=>126|306=>127|307=>128|308=>129|309=>130|310=>131|333=>161|329=>162|330=>163|334=>164|335=>165|336=>166|344=>182|n=>n,fun|31=>29|9=>9|3=>3|46=>100|0=>0|51=>69|53=>139|4=>4|183=>132|182=>131|131=>34|5=>5|218=>162|222=>166|228=>177|229=>178|n=>n,fun|n=>n⟩
theorem Tryz.lays190:Go.Proofs.Lays.n190 prog Tryz.lays190_ren:={
 mixed:=by kernel_rfl
 f125:=func96.trans (congrArg some (by kernel_rfl))
 f128:=func132.trans (congrArg some (by kernel_rfl))
 f129:=func133.trans (congrArg some (by kernel_rfl))
 f190:=func70.trans (congrArg some (by kernel_rfl))
 f258:=func95.trans (congrArg some (by kernel_rfl))
 f302:=func123.trans (congrArg some (by kernel_rfl))
 f303:=func124.trans (congrArg some (by kernel_rfl))
 f304:=func125.trans (congrArg some (by kernel_rfl))
 f305:=func126.trans (congrArg some (by kernel_rfl))
 f306:=func127.trans (congrArg some (by kernel_rfl))
 f307:=func128.trans (congrArg some (by kernel_rfl))
 f308:=func129.trans (congrArg some (by kernel_rfl))
 f309:=func130.trans (congrArg some (by kernel_rfl))
 f310:=func131.trans (congrArg some (by kernel_rfl))
 f329:=func162.trans (congrArg some (by kernel_rfl))
 f330:=func163.trans (congrArg some (by kernel_rfl))
 f333:=func161.trans (congrArg some (by kernel_rfl))
 f334:=func164.trans (congrArg some (by kernel_rfl))
 f335:=func165.trans (congrArg some (by kernel_rfl))
 f336:=func166.trans (congrArg some (by kernel_rfl))
 f344:=func182.trans (congrArg some (by kernel_rfl))
 t0:=underlying0
 a0:=Tryz.isAgg0
 z0:=Tryz.sizeOf0
 v0:=Tryz.zeroValue0
 t3:=underlying3
 a3:=Tryz.isAgg3
 z3:=Tryz.sizeOf3
 v3:=Tryz.zeroValue3
 t4:=underlying4
 a4:=Tryz.isAgg4
 z4:=Tryz.sizeOf4
 v4:=Tryz.zeroValue4
 t5:=underlying5
 a5:=Tryz.isAgg5
 z5:=Tryz.sizeOf5
 v5:=Tryz.zeroValue5
 t9:=underlying9
 a9:=Tryz.isAgg9
 z9:=Tryz.sizeOf9
 v9:=Tryz.zeroValue9
 t31:=underlying29
 a31:=Tryz.isAgg29
 z31:=Tryz.sizeOf29
 v31:=Tryz.zeroValue29
 t46:=underlying100
 a46:=Tryz.isAgg100
 z46:=Tryz.sizeOf100
 v46:=Tryz.zeroValue100
 t51:=underlying69
 a51:=Tryz.isAgg69
 z51:=Tryz.sizeOf69
 v51:=Tryz.zeroValue69
 t53:=underlying139
 a53:=Tryz.isAgg139
 z53:=Tryz.sizeOf139
 v53:=Tryz.zeroValue139
 t131:=underlying34
 a131:=Tryz.isAgg34
 z131:=Tryz.sizeOf34
 v131:=Tryz.zeroValue34
 t182:=underlying131
 a182:=Tryz.isAgg131
 z182:=Tryz.sizeOf131
 v182:=Tryz.zeroValue131
 t183:=underlying132
 a183:=Tryz.isAgg132
 z183:=Tryz.sizeOf132
 v183:=Tryz.zeroValue132
 t218:=underlying162
 a218:=Tryz.isAgg162
 z218:=Tryz.sizeOf162
 v218:=Tryz.zeroValue162
 t222:=underlying166
 a222:=Tryz.isAgg166
 z222:=Tryz.sizeOf166
 v222:=Tryz.zeroValue166
 t228:=underlying177
 a228:=Tryz.isAgg177
 z228:=Tryz.sizeOf177
 v228:=Tryz.zeroValue177
 t229:=underlying178
 a229:=Tryz.isAgg178
 z229:=Tryz.sizeOf178
 v229:=Tryz.zeroValue178 }
open Go.Sort Go.RowKit in
theorem Tryz.slices_Sort_string (blk off cap:Nat)(ss:List (List UInt8))(w:World)(hH:Holds encStr w blk off ss.toArray)(hblk:blk<w.heap.size)(hsz:ss.length<4611686018427387904) :
  Calls prog 70 #[.slice (some ⟨blk,off,none⟩) ss.length cap] w fun e w'=>
   e=.returned (.tuple #[])/\∃n os,w'=grow (putRow encStr (Sort.ahead w n) blk off (ss.mergeSort fun x y=>decide (x<=y)).toArray) os:=Any.slices_Sort_string Tryz.lays190 blk off cap ss w hH hblk hsz
open Go.RowKit Go.Sort in
theorem Tryz.slices_Sort_string_none (p:Option Addr)(cap:Nat)(w:World) :
  Calls prog 70 #[.slice p 0 cap] w fun e w'=>e=.returned (.tuple #[])/\w'=w:=Any.slices_Sort_string_none Tryz.lays190 p cap w
def Tryz.laysRev_ren:Go.Shelf.Ren:=⟨fun|35=>189|n=>n,fun|22=>44|23=>5|3=>3|4=>4|0=>0|n=>n,fun|n=>n⟩
theorem Tryz.laysRev:Go.Proofs.SlLaysE.n35 prog Tryz.laysRev_ren:={
 mixed:=by kernel_rfl
 f35:=⟨f189.name,by decide,func189.trans (congrArg some (by kernel_rfl))⟩
 t0:=underlying0
 a0:=Tryz.isAgg0
 z0:=Tryz.sizeOf0
 v0:=Tryz.zeroValue0
 t3:=underlying3
 a3:=Tryz.isAgg3
 z3:=Tryz.sizeOf3
 v3:=Tryz.zeroValue3
 t4:=underlying4
 a4:=Tryz.isAgg4
 z4:=Tryz.sizeOf4
 v4:=Tryz.zeroValue4
 t22:=underlying44
 a22:=Tryz.isAgg44
 z22:=Tryz.sizeOf44
 v22:=Tryz.zeroValue44
 a23:=Tryz.isAgg5
 z23:=Tryz.sizeOf5 }
def Tryz.laysCln_ren:Go.Shelf.Ren:=⟨fun|41=>179|n=>n,fun|22=>44|23=>5|4=>4|n=>n,fun|n=>n⟩
theorem Tryz.laysCln:Go.Proofs.SlLaysE0.n41 prog Tryz.laysCln_ren:={
 mixed:=by kernel_rfl
 f41:=⟨f179.name,by decide,func179.trans (congrArg some (by kernel_rfl))⟩
 t4:=underlying4
 a4:=Tryz.isAgg4
 z4:=Tryz.sizeOf4
 v4:=Tryz.zeroValue4
 t22:=underlying44
 a22:=Tryz.isAgg44
 z22:=Tryz.sizeOf44
 v22:=Tryz.zeroValue44 }
end Go.Proofs
namespace Go.Proofs.YtalegefnppbkdaaGreat.T1
open Go.Proofs.Tryz
set_option maxHeartbeats 4000000
open Go.RowKit
set_option maxRecDepth 100000
theorem aof (g j:Nat):(⟨g,0,none⟩:Addr).add j=⟨g,j,none⟩:=by
 unfold Addr.add
 split
 ·rename_i h;rw[h]
 ·rw[Nat.zero_add]
theorem ahf {w:World}{base n:Nat}{v:Value}(l:List UInt8)(hn:n=l.length)(hne:0<l.length)(h:w.ownsRow base 5 1 v n (l.map ub)) : (convert 44 9 v).run prog w=.ok (.string ⟨l.toArray⟩) w:=by
 subst hn;rcases h.2 with⟨_,h0⟩|⟨g,cap,cur,rfl,_⟩
 ·omega
 ·refine run_convert_bytes_back w 44 9 5 ⟨g,0,none⟩ cap l underlying44 underlying5 underlying9 fun j hj=>?_;rw[aof,h.cellAt j (by omega)];simp[ub,hj]
theorem alv (t:Tm)(hl:t.pr.length<=900)(w:World):Calls prog 86 #[.iface (aaB t) (pay t)] w fun e w'=>e=.returned (.string (S t))/\Zb w w':=by
 have HW:=ani t w.heap.size 0 [] (.slice none 0 0) w (World.ownsRow_nil _ _ _ _) (by omega) (nl _);have hpos:=pr_pos t;have HC:Hid (∀(w:World) (v:Value),w.ownsRow w.heap.size 5 1 v (0+t.pr.length) ([]++t.pr.map ub)->True):=fun _ _ _=>trivial
 have HV:Hid (∀(w1:World) (b:Nat) (v:Value),w1.ownsRow b 5 1 v (0+t.pr.length) ([]++t.pr.map ub)->(convert 44 9 v).run prog w1=.ok (.string (S t)) w1):=fun w1 b v h=>
  ahf t.pr (by omega) hpos h
 clear HC;obtain⟨T,hT⟩:∃T,T=aaB t:=⟨_,rfl⟩;obtain⟨V,hV⟩:∃V,V=pay t:=⟨_,rfl⟩;obtain⟨X,hX⟩:∃X,X=S t:=⟨_,rfl⟩;rw[<-hT,<-hV]at HW;rw[<-hX]at HV;rw[<-hT,<-hV,<-hX];have H:=qz HW;clear hT hV hX HW hpos
 go_enter func86,ntmps86
 go_wp2_with fail;refine(H.out).mono ?_;rintro e w1 ⟨v1,rfl,ho,k1⟩;have hcv:=HV.out w1 _ v1 ho;clear ho;go_wp2_with fail;go_ret;exact⟨rfl,k1.below⟩
theorem ab7 {w:World}{base:Nat}{e:TypeId}{g n cap:Nat}{xs:List Value}(h:w.ownsRow base e 1 (.slice (some ⟨g,0,none⟩) n cap) n xs):∀j u,xs[j]?=some u->w.cell? ((⟨g,0,none⟩:Addr).add j)=some u:=by
 intro j u hj;rcases h.2 with⟨h1,_⟩|⟨g',cap',cur,h1,_,h3,_,_,_,h7⟩
 ·cases h1
 ·cases h1
  have hjl:j<xs.length:=by
   rcases Nat.lt_or_ge j xs.length with c|c
   ·exact c
   ·rw[List.getElem?_eq_none c]at hj;cases hj
  have hx:=h.1;have:(cur.toList.take (n * 1))[j]?=some u:=by rw[h7];exact hj
  rw[List.getElem?_take,if_pos (by omega)]at this
  show w.cell? (Addr.add ⟨g,0,none⟩ j)=some u;have e2:(Addr.add ⟨g,0,none⟩ j)=⟨g,j,none⟩:=by cases j<;>simp[Addr.add]
  rw[e2];simp only[World.cell?,h3];simpa using this
theorem aaw {P:Program}{w:World}{ops:Array Oper}{rest:List Oper}{o:Oper}{a:Act}{Q:Exit->Act->World->Prop}(hgd:o.guard=none)(s x:Operand)(t:TypeId) (ho:o.op=.call { callee:=.builtin .append,args:=#[s,x],argTypes:=#[t,t] }) (base base2:Nat)(e:TypeId)(i:TypeInfo)(z:Value)(bytes:Nat)(ht:P.underlying t=some (.slice e))(hi:P.info? e=some i)(hz:i.zero=some z) (hsize:i.size=1)(hby:i.bytes=bytes)(hzs:z.cells.size=1) (v:Value)(n:Nat)(xs:List Value)(hs:a.eval s=v)(hown:w.ownsRow base e 1 v n xs) (v2:Value)(m:Nat)(ys:List Value)(hx:a.eval x=v2)(hown2:w.ownsRow base2 e 1 v2 m ys)(h1:∀u∈ys,u.oneCell'=true) (h63:n+m<=maxLen)(hbytes:(n+m) * bytes<=140737488355328)(hbase:base<=w.heap.size) (h:∀v' w',w'.ownsRow base e 1 v' (n+m) (xs++ys)->w.grownBy w' v.ownBlock->(v'.ownBlock=v.ownBlock\/v'.ownBlock=some w.heap.size)->wpList P ops Q rest (a.put o.dst v') w') : wpList P ops Q (o::rest) a w:=by
 rcases hown2.2 with⟨e1,e2⟩|⟨g,cap,cur,e1,_⟩
 ·subst e2;have hy:ys=[]:=by have:=hown2.1;simpa using this
  subst hy;refine wpList_append_own_none hgd s x t ho base e i 1 ht hi v n xs hs hown (hx.trans e1) ?_;exact h v w (by simpa using hown) ⟨rfl,rfl,rfl,nl _,fun _ _ _=>rfl⟩ (.inl rfl)
 ·subst e1;refine wpList_append_own_at w hgd s x t ho base e i z 1 bytes ht hi hz hsize hby hzs (by decide) v n xs hs hown ⟨g,0,none⟩ m cap ys hx (by have:=hown2.1;omega) (ab7 hown2) h1 h63 hbytes hbase ?_;intro v' w' a1 a2 _ a3;exact h v' w' a1 a2 a3
theorem aeN {w w':World}{base n:Nat}{e:TypeId}{v:Value}{xs:List Value}(h:w.ownsRow base e 1 v n xs)(hk:∀g,v.ownBlock=some g->w'.heap[g]?=w.heap[g]?):w'.ownsRow base e 1 v n xs:=by
 refine⟨h.1,h.2.imp id ?_⟩;rintro⟨g,cap,cur,hv,h2,h3,h4⟩;exact⟨g,cap,cur,hv,h2,(hk g (by rw[hv];rfl)).trans h3,h4⟩
theorem adP {w:World}{b1 b2 n m:Nat}{e f:TypeId}{v u:Value}{xs ys:List Value}(hef:e≠f)(h:w.ownsRow b1 e 1 v n xs)(k:w.ownsRow b2 f 1 u m ys)(g:Nat)(h1:v.ownBlock=some g):u.ownBlock≠some g:=by
 intro h2;rcases h.2 with⟨e1,_⟩|⟨g1,c1,r1,e1,_,d1,_⟩
 ·rw[e1]at h1;simp[Value.ownBlock]at h1
 ·rcases k.2 with⟨e2,_⟩|⟨g2,c2,r2,e2,_,d2,_⟩
  ·rw[e2]at h2;simp[Value.ownBlock]at h2
  ·rw[e1]at h1;rw[e2]at h2;simp only[Value.ownBlock,Option.some.injEq]at h1 h2;subst h1;subst h2;rw[d1]at d2;simp only[Option.some.injEq,Obj.cells.injEq]at d2;exact hef d2.2.1
theorem aaW {w:World}{base b2 n:Nat}{e:TypeId}{v:Value}{xs:List Value}(h:w.ownsRow base e 1 v n xs)(hb:b2<=base):w.ownsRow b2 e 1 v n xs:=by
 refine⟨h.1,h.2.imp id ?_⟩;rintro⟨g,cap,cur,hv,h2,h3⟩;exact⟨g,cap,cur,hv,Nat.le_trans hb h2,h3⟩
theorem aal {w w':World}{base n:Nat}{e:TypeId}{v:Value}{xs:List Value}(h:w.ownsRow base e 1 v n xs)(k:Zb w w'):w'.ownsRow base e 1 v n xs:=
 aeN h fun g hg=>k.block g (h.lt g hg).2
theorem acW {w w':World}{base n:Nat}{e:TypeId}{v:Value}{r:Option Nat}{xs:List Value}(h:w.ownsRow base e 1 v n xs)(k:w.grownBy w' r)(hr:∀g,v.ownBlock=some g->r≠some g):w'.ownsRow base e 1 v n xs:=
 aeN h fun g hg=>k.block g (h.lt g hg).2 (fun e=>hr g hg e.symm)
theorem aa3 (w:World)(x:Value)(T:TypeId)(base:Nat)(hb:base<=w.heap.size):(w.alloc (.cells #[x] T)).ownsRow base T 1 (.slice (some ⟨w.heap.size,0,none⟩) 1 1) 1 [x]:=
 ⟨rfl,.inr ⟨w.heap.size,1,#[x],rfl,hb,heap_alloc_new w _,nl _,by unfold maxLen;omega,rfl,rfl⟩⟩
theorem aas {w0 w w':World}{r:Option Nat}{B:Nat}(h:Below B w0 w)(k:w.grownBy w' r)(hr:∀g,r=some g->B<=g)(hB:B<=w.heap.size):Below B w0 w':=
 ⟨k.os.trans h.os,k.tape.trans h.tape,k.output.trans h.output,Nat.le_trans h.size k.size,fun i hi=>(k.block i (by omega) (fun e=>by have:=hr i e.symm;omega)).trans (h.block i hi)⟩
open Go.Sort (Holds putRow putCells swp ahead)
set_option linter.unusedVariables false
set_option linter.unusedSimpArgs false
theorem axj:awz:=fun g k c zs w hH hz=>AnyE.slices_Reverse Tryz.laysRev ub (fun _=>rfl) g k c zs w hH (by omega)
def sv (t:Tm):Value:=.string (S t)
theorem aj3 (ts:List Tm):ts.map sv=(ts.map Tm.pr).map encStr:=by rw[List.map_map];rfl
theorem asH (ts:List Tm):((ts.map Tm.pr).mergeSort fun x y=>decide (x<=y))=(srtT ts).map Tm.pr:=by
 unfold srtT;exact(List.map_mergeSort (r:=fun a b:Tm=>decide (a.pr<=b.pr)) (s:=fun x y:List UInt8=>decide (x<=y)) (f:=Tm.pr) (fun a _ b _=>rfl)).symm
theorem avh (ts:List Tm)(v:Value)(n base:Nat)(w:World)(h:w.ownsRow base 9 1 v n (ts.map sv))(hn:n<=1000) : Calls prog 70 #[v] w fun e w'=>e=.returned (.tuple #[])/\w'.ownsRow base 9 1 v n ((srtT ts).map sv)/\w.grownBy w' v.ownBlock:=by
 have hl:=h.1;rw[List.length_map,Nat.mul_one]at hl;rcases h.2 with⟨rfl,rfl⟩|⟨g,cap,cur,rfl,h2,h3,h4,h5,h6,h7⟩
 ·have ht:ts=[]:=List.length_eq_zero_iff.1 hl;subst ht;refine(Tryz.slices_Sort_string_none none 0 w).mono ?_;rintro e w' ⟨rfl,rfl⟩;refine⟨rfl,?_,⟨rfl,rfl,rfl,nl _,fun _ _ _=>rfl⟩⟩;have:srtT ([]:List Tm)=[]:=List.length_eq_zero_iff.1 (aci []);rw[this];exact h
 ·subst hl;rw[Nat.mul_one,aj3]at h7;have hlen:(ts.map Tm.pr).length=ts.length:=List.length_map _;have hH:Holds encStr w g 0 (ts.map Tm.pr).toArray:=ads encStr h3 (by rw[hlen];exact h7);have:=Tryz.slices_Sort_string g 0 cap (ts.map Tm.pr) w hH (lt_of_block h3) (by rw[hlen];omega);rw[hlen,asH]at this
  refine this.mono ?_
  rintro e w' ⟨rfl,q,os,rfl⟩;refine⟨rfl,?_,grownBy_sorted _⟩;have h8:=ownsRow_sorted (n:=q) (os:=os) (ss:=ts.map Tm.pr) (ts:=(srtT ts).map Tm.pr) (base:=base) (g:=g) (cap:=cap) (cur:=cur) (e:=9) (w:=w) (by rw[List.length_map,List.length_map,aci]) h2 h3 (by rw[hlen];exact h4) h5 h6;rw[hlen,<-aj3]at h8;exact h8
theorem avi (fs:List UInt8)(v:Value)(n base:Nat)(w:World)(h:w.ownsRow base 5 1 v n (fs.map ub))(hn:n<=1000) : Calls prog 179 #[v] w fun e w'=>∃v',e=.returned v'/\w'.ownsRow w.heap.size 5 1 v' n (fs.map ub)/\Zb w w':=by
 obtain⟨i0,hi,hz0,hz1,hz2⟩:=info_parts Tryz.infoU8;have hl:=h.1;rw[List.length_map,Nat.mul_one]at hl;rcases h.2 with⟨rfl,rfl⟩|⟨g,cap,cur,rfl,h2,h3,h4,h5,h6,h7⟩
 ·refine(AnyE.slices_Clone_nil Tryz.laysCln 0 0 w).mono ?_;rintro e w' ⟨rfl,rfl⟩;have ht:fs=[]:=List.length_eq_zero_iff.1 hl;subst ht;exact⟨_,rfl,World.ownsRow_nil _ _ _ _,Below.refl _ _⟩
 ·refine(AnyE.slices_Clone Tryz.laysCln i0 (.int .u8 0) 1 1 hi hz0 hz1 hz2 rfl (by decide) Tryz.sizeOf5 g 0 n cap (fs.map ub) w (by rw[List.length_map,Nat.mul_one];exact hl) (by unfold maxLen;omega) (by omega) (fun j u hj=>?_) (acN fs)).mono ?_
  ·have:=ab7 h j u hj;rw[aof]at this
   rw[Nat.zero_add];exact this
  ·rintro e w' ⟨v',rfl,ho,_,bl⟩;exact⟨v',rfl,ho,bl⟩
theorem aog (l:List UInt8)(hs:Srt l)(hl:Lets l):lets (setN l) 26=l:=by
 refine acP ?_ hs fun x=>?_
 ·unfold lets Srt;rw[List.pairwise_map];refine List.Pairwise.imp_of_mem ?_ (List.Pairwise.filter _ List.pairwise_lt_range);intro a b ha hb hab;have ha':=(List.mem_filter.1 ha).1;have hb':=(List.mem_filter.1 hb).1;rw[List.mem_range]at ha' hb';rw[abO,UInt8.toNat_ofNat',UInt8.toNat_ofNat'];omega
 ·unfold lets;rw[List.mem_map];constructor
  ·rintro⟨i,hi,rfl⟩;obtain⟨h1,h2⟩:=List.mem_filter.1 hi;rw[List.mem_range]at h1;obtain⟨d,hd,e⟩:=(aaF l hl i).1 h2;rw[show UInt8.ofNat (97+i)=d from u8_ext (by rw[UInt8.toNat_ofNat'];omega)];exact hd
  ·intro hx;have:=hl x hx;refine⟨x.toNat - 97,List.mem_filter.2 ⟨List.mem_range.2 (by omega),(aaF l hl _).2 ⟨x,hx,by omega⟩⟩,u8_ext ?_⟩;rw[UInt8.toNat_ofNat'];omega
theorem adQ {t:Tm}(h:FitX t)(hn:∀p q,t≠.sum p q):Fit t:=by
 rcases h with h|⟨p,q,e,_⟩
 ·exact h
 ·exact absurd e (hn p q)
theorem asI (n:Nat)(once:Bool)(ih:∀(t:Tm) (tk:List UInt8),t.size<=n->t.size<=121->FitT t->Plain t->t.ok nmE=true->(whl n once t tk).1.ok nmE=true) (T:Tm)(tk:List UInt8)(hn:T.size<=n+1)(h121:T.size<=121)(hw:Thw T)(hf:FitX T)(hp:Plain T)(ho:T.ok nmE=true):(thS (whl n once) T tk).1.ok nmE=true:=by
 cases T with
 | nil=>exact hw.elim
 | par p q=>exact hw.elim
 | own x p=>exact hw.elim
 | snd a b p=>
  have hF:=adQ hf (by intros;simp);simp only[Tm.ok,bae]at ho;simp only[thS,Tm.ok,bae];simp only[Tm.size]at hn h121;exact⟨ho.1,ih p tk (by omega) (by omega) (.inl (aa0 hF (by simp only[Tm.bdp];try omega) fun z hz=>by rw[mf_snd];grind)) (fun z hz=>hp z (by rw[mf_snd];simp only[Tm.bnd];grind)) ho.2⟩
 | tau p=>
  have hF:=adQ hf (by intros;simp);simp only[Tm.ok]at ho;simp only[thS,Tm.ok];simp only[Tm.size]at hn h121;exact ih p tk (by omega) (by omega) (.inl (aa0 hF (by simp only[Tm.bdp];try omega) fun z hz=>by rw[mf_tau];exact hz)) (fun z hz=>hp z (by rw[mf_tau];simp only[Tm.bnd];exact hz)) ho
 | rep p=>
  have hF:=adQ hf (by intros;simp);simp only[Tm.ok]at ho;simp only[thS,Tm.ok];simp only[Tm.size]at hn h121;exact ih p tk (by omega) (by omega) (.inl (aa0 hF (by simp only[Tm.bdp];try omega) fun z hz=>by rw[mf_rep];exact hz)) (fun z hz=>hp z (by rw[mf_rep];simp only[Tm.bnd];exact hz)) ho
 | mat a b p=>
  have hF:=adQ hf (by intros;simp);simp only[Tm.ok,bae]at ho;simp only[Tm.size]at hn h121;have:=ih p tk (by omega) (by omega) (.inl (aa0 hF (by simp only[Tm.bdp];try omega) fun z hz=>by rw[mf_mat];grind)) (fun z hz=>hp z (by rw[mf_mat];simp only[Tm.bnd];grind)) ho.2;simp only[thS]
  split<;>simp only[Tm.ok,bae]
  ·exact⟨⟨ho.1.2,ho.1.1⟩,this⟩
  ·exact⟨ho.1,this⟩
 | rcv a x p=>
  have hF:=adQ hf (by intros;simp);have hfp:Fit p:=acA (x:=x) hF (by simp only[Tm.bdp];try omega) (fun z hz=>by rw[mf_rcv];grind);simp only[Tm.ok,bae]at ho;simp only[thS,Tm.ok,bae];simp only[Tm.size]at hn h121
  have hpx:∀z,z∈p.free\/z∈p.bnd->¬aaX z:=fun z hz=>by
   by_cases c:z=x
   ·exact hp z (.inr (by simp[Tm.bnd,c]))
   ·exact hp z (by rw[mf_rcv];simp only[Tm.bnd,List.mem_cons];grind)
  refine⟨⟨ho.1.1,acv tk⟩,ih _ _ (by rw[R_size];omega) (by rw[R_size];omega) (.inl (ae6 hfp _ _)) (fun z hz=>?_) (ad2 _ _ _ _ ho.2 (acv tk))⟩;rcases R_names hfp x (fresh tk) z hz with h|h|h
  ·exact hpx z h
  ·rw[h];exact acC tk
  ·exact h
 | sum p q=>
  show (joinR .sum (srtT ((Tm.sums (Tm.sum p q).size (Tm.sum p q)).map fun q=>(whl n once q tk).1))).ok nmE=true;refine ajV _ fun t ht=>?_;rw[aaV]at ht;obtain⟨r,hr,rfl⟩:=List.mem_map.1 ht;obtain⟨f1,f2,f3⟩:=ago _ _ ho hf hp r hr;have hpe:(Tm.sum p q).peel=.sum p q:=ae8 _ hw
  have hsub:r.size<(Tm.sum p q).size:=by
   have e:(Tm.sum p q).size=(p.size+q.size)+1:=rfl;rw[e]at hr ⊢;unfold Tm.sums at hr;rw[hpe]at hr;simp only[lma]at hr;have hq1:=aaq q;have hp1:=aaq p;rcases hr with h|h
   ·have:=(adJ h).2;have:=(aeh (p.size+q.size) p).2;omega
   ·have:=(adJ h).2;have:=(aeh (p.size+q.size) q).2;omega
  exact ih r tk (by omega) (by omega) f2 f3 f1
theorem asJ (n:Nat):∀(once:Bool) (t:Tm) (tk:List UInt8),t.size<=n->t.size<=121->FitT t->Plain t->t.ok nmE=true->(whl n once t tk).1.ok nmE=true:=by
 induction n with
 | zero=>intro once t tk h;have:=aaq t;omega
 | succ n ih=>
  intro once t tk hn h121 hf hp ho;obtain⟨g89,gfa⟩:=agn h121 hf hp;have gok:=ajS t.size 0 t ho g89;unfold whl
  split
  ·rfl
  ·split
   ·rfl
   ·rename_i hne h5
    generalize (gath t.size 0 t).2=mm at *
    generalize (gath t.size 0 t).1=TT at *
    have hTT:TT≠[]:=by simpa using hne
    simp only;refine ag7 _ (afi mm tk) ?_
    have hone:(if once=true then (ords mm).take 1 else ords mm)≠[]:=by
     have:=acT mm (by omega)
     split
     ·intro e;rw[List.take_eq_nil_iff]at e;simp at e;exact this e
     ·exact this
    have hOm:∀o∈(if once=true then (ords mm).take 1 else ords mm),o.length=mm/\o.Nodup/\∀i,i∈o↔i<mm:=fun o h1=>by
     refine ack mm (by omega) o ?_
     split at h1
     ·exact List.mem_of_mem_take h1
     ·exact h1
    have hm:=acr ((if once=true then (ords mm).take 1 else ords mm).map fun o=>joinR .par (srtT (TT.map fun T=>(thS (whl n once) (nmG o (nexts tk mm) T) (allT tk mm)).1))) (by simpa using hone);obtain⟨o,ho',e⟩:=List.mem_map.1 hm;rw[<-e];refine ag8 _ fun t' ht=>?_;rw[aaV]at ht;obtain⟨T,hT,rfl⟩:=List.mem_map.1 ht;obtain⟨o1,o2,o3⟩:=hOm o ho';obtain⟨b1,b2,b3,b4,b5,b6⟩:=gfa T hT;have hnl:=abu mm tk;have hoi:∀i∈o,i<90:=fun i hi=>by have:=(o3 i).1 hi;omega
    have hz:Fit T\/o=[]:=b2.imp id fun h=>List.length_eq_zero_iff.1 (by omega);obtain⟨k1,k2,k3⟩:=afc o (nexts tk mm) T (by omega) hoi (afi mm tk) hz b1 (gok T hT) b4;have kl:=ag5 o (nexts tk mm) T;exact asI n once (ih once) _ _ (by omega) (by omega) k3 k1 (afd o (nexts tk mm) T (by omega) o2 hoi (acD mm tk) hz (fun z hz=>(b5 z hz).imp id fun ⟨j,hj,e⟩=>⟨j,(o3 j).2 hj,e⟩) b6) k2
end Go.Proofs.YtalegefnppbkdaaGreat.T1
