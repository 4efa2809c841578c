/- Texts of the proof. No conditions. -/
import Derived.Test.YtihmcgcgjmbmhaaGreatQao
import Derived.Maps.Own
import Derived.Maps.OwnSet
import Derived.Maps.RangeRun
import Derived.Sort.KeysCollected
import Derived.Shelf.SlIter.Nil
import Derived.Ground.GgzProg
import Derived.Shelf.SortM.Plain
import Derived.Shelf.SortM.SortNone
import Derived.Ground.SlgmProg
namespace Go.Proofs.YtihmcgcgjmbmhaaGreat.T1
open Go.Proofs.Tryz
set_option maxHeartbeats 8000000
open Go.RowKit
set_option maxRecDepth 100000
set_option linter.unusedVariables false
set_option linter.unusedSimpArgs false
def offCs (o:Off):List Value:=avz (o.k.toNat:Int) (o.a.toNat:Int) (o.b.toNat:Int) (S o.r) o.st
def OffP (T:Tm)(w:World)(e:Ending)(w':World):Prop:=
 (offs T=[]/\e=.returned (.slice none 0 0)/\Zb w w')\/arD ((offs T).flatMap offCs) (offs T).length w e w'
def ayy (T:Tm)(w:World)(e:Ending)(w':World):Prop:=∃v,e=.returned v/\w'.ownsRow w.heap.size 98 5 v (offs T).length ((offs T).flatMap offCs)/\Zb w w'
theorem OffP.q {T:Tm}{w:World}{e:Ending}{w':World}(h:OffP T w e w'):ayy T w e w':=by
 rcases h with⟨h1,h2,h3⟩|⟨g,c,h1,h2,h3⟩
 ·exact⟨_,h2,by rw[h1];exact World.ownsRow_nil _ _ _ _,h3⟩
 ·exact⟨_,h1,h2,h3⟩
theorem aiU {w:World}{base n k:Nat}{e:TypeId}{v:Value}{xs:List Value}(h:w.ownsRow base e k v n xs):∃p cap,v=.slice p n cap:=by
 rcases h.2 with⟨h1,h2⟩|⟨g,cap,cur,h1,_⟩
 ·exact⟨_,_,by rw[h1,h2]⟩
 ·exact⟨_,_,h1⟩
theorem apo {w:World}{base n cap k:Nat}{e:TypeId}{p:Option Addr}{xs:List Value}(h:w.ownsRow base e k (.slice p n cap) n xs)(hn:0<n):∃g,p=some ⟨g,0,none⟩/\base<=g/\g<w.heap.size/\n<=cap/\∀j u,xs[j]?=some u->w.cell? ⟨g,j,none⟩=some u:=by
 rcases h.2 with⟨h1,h2⟩|⟨g,cap',cur,h1,h2,h3,h4,_⟩
 ·omega
 ·have h1':=h1
  injection h1 with e1 e2 e3
  subst e1 e3;refine⟨g,rfl,h2,lt_of_block h3,h4,fun j u hj=>?_⟩;have:=aeI h j u hj;have e2:(Addr.add ⟨g,0,none⟩ j)=⟨g,j,none⟩:=by cases j<;>simp[Addr.add]
  rw[e2]at this;exact this
theorem apq (l:List Off):∀(i:Nat) (h:i<l.length),(l.flatMap offCs)[i * 5]?=some (.int .u8 (l[i].k.toNat:Int))/\(l.flatMap offCs)[i * 5+1]?=some (.int .u8 (l[i].a.toNat:Int))/\(l.flatMap offCs)[i * 5+2]?=some (.int .u8 (l[i].b.toNat:Int))/\(l.flatMap offCs)[i * 5+3]?=some (.string (S l[i].r))/\(l.flatMap offCs)[i * 5+4]?=some (.bool l[i].st):=by
 induction l with
 | nil=>intro i h;simp at h
 | cons x l ih=>
  intro i h
  cases i with
  | zero=>exact⟨rfl,rfl,rfl,rfl,rfl⟩
  | succ i=>
   have hl:(offCs x).length=5:=rfl
   have e:∀j,((x::l).flatMap offCs)[(i+1) * 5+j]?=(l.flatMap offCs)[i * 5+j]?:=fun j=>by
    rw[List.flatMap_cons,List.getElem?_append_right (by omega)];congr 1;omega
   have h0:=e 0;simp only[Nat.add_zero]at h0;rw[h0,e 1,e 2,e 3,e 4];exact ih i (by simpa using h)
def tvS (t:Tm):Value:=.string (S t)
theorem ahN {w:World}{base n:Nat}{v:Value}{L:List Tm}(h:w.ownsRow base 9 1 v n (L.map tvS))(hn:n=L.length) : ∃(p:Option Addr) (cap:Nat),v=.slice p n cap/\∀j (hj:j<L.length),∃g,p=some ⟨g,0,none⟩/\w.cell? ⟨g,j,none⟩=some (.string (S L[j]))/\base<=g:=by
 obtain⟨h1,h2⟩:=h;rcases h2 with⟨h2,h3⟩|⟨g,cap,cur,h2,hb,hg,_,_,hc,ht⟩
 ·exact⟨none,0,by rw[h2,h3],fun j hj=>by omega⟩
 ·refine⟨_,cap,h2,fun j hj=>⟨g,rfl,?_,hb⟩⟩;have e:(cur.toList.take (n * 1))[j]?=some (tvS L[j]):=by rw[ht];rw[List.getElem?_map,List.getElem?_eq_getElem hj];rfl
  rw[List.getElem?_take]at e
  split at e
  ·rw[cell_of_row w g j cur _ _ hg];simpa [tvS] using e
  ·cases e
theorem aul {w:World}{base base':Nat}{e:TypeId}{size:Nat}{v:Value}{n:Nat}{xs:List Value}(h:w.ownsRow base' e size v n xs)(hb:base<=base'):w.ownsRow base e size v n xs:=
 ⟨h.1,h.2.imp id fun ⟨g,cap,cur,a,b,c⟩=>⟨g,cap,cur,a,Nat.le_trans hb b,c⟩⟩
theorem arE {a b:ByteArray}(h:¬a=b):(a.toList==b.toList)=false:=by
 rw[beq_eq_false_iff_ne];intro e;rw[ByteArray.toList_eq,ByteArray.toList_eq]at e
 apply h
 cases a;cases b;congr;exact Array.toList_inj.1 e
theorem apr {L:List Tm}{k:Nat}(h:k<L.length):(L.take (k+1)).foldl onceStep []=onceStep ((L.take k).foldl onceStep []) L[k]:=by
 rw[List.take_succ_eq_append_getElem h,List.foldl_append];rfl
theorem akS (L:List Tm):∀out:List Tm,(L.foldl onceStep out).length<=out.length+L.length:=by
 induction L with
 | nil=>intro out;simp
 | cons a L ih=>
  intro out;have:=ih (onceStep out a);have h2:(onceStep out a).length<=out.length+1:=by unfold onceStep;split<;>simp
  simp only[List.foldl_cons,List.length_cons];omega
theorem arF (L:List Tm):∀{t:Tm} (out:List Tm),t∈L.foldl onceStep out->t∈out\/t∈L:=by
 induction L with
 | nil=>intro t out h;exact .inl h
 | cons a L ih=>
  intro t out h;rcases ih (onceStep out a) h with h|h
  ·unfold onceStep at h;split at h
   ·exact .inl h
   ·rcases lma.1 h with h|h
    ·exact .inl h
    ·rw[List.mem_singleton.1 h];exact .inr (by simp)
  ·exact .inr (by simp[h])
theorem aps (v0:Value)(L:List Tm)(hl:L.length<=1000)(inj:∀a∈L,∀b∈L,S a=S b->a=b)(w:World) (H0:Calls prog 50 #[v0] w fun e w'=>∃v,e=.returned v/\w'.ownsRow w.heap.size 9 1 v L.length (L.map tvS)/\Zb w w') : Calls prog 78 #[v0] w fun e w'=>∃v,e=.returned v/\w'.ownsRow w.heap.size 9 1 v (ajC L).length ((ajC L).map tvS)/\Zb w w':=by
 obtain⟨i0,hi,hz0,hz1,hz2⟩:=info_parts Tryz.infoS;have H:=qz H0;have IN:=qz inj;clear H0 inj
 go_enter func78,ntmps78
 go_wp2_with fail;with_reducible refine H.out.mono ?_
 rintro e w1 ⟨v7,rfl,ow,b1⟩;obtain⟨p7,c7,rfl,hcell⟩:=ahN ow rfl;have HC:=qz hcell;clear hcell ow H;have h1s:=b1.size;go_wp2_with fail
 go_loopw [3,9] (fun v c wr=>∃k:Nat,k<=L.length/\c=.int .i64 (k:Int)/\Hid (wr.ownsRow w1.heap.size 9 1 v ((L.take k).foldl onceStep []).length (((L.take k).foldl onceStep []).map tvS))/\Zb w1 wr) (fun _ c _=>L.length - (intOf c).toNat)
 case atStart=>exact⟨0,Nat.zero_le _,rfl,World.ownsRow_nil _ _ _ _,Below.refl _ _⟩
 case round=>
  obtain⟨k,hk,rfl,hown,hbw⟩:=hrel
  by_cases hlt:k<L.length
  ·obtain⟨g,rfl,hc0,hgb⟩:=HC.out k hlt;have hsz:=hbw.size;have c1:wr.cell? ⟨g,k,none⟩=some (.string (S L[k])):=(hbw.cell (p:=⟨g,k,none⟩) (aad hc0)).trans hc0;have NX:=qz (apr hlt);have hln:=akS (L.take k) [];have hsub:∀t∈(L.take k).foldl onceStep [],t∈L:=fun t ht=>List.mem_of_mem_take ((arF _ [] ht).resolve_left (by simp));have hkl:(L.take k).length=k:=by rw[List.length_take];omega
   obtain⟨O,hO⟩:∃O,O=(L.take k).foldl onceStep []:=⟨_,rfl⟩;rw[<-hO]at hown hln hsub NX;obtain⟨T,hT⟩:∃T,T=L[k]:=⟨_,rfl⟩;rw[<-hT]at c1 NX;have hTm:T∈L:=by rw[hT];exact List.getElem_mem _
   simp only[List.length_nil,Nat.zero_add]at hln;clear hc0 hO hT
   -- what an append comes to
   have APP:Hid (onceStep O T=O++[T]->∀(v1:Value) (w2:World),w2.ownsRow w1.heap.size 9 1 v1 (O.length+1) (O.map tvS++[.string (S T)])->w2.ownsRow w1.heap.size 9 1 v1 ((L.take (k+1)).foldl onceStep []).length (((L.take (k+1)).foldl onceStep []).map tvS)):=fun e v1 w2 h=>by
    rw[NX.out,e,List.map_append,lla];exact h
   rcases Nat.eq_zero_or_pos O.length with h00|hpos
   ·have hOe:O=[]:=List.length_eq_zero_iff.1 h00;clear h00;subst hOe;have eA:onceStep ([]:List Tm) T=[]++[T]:=by simp[onceStep]
    obtain⟨p3,c3,hv3,_⟩:=ahN (L:=[]) hown.out rfl;subst hv3
    go_wp2_with (at_builtin;refine wpList_append_own_at _ rfl (.tmp 26) (.tmp 28) 22 rfl w1.heap.size 9 i0 (.string ⟨#[]⟩) 1 16 underlying22 hi hz0 hz1 hz2 rfl (by decide) _ _ _ rfl (hown.out.alloc _) ⟨wr.heap.size,0,none⟩ 1 1 [.string (S T)] rfl rfl (aaR wr [.string (S T)] 9) (fun u hu=>by simp at hu;subst hu;rfl) ?c2 ?c3 ?c4 ?_)
    case c2=>unfold maxLen;simp
    case c3=>simp
    case c4=>simp;omega
    intro v1 w2 hown1 hgrow1 _ hat;have hbw1:Zb w1 w2:=Below.grown (hbw.alloc hsz _) hgrow1 (by simp;omega) (fun i hi=>(hown.out.lt i hi).1);have hfin:=qz (APP.out eA v1 w2 hown1);clear hown1 hgrow1 hat hown APP;go_wp2_with fail
    go_roundw
    case rel=>exact⟨k+1,by omega,by push_cast;rfl,hfin,hbw1⟩
    case measure=>simp[intOf];omega
   ·obtain⟨Z,hZ⟩:∃Z,O.getLast?=some Z:=by
     cases h:O.getLast? with
     | none=>rw[List.getLast?_eq_none_iff]at h;subst h;simp at hpos
     | some z=>exact⟨z,rfl⟩
    have hZm:Z∈O:=List.mem_of_getLast? hZ;have hZi:O[O.length - 1]?=some Z:=by rw[<-List.getLast?_eq_getElem?];exact hZ
    obtain⟨p3,cp3,hv3,hc3⟩:=ahN hown.out rfl;subst hv3;obtain⟨g3,rfl,hz3,_⟩:=hc3 (O.length - 1) (by omega)
    have hzz:O[O.length - 1]=Z:=by
     have:=List.getElem?_eq_getElem (l:=O) (i:=O.length - 1) (by omega);rw[hZi]at this;exact(Option.some.inj this).symm
    rw[hzz]at hz3;have q0:¬((O.length:Int)=0):=by omega
    have q1:((O.length:Int)==0)=false:=beq_eq_false_iff_ne.2 q0;have q2:IntKind.i64.wrap ((O.length:Int) - 1)=(O.length:Int) - 1:=IntWalk.i64_in _ (by omega);have q3:(0:Int)<=(O.length:Int) - 1:=by omega
    have q4:(O.length:Int) - 1<(O.length:Int):=by omega
    have q5:((O.length:Int) - 1).toNat=O.length - 1:=by omega
    by_cases e:Z=T
    ·subst e;have eA:onceStep O Z=O:=by unfold onceStep;rw[if_pos hZ]
     have hfin:Hid (wr.ownsRow w1.heap.size 9 1 (.slice (some ⟨g3,0,none⟩) O.length cp3) ((L.take (k+1)).foldl onceStep []).length (((L.take (k+1)).foldl onceStep []).map tvS)):=by
      rw[NX.out,eA];exact hown
     clear hown APP;go_wp2_with fail
     go_roundw
     case rel=>exact⟨k+1,by omega,by push_cast;rfl,hfin,hbw⟩
     case measure=>simp[intOf];omega
    ·have eA:onceStep O T=O++[T]:=by unfold onceStep;rw[if_neg (fun h=>e (Option.some.inj (hZ.symm.trans h)))]
     have hne:¬(S Z=S T):=fun h=>e (IN.out Z (hsub Z hZm) T hTm h);have hne2:((S Z).toList==(S T).toList)=false:=arE hne
     go_wp2_with (at_builtin;refine wpList_append_own_at _ rfl (.tmp 26) (.tmp 28) 22 rfl w1.heap.size 9 i0 (.string ⟨#[]⟩) 1 16 underlying22 hi hz0 hz1 hz2 rfl (by decide) _ _ _ rfl (hown.out.alloc _) ⟨wr.heap.size,0,none⟩ 1 1 [.string (S T)] rfl rfl (aaR wr [.string (S T)] 9) (fun u hu=>by simp at hu;subst hu;rfl) ?c2 ?c3 ?c4 ?_)
     case c2=>unfold maxLen;omega
     case c3=>omega
     case c4=>simp;omega
     intro v1 w2 hown1 hgrow1 _ hat;have hbw1:Zb w1 w2:=Below.grown (hbw.alloc hsz _) hgrow1 (by simp;omega) (fun i hi=>(hown.out.lt i hi).1);have hfin:=qz (APP.out eA v1 w2 hown1);clear hown1 hgrow1 hat hown APP;go_wp2_with fail
     go_roundw
     case rel=>exact⟨k+1,by omega,by push_cast;rfl,hfin,hbw1⟩
     case measure=>simp[intOf];omega
  ·obtain rfl:k=L.length:=by omega
   have hfin:=hown.out;rw[List.take_length]at hfin;clear hown;go_wp2_with fail;go_ret;exact⟨_,rfl,aul hfin h1s,b1.trans (hbw.mono h1s)⟩
structure Fr (w0 w:World) (ob:Option Nat) (v:Value):Prop where
 grow:w0.grownBy w ob
 blk:v.ownBlock=ob\/∀k,v.ownBlock=some k->w0.heap.size<=k
theorem ajF {w w':World}(b:Zb w w')(r:Option Nat):w.grownBy w' r:=⟨b.os,b.tape,b.output,b.size,fun k hk _=>b.block k hk⟩
theorem Fr.refl (w:World)(v:Value):Fr w w v.ownBlock v:=⟨⟨rfl,rfl,rfl,nl _,fun _ _ _=>rfl⟩,.inl rfl⟩
theorem Fr.below {w0 w w':World}{ob:Option Nat}{v:Value}(h:Fr w0 w ob v)(b:Zb w w'):Fr w0 w' ob v:=⟨h.grow.trans (ajF b ob),h.blk⟩
theorem Fr.alloc {w0 w:World}{ob:Option Nat}{v:Value}(h:Fr w0 w ob v)(o:Obj):Fr w0 (w.alloc o) ob v:=h.below ((Below.refl _ _).alloc (nl _) o)
theorem Fr.comp {w0 w w':World}{ob:Option Nat}{v v':Value}(h:Fr w0 w ob v)(k:Fr w w' v.ownBlock v'):Fr w0 w' ob v':=by
 have hr:∀j,v.ownBlock=some j->w0.heap.size<=j\/ob=some j:=fun j e=>by
  rcases h.blk with h1|h1
  ·exact .inr (h1▸e)
  ·exact .inl (h1 j e)
 refine⟨h.grow.andThen k.grow hr,?_⟩;rcases k.blk with h1|h1
 ·rw[h1];exact h.blk
 ·exact .inr fun j e=>Nat.le_trans h.grow.size (h1 j e)
theorem Fr.app {w0 w w':World}{ob:Option Nat}{v v':Value}(h:Fr w0 w ob v)(k:w.grownBy w' v.ownBlock)(hb:v'.ownBlock=v.ownBlock\/v'.ownBlock=some w.heap.size):Fr w0 w' ob v':=
 h.comp ⟨k,hb.imp id fun e j hj=>by rw[e]at hj;cases hj;exact nl _⟩
theorem Fr.cell {w0 w:World}{ob:Option Nat}{v x:Value}{p:Addr}(h:Fr w0 w ob v)(hp:w0.cell? p=some x)(hne:ob≠some p.block):w.cell? p=some x:=h.grow.cell hp (fun e=>hne e.symm)
theorem Fr.to {B:Nat}{W w0 w:World}{ob:Option Nat}{v:Value}(b:Below B W w0)(h:Fr w0 w ob v)(hb:∀k,ob=some k->B<=k)(hB:B<=w0.heap.size):Below B W w:=aaB b h.grow hb hB
theorem Fr.size {w0 w:World}{ob:Option Nat}{v:Value}(h:Fr w0 w ob v):w0.heap.size<=w.heap.size:=h.grow.size
def Acc (okR:Tm->Bool)(resB:Tm->ByteArray)(base:Nat)(L:List Tm)(f:Bool)(v:Value)(w:World):Prop:=
 f=L.all okR/\w.ownsRow base 9 1 v L.length (L.map fun t=>Value.string (resB t))
theorem Acc.below {okR:Tm->Bool}{resB:Tm->ByteArray}{base:Nat}{L:List Tm}{f:Bool}{v:Value}{w w':World}(h:Acc okR resB base L f v w)(b:Zb w w'):Acc okR resB base L f v w':=⟨h.1,aan h.2 b⟩
theorem Acc.alloc {okR:Tm->Bool}{resB:Tm->ByteArray}{base:Nat}{L:List Tm}{f:Bool}{v:Value}{w:World}(h:Acc okR resB base L f v w)(o:Obj):Acc okR resB base L f v (w.alloc o):=h.below ((Below.refl _ _).alloc (nl _) o)
theorem Acc.lt {okR:Tm->Bool}{resB:Tm->ByteArray}{base:Nat}{L:List Tm}{f:Bool}{v:Value}{w:World}(h:Acc okR resB base L f v w):∀k,v.ownBlock=some k->base<=k/\k<w.heap.size:=fun k e=>h.2.lt k e
theorem ahO {okR:Tm->Bool}{resB:Tm->ByteArray}{base:Nat}{L:List Tm}{f:Bool}{v:Value}{w:World}{m:Tm}(hf:f=L.all okR)(h:w.ownsRow base 9 1 v (L.length+1) ((L.map fun t=>Value.string (resB t))++[.string (resB m)])):Acc okR resB base (L++[m]) (f && okR m) v w:=
 ⟨by rw[List.all_append,<-hf];simp,by rw[lla,List.map_append];exact h⟩
theorem abh (w:World)(xs:Array Value)(T:TypeId)(j:Nat)(x:Value)(h:xs[j]?=some x):(w.alloc (.cells xs T)).cell? ⟨w.heap.size,j,none⟩=some x:=by
 simp only[World.cell?,heap_alloc_new];simpa using h
theorem abf {w:World}{p:Addr}{x:Value}(h:w.cell? p=some x)(o:Obj):(w.alloc o).cell? p=some x:=by
 have hl:p.block<w.heap.size:=World.block_lt_of_cell? w p h;exact(((Below.refl w.heap.size w).alloc (nl _) o).cell hl).trans h
theorem aum (w:World)(o:Obj):Zb w (w.alloc o).drew:=((Below.refl _ _).alloc (nl _) o).drew
theorem amc {w:World}{b:Nat}{x:Value}(h:w.cell? ⟨b,0,none⟩=some x):∀j u,[x][j]?=some u->w.cell? ((⟨b,0,none⟩:Addr).add j)=some u:=by
 intro j u hj
 cases j with
 | zero=>simp only[List.getElem?_cons_zero,Option.some.injEq]at hj;subst hj;exact h
 | succ j=>simp at hj
theorem TxA.alloc {w:World}{g:Nat}{us:List Tm}(h:TxA w g us)(o:Obj):TxA (w.alloc o) g us:=fun j hj=>abf (h j hj) o
theorem ahP (l:List Tm):∀u∈l.map tvS,u.oneCell'=true:=by
 intro u hu;obtain⟨t,_,rfl⟩:=List.mem_map.1 hu;rfl
theorem arG {α:Type}(l:List α)(k:Nat)(h:k<l.length)(p:α->Bool)(f:α->Tm):((l.take (k+1)).filter p).map f=((l.take k).filter p).map f++(if p l[k]=true then [f l[k]] else []):=by
 rw[List.take_succ_eq_append_getElem h,List.filter_append,List.map_append];congr 1
 by_cases c:p l[k]=true
 ·rw[if_pos c,List.filter_cons_of_pos c];rfl
 ·rw[if_neg c,List.filter_cons_of_neg c];rfl
theorem aun {α:Type}(l:List α)(k:Nat)(p:α->Bool)(f:α->Tm):(((l.take k).filter p).map f).length<=((l.filter p).map f).length:=by
 rw[List.length_map,List.length_map];exact((List.take_sublist k l).filter p).length_le
theorem arH {fr:List UInt8}{us:List Tm}{i:Nat}(hi:i<us.length){o:Off}(ho:o∈offs us[i])(hk:o.k=126):tR fr (woF 0 us i i++[o.r])∈outs fr us:=by
 have e:us.getD i .nil=us[i]:=by rw[List.getD_eq_getElem?_getD,List.getElem?_eq_getElem hi];rfl
 refine List.mem_flatMap.2 ⟨i,List.mem_range.2 hi,List.mem_flatMap.2 ⟨o,by rw[e];exact ho,?_⟩⟩;unfold ad_;rw[if_pos hk];exact List.mem_singleton.2 rfl
theorem apu {fr:List UInt8}{us:List Tm}{i j:Nat}(hi:i<us.length)(hj:j<us.length)(hij:j≠i){o r:Off}(ho:o∈offs us[i])(hk:o.k=33)(hr:r∈offs us[j])(hr1:r.k=63)(hr2:r.a=o.a) : tR fr (woF 0 us i j++[o.r,R r.r r.b o.b]++(if r.st=true then [us[j]] else []))∈outs fr us:=by
 have e:us.getD i .nil=us[i]:=by rw[List.getD_eq_getElem?_getD,List.getElem?_eq_getElem hi];rfl
 have e2:us.getD j .nil=us[j]:=by rw[List.getD_eq_getElem?_getD,List.getElem?_eq_getElem hj];rfl
 refine List.mem_flatMap.2 ⟨i,List.mem_range.2 hi,List.mem_flatMap.2 ⟨o,by rw[e];exact ho,?_⟩⟩;unfold ad_;rw[if_neg (by rw[hk];decide),if_pos hk];refine List.mem_flatMap.2 ⟨j,List.mem_range.2 hj,?_⟩;unfold aiP;rw[if_neg hij,e2];refine List.mem_map.2 ⟨r,List.mem_filter.2 ⟨hr,by simp[hr1,hr2]⟩,?_⟩;unfold afT;rw[e2]
theorem aeJ (n:Nat)(f:Nat->List Tm):(List.range (n+1)).flatMap f=(List.range n).flatMap f++f n:=by
 rw[List.range_succ,List.flatMap_append];simp
theorem aiV {α:Type}(l:List α)(k:Nat)(h:k<l.length)(f:α->List Tm):(l.take (k+1)).flatMap f=(l.take k).flatMap f++f l[k]:=by
 rw[List.take_succ_eq_append_getElem h,List.flatMap_append];simp
theorem aiW (n m:Nat)(h:n<=m)(f:Nat->List Tm):((List.range n).flatMap f).length<=((List.range m).flatMap f).length:=by
 obtain⟨d,rfl⟩:=Nat.exists_eq_add_of_le h
 induction d with
 | zero=>exact nl _
 | succ d ih=>
  have:=ih (by omega);rw[<-Nat.add_assoc,aeJ];rw[lla];omega
theorem arI {α:Type}(l:List α)(k:Nat)(f:α->List Tm):((l.take k).flatMap f).length<=(l.flatMap f).length:=by
 conv=>rhs;rw[<-List.take_append_drop k l,List.flatMap_append,lla]
 omega
structure NxC (X Y:ByteArray) (fr:List UInt8) (us:List Tm) (okR:Tm->Bool) (resB:Tm->ByteArray):Prop where
 n2:Ze 72 #[.string X] (.tuple #[.string (B fr),.string Y])
 n3:∀w,Calls prog 73 #[.string X] w fun e w'=>∃v,e=.returned v/\w'.ownsRow w.heap.size 9 1 v us.length (us.map tvS)/\Zb w w'
 n4:∀T∈us,(offs T).length<=1000/\∀w,Calls prog 74 #[.string (S T)] w (ayy T w)
 n5:∀i j,i<us.length->j<us.length->∀g cap w,TxA w g us->Calls prog 76 #[.slice (some ⟨g,0,none⟩) us.length cap,.int .i64 (i:Int),.int .i64 (j:Int)] w fun e w'=>∃v,e=.returned v/\w'.ownsRow w.heap.size 9 1 v (woF 0 us i j).length ((woF 0 us i j).map tvS)/\Zb w w'
 n6:∀L,tR fr L∈outs fr us->∀base v w,w.ownsRow base 9 1 v L.length (L.map tvS)->Calls prog 75 #[.string (B fr),v] w fun e w'=>e=.returned (.tuple #[.string (resB (tR fr L)),.bool (okR (tR fr L))])/\Zb w w'
 n7:∀U∈us,∀r∈offs U,r.k=63->∀T∈us,∀o∈offs T,o.k=33->Zr 77 #[.string (S r.r),.int .u8 (r.b.toNat:Int),.int .u8 (o.b.toNat:Int)] (.string (S (R r.r r.b o.b)))
theorem apv (X Y:ByteArray)(fr:List UInt8)(us:List Tm)(okR:Tm->Bool)(resB:Tm->ByteArray)(hu:us.length<=300)(hfew:(outs fr us).length<=900)(C:NxC X Y fr us okR resB)(z:Bool)(hz:z=(outs fr us).all okR)(Q:Value->World->World->Prop) (n8:(∀t∈outs fr us,okR t=true)->∀base v w,w.ownsRow base 9 1 v (outs fr us).length ((outs fr us).map fun t=>Value.string (resB t))->Calls prog 78 #[v] w fun e w'=>∃v',e=.returned v'/\Q v' w w'/\Zb w w')(w:World) : Calls prog 46 #[.string X] w fun e w'=>((z=true/\∃v' w1,e=.returned (.tuple #[v',.bool true])/\Q v' w1 w'/\w.heap.size<=w1.heap.size)\/(z=false/\e=.returned (.tuple #[.slice none 0 0,.bool false])))/\Zb w w':=by
  obtain⟨i0,hi,hz0,hz1,hz2⟩:=info_parts Tryz.infoS;have hzz2:=hz2;have G2:=qz C.n2;have G3:=qz C.n3;have G4:=qz C.n4;have G5:=qz C.n5;have G6:=qz C.n6;have G7:=qz C.n7;have G8:=qz n8;have GZ:=qz hz;clear C n8 hz;obtain⟨F,hF⟩:∃F:Nat->List Tm,F=fun i=>(offs (us.getD i .nil)).flatMap (ad_ fr us i):=⟨_,rfl⟩;have HF:Hid (outs fr us=(List.range us.length).flatMap F):=by show _=_;rw[hF];rfl
  have HFi:Hid (∀i (h:i<us.length),F i=(offs us[i]).flatMap (ad_ fr us i)):=fun i h=>by
    rw[hF];show (offs (us.getD i .nil)).flatMap _=_;rw[List.getD_eq_getElem?_getD,List.getElem?_eq_getElem h];rfl
  clear hF
  go_enter func46,ntmps46
  go_wp2_with fail;with_reducible refine(G2.out _).mono ?_
  rintro e w2 ⟨rfl,rfl⟩;go_wp2_with fail;with_reducible refine(G3.out _).mono ?_
  rintro e w3 ⟨v3,rfl,o3,b3⟩;obtain⟨p3,c3,rfl,hc3⟩:=ahN o3 rfl;have HC:=qz hc3;have B3:=qz b3;have hz3:=b3.size;clear o3 hc3 b3;go_wp2_with fail
  go_loopg [7,8,31] us.length (fun gk s7 s8 s31 wr=>(∃(i:Nat) (f:Bool),s31=.int .i64 (i:Int)/\i+gk=us.length/\s7=.bool f/\Hid (Acc okR resB w3.heap.size ((List.range i).flatMap F) f s8 wr))/\Hid (Zb w3 wr))
  case atStart=>exact⟨⟨0,true,by congr 1,by omega,rfl,⟨rfl,World.ownsRow_nil _ _ _ _⟩⟩,Below.refl _ _⟩
  case round=>
    obtain⟨⟨i,f,rfl,hik,rfl,hacc⟩,hbw⟩:=hrel;obtain⟨GO,hGO⟩:∃G,G=gk:=⟨_,rfl⟩;have hsz:=hbw.out.size
    by_cases hlt:(i:Int)<(us.length:Int)
    · have hit:i<us.length:=by omega
      obtain⟨g3,rfl,hcell,hg3⟩:=HC.out i hit;have hg3l:g3<w3.heap.size:=aad hcell
      have HTA:Hid (TxA w3 g3 us):=fun j hj=>by
        obtain⟨g,e,hc,_⟩:=HC.out j hj
        cases e;exact hc
      obtain⟨hol,hRO⟩:=G4.out us[i] (List.getElem_mem hit);have HFI:=qz (HFi.out i hit);have HNX:=qz (aeJ i F);have HTau:Hid (∀o∈offs us[i],o.k=126->tR fr (woF 0 us i i++[o.r])∈outs fr us):=fun o ho hk=>arH hit ho hk;have HMeet:Hid (∀j (hj:j<us.length),j≠i->∀o∈offs us[i],o.k=33->∀r∈offs us[j],r.k=63->r.a=o.a->tR fr (woF 0 us i j++[o.r,R r.r r.b o.b]++(if r.st=true then [us[j]] else []))∈outs fr us):=fun j hj hij o ho hk r hr h1 h2=>apu hit hj hij ho hk hr h1 h2;have HRen:Hid (∀U∈us,∀r∈offs U,r.k=63->∀o∈offs us[i],o.k=33->Zr 77 #[.string (S r.r),.int .u8 (r.b.toNat:Int),.int .u8 (o.b.toNat:Int)] (.string (S (R r.r r.b o.b)))):=fun U hU r hr h1 o ho h2=>G7.out U hU r hr h1 us[i] (List.getElem_mem hit) o ho h2
      have HFew:Hid (((List.range i).flatMap F).length+((offs us[i]).flatMap (ad_ fr us i)).length<=900):=by
        have h1:=aiW (i+1) us.length (by omega) F;rw[<-HF.out,HNX.out,lla,HFI.out]at h1;show _<=_;omega
      obtain⟨T,hT⟩:∃T,T=us[i]:=⟨_,rfl⟩;have c1:wr.cell? ⟨g3,i,none⟩=some (.string (S T)):=(hbw.out.cell (p:=⟨g3,i,none⟩) hg3l).trans (hT▸hcell);rw[<-hT]at hol hRO HFI HTau HMeet HRen HFew;have HRO:=qz hRO;obtain⟨P,hP⟩:∃P,P=(List.range i).flatMap F:=⟨_,rfl⟩;rw[<-hP]at hacc HNX HFew;clear hcell hRO hP hT;go_wp2_with fail;with_reducible refine(HRO.out _).mono ?_
      rintro e w4 ⟨v4,rfl,o4,b4⟩;obtain⟨p4,c4,rfl⟩:=aiU o4;have hz4:=b4.size;have O4:=qz o4;have hbw4:=qz (aab hbw.out b4 hsz);have hacc4:=qz (hacc.out.below b4);have hob:Hid (∀k,u8.ownBlock=some k->w3.heap.size<=k/\k<wr.heap.size):=hacc.out.lt;obtain⟨v8,hv8⟩:∃v8,v8=u8:=⟨_,rfl⟩;have hWR:Hid (w3.heap.size<=wr.heap.size/\wr.heap.size<=w4.heap.size):=⟨hsz,hz4⟩;obtain⟨NR,hNR⟩:∃NR,NR=wr.heap.size:=⟨_,rfl⟩;rw[<-hNR]at O4 hob hWR;rw[<-hv8]at hob hacc4 ⊢;clear o4 b4 c1 hacc hbw hsz hNR hv8;go_wp2_with fail
      go_loopg [7,8,39] (offs T).length (fun gj s7 s8 s39 wr=>(∃(k:Nat) (f:Bool),s39=.int .i64 (k:Int)/\k+gj=(offs T).length/\s7=.bool f/\Hid (Acc okR resB w3.heap.size (P++((offs T).take k).flatMap (ad_ fr us i)) f s8 wr))/\Hid (Fr w4 wr v8.ownBlock s8))
      case atStart=>exact⟨⟨0,f,by congr 1,by omega,rfl,by simpa using hacc4⟩,Fr.refl w4 v8⟩
      case round=>
        obtain⟨⟨k,f,rfl,hkj,rfl,hacc⟩,hfr⟩:=hrel;obtain⟨GP,hGP⟩:∃G,G=gk:=⟨_,rfl⟩;have hsz:=hfr.out.size
        by_cases hlt2:(k:Int)<((offs T).length:Int)
        · have hkt:k<(offs T).length:=by omega
          obtain⟨g4,rfl,hh1,hh2,hh3,hcells⟩:=apo O4.out (by omega);obtain⟨x0,x1,x2,x3,x4⟩:=apq (offs T) k hkt;obtain⟨o,ho⟩:∃o,o=(offs T)[k]:=⟨_,rfl⟩;rw[<-ho]at x0 x1 x2 x3 x4;have hne4:v8.ownBlock≠some g4:=fun e=>by have:=(hob.out g4 e).2;omega
          have k0:=hfr.out.cell (hcells _ _ x0) hne4;have k1:=hfr.out.cell (hcells _ _ x1) hne4;have k2:=hfr.out.cell (hcells _ _ x2) hne4;have k3:=hfr.out.cell (hcells _ _ x3) hne4;have k4:=hfr.out.cell (hcells _ _ x4) hne4;have HOm:Hid (o∈offs T):=ho▸List.getElem_mem hkt;have HNk:Hid (((offs T).take (k+1)).flatMap (ad_ fr us i)=((offs T).take k).flatMap (ad_ fr us i)++ad_ fr us i o):=by rw[ho];exact aiV _ k hkt _
          have HLen:Hid ((P++((offs T).take (k+1)).flatMap (ad_ fr us i)).length<=900):=by
            have h1:=arI (offs T) (k+1) (ad_ fr us i);have h2:=HFew.out;show _<=_;rw[lla];omega
          obtain⟨Q1,hQ1⟩:∃Q1,Q1=P++((offs T).take k).flatMap (ad_ fr us i):=⟨_,rfl⟩;have HQ1:Hid (P++((offs T).take (k+1)).flatMap (ad_ fr us i)=Q1++ad_ fr us i o):=by show _=_;rw[HNk.out,hQ1,List.append_assoc]
          rw[<-hQ1]at hacc;rw[HQ1.out]at HLen;clear x0 x1 x2 x3 x4 hcells ho hne4 HNk hQ1
          by_cases hk:o.k=126
          · have q1:((o.k.toNat:Int)==126)=true:=by rw[hk];rfl
            have q2:((o.k.toNat:Int) != 33)=true:=by rw[hk];rfl
            have hout:ad_ fr us i o=[tR fr (woF 0 us i i++[o.r])]:=by unfold ad_;rw[if_pos hk];rfl
            rw[hout]at HQ1 HLen;have HTm:=qz (HTau.out o HOm.out hk);clear hout hk;go_wp2_with fail;obtain⟨W1,hW1⟩:∃W1,W1=wr.alloc (.cells #[.int .u8 (o.k.toNat:Int),.int .u8 (o.a.toNat:Int),.int .u8 (o.b.toNat:Int),.string (S o.r),.bool o.st] 98):=⟨_,rfl⟩;obtain⟨pO,hpO⟩:∃pO,pO=wr.heap.size:=⟨_,rfl⟩;have hpW:Hid (w4.heap.size<=pO):=by rw[hpO];exact hsz
            rw[<-hW1,<-hpO];have d0:W1.cell? ⟨pO,0,none⟩=some (.int .u8 (o.k.toNat:Int)):=by rw[hW1,hpO];exact abh wr _ _ 0 _ rfl
            have d3:W1.cell? ⟨pO,3,none⟩=some (.string (S o.r)):=by rw[hW1,hpO];exact abh wr _ _ 3 _ rfl
            have hfr1:Hid (Fr w4 W1 v8.ownBlock u8):=by rw[hW1];exact hfr.out.alloc _
            have hacc1:Hid (Acc okR resB w3.heap.size Q1 f u8 W1):=by rw[hW1];exact hacc.out.alloc _
            have hpl:pO<W1.heap.size:=aad d0;have hune:Hid (u8.ownBlock≠some pO):=fun e=>by have:=(hacc.out.lt pO e).2;omega
            have TAd:Hid (TxA W1.drew g3 us):=fun j hj=>(hfr1.out.cell ((HTA.out j hj |> fun h=>(hbw4.out.cell (p:=⟨g3,j,none⟩) hg3l).trans h)) (fun e=>by have:=(hob.out g3 e).1;omega):W1.cell? ⟨g3,j,none⟩=_);have TAd2:Hid (∀ob,TxA (W1.alloc ob).drew g3 us):=fun ob=>(TAd.out.alloc ob:TxA (W1.alloc ob) g3 us);have d3d:W1.drew.cell? ⟨pO,3,none⟩=some (.string (S o.r)):=d3;clear hW1 hpO hfr hacc k0 k1 k2 k3 k4;have hwl:(woF 0 us i i).length<=300:=Nat.le_trans (ajD us i i 0) hu;have hW1:=qz (nl W1.heap.size)
            go_region_held3 (fun w'=>w'.cell? ⟨pO,3,none⟩=some (.string (S o.r))) (first|exact d3d|exact abf d3 _|exact r3|exact abf r3 _|exact r7|exact r8)
              ((first
                | (go_at_call 76
                   go_loud (
                     (first|with_reducible refine(G5.out i i hit hit g3 c3 _ TAd.out).mono ?_|with_reducible refine(G5.out i i hit hit g3 c3 _ (TAd2.out _)).mono ?_)
                     rintro e w6 ⟨v6,rfl,o6,b6⟩;have B6:Hid (Zb W1 w6):=(by first|exact qz ((Below.drew (Below.refl _ _)).trans b6)|exact qz ((aum W1 _).trans (b6.mono (by simp))));have r3:=(B6.out.cell (p:=⟨pO,3,none⟩) hpl).trans d3;have hz6:=B6.out.size
                     try (have nw6:=(b6.cell (p:=⟨W1.heap.size,0,none⟩) (by simp)).trans (abh W1 #[.string (S o.r)] 9 0 _ rfl))
                     obtain⟨p6,c6,rfl⟩:=aaM o6;have O6:=qz (aaO (b2:=W1.heap.size) o6 (by simp))
                     clear o6 b6))
                | ((first
                     | refine step_append_lies _ (by rfl) (.tmp 51) (.tmp 54) _ (by rfl) W1.heap.size 9 i0 _ 1 16 underlying22 hi hz0 hz1 hz2 (by rfl) (by omega) _ _ _ (by rfl) (O6.out.alloc _) ⟨w6.heap.size,0,none⟩ 1 1 [.string (S o.r)] (by rfl) (by rfl) (aaR w6 [.string (S o.r)] 9) (ahP [o.r]) (by omega) (by unfold maxLen;omega) (by omega) (by simp;omega) _ rfl ?_
                     | refine step_append_lies _ (by rfl) (.tmp 51) (.tmp 54) _ (by rfl) W1.heap.size 9 i0 _ 1 16 underlying22 hi hz0 hz1 hz2 (by rfl) (by omega) _ _ _ (by rfl) O6.out ⟨W1.heap.size,0,none⟩ 1 1 [.string (S o.r)] (by rfl) (by rfl) (amc nw6) (ahP [o.r]) (by omega) (by unfold maxLen;omega) (by omega) (by omega) _ rfl ?_)
                   intro g7 c7 w7 hown7 hgrow7 hat7 hlt7;have B7:Hid (Zb W1 w7):=(by first|exact qz (aaB (aab B6.out (bra) hz6) hgrow7 (fun g e=>(O6.out.lt g e).1) (by simp;omega))|exact qz (aaB B6.out hgrow7 (fun g e=>(O6.out.lt g e).1) hz6));have r7:=(B7.out.cell (p:=⟨pO,3,none⟩) hpl).trans d3;have hz7:=B7.out.size
                   have O7:Hid (w7.ownsRow W1.heap.size 9 1 (.slice (some ⟨g7,0,none⟩) ((woF 0 us i i).length+1) c7) (woF 0 us i i++[o.r]).length ((woF 0 us i i++[o.r]).map tvS)):=by
                     rw[List.map_append,lla];exact hown7
                   clear hown7 hgrow7 hat7 hlt7)
                | (go_at_call 75;(with_reducible refine(G6.out _ HTm.out _ _ _ O7.out).mono ?_);rintro e w8 ⟨rfl,b8⟩
                   have B8:=qz (aab B7.out b8 hz7);have r8:=(B8.out.cell (p:=⟨pO,3,none⟩) hpl).trans d3
                   clear b8)
                | fail))
            all_goals
              obtain⟨m,hm⟩:∃m,m=tR fr (woF 0 us i i++[o.r]):=⟨_,rfl⟩;rw[<-hm]at HLen HQ1 ⊢;have hfr8:=qz (hfr1.out.below B8.out);have d08:=(B8.out.cell (p:=⟨pO,0,none⟩) hpl).trans d0;obtain⟨ha1,ha2⟩:=(hacc1.out.below B8.out);have hrow:=qz ha2;have HF1:=qz ha1;have hz8:=B8.out.size;have hql:Q1.length+1<=900:=by have:=HLen.out;simpa using this
              have hb3:w3.heap.size<=w8.heap.size:=Nat.le_trans hWR.out.1 (Nat.le_trans hWR.out.2 (Nat.le_trans hfr1.out.size hz8));clear ha1 ha2 hm hfr1 hacc1 d0 d3 d3d
              cases f
              all_goals
                go_wp2_with (at_builtin;refine wpList_append_own_at _ rfl (.tmp 63) (.tmp 65) 22 rfl w3.heap.size 9 i0 (.string ⟨#[]⟩) 1 16 underlying22 hi hz0 hz1 hz2 rfl (by decide) _ _ _ rfl (hrow.out.alloc _) ⟨w8.heap.size,0,none⟩ 1 1 [.string (resB m)] rfl rfl (aaR w8 [.string (resB m)] 9) (fun u hu=>by simp at hu;subst hu;rfl) ?c2 ?c3 ?c4 ?_)
                case c2=>unfold maxLen;omega
                case c3=>omega
                case c4=>simp;omega
                intro v9 w9 hown9 hgrow9 _ hat9;have fr9:=qz ((hfr8.out.alloc _).app hgrow9 (by simpa using hat9));have d09:=hgrow9.cell (abf d08 _) (fun e=>hune.out e.symm);have acc9:Hid (Acc okR resB w3.heap.size (Q1++[m]) _ v9 w9):=ahO HF1.out hown9;rw[<-HQ1.out]at acc9;clear hown9 hgrow9 hat9 d08;go_wp2_with fail
                go_roundg (gk - 1)
                case rel=>exact⟨⟨k+1,_,by congr 1,by omega,rfl,acc9⟩,fr9⟩
                case measure=>omega
          · have q1:((o.k.toNat:Int)==126)=false:=by
              rw[beq_eq_false_iff_ne];intro e;exact hk (UInt8.toNat_inj.1 (by have:(126:UInt8).toNat=126:=rfl;omega))
            by_cases hk33:o.k=33
            · have q2:((o.k.toNat:Int) != 33)=false:=by rw[hk33];rfl
              have hout:ad_ fr us i o=(List.range us.length).flatMap (aiP fr us i o):=by unfold ad_;rw[if_neg hk,if_pos hk33]
              rw[hout]at HQ1 HLen;have HMj:Hid (∀j (hj:j<us.length),j≠i->∀r∈offs us[j],r.k=63->r.a=o.a->tR fr (woF 0 us i j++[o.r,R r.r r.b o.b]++(if r.st=true then [us[j]] else []))∈outs fr us):=fun j hj hij r hr h1 h2=>HMeet.out j hj hij o HOm.out hk33 r hr h1 h2;have HRj:Hid (∀U∈us,∀r∈offs U,r.k=63->Zr 77 #[.string (S r.r),.int .u8 (r.b.toNat:Int),.int .u8 (o.b.toNat:Int)] (.string (S (R r.r r.b o.b)))):=fun U hU r hr h1=>HRen.out U hU r hr h1 o HOm.out hk33;clear hout hk hk33;go_wp2_with fail;obtain⟨W1,hW1⟩:∃W1,W1=wr.alloc (.cells #[.int .u8 (o.k.toNat:Int),.int .u8 (o.a.toNat:Int),.int .u8 (o.b.toNat:Int),.string (S o.r),.bool o.st] 98):=⟨_,rfl⟩;obtain⟨pO,hpO⟩:∃pO,pO=wr.heap.size:=⟨_,rfl⟩;have hpW:Hid (w4.heap.size<=pO):=by rw[hpO];exact hsz
              rw[<-hW1,<-hpO];have d1:W1.cell? ⟨pO,1,none⟩=some (.int .u8 (o.a.toNat:Int)):=by rw[hW1,hpO];exact abh wr _ _ 1 _ rfl
              have d2:W1.cell? ⟨pO,2,none⟩=some (.int .u8 (o.b.toNat:Int)):=by rw[hW1,hpO];exact abh wr _ _ 2 _ rfl
              have d3:W1.cell? ⟨pO,3,none⟩=some (.string (S o.r)):=by rw[hW1,hpO];exact abh wr _ _ 3 _ rfl
              have hfr1:Hid (Fr w4 W1 v8.ownBlock u8):=by rw[hW1];exact hfr.out.alloc _
              have hacc1:Hid (Acc okR resB w3.heap.size Q1 f u8 W1):=by rw[hW1];exact hacc.out.alloc _
              have hpl:pO<W1.heap.size:=aad d1;have hune:Hid (∀b,u8.ownBlock=some b->w3.heap.size<=b/\b<pO):=fun b e=>by rw[hpO];exact hacc.out.lt b e
              have TA1:Hid (TxA W1 g3 us):=fun j hj=>(hfr1.out.cell ((HTA.out j hj |> fun h=>(hbw4.out.cell (p:=⟨g3,j,none⟩) hg3l).trans h)) (fun e=>by have:=(hob.out g3 e).1;omega):W1.cell? ⟨g3,j,none⟩=_);obtain⟨vA,hvA⟩:∃vA,vA=u8:=⟨_,rfl⟩;rw[<-hvA]at hune hfr1 hacc1 ⊢;have hg3p:g3<pO:=by have:=hpW.out;have:=hWR.out;omega
              have hz31:w3.heap.size<=W1.heap.size:=by have:=hpW.out;have:=hWR.out;omega
              clear hW1 hpO hfr hacc hvA k0 k1 k2 k3 k4
              go_loopg [7,8,72] us.length (fun gm s7 s8 s72 wr=>(∃(j:Nat) (f:Bool),s72=.int .i64 (j:Int)/\j+gm=us.length/\s7=.bool f/\Hid (Acc okR resB w3.heap.size (Q1++(List.range j).flatMap (aiP fr us i o)) f s8 wr))/\Hid (Fr W1 wr vA.ownBlock s8))
              case atStart=>exact⟨⟨0,f,by congr 1,by omega,rfl,by simpa using hacc1⟩,Fr.refl W1 vA⟩
              case round=>
                obtain⟨⟨j,f,rfl,hjm,rfl,hacc⟩,hfr⟩:=hrel;obtain⟨GM,hGM⟩:∃G,G=gk:=⟨_,rfl⟩;have hsz:=hfr.out.size
                by_cases hlt3:(j:Int)<(us.length:Int)
                · have hjt:j<us.length:=by omega
                  have hg3n:vA.ownBlock≠some g3:=fun e=>by have:=(hune.out g3 e).1;omega
                  have c1:wr.cell? ⟨g3,j,none⟩=some (.string (S us[j])):=hfr.out.cell (TA1.out j hjt) hg3n;have HNj:=qz (aeJ j (aiP fr us i o))
                  by_cases hij:j=i
                  · subst hij
                    have hout:aiP fr us j o j=[]:=by unfold aiP;rw[if_pos rfl]
                    rw[hout,List.append_nil]at HNj;rw[<-HNj.out]at hacc;clear hout;go_wp2_with fail;clear c1
                    go_roundg (gk - 1)
                    case rel=>exact⟨⟨j+1,f,by congr 1,by omega,rfl,hacc⟩,hfr⟩
                    case measure=>omega
                  · have hij1:((i:Int)==(j:Int))=false:=by rw[beq_eq_false_iff_ne];omega
                    obtain⟨hol2,hRO2⟩:=G4.out us[j] (List.getElem_mem hjt);have HMr:Hid (∀r∈offs us[j],r.k=63->r.a=o.a->tR fr (woF 0 us i j++[o.r,R r.r r.b o.b]++(if r.st=true then [us[j]] else []))∈outs fr us):=fun r hr h1 h2=>HMj.out j hjt hij r hr h1 h2;have HRr:Hid (∀r∈offs us[j],r.k=63->Zr 77 #[.string (S r.r),.int .u8 (r.b.toNat:Int),.int .u8 (o.b.toNat:Int)] (.string (S (R r.r r.b o.b)))):=fun r hr h1=>HRj.out us[j] (List.getElem_mem hjt) r hr h1
                    have hout:aiP fr us i o j=((offs us[j]).filter fun r=>decide (r.k=63/\r.a=o.a)).map fun r=>tR fr (woF 0 us i j++[o.r,R r.r r.b o.b]++(if r.st=true then [us[j]] else [])):=by
                      have e2:us.getD j .nil=us[j]:=by rw[List.getD_eq_getElem?_getD,List.getElem?_eq_getElem hjt];rfl
                      unfold aiP afT;rw[if_neg hij,e2]
                    have HLj:Hid ((Q1++(List.range (j+1)).flatMap (aiP fr us i o)).length<=900):=by
                      have h1:=aiW (j+1) us.length (by omega) (aiP fr us i o);have h2:=HLen.out;rw[lla]at h2;show _<=_;rw[lla];omega
                    obtain⟨Q2,hQ2⟩:∃Q2,Q2=Q1++(List.range j).flatMap (aiP fr us i o):=⟨_,rfl⟩;rw[<-hQ2]at hacc;rw[hout]at HNj;have HQ2:Hid (Q1++(List.range (j+1)).flatMap (aiP fr us i o)=Q2++((offs us[j]).filter fun r=>decide (r.k=63/\r.a=o.a)).map fun r=>tR fr (woF 0 us i j++[o.r,R r.r r.b o.b]++(if r.st=true then [us[j]] else []))):=by show _=_;rw[HNj.out,hQ2,List.append_assoc]
                    obtain⟨U,hU⟩:∃U,U=us[j]:=⟨_,rfl⟩;rw[<-hU]at c1 hol2 hRO2 HMr HRr HQ2;rw[HQ2.out]at HLj;have HRO2:=qz hRO2;obtain⟨mk,hmk⟩:∃mk:Off->Tm,mk=fun r=>tR fr (woF 0 us i j++[o.r,R r.r r.b o.b]++(if r.st=true then [U] else [])):=⟨_,rfl⟩;have HMk:Hid (∀r,mk r=tR fr (woF 0 us i j++[o.r,R r.r r.b o.b]++(if r.st=true then [U] else []))):=fun r=>by rw[hmk]
                    rw[<-hmk]at HQ2 HLj;clear hRO2 hout hQ2 hU hmk HNj;go_wp2_with fail;with_reducible refine(HRO2.out _).mono ?_
                    rintro e w6 ⟨v6,rfl,o6,b6⟩;obtain⟨p6,c6,rfl⟩:=aiU o6;have hz6:=b6.size;have O6:=qz o6;have hfr6:=qz (hfr.out.below b6);have hacc6:=qz (hacc.out.below b6)
                    have hob6:Hid (∀k,u8.ownBlock=some k->w3.heap.size<=k/\k<wr.heap.size/\k≠pO):=fun k e=>by
                      have h1:=hacc.out.lt k e;refine⟨h1.1,h1.2,fun e2=>?_⟩;subst e2;rcases hfr.out.blk with h2|h2
                      · have:=(hune.out k (h2▸e)).2;omega
                      · have:=h2 k e;omega
                    obtain⟨NR6,hNR6⟩:∃NR,NR=wr.heap.size:=⟨_,rfl⟩;obtain⟨vB,hvB⟩:∃vB,vB=u8:=⟨_,rfl⟩;have hW16:Hid (W1.heap.size<=NR6/\NR6<=w6.heap.size):=by rw[hNR6];exact⟨hsz,hz6⟩
                    rw[<-hNR6]at O6 hob6;rw[<-hvB]at hob6 hfr6 hacc6 ⊢;have e1:=hfr6.out.cell d1 (fun e=>by have:=(hune.out pO e).2;omega);have e2:=hfr6.out.cell d2 (fun e=>by have:=(hune.out pO e).2;omega);have e3:=hfr6.out.cell d3 (fun e=>by have:=(hune.out pO e).2;omega);have TA6:Hid (TxA w6 g3 us):=fun j hj=>(hfr6.out.cell (TA1.out j hj) hg3n:w6.cell? ⟨g3,j,none⟩=_);have hz36:w3.heap.size<=w6.heap.size:=by have:=hW16.out;omega
                    have FrK:Hid (∀(w9:World) (v9:Value),Fr w6 w9 vB.ownBlock v9->Fr W1 w9 vA.ownBlock v9):=fun w9 v9 h=>hfr6.out.comp h;clear o6 b6 c1 hacc hfr hsz hNR6 hvB;go_wp2_with fail
                    go_loopg [7,8,83] (offs U).length (fun gn s7 s8 s83 wr=>(∃(k:Nat) (f:Bool),s83=.int .i64 (k:Int)/\k+gn=(offs U).length/\s7=.bool f/\Hid (Acc okR resB w3.heap.size (Q2++(((offs U).take k).filter fun r=>decide (r.k=63/\r.a=o.a)).map mk) f s8 wr))/\Hid (Fr w6 wr vB.ownBlock s8))
                    case atStart=>exact⟨⟨0,f,by congr 1,by omega,rfl,by simpa using hacc6⟩,Fr.refl w6 vB⟩
                    case round=>
                      obtain⟨⟨m,f,rfl,hmn,rfl,hacc⟩,hfr⟩:=hrel;obtain⟨GN,hGN⟩:∃G,G=gk:=⟨_,rfl⟩;have hsz:=hfr.out.size
                      by_cases hlt4:(m:Int)<((offs U).length:Int)
                      · have hmt:m<(offs U).length:=by omega
                        obtain⟨g6,rfl,hh1,hh2,hh3,hcells⟩:=apo O6.out (by omega);obtain⟨x0,x1,x2,x3,x4⟩:=apq (offs U) m hmt;obtain⟨r,hr⟩:∃r,r=(offs U)[m]:=⟨_,rfl⟩;rw[<-hr]at x0 x1 x2 x3 x4;have hne6:vB.ownBlock≠some g6:=fun e=>by have:=(hob6.out g6 e).2.1;omega
                        have hneO:vB.ownBlock≠some pO:=fun e=>(hob6.out pO e).2.2 rfl;have hneG:vB.ownBlock≠some g3:=fun e=>by have:=(hob6.out g3 e).1;omega
                        have k0:=hfr.out.cell (hcells _ _ x0) hne6;have k1:=hfr.out.cell (hcells _ _ x1) hne6;have k2:=hfr.out.cell (hcells _ _ x2) hne6;have k3:=hfr.out.cell (hcells _ _ x3) hne6;have k4:=hfr.out.cell (hcells _ _ x4) hne6;have f1:=hfr.out.cell e1 hneO;have f2:=hfr.out.cell e2 hneO;have f3:=hfr.out.cell e3 hneO;have f1a:=fun ob=>abf f1 ob;have TA:Hid (TxA wr g3 us):=fun j hj=>(hfr.out.cell (TA6.out j hj) hneG:wr.cell? ⟨g3,j,none⟩=_);have HRm:Hid (r∈offs U):=hr▸List.getElem_mem hmt;have HFil:=qz (arG (offs U) m hmt (fun r=>decide (r.k=63/\r.a=o.a)) mk);rw[<-hr]at HFil;have HQ3:Hid (Q2++(((offs U).take (m+1)).filter fun r=>decide (r.k=63/\r.a=o.a)).map mk=(Q2++(((offs U).take m).filter fun r=>decide (r.k=63/\r.a=o.a)).map mk)++(if decide (r.k=63/\r.a=o.a)=true then [mk r] else [])):=by show _=_;rw[HFil.out,List.append_assoc]
                        have HL4:Hid ((Q2++(((offs U).take (m+1)).filter fun r=>decide (r.k=63/\r.a=o.a)).map mk).length<=900):=by
                          have h1:=aun (offs U) (m+1) (fun r=>decide (r.k=63/\r.a=o.a)) mk;have h2:=HLj.out;rw[lla]at h2;show _<=_;rw[lla];omega
                        obtain⟨Q3,hQ3⟩:∃Q3,Q3=Q2++(((offs U).take m).filter fun r=>decide (r.k=63/\r.a=o.a)).map mk:=⟨_,rfl⟩;rw[<-hQ3]at hacc HQ3;rw[HQ3.out]at HL4;clear x0 x1 x2 x3 x4 hcells hr hne6 hQ3 HFil
                        by_cases h63:r.k=63
                        · have q3:((r.k.toNat:Int) != 63)=false:=by rw[h63];rfl
                          by_cases hra:r.a=o.a
                          · have hcond:decide (r.k=63/\r.a=o.a)=true:=decide_eq_true ⟨h63,hra⟩
                            rw[if_pos hcond]at HQ3 HL4;rw[hra]at k1;have q4:((o.a.toNat:Int) != (o.a.toNat:Int))=false:=by simp
                            have HTm:Hid (mk r∈outs fr us):=by show _∈_;rw[HMk.out r];exact HMr.out r HRm.out h63 hra
                            have HRn:=qz (HRr.out r HRm.out h63);have HM6:Hid (∀L,mk r=tR fr L->∀base v w,w.ownsRow base 9 1 v L.length (L.map tvS)->Calls prog 75 #[.string (B fr),v] w fun e w'=>e=.returned (.tuple #[.string (resB (mk r)),.bool (okR (mk r))])/\Zb w w'):=fun L e=>by rw[e];exact G6.out L (e▸HTm.out)
                            have HMr1:=qz (HMk.out r);obtain⟨mr,hmr⟩:∃mr,mr=mk r:=⟨_,rfl⟩;rw[<-hmr]at HM6 HTm HMr1 HQ3 HL4;clear hcond h63 hra hmr;go_wp2_with fail;obtain⟨W2,hW2⟩:∃W2,W2=wr.alloc (.cells #[.int .u8 (r.k.toNat:Int),.int .u8 (o.a.toNat:Int),.int .u8 (r.b.toNat:Int),.string (S r.r),.bool r.st] 98):=⟨_,rfl⟩;obtain⟨pR,hpR⟩:∃pR,pR=wr.heap.size:=⟨_,rfl⟩;rw[<-hW2,<-hpR];have r2:W2.cell? ⟨pR,2,none⟩=some (.int .u8 (r.b.toNat:Int)):=by rw[hW2,hpR];exact abh wr _ _ 2 _ rfl
                            have r3:W2.cell? ⟨pR,3,none⟩=some (.string (S r.r)):=by rw[hW2,hpR];exact abh wr _ _ 3 _ rfl
                            have r4:W2.cell? ⟨pR,4,none⟩=some (.bool r.st):=by rw[hW2,hpR];exact abh wr _ _ 4 _ rfl
                            have o2:W2.cell? ⟨pO,2,none⟩=some (.int .u8 (o.b.toNat:Int)):=by rw[hW2];exact abf f2 _
                            have o3:W2.cell? ⟨pO,3,none⟩=some (.string (S o.r)):=by rw[hW2];exact abf f3 _
                            have hfr2:Hid (Fr w6 W2 vB.ownBlock u8):=by rw[hW2];exact hfr.out.alloc _
                            have hacc2:Hid (Acc okR resB w3.heap.size Q3 f u8 W2):=by rw[hW2];exact hacc.out.alloc _
                            have TA2:Hid (TxA W2 g3 us):=by rw[hW2];exact TA.out.alloc _
                            have TA2d:Hid (TxA W2.drew g3 us):=TA2.out;have hpR2:pR<W2.heap.size:=aad r2;have hpO2:pO<W2.heap.size:=aad o2;have cd:W2.drew.cell? ⟨pO,3,none⟩=some (.string (S o.r))/\W2.drew.cell? ⟨pO,2,none⟩=some (.int .u8 (o.b.toNat:Int))/\W2.drew.cell? ⟨pR,3,none⟩=some (.string (S r.r))/\W2.drew.cell? ⟨pR,2,none⟩=some (.int .u8 (r.b.toNat:Int)):=⟨o3,o2,r3,r2⟩;have HCD:Hid (∀w',Zb W2 w'->w'.cell? ⟨pO,3,none⟩=some (.string (S o.r))/\w'.cell? ⟨pO,2,none⟩=some (.int .u8 (o.b.toNat:Int))/\w'.cell? ⟨pR,3,none⟩=some (.string (S r.r))/\w'.cell? ⟨pR,2,none⟩=some (.int .u8 (r.b.toNat:Int))):=fun w' b=>⟨(b.cell (p:=⟨pO,3,none⟩) hpO2).trans o3,(b.cell (p:=⟨pO,2,none⟩) hpO2).trans o2,(b.cell (p:=⟨pR,3,none⟩) hpR2).trans r3,(b.cell (p:=⟨pR,2,none⟩) hpR2).trans r2⟩;have hwl:(woF 0 us i j).length<=300:=Nat.le_trans (ajD us i j 0) hu;have hz2:W1.heap.size<=W2.heap.size:=Nat.le_trans hW16.out.1 (Nat.le_trans hW16.out.2 hfr2.out.size);clear hW2 hpR hfr hacc k0 k1 k2 k3 k4 f1 f2 f3 f1a TA;obtain⟨c1',c2',c3',c4'⟩:=cd
                            go_region_held3 (fun w'=>w'.cell? ⟨pO,3,none⟩=some (.string (S o.r))/\w'.cell? ⟨pO,2,none⟩=some (.int .u8 (o.b.toNat:Int))/\w'.cell? ⟨pR,3,none⟩=some (.string (S r.r))/\w'.cell? ⟨pR,2,none⟩=some (.int .u8 (r.b.toNat:Int))) (first|exact⟨c1',c2',c3',c4'⟩|exact x7|exact x8|exact⟨abf x8.1 _,abf x8.2.1 _,abf x8.2.2.1 _,abf x8.2.2.2 _⟩|exact x9)
                              ((first
                                | (go_at_call 76;(with_reducible refine(G5.out i j hit hjt g3 c3 _ TA2d.out).mono ?_);rintro e w7 ⟨v7,rfl,o7,b7⟩
                                   have B7:Hid (Zb W2 w7):=qz ((Below.drew (Below.refl _ _)).trans b7);have x7:=HCD.out w7 B7.out;have hz7:=B7.out.size;obtain⟨p7,c7,rfl⟩:=aaM o7;have O7:=qz (aaO (b2:=W2.heap.size) o7 (by simp))
                                   clear o7 b7)
                                | (go_at_call 77;(with_reducible refine(HRn.out _).mono ?_);rintro e w8 ⟨rfl,b8⟩
                                   have B8:Hid (Zb W2 w8):=qz (aab B7.out b8 hz7);have x8:=HCD.out w8 B8.out;have hz8:=B8.out.size;have O8:=qz (aan O7.out b8)
                                   clear b8)
                                | (refine step_append_lies _ (by rfl) (.tmp 100) (.tmp 110) _ (by rfl) W2.heap.size 9 i0 _ 1 16 underlying22 hi hz0 hz1 hzz2 (by rfl) (by omega) _ _ _ (by rfl) (O8.out.alloc _) ⟨w8.heap.size,0,none⟩ 2 2 [.string (S o.r),.string (S (R r.r r.b o.b))] (by rfl) (by rfl) (aaR w8 [.string (S o.r),.string (S (R r.r r.b o.b))] 9) (ahP [o.r,R r.r r.b o.b]) (by omega) (by unfold maxLen;omega) (by omega) (by simp;omega) _ rfl ?_
                                   intro g9 c9 w9 hown9 hgrow9 hat9 hlt9;have B9:Hid (Zb W2 w9):=qz (aaB (aab B8.out (bra) hz8) hgrow9 (fun g e=>(O8.out.lt g e).1) (by simp;omega));have x9:=HCD.out w9 B9.out;have hz9:=B9.out.size
                                   have O9:Hid (w9.ownsRow W2.heap.size 9 1 (.slice (some ⟨g9,0,none⟩) ((woF 0 us i j).length+2) c9) ((woF 0 us i j).length+2) ((woF 0 us i j++[o.r,R r.r r.b o.b]).map tvS)):=by
                                     rw[List.map_append];exact hown9
                                   clear hown9 hgrow9 hat9 hlt9)
                                | fail))
                            have hfr9:=qz (hfr2.out.below B9.out);have d9:=(B9.out.cell (p:=⟨pR,4,none⟩) hpR2).trans r4;have hacc9:=qz (hacc2.out.below B9.out);have HFZ:Hid (∀wx,Zb W2 wx->Fr w6 wx vB.ownBlock u8):=fun wx b=>hfr2.out.below b;have HAZ:Hid (∀wx,Zb W2 wx->Acc okR resB w3.heap.size Q3 f u8 wx):=fun wx b=>hacc2.out.below b;clear hfr2 hacc2 r2 r3 r4 o2 o3 c1' c2' c3' c4' x7 x8 x9;obtain⟨L1,hL1⟩:∃L1,L1=woF 0 us i j++[o.r,R r.r r.b o.b]:=⟨_,rfl⟩;have hL1n:(woF 0 us i j).length+2=L1.length:=by rw[hL1];simp
                            have hL1l:L1.length<=302:=by omega
                            rw[<-hL1]at HMr1 O9;rw[hL1n]at O9 ⊢;clear hL1 hL1n
                            cases hst:r.st
                            · rw[hst]at HMr1 d9
                              have HMf:mr=tR fr L1:=by have:=HMr1.out;simpa using this
                              have HM:=qz (HM6.out L1 HMf);clear HMf HMr1 hst;go_wp2_with fail;with_reducible refine(HM.out _ _ _ O9.out).mono ?_
                              rintro e wx ⟨rfl,bx⟩;have hfrx:=qz (hfr9.out.below bx);have haccx:=qz (hacc9.out.below bx);clear bx d9;obtain⟨ha1,ha2⟩:=haccx.out;have hrow:=qz ha2;have HF1:=qz ha1;have hql:Q3.length+1<=900:=by have:=HL4.out;simpa using this
                              have hb3:w3.heap.size<=wx.heap.size:=Nat.le_trans hz36 hfrx.out.size;have HFX:=qz hfrx.out;clear ha1 ha2
                              cases f
                              all_goals
                                go_wp2_with (at_builtin;refine wpList_append_own_at _ rfl (.tmp 128) (.tmp 130) 22 rfl w3.heap.size 9 i0 (.string ⟨#[]⟩) 1 16 underlying22 hi hz0 hz1 hzz2 rfl (by decide) _ _ _ rfl (hrow.out.alloc _) ⟨wx.heap.size,0,none⟩ 1 1 [.string (resB mr)] rfl rfl (aaR wx [.string (resB mr)] 9) (fun u hu=>by simp at hu;subst hu;rfl) ?c2 ?c3 ?c4 ?_)
                                case c2=>unfold maxLen;omega
                                case c3=>omega
                                case c4=>simp;omega
                                intro vz wz hownz hgrowz _ hatz;have frz:=qz ((HFX.out.alloc _).app hgrowz (by simpa using hatz));have accz:Hid (Acc okR resB w3.heap.size (Q3++[mr]) _ vz wz):=ahO HF1.out hownz;rw[<-HQ3.out]at accz;clear hownz hgrowz hatz;go_wp2_with fail
                                go_roundg (gk - 1)
                                case rel=>exact⟨⟨m+1,_,by congr 1,by omega,rfl,accz⟩,frz⟩
                                case measure=>omega
                            · rw[hst]at HMr1 d9
                              have HMf:mr=tR fr (L1++[U]):=by have:=HMr1.out;simpa using this
                              have HM:=qz (HM6.out (L1++[U]) HMf);clear HMf HMr1 hst
                              go_wp2_with (at_builtin;refine wpList_append_own_at _ rfl (.tmp 114) (.tmp 116) 22 rfl W2.heap.size 9 i0 (.string ⟨#[]⟩) 1 16 underlying22 hi hz0 hz1 hzz2 rfl (by decide) _ _ _ rfl (O9.out.alloc _) ⟨w9.heap.size,0,none⟩ 1 1 [.string (S U)] rfl rfl (aaR w9 [.string (S U)] 9) (ahP [U]) ?c2 ?c3 ?c4 ?_)
                              case c2=>unfold maxLen;omega
                              case c3=>omega
                              case c4=>simp;omega
                              intro va wa howna hgrowa _ hata;have Ba:Hid (Zb W2 wa):=qz (aaB (aab B9.out (bra) hz9) hgrowa (fun g e=>(O9.out.lt g e).1) (by simp;omega))
                              have Oa:Hid (wa.ownsRow W2.heap.size 9 1 va (L1++[U]).length ((L1++[U]).map tvS)):=by
                                rw[List.map_append,lla];exact howna
                              have hza:=Ba.out.size;clear howna hgrowa hata d9;go_wp2_with fail;with_reducible refine(HM.out _ _ _ Oa.out).mono ?_
                              rintro e wx ⟨rfl,bx⟩;have hfrx:=qz (HFZ.out wx (aab Ba.out bx hza));have haccx:=qz (HAZ.out wx (aab Ba.out bx hza));clear bx;obtain⟨ha1,ha2⟩:=haccx.out;have hrow:=qz ha2;have HF1:=qz ha1;have hql:Q3.length+1<=900:=by have:=HL4.out;simpa using this
                              have hb3:w3.heap.size<=wx.heap.size:=Nat.le_trans hz36 hfrx.out.size;have HFX:=qz hfrx.out;clear ha1 ha2
                              cases f
                              all_goals
                                go_wp2_with (at_builtin;refine wpList_append_own_at _ rfl (.tmp 128) (.tmp 130) 22 rfl w3.heap.size 9 i0 (.string ⟨#[]⟩) 1 16 underlying22 hi hz0 hz1 hzz2 rfl (by decide) _ _ _ rfl (hrow.out.alloc _) ⟨wx.heap.size,0,none⟩ 1 1 [.string (resB mr)] rfl rfl (aaR wx [.string (resB mr)] 9) (fun u hu=>by simp at hu;subst hu;rfl) ?c2 ?c3 ?c4 ?_)
                                case c2=>unfold maxLen;omega
                                case c3=>omega
                                case c4=>simp;omega
                                intro vz wz hownz hgrowz _ hatz;have frz:=qz ((HFX.out.alloc _).app hgrowz (by simpa using hatz));have accz:Hid (Acc okR resB w3.heap.size (Q3++[mr]) _ vz wz):=ahO HF1.out hownz;rw[<-HQ3.out]at accz;clear hownz hgrowz hatz;go_wp2_with fail
                                go_roundg (gk - 1)
                                case rel=>exact⟨⟨m+1,_,by congr 1,by omega,rfl,accz⟩,frz⟩
                                case measure=>omega
                          · have hcond:¬decide (r.k=63/\r.a=o.a)=true:=fun e=>hra (of_decide_eq_true e).2
                            rw[if_neg hcond,List.append_nil]at HQ3;rw[<-HQ3.out]at hacc;have q4:((r.a.toNat:Int) != (o.a.toNat:Int))=true:=by rw[bne_iff_ne];intro e;exact hra (UInt8.toNat_inj.1 (by omega))
                            clear hcond h63 hra;go_wp2_with fail;clear k0 k1 k2 k3 k4 f1 f2 f3 f1a
                            go_roundg (gk - 1)
                            case rel=>exact⟨⟨m+1,f,by congr 1,by omega,rfl,hacc.out.alloc _⟩,hfr.out.alloc _⟩
                            case measure=>omega
                        · have q3:((r.k.toNat:Int) != 63)=true:=by rw[bne_iff_ne];intro e;exact h63 (UInt8.toNat_inj.1 (by have:(63:UInt8).toNat=63:=rfl;omega))
                          have hcond:¬decide (r.k=63/\r.a=o.a)=true:=fun e=>h63 (of_decide_eq_true e).1;rw[if_neg hcond,List.append_nil]at HQ3;rw[<-HQ3.out]at hacc;clear hcond h63;go_wp2_with fail;clear k0 k1 k2 k3 k4 f1 f2 f3 f1a
                          go_roundg (gk - 1)
                          case rel=>exact⟨⟨m+1,f,by congr 1,by omega,rfl,hacc.out.alloc _⟩,hfr.out.alloc _⟩
                          case measure=>omega
                      · obtain rfl:m=(offs U).length:=by omega
                        rw[List.take_of_length_le (nl _),<-HQ2.out]at hacc;have B7:=qz (FrK.out wr u8 hfr.out);go_wp2_with fail
                        go_roundg (GM - 1)
                        case rel=>exact⟨⟨j+1,f,by congr 1,by omega,rfl,hacc⟩,B7⟩
                        case measure=>omega
                · obtain rfl:j=us.length:=by omega
                  rw[<-HQ1.out]at hacc;have B7:=qz (hfr1.out.comp hfr.out);go_wp2_with fail
                  go_roundg (GP - 1)
                  case rel=>exact⟨⟨k+1,f,by congr 1,by omega,rfl,hacc⟩,B7⟩
                  case measure=>omega
            · have q2:((o.k.toNat:Int) != 33)=true:=by
                rw[bne_iff_ne];intro e;exact hk33 (UInt8.toNat_inj.1 (by have:(33:UInt8).toNat=33:=rfl;omega))
              have hout:ad_ fr us i o=[]:=by unfold ad_;rw[if_neg hk,if_neg hk33]
              rw[hout,List.append_nil]at HQ1;rw[<-HQ1.out]at hacc;clear hout hk hk33;go_wp2_with fail;clear k0 k1 k2 k3 k4
              go_roundg (gk - 1)
              case rel=>exact⟨⟨k+1,f,by congr 1,by omega,rfl,hacc.out.alloc _⟩,hfr.out.alloc _⟩
              case measure=>omega
        · obtain rfl:k=(offs T).length:=by omega
          have htk:P++((offs T).take (offs T).length).flatMap (ad_ fr us i)=(List.range (i+1)).flatMap F:=by
            rw[List.take_of_length_le (nl _),HNX.out,HFI.out]
          rw[htk]at hacc;have B7:=qz (Fr.to hbw4.out hfr.out (fun b e=>(hob.out b e).1) (Nat.le_trans hWR.out.1 hWR.out.2));clear htk;go_wp2_with fail
          go_roundg (GO - 1)
          case rel=>exact⟨⟨i+1,f,by congr 1,by omega,rfl,hacc⟩,B7⟩
          case measure=>omega
    · obtain rfl:i=us.length:=by omega
      obtain⟨ha1,ha2⟩:=hacc.out;rw[<-HF.out]at ha1 ha2;have HA:=qz ha2;have HZ:Hid (z=f):=GZ.out.trans ha1.symm;have HAl:Hid (f=true->∀t∈outs fr us,okR t=true):=fun e=>List.all_eq_true.1 (ha1▸e);have B7:=qz (aaa B3.out hbw.out);clear ha1 ha2 hacc
      cases f with
      | true=>
        have HAt:=qz (HAl.out rfl);clear HAl;go_wp2_with fail;with_reducible refine(G8.out HAt.out _ _ _ HA.out).mono ?_
        rintro e w5 ⟨v5,rfl,hq,b5⟩;have HQ:=qz hq;clear hq;go_wp2_with fail;go_ret2;exact⟨.inl ⟨HZ.out,v5,wr,rfl,HQ.out,B7.out.size⟩,aaa B7.out b5⟩
      | false=>
        go_wp2_with fail;go_ret2;exact⟨.inr ⟨HZ.out,rfl⟩,B7.out⟩
theorem auo (t:Tm):((one t.kind).toList==[42])=isRep t:=by
 rw[ByteArray.toList_eq]
 cases t<;>rfl
theorem amd (T:TypeId)(V:Value)(kt:ByteArray)(z:Bool)(hz:(kt.toList==[42])=z)(hk:KindFact T V kt)(T2:TypeId)(V2:Value)(w:World) : Calls prog 161 #[.iface T V,.iface T2 V2] w fun e w'=>e=.returned (if z=true then .iface 140 (.agg #[.iface T2 V2,.iface T V]) else .iface T2 V2)/\Zb w w':=by
 obtain⟨F,R,hm1,hn1,hc1,hp⟩:=hk;have HZ:=qz hz;have H:=qz hp;clear hp hz
 go_enter func161,ntmps161
 go_wp2_with fail;refine(H.out _).mono ?_;rintro e w' ⟨rfl,bl⟩
 cases z with
 | true=>
  have hz:=HZ.out;go_wp2_with fail;go_ret;exact⟨rfl,bl⟩
 | false=>
  have hz:=HZ.out;go_wp2_with fail;go_ret;exact⟨rfl,bl⟩
theorem ajG (T q:Tm)(w:World):Calls prog 161 #[.iface (aau T) (pay T),.iface (aau q) (pay q)] w fun e w'=>e=.returned (.iface (aau (lvg T q)) (pay (lvg T q)))/\Zb w w':=
 (amd _ _ _ _ (auo T) (abj T) _ _ w).mono fun e w' ⟨h,b⟩=>⟨by rw[h];unfold lvg;cases isRep T<;>rfl,b⟩
open Go.RowKit Go.Maps Go.MapKept
open Go.ChangeMaps (setBlock modify_eq_set)
section
variable {P:Program} {k e t:TypeId} {w:World} {b:Nat}
theorem apw:∀{es:List MapEntry},es.Pairwise (fun x y=>x.key≠y.key)->∀{a b:MapEntry},a∈es->b∈es->a.key=b.key->a=b:=by
 intro es
 induction es with
 | nil=>intro _ a b ha;simp at ha
 | cons x es ih=>
  intro h a b ha hb e;obtain⟨h1,h2⟩:=List.pairwise_cons.1 h;rcases List.mem_cons.1 ha with e1|ha<;>rcases List.mem_cons.1 hb with e2|hb
  ·rw[e1,e2]
  ·exact absurd e (e1▸h1 b hb)
  ·exact absurd e.symm (e2▸h1 a ha)
  ·exact ih h2 ha hb e
def MapG (P:Program)(k:TypeId)(w:World)(b:Nat)(E:List (Value × Value)):Prop:=
 ∃es clock,w.heap[b]?=some (.map es clock)/\Stamped es clock/\es.toList.map (fun x=>(x.key,x.val))=E/\∀x∈es.toList,∃l,keyOf P k x.key=some l
theorem MapG.lt {E:List (Value × Value)}(h:MapG P k w b E):b<w.heap.size:=by
 obtain⟨es,c,hb,_⟩:=h;exact(Array.getElem?_eq_some_iff.1 hb).1
theorem MapG.of {E:List (Value × Value)}{w':World}(h:MapG P k w b E)(e:w'.heap[b]?=w.heap[b]?):MapG P k w' b E:=by
 obtain⟨es,c,hb,r⟩:=h;exact⟨es,c,e.trans hb,r⟩
theorem MapG.below {E:List (Value × Value)}{w':World}{n:Nat}(h:MapG P k w b E)(hn:b<n)(e:Below n w w'):MapG P k w' b E:=h.of (e.block b hn)
theorem MapG.only {E:List (Value × Value)}{w':World}{m:Nat}(h:MapG P k w b E)(e:Only m w w')(hm:b≠m):MapG P k w' b E:=h.of (e.block b h.lt hm)
theorem MapG.alloc {E:List (Value × Value)}(h:MapG P k w b E)(o:Obj):MapG P k (w.alloc o) b E:=h.of (Below.heap_alloc _ _ _ h.lt)
theorem MapG.made (P:Program)(k:TypeId)(w:World):MapG P k (w.alloc (.map #[] 0)) w.heap.size []:=
 ⟨#[],0,(MapKept.heap_alloc w _).1,stamped_empty 0,rfl,by simp⟩
theorem MapG.nodup {E:List (Value × Value)}(h:MapG P k w b E):E.Pairwise fun x y=>x.1≠y.1:=by
 obtain⟨es,c,hb,hs,rfl,_⟩:=h;rw[List.pairwise_map];exact((stamped_iff es c).1 hs).2.2
theorem MapG.look_in {E:List (Value × Value)}(h:MapG P k w b E)(K:Keyed P k)(ht:P.underlying t=some (.map k e)){z:Value}(hz:(zeroValue e).run P w=.ok z w){key v:Value}{l:Lit}(hk:keyOf P k key=some l)(hm:(key,v)∈E)(c:Bool) : (Instr.lookup t (.map (some b)) key c).run P w=.ok (if c then .tuple #[v,.bool true] else v) w:=by
 have hn:=h.nodup;obtain⟨es,cl,hb,hs,rfl,hks⟩:=h;obtain⟨x,hx,e1⟩:=List.mem_map.1 hm
 cases e1
 rcases K.find w hk es.toList hks with⟨h1,h2⟩|⟨j,e0,h1,h2,h3⟩
 ·exact absurd rfl (h2 x hx)
 ·have e0x:e0.val=x.val:=by
   have h0:e0∈es.toList:=List.mem_of_getElem? h2;rw[apw ((stamped_iff es cl).1 hs).2.2 h0 hx h3]
  simp[Instr.lookup,run_underlying ht,MapKept.run_getObj_map hb,K.check w _ hk,h1,Result.andThen,e0x]
theorem MapG.look_out {E:List (Value × Value)}(h:MapG P k w b E)(K:Keyed P k)(ht:P.underlying t=some (.map k e)){z:Value}(hz:(zeroValue e).run P w=.ok z w){key:Value}{l:Lit}(hk:keyOf P k key=some l)(hm:∀v,(key,v)∉E)(c:Bool) : (Instr.lookup t (.map (some b)) key c).run P w=.ok (if c then .tuple #[z,.bool false] else z) w:=by
 obtain⟨es,cl,hb,hs,rfl,hks⟩:=h;rcases K.find w hk es.toList hks with⟨h1,h2⟩|⟨j,e0,h1,h2,h3⟩
 ·simp[Instr.lookup,run_underlying ht,MapKept.run_getObj_map hb,K.check w _ hk,h1,hz,Result.andThen]
 ·exact absurd (List.mem_map.2 ⟨e0,List.mem_of_getElem? h2,by rw[h3]⟩) (hm e0.val)
theorem abG (w:World)(b:Nat)(o:Obj):Only b w (setBlock w b o):=
 ⟨rfl,rfl,rfl,by simp[setBlock],fun i _ hb=>by
  show (w.heap.setIfInBounds b o)[i]?=_
  rw[Array.getElem?_setIfInBounds_ne (Ne.symm hb)]⟩
theorem acM {w:World}{b:Nat}(o:Obj)(h:b<w.heap.size):(setBlock w b o).heap[b]?=some o:=by
 show (w.heap.setIfInBounds b o)[b]?=_;rw[Array.getElem?_setIfInBounds_self_of_lt h]
theorem MapG.upd_new {E:List (Value × Value)}(h:MapG P k w b E)(K:Keyed P k)(ht:P.underlying t=some (.map k e)){key val:Value}{l:Lit}(hk:keyOf P k key=some l)(hm:∀v,(key,v)∉E) : ∃w',(Instr.mapUpdate t (.map (some b)) key val).run P w=.ok () w'/\MapG P k w' b (E++[(key,val)])/\Only b w w'/\w'.heap.size=w.heap.size:=by
 have hlt:=h.lt;obtain⟨es,cl,hb,hs,rfl,hks⟩:=h;rcases K.find w hk es.toList hks with⟨h1,h2⟩|⟨j,e0,h1,h2,h3⟩
 ·refine⟨setBlock w b (.map (es.push ⟨key,val,cl⟩) (cl+1)),?_,⟨_,_,acM _ hlt,stamped_push hs h2,by simp,fun x hx=>?_⟩,abG _ _ _,by simp[setBlock]⟩
  ·simp[Instr.mapUpdate,run_underlying ht,MapKept.run_getObj_map hb,K.check w false hk,h1,MapKept.run_setObj_map _ hb,Result.andThen,setBlock]
  ·simp only[Array.toList_push,lma,List.mem_singleton]at hx;rcases hx with hx|rfl
   ·exact hks x hx
   ·exact⟨l,hk⟩
 ·exact absurd (List.mem_map.2 ⟨e0,List.mem_of_getElem? h2,by rw[h3]⟩) (hm e0.val)
theorem MapG.upd_same {E:List (Value × Value)}(h:MapG P k w b E)(K:Keyed P k)(ht:P.underlying t=some (.map k e)){key val:Value}{l:Lit}(hk:keyOf P k key=some l)(hm:(key,val)∈E) : ∃w',(Instr.mapUpdate t (.map (some b)) key val).run P w=.ok () w'/\MapG P k w' b E/\Only b w w'/\w'.heap.size=w.heap.size:=by
 have hlt:=h.lt;obtain⟨es,cl,hb,hs,rfl,hks⟩:=h;obtain⟨x,hx,e1⟩:=List.mem_map.1 hm
 cases e1
 rcases K.find w hk es.toList hks with⟨h1,h2⟩|⟨j,e0,h1,h2,h3⟩
 ·exact absurd rfl (h2 x hx)
 ·have hj:es[j]?=some e0:=by simpa using h2
  have e0x:e0.val=x.val:=by
   have h0:e0∈es.toList:=List.mem_of_getElem? h2;rw[apw ((stamped_iff es cl).1 hs).2.2 h0 hx h3]
  have hmod:(es.modify j (fun e'=>{ e' with key:=x.key,val:=x.val }))=es:=by
   apply Array.toList_inj.1
   rw[Array.toList_modify,modify_eq_set _ _ _ _ h2];have:({ e0 with key:=x.key,val:=x.val }:MapEntry)=e0:=by cases e0;simp_all
   rw[this];obtain⟨hjl,hje⟩:=List.getElem?_eq_some_iff.1 h2;rw[<-hje];exact List.set_getElem_self hjl
  refine⟨setBlock w b (.map es cl),?_,⟨_,_,acM _ hlt,hs,rfl,hks⟩,abG _ _ _,by simp[setBlock]⟩;have hst:=K.stays w hk;simp[Instr.mapUpdate,run_underlying ht,MapKept.run_getObj_map hb,K.check w false hk,h1,hj,h3,hst,MapKept.run_setObj_map _ hb,Result.andThen,setBlock];rw[hmod]
theorem MapG.drop {E:List (Value × Value)}(h:MapG P k w b E)(K:Keyed P k)(ht:P.underlying t=some (.map k e)){ty:TypeId}{key v:Value}{l:Lit}(hk:keyOf P k key=some l){A B:List (Value × Value)}(hm:E=A++(key,v)::B) : ∃w',(Builtin.delete_ #[t,k] ty #[.map (some b),key]).run P w=.ok (.tuple #[]) w'/\MapG P k w' b (A++B)/\Only b w w'/\w'.heap.size=w.heap.size:=by
 have hlt:=h.lt;obtain⟨es,cl,hb,hs,hE,hks⟩:=h;rcases K.find w hk es.toList hks with⟨h1,h2⟩|⟨j,e0,h1,h2,h3⟩
 ·have:(key,v)∈es.toList.map (fun x=>(x.key,x.val)):=by rw[hE,hm];simp
  obtain⟨x,hx,e1⟩:=List.mem_map.1 this
  cases e1
  exact absurd rfl (h2 x hx)
 ·have hjl:j<es.toList.length:=(List.getElem?_eq_some_iff.1 h2).1;have hjs:j<es.size:=by simpa using hjl
  have hsub:(es.eraseIdxIfInBounds j).toList=es.toList.eraseIdx j:=by
   unfold Array.eraseIdxIfInBounds;rw[dif_pos hjs];simp
  have hAl:j=A.length:=by
   have hkj:(es.toList.map (·.key))[j]?=some key:=by rw[List.getElem?_map,h2,Option.map_some,h3]
   have hkE:es.toList.map (·.key)=A.map (·.1)++key::B.map (·.1):=by
    have:=congrArg (List.map (·.1)) (hE.trans hm);simpa [Function.comp_def] using this
   have hnd:=hs.2.2;rw[hkE]at hkj hnd
   have h4:(A.map (·.1)++key::B.map (·.1))[A.length]?=some key:=by
    rw[List.getElem?_append_right (by simp)];simp
   obtain⟨a1,a2⟩:=List.getElem?_eq_some_iff.1 hkj;obtain⟨b1,b2⟩:=List.getElem?_eq_some_iff.1 h4;exact(List.getElem?_inj a1 hnd).1 (hkj.trans h4.symm)
  refine⟨setBlock w b (.map (es.eraseIdxIfInBounds j) cl),?_,⟨_,_,acM _ hlt,stamped_erase hs j,?_,fun x hx=>?_⟩,abG _ _ _,by simp[setBlock]⟩
  ·simp[Builtin.delete_,run_underlying ht,MapKept.run_getObj_map hb,K.check w _ hk,h1,MapKept.run_setObj_map _ hb,Result.andThen,setBlock]
  ·rw[hsub,ChangeMaps.map_eraseIdx,hE,hm,hAl,List.eraseIdx_append_of_length_le (nl _)];simp
  ·rw[hsub]at hx;exact hks x ((List.eraseIdx_sublist _ _).subset hx)
theorem MapG.len {E:List (Value × Value)}(h:MapG P k w b E)(ht:P.underlying t=some (.map k e))(ty:TypeId):(Builtin.len_ #[t] ty #[.map (some b)]).run P w=.ok (.int .i64 (E.length:Int)) w:=by
 obtain⟨es,cl,hb,hs,rfl,hks⟩:=h;simp[Builtin.len_,run_underlying ht,MapKept.run_getObj_map hb,goInt,Result.andThen]
def kb:Value->List UInt8
 | .string s=>s.data.toList
 | _=>[]
theorem MapG.owns {E:List (Value × Value)}(h:MapG P k w b E)(hk:P.underlying k=some .string)(hn:E.length<=maxLen):∃D:DataW Unit,w.ownsMap P k (fun _=>some (.lit (.bool true),[])) b E.length D/\(strKeys D).Perm (E.map fun p=>kb p.1)/\Maps.size D=E.length:=by
 obtain⟨es,cl,hb,hs,rfl,hks⟩:=h;rw[List.length_map]at hn ⊢
 have hrd:∀x∈es.toList,∃l,keyOf P k x.key=some l/\WideElems.rd (H:=Unit) P k (fun _=>some (.lit (.bool true),[])) x=some (l,.lit (.bool true)):=fun x hx=>by
  obtain⟨l,hl⟩:=hks x hx;exact⟨l,hl,by unfold WideElems.rd;rw[hl];rfl⟩
 refine⟨_,⟨es,cl,hb,⟨by simpa using hn,hs,fun x hx=>?_⟩,by simp,rfl⟩,?_,?_⟩
 ·obtain⟨l,_,e⟩:=hrd x hx;exact⟨_,e⟩
 ·refine(((WideShapes.sorted_perm _).map fun p=>strOf p.1)).trans ?_;rw[List.map_map,List.map_map];refine List.Perm.of_eq (List.map_congr_left fun x hx=>?_);obtain⟨l,hl,e⟩:=hrd x hx;obtain⟨y,hy,rfl,_⟩:=Maps.keyOf_str hk hl;show strOf (WideElems.rg P k _ x).1=kb x.key;rw[WideElems.rg_of e,hy];simp[strOf,kb,Go.Proofs.encStr]
 ·rw[Maps.size_eq,(WideShapes.sorted_perm _).length_eq];simp
def IterG (w:World)(r b:Nat)(rest:List (Value × Value)):Prop:=
 ∃es clock since seen c0,w.heap[b]?=some (.map es clock)/\w.heap[r]?=some (.mapIter (some b) since seen c0)/\(∀x∈es.toList,x.born<since)/\(since<=c0/\since<=clock)/\(es.toList.map (·.born)).Nodup/\(leftOf es seen).toList.map (fun x=>(x.key,x.val))=rest
theorem IterG.of {r:Nat}{w':World}{rest:List (Value × Value)}(h:IterG w r b rest)(e1:w'.heap[b]?=w.heap[b]?)(e2:w'.heap[r]?=w.heap[r]?):IterG w' r b rest:=by
 obtain⟨es,c,since,seen,c0,h1,h2,h3⟩:=h;exact⟨es,c,since,seen,c0,e1.trans h1,e2.trans h2,h3⟩
theorem IterG.lt {r:Nat}{rest:List (Value × Value)}(h:IterG w r b rest):r<w.heap.size/\b<w.heap.size:=by
 obtain⟨es,c,since,seen,c0,h1,h2,h3⟩:=h;exact⟨(Array.getElem?_eq_some_iff.1 h2).1,(Array.getElem?_eq_some_iff.1 h1).1⟩
theorem MapG.range {E:List (Value × Value)}(h:MapG P k w b E)(ht:P.underlying t=some (.map k e)) : ∃w',(Instr.range t (.map (some b))).run P w=.ok (.pointer (some ⟨w.heap.size,0,none⟩)) w'/\IterG w' w.heap.size b E/\MapG P k w' b E/\Zb w w'/\w'.heap.size=w.heap.size+1:=by
 have hlt:=h.lt;have h0:=h;obtain⟨es,cl,hb,hs,rfl,hks⟩:=h;refine⟨_,run_range_map w t k e b es cl ht hb,⟨es,cl,cl,#[],cl,(Below.heap_alloc _ _ _ hlt).trans hb,(MapKept.heap_alloc w _).1,hs.1,⟨nl _,nl _⟩,hs.2.1,?_⟩,h0.alloc _,(Below.refl _ w).alloc (nl _) _,by simp⟩;unfold leftOf;congr 1;simp
theorem apx (es:Array MapEntry)(seen:Array Nat)(x:MapEntry)(A B:List MapEntry)(h:(leftOf es seen).toList=A++x::B)(hn:(es.toList.map (·.born)).Nodup):(leftOf es (seen.push x.born)).toList=A++B:=by
 have e1:(leftOf es (seen.push x.born)).toList=(leftOf es seen).toList.filter fun y=>!(y.born==x.born):=by
  unfold leftOf;rw[Array.toList_filter,Array.toList_filter,List.filter_filter];refine List.filter_congr fun y _=>?_;rw[Array.contains_push]
  cases seen.contains y.born<;>cases h:(y.born==x.born)<;>simp_all
 have hsub:(A++x::B).Sublist es.toList:=by
  rw[<-h];unfold leftOf;rw[Array.toList_filter];exact List.filter_sublist
 have hnd:((A++x::B).map (·.born)).Nodup:=(hsub.map _).nodup hn;rw[List.map_append,List.map_cons]at hnd;rw[e1,h,List.filter_append,List.filter_cons];simp only[beq_self_eq_true,Bool.not_true,Bool.false_eq_true,if_false]
 have hA:A.filter (fun y=>!(y.born==x.born))=A:=List.filter_eq_self.2 fun y hy=>by
  have:=(List.nodup_append.1 hnd).2.2 y.born (List.mem_map.2 ⟨y,hy,rfl⟩) x.born (by simp);simpa using this
 have hB:B.filter (fun y=>!(y.born==x.born))=B:=List.filter_eq_self.2 fun y hy=>by
  have:=(List.nodup_cons.1 (List.nodup_append.1 hnd).2.1).1;have hne:y.born≠x.born:=fun e=>this (by rw[<-e];exact List.mem_map.2 ⟨y,hy,rfl⟩)
  simpa using hne
 rw[hA,hB]
theorem IterG.next {r:Nat}{rest:List (Value × Value)}(h:IterG w r b rest)(hrb:r≠b)(ty:TypeId) : (rest=[]/\(Instr.next (.pointer (some ⟨r,0,none⟩)) false ty).run P w=.ok (.tuple #[.bool false]) w)\/ ∃A key val B w',rest=A++(key,val)::B/\(Instr.next (.pointer (some ⟨r,0,none⟩)) false ty).run P w=.ok (.tuple #[.bool true,key,val]) w'/\IterG w' r b (A++B)/\Only r w w'/\w'.heap.size=w.heap.size/\ (Instr.entry (.pointer (some ⟨r,0,none⟩))).run P w'=.ok (.tuple #[key,val]) w':=by
 have hlt:=h.lt;obtain⟨es,c,since,seen,c0,h1,h2,h3,h4,h5,h6⟩:=h;rcases run_next_at (P:=P) w ty r b since c0 seen es c h2 h1 h3 h4.1 with⟨e1,e2⟩|⟨x,hx,w1,hw,e2⟩
 ·refine .inl ⟨?_,e2⟩;rw[<-h6];have:(leftOf es seen).toList=[]:=List.length_eq_zero_iff.1 (by simpa using e1);rw[this];rfl
 ·right
  obtain⟨A,B,hAB⟩:=List.append_of_mem hx;have hxe:x∈es.toList:=by unfold leftOf at hx;simp at hx;simpa using hx.1
  have hb1:w1.heap=w.heap:=by rcases hw with rfl|rfl<;>rfl
  have hbs:(setBlock w1 r (.mapIter (some b) since (seen.push x.born) c)).heap[b]?=some (.map es c):=by
   show (w1.heap.setIfInBounds r _)[b]?=_;rw[Array.getElem?_setIfInBounds_ne hrb,hb1,h1]
  have hrs:(setBlock w1 r (.mapIter (some b) since (seen.push x.born) c)).heap[r]?=some (.mapIter (some b) since (seen.push x.born) c):=acM _ (by rw[hb1];exact hlt.1);refine⟨A.map (fun x=>(x.key,x.val)),x.key,x.val,B.map (fun x=>(x.key,x.val)),_,by rw[<-h6,hAB];simp,e2,⟨es,c,since,seen.push x.born,c,hbs,hrs,h3,⟨h4.2,h4.2⟩,h5,?_⟩,?_,by rw[show (setBlock w1 r _).heap.size=w1.heap.size by simp[setBlock],hb1],run_entry_at _ r b since seen es c x hrs hbs hxe h5⟩
  ·rw[<-List.map_append];congr 1;exact apx es seen x A B hAB h5
  ·rcases hw with rfl|rfl
   ·exact abG _ _ _
   ·exact(Only.refl r w).drew.trans (abG _ _ _)
end
open Go.RowKit Go.Maps
theorem akT (l:List Tm):∀u∈l.map enc,u.oneCell'=true:=by
 intro u hu;obtain⟨t,_,rfl⟩:=List.mem_map.1 hu;rfl
theorem ame (us:List Tm)(hu:us.length<=1000)(h0:0<us.length)(p:Option Addr)(c base:Nat)(w:World)(ho:w.ownsRow base 41 1 (.slice p us.length c) us.length (us.map enc)) : Calls prog 159 #[.slice p us.length c] w fun e w'=>∃v,e=.returned v/\w'.ownsRow w.heap.size 41 1 v us.length (us.map enc)/\Zb w w':=by
 obtain⟨j0,hj,hy0,hy1,hy2⟩:=info_parts Tryz.infoSg;obtain⟨g,hp,hg1,hg2,hg3,hcells⟩:=abQ ho h0;subst hp;have hq:∀(w:World),(binOp .eql 74 (.slice (some ⟨g,0,none⟩) us.length c) (.slice none 0 0)).run prog w=.ok (.bool false) w:=fun w=>Lib.run_eql_slice_nil w _ _ _ _ _ _ _ underlying74
 have HN:Hid (∀j u,(us.map enc)[j]?=some u->w.cell? ((⟨g,0,none⟩:Addr).add j)=some u):=fun j u h=>by
  have:=hcells j u h;have e2:(Addr.add ⟨g,0,none⟩ j)=⟨g,j,none⟩:=by cases j<;>simp[Addr.add]
  rw[e2];exact this
 have HN1:=qz (akT us);clear ho hcells
 go_enter func159,ntmps159
 go_wp2_with (at_builtin;refine wpList_append_own _ rfl _ _ 74 rfl w.heap.size 41 j0 .nilIface 1 16 underlying74 hj hy0 hy1 hy2 rfl (by decide) _ _ _ rfl (World.ownsRow_made w #[] 0 (nl _) (Nat.zero_le _) (by simp)) ⟨g,0,none⟩ us.length c (us.map enc) rfl ?qc1 ?qc2 ?qc3 ?qc4 ?qc5 ?qc6 ?_)
 case qc1=>simp
 case qc2=>
  intro j u hj;exact abf (HN.out j u hj) _
 case qc3=>exact HN1.out
 case qc4=>unfold maxLen;omega
 case qc5=>omega
 case qc6=>simp
 intro v' w' hown hgrow hnil;have HO:=qz hown;have HB:Hid (Zb w w'):=Below.grown ((Below.refl w.heap.size w).alloc (nl _) _) hgrow (by simp) (fun i hi=>by cases hi;exact nl _);clear hown hgrow hnil;go_wp2_with fail;go_ret;exact⟨_,rfl,by simpa using HO.out,HB.out⟩
theorem arJ {w:World}{base g n c i:Nat}{e:TypeId}{xs:List Value}(h:w.ownsRow base e 1 (.slice (some ⟨g,0,none⟩) n c) n xs)(x:Value):(w.setCell ⟨g,i,none⟩ x).ownsRow base e 1 (.slice (some ⟨g,0,none⟩) n c) n (xs.set i x):=by
 obtain⟨h1,h2⟩:=h;refine⟨by rw[List.length_set];exact h1,.inr ?_⟩;rcases h2 with⟨h2,_⟩|⟨g',cap,cur,h2,h3,h4,h5,h6,h7,h8⟩
 ·cases h2
 ·cases h2;exact⟨g,c,cur.setIfInBounds i x,rfl,h3,afj h4 i x,h5,h6,by simpa using h7,by rw[Array.toList_setIfInBounds,List.take_set,h8]⟩
theorem apy {w:World}{g b:Nat}{o:Obj}(h:w.heap[g]?=some o)(j:Nat)(x:Value)(hne:g≠b):(w.setCell ⟨b,j,none⟩ x).heap[g]?=some o:=(Below.heap_setCell _ _ _ _ hne).trans h
theorem ajH {w:World}{base n b i:Nat}{e:TypeId}{v:Value}{xs:List Value}(h:w.ownsRow base e 1 v n xs)(hb:v.ownBlock≠some b)(x:Value):(w.setCell ⟨b,i,none⟩ x).ownsRow base e 1 v n xs:=
 adZ h fun g hg=>Below.heap_setCell _ _ _ _ (fun e=>hb (by rw[hg,e]))
theorem afX (n:Int)(us:List Tm)(hu:us.length<=1000)(i:Nat)(hi:i<us.length)(t:Tm)(p:Option Addr)(c base:Nat)(w:World)(ho:w.ownsRow base 41 1 (.slice p us.length c) us.length (us.map enc)) : Calls prog 103 #[.agg #[.int .u32 n,.slice p us.length c],.int .i64 (i:Int),.iface (aau t) (pay t)] w fun e w'=>∃v,e=.returned (.agg #[.int .u32 n,v])/\w'.ownsRow w.heap.size 41 1 v us.length ((us.set i t).map enc)/\Zb w w':=by
 have HC:=qz (fun w' (b:Zb w w')=>ame us hu (by omega) p c base w' (aan ho b));have hz:Hid (w.ownsRow base 41 1 (.slice p us.length c) us.length (us.map enc)):=ho;clear ho
 go_enter func103,ntmps103
 go_wp2_with fail;obtain⟨W0,hW0⟩:∃W0,W0=(w.alloc (.cells #[.int .u32 n,.slice p us.length c] 81)).alloc (.cells #[.int .u32 0,.slice none 0 0] 81):=⟨_,rfl⟩;have bW:Zb w W0:=by rw[hW0];exact aaw _ _ _
 have hs0:W0.heap.size=w.heap.size+2:=by rw[hW0];simp
 have hb0:W0.heap[w.heap.size]?=some (.cells #[.int .u32 n,.slice p us.length c] 81 (0,0)):=by rw[hW0];exact(Below.heap_alloc _ _ _ (by simp)).trans (heap_alloc_new _ _)
 have hb1:W0.heap[w.heap.size+1]?=some (.cells #[.int .u32 0,.slice none 0 0] 81 (0,0)):=by
  rw[hW0];have:=heap_alloc_new (w.alloc (.cells #[.int .u32 n,.slice p us.length c] 81)) (.cells #[.int .u32 0,.slice none 0 0] 81);simpa using this
 rw[<-hW0];clear hW0;with_reducible refine(HC.out W0 bW).mono ?_
 rintro e w1 ⟨v1,rfl,o1,b1⟩;obtain⟨p1,c1,rfl⟩:=aaM o1;obtain⟨g,hp,hg1,hg2,hg3,hcells⟩:=abQ o1 (by omega);subst hp;have h1:=(b1.block w.heap.size (by omega)).trans hb0;have h2:=(b1.block (w.heap.size+1) (by omega)).trans hb1;have x0:=aaf h1;have x1:=aak h1;have y0:w1.frozen? ⟨w.heap.size,0,none⟩=false:=by simp[World.frozen?,h1]
 have y1:w1.frozen? ⟨w.heap.size,1,none⟩=false:=by simp[World.frozen?,h1]
 have z0:=aaf h2;have z1:=aak h2;have r0:w1.frozen? ⟨w.heap.size+1,0,none⟩=false:=by simp[World.frozen?,h2]
 have r1:w1.frozen? ⟨w.heap.size+1,1,none⟩=false:=by simp[World.frozen?,h2]
 have e0:=hcells i (enc us[i]) (by rw[List.getElem?_map,List.getElem?_eq_getElem hi];rfl);have O1:=qz o1;have B1:=qz (bW.trans (b1.mono (by omega)));have f0:w1.frozen? ⟨g,i,none⟩=false:=aiT o1 i;clear hb0 hb1 o1 b1 hcells h1;obtain⟨Wf,hWf⟩:∃Wf,Wf=(((w1.setCell ⟨w.heap.size,1,none⟩ (.slice (some ⟨g,0,none⟩) us.length c1)).setCell ⟨g,i,none⟩ (.iface (aau t) (pay t))).setCell ⟨w.heap.size+1,0,none⟩ (.int .u32 n)).setCell ⟨w.heap.size+1,1,none⟩ (.slice (some ⟨g,0,none⟩) us.length c1):=⟨_,rfl⟩
 have hfin:Hid (Wf.heap[w.heap.size+1]?=some (.cells #[.int .u32 n,.slice (some ⟨g,0,none⟩) us.length c1] 81 (0,0))):=by
  have:=afj (afj (apy (apy h2 (b:=w.heap.size) 1 (.slice (some ⟨g,0,none⟩) us.length c1) (by omega)) (b:=g) i (.iface (aau t) (pay t)) (by omega)) 0 (.int .u32 n)) 1 (.slice (some ⟨g,0,none⟩) us.length c1);rw[hWf];exact this
 have hrow:Hid (Wf.ownsRow w.heap.size 41 1 (.slice (some ⟨g,0,none⟩) us.length c1) us.length ((us.set i t).map enc)):=by
  rw[hWf,List.map_set];exact ajH (ajH (arJ (ajH (aaO O1.out bW.size) (b:=w.heap.size) (fun e=>by simp[Value.ownBlock]at e;omega) _) _) (b:=w.heap.size+1) (fun e=>by simp[Value.ownBlock]at e;omega) _) (b:=w.heap.size+1) (fun e=>by simp[Value.ownBlock]at e;omega) _
 have hbel:Hid (Zb w Wf):=by
  rw[hWf];exact(((B1.out.setCell (p:=⟨w.heap.size,1,none⟩) (nl _) _).setCell (p:=⟨g,i,none⟩) (by show _<=g;omega) _).setCell (p:=⟨w.heap.size+1,0,none⟩) (by show _<=_+1;omega) _).setCell (p:=⟨w.heap.size+1,1,none⟩) (by show _<=_+1;omega) _
 have HWf:=qz hWf;clear hWf h2;go_wp2_with fail;rw[<-HWf.out];exact bodyPost_ret (v:=.agg #[.int .u32 n,.slice (some ⟨g,0,none⟩) us.length c1]) (results_cell_row (t:=81) (fr:=(0,0)) rfl _ _ (w.heap.size+1) _ _ rfl hfin.out underlying81 rfl (by kernel_rfl)) rfl ⟨_,rfl,hrow.out,hbel.out⟩
theorem aup (q:Tm)(h:∀c x p,q≠.rcv c x p)(w:World):(Instr.typeAssert (.iface (aau q) (pay q)) 41 189 true).run prog w=.ok (.tuple #[.agg #[.int .u8 0,.int .u8 0,.nilIface],.bool false]) w:=by
 cases q with
 | nil=>exact adB _ w
 | snd a b p=>exact afm _ w
 | rcv c x p=>exact absurd rfl (h c x p)
 | tau p=>exact aek _ w
 | sum p q=>exact ael _ w
 | par p q=>exact aem _ w
 | own a p=>exact agm _ w
 | mat a b p=>exact ae1 _ w
 | rep p=>exact aen _ w
theorem auq (q:Tm)(h:∀a b p,q≠.snd a b p)(w:World):(Instr.typeAssert (.iface (aau q) (pay q)) 41 148 true).run prog w=.ok (.tuple #[.agg #[.int .u8 0,.int .u8 0,.nilIface],.bool false]) w:=by
 cases q with
 | nil=>exact afl _ w
 | snd a b p=>exact absurd rfl (h a b p)
 | rcv c x p=>exact afn _ w
 | tau p=>exact agj _ w
 | sum p q=>exact agk _ w
 | par p q=>exact agl _ w
 | own a p=>exact aje _ w
 | mat a b p=>exact ahg _ w
 | rep p=>exact agn _ w
theorem aur (q:Tm)(h:∀p,q≠.tau p)(w:World):(Instr.typeAssert (.iface (aau q) (pay q)) 41 143 true).run prog w=.ok (.tuple #[.agg #[.nilIface],.bool false]) w:=by
 cases q with
 | nil=>exact aeg _ w
 | snd a b p=>exact agh _ w
 | rcv c x p=>exact aei _ w
 | tau p=>exact absurd rfl (h p)
 | sum p q=>exact aeY _ w
 | par p q=>exact aeZ _ w
 | own a p=>exact ahe _ w
 | mat a b p=>exact afp _ w
 | rep p=>exact ae2 _ w
def aeK (T:Tm)(a b:UInt8):Tm->Option Tm
 | .rcv c x p=>if c=a then some (lvg T (R p x b)) else none
 | _=>none
theorem akU {α:Type}(g:Tm->Option α)(l:List Tm)(k:Nat)(h:k<l.length):(l.take (k+1)).filterMap g=(l.take k).filterMap g++(g l[k]).toList:=by
 rw[List.take_succ_eq_append_getElem h,List.filterMap_append]
 cases e:g l[k]<;>simp[e]
theorem aus {α:Type}(g:Tm->Option α)(l:List Tm)(k:Nat):((l.take k).filterMap g).length<=l.length:=
 Nat.le_trans (List.length_filterMap_le _ _) (by rw[List.length_take];omega)
theorem apz (T:Tm)(a b:UInt8)(hl:(offT T).length<=300)(HO0:∀w,Calls prog 101 #[.iface (aau T) (pay T)] w (ag2 ((offT T).map enc) w)) (HR0:∀x p,.rcv a x p∈offT T->Zr 160 #[.iface (aau p) (pay p),.int .u8 (x.toNat:Int),.int .u8 (b.toNat:Int)] (.tuple #[.iface (aau (R p x b)) (pay (R p x b)),.bool true]))(w:World) : Calls prog 105 #[.iface (aau T) (pay T),.int .u8 (a.toNat:Int),.int .u8 (b.toNat:Int)] w fun e w'=>∃v,e=.returned (.tuple #[v,.bool true])/\w'.ownsRow w.heap.size 41 1 v ((offT T).filterMap (aeK T a b)).length (((offT T).filterMap (aeK T a b)).map enc)/\Zb w w':=by
 obtain⟨j0,hj,hy0,hy1,hy2⟩:=info_parts Tryz.infoSg;have HO:=qz HO0;have HR:=qz HR0;have HLv:=qz (fun q w=>ajG T q w);clear HO0 HR0;obtain⟨TT,hTT⟩:∃TT,TT=aau T:=⟨_,rfl⟩;obtain⟨TV,hTV⟩:∃TV,TV=pay T:=⟨_,rfl⟩;rw[<-hTT,<-hTV]at HO HLv ⊢;clear hTT hTV
 go_enter func105,ntmps105
 go_wp2_with fail;with_reducible refine(HO.out _).mono ?_
 rintro e w2 ⟨g,c,rfl,o2,b2⟩;rw[List.length_map]at o2 ⊢;have O2:=qz o2;have B2:=qz b2;have hz2:=b2.size;clear o2 b2;go_wp2_with fail
 go_loopg [8,17] (offT T).length (fun gk s8 s17 wr=>(∃k:Nat,s17=.int .i64 (k:Int)/\k+gk=(offT T).length/\Hid (wr.ownsRow w2.heap.size 41 1 s8 (((offT T).take k).filterMap (aeK T a b)).length ((((offT T).take k).filterMap (aeK T a b)).map enc)))/\Hid (Zb w2 wr))
 case atStart=>exact⟨⟨0,by congr 1,by omega,World.ownsRow_nil _ _ _ _⟩,Below.refl _ _⟩
 case round=>
  obtain⟨⟨k,rfl,hkk,hown⟩,hbw⟩:=hrel;have hsz:=hbw.out.size
  by_cases hlt:(k:Int)<((offT T).length:Int)
  ·have hkt:k<(offT T).length:=by omega
   obtain⟨g',hp,hg1,hg2,hg3,hcells⟩:=abQ O2.out (by omega);cases hp;obtain⟨q,hq⟩:∃q,q=(offT T)[k]:=⟨_,rfl⟩;have c1:wr.cell? ⟨g,k,none⟩=some (.iface (aau q) (pay q)):=(hbw.out.cell (p:=⟨g,k,none⟩) hg2).trans (hcells k (enc q) (by rw[hq,List.getElem?_map,List.getElem?_eq_getElem hkt];rfl));have HNx:=qz (akU (aeK T a b) (offT T) k hkt);have hln:=aus (aeK T a b) (offT T) k;have HQm:Hid (q∈offT T):=hq▸List.getElem_mem hkt;rw[<-hq]at HNx;obtain⟨X,hX⟩:∃X,X=((offT T).take k).filterMap (aeK T a b):=⟨_,rfl⟩;rw[<-hX]at hown HNx hln;clear hcells hq hX
   by_cases hr:∃d x p,q=.rcv d x p
   ·obtain⟨d,x,p,rfl⟩:=hr;have c1':wr.cell? ⟨g,k,none⟩=some (.iface 189 (.agg #[.int .u8 (d.toNat:Int),.int .u8 (x.toNat:Int),.iface (aau p) (pay p)])):=c1;clear c1
    by_cases hda:d=a
    ·subst hda;have hre:aeK T d b (.rcv d x p)=some (lvg T (R p x b)):=by simp[aeK]
     rw[hre]at HNx;have HRx:=qz (HR.out x p HQm.out);have q1:((d.toNat:Int) != (d.toNat:Int))=false:=by simp
     obtain⟨TP,hTP⟩:∃TP,TP=aau p:=⟨_,rfl⟩;obtain⟨VP,hVP⟩:∃VP,VP=pay p:=⟨_,rfl⟩;have HLq:=qz (HLv.out (R p x b));obtain⟨qr,hqr⟩:∃qr,qr=R p x b:=⟨_,rfl⟩;obtain⟨lt,hlt'⟩:∃lt,lt=lvg T (R p x b):=⟨_,rfl⟩;rw[<-hlt']at HLq HNx;rw[<-hqr]at HRx HLq;rw[<-hTP,<-hVP]at HRx c1';clear hTP hVP hqr hlt' hre;go_wp2_with fail;with_reducible refine(HRx.out _).mono ?_
     rintro e w4 ⟨rfl,b4⟩;have B4:=qz (aab (hbw.out.alloc hsz _) b4 (by simp;omega));have O4:=qz (aan (hown.out.alloc _) b4);clear b4 hown c1';go_wp2_with fail;with_reducible refine(HLq.out _).mono ?_
     rintro e w5 ⟨rfl,b5⟩;have B5:=qz (aab B4.out b5 B4.out.size);have O5:=qz (aan O4.out b5);have hz5:=B5.out.size;clear b5
     go_wp2_with (at_builtin;refine wpList_append_own_at _ rfl (.tmp 46) (.tmp 50) 74 rfl w2.heap.size 41 j0 .nilIface 1 16 underlying74 hj hy0 hy1 hy2 rfl (by decide) _ _ _ rfl (O5.out.alloc _) ⟨w5.heap.size,0,none⟩ 1 1 [.iface (aau lt) (pay lt)] rfl rfl (aaR w5 [.iface (aau lt) (pay lt)] 41) (akT [lt]) ?c2 ?c3 ?c4 ?_)
     case c2=>unfold maxLen;omega
     case c3=>omega
     case c4=>simp;omega
     intro v6 w6 hown6 hgrow6 _ hat6;have B6:=qz (aaB (B5.out.alloc hz5 _) hgrow6 (fun g e=>(O5.out.lt g e).1) (by simp;omega))
     have O6:Hid (w6.ownsRow w2.heap.size 41 1 v6 (((offT T).take (k+1)).filterMap (aeK T d b)).length ((((offT T).take (k+1)).filterMap (aeK T d b)).map enc)):=by
      rw[HNx.out,List.map_append,lla];exact hown6
     clear hown6 hgrow6 hat6;go_wp2_with fail
     go_roundg (gk - 1)
     case rel=>exact⟨⟨k+1,by congr 1,by omega,O6⟩,B6⟩
     case measure=>omega
    ·have hre:aeK T a b (.rcv d x p)=none:=by simp[aeK,hda]
     rw[hre]at HNx;have q1:((d.toNat:Int) != (a.toNat:Int))=true:=by rw[bne_iff_ne];intro e;exact hda (UInt8.toNat_inj.1 (by omega))
     have O6:Hid (wr.ownsRow w2.heap.size 41 1 u8 (((offT T).take (k+1)).filterMap (aeK T a b)).length ((((offT T).take (k+1)).filterMap (aeK T a b)).map enc)):=by
      rw[HNx.out,Option.toList_none,List.append_nil];exact hown
     clear hre hda hown;go_wp2_with fail;clear c1'
     go_roundg (gk - 1)
     case rel=>exact⟨⟨k+1,by congr 1,by omega,O6.out.alloc _⟩,hbw.out.alloc hsz _⟩
     case measure=>omega
   ·have hre:aeK T a b q=none:=by
     cases q<;>first|rfl|exact absurd ⟨_,_,_,rfl⟩ hr
    have hta:=aup q (fun c x p e=>hr ⟨c,x,p,e⟩);rw[hre]at HNx
    have O6:Hid (wr.ownsRow w2.heap.size 41 1 u8 (((offT T).take (k+1)).filterMap (aeK T a b)).length ((((offT T).take (k+1)).filterMap (aeK T a b)).map enc)):=by
     rw[HNx.out,Option.toList_none,List.append_nil];exact hown
    obtain⟨TQ,hTQ⟩:∃TQ,TQ=aau q:=⟨_,rfl⟩;obtain⟨VQ,hVQ⟩:∃VQ,VQ=pay q:=⟨_,rfl⟩;rw[<-hTQ,<-hVQ]at c1 hta;clear hre hr hown hTQ hVQ;go_wp2_with fail;clear c1
    go_roundg (gk - 1)
    case rel=>exact⟨⟨k+1,by congr 1,by omega,O6.out.alloc _⟩,hbw.out.alloc hsz _⟩
    case measure=>omega
  ·obtain rfl:k=(offT T).length:=by omega
   rw[List.take_of_length_le (nl _)]at hown;have B7:=qz (aab B2.out hbw.out hz2);have O7:=qz (aaO hown.out hz2);clear hown;go_wp2_with fail;go_ret2;exact⟨u8,rfl,O7.out,B7.out⟩
def entS (t:Tm):Value × Value:=(.string (S t),.iface (aau t) (pay t))
def akV (L:List Tm):Option Tm->List Tm
 | none=>L
 | some r=>if r∈L then L else L++[r]
theorem ad5 (L:List Tm)(r:Tm):akV L (some r)=if r∈L then L else L++[r]:=rfl
def insAll (L xs:List Tm):List Tm:=xs.foldl (fun L t=>akV L (nfI t)) L
theorem akW (L:List Tm)(o:Option Tm)(s:Tm):s∈akV L o↔s∈L\/o=some s:=by
 cases o with
 | none=>simp[akV]
 | some r=>
  rw[ad5]
  split
  ·rename_i h
   constructor
   ·exact .inl
   ·rintro (h1|h1)
    ·exact h1
    ·cases h1;exact h
  ·rw[lma,List.mem_singleton];exact⟨fun h=>h.imp id fun e=>by rw[e],fun h=>h.imp id fun e=>by cases e;rfl⟩
theorem insAll_mem (xs:List Tm):∀(L:List Tm) (s:Tm),s∈insAll L xs↔s∈L\/∃t∈xs,nfI t=some s:=by
 induction xs with
 | nil=>intro L s;simp[insAll]
 | cons x xs ih=>
  intro L s;show s∈insAll (akV L (nfI x)) xs↔_;rw[ih,akW];simp only[List.mem_cons,exists_eq_or_imp,or_assoc]
theorem insT_nodup {L:List Tm}(h:L.Nodup)(o:Option Tm):(akV L o).Nodup:=by
 cases o with
 | none=>exact h
 | some r=>
  rw[ad5]
  split
  ·exact h
  ·rename_i hr
   exact List.nodup_append.2 ⟨h,by simp,fun a ha b hb=>by rw[List.mem_singleton]at hb;subst hb;intro e;exact hr (e▸ha)⟩
theorem aiX (xs:List Tm):∀{L:List Tm},L.Nodup->(insAll L xs).Nodup:=by
 induction xs with
 | nil=>intro L h;exact h
 | cons x xs ih=>intro L h;exact ih (insT_nodup h _)
theorem acz (L xs ys:List Tm):insAll L (xs++ys)=insAll (insAll L xs) ys:=List.foldl_append
def okAll (L:List Tm):Prop:=∀r∈L,r.ok nmL=true
theorem aiY {L:List Tm}(h:okAll L){o:Option Tm}(ho:∀r,o=some r->r.ok nmL=true):okAll (akV L o):=fun s hs=>((akW L o s).1 hs).elim (h s) (ho s)
theorem arK {a b:Tm}(ha:a.ok nmL=true)(hb:b.ok nmL=true)(h:S a=S b):a=b:=by
 have:a.pr=b.pr:=by
  have:=congrArg (fun x:ByteArray=>x.data.toList) h;simpa [S] using this
 exact asR ha hb this
theorem ayO (s:ByteArray)(hs:s.size<=maxLen):keyOf prog 9 (.string s)=some (.string s.data.toList):=by
 simp only[keyOf,underlying9,mapKey];rw[if_pos (by simpa using hs)]
theorem awT {L:List Tm}{r:Tm}(h:r∈L):entS r∈L.map entS:=List.mem_map_of_mem h
theorem aut {L:List Tm}(hL:okAll L){r:Tm}(hr:r.ok nmL=true)(h:r∉L)(v:Value):(Value.string (S r),v)∉L.map entS:=fun hm=>by
 obtain⟨t,ht,e⟩:=List.mem_map.1 hm;simp only[entS,Prod.mk.injEq,Value.string.injEq]at e;exact h (arK (hL t ht) hr e.1▸ht)
theorem awU (T:TypeId)(V:Value)(m:Nat)(X:List (Value × Value))(w:World)(hM:MapG prog 9 w m X)(H0:Zr 60 #[.iface T V] (.tuple #[.nilIface,.bool false])) : Calls prog 102 #[.map (some m),.iface T V] w fun e w'=>e=.returned (.bool false)/\MapG prog 9 w' m X/\Only m w w':=by
 have HM:=qz hM;have H:=qz H0;clear hM H0
 go_enter func102,ntmps102
 go_wp2_with fail;with_reducible refine(H.out _).mono ?_
 rintro e w1 ⟨rfl,b1⟩;have B1:=qz b1;clear b1;go_wp2_with fail;go_ret;exact⟨rfl,HM.out.below HM.out.lt B1.out,(Only.refl m w).below B1.out⟩
theorem auu (T:TypeId)(V:Value)(m:Nat)(L:List Tm)(r:Tm)(hL:okAll L)(hr:r.ok nmL=true)(hrl:(S r).size<=900)(w:World)(hM:MapG prog 9 w m (L.map entS))(H0:Zr 60 #[.iface T V] (.tuple #[.iface (aau r) (pay r),.bool true])) (H1:Zr 48 #[.iface (aau r) (pay r)] (.string (S r))) : Calls prog 102 #[.map (some m),.iface T V] w fun e w'=>e=.returned (.bool true)/\MapG prog 9 w' m ((akV L (some r)).map entS)/\Only m w w':=by
 have HM:=qz hM;have H:=qz H0;have HX:=qz H1;have hk:=ayO (S r) (by unfold maxLen;omega)
 have HU:Hid (∀w3,MapG prog 9 w3 m (L.map entS)->∃w4,(Instr.mapUpdate 45 (.map (some m)) (.string (S r)) (.iface (aau r) (pay r))).run prog w3=.ok () w4/\MapG prog 9 w4 m ((akV L (some r)).map entS)/\Only m w3 w4):=fun w3 h3=>by
  by_cases hm:r∈L
  ·obtain⟨w4,a,b,c,_⟩:=h3.upd_same (string_keyed underlying9) underlying45 hk (awT hm);exact⟨w4,a,by rw[ad5,if_pos hm];exact b,c⟩
  ·obtain⟨w4,a,b,c,_⟩:=h3.upd_new (val:=.iface (aau r) (pay r)) (string_keyed underlying9) underlying45 hk (aut hL hr hm);exact⟨w4,a,by rw[ad5,if_neg hm,List.map_append];exact b,c⟩
 obtain⟨TR,hTR⟩:∃TR,TR=aau r:=⟨_,rfl⟩;obtain⟨VR,hVR⟩:∃VR,VR=pay r:=⟨_,rfl⟩;obtain⟨SR,hSR⟩:∃SR,SR=S r:=⟨_,rfl⟩;rw[<-hTR,<-hVR]at H HX HU;rw[<-hSR]at HX HU;clear hM H0 H1 hk hTR hVR hSR
 go_enter func102,ntmps102
 go_wp2_with fail;with_reducible refine(H.out _).mono ?_
 rintro e w1 ⟨rfl,b1⟩;have B1:=qz b1;clear b1;go_wp2_with fail;with_reducible refine(HX.out _).mono ?_
 rintro e w2 ⟨rfl,b2⟩;have B2:=qz (aab B1.out b2 B1.out.size);clear b2;obtain⟨w4,hrun,hM4,ho4⟩:=HU.out w2 (HM.out.below HM.out.lt B2.out);have HM4:=qz hM4;have HO4:=qz ho4;clear hM4 ho4;go_wp2_with fail;go_ret;exact⟨rfl,HM4.out,((Only.refl m w).below B2.out).trans HO4.out⟩
end Go.Proofs.YtihmcgcgjmbmhaaGreat.T1
namespace Go.Proofs
open Go.Shelf
def Tryz.keysR_ren:Go.Shelf.Ren:=⟨fun|7=>67|10=>108|n=>n,fun|23=>45|26=>9|3=>41|28=>89|0=>0|27=>88|33=>27|4=>4|n=>n,fun|n=>n⟩
theorem Tryz.keysR:Go.Proofs.SlLaysZ.n7 prog Tryz.keysR_ren:={
 mixed:=by kernel_rfl
 f7:=⟨f67.name,by decide,func67.trans (congrArg some (by kernel_rfl))⟩
 f10:=⟨f108.name,by decide,func108.trans (congrArg some (by kernel_rfl))⟩
 t0:=underlying0
 a0:=Tryz.isAgg0
 z0:=Tryz.sizeOf0
 v0:=Tryz.zeroValue0
 t4:=underlying4
 a4:=Tryz.isAgg4
 z4:=Tryz.sizeOf4
 v4:=Tryz.zeroValue4
 t23:=underlying45
 a23:=Tryz.isAgg45
 z23:=Tryz.sizeOf45
 v23:=Tryz.zeroValue45
 t26:=underlying9
 a26:=Tryz.isAgg9
 z26:=Tryz.sizeOf9
 v26:=Tryz.zeroValue9
 t27:=underlying88
 a27:=Tryz.isAgg88
 z27:=Tryz.sizeOf88
 v27:=Tryz.zeroValue88
 t28:=underlying89
 a28:=Tryz.isAgg89
 z28:=Tryz.sizeOf89
 v28:=Tryz.zeroValue89
 t33:=underlying27
 a33:=Tryz.isAgg27
 z33:=Tryz.sizeOf27
 v33:=Tryz.zeroValue27 }
def Tryz.keysI_ren:Go.Shelf.Ren:=⟨fun|7=>83|10=>130|n=>n,fun|23=>61|26=>9|3=>3|28=>89|0=>0|27=>88|33=>27|4=>4|n=>n,fun|n=>n⟩
theorem Tryz.keysI:Go.Proofs.SlLaysZ.n7 prog Tryz.keysI_ren:={
 mixed:=by kernel_rfl
 f7:=⟨f83.name,by decide,func83.trans (congrArg some (by kernel_rfl))⟩
 f10:=⟨f130.name,by decide,func130.trans (congrArg some (by kernel_rfl))⟩
 t0:=underlying0
 a0:=Tryz.isAgg0
 z0:=Tryz.sizeOf0
 v0:=Tryz.zeroValue0
 t4:=underlying4
 a4:=Tryz.isAgg4
 z4:=Tryz.sizeOf4
 v4:=Tryz.zeroValue4
 t23:=underlying61
 a23:=Tryz.isAgg61
 z23:=Tryz.sizeOf61
 v23:=Tryz.zeroValue61
 t26:=underlying9
 a26:=Tryz.isAgg9
 z26:=Tryz.sizeOf9
 v26:=Tryz.zeroValue9
 t27:=underlying88
 a27:=Tryz.isAgg88
 z27:=Tryz.sizeOf88
 v27:=Tryz.zeroValue88
 t28:=underlying89
 a28:=Tryz.isAgg89
 z28:=Tryz.sizeOf89
 v28:=Tryz.zeroValue89
 t33:=underlying27
 a33:=Tryz.isAgg27
 z33:=Tryz.sizeOf27
 v33:=Tryz.zeroValue27 }
def Tryz.sortedS_ren:Go.Shelf.Ren:=⟨fun|6=>66|8=>106|9=>107|11=>162|13=>164|12=>163|23=>190|24=>191|14=>181|15=>182|16=>183|17=>184|18=>185|19=>186|20=>187|21=>188|22=>189|25=>202|26=>203|27=>204|28=>205|29=>206|30=>207|31=>219|n=>n,fun|26=>9|28=>89|24=>22|0=>0|3=>3|37=>196|48=>77|50=>218|4=>4|40=>211|39=>210|45=>28|5=>5|9=>9|51=>226|55=>230|57=>238|58=>239|33=>27|n=>n,fun|n=>n⟩
theorem Tryz.sortedS:Go.Proofs.SlLaysZ.n6 prog Tryz.sortedS_ren:={
 mixed:=by kernel_rfl
 f6:=⟨f66.name,by decide,func66.trans (congrArg some (by kernel_rfl))⟩
 f8:=⟨f106.name,by decide,func106.trans (congrArg some (by kernel_rfl))⟩
 f11:=⟨f162.name,by decide,func162.trans (congrArg some (by kernel_rfl))⟩
 t0:=underlying0
 a0:=Tryz.isAgg0
 z0:=Tryz.sizeOf0
 v0:=Tryz.zeroValue0
 t24:=underlying22
 a24:=Tryz.isAgg22
 z24:=Tryz.sizeOf22
 v24:=Tryz.zeroValue22
 t26:=underlying9
 a26:=Tryz.isAgg9
 z26:=Tryz.sizeOf9
 v26:=Tryz.zeroValue9
 t28:=underlying89
 a28:=Tryz.isAgg89
 z28:=Tryz.sizeOf89
 v28:=Tryz.zeroValue89
 i26:=by kernel_rfl }
def Tryz.sortM_ren:Go.Shelf.Ren:=⟨fun|6=>107|8=>164|9=>163|19=>190|20=>191|21=>181|22=>182|23=>183|24=>184|25=>185|26=>186|27=>187|28=>188|29=>189|36=>202|31=>203|32=>204|37=>205|38=>206|39=>207|41=>219|n=>n,fun|27=>22|29=>9|3=>3|32=>196|26=>22|0=>0|44=>77|46=>218|4=>4|36=>211|35=>210|41=>28|5=>5|9=>9|53=>226|57=>230|63=>238|64=>239|n=>n,fun|n=>n⟩
theorem Tryz.sortM:Go.Proofs.SlLaysM.n6 prog Tryz.sortM_ren:={
 mixed:=by kernel_rfl
 f6:=⟨f107.name,by decide,func107.trans (congrArg some (by kernel_rfl))⟩
 f8:=func164.trans (congrArg some (by kernel_rfl))
 f9:=⟨f163.name,by decide,func163.trans (congrArg some (by kernel_rfl))⟩
 f19:=func190.trans (congrArg some (by kernel_rfl))
 f20:=func191.trans (congrArg some (by kernel_rfl))
 f21:=⟨f181.name,by decide,func181.trans (congrArg some (by kernel_rfl))⟩
 f22:=⟨f182.name,by decide,func182.trans (congrArg some (by kernel_rfl))⟩
 f23:=⟨f183.name,by decide,func183.trans (congrArg some (by kernel_rfl))⟩
 f24:=⟨f184.name,by decide,func184.trans (congrArg some (by kernel_rfl))⟩
 f25:=⟨f185.name,by decide,func185.trans (congrArg some (by kernel_rfl))⟩
 f26:=⟨f186.name,by decide,func186.trans (congrArg some (by kernel_rfl))⟩
 f27:=⟨f187.name,by decide,func187.trans (congrArg some (by kernel_rfl))⟩
 f28:=⟨f188.name,by decide,func188.trans (congrArg some (by kernel_rfl))⟩
 f29:=⟨f189.name,by decide,func189.trans (congrArg some (by kernel_rfl))⟩
 f31:=func203.trans (congrArg some (by kernel_rfl))
 f32:=func204.trans (congrArg some (by kernel_rfl))
 f36:=⟨f202.name,by decide,func202.trans (congrArg some (by kernel_rfl))⟩
 f37:=⟨f205.name,by decide,func205.trans (congrArg some (by kernel_rfl))⟩
 f38:=⟨f206.name,by decide,func206.trans (congrArg some (by kernel_rfl))⟩
 f39:=⟨f207.name,by decide,func207.trans (congrArg some (by kernel_rfl))⟩
 f41:=⟨f219.name,by decide,func219.trans (congrArg some (by kernel_rfl))⟩
 t0:=underlying0
 a0:=Tryz.isAgg0
 z0:=Tryz.sizeOf0
 v0:=Tryz.zeroValue0
 t3:=underlying3
 a3:=Tryz.isAgg3
 z3:=Tryz.sizeOf3
 v3:=Tryz.zeroValue3
 t4:=underlying4
 a4:=Tryz.isAgg4
 z4:=Tryz.sizeOf4
 v4:=Tryz.zeroValue4
 t5:=underlying5
 a5:=Tryz.isAgg5
 z5:=Tryz.sizeOf5
 v5:=Tryz.zeroValue5
 t9:=underlying9
 a9:=Tryz.isAgg9
 z9:=Tryz.sizeOf9
 v9:=Tryz.zeroValue9
 t26:=underlying22
 a26:=Tryz.isAgg22
 z26:=Tryz.sizeOf22
 v26:=Tryz.zeroValue22
 t27:=underlying22
 a27:=Tryz.isAgg22
 z27:=Tryz.sizeOf22
 v27:=Tryz.zeroValue22
 t29:=underlying9
 a29:=Tryz.isAgg9
 z29:=Tryz.sizeOf9
 v29:=Tryz.zeroValue9
 t32:=underlying196
 a32:=Tryz.isAgg196
 z32:=Tryz.sizeOf196
 v32:=Tryz.zeroValue196
 t35:=underlying210
 a35:=Tryz.isAgg210
 z35:=Tryz.sizeOf210
 v35:=Tryz.zeroValue210
 t36:=underlying211
 a36:=Tryz.isAgg211
 z36:=Tryz.sizeOf211
 v36:=Tryz.zeroValue211
 t41:=underlying28
 a41:=Tryz.isAgg28
 z41:=Tryz.sizeOf28
 v41:=Tryz.zeroValue28
 t44:=underlying77
 a44:=Tryz.isAgg77
 z44:=Tryz.sizeOf77
 v44:=Tryz.zeroValue77
 t46:=underlying218
 a46:=Tryz.isAgg218
 z46:=Tryz.sizeOf218
 v46:=Tryz.zeroValue218
 t53:=underlying226
 a53:=Tryz.isAgg226
 z53:=Tryz.sizeOf226
 v53:=Tryz.zeroValue226
 t57:=underlying230
 a57:=Tryz.isAgg230
 z57:=Tryz.sizeOf230
 v57:=Tryz.zeroValue230
 t63:=underlying238
 a63:=Tryz.isAgg238
 z63:=Tryz.sizeOf238
 v63:=Tryz.zeroValue238
 t64:=underlying239
 a64:=Tryz.isAgg239
 z64:=Tryz.sizeOf239
 v64:=Tryz.zeroValue239 }
end Go.Proofs
namespace Go.Proofs.YtihmcgcgjmbmhaaGreat.T1
open Go.Proofs.Tryz
set_option maxHeartbeats 8000000
open Go.RowKit
set_option maxRecDepth 100000
set_option linter.unusedVariables false
set_option linter.unusedSimpArgs false
open Go.RowKit Go.Maps Go.Sort Go.Shelf
theorem Tryz.sortsS (m:Nat):AnyZ.SortsIn prog Tryz.sortedS_ren Fence.wide m:=
  ⟨fun blk off cap ss W hH hblk hsz=>callsIn_wide.2 (AnyM.slices_Sort_string Tryz.sortM blk off cap ss W hH hblk hsz),
   fun p cap W=>callsIn_wide.2 (AnyM.slices_Sort_string_none Tryz.sortM p cap W)⟩
theorem awV {H:Type}(b nn:Nat)(D0:DataW H)(R:Value->Option (DataW H × List MemPlace))(w:World)(hown:w.ownsMap prog 9 R b nn D0)(hmax:Maps.size D0<=maxLen)(hbytes:Maps.size D0 * 16<=140737488355328) : Calls prog 42 #[.map (some b)] w fun e w'=>∃(v:Value) (ss:List (List UInt8)),e=.returned v/\ss.Perm (strKeys D0)/\ w'.ownsRow w.heap.size 9 1 v ss.length ((ss.mergeSort (fun x y=>decide (x<=y))).map encStr)/\(v=.slice none 0 0↔ss=[])/\Zb w w':=by
 refine(callsIn_wide (n:=6)).1 ?_;have hbl:=hown.lt
 have hseq:SeqGives Fence.wide 2 prog 108 #[.pointer (some ⟨w.heap.size,0,none⟩)] encStr (fun ss=>ss.Perm (strKeys D0)) (Maps.size D0) (w.alloc (.cells #[.map (some b)] 45)):=
  AnyZ.keys_gives (ρ:=Tryz.keysR_ren) { Tryz.keysR with } Fence.wide _ trivial rfl (by omega) w.heap.size b nn D0 _ (by simp) (by simp) (by
   obtain⟨es,clock,hb,Ft,hs,hD⟩:=hown
   exact⟨es,clock,(Below.heap_alloc _ _ b hbl).trans hb,Ft,hs,hD⟩)
 have cK:∀mb W,CallsIn Fence.wide 5 prog 67 #[.map mb] W fun e w'=>e=.returned (.func (.func 108) #[] #[.pointer (some ⟨W.heap.size,0,none⟩)])/\w'=W.alloc (.cells #[.map mb] 45):=fun mb W=>AnyZ.keys_in Tryz.keysR Fence.wide 5 trivial rfl mb W;have cS:=AnyZ.sorted_in Tryz.sortedS Fence.wide 5 trivial trivial trivial trivial rfl (by omega) (Tryz.sortsS _) (enters_of func107 (by kernel_rfl) rfl) 108 #[.pointer (some ⟨w.heap.size,0,none⟩)] trivial (enters_of func108 (by kernel_rfl) rfl) _ _ hmax hbytes _ hseq
 change CallsIn _ _ prog 66 _ _ _ at cS
 have hfK:Fence.wide.fn 67:=trivial;have hfS:Fence.wide.fn 66:=trivial;refine callsIn_of_wp func42 rfl trivial ?_ rfl;simp only[ntmps42,List.size_toArray,List.length_cons,List.length_nil,Nat.reduceAdd,Nat.reduceSub,Array.replicate_succ,Array.replicate_zero,List.push_toArray,List.append_toArray,List.nil_append,List.cons_append]
 gi_wp2_with (first
  | (gi_at_call 67;refine(cK _ _).mono ?_;rintro e w' ⟨rfl,rfl⟩)
  | (gi_at_call 66;refine cS.mono ?_;rintro e w' ⟨v,ss,rfl,hS,hrow,hnil,hb⟩))
 go_ret;exact⟨v,ss,rfl,hS,ownsRow_base_a hrow (by simp),hnil,((Below.refl _ w).alloc (nl _) _).trans (hb.mono (by simp))⟩
theorem auv (L:List Tm):((srtT L).map Tm.pr).Pairwise (fun a b=>leB a b=true):=by
 rw[List.pairwise_map];exact(akG L).imp fun h=>decide_eq_true h
theorem auw {ss:List (List UInt8)}{L:List Tm}(h:ss.Perm (L.map Tm.pr)):ss.mergeSort leB=(srtT L).map Tm.pr:=by
 rw[mergeSort_of_perm (h.trans ((List.mergeSort_perm L _).symm.map Tm.pr))];exact List.mergeSort_of_pairwise (auv L)
theorem apA (L:List Tm)(hn:L.length<=1000)(m:Nat)(w:World)(hM:MapG prog 9 w m (L.map entS)) : Calls prog 42 #[.map (some m)] w fun e w'=>∃v,e=.returned v/\w'.ownsRow w.heap.size 9 1 v (srtT L).length ((srtT L).map tvS)/\Zb w w':=by
 obtain⟨D,ho,hp,hsz⟩:=hM.owns underlying9 (by rw[List.length_map];unfold maxLen;omega);rw[List.length_map]at hsz;refine(awV m _ D _ w ho (by rw[hsz];unfold maxLen;omega) (by rw[hsz];omega)).mono ?_;rintro e w' ⟨v,ss,rfl,hs,hrow,_,hb⟩
 have e1:ss.Perm (L.map Tm.pr):=by
  refine hs.trans (hp.trans (List.Perm.of_eq ?_));rw[List.map_map];rfl
 have e2:=auw e1;have e3:ss.length=(srtT L).length:=by rw[e1.length_eq,List.length_map,(show (srtT L).Perm L from List.mergeSort_perm _ _).length_eq]
 have e4:(ss.mergeSort (fun x y=>decide (x<=y))).map encStr=(srtT L).map tvS:=by
  show (ss.mergeSort leB).map encStr=_;rw[e2,List.map_map];refine List.map_congr_left fun t _=>?_;show encStr t.pr=.string (S t);unfold encStr S
  first|rfl|simp
 rw[e3,e4]at hrow;exact⟨v,rfl,hrow,hb⟩
theorem apB (w:World):Calls prog 42 #[.map none] w fun e w'=>e=.returned (.slice none 0 0)/\Zb w w':=by
 refine(callsIn_wide (n:=6)).1 ?_
 have hseq:SeqGives Fence.wide 2 prog 108 #[.pointer (some ⟨w.heap.size,0,none⟩)] encStr (fun ss=>ss=[]) 0 (w.alloc (.cells #[.map none] 45)):=
  AnyZ.keys_gives_nil (ρ:=Tryz.keysR_ren) { Tryz.keysR with } Fence.wide _ trivial rfl w.heap.size _ (by simp) (by simp)
 have cK:∀mb W,CallsIn Fence.wide 5 prog 67 #[.map mb] W fun e w'=>e=.returned (.func (.func 108) #[] #[.pointer (some ⟨W.heap.size,0,none⟩)])/\w'=W.alloc (.cells #[.map mb] 45):=fun mb W=>AnyZ.keys_in Tryz.keysR Fence.wide 5 trivial rfl mb W;have cS:=AnyZ.sorted_in Tryz.sortedS Fence.wide 5 trivial trivial trivial trivial rfl (by omega) (Tryz.sortsS _) (enters_of func107 (by kernel_rfl) rfl) 108 #[.pointer (some ⟨w.heap.size,0,none⟩)] trivial (enters_of func108 (by kernel_rfl) rfl) _ _ (by unfold maxLen;omega) (by omega) _ hseq
 change CallsIn _ _ prog 66 _ _ _ at cS
 have hfK:Fence.wide.fn 67:=trivial;have hfS:Fence.wide.fn 66:=trivial;refine callsIn_of_wp func42 rfl trivial ?_ rfl;simp only[ntmps42,List.size_toArray,List.length_cons,List.length_nil,Nat.reduceAdd,Nat.reduceSub,Array.replicate_succ,Array.replicate_zero,List.push_toArray,List.append_toArray,List.nil_append,List.cons_append]
 gi_wp2_with (first
  | (gi_at_call 67;refine(cK _ _).mono ?_;rintro e w' ⟨rfl,rfl⟩)
  | (gi_at_call 66;refine cS.mono ?_;rintro e w' ⟨v,ss,rfl,rfl,hrow,hnil,hb⟩;obtain rfl:v=.slice none 0 0:=hnil.2 rfl))
 go_ret;exact⟨rfl,((Below.refl _ w).alloc (nl _) _).trans (hb.mono (by simp))⟩
theorem awW {a b:ByteArray}(h:a.data.toList=b.data.toList):a=b:=by
 cases a;cases b;congr;exact Array.toList_inj.1 h
theorem akX (l:List UInt8)(i:Nat)(h:i<l.length):(B l).extract i (i+1)=B [l[i]]:=by
 apply awW
 have e:(B l).data.toList=l:=rfl;rw[ByteArray.data_extract,Array.toList_extract,e,List.extract_eq_take_drop,List.drop_eq_getElem_cons h,show i+1 - i=1 by omega];rfl
theorem akY (a:UInt8)(t:Tm):((⟨#[35]⟩:ByteArray)++B [a])++⟨#[46]⟩++S t=S (.own a t):=by
 apply awW
 simp[B,S,Tm.pr,ByteArray.data_append]
theorem apC (fr:List UInt8)(us:List Tm)(p:Option Addr)(cap:Nat)(a:ByteArray)(b:Bool)(hf:fr.length<=60)(hu:us.length<=1000)(hz:∀k,k<=fr.length->(S (wrapO (fr.drop k) (joinR .par us))).size<=900)(w:World) (HT0:us≠[]->Calls prog 118 #[.slice p us.length cap,.string ⟨#[38]⟩] w fun e w'=>e=.returned (.string (S (joinR .par us)))/\Zb w w') (HN0:Zr 71 #[.string (S (tR fr us))] (.tuple #[.string a,.bool b])) : Calls prog 75 #[.string (B fr),.slice p us.length cap] w fun e w'=>e=.returned (.tuple #[.string a,.bool b])/\Zb w w':=by
 have HN:=qz HN0;have HZ:=qz hz;have HT:=qz HT0;have hbs:(B fr).size=fr.length:=by show fr.toArray.size=_;simp
 clear HN0 hz HT0;rcases Nat.eq_zero_or_pos us.length with h0|h0
 ·have e0:us=[]:=List.length_eq_zero_iff.1 h0;subst e0;have hj:(⟨#[48]⟩:ByteArray)=S (joinR .par []):=rfl;have b1:=Below.refl w.heap.size w
  go_enter func75,ntmps75
  have q9:IntKind.i64.wrap ((fr.length:Int) - 1)=(fr.length:Int) - 1:=IntWalk.i64_in _ (by omega);go_wp2_with fail
  go_loopw [6,7] (fun s i wr=>∃k:Nat,k<=fr.length/\i=.int .i64 ((k:Int) - 1)/\s=.string (S (wrapO (fr.drop k) (joinR .par [])))/\wr=w) (fun _ i _=>(intOf i+1).toNat)
  case atStart=>exact⟨fr.length,nl _,rfl,by rw[List.drop_length];rfl,rfl⟩
  case round=>
   obtain⟨k,hk,rfl,rfl,rfl⟩:=hrel
   cases k with
   | zero=>
    have q:((0:Nat):Int) - 1=-1:=rfl;rw[q,List.drop_zero];have ht:S (wrapO fr (joinR .par []))=S (tR fr []):=rfl;rw[ht];go_wp2_with fail;with_reducible refine(HN.out _).mono ?_
    rintro e w2 ⟨rfl,b2⟩;go_wp2_with fail;go_ret2;exact⟨rfl,b2⟩
   | succ m=>
    have q:((m+1:Nat):Int) - 1=(m:Int):=by omega
    rw[q];have hml:m<fr.length:=by omega
    obtain⟨t,ht⟩:∃t,t=wrapO (fr.drop (m+1)) (joinR .par []):=⟨_,rfl⟩;have hts:=HZ.out (m+1) (by omega)
    have hnx:Hid (S (.own fr[m] t)=S (wrapO (fr.drop m) (joinR .par []))):=by
     rw[ht];show _=_;rw[List.drop_eq_getElem_cons hml];rfl
    have hex:=akX fr m hml;have hexs:(B [fr[m]]).size=1:=rfl;rw[<-ht]at hts ⊢;clear ht;have q1:IntKind.i64.wrap ((m:Int)+1)=(m:Int)+1:=IntWalk.i64_in _ (by omega);have q2:IntKind.i64.wrap ((m:Int) - 1)=(m:Int) - 1:=IntWalk.i64_in _ (by omega);have q3:(0:Int)<=(m:Int)+1:=by omega
    have q4:(m:Int)+1<=((B fr).size:Int):=by omega
    have q5:(m:Int)<=(m:Int)+1:=by omega
    have hd1:((⟨#[35]⟩:ByteArray)).size=1:=rfl;have hd2:((⟨#[46]⟩:ByteArray)).size=1:=rfl;go_wp2_with fail
    go_roundw
    case rel=>exact⟨m,by omega,rfl,by rw[<-hnx.out,<-akY],trivial⟩
    case measure=>simp[intOf]
 ·have hne:us≠[]:=fun e=>by subst e;simp at h0
  have hpos:(0:Int)<(us.length:Int):=by omega
  go_enter func75,ntmps75
  have q9:IntKind.i64.wrap ((fr.length:Int) - 1)=(fr.length:Int) - 1:=IntWalk.i64_in _ (by omega);go_wp2_with fail;with_reducible refine(HT.out hne).mono ?_
  rintro e w1 ⟨rfl,b1⟩;go_wp2_with fail
  go_loopw [6,7] (fun s i wr=>∃k:Nat,k<=fr.length/\i=.int .i64 ((k:Int) - 1)/\s=.string (S (wrapO (fr.drop k) (joinR .par us)))/\wr=w1) (fun _ i _=>(intOf i+1).toNat)
  case atStart=>exact⟨fr.length,nl _,rfl,by rw[List.drop_length];rfl,rfl⟩
  case round=>
   obtain⟨k,hk,rfl,rfl,rfl⟩:=hrel
   cases k with
   | zero=>
    have q:((0:Nat):Int) - 1=-1:=rfl;rw[q,List.drop_zero];have ht:S (wrapO fr (joinR .par us))=S (tR fr us):=rfl;rw[ht];go_wp2_with fail;with_reducible refine(HN.out _).mono ?_
    rintro e w2 ⟨rfl,b2⟩;go_wp2_with fail;go_ret2;exact⟨rfl,b1.trans (b2.mono b1.size)⟩
   | succ m=>
    have q:((m+1:Nat):Int) - 1=(m:Int):=by omega
    rw[q];have hml:m<fr.length:=by omega
    obtain⟨t,ht⟩:∃t,t=wrapO (fr.drop (m+1)) (joinR .par us):=⟨_,rfl⟩;have hts:=HZ.out (m+1) (by omega)
    have hnx:Hid (S (.own fr[m] t)=S (wrapO (fr.drop m) (joinR .par us))):=by
     rw[ht];show _=_;rw[List.drop_eq_getElem_cons hml];rfl
    have hex:=akX fr m hml;have hexs:(B [fr[m]]).size=1:=rfl;rw[<-ht]at hts ⊢;clear ht;have q1:IntKind.i64.wrap ((m:Int)+1)=(m:Int)+1:=IntWalk.i64_in _ (by omega);have q2:IntKind.i64.wrap ((m:Int) - 1)=(m:Int) - 1:=IntWalk.i64_in _ (by omega);have q3:(0:Int)<=(m:Int)+1:=by omega
    have q4:(m:Int)+1<=((B fr).size:Int):=by omega
    have q5:(m:Int)<=(m:Int)+1:=by omega
    have hd1:((⟨#[35]⟩:ByteArray)).size=1:=rfl;have hd2:((⟨#[46]⟩:ByteArray)).size=1:=rfl;go_wp2_with fail
    go_roundw
    case rel=>exact⟨m,by omega,rfl,by rw[<-hnx.out,<-akY],trivial⟩
    case measure=>simp[intOf]
theorem aux (p a:ByteArray)(w:World)(HS0:Calls prog 45 #[.string p] w fun e w'=>e=.returned (.tuple #[.string a,.bool false])/\Zb w w') : Calls prog 39 #[.string p] w fun e w'=>e=.returned (.tuple #[.slice none 0 0,.bool false])/\Zb w w':=by
 have HS:=qz HS0;clear HS0
 go_enter func39,ntmps39
 go_wp2_with fail;with_reducible refine HS.out.mono ?_
 rintro e w1 ⟨rfl,b1⟩;go_wp2_with fail;go_ret2;exact⟨rfl,b1⟩
theorem akZ (p a:ByteArray)(Q:Ending->World->World->Prop)(v:Value->World->World->Prop)(b:Bool)(w:World)(HS0:Calls prog 45 #[.string p] w fun e w'=>e=.returned (.tuple #[.string a,.bool true])/\Zb w w') (HN0:∀w1,Zb w w1->Calls prog 46 #[.string a] w1 fun e w'=>∃x,e=.returned (.tuple #[x,.bool b])/\v x w1 w'/\Zb w1 w') : Calls prog 39 #[.string p] w fun e w'=>∃x w1,e=.returned (.tuple #[x,.bool b])/\v x w1 w'/\w.heap.size<=w1.heap.size/\Zb w w':=by
 have HS:=qz HS0;have HN:=qz HN0;clear HS0 HN0
 go_enter func39,ntmps39
 go_wp2_with fail;with_reducible refine HS.out.mono ?_
 rintro e w1 ⟨rfl,b1⟩;go_wp2_with fail;with_reducible refine(HN.out w1 b1).mono ?_
 rintro e w2 ⟨x,rfl,hx,b2⟩;go_wp2_with fail;go_ret2;exact⟨x,w1,rfl,hx,b1.size,b1.trans (b2.mono b1.size)⟩
theorem auy (p:ByteArray)(x:Value)(w:World)(HS0:Calls prog 40 #[.string p] w fun e w'=>e=.returned (.tuple #[x,.bool false])/\Zb w w') : Calls prog 14 #[.string p] w fun e w'=>e=.returned (.tuple #[.slice none 0 0,.bool false])/\Zb w w':=by
 have HS:=qz HS0;clear HS0
 go_enter func14,ntmps14
 go_wp2_with fail;with_reducible refine HS.out.mono ?_
 rintro e w1 ⟨rfl,b1⟩;go_wp2_with fail;go_ret2;exact⟨rfl,b1⟩
theorem ak0 (p:ByteArray)(x:Value)(b:Bool)(R:Value->World->Prop)(V:Value->World->World->Prop)(w:World)(HS0:Calls prog 40 #[.string p] w fun e w'=>e=.returned (.tuple #[x,.bool true])/\Zb w w') (HR0:∀w1,Zb w w1->Calls prog 41 #[x] w1 fun e w'=>∃m,e=.returned (.tuple #[m,.bool b])/\R m w'/\Zb w1 w') (HT0:∀m w2,Zb w w2->R m w2->Calls prog 42 #[m] w2 fun e w'=>∃v,e=.returned v/\V v w2 w'/\Zb w2 w') : Calls prog 14 #[.string p] w fun e w'=>∃v w2,e=.returned (.tuple #[v,.bool b])/\V v w2 w'/\w.heap.size<=w2.heap.size/\Zb w w':=by
 have HS:=qz HS0;have HR:=qz HR0;have HT:=qz HT0;clear HS0 HR0 HT0
 go_enter func14,ntmps14
 go_wp2_with fail;with_reducible refine HS.out.mono ?_
 rintro e w1 ⟨rfl,b1⟩;go_wp2_with fail;with_reducible refine(HR.out w1 b1).mono ?_
 rintro e w2 ⟨m,rfl,hR,b2⟩;have b12:=b1.trans (b2.mono b1.size);have HRR:=qz hR;clear hR;go_wp2_with fail;with_reducible refine(HT.out m w2 b12 HRR.out).mono ?_
 rintro e w3 ⟨v,rfl,hV,b3⟩;go_wp2_with fail;go_ret2;exact⟨v,w2,rfl,hV,b12.size,b12.trans (b3.mono b12.size)⟩
end Go.Proofs.YtihmcgcgjmbmhaaGreat.T1
