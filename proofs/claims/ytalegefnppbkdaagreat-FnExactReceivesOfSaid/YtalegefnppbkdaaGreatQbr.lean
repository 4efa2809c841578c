/- Texts of the proof. No conditions. -/
import Derived.Test.YtalegefnppbkdaaGreatQbp
import Derived.Test.YtalegefnppbkdaaGreatQbq
namespace Go.Proofs.YtalegefnppbkdaaGreat.T1
open Go.Proofs.Tryz
set_option maxHeartbeats 8000000
open Go.RowKit
set_option maxRecDepth 100000
set_option linter.unusedVariables false
set_option linter.unusedSimpArgs false
theorem aq1 (l:List Tm):∀b:Tm,(l.map S).foldl bstStep (S b)=S (l.foldl (fun b c=>if c.pr<b.pr then c else b) b):=by
 induction l with
 | nil=>intro b;rfl
 | cons c l ih=>
  intro b;simp only[List.map_cons,List.foldl_cons]
  have:bstStep (S b) (S c)=S (if c.pr<b.pr then c else b):=by
   unfold bstStep;rw[bytesLess_eq,Lib.toList_data,Lib.toList_data,aaN,aaN];have hp:(S b).size≠0:=by rw[aan];have:=pr_pos b;omega
   by_cases h:c.pr<b.pr
   ·rw[if_pos (.inr (by simpa using h)),if_pos h]
   ·rw[if_neg (by simp[hp,h]),if_neg h]
  rw[this,ih]
theorem awJ (l:List Tm)(h:l≠[]):akr (l.map S)=S (ag1 l):=by
 cases l with
 | nil=>exact absurd rfl h
 | cons c l=>
  unfold akr;simp only[List.map_cons,List.foldl_cons];rw[show bstStep ⟨#[]⟩ (S c)=S c from by unfold bstStep;rw[if_pos (.inl rfl)],aq1];rfl
theorem av2 (ls:List UInt8)(t:Tm):aep ls (S t)=S (wrapO ls t):=by
 induction ls with
 | nil=>rfl
 | cons a l ih=>
  have e1:aep (a::l) (S t)=((⟨#[35]⟩:ByteArray)++B [a]++⟨#[46]⟩)++aep l (S t):=rfl;have e2:wrapO (a::l) t=.own a (wrapO l t):=rfl;rw[e1,e2,ih];refine abg ?_;simp[S,B,Tm.pr]
def WhP (n:Nat):Prop:=∀(t:Tm) (tk:List UInt8) (once br:Bool) (m:Nat) (w:World),t.size<=n->t.size<=121->FitT t->Plain t->t.ok nmE=true->t.pr.length<=700->Srt tk->MkAt w m br once->
 Calls prog 103 #[.pointer (some ⟨m,0,none⟩),.string (S t),.string (B tk)] w (MkP m br once (S (whl n once t tk).1) (whl n once t tk).2 w)
theorem ltI {a b:UInt8}:Op.bytesLess (B [a]).toList (B [b]).toList=decide (a<b):=by
 rw[bytesLess_eq,Lib.toList_data,Lib.toList_data,aaE,aaE];simp[List.cons_lt_cons_iff]
theorem alN (n:Nat)(ih:WhP n)(T:Tm)(tk:List UInt8)(once br:Bool)(m:Nat)(w:World)(hn:T.size<=n+1)(h121:T.size<=121)(hw:Thw T)(hf:FitX T)(hp:Plain T)(ho:T.ok nmE=true)(hl:T.pr.length<=700)(hs:Srt tk)(hm:MkAt w m br once) : Calls prog 174 #[.pointer (some ⟨m,0,none⟩),.string (S T),.string (B tk)] w (MkP m br once (S (thS (whl n once) T tk).1) (thS (whl n once) T tk).2 w):=by
 have hK:=aad T ho hl;have hH:=ad4 T ho hl;have hX:(S T).size<=700:=by rw[aan];exact hl
 have hTl:T.pr.length=(S T).size:=(aan T).symm;have hr:∀p tk,p.pr.length<=700->(S (whl n once p tk).1).size<=1000:=fun p tk h=>by rw[aan];have:=ahb n once p tk;omega
 cases T with
 | nil=>exact hw.elim
 | par p q=>exact hw.elim
 | own x p=>exact hw.elim
 | snd a b p=>
  have ho':(nmE a=true/\nmE b=true)/\p.ok nmE=true:=by simpa only[Tm.ok,bae] using ho
  have hlp:p.pr.length+4=(S (Tm.snd a b p)).size:=by rw[aan];simp[Tm.pr]
  have hsz:p.size+1=(Tm.snd a b p).size:=rfl
  have hF:Fit (Tm.snd a b p):=by rcases hf with h|⟨_,_,e,_⟩;exact h;cases e
  have hpp:Plain p:=fun z hz=>hp z (by rw[mf_snd];simp only[Tm.bnd];grind);have hfp:FitT p:=.inl (aa0 hF (by simp only[Tm.bdp];try omega) fun z hz=>by rw[mf_snd];grind);have hW:=fun w hmk=>ih p tk once br m w (by omega) (by omega) hfp hpp ho'.2 (by omega) hs hmk;have e1:(S (Tm.snd a b p)).extract 4 (S (Tm.snd a b p)).size=S p:=abz (t:=.snd a b p) (p:=p) (pre:=[a,33,b,46]) rfl
  have e2:(S (Tm.snd a b p)).extract 0 4++S (whl n once p tk).1=S (thS (whl n once) (Tm.snd a b p) tk).1:=by
   refine abg ?_;rw[ByteArray.data_append,Array.toList_append,ByteArray.data_extract,Array.toList_extract,List.extract_eq_take_drop,aaN,aaN,aaN];simp[thS,Tm.pr]
  have:=arY (S (Tm.snd a b p)) (B tk) (S (whl n once p tk).1) 33 (.inl rfl) 4 (by omega) hX (hr p tk (by omega)) m br once (whl n once p tk).2 hK hH (by rw[e1];exact hW) w hm;rw[e2]at this
  exact this
 | tau p=>
  have ho':p.ok nmE=true:=by simpa only[Tm.ok] using ho
  have hlp:p.pr.length+2=(S (Tm.tau p)).size:=by rw[aan];simp[Tm.pr]
  have hsz:p.size+1=(Tm.tau p).size:=rfl
  have hF:Fit (Tm.tau p):=by rcases hf with h|⟨_,_,e,_⟩;exact h;cases e
  have hpp:Plain p:=fun z hz=>hp z (by rw[mf_tau];simp only[Tm.bnd];exact hz);have hfp:FitT p:=.inl (aa0 hF (by simp only[Tm.bdp];try omega) fun z hz=>by rw[mf_tau];exact hz);have hW:=fun w hmk=>ih p tk once br m w (by omega) (by omega) hfp hpp ho' (by omega) hs hmk;have e1:(S (Tm.tau p)).extract 2 (S (Tm.tau p)).size=S p:=abz (t:=.tau p) (p:=p) (pre:=[126,46]) rfl
  have e2:(S (Tm.tau p)).extract 0 2++S (whl n once p tk).1=S (thS (whl n once) (Tm.tau p) tk).1:=by
   refine abg ?_;rw[ByteArray.data_append,Array.toList_append,ByteArray.data_extract,Array.toList_extract,List.extract_eq_take_drop,aaN,aaN,aaN];simp[thS,Tm.pr]
  have:=arY (S (Tm.tau p)) (B tk) (S (whl n once p tk).1) 126 (.inr ⟨rfl,rfl⟩) 2 (by omega) hX (hr p tk (by omega)) m br once (whl n once p tk).2 hK hH (by rw[e1];exact hW) w hm;rw[e2]at this
  exact this
 | rep p=>
  have ho':p.ok nmE=true:=by simpa only[Tm.ok] using ho
  have hlp:p.pr.length+1=(S (Tm.rep p)).size:=by rw[aan];simp[Tm.pr]
  have hsz:p.size+1=(Tm.rep p).size:=rfl
  have hF:Fit (Tm.rep p):=by rcases hf with h|⟨_,_,e,_⟩;exact h;cases e
  have hpp:Plain p:=fun z hz=>hp z (by rw[mf_rep];simp only[Tm.bnd];exact hz);have hfp:FitT p:=.inl (aa0 hF (by simp only[Tm.bdp];try omega) fun z hz=>by rw[mf_rep];exact hz);have hW:=fun w hmk=>ih p tk once br m w (by omega) (by omega) hfp hpp ho' (by omega) hs hmk;have e1:(S (Tm.rep p)).extract 1 (S (Tm.rep p)).size=S p:=abz (t:=.rep p) (p:=p) (pre:=[42]) rfl
  have e2:(⟨#[42]⟩:ByteArray)++S (whl n once p tk).1=S (thS (whl n once) (Tm.rep p) tk).1:=by
   refine abg ?_;simp[thS,Tm.pr,S]
  have:=avV (S (Tm.rep p)) (B tk) (S (whl n once p tk).1) hX (by omega) (hr p tk (by omega)) m br once (whl n once p tk).2 hK (by rw[e1];exact hW) w hm;rw[e2]at this
  exact this
 | mat a b p=>
  have ho':(nmE a=true/\nmE b=true)/\p.ok nmE=true:=by simpa only[Tm.ok,bae] using ho
  have hlp:p.pr.length+5=(S (Tm.mat a b p)).size:=by rw[aan];simp[Tm.pr]
  have hsz:p.size+1=(Tm.mat a b p).size:=rfl
  have hF:Fit (Tm.mat a b p):=by rcases hf with h|⟨_,_,e,_⟩;exact h;cases e
  have hpp:Plain p:=fun z hz=>hp z (by rw[mf_mat];simp only[Tm.bnd];grind);have hfp:FitT p:=.inl (aa0 hF (by simp only[Tm.bdp];try omega) fun z hz=>by rw[mf_mat];grind);have hW:=fun w hmk=>ih p tk once br m w (by omega) (by omega) hfp hpp ho'.2 (by omega) hs hmk;have e1:(S (Tm.mat a b p)).extract 5 (S (Tm.mat a b p)).size=S p:=abz (t:=.mat a b p) (p:=p) (pre:=[91,a,61,b,93]) rfl
  have x1:(S (Tm.mat a b p)).extract 1 2=B [a]:=by
   refine abg ?_;rw[ByteArray.data_extract,Array.toList_extract,List.extract_eq_take_drop,aaN,aaE];rfl
  have x3:(S (Tm.mat a b p)).extract 3 4=B [b]:=by
   refine abg ?_;rw[ByteArray.data_extract,Array.toList_extract,List.extract_eq_take_drop,aaN,aaE];rfl
  have:=avW (S (Tm.mat a b p)) (B tk) (S (whl n once p tk).1) hX (by omega) (hr p tk (by omega)) m br once (whl n once p tk).2 (decide (b<a)) (by rw[x1,x3,ltI]) hK (by rw[e1];exact hW) w hm;rw[x1,x3]at this
  have e2:(⟨#[91]⟩:ByteArray)++(if decide (b<a)=true then B [b] else B [a])++⟨#[61]⟩++(if decide (b<a)=true then B [a] else B [b])++⟨#[93]⟩++S (whl n once p tk).1=S (thS (whl n once) (Tm.mat a b p) tk).1:=by
   refine abg ?_
   by_cases h:b<a<;>simp[thS,Tm.pr,S,B,h]
  rw[e2]at this
  exact this
 | rcv a x p=>
  have ho':(nmE a=true/\nmE x=true)/\p.ok nmE=true:=by simpa only[Tm.ok,bae] using ho
  have hlp:p.pr.length+4=(S (Tm.rcv a x p)).size:=by rw[aan];simp[Tm.pr]
  have hsz:p.size+1=(Tm.rcv a x p).size:=rfl
  have hF:Fit (Tm.rcv a x p):=by rcases hf with h|⟨_,_,e,_⟩;exact h;cases e
  have hfp:Fit p:=acA (x:=x) hF (by simp only[Tm.bdp];try omega) (fun z hz=>by rw[mf_rcv];grind);obtain⟨y,hy⟩:∃y,y=fresh tk:=⟨_,rfl⟩;have hyn:nmE y=true:=by rw[hy];exact acv tk
  have hyg:¬aaX y:=by rw[hy];exact acC tk
  have hpx:∀z,z∈p.free\/z∈p.bnd->¬aaX z:=fun z hz=>by
   by_cases c:z=x
   ·exact hp z (.inr (by simp[Tm.bnd,c]))
   ·exact hp z (by rw[mf_rcv];simp only[Tm.bnd,List.mem_cons];grind)
  have hpr:Plain (R p x y):=fun z hz=>by
   rcases R_names hfp x y z hz with h|h|h
   ·exact hpx z h
   ·rw[h];exact hyg
   ·exact h
  have hW:=fun w hmk=>ih (R p x y) (addL tk y) once br m w (by rw[R_size];omega) (by rw[R_size];omega) (.inl (ae6 hfp x y)) hpr (ad2 _ _ _ _ ho'.2 hyn) (by rw[adf];omega) (srt_addL hs y) hmk;have e1:(S (Tm.rcv a x p)).extract 4 (S (Tm.rcv a x p)).size=S p:=abz (t:=.rcv a x p) (p:=p) (pre:=[a,63,x,46]) rfl;have hx2:(S (Tm.rcv a x p))[2]'(by omega)=x:=abh (aaN _) 2 (by omega) (by simp[Tm.pr])
  have hFr:Ze 138 #[.string (B tk)] (.int .u8 ((y.toNat:Nat):Int)):=fun w=>by
   have:=abR (B tk) (by rw[aaR];exact Nat.le_trans (abm hs) (by omega)) w;rw[aaE,<-hy]at this;exact this
  have:=av1 (S (Tm.rcv a x p)) (B tk) (S (whl n once (R p x y) (addL tk y)).1) (S (R p x y)) (B (addL tk y)) y hX (by omega) (hr _ _ (by rw[adf];omega)) m br once (whl n once (R p x y) (addL tk y)).2 hK hFr
   (by rw[e1,hx2];exact ac3 p.size p x y (nl _) ho'.2 (by omega) hyn) (afw tk y hs) hW w hm
  have e2:(S (Tm.rcv a x p)).extract 0 2++one y++⟨#[46]⟩++S (whl n once (R p x y) (addL tk y)).1=S (thS (whl n once) (Tm.rcv a x p) tk).1:=by
   refine abg ?_;rw[ByteArray.data_append,Array.toList_append,ByteArray.data_append,Array.toList_append,ByteArray.data_append,Array.toList_append,ByteArray.data_extract,Array.toList_extract,List.extract_eq_take_drop,aaN,aaN,aaN];simp[thS,Tm.pr,<-hy,one]
  rw[e2]at this
  have e3:(thS (whl n once) (Tm.rcv a x p) tk).2=(whl n once (R p x y) (addL tk y)).2:=by simp[thS,<-hy]
  rw[e3];exact this
 | sum p q=>
  have hne:Tm.sums (Tm.sum p q).size (Tm.sum p q)≠[]:=asB _ _ (nl _) (by simp[Tm.dead,hw.1]);have hpe:(Tm.sum p q).peel=.sum p q:=ae8 _ hw
  have hsub:∀r∈Tm.sums (Tm.sum p q).size (Tm.sum p q),r.size<(Tm.sum p q).size:=by
   intro r hr;have e:(Tm.sum p q).size=(p.size+q.size)+1:=rfl;rw[e]at hr ⊢;unfold Tm.sums at hr;rw[hpe]at hr;simp only[lma]at hr;have hq1:=aaq q;have hp1:=aaq p;rcases hr with h|h
   ·have:=(adJ h).2;have:=(aeh (p.size+q.size) p).2;omega
   ·have:=(adJ h).2;have:=(aeh (p.size+q.size) q).2;omega
  have hwt:=aeh (Tm.sum p q).size (Tm.sum p q);have hfa:=ago (Tm.sum p q).size (Tm.sum p q) ho hf hp;have hSm:=fun w=>afW (Tm.sum p q).size (Tm.sum p q) (nl _) ho hl w;obtain⟨l,hl0⟩:∃l,l=Tm.sums (Tm.sum p q).size (Tm.sum p q):=⟨_,rfl⟩;rw[<-hl0]at hne hsub hwt hfa hSm;have hll:=arG l
  have:=avX (S (Tm.sum p q)) (B tk) (l.map S) (l.map fun r=>S (whl n once r tk).1) (l.map fun r=>(whl n once r tk).2) (by simpa using hne) (by simp) (by simp) (by rw[List.length_map];omega)
   (fun r hr0=>by
    obtain⟨r',hr',rfl⟩:=List.mem_map.1 hr0
    exact hr r' tk (by have:=(adJ hr').1;omega)) m br once hK (fun w=>(hSm w).mono fun e w' h=>h.some_ (by simpa using hne))
   (fun j q' r' bb h1 h2 h3 br w hmk=>by
    simp only[List.getElem?_map,Option.map_eq_some_iff]at h1 h2 h3;obtain⟨c1,k1,rfl⟩:=h1;obtain⟨c2,k2,rfl⟩:=h2;obtain⟨c3,k3,rfl⟩:=h3;rw[k1]at k2 k3
    cases k2;cases k3
    have hc:=List.mem_of_getElem? k1;obtain⟨f1,f2,f3⟩:=hfa c1 hc
    exact ih c1 tk once br m w (by have:=hsub c1 hc;omega) (by have:=hsub c1 hc;omega) f2 f3 f1 (by have:=(adJ hc).1;omega) hs hmk) w hm
  have e1:(l.map fun r=>S (whl n once r tk).1)=(l.map fun r=>(whl n once r tk).1).map S:=by rw[List.map_map];rfl
  rw[e1,agC,aiD _ (by
   intro e;have:=congrArg List.length e;unfold srtT at this
   rw[List.length_mergeSort,List.length_map]at this
   exact hne (List.length_eq_zero_iff.1 this)),List.any_map]at this
  have e2:thS (whl n once) (Tm.sum p q) tk=(joinR .sum (srtT (l.map fun r=>(whl n once r tk).1)),l.any fun r=>(whl n once r tk).2):=by rw[hl0];rfl
  rw[e2];exact this
def agD:List UInt8->List UInt8->Tm->Tm
 | g::o,l::ls,t=>agD o ls (R t g l)
 | _,_,t=>t
theorem akt:∀(o:List Nat) (ls:List UInt8) (t:Tm),agD (o.map gl) ls t=nmG o ls t
 | [],ls,t=>by simp[agD,nmG]
 | i::o,[],t=>by simp[agD,nmG]
 | i::o,l::ls,t=>by simp only[List.map_cons,agD,nmG];exact akt o ls _
theorem ahw:∀(o ls:List UInt8) (t:Tm),(agD o ls t).pr.length=t.pr.length
 | [],ls,t=>by simp[agD]
 | i::o,[],t=>by simp[agD]
 | i::o,l::ls,t=>by simp only[agD];rw[ahw o ls,adf]
def txO (n:Nat)(once:Bool)(TT:List Tm)(ns al:List UInt8)(o:List UInt8):Tm:=joinR .par (srtT (TT.map fun T=>(thS (whl n once) (agD o ns T) al).1))
def fbO (n:Nat)(once:Bool)(TT:List Tm)(ns al:List UInt8)(o:List UInt8):Bool:=TT.any fun T=>(thS (whl n once) (agD o ns T) al).2
theorem arZ {l:List Tm}(h:l≠[]):srtT l≠[]:=fun e=>h (by
 have:=congrArg List.length e;unfold srtT at this
 rw[List.length_mergeSort]at this
 exact List.length_eq_zero_iff.1 this)
theorem atH (n:Nat)(once:Bool)(TT:List Tm)(ns al o:List UInt8)(h:TT≠[]):(txO n once TT ns al o).pr.length+3<=wtL TT:=by
 unfold txO;have h1:=adK (srtT (TT.map fun T=>(thS (whl n once) (agD o ns T) al).1)) (arZ (by simpa using h));rw[aij]at h1
 have h2:=anP TT (fun T=>(thS (whl n once) (agD o ns T) al).1) id (fun T _=>by
  have:=aja (whl n once) (ahb n once) (agD o ns T) al;rw[ahw]at this
  exact this)
 rw[List.map_id]at h2;omega
theorem aoV (n:Nat)(ih:WhP n)(TT:List Tm)(tk:List UInt8)(mm:Nat)(once br:Bool)(m:Nat)(o':List Nat)(ho1:o'.length=mm)(ho2:o'.Nodup)(ho3:∀i,i∈o'↔i<mm)(hmm:mm<=5)(hs:Srt tk)(hTT:TT≠[])(hlen:TT.length<=100) (hf:∀T∈TT,(FitX T/\(Fit T\/mm=0))/\T.size<=n+1/\T.size<=121/\Thw T/\(∀z,z∈T.free->¬aaX z\/∃j,j<mm/\z=gl j)/\(∀z∈T.bnd,¬aaX z)/\T.ok nmE=true/\T.pr.length<=700) (g cap:Nat)(C:Array Value)(w:World)(hC:∀j (h:j<(TT.map S).length),C[j]?=some (.string (TT.map S)[j]))(hg:w.heap[g]?=some (.cells C 9 (0,0)))(hgm:g≠m)(hm:MkAt w m br once) : Calls prog 140 #[.pointer (some ⟨m,0,none⟩),.slice (some ⟨g,0,none⟩) (TT.map S).length cap,.string (B (o'.map gl)),.string (B (nexts tk mm)),.string (B (allT tk mm))] w (MkP m br once (S (txO n once TT (nexts tk mm) (allT tk mm) (o'.map gl))) (fbO n once TT (nexts tk mm) (allT tk mm) (o'.map gl)) w):=by
 have hnl:=abu mm tk;have hN:=afi mm tk;have hNg:=acD mm tk;have hoi:∀i∈o',i<90:=fun i hi=>by have:=(ho3 i).1 hi;omega
 have hfac:∀T∈TT,∀i,i<=mm->FitX (nmG (o'.take i) ((nexts tk mm).take i) T)/\(nmG (o'.take i) ((nexts tk mm).take i) T).ok nmE=true/\Thw (nmG (o'.take i) ((nexts tk mm).take i) T):=fun T hT i hi=>by
  obtain⟨⟨f1,f2⟩,f3,f4,f5,f6,f7,f8,f9⟩:=hf T hT
  exact afc _ _ T (by simp;omega) (fun j hj=>hoi j (List.mem_of_mem_take hj)) (fun l hl=>hN l (List.mem_of_mem_take hl)) (f2.imp id fun h=>by
   have:o'=[]:=List.length_eq_zero_iff.1 (by omega)
   rw[this,List.take_nil]) f1 f8 f5
 have hB1:(B (o'.map gl)).size=mm:=by rw[aaR,List.length_map,ho1]
 have hB2:(B (nexts tk mm)).size=mm:=by rw[aaR,hnl]
 have hfull:∀T,nmG (o'.take mm) ((nexts tk mm).take mm) T=agD (o'.map gl) (nexts tk mm) T:=fun T=>by
  rw[List.take_of_length_le (by omega),List.take_of_length_le (by omega),akt]
 have hTl:∀(T:Tm) i,(nmG (o'.take i) ((nexts tk mm).take i) T).pr.length=T.pr.length/\(nmG (o'.take i) ((nexts tk mm).take i) T).size=T.size:=fun T i=>ag5 _ _ T
 have key:=avY g cap C (TT.map S) (TT.map fun T=>S (thS (whl n once) (agD (o'.map gl) (nexts tk mm) T) (allT tk mm)).1) (TT.map fun T=>(thS (whl n once) (agD (o'.map gl) (nexts tk mm) T) (allT tk mm)).2)
  (B (o'.map gl)) (B (nexts tk mm)) (B (allT tk mm)) (fun j i=>S (nmG (o'.take i) ((nexts tk mm).take i) (TT.getD j .nil))) (by simpa using hTT) (by simp) (by simp) (by simpa using hlen)
  (fun r hr=>by
   obtain⟨T,hT,rfl⟩:=List.mem_map.1 hr;rw[aan];have:=aja (whl n once) (ahb n once) (agD (o'.map gl) (nexts tk mm) T) (allT tk mm);rw[ahw]at this
   have:=(hf T hT).2.2.2.2.2.2.2
   omega) (by omega) (by omega) m br once hgm
  (fun j q hq=>by
   simp only[List.getElem?_map,Option.map_eq_some_iff]at hq;obtain⟨T,hT,rfl⟩:=hq
   simp[nmG,List.getD_eq_getElem?_getD,hT])
  hC
  (fun j i h w hj=>by
   rw[List.length_map]at hj;have hT:TT.getD j .nil=TT[j]:=by rw[List.getD_eq_getElem?_getD,List.getElem?_eq_getElem hj];rfl
   have hTm:TT[j]∈TT:=List.getElem_mem hj;rw[hT];have hi1:i<o'.length:=by omega
   have hi2:i<(nexts tk mm).length:=by omega
   rw[aj1 i o' (nexts tk mm) TT[j] hi1 hi2]
   have b1:((B (o'.map gl))[i]'h)=gl o'[i]:=by
    have:=abh (s:=B (o'.map gl)) (l:=o'.map gl) (aaE _) i h (by rw[List.length_map];exact hi1);rw[this,List.getElem_map]
   have b2:((B (nexts tk mm))[i]'(by omega))=(nexts tk mm)[i]:=abh (aaE _) i (by omega) hi2;rw[b1,b2];refine ac3 _ _ _ _ (nl _) (hfac _ hTm i (by omega)).2.1 ?_ (hN _ (List.getElem_mem hi2)) w
   rw[(hTl _ _).1];exact(hf _ hTm).2.2.2.2.2.2.2)
  (fun j r bb hj h1 h2 br w hmk=>by
   rw[List.length_map]at hj;have hT:TT.getD j .nil=TT[j]:=by rw[List.getD_eq_getElem?_getD,List.getElem?_eq_getElem hj];rfl
   have hTm:TT[j]∈TT:=List.getElem_mem hj;simp only[List.getElem?_map,List.getElem?_eq_getElem hj,Option.map_some,Option.some.injEq]at h1 h2;subst h1 h2;rw[hT,hB1];obtain⟨⟨f1,f2⟩,f3,f4,f5,f6,f7,f8,f9⟩:=hf _ hTm;obtain⟨k1,k2,k3⟩:=hfac _ hTm mm (nl _);have kl:=hTl TT[j] mm
   have kp:Plain (nmG (o'.take mm) ((nexts tk mm).take mm) TT[j]):=by
    rw[List.take_of_length_le (by omega),List.take_of_length_le (by omega)];exact afd o' (nexts tk mm) TT[j] (by omega) ho2 hoi hNg (f2.imp id fun h=>List.length_eq_zero_iff.1 (by omega)) (fun z hz=>(f6 z hz).imp id fun ⟨j,hj,e⟩=>⟨j,(ho3 j).2 hj,e⟩) f7
   rw[hfull]at k1 k2 k3 kl kp ⊢
   exact alN n ih _ (allT tk mm) once br m w (by omega) (by omega) k3 k1 kp k2 (by omega) (aks mm tk hs) hmk)
  w hg hm
 have e1:(TT.map fun T=>S (thS (whl n once) (agD (o'.map gl) (nexts tk mm) T) (allT tk mm)).1)=(TT.map fun T=>(thS (whl n once) (agD (o'.map gl) (nexts tk mm) T) (allT tk mm)).1).map S:=by rw[List.map_map];rfl
 rw[e1,agC,afx _ (arZ (by simpa using hTT)),List.any_map]at key;exact key
theorem aoW (n:Nat):WhP n:=by
 induction n with
 | zero=>intro t tk once br m w h;have:=aaq t;omega
 | succ n ih=>
  intro t tk once br m w hn h121 hf hp ho hl hs hm;obtain⟨g89,gfa⟩:=agn h121 hf hp;have gok:=ajS t.size 0 t ho g89;have gw:=anO t.size 0 t;have gu:=anM t.size t 0 (fun z=>¬aaX z) (nl _) hf g89 (fun z h=>h) (fun i _ hi h=>h (acf hi)) hp;have HG:=fun b w lv=>alJ t.size t 0 b w.heap.size (fun z=>¬aaX z) [] (.slice none 0 0) w (nl _) hf ho hl g89 (fun z h=>h) (fun i _ hi h=>h (acf hi)) hp (by simp;omega) lv (World.ownsRow_nil _ _ _ _) (nl _);unfold whl;obtain⟨mm,hmm⟩:∃mm,mm=(gath t.size 0 t).2:=⟨_,rfl⟩;obtain⟨TT,hTTe⟩:∃TT,TT=(gath t.size 0 t).1:=⟨_,rfl⟩;rw[<-hmm]at g89 gfa gw gu HG ⊢;rw[<-hTTe]at gfa gok gw gu HG ⊢;clear hmm hTTe;have hwm:=fun T (h:T∈TT)=>adJ h;have hll:=arG TT;have hgl:(ac4 mm).length=mm:=by simp[ac4]
  have hU:∀j (h:j<(TT.map S).length) w,Calls prog 104 #[.string (TT.map S)[j]] w fun e w'=>e=.returned (.string (B (TT.getD j .nil).usd))/\Zb w w':=fun j h w=>by
   have hj:j<TT.length:=by simpa using h
   have:=aeo TT[j].size TT[j] (nl _) (gok _ (List.getElem_mem hj)) (by have:=(hwm _ (List.getElem_mem hj)).1;omega) w;have e:(TT.map S)[j]=S TT[j]:=List.getElem_map _;rw[<-e]at this
   rw[List.getD_eq_getElem?_getD,List.getElem?_eq_getElem hj];exact this
  have hord:ordsL mm (ac4 mm)=(ords mm).map (·.map gl):=als gl mm (List.range mm);obtain⟨O,hO⟩:∃O,O=(if once=true then (ords mm).take 1 else ords mm):=⟨_,rfl⟩
  have hOO:(if once=true then (ordsL (ac4 mm).length (ac4 mm)).take 1 else ordsL (ac4 mm).length (ac4 mm))=O.map (·.map gl):=by
   rw[hgl,hord,hO];cases once<;>simp[List.map_take]
  rw[<-hO]
  have hOm:mm<=5->∀o∈O,o.length=mm/\o.Nodup/\∀i,i∈o↔i<mm:=fun h o h1=>by
   refine ack mm h o ?_;rw[hO]at h1
   split at h1
   ·exact List.mem_of_mem_take h1
   ·exact h1
  have hOn:mm<=5->O≠[]/\O.length<=120:=fun h=>by
   have h1:=acT mm h;have h2:=(ab9 mm (List.range mm) (by simp)).1;have h3:∀k,k<=5->fct k<=120:=by decide
   rw[List.length_range]at h2;have h4:=h3 mm h;rw[hO];unfold ords at h1 ⊢
   cases once
   ·exact⟨by simpa using h1,by simp only[Bool.false_eq_true,if_false];omega⟩
   ·refine⟨by simpa using h1,?_⟩;simp only[if_true,List.length_take];omega
  refine avZ (S t) tk (ac4 mm) (TT.map S) (fun j=>(TT.getD j .nil).usd) hs (fun j=>abe _) (by rw[List.length_map];omega) (by omega) (fun hne z hz=>?_) (O.map (·.map gl)) m br once hOO.symm (fun h=>?_)
   (fun o=>S (txO n once TT (nexts tk mm) (allT tk mm) o)) (fun o=>fbO n once TT (nexts tk mm) (allT tk mm) o) (fun o ho=>?_) _ _ (fun h=>?_) (fun h h5=>?_) (fun h h5=>?_) HG ?_ (fun hne h5 o ho br g cap C w hC hg hgm hmk=>?_) w hm
  ·rw[atG];obtain⟨i,hi,rfl⟩:=List.mem_map.1 hz;obtain⟨T,hT,hu⟩:=gu _ (.inr ⟨i,Nat.zero_le _,List.mem_range.1 hi,rfl⟩);obtain⟨k,hk,e⟩:=List.mem_iff_getElem.1 hT;refine⟨k,by simpa using hk,?_⟩;rw[List.getD_eq_getElem?_getD,List.getElem?_eq_getElem hk,Option.getD_some,e];exact hu
  ·rw[hgl]at h;exact⟨by rw[List.length_map];exact(hOn h).2,by simpa using (hOn h).1⟩
  ·rw[aan];refine⟨pr_pos _,?_⟩
   by_cases hTT:TT=[]
   ·subst hTT;simp[txO,srtT,joinR,Tm.pr]
   ·have:=atH n once TT (nexts tk mm) (allT tk mm) o hTT;omega
  ·have:TT=[]:=by simpa using h
   rw[this];exact⟨rfl,rfl⟩
  ·have h1:TT.isEmpty=false:=by simpa using h
   rw[hgl]at h5;rw[h1];simp only[Bool.false_eq_true,if_false];rw[if_pos h5];exact⟨rfl,rfl⟩
  ·have h1:TT.isEmpty=false:=by simpa using h
   rw[hgl]at h5 ⊢;rw[h1];simp only[Bool.false_eq_true,if_false];rw[if_neg (by omega)]
   have e1:(O.map (·.map gl)).map (fun o=>S (txO n once TT (nexts tk mm) (allT tk mm) o))=(O.map fun o=>joinR .par (srtT (TT.map fun T=>(thS (whl n once) (nmG o (nexts tk mm) T) (allT tk mm)).1))).map S:=by
    rw[List.map_map,List.map_map];refine List.map_congr_left fun o _=>?_;simp only[Function.comp,txO,akt]
   rw[e1,awJ _ (by simpa using (hOn h5).1),av2];refine⟨rfl,?_⟩;rw[List.any_map];show (O.any fun o=>TT.any fun T=>(thS (whl n once) (nmG o (nexts tk mm) T) (allT tk mm)).2)=_;congr 1
   funext o
   simp only[Function.comp,fbO,akt]
  ·exact hU
  ·rw[hgl]at h5 ⊢;obtain⟨o',ho',rfl⟩:=List.mem_map.1 ho;obtain⟨a1,a2,a3⟩:=hOm h5 o' ho';refine aoV n ih TT tk mm once br m o' a1 a2 a3 h5 hs (by simpa using hne) (by omega) (fun T hT=>?_) g cap C w hC hg hgm hmk;obtain⟨b1,b2,b3,b4,b5,b6⟩:=gfa T hT;exact⟨⟨b1,b2⟩,by omega,by omega,b4,b5,b6,gok T hT,by have:=(hwm T hT).1;omega⟩
theorem alO (l:List UInt8)(i:Nat)(h:i<l.length):(l.take (i+1)).count 35=(l.take i).count 35+if l[i]=35 then 1 else 0:=by
 rw[List.take_succ_eq_append_getElem h,List.count_append];congr 1
 by_cases c:l[i]=35<;>simp[c]
def alP (R:ByteArray)(b:Bool)(w:World)(e:Ending)(w':World):Prop:=e=.returned (.tuple #[.string R,.bool b])/\Zb w w'
theorem afA (X U R1 R2:ByteArray)(b1 b2:Bool)(hs1:R1.size<=1000)(V:ByteArray)(z:Bool)(hv1:(b1=true\/8<R1.data.toList.count 35)->V=⟨#[]⟩/\z=false)(hv2:¬(b1=true\/8<R1.data.toList.count 35)->V=R2/\z=!b2) (HU:Zr 104 #[.string X] (.string U)) (HW1:∀m w,MkAt w m false true->Calls prog 103 #[.pointer (some ⟨m,0,none⟩),.string X,.string U] w (MkP m false true R1 b1 w)) (HW2:∀m w,MkAt w m false false->Calls prog 103 #[.pointer (some ⟨m,0,none⟩),.string X,.string U] w (MkP m false false R2 b2 w))(w:World) : Calls prog 81 #[.string X] w (alP V z w):=by
 have HU':=qz HU;have HW1':=qz HW1;have HW2':=qz HW2;have HV1:=qz hv1;have HV2:=qz hv2;clear HU HW1 HW2 hv1 hv2
 go_enter func81,ntmps81
 go_wp2_with fail;refine(HU'.out _).mono ?_;rintro e w1 ⟨rfl,bl1⟩;have hmk:MkAt w1 w.heap.size false true:=(bl1.block w.heap.size (by simp)).trans (aag w _);have HM:=qz hmk;have B1:=qz (aab ((Below.refl w.heap.size w).alloc (nl _) _) bl1 (by simp));clear bl1 hmk;go_wp2_with fail;refine(HW1'.out _ _ HM.out).mono ?_;rintro e w2 ⟨rfl,m2,o2⟩;have B2:Hid (Zb w w2):=⟨o2.os.trans B1.out.os,o2.tape.trans B1.out.tape,o2.output.trans B1.out.output,Nat.le_trans B1.out.size o2.size,fun k hk=>(o2.block k (by have:=B1.out.size;omega) (by omega)).trans (B1.out.block k hk)⟩;obtain⟨cap0,W0,hcv,bW,hr⟩:=aaz R1 _ R1.size rfl (by simp) w2;have M2:=qz (m2.below bW);have B3:=qz (B2.out.trans (bW.mono B2.out.size));have HR:=qz hr;obtain⟨g,hg⟩:∃g,g=w2.heap.size:=⟨_,rfl⟩;rw[<-hg]at hcv HR;obtain⟨l,hl⟩:∃l,l=R1.data.toList:=⟨_,rfl⟩;have hll:Hid (l.length=R1.size):=by show _=_;rw[hl];simp
 rw[<-hl]at HR HV1 HV2;have hml:=M2.out.lt;clear m2 o2 bW hr B2 HM hg hl;go_wp2_with fail;clear hcv
 go_loop [5,19] (fun s c=>∃i:Nat,i<=R1.size/\c=.int .i64 (i:Int)/\s=.int .i64 (((l.take i).count 35:Nat):Int)) (fun _ c=>R1.size - (intOf c).toNat)
 case atStart=>exact⟨0,Nat.zero_le _,rfl,by simp⟩
 case round=>
  obtain⟨i,hi,rfl,rfl⟩:=hrel;have hct:(l.take i).count 35<=1000:=Nat.le_trans List.count_le_length (by rw[List.length_take];omega)
  by_cases hlt:i<R1.size
  ·have hil:i<l.length:=by have:=hll.out;omega
   have hcs:=qz (alO l i hil);have hc:=HR.out.cell i hil;obtain⟨k,hk⟩:∃k,k=l[i]:=⟨_,rfl⟩;rw[<-hk]at hcs hc;obtain⟨K,hK⟩:∃K,K=(l.take i).count 35:=⟨_,rfl⟩;rw[<-hK]at hct hcs ⊢;clear hk hK
   by_cases h35:k=35
   ·have t1:((k.toNat:Int)==35)=true:=by rw[h35];rfl
    have H35:=qz h35;clear h35;go_wp2_with fail
    go_round
    case rel=>exact⟨i+1,by omega,by push_cast;rfl,by rw[hcs.out,if_pos H35.out];push_cast;rfl⟩
    case measure=>simp[intOf]<;>omega
   ·have t1:((k.toNat:Int)==35)=false:=by
     rw[beq_eq_false_iff_ne];intro e;exact h35 (by apply UInt8.toNat_inj.1;show k.toNat=35;omega)
    have H35:=qz h35;clear h35;go_wp2_with fail
    go_round
    case rel=>exact⟨i+1,by omega,by push_cast;rfl,by rw[hcs.out,if_neg H35.out];push_cast;rfl⟩
    case measure=>simp[intOf]<;>omega
  ·obtain rfl:i=R1.size:=by omega
   rw[List.take_of_length_le (by have:=hll.out;omega)]at hct ⊢;obtain⟨K,hK⟩:∃K,K=l.count 35:=⟨_,rfl⟩;rw[<-hK]at hct HV1 HV2 ⊢;have c0:=M2.out.c0;clear hK HR;simp only[Bool.false_or]at c0
   cases hb1:b1
   ·rw[hb1]at c0 HV1 HV2
    by_cases h8:8<K
    ·have q8:(8:Int)<(K:Int):=by omega
     go_wp2_with fail;go_ret2;have:=HV1.out (.inr h8);exact⟨by rw[this.1,this.2];rfl,B3.out⟩
    ·have q8:¬(8:Int)<(K:Int):=by omega
     have hv:=qz (HV2.out (by simp[h8]));go_wp2_with fail;refine(HU'.out _).mono ?_;rintro e w3 ⟨rfl,bl3⟩;have hmk:MkAt w3 W0.heap.size false false:=(bl3.block W0.heap.size (by simp)).trans (aag W0 _);have HM3:=qz hmk;have hz3:W0.heap.size<w3.heap.size:=by have:=bl3.size;simp at this;omega
     have B4:=qz (B3.out.trans (aab ((Below.refl W0.heap.size W0).alloc (nl _) _) bl3 (by simp) |>.mono B3.out.size));clear bl3 hmk c0;go_wp2_with fail;refine(HW2'.out _ _ HM3.out).mono ?_;rintro e w4 ⟨rfl,m4,o4⟩;have hws:=B3.out.size;have B5:Hid (Zb w w4):=⟨o4.os.trans B4.out.os,o4.tape.trans B4.out.tape,o4.output.trans B4.out.output,Nat.le_trans B4.out.size o4.size,fun k hk=>(o4.block k (by omega) (by omega)).trans (B4.out.block k hk)⟩;have c4:=m4.c0;simp only[Bool.false_or]at c4;clear m4 o4;go_wp2_with fail
     go_quiet (fail)
     go_wp2_with fail;go_ret2;exact⟨by rw[hv.out.1,hv.out.2];rfl,by first|exact B5.out|exact aaj B5.out _⟩
   ·rw[hb1]at c0 HV1 HV2;go_wp2_with fail;go_ret2;have:=HV1.out (.inl (by trivial));exact⟨by rw[this.1,this.2];rfl,B3.out⟩
theorem afB (X V:ByteArray)(z:Bool)(R:ByteArray)(y:Bool)(hz:z=false->R=⟨#[]⟩/\y=false)(HI:z=true->∀w,Calls prog 82 #[.string V] w (alP R y w)) (HO:∀w,Calls prog 81 #[.string X] w (alP V z w))(w:World) : Calls prog 49 #[.string X] w (alP R y w):=by
 have HO':=qz HO;have HI':=qz HI;have HZ:=qz hz;clear HO HI hz
 go_enter func49,ntmps49
 go_wp2_with fail;refine(HO'.out _).mono ?_;rintro e w1 ⟨rfl,b1⟩;have B1:=qz b1;clear b1
 cases z
 ·go_wp2_with fail;go_ret2;exact⟨by rw[(HZ.out (by trivial)).1,(HZ.out (by trivial)).2];rfl,B1.out⟩
 ·have HI2:=qz (HI'.out (by trivial));go_wp2_with fail;refine(HI2.out _).mono ?_;rintro e w2 ⟨rfl,b2⟩;have B2:=qz (aab B1.out b2 B1.out.size);clear b2;go_wp2_with fail;go_ret2;exact⟨rfl,B2.out⟩
def aue:Option Tm->ByteArray
 | some r=>S r
 | none=>⟨#[]⟩
theorem aeR (t:Tm)(hs:t.size<=121)(hf:FitT t)(ho:t.ok nmL=true)(hl:t.pr.length<=700)(w:World) : Calls prog 49 #[.string (S t)] w (alP (aue (nfS t)) (nfS t).isSome w):=by
 have hoE:=ag_ t ho;have hp:Plain t:=fun z hz=>ach (hz.elim ((okL_names ho).1 z) ((okL_names ho).2 z));have hU:=aeo t.size t (nl _) hoE hl;have hW:=fun once m w hmk=>aoW t.size t t.usd once false m w (nl _) hs hf hp hoE hl (abe t) hmk;have hL:=fun once=>ahb t.size once t t.usd;have hO:=fun once=>asJ t.size once t t.usd (nl _) hs hf hp hoE;have hx:∀r:Tm,(S r).data.toList.count 35=r.pr.count 35:=fun r=>by rw[aaN]
 unfold nfS
 by_cases h1:(whl t.size true t t.usd).2=true\/8<(whl t.size true t t.usd).1.pr.count 35
 ·rw[if_pos h1];refine afB (S t) ⟨#[]⟩ false _ _ (fun _=>⟨rfl,rfl⟩) (fun h=>by cases h) (fun w=>afA (S t) (B t.usd) (S (whl t.size true t t.usd).1) (S (whl t.size false t t.usd).1) (whl t.size true t t.usd).2 (whl t.size false t t.usd).2 (by rw[aan];have:=hL true;omega) _ _ (fun _=>⟨rfl,rfl⟩) (fun h=>?_) hU (hW true) (hW false) w) w;rw[hx]at h;exact absurd h1 h
 ·rw[if_neg h1]
  cases h2:(whl t.size false t t.usd).2 with
  | true=>
   rw[if_pos rfl];refine afB (S t) (S (whl t.size false t t.usd).1) false _ _ (fun _=>⟨rfl,rfl⟩) (fun h=>by cases h) (fun w=>afA (S t) (B t.usd) (S (whl t.size true t t.usd).1) (S (whl t.size false t t.usd).1) (whl t.size true t t.usd).2 (whl t.size false t t.usd).2 (by rw[aan];have:=hL true;omega) _ _ (fun h=>?_) (fun h=>⟨rfl,by rw[h2];rfl⟩) hU (hW true) (hW false) w) w;rw[hx]at h;exact absurd h h1
  | false=>
   rw[if_neg (by simp)];refine afB (S t) (S (whl t.size false t t.usd).1) true _ _ (fun h=>by cases h) (fun _ w=>?_) (fun w=>afA (S t) (B t.usd) (S (whl t.size true t t.usd).1) (S (whl t.size false t t.usd).1) (whl t.size true t t.usd).2 (whl t.size false t t.usd).2 (by rw[aan];have:=hL true;omega) _ _ (fun h=>?_) (fun h=>⟨rfl,by rw[h2];rfl⟩) hU (hW true) (hW false) w) w
   ·have:=aqV (whl t.size false t t.usd).1 (hO false) (by have:=hL false;omega) w
    by_cases h:okT (whl t.size false t t.usd).1=true
    ·rw[if_pos h]at this;rw[if_pos ((aht _).1 h)];exact this
    ·rw[if_neg h]at this;rw[if_neg (fun h'=>h ((aht _).2 h'))];exact this
   ·rw[hx]at h;exact absurd h h1
end Go.Proofs.YtalegefnppbkdaaGreat.T1
