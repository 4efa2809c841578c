/- Texts of the proof. No conditions. -/
import Derived.Test.YtalegefnppbkdaaGreatQaa
namespace Go.Proofs.YtalegefnppbkdaaGreat.T1
open Go.Proofs.Tryz
set_option linter.unusedVariables false
theorem mf_snd (a b:UInt8)(p:Tm)(z:UInt8):z∈(Tm.snd a b p).free↔z=a\/z=b\/z∈p.free:=by
 simp only[Tm.free,mem_addL,mem_bothL];grind
theorem mf_rcv (a x:UInt8)(p:Tm)(z:UInt8):z∈(Tm.rcv a x p).free↔z=a\/(z∈p.free/\z≠x):=by
 simp only[Tm.free,mem_addL,mem_bothL,abG];grind
theorem mf_tau (p:Tm)(z:UInt8):z∈(Tm.tau p).free↔z∈p.free:=by
 simp only[Tm.free,mem_bothL];grind
theorem mf_sum (p q:Tm)(z:UInt8):z∈(Tm.sum p q).free↔z∈p.free\/z∈q.free:=by
 simp only[Tm.free,mem_bothL];grind
theorem mf_par (p q:Tm)(z:UInt8):z∈(Tm.par p q).free↔z∈p.free\/z∈q.free:=by
 simp only[Tm.free,mem_bothL];grind
theorem mf_own (x:UInt8)(p:Tm)(z:UInt8):z∈(Tm.own x p).free↔z∈p.free/\z≠x:=by
 simp only[Tm.free,mem_bothL,abG];grind
theorem mf_mat (a b:UInt8)(p:Tm)(z:UInt8):z∈(Tm.mat a b p).free↔z=a\/z=b\/z∈p.free:=by
 simp only[Tm.free,mem_addL,mem_bothL];grind
theorem mf_rep (p:Tm)(z:UInt8):z∈(Tm.rep p).free↔z∈p.free:=by
 simp only[Tm.free,mem_bothL];grind
theorem ap6 (n:Nat):∀(k:Nat) (t:Tm) (o m:UInt8),t.size<=n->t.size<=k->ren n t o m=ren k t o m:=by
 induction n with
 | zero=>intro k t o m h;have:=aaq t;omega
 | succ n ih=>
  intro k t o m hn hk
  cases k with
  | zero=>have:=aaq t;omega
  | succ k=>
   have hb:∀p x,p.size<=n->p.size<=k->aiT n p x o m=aiT k p x o m:=by
    intro p x h1 h2;unfold aiT
    split<;>split
    ·exact ih _ _ _ _ h1 h2
    ·rfl
    ·rw[ih k p x _ h1 h2];exact ih _ _ _ _ (by rw[(agJ _ _ _ _).2];exact h1) (by rw[(agJ _ _ _ _).2];exact h2)
    ·exact ih _ _ _ _ h1 h2
   unfold ren
   split
   ·rfl
   ·cases t with
    | nil=>rfl
    | snd a b p=>simp only[Tm.size]at hn hk;simp only[ih k p o m (by omega) (by omega)]
    | rcv a x p=>simp only[Tm.size]at hn hk;have h:=hb p x (by omega) (by omega);unfold aiT at h;simp only[h]
    | tau p=>simp only[Tm.size]at hn hk;simp only[ih k p o m (by omega) (by omega)]
    | sum p q=>simp only[Tm.size]at hn hk;simp only[ih k p o m (by omega) (by omega),ih k q o m (by omega) (by omega)]
    | par p q=>simp only[Tm.size]at hn hk;simp only[ih k p o m (by omega) (by omega),ih k q o m (by omega) (by omega)]
    | own x p=>simp only[Tm.size]at hn hk;have h:=hb p x (by omega) (by omega);unfold aiT at h;simp only[h]
    | mat a b p=>simp only[Tm.size]at hn hk;simp only[ih k p o m (by omega) (by omega)]
    | rep p=>simp only[Tm.size]at hn hk;simp only[ih k p o m (by omega) (by omega)]
def R (t:Tm)(o m:UInt8):Tm:=ren t.size t o m
theorem R_size (t:Tm)(o m:UInt8):(R t o m).size=t.size:=(agJ _ _ _ _).2
theorem adf (t:Tm)(o m:UInt8):(R t o m).pr.length=t.pr.length:=(agJ _ _ _ _).1
theorem aeG {n:Nat}{t:Tm}(h:t.size<=n)(o m:UInt8):ren n t o m=R t o m:=ap6 _ _ _ _ _ h (nl _)
theorem abt (t:Tm)(o m:UInt8)(h:o=m\/o∉t.free):R t o m=t:=apz _ _ _ _ h
def RB (p:Tm)(x o m:UInt8):Tm:=if capX p x o m=o then (if x=m/\o∈p.free then R p x (capX p x o m) else p) else R (if x=m/\o∈p.free then R p x (capX p x o m) else p) o m
theorem anp {n:Nat}{p:Tm}(h:p.size<=n)(x o m:UInt8):aiT n p x o m=RB p x o m:=by
 unfold aiT RB
 split<;>split
 ·rw[aeG h]
 ·rfl
 ·rw[aeG h,aeG (by rw[R_size];exact h)]
 ·rw[aeG h]
section
variable {o m:UInt8}
theorem agR {a b:UInt8}{p:Tm}(h:¬(o=m\/o∉(Tm.snd a b p).free)):R (.snd a b p) o m=.snd (sw a o m) (sw b o m) (R p o m):=by
 show ren (p.size+1) _ _ _=_;unfold ren;rw[if_neg h];simp only[aeG (nl p.size)]
theorem agS {a b:UInt8}{p:Tm}(h:¬(o=m\/o∉(Tm.mat a b p).free)):R (.mat a b p) o m=.mat (sw a o m) (sw b o m) (R p o m):=by
 show ren (p.size+1) _ _ _=_;unfold ren;rw[if_neg h];simp only[aeG (nl p.size)]
theorem agT {a x:UInt8}{p:Tm}(h:¬(o=m\/o∉(Tm.rcv a x p).free)):R (.rcv a x p) o m=.rcv (sw a o m) (capX p x o m) (RB p x o m):=by
 show ren (p.size+1) _ _ _=_;rw[<-anp (nl p.size)];unfold ren aiT;rw[if_neg h]
theorem ah5 {x:UInt8}{p:Tm}(h:¬(o=m\/o∉(Tm.own x p).free)):R (.own x p) o m=.own (capX p x o m) (RB p x o m):=by
 show ren (p.size+1) _ _ _=_;rw[<-anp (nl p.size)];unfold ren aiT;rw[if_neg h]
theorem agU {p:Tm}(h:¬(o=m\/o∉(Tm.tau p).free)):R (.tau p) o m=.tau (R p o m):=by
 show ren (p.size+1) _ _ _=_;unfold ren;rw[if_neg h];simp only[aeG (nl p.size)]
theorem agV {p:Tm}(h:¬(o=m\/o∉(Tm.rep p).free)):R (.rep p) o m=.rep (R p o m):=by
 show ren (p.size+1) _ _ _=_;unfold ren;rw[if_neg h];simp only[aeG (nl p.size)]
theorem agW {p q:Tm}(h:¬(o=m\/o∉(Tm.sum p q).free)):R (.sum p q) o m=.sum (R p o m) (R q o m):=by
 show ren (p.size+q.size+1) _ _ _=_;unfold ren;rw[if_neg h];simp only[aeG (Nat.le_add_right p.size q.size),aeG (Nat.le_add_left q.size p.size)]
theorem ai3 {p q:Tm}(h:¬(o=m\/o∉(Tm.par p q).free)):R (.par p q) o m=.par (R p o m) (R q o m):=by
 show ren (p.size+q.size+1) _ _ _=_;unfold ren;rw[if_neg h];simp only[aeG (Nat.le_add_right p.size q.size),aeG (Nat.le_add_left q.size p.size)]
end
def Tm.bdp:Tm->Nat
 | .nil=>0
 | .snd _ _ p=>p.bdp
 | .rcv _ _ p=>p.bdp+1
 | .tau p=>p.bdp
 | .sum p q=>max p.bdp q.bdp
 | .par p q=>max p.bdp q.bdp
 | .own _ p=>p.bdp+1
 | .mat _ _ p=>p.bdp
 | .rep p=>p.bdp
theorem anq (t:Tm):t.bdp<=t.bnd.length:=by
 induction t<;>simp only[Tm.bdp,Tm.bnd,lla,List.length_cons,List.length_nil]<;>omega
theorem alc (n:Nat):∀(t:Tm) (o m:UInt8),t.size<=n->(R t o m).bdp=t.bdp:=by
 induction n with
 | zero=>intro t o m h;have:=aaq t;omega
 | succ n ih=>
  intro t o m hn
  by_cases h:o=m\/o∉t.free
  ·rw[abt _ _ _ h]
  ·have hb:∀p x,p.size<=n->(RB p x o m).bdp=p.bdp:=by
    intro p x h1;unfold RB
    split<;>split
    ·exact ih _ _ _ h1
    ·rfl
    ·rw[ih _ _ _ (by rw[R_size];exact h1)];exact ih _ _ _ h1
    ·exact ih _ _ _ h1
   cases t with
   | nil=>exact absurd (.inr (by simp[Tm.free])) h
   | snd a b p=>simp only[Tm.size]at hn;rw[agR h];exact ih _ _ _ (by omega)
   | rcv a x p=>simp only[Tm.size]at hn;rw[agT h];simp only[Tm.bdp];rw[hb p x (by omega)]
   | tau p=>simp only[Tm.size]at hn;rw[agU h];exact ih _ _ _ (by omega)
   | sum p q=>simp only[Tm.size]at hn;rw[agW h];simp only[Tm.bdp];rw[ih p _ _ (by omega),ih q _ _ (by omega)]
   | par p q=>simp only[Tm.size]at hn;rw[ai3 h];simp only[Tm.bdp];rw[ih p _ _ (by omega),ih q _ _ (by omega)]
   | own x p=>simp only[Tm.size]at hn;rw[ah5 h];simp only[Tm.bdp];rw[hb p x (by omega)]
   | mat a b p=>simp only[Tm.size]at hn;rw[agS h];exact ih _ _ _ (by omega)
   | rep p=>simp only[Tm.size]at hn;rw[agV h];exact ih _ _ _ (by omega)
theorem acz:∀{m l:List UInt8},Srt l->Srt m->(∀z∈l,z∈m)->l.length<=m.length:=by
 intro m
 induction m with
 | nil=>intro l _ _ h;cases l with
  | nil=>simp
  | cons a l=>exact absurd (h a (by simp)) (by simp)
 | cons b m ih=>
  intro l hl hm h
  cases l with
  | nil=>simp
  | cons a l=>
   have hl':=List.pairwise_cons.1 hl;have hm':=List.pairwise_cons.1 hm
   by_cases e:a=b
   ·subst e
    have:=ih hl'.2 hm'.2 fun z hz=>by
     rcases List.mem_cons.1 (h z (List.mem_cons_of_mem _ hz)) with h1|h1
     ·have:=hl'.1 z hz;rw[h1,abO]at this;omega
     ·exact h1
    simp;exact this
   ·have ha:a∈m:=by
     rcases List.mem_cons.1 (h a (by simp)) with h1|h1
     ·exact absurd h1 e
     ·exact h1
    have hba:=hm'.1 a ha
    have:=ih hl hm'.2 fun z hz=>by
     rcases List.mem_cons.1 (h z hz) with h1|h1
     ·rcases List.mem_cons.1 hz with h2|h2
      ·exact absurd (h2▸h1) e
      ·have h3:=hl'.1 z h2;rw[h1]at h3;rw[abO]at h3 hba;omega
     ·exact h1
    simp only[List.length_cons]at this ⊢;omega
theorem abS (c:UInt8):∀(l:List UInt8),(addL l c).length<=l.length+1:=by
 intro l
 induction l with
 | nil=>simp[addL]
 | cons d l ih=>unfold addL;split<;>(try split)<;>simp only[List.length_cons]<;>omega
def Roomy (t:Tm)(o m:UInt8):Prop:=(bothL t.free [o,m]).length+t.bdp<=88
theorem aee (l:List UInt8)(o m z:UInt8):z∈bothL l [o,m]↔z∈l\/z=o\/z=m:=by rw[mem_bothL];simp
theorem aa6 {t p:Tm}{o m o' m':UInt8}(y:UInt8)(h:Roomy t o m)(hb:p.bdp+1<=t.bdp)(hs:∀z,z∈p.free\/z=o'\/z=m'->z∈t.free\/z=o\/z=m\/z=y):Roomy p o' m':=by
 unfold Roomy at h ⊢
 have h1:=acz (l:=bothL p.free [o',m']) (m:=addL (bothL t.free [o,m]) y) (aam _ (srt_free p)) (srt_addL (aam _ (srt_free t)) y) (fun z hz=>by
  rw[mem_addL,aee];have:=hs z ((aee _ _ _ _).1 hz)
  grind)
 have h2:=abS y (bothL t.free [o,m]);omega
theorem aay {t p:Tm}{o m o' m':UInt8}(h:Roomy t o m)(hb:p.bdp<=t.bdp)(hs:∀z,z∈p.free\/z=o'\/z=m'->z∈t.free\/z=o\/z=m):Roomy p o' m':=by
 unfold Roomy at h ⊢
 have h1:=acz (l:=bothL p.free [o',m']) (m:=bothL t.free [o,m]) (aam _ (srt_free p)) (aam _ (srt_free t)) (fun z hz=>by
  rw[aee]
  exact hs z ((aee _ _ _ _).1 hz))
 omega
def auW:List UInt8:=(List.range 26).map (fun i=>UInt8.ofNat (97+i))++(List.range 63).map (fun i=>UInt8.ofNat (128+i))
theorem ap7:Srt auW:=by unfold Srt auW;decide +kernel
theorem anr {s:List UInt8}(hs:Srt s)(hl:s.length<=88):fresh s∉s:=by
 rcases fresh_cases s with⟨k,h1,_,h3,h4⟩|⟨h0,⟨k,h1,_,h3,h4⟩|⟨h1,h4⟩⟩
 ·rw[h4];exact h3
 ·rw[h4];exact h3
 ·have:=acz ap7 hs (fun z hz=>by
   unfold auW at hz;rcases lma.1 hz with h|h
   ·obtain⟨i,hi,rfl⟩:=List.mem_map.1 h;exact h0 i (List.mem_range.1 hi)
   ·obtain⟨i,hi,rfl⟩:=List.mem_map.1 h;exact h1 i (List.mem_range.1 hi))
  have h2:auW.length=89:=by unfold auW;decide +kernel
  omega
theorem ae3 {p t:Tm}{x o m:UInt8}(hr:Roomy t o m)(hb:p.bdp+1<=t.bdp)(hs:∀z,z∈p.free->z=x\/z∈t.free)(hc:x=m/\o∈p.free) : capX p x o m∉p.free/\capX p x o m≠o/\capX p x o m≠m:=by
 unfold capX;rw[if_pos hc]
 have h:=anr (s:=bothL p.free [o,m]) (aam _ (srt_free p)) (by
  unfold Roomy at hr
  have h1:=acz (l:=bothL p.free [o,m]) (m:=bothL t.free [o,m]) (aam _ (srt_free p)) (aam _ (srt_free t)) (fun z hz=>by
   rw[aee]at hz ⊢;have:=hs z
   grind)
  omega)
 rw[aee]at h
 grind
theorem R_free (n:Nat):∀(t:Tm) (o m:UInt8),t.size<=n->Roomy t o m->o≠m->∀z,z∈(R t o m).free↔(z∈t.free/\z≠o)\/(z=m/\o∈t.free):=by
 induction n with
 | zero=>intro t o m h;have:=aaq t;omega
 | succ n ih=>
  intro t o m hn hr hne z
  by_cases h:o=m\/o∉t.free
  ·rw[abt _ _ _ h];grind
  ·have hof:o∈t.free:=by grind
   -- the part of a sign that binds: what is free behind it,the bound one apart
   have hb:∀(p:Tm) (x:UInt8),p.size<=n->p.bdp+1<=t.bdp->(∀z,z∈p.free->z=x\/z∈t.free)->∀z,(z∈(RB p x o m).free/\z≠capX p x o m)↔(z∈p.free/\z≠x/\z≠o)\/(z=m/\o∈p.free/\o≠x):=by
    intro p x hp hbl hs z;unfold RB
    by_cases hc:x=m/\o∈p.free
    ·obtain⟨y1,y2,y3⟩:=ae3 hr hbl hs hc;rw[if_neg y2,if_pos hc];have r1:Roomy p x (capX p x o m):=aa6 (capX p x o m) hr hbl (fun z hz=>by have:=hs z;grind);have f1:=ih p x (capX p x o m) hp r1 (fun e=>y3 (e.symm.trans hc.1));have r2:Roomy (R p x (capX p x o m)) o m:=aa6 (capX p x o m) hr (by rw[alc _ _ _ _ (nl _)];exact hbl) (fun z hz=>by have:=hs z;have:=f1 z;grind);have f2:=ih (R p x (capX p x o m)) o m (by rw[R_size];exact hp) r2 hne z;have g1:=f1 z;have g2:=f1 o
     grind
    ·have hx:capX p x o m=x:=by unfold capX;rw[if_neg hc]
     rw[hx,if_neg hc]
     by_cases ho:x=o
     ·rw[if_pos ho];grind
     ·rw[if_neg ho];have r1:Roomy p o m:=aa6 x hr hbl (fun z hz=>by have:=hs z;grind);have f1:=ih p o m hp r1 hne z
      grind
   cases t with
   | nil=>simp[Tm.free]at hof
   | snd a b p=>
    simp only[Tm.size]at hn;have f:=ih p o m (by omega) (aay hr (nl _) (fun z hz=>by rw[mf_snd];grind)) hne z;rw[agR h,mf_snd,mf_snd];rw[mf_snd]at hof;unfold sw;rw[f];grind [mf_snd]
   | mat a b p=>
    simp only[Tm.size]at hn;have f:=ih p o m (by omega) (aay hr (nl _) (fun z hz=>by rw[mf_mat];grind)) hne z;rw[agS h,mf_mat,mf_mat];rw[mf_mat]at hof;unfold sw;rw[f];grind [mf_mat]
   | rcv a x p=>
    simp only[Tm.size]at hn;have f:=hb p x (by omega) (by simp only[Tm.bdp];try omega) (fun z hz=>by rw[mf_rcv];grind) z;rw[agT h,mf_rcv,mf_rcv,f];rw[mf_rcv]at hof;unfold sw;grind [mf_rcv]
   | own x p=>
    simp only[Tm.size]at hn;have f:=hb p x (by omega) (by simp only[Tm.bdp];try omega) (fun z hz=>by rw[mf_own];grind) z;rw[ah5 h,mf_own,mf_own,f];rw[mf_own]at hof;grind [mf_own]
   | tau p=>
    simp only[Tm.size]at hn;have f:=ih p o m (by omega) (aay hr (nl _) (fun z hz=>by rw[mf_tau];grind)) hne z;rw[agU h,mf_tau,mf_tau,f];grind [mf_tau]
   | rep p=>
    simp only[Tm.size]at hn;have f:=ih p o m (by omega) (aay hr (nl _) (fun z hz=>by rw[mf_rep];grind)) hne z;rw[agV h,mf_rep,mf_rep,f];grind [mf_rep]
   | sum p q=>
    simp only[Tm.size]at hn;have f:=ih p o m (by omega) (aay hr (by simp only[Tm.bdp];try omega) (fun z hz=>by rw[mf_sum];grind)) hne z;have g:=ih q o m (by omega) (aay hr (by simp only[Tm.bdp];try omega) (fun z hz=>by rw[mf_sum];grind)) hne z;rw[agW h,mf_sum,mf_sum,f,g];grind [mf_sum]
   | par p q=>
    simp only[Tm.size]at hn;have f:=ih p o m (by omega) (aay hr (by simp only[Tm.bdp];try omega) (fun z hz=>by rw[mf_par];grind)) hne z;have g:=ih q o m (by omega) (aay hr (by simp only[Tm.bdp];try omega) (fun z hz=>by rw[mf_par];grind)) hne z;rw[ai3 h,mf_par,mf_par,f,g];grind [mf_par]
def Tm.strip:Tm->Tm
 | .mat a b p=>if a=b then p.strip else .mat a b p
 | t=>t
def Tm.dead:Tm->Bool
 | .nil=>true
 | .snd _ _ _=>false
 | .rcv _ _ _=>false
 | .tau _=>false
 | .sum p q=>p.dead && q.dead
 | .par p q=>p.dead && q.dead
 | .own _ p=>p.dead
 | .mat _ _ p=>p.dead
 | .rep p=>p.dead
def Tm.usd:Tm->List UInt8
 | .nil=>[]
 | .snd a b p=>addL (addL (bothL [] p.usd) a) b
 | .rcv a x p=>addL (abx (bothL [] p.usd) x) a
 | .tau p=>bothL [] p.usd
 | .sum p q=>if p.dead && q.dead then [] else bothL (bothL [] p.usd) q.usd
 | .par p q=>if p.dead && q.dead then [] else bothL (bothL [] p.usd) q.usd
 | .own x p=>if p.dead then [] else abx (bothL [] p.usd) x
 | .mat a b p=>if a=b then p.usd else if p.dead then [] else addL (addL (bothL [] p.usd) a) b
 | .rep p=>if p.dead then [] else bothL [] p.usd
def Tm.peel:Tm->Tm
 | .mat a b p=>if a=b then p.peel else .mat a b p
 | .sum p q=>if p.dead then q.peel else if q.dead then p.peel else .sum p q
 | .par p q=>if p.dead then q.peel else if q.dead then p.peel else .par p q
 | .own x p=>if x∈p.usd then .own x p else p.peel
 | t=>t
theorem agk (t:Tm):t.strip.dead=t.dead:=by
 induction t with
 | mat a b p ih=>unfold Tm.strip;split;(rw[ih];rfl);rfl
 | _=>rfl
theorem ae4 (t:Tm):(∀nm,t.ok nm=true->t.strip.ok nm=true)/\t.strip.pr.length<=t.pr.length/\t.strip.size<=t.size/\t.strip.bnd.length<=t.bnd.length/\(∀z,z∈t.strip.free->z∈t.free):=by
 induction t with
 | mat a b p ih=>
  unfold Tm.strip
  split
  ·refine⟨fun nm h=>ih.1 nm (by simp only[Tm.ok,bae]at h;exact h.2),?_,?_,?_,?_⟩
   ·simp only[Tm.pr,List.length_cons];omega
   ·simp only[Tm.size];omega
   ·exact ih.2.2.2.1
   ·intro z hz;rw[mf_mat];exact .inr (.inr (ih.2.2.2.2 z hz))
  ·exact⟨fun _ h=>h,nl _,nl _,nl _,fun _ h=>h⟩
 | _=>exact⟨fun _ h=>h,nl _,nl _,nl _,fun _ h=>h⟩
theorem ae5 (t:Tm):t.strip.usd=t.usd:=by
 induction t with
 | mat a b p ih=>
  unfold Tm.strip
  split
  ·rename_i h;rw[ih];simp only[Tm.usd];rw[if_pos h]
  ·rfl
 | _=>rfl
theorem agX (t:Tm):∀a p,t.strip≠.mat a a p:=by
 induction t with
 | mat a b p ih=>
  intro c q;unfold Tm.strip
  split
  ·exact ih c q
  ·rename_i h;intro e;injection e with e1 e2 e3;exact h (e1.trans e2.symm)
 | _=>intro c q e;cases e
theorem abe (t:Tm):Srt t.usd:=by
 induction t with
 | nil=>exact srt_nil
 | snd a b p ih=>exact srt_addL (srt_addL (aam _ srt_nil) a) b
 | rcv a x p ih=>exact srt_addL (ab3 (aam _ srt_nil) x) a
 | tau p ih=>exact aam _ srt_nil
 | sum p q ih ih2=>unfold Tm.usd;split;exact srt_nil;exact aam _ (aam _ srt_nil)
 | par p q ih ih2=>unfold Tm.usd;split;exact srt_nil;exact aam _ (aam _ srt_nil)
 | own x p ih=>unfold Tm.usd;split;exact srt_nil;exact ab3 (aam _ srt_nil) x
 | mat a b p ih=>unfold Tm.usd;split;exact ih;split;exact srt_nil;exact srt_addL (srt_addL (aam _ srt_nil) a) b
 | rep p ih=>unfold Tm.usd;split;exact srt_nil;exact aam _ srt_nil
theorem ald (t:Tm):t.strip.peel=t.peel:=by
 induction t with
 | mat a b p ih=>
  unfold Tm.strip
  split
  ·rename_i h;rw[ih];simp only[Tm.peel];rw[if_pos h]
  ·rfl
 | _=>rfl
theorem aba (t:Tm):(∀nm,t.ok nm=true->t.peel.ok nm=true)/\t.peel.pr.length<=t.pr.length/\t.peel.size<=t.size/\t.peel.bnd.length<=t.bnd.length:=by
 induction t with
 | mat a b p ih=>
  unfold Tm.peel
  split
  ·exact⟨fun nm h=>ih.1 nm (by simp only[Tm.ok,bae]at h;exact h.2),by simp only[Tm.pr,List.length_cons];omega,by simp only[Tm.size];omega,by simp only[Tm.bnd];omega⟩
  ·exact⟨fun _ h=>h,nl _,nl _,nl _⟩
 | sum p q ih ih2=>
  unfold Tm.peel
  split
  ·exact⟨fun nm h=>ih2.1 nm (by simp only[Tm.ok,bae]at h;exact h.2),by simp only[Tm.pr,List.length_cons,lla];omega,by simp only[Tm.size];omega,by simp only[Tm.bnd,lla];omega⟩
  ·split
   ·exact⟨fun nm h=>ih.1 nm (by simp only[Tm.ok,bae]at h;exact h.1),by simp only[Tm.pr,List.length_cons,lla];omega,by simp only[Tm.size];omega,by simp only[Tm.bnd,lla];omega⟩
   ·exact⟨fun _ h=>h,nl _,nl _,nl _⟩
 | par p q ih ih2=>
  unfold Tm.peel
  split
  ·exact⟨fun nm h=>ih2.1 nm (by simp only[Tm.ok,bae]at h;exact h.2),by simp only[Tm.pr,List.length_cons,lla];omega,by simp only[Tm.size];omega,by simp only[Tm.bnd,lla];omega⟩
  ·split
   ·exact⟨fun nm h=>ih.1 nm (by simp only[Tm.ok,bae]at h;exact h.1),by simp only[Tm.pr,List.length_cons,lla];omega,by simp only[Tm.size];omega,by simp only[Tm.bnd,lla];omega⟩
   ·exact⟨fun _ h=>h,nl _,nl _,nl _⟩
 | own x p ih=>
  unfold Tm.peel
  split
  ·exact⟨fun _ h=>h,nl _,nl _,nl _⟩
  ·exact⟨fun nm h=>ih.1 nm (by simp only[Tm.ok,bae]at h;exact h.2),by simp only[Tm.pr,List.length_cons];omega,by simp only[Tm.size];omega,by simp only[Tm.bnd,List.length_cons];omega⟩
 | _=>exact⟨fun _ h=>h,nl _,nl _,nl _⟩
def Tm.sums:Nat->Tm->List Tm
 | 0,_=>[]
 | n+1,t=>match t.peel with
  | .sum p q=>Tm.sums n p++Tm.sums n q
  | u=>if u.dead then [] else [u]
def joinR (c:Tm->Tm->Tm):List Tm->Tm
 | []=>.nil
 | [t]=>t
 | t::ts=>c t (joinR c ts)
theorem dead_usd (t:Tm):t.dead=true->t.usd=[]:=by
 induction t with
 | nil=>intro _;rfl
 | snd a b p ih=>intro h;cases h
 | rcv a x p ih=>intro h;cases h
 | tau p ih=>intro h;cases h
 | sum p q ih ih2=>intro h;unfold Tm.usd;exact if_pos h
 | par p q ih ih2=>intro h;unfold Tm.usd;exact if_pos h
 | own x p ih=>intro h;unfold Tm.usd;exact if_pos h
 | mat a b p ih=>
  intro h;unfold Tm.usd;split
  ·exact ih h
  ·exact if_pos h
 | rep p ih=>intro h;unfold Tm.usd;exact if_pos h
theorem mu_snd (a b:UInt8)(p:Tm)(z:UInt8):z∈(Tm.snd a b p).usd↔z=a\/z=b\/z∈p.usd:=by
 show z∈addL (addL (bothL [] p.usd) a) b↔_;rw[mem_addL,mem_addL,mem_bothL];grind
theorem mu_rcv (a x:UInt8)(p:Tm)(z:UInt8):z∈(Tm.rcv a x p).usd↔z=a\/(z∈p.usd/\z≠x):=by
 show z∈addL (abx (bothL [] p.usd) x) a↔_;rw[mem_addL,abG,mem_bothL];grind
theorem mu_tau (p:Tm)(z:UInt8):z∈(Tm.tau p).usd↔z∈p.usd:=by
 show z∈bothL [] p.usd↔_;rw[mem_bothL];simp
theorem mu_rep (p:Tm)(z:UInt8):z∈(Tm.rep p).usd↔z∈p.usd:=by
 show z∈(if p.dead then [] else bothL [] p.usd)↔_;split
 ·rename_i h;rw[dead_usd _ h]
 ·rw[mem_bothL];simp
theorem mu_sum (p q:Tm)(z:UInt8):z∈(Tm.sum p q).usd↔z∈p.usd\/z∈q.usd:=by
 show z∈(if p.dead && q.dead then [] else bothL (bothL [] p.usd) q.usd)↔_;split
 ·rename_i h;rw[bae]at h;rw[dead_usd _ h.1,dead_usd _ h.2];simp
 ·rw[mem_bothL,mem_bothL];simp
theorem mu_par (p q:Tm)(z:UInt8):z∈(Tm.par p q).usd↔z∈p.usd\/z∈q.usd:=by
 show z∈(if p.dead && q.dead then [] else bothL (bothL [] p.usd) q.usd)↔_;split
 ·rename_i h;rw[bae]at h;rw[dead_usd _ h.1,dead_usd _ h.2];simp
 ·rw[mem_bothL,mem_bothL];simp
theorem mu_own (x:UInt8)(p:Tm)(z:UInt8):z∈(Tm.own x p).usd↔z∈p.usd/\z≠x:=by
 show z∈(if p.dead then [] else abx (bothL [] p.usd) x)↔_;split
 ·rename_i h;rw[dead_usd _ h];simp
 ·rw[abG,mem_bothL];simp
theorem mu_mat (a b:UInt8)(p:Tm)(z:UInt8):z∈(Tm.mat a b p).usd↔(a=b/\z∈p.usd)\/(a≠b/\p.dead=false/\(z=a\/z=b\/z∈p.usd)):=by
 show z∈(if a=b then p.usd else if p.dead then [] else addL (addL (bothL [] p.usd) a) b)↔_;split
 ·rename_i h;simp[h]
 ·rename_i h;split
  ·rename_i h2;simp[h,h2]
  ·rename_i h2;rw[mem_addL,mem_addL,mem_bothL]
   have:p.dead=false:=by simpa using h2
   simp[h,this];grind
theorem usd_free (t:Tm):∀z,z∈t.usd->z∈t.free:=by
 induction t with
 | nil=>intro z h;simp[Tm.usd]at h
 | snd a b p ih=>intro z h;rw[mu_snd]at h;rw[mf_snd];have:=ih z;grind
 | rcv a x p ih=>intro z h;rw[mu_rcv]at h;rw[mf_rcv];have:=ih z;grind
 | tau p ih=>intro z h;rw[mu_tau]at h;rw[mf_tau];exact ih z h
 | sum p q ih ih2=>intro z h;rw[mu_sum]at h;rw[mf_sum];have:=ih z;have:=ih2 z;grind
 | par p q ih ih2=>intro z h;rw[mu_par]at h;rw[mf_par];have:=ih z;have:=ih2 z;grind
 | own x p ih=>intro z h;rw[mu_own]at h;rw[mf_own];have:=ih z;grind
 | mat a b p ih=>intro z h;rw[mu_mat]at h;rw[mf_mat];have:=ih z;grind
 | rep p ih=>intro z h;rw[mu_rep]at h;rw[mf_rep];exact ih z h
def bdE (E:UInt8->UInt8->Prop)(x x':UInt8):UInt8->UInt8->Prop:=fun u v=>(u=x/\v=x')\/(u≠x/\v≠x'/\E u v)
def sbE (E:UInt8->UInt8->Prop)(o m:UInt8):UInt8->UInt8->Prop:=fun u v=>(u=m/\E o v)\/(u≠m/\u≠o/\E u v)
def Sm:Tm->(UInt8->UInt8->Prop)->Tm->Prop
 | .nil,_,s=>s=.nil
 | .snd a b p,E,s=>∃a' b' p',s=.snd a' b' p'/\E a a'/\E b b'/\Sm p E p'
 | .rcv a x p,E,s=>∃a' x' p',s=.rcv a' x' p'/\E a a'/\Sm p (bdE E x x') p'
 | .tau p,E,s=>∃p',s=.tau p'/\Sm p E p'
 | .sum p q,E,s=>if p.dead then Sm q E s else if q.dead then Sm p E s else ∃p' q',s=.sum p' q'/\Sm p E p'/\Sm q E q'
 | .par p q,E,s=>if p.dead then Sm q E s else if q.dead then Sm p E s else ∃p' q',s=.par p' q'/\Sm p E p'/\Sm q E q'
 | .own x p,E,s=>if x∈p.usd then ∃x' p',s=.own x' p'/\Sm p (bdE E x x') p' else Sm p E s
 | .mat a b p,E,s=>if a=b then Sm p E s else if p.dead then s=.nil else ∃a' b' p',s=.mat a' b' p'/\E a a'/\E b b'/\Sm p E p'
 | .rep p,E,s=>if p.dead then s=.nil else ∃p',s=.rep p'/\Sm p E p'
theorem aef (t:Tm):∀(E:UInt8->UInt8->Prop) (s:Tm),t.dead=true->Sm t E s->s=.nil:=by
 induction t with
 | nil=>intro E s _ h;exact h
 | snd a b p ih=>intro E s h;cases h
 | rcv a x p ih=>intro E s h;cases h
 | tau p ih=>intro E s h;cases h
 | sum p q ih ih2=>
  intro E s h hs;simp only[Tm.dead,bae]at h;unfold Sm at hs;rw[if_pos h.1]at hs;exact ih2 E s h.2 hs
 | par p q ih ih2=>
  intro E s h hs;simp only[Tm.dead,bae]at h;unfold Sm at hs;rw[if_pos h.1]at hs;exact ih2 E s h.2 hs
 | own x p ih=>
  intro E s h hs;have h':p.dead=true:=h;unfold Sm at hs;rw[if_neg (by rw[dead_usd p h'];simp)]at hs;exact ih E s h' hs
 | mat a b p ih=>
  intro E s h hs;have h':p.dead=true:=h;unfold Sm at hs
  split at hs
  ·exact ih E s h' hs
  ·first|exact hs|(rw[if_pos h']at hs;exact hs)
 | rep p ih=>
  intro E s h hs;have h':p.dead=true:=h;unfold Sm at hs;rw[if_pos h']at hs;exact hs
theorem ajL (t:Tm)(E:UInt8->UInt8->Prop)(h:t.dead=true):Sm t E .nil:=by
 induction t generalizing E with
 | nil=>rfl
 | snd a b p ih=>cases h
 | rcv a x p ih=>cases h
 | tau p ih=>cases h
 | sum p q ih ih2=>
  simp only[Tm.dead,bae]at h;unfold Sm;rw[if_pos h.1];exact ih2 E h.2
 | par p q ih ih2=>
  simp only[Tm.dead,bae]at h;unfold Sm;rw[if_pos h.1];exact ih2 E h.2
 | own x p ih=>
  have h':p.dead=true:=h;unfold Sm;rw[if_neg (by rw[dead_usd p h'];simp)];exact ih E h'
 | mat a b p ih=>
  have h':p.dead=true:=h;unfold Sm;split
  ·exact ih E h'
  ·first|rfl|rw[if_pos h']
 | rep p ih=>
  have h':p.dead=true:=h;unfold Sm;rw[if_pos h']
theorem ajM {E F:UInt8->UInt8->Prop}{l k:List UInt8}{x x':UInt8}(h:∀u v,u∈l->E u v->F u v)(hk:∀u,u∈k->u≠x->u∈l):∀u v,u∈k->bdE E x x' u v->bdE F x x' u v:=by
 intro u v hu hb;rcases hb with hb|⟨h1,h2,h3⟩
 ·exact .inl hb
 ·exact .inr ⟨h1,h2,h u v (hk u hu h1) h3⟩
theorem aaL (t:Tm):∀(E F:UInt8->UInt8->Prop) (s:Tm),(∀u v,u∈t.usd->E u v->F u v)->Sm t E s->Sm t F s:=by
 induction t with
 | nil=>intro E F s _ h;exact h
 | snd a b p ih=>
  rintro E F s h ⟨a',b',p',rfl,h1,h2,h3⟩;exact⟨a',b',p',rfl,h _ _ (by rw[mu_snd];simp) h1,h _ _ (by rw[mu_snd];simp) h2,ih E F p' (fun u v hu=>h u v (by rw[mu_snd];simp[hu])) h3⟩
 | rcv a x p ih=>
  rintro E F s h ⟨a',x',p',rfl,h1,h3⟩;exact⟨a',x',p',rfl,h _ _ (by rw[mu_rcv];simp) h1,ih _ _ p' (ajM h (fun u hu hx=>by rw[mu_rcv];exact .inr ⟨hu,hx⟩)) h3⟩
 | tau p ih=>
  rintro E F s h ⟨p',rfl,h3⟩;exact⟨p',rfl,ih E F p' (fun u v hu=>h u v (by rw[mu_tau];exact hu)) h3⟩
 | sum p q ih ih2=>
  intro E F s h hs;have hp:∀u v,u∈p.usd->E u v->F u v:=fun u v hu=>h u v (by rw[mu_sum];exact .inl hu);have hq:∀u v,u∈q.usd->E u v->F u v:=fun u v hu=>h u v (by rw[mu_sum];exact .inr hu);unfold Sm at hs ⊢
  split at hs
  ·rename_i c;rw[if_pos c];exact ih2 E F s hq hs
  ·rename_i c;rw[if_neg c]
   split at hs
   ·rename_i c;rw[if_pos c];exact ih E F s hp hs
   ·rename_i c;rw[if_neg c]
    obtain⟨p',q',e,h1,h2⟩:=hs;exact⟨p',q',e,ih E F p' hp h1,ih2 E F q' hq h2⟩
 | par p q ih ih2=>
  intro E F s h hs;have hp:∀u v,u∈p.usd->E u v->F u v:=fun u v hu=>h u v (by rw[mu_par];exact .inl hu);have hq:∀u v,u∈q.usd->E u v->F u v:=fun u v hu=>h u v (by rw[mu_par];exact .inr hu);unfold Sm at hs ⊢
  split at hs
  ·rename_i c;rw[if_pos c];exact ih2 E F s hq hs
  ·rename_i c;rw[if_neg c]
   split at hs
   ·rename_i c;rw[if_pos c];exact ih E F s hp hs
   ·rename_i c;rw[if_neg c]
    obtain⟨p',q',e,h1,h2⟩:=hs;exact⟨p',q',e,ih E F p' hp h1,ih2 E F q' hq h2⟩
 | own x p ih=>
  intro E F s h hs;unfold Sm at hs ⊢
  split at hs
  ·rename_i c;rw[if_pos c]
   obtain⟨x',p',e,h1⟩:=hs;exact⟨x',p',e,ih _ _ p' (ajM h (fun u hu hx=>by rw[mu_own];exact⟨hu,hx⟩)) h1⟩
  ·rename_i c;rw[if_neg c]
   exact ih E F s (fun u v hu=>h u v (by rw[mu_own];exact⟨hu,fun e=>c (e▸hu)⟩)) hs
 | mat a b p ih=>
  intro E F s h hs;unfold Sm at hs ⊢
  split at hs
  ·rename_i c;rw[if_pos c];exact ih E F s (fun u v hu=>h u v (by rw[mu_mat];exact .inl ⟨c,hu⟩)) hs
  ·rename_i c;rw[if_neg c]
   split at hs
   ·rename_i d;rw[if_pos d];exact hs
   ·rename_i d;rw[if_neg d]
    have d':p.dead=false:=by simpa using d
    obtain⟨a',b',p',e,h1,h2,h3⟩:=hs;exact⟨a',b',p',e,h _ _ (by rw[mu_mat];exact .inr ⟨c,d',.inl rfl⟩) h1,h _ _ (by rw[mu_mat];exact .inr ⟨c,d',.inr (.inl rfl)⟩) h2,ih E F p' (fun u v hu=>h u v (by rw[mu_mat];exact .inr ⟨c,d',.inr (.inr hu)⟩)) h3⟩
 | rep p ih=>
  intro E F s h hs;unfold Sm at hs ⊢
  split at hs
  ·rename_i c;rw[if_pos c];exact hs
  ·rename_i c;rw[if_neg c]
   obtain⟨p',e,h1⟩:=hs;exact⟨p',e,ih E F p' (fun u v hu=>h u v (by rw[mu_rep];exact hu)) h1⟩
theorem auX (n:Nat):∀(t:Tm) (o m:UInt8),t.size<=n->(R t o m).dead=t.dead:=by
 induction n with
 | zero=>intro t o m h;have:=aaq t;omega
 | succ n ih=>
  intro t o m hn
  by_cases h:o=m\/o∉t.free
  ·rw[abt _ _ _ h]
  ·have hb:∀p x,p.size<=n->(RB p x o m).dead=p.dead:=by
    intro p x h1;unfold RB
    split<;>split
    ·exact ih _ _ _ h1
    ·rfl
    ·rw[ih _ _ _ (by rw[R_size];exact h1)];exact ih _ _ _ h1
    ·exact ih _ _ _ h1
   cases t with
   | nil=>exact absurd (.inr (by simp[Tm.free])) h
   | snd a b p=>rw[agR h];rfl
   | rcv a x p=>rw[agT h];rfl
   | tau p=>rw[agU h];rfl
   | sum p q=>simp only[Tm.size]at hn;rw[agW h];simp only[Tm.dead];rw[ih p _ _ (by omega),ih q _ _ (by omega)]
   | par p q=>simp only[Tm.size]at hn;rw[ai3 h];simp only[Tm.dead];rw[ih p _ _ (by omega),ih q _ _ (by omega)]
   | own x p=>simp only[Tm.size]at hn;rw[ah5 h];simp only[Tm.dead];rw[hb p x (by omega)]
   | mat a b p=>simp only[Tm.size]at hn;rw[agS h];simp only[Tm.dead];exact ih _ _ _ (by omega)
   | rep p=>simp only[Tm.size]at hn;rw[agV h];simp only[Tm.dead];exact ih _ _ _ (by omega)
theorem abM (t:Tm)(o m:UInt8):(R t o m).dead=t.dead:=auX _ t o m (nl _)
theorem agY (n:Nat):∀(t:Tm) (o m:UInt8),t.size<=n->Roomy t o m->o≠m->m∉t.usd->∀z,z∈(R t o m).usd↔(z∈t.usd/\z≠o)\/(z=m/\o∈t.usd):=by
 induction n with
 | zero=>intro t o m h;have:=aaq t;omega
 | succ n ih=>
  intro t o m hn hr hne hm z
  by_cases h:o=m\/o∉t.free
  ·rw[abt _ _ _ h];have:=usd_free t o;grind
  ·have hof:o∈t.free:=by grind
   have hb:∀(p:Tm) (x:UInt8),p.size<=n->p.bdp+1<=t.bdp->(∀z,z∈p.free->z=x\/z∈t.free)->(m∈p.usd->m=x)->(∀z,(z∈(RB p x o m).usd/\z≠capX p x o m)↔(z∈p.usd/\z≠x/\z≠o)\/(z=m/\o∈p.usd/\o≠x)):=by
    intro p x hp hbl hs hmx z;unfold RB
    by_cases hc:x=m/\o∈p.free
    ·obtain⟨y1,y2,y3⟩:=ae3 hr hbl hs hc;rw[if_neg y2,if_pos hc];have y4:capX p x o m∉p.usd:=fun e=>y1 (usd_free p _ e);have r1:Roomy p x (capX p x o m):=aa6 (capX p x o m) hr hbl (fun z hz=>by have:=hs z;grind);have hxy:x≠capX p x o m:=fun e=>y3 (e.symm.trans hc.1);have f1:=ih p x (capX p x o m) hp r1 hxy y4;have k1:=R_free p.size p x (capX p x o m) (nl _) r1 hxy;have r2:Roomy (R p x (capX p x o m)) o m:=aa6 (capX p x o m) hr (by rw[alc _ _ _ _ (nl _)];exact hbl) (fun z hz=>by have:=hs z;have:=k1 z;grind);have f2:=ih (R p x (capX p x o m)) o m (by rw[R_size];exact hp) r2 hne (by have:=f1 m;grind) z;have g1:=f1 z;have g2:=f1 o
     grind
    ·have hx:capX p x o m=x:=by unfold capX;rw[if_neg hc]
     rw[hx,if_neg hc]
     by_cases ho:x=o
     ·rw[if_pos ho];have:=usd_free p o;grind
     ·rw[if_neg ho]
      by_cases hmp:m∈p.usd
      ·have hxm:=hmx hmp;rw[abt p o m (.inr (by grind))];have:=usd_free p o;grind
      ·have r1:Roomy p o m:=aa6 x hr hbl (fun z hz=>by have:=hs z;grind);have f1:=ih p o m hp r1 hne hmp z;have:=usd_free p o
       grind
   cases t with
   | nil=>simp[Tm.free]at hof
   | snd a b p=>
    simp only[Tm.size]at hn;rw[mu_snd]at hm;have f:=ih p o m (by omega) (aay hr (nl _) (fun z hz=>by rw[mf_snd];grind)) hne (by grind) z;rw[agR h,mu_snd,mu_snd,f,mu_snd];unfold sw;grind
   | mat a b p=>
    simp only[Tm.size]at hn;rw[mu_mat]at hm;have dd:=dead_usd p;rw[agS h,mu_mat,mu_mat,mu_mat,abM]
    by_cases hd:p.dead=true
    ·have e1:p.usd=[]:=dead_usd p hd;have e2:(R p o m).usd=[]:=dead_usd _ (by rw[abM];exact hd);simp[hd,e1,e2]
    ·have hd':p.dead=false:=by simpa using hd
     have f:=ih p o m (by omega) (aay hr (nl _) (fun z hz=>by rw[mf_mat];grind)) hne (by grind) z;rw[f];unfold sw;grind
   | rcv a x p=>
    simp only[Tm.size]at hn;rw[mu_rcv]at hm;have f:=hb p x (by omega) (by simp only[Tm.bdp];try omega) (fun z hz=>by rw[mf_rcv];grind) (by grind) z;rw[agT h,mu_rcv,mu_rcv,f,mu_rcv];unfold sw;grind
   | own x p=>
    simp only[Tm.size]at hn;rw[mu_own]at hm;have f:=hb p x (by omega) (by simp only[Tm.bdp];try omega) (fun z hz=>by rw[mf_own];grind) (by grind) z;rw[ah5 h,mu_own,mu_own,f,mu_own];grind
   | tau p=>
    simp only[Tm.size]at hn;rw[mu_tau]at hm;have f:=ih p o m (by omega) (aay hr (nl _) (fun z hz=>by rw[mf_tau];grind)) hne hm z;rw[agU h,mu_tau,mu_tau,f,mu_tau]
   | rep p=>
    simp only[Tm.size]at hn;rw[mu_rep]at hm;have f:=ih p o m (by omega) (aay hr (nl _) (fun z hz=>by rw[mf_rep];grind)) hne hm z;rw[agV h,mu_rep,mu_rep,f,mu_rep]
   | sum p q=>
    simp only[Tm.size]at hn;rw[mu_sum]at hm;have f:=ih p o m (by omega) (aay hr (by simp only[Tm.bdp];try omega) (fun z hz=>by rw[mf_sum];grind)) hne (by grind) z;have g:=ih q o m (by omega) (aay hr (by simp only[Tm.bdp];try omega) (fun z hz=>by rw[mf_sum];grind)) hne (by grind) z;rw[agW h,mu_sum,mu_sum,f,g,mu_sum];grind
   | par p q=>
    simp only[Tm.size]at hn;rw[mu_par]at hm;have f:=ih p o m (by omega) (aay hr (by simp only[Tm.bdp];try omega) (fun z hz=>by rw[mf_par];grind)) hne (by grind) z;have g:=ih q o m (by omega) (aay hr (by simp only[Tm.bdp];try omega) (fun z hz=>by rw[mf_par];grind)) hne (by grind) z;rw[ai3 h,mu_par,mu_par,f,g,mu_par];grind
theorem awv (n:Nat):∀(t:Tm) (o m:UInt8) (E:UInt8->UInt8->Prop) (s:Tm),t.size<=n->Roomy t o m->o≠m->m∉t.usd->Sm t E s->Sm (R t o m) (sbE E o m) s:=by
 induction n with
 | zero=>intro t o m E s h;have:=aaq t;omega
 | succ n ih=>
  intro t o m E s hn hr hne hm hs
  by_cases h:o=m\/o∉t.free
  ·rw[abt _ _ _ h];refine aaL t E _ s (fun u v hu he=>.inr ⟨fun e=>hm (e▸hu),fun e=>?_,he⟩) hs;have:=usd_free t u hu;subst e;rcases h with h|h
   ·exact hne h
   ·exact h this
  ·have hof:o∈t.free:=by grind
   have hb:∀(p:Tm) (x x':UInt8) (p':Tm),p.size<=n->p.bdp+1<=t.bdp->(∀z,z∈p.free->z=x\/z∈t.free)->(m∈p.usd->m=x)->Sm p (bdE E x x') p'->Sm (RB p x o m) (bdE (sbE E o m) (capX p x o m) x') p':=by
    intro p x x' p' hp hbl hs hmx hS;unfold RB
    by_cases hc:x=m/\o∈p.free
    ·obtain⟨y1,y2,y3⟩:=ae3 hr hbl hs hc;rw[if_neg y2,if_pos hc];have y4:capX p x o m∉p.usd:=fun e=>y1 (usd_free p _ e);have r1:Roomy p x (capX p x o m):=aa6 (capX p x o m) hr hbl (fun z hz=>by have:=hs z;grind);have hxy:x≠capX p x o m:=fun e=>y3 (e.symm.trans hc.1);have f1:=agY p.size p x (capX p x o m) (nl _) r1 hxy y4;have k1:=R_free p.size p x (capX p x o m) (nl _) r1 hxy;have r2:Roomy (R p x (capX p x o m)) o m:=aa6 (capX p x o m) hr (by rw[alc _ _ _ _ (nl _)];exact hbl) (fun z hz=>by have:=hs z;have:=k1 z;grind);have s1:=ih p x (capX p x o m) _ p' hp r1 hxy y4 hS;have s2:=ih (R p x (capX p x o m)) o m _ p' (by rw[R_size];exact hp) r2 hne (by have:=f1 m;grind) s1;refine aaL _ _ _ _ (fun u v hu he=>?_) s2
     generalize capX p x o m=y at *
     unfold bdE sbE at *
     grind
    ·have hx:capX p x o m=x:=by unfold capX;rw[if_neg hc]
     rw[hx,if_neg hc]
     by_cases ho:x=o
     ·rw[if_pos ho];refine aaL _ _ _ _ (fun u v hu he=>?_) hS;unfold bdE sbE at *
      grind
     ·rw[if_neg ho]
      by_cases hmp:m∈p.usd
      ·have hxm:=hmx hmp;rw[abt p o m (.inr (by grind))];refine aaL _ _ _ _ (fun u v hu he=>?_) hS;have:=usd_free p u hu;unfold bdE sbE at *
       grind
      ·have r1:Roomy p o m:=aa6 x hr hbl (fun z hz=>by have:=hs z;grind);have s1:=ih p o m _ p' hp r1 hne hmp hS;have f1:=agY p.size p o m (nl _) r1 hne hmp
       by_cases hxm:x=m
       ·rw[abt p o m (.inr (by grind))];refine aaL _ _ _ _ (fun u v hu he=>?_) hS;have:=usd_free p u hu;unfold bdE sbE at *
        grind
       ·refine aaL _ _ _ _ (fun u v hu he=>?_) s1;unfold bdE sbE at *
        grind
   have hb0:∀(p:Tm) (x:UInt8),p.size<=n->p.bdp+1<=t.bdp->(∀z,z∈p.free->z=x\/z∈t.free)->(m∈p.usd->m=x)->x∉p.usd->Sm p E s->Sm (RB p x o m) (sbE E o m) s:=by
    intro p x hp hbl hs hmx hxu hS;have hmp:m∉p.usd:=fun e=>hxu (hmx e▸e);unfold RB
    by_cases hc:x=m/\o∈p.free
    ·obtain⟨y1,y2,y3⟩:=ae3 hr hbl hs hc;rw[if_neg y2,if_pos hc];have y4:capX p x o m∉p.usd:=fun e=>y1 (usd_free p _ e);have r1:Roomy p x (capX p x o m):=aa6 (capX p x o m) hr hbl (fun z hz=>by have:=hs z;grind);have hxy:x≠capX p x o m:=fun e=>y3 (e.symm.trans hc.1);have f1:=agY p.size p x (capX p x o m) (nl _) r1 hxy y4;have k1:=R_free p.size p x (capX p x o m) (nl _) r1 hxy;have r2:Roomy (R p x (capX p x o m)) o m:=aa6 (capX p x o m) hr (by rw[alc _ _ _ _ (nl _)];exact hbl) (fun z hz=>by have:=hs z;have:=k1 z;grind);have f2:=agY _ (R p x (capX p x o m)) o m (nl _) r2 hne (by have:=f1 m;grind);have s1:=ih p x (capX p x o m) _ s hp r1 hxy y4 hS;have s2:=ih (R p x (capX p x o m)) o m _ s (by rw[R_size];exact hp) r2 hne (by have:=f1 m;grind) s1;refine aaL _ _ _ _ (fun u v hu he=>?_) s2;have g1:=f1 u;have g2:=f2 u
     generalize capX p x o m=y at *
     unfold sbE at *
     grind
    ·have hx:capX p x o m=x:=by unfold capX;rw[if_neg hc]
     rw[hx,if_neg hc]
     by_cases ho:x=o
     ·rw[if_pos ho];refine aaL _ _ _ _ (fun u v hu he=>?_) hS;unfold sbE
      grind
     ·rw[if_neg ho]
      by_cases hxm:x=m
      ·rw[abt p o m (.inr (by grind))];refine aaL _ _ _ _ (fun u v hu he=>?_) hS;have:=usd_free p u hu;unfold sbE
       grind
      ·exact ih p o m _ s hp (aa6 x hr hbl (fun z hz=>by have:=hs z;grind)) hne hmp hS
   cases t with
   | nil=>simp[Tm.free]at hof
   | snd a b p=>
    simp only[Tm.size]at hn;rw[mu_snd]at hm;obtain⟨a',b',p',e,h1,h2,h3⟩:=hs;have f:=ih p o m E p' (by omega) (aay hr (nl _) (fun z hz=>by rw[mf_snd];grind)) hne (by grind) h3;rw[agR h];refine⟨a',b',p',e,?_,?_,f⟩
    ·unfold sw sbE;split<;>grind
    ·unfold sw sbE;split<;>grind
   | rcv a x p=>
    simp only[Tm.size]at hn;rw[mu_rcv]at hm;obtain⟨a',x',p',e,h1,h3⟩:=hs;have f:=hb p x x' p' (by omega) (by simp only[Tm.bdp];try omega) (fun z hz=>by rw[mf_rcv];grind) (by grind) h3;rw[agT h];refine⟨a',x',p',e,?_,f⟩;unfold sw sbE;split<;>grind
   | own x p=>
    simp only[Tm.size]at hn;have hm':=hm;rw[mu_own]at hm;rw[ah5 h];have hR:(R (.own x p) o m)=.own (capX p x o m) (RB p x o m):=ah5 h;have hu:=agY _ (.own x p) o m (nl _) hr hne hm'
    have hq:capX p x o m∈(RB p x o m).usd↔x∈p.usd:=by
     have hbl:p.bdp+1<=(Tm.own x p).bdp:=by simp only[Tm.bdp];try omega
     have hsf:∀z,z∈p.free->z=x\/z∈(Tm.own x p).free:=fun z hz=>by rw[mf_own];grind
     unfold RB
     by_cases hc:x=m/\o∈p.free
     ·obtain⟨y1,y2,y3⟩:=ae3 hr hbl hsf hc;rw[if_neg y2,if_pos hc];have y4:capX p x o m∉p.usd:=fun e=>y1 (usd_free p _ e);have r1:Roomy p x (capX p x o m):=aa6 (capX p x o m) hr hbl (fun z hz=>by have:=hsf z;grind);have hxy:x≠capX p x o m:=fun e=>y3 (e.symm.trans hc.1);have f1:=agY p.size p x (capX p x o m) (nl _) r1 hxy y4;have k1:=R_free p.size p x (capX p x o m) (nl _) r1 hxy;have r2:Roomy (R p x (capX p x o m)) o m:=aa6 (capX p x o m) hr (by rw[alc _ _ _ _ (nl _)];exact hbl) (fun z hz=>by have:=hsf z;have:=k1 z;grind);have f2:=agY _ (R p x (capX p x o m)) o m (nl _) r2 hne (by have:=f1 m;grind) (capX p x o m);have g1:=f1 (capX p x o m);have g2:=f1 o
      grind
     ·have hx:capX p x o m=x:=by unfold capX;rw[if_neg hc]
      rw[hx,if_neg hc]
      by_cases ho:x=o
      ·rw[if_pos ho]
      ·rw[if_neg ho]
       by_cases hxm:x=m
       ·rw[abt p o m (.inr (by grind))]
       ·have r1:Roomy p o m:=aa6 x hr hbl (fun z hz=>by have:=hsf z;grind);have f1:=agY p.size p o m (nl _) r1 hne (by grind) x
        grind
    unfold Sm at hs ⊢
    by_cases hxu:x∈p.usd
    ·rw[if_pos hxu]at hs;rw[if_pos (hq.2 hxu)];obtain⟨x',p',e,h3⟩:=hs;exact⟨x',p',e,hb p x x' p' (by omega) (by simp only[Tm.bdp];try omega) (fun z hz=>by rw[mf_own];grind) (by grind) h3⟩
    ·rw[if_neg hxu]at hs;rw[if_neg (fun e=>hxu (hq.1 e))];exact hb0 p x (by omega) (by simp only[Tm.bdp];try omega) (fun z hz=>by rw[mf_own];grind) (by grind) hxu hs
   | tau p=>
    simp only[Tm.size]at hn;rw[mu_tau]at hm;obtain⟨p',e,h3⟩:=hs;rw[agU h];exact⟨p',e,ih p o m E p' (by omega) (aay hr (nl _) (fun z hz=>by rw[mf_tau];grind)) hne hm h3⟩
   | rep p=>
    simp only[Tm.size]at hn;rw[mu_rep]at hm;rw[agV h];unfold Sm at hs ⊢;rw[abM]
    split at hs
    ·rename_i c;rw[if_pos c];exact hs
    ·rename_i c;rw[if_neg c]
     obtain⟨p',e,h3⟩:=hs;exact⟨p',e,ih p o m E p' (by omega) (aay hr (nl _) (fun z hz=>by rw[mf_rep];grind)) hne hm h3⟩
   | mat a b p=>
    simp only[Tm.size]at hn;rw[mu_mat]at hm;rw[agS h];unfold Sm at hs ⊢;rw[abM]
    by_cases hd:p.dead=true
    ·have hn0:s=.nil:=by
      split at hs
      ·exact aef p E s hd hs
      ·first|exact hs|(rw[if_pos hd]at hs;exact hs)
     subst hn0
     split
     ·exact ajL _ _ (by rw[abM];exact hd)
     ·first|rfl|rw[if_pos hd]
    ·have hd':p.dead=false:=by simpa using hd
     have hmp:m∉p.usd:=by grind
     have f:=fun p'=>ih p o m E p' (by omega) (aay hr (nl _) (fun z hz=>by rw[mf_mat];grind)) hne hmp
     split at hs
     ·rename_i c;subst c;rw[if_pos rfl];exact f s hs
     ·rename_i c
      (try rw[if_neg hd]at hs)
      rw[if_neg (by unfold sw;grind),if_neg hd];obtain⟨a',b',p',e,h1,h2,h3⟩:=hs;refine⟨a',b',p',e,?_,?_,f p' h3⟩
      ·unfold sw sbE;split<;>grind
      ·unfold sw sbE;split<;>grind
   | sum p q=>
    simp only[Tm.size]at hn;rw[mu_sum]at hm;rw[agW h];have f:=fun s=>ih p o m E s (by omega) (aay hr (by simp only[Tm.bdp];try omega) (fun z hz=>by rw[mf_sum];grind)) hne (by grind);have g:=fun s=>ih q o m E s (by omega) (aay hr (by simp only[Tm.bdp];try omega) (fun z hz=>by rw[mf_sum];grind)) hne (by grind);unfold Sm at hs ⊢;rw[abM,abM]
    split at hs
    ·rename_i c;rw[if_pos c];exact g s hs
    ·rename_i c;rw[if_neg c]
     split at hs
     ·rename_i c;rw[if_pos c];exact f s hs
     ·rename_i c;rw[if_neg c]
      obtain⟨p',q',e,h1,h2⟩:=hs;exact⟨p',q',e,f p' h1,g q' h2⟩
   | par p q=>
    simp only[Tm.size]at hn;rw[mu_par]at hm;rw[ai3 h];have f:=fun s=>ih p o m E s (by omega) (aay hr (by simp only[Tm.bdp];try omega) (fun z hz=>by rw[mf_par];grind)) hne (by grind);have g:=fun s=>ih q o m E s (by omega) (aay hr (by simp only[Tm.bdp];try omega) (fun z hz=>by rw[mf_par];grind)) hne (by grind);unfold Sm at hs ⊢;rw[abM,abM]
    split at hs
    ·rename_i c;rw[if_pos c];exact g s hs
    ·rename_i c;rw[if_neg c]
     split at hs
     ·rename_i c;rw[if_pos c];exact f s hs
     ·rename_i c;rw[if_neg c]
      obtain⟨p',q',e,h1,h2⟩:=hs;exact⟨p',q',e,f p' h1,g q' h2⟩
def upd (sc:UInt8->UInt8)(x y:UInt8):UInt8->UInt8:=fun z=>if z=x then y else sc z
def can:Tm->(UInt8->UInt8)->List UInt8->Tm
 | .nil,_,_=>.nil
 | .snd a b p,sc,ns=>.snd (sc a) (sc b) (can p sc ns)
 | .rcv a x p,sc,ns=>.rcv (sc a) (ns.headD 0) (can p (upd sc x (ns.headD 0)) ns.tail)
 | .tau p,sc,ns=>.tau (can p sc ns)
 | .sum p q,sc,ns=>.sum (can p sc ns) (can q sc (ns.drop p.bnd.length))
 | .par p q,sc,ns=>.par (can p sc ns) (can q sc (ns.drop p.bnd.length))
 | .own x p,sc,ns=>.own (ns.headD 0) (can p (upd sc x (ns.headD 0)) ns.tail)
 | .mat a b p,sc,ns=>.mat (sc a) (sc b) (can p sc ns)
 | .rep p,sc,ns=>.rep (can p sc ns)
def othL (l:List UInt8):List UInt8:=((List.range 26).map fun i=>UInt8.ofNat (97+i)).filter fun c=>decide (c∉l)
def ap8:List UInt8:=(List.range 26).map fun i=>UInt8.ofNat (97+i)
theorem agZ:Srt ap8:=by unfold Srt ap8;decide +kernel
theorem adF (l:List UInt8):Srt (othL l):=List.Pairwise.filter _ agZ
theorem ai4 (c:UInt8):c∈ap8↔97<=c.toNat/\c.toNat<=122:=by
 unfold ap8;rw[List.mem_map];constructor
 ·rintro⟨i,hi,rfl⟩;rw[List.mem_range]at hi;rw[UInt8.toNat_ofNat'];omega
 ·intro h;exact⟨c.toNat - 97,List.mem_range.2 (by omega),u8_ext (by rw[UInt8.toNat_ofNat'];omega)⟩
theorem abL (l:List UInt8)(c:UInt8):c∈othL l↔(97<=c.toNat/\c.toNat<=122)/\c∉l:=by
 rw[<-ai4];unfold othL ap8;rw[List.mem_filter];simp
theorem fresh_oth (l:List UInt8):(∃c r,othL l=c::r/\fresh l=c/\c.toNat<=122)\/(othL l=[]/\122<(fresh l).toNat):=by
 rcases fresh_cases l with⟨k,h1,h2,h3,h4⟩|⟨h0,h⟩
 ·left
  have hs:=adF l;have hmem:UInt8.ofNat (97+k)∈othL l:=(abL _ _).2 ⟨by rw[UInt8.toNat_ofNat'];omega,h3⟩
  cases ho:othL l with
  | nil=>rw[ho]at hmem;cases hmem
  | cons c r=>
   have hc:c=UInt8.ofNat (97+k):=by
    rw[ho]at hs hmem;rcases List.mem_cons.1 hmem with h|h
    ·exact h.symm
    ·have h5:=(List.pairwise_cons.1 hs).1 _ h;have h6:=(abL l c).1 (by rw[ho];simp);rw[abO,UInt8.toNat_ofNat']at h5;exact absurd (by have:=h2 (c.toNat - 97) (by omega);rw[show UInt8.ofNat (97+(c.toNat - 97))=c from u8_ext (by rw[UInt8.toNat_ofNat'];omega)]at this;exact this) h6.2
   exact⟨c,r,rfl,by rw[h4,hc],by rw[hc,UInt8.toNat_ofNat'];omega⟩
 ·right
  refine⟨?_,?_⟩
  ·cases ho:othL l with
   | nil=>rfl
   | cons c r=>
    have h6:=(abL l c).1 (by rw[ho];simp);exact absurd (by have:=h0 (c.toNat - 97) (by omega);rw[show UInt8.ofNat (97+(c.toNat - 97))=c from u8_ext (by rw[UInt8.toNat_ofNat'];omega)]at this;exact this) h6.2
  ·rcases h with⟨k,h1,_,_,h4⟩|⟨_,h4⟩
   ·rw[h4,UInt8.toNat_ofNat'];omega
   ·rw[h4];decide
theorem ai5 {l:List UInt8}{c:UInt8}{r:List UInt8}(h:othL l=c::r):othL (addL l c)=r:=by
 have hs:=adF l;rw[h]at hs;refine acP (adF _) (List.pairwise_cons.1 hs).2 fun x=>?_;rw[abL,mem_addL];have h1:=abL l x;rw[h,List.mem_cons]at h1;have h2:x∈r->x≠c:=fun hx e=>by have:=(List.pairwise_cons.1 hs).1 x hx;rw[e,abO]at this;omega
 grind
structure Tk (t:Tm) (l:List UInt8):Prop where
 srt:Srt l
 sub:∀z,z∈t.free->z∈l
 room:l.length+t.bnd.length<=87
theorem adG (l A:List UInt8):(bothL l A).length<=l.length+A.length:=by
 induction A generalizing l with
 | nil=>simp[bothL]
 | cons c A ih=>
  have h1:=ih (addL l c);have h2:=abS c l;show (bothL (addL l c) A).length<=_;simp only[List.length_cons];omega
def gl (k:Nat):UInt8:=UInt8.ofNat (if k<26 then 65+k else 166+k)
def aaX (z:UInt8):Prop:=(65<=z.toNat/\z.toNat<=90)\/192<=z.toNat
theorem agl {k:Nat}(h:k<90):(gl k).toNat=if k<26 then 65+k else 166+k:=by
 unfold gl;rw[UInt8.toNat_ofNat'];split<;>omega
theorem ah6 {i j:Nat}(hi:i<90)(hj:j<90)(h:gl i=gl j):i=j:=by
 have h1:=agl hi;have h2:=agl hj;rw[h,h2]at h1
 split at h1<;>split at h1<;>omega
theorem acf {i:Nat}(hi:i<90):aaX (gl i):=by
 unfold aaX;rw[agl hi];split<;>omega
theorem auY {i:Nat}(hi:i<90):nmE (gl i)=true:=by
 rw[aiU,agl hi];split<;>omega
def Fit (t:Tm):Prop:=t.free.length+t.bdp<=86
theorem aa0 {t p:Tm}(h:Fit t)(hb:p.bdp<=t.bdp)(hs:∀z,z∈p.free->z∈t.free):Fit p:=by
 have:=acz (srt_free p) (srt_free t) hs;unfold Fit at h ⊢;omega
theorem acA {t p:Tm}{x:UInt8}(h:Fit t)(hb:p.bdp+1<=t.bdp)(hs:∀z,z∈p.free->z=x\/z∈t.free):Fit p:=by
 have h1:=acz (srt_free p) (srt_addL (srt_free t) x) (fun z hz=>by rw[mem_addL];exact(hs z hz).symm);have h2:=abS x t.free;unfold Fit at h ⊢;omega
theorem fit_roomy {t:Tm}(h:Fit t)(o m:UInt8):Roomy t o m:=by
 have:=adG t.free [o,m];unfold Fit at h;unfold Roomy;simp at this;omega
theorem ah7 {l:List UInt8}{c:UInt8}(h:c∈l):(abx l c).length+1<=l.length:=by
 induction l with
 | nil=>cases h
 | cons a l ih=>
  unfold abx;rw[List.filter_cons]
  by_cases e:a=c
  ·subst e;simp only[bne_self_eq_false,Bool.false_eq_true,if_false,List.length_cons];have:=List.length_filter_le (fun x:UInt8=>x != a) l;omega
  ·have:c∈l:=by
    rcases List.mem_cons.1 h with h|h
    ·exact absurd h.symm e
    ·exact h
   have ih:=ih this
   unfold abx at ih;have e':(a != c)=true:=by simpa using e
   rw[if_pos e'];simp only[List.length_cons];omega
theorem ae6 {t:Tm}(h:Fit t)(o m:UInt8):Fit (R t o m):=by
 by_cases hs:o=m\/o∉t.free
 ·rw[abt _ _ _ hs];exact h
 ·have hne:o≠m:=fun e=>hs (.inl e);have hof:o∈t.free:=by grind
  have hf:=R_free _ t o m (nl _) (fit_roomy h o m) hne
  have h1:=acz (srt_free (R t o m)) (srt_addL (ab3 (srt_free t) o) m) (fun z hz=>by
   rw[mem_addL,abG];have:=(hf z).1 hz;grind)
  have h2:=abS m (abx t.free o);have h3:=ah7 hof;have h4:=alc _ t o m (nl _);unfold Fit at h ⊢;omega
theorem acq (t:Tm):∀z,z∈t.peel.free\/z∈t.peel.bnd->z∈t.free\/z∈t.bnd:=by
 induction t with
 | mat a b p ih=>
  unfold Tm.peel;split
  ·intro z hz;rw[mf_mat];have:=ih z hz;simp only[Tm.bnd];grind
  ·exact fun _ h=>h
 | sum p q ih ih2=>
  unfold Tm.peel;split
  ·intro z hz;rw[mf_sum];have:=ih2 z hz;simp only[Tm.bnd,lma];grind
  ·split
   ·intro z hz;rw[mf_sum];have:=ih z hz;simp only[Tm.bnd,lma];grind
   ·exact fun _ h=>h
 | par p q ih ih2=>
  unfold Tm.peel;split
  ·intro z hz;rw[mf_par];have:=ih2 z hz;simp only[Tm.bnd,lma];grind
  ·split
   ·intro z hz;rw[mf_par];have:=ih z hz;simp only[Tm.bnd,lma];grind
   ·exact fun _ h=>h
 | own x p ih=>
  unfold Tm.peel;split
  ·exact fun _ h=>h
  ·intro z hz;rw[mf_own];have:=ih z hz;simp only[Tm.bnd,List.mem_cons];grind
 | _=>exact fun _ h=>h
theorem acB (t:Tm):Fit t->Fit t.peel:=by
 induction t with
 | mat a b p ih=>
  intro h;unfold Tm.peel;split
  ·exact ih (aa0 h (nl _) (fun z hz=>by rw[mf_mat];exact .inr (.inr hz)))
  ·exact h
 | sum p q ih ih2=>
  intro h;unfold Tm.peel;split
  ·exact ih2 (aa0 h (by simp only[Tm.bdp];try omega) (fun z hz=>by rw[mf_sum];exact .inr hz))
  ·split
   ·exact ih (aa0 h (by simp only[Tm.bdp];try omega) (fun z hz=>by rw[mf_sum];exact .inl hz))
   ·exact h
 | par p q ih ih2=>
  intro h;unfold Tm.peel;split
  ·exact ih2 (aa0 h (by simp only[Tm.bdp];try omega) (fun z hz=>by rw[mf_par];exact .inr hz))
  ·split
   ·exact ih (aa0 h (by simp only[Tm.bdp];try omega) (fun z hz=>by rw[mf_par];exact .inl hz))
   ·exact h
 | own x p ih=>
  intro h;unfold Tm.peel;split
  ·exact h
  ·exact ih (acA (x:=x) h (by simp only[Tm.bdp];try omega) (fun z hz=>by rw[mf_own];grind))
 | _=>exact fun h=>h
theorem acC (l:List UInt8):¬aaX (fresh l):=by
 unfold aaX;rcases fresh_cases l with⟨k,h1,_,_,h4⟩|⟨_,⟨k,h1,_,_,h4⟩|⟨_,h4⟩⟩
 ·rw[h4,UInt8.toNat_ofNat'];omega
 ·rw[h4,UInt8.toNat_ofNat'];omega
 ·rw[h4];decide
theorem R_bnds (n:Nat):∀(t:Tm) (o m:UInt8),t.size<=n->∀z,z∈(R t o m).bnd->z∈t.bnd\/¬aaX z:=by
 induction n with
 | zero=>intro t o m h;have:=aaq t;omega
 | succ n ih=>
  intro t o m hn z
  by_cases h:o=m\/o∉t.free
  ·rw[abt _ _ _ h];exact .inl
  ·have hc:∀p x,capX p x o m=x\/¬aaX (capX p x o m):=by
    intro p x;unfold capX;split
    ·exact .inr (acC _)
    ·exact .inl rfl
   have hb:∀p x,p.size<=n->∀z,z∈(RB p x o m).bnd->z∈p.bnd\/¬aaX z:=by
    intro p x h1 z;unfold RB
    split<;>split
    ·exact ih _ _ _ h1 z
    ·exact .inl
    ·intro hz;rcases ih _ _ _ (by rw[R_size];exact h1) z hz with hz|hz
     ·exact ih _ _ _ h1 z hz
     ·exact .inr hz
    ·exact ih _ _ _ h1 z
   cases t with
   | nil=>exact absurd (.inr (by simp[Tm.free])) h
   | snd a b p=>simp only[Tm.size]at hn;rw[agR h];exact ih p _ _ (by omega) z
   | mat a b p=>simp only[Tm.size]at hn;rw[agS h];exact ih p _ _ (by omega) z
   | tau p=>simp only[Tm.size]at hn;rw[agU h];exact ih p _ _ (by omega) z
   | rep p=>simp only[Tm.size]at hn;rw[agV h];exact ih p _ _ (by omega) z
   | sum p q=>
    simp only[Tm.size]at hn;rw[agW h];simp only[Tm.bnd,lma];have:=ih p o m (by omega) z;have:=ih q o m (by omega) z;grind
   | par p q=>
    simp only[Tm.size]at hn;rw[ai3 h];simp only[Tm.bnd,lma];have:=ih p o m (by omega) z;have:=ih q o m (by omega) z;grind
   | rcv a x p=>
    simp only[Tm.size]at hn;rw[agT h];simp only[Tm.bnd,List.mem_cons];have:=hb p x (by omega) z;have:=hc p x;grind
   | own x p=>
    simp only[Tm.size]at hn;rw[ah5 h];simp only[Tm.bnd,List.mem_cons];have:=hb p x (by omega) z;have:=hc p x;grind
theorem R_names {t:Tm}(h:Fit t)(o m:UInt8):∀z,z∈(R t o m).free\/z∈(R t o m).bnd->(z∈t.free\/z∈t.bnd)\/z=m\/¬aaX z:=by
 intro z hz;rcases hz with hz|hz
 ·by_cases e:o=m
  ·rw[abt _ _ _ (.inl e)]at hz;exact .inl (.inl hz)
  ·have:=(R_free _ t o m (nl _) (fit_roomy h o m) e z).1 hz;grind
 ·have:=R_bnds _ t o m (nl _) z hz;grind
theorem ae7 (t:Tm):t.peel.dead=t.dead:=by
 induction t with
 | mat a b p ih=>unfold Tm.peel;split;exact ih;rfl
 | sum p q ih ih2=>
  unfold Tm.peel;split
  ·rename_i h;rw[ih2];simp only[Tm.dead];rw[h];rfl
  ·split
   ·rename_i h;rw[ih];simp only[Tm.dead];rw[h,Bool.and_true]
   ·rfl
 | par p q ih ih2=>
  unfold Tm.peel;split
  ·rename_i h;rw[ih2];simp only[Tm.dead];rw[h];rfl
  ·split
   ·rename_i h;rw[ih];simp only[Tm.dead];rw[h,Bool.and_true]
   ·rfl
 | own x p ih=>unfold Tm.peel;split;rfl;exact ih
 | _=>rfl
theorem ap9 (t:Tm):∀z,z∈t.peel.usd↔z∈t.usd:=by
 induction t with
 | mat a b p ih=>
  unfold Tm.peel;split
  ·rename_i h;intro z;rw[ih,mu_mat];grind
  ·exact fun _=>Iff.rfl
 | sum p q ih ih2=>
  unfold Tm.peel;split
  ·rename_i h;intro z;rw[ih2,mu_sum,dead_usd _ h];simp
  ·split
   ·rename_i h;intro z;rw[ih,mu_sum,dead_usd _ h];simp
   ·exact fun _=>Iff.rfl
 | par p q ih ih2=>
  unfold Tm.peel;split
  ·rename_i h;intro z;rw[ih2,mu_par,dead_usd _ h];simp
  ·split
   ·rename_i h;intro z;rw[ih,mu_par,dead_usd _ h];simp
   ·exact fun _=>Iff.rfl
 | own x p ih=>
  unfold Tm.peel;split
  ·exact fun _=>Iff.rfl
  ·rename_i h;intro z;rw[ih,mu_own]
   exact⟨fun hz=>⟨hz,fun e=>h (e▸hz)⟩,fun hz=>hz.1⟩
 | _=>exact fun _=>Iff.rfl
theorem ans (t:Tm):∀(E:UInt8->UInt8->Prop) (s:Tm),Sm t E s->Sm t.peel E s:=by
 induction t with
 | mat a b p ih=>
  intro E s h;unfold Tm.peel;split
  ·rename_i c;unfold Sm at h;rw[if_pos c]at h;exact ih E s h
  ·exact h
 | sum p q ih ih2=>
  intro E s h;unfold Tm.peel;split
  ·rename_i c;unfold Sm at h;rw[if_pos c]at h;exact ih2 E s h
  ·rename_i c;split
   ·rename_i d;unfold Sm at h;rw[if_neg c,if_pos d]at h;exact ih E s h
   ·exact h
 | par p q ih ih2=>
  intro E s h;unfold Tm.peel;split
  ·rename_i c;unfold Sm at h;rw[if_pos c]at h;exact ih2 E s h
  ·rename_i c;split
   ·rename_i d;unfold Sm at h;rw[if_neg c,if_pos d]at h;exact ih E s h
   ·exact h
 | own x p ih=>
  intro E s h;unfold Tm.peel;split
  ·exact h
  ·rename_i c;unfold Sm at h;rw[if_neg c]at h;exact ih E s h
 | _=>intro E s h;exact h
def Peeled:Tm->Prop
 | .sum p q=>p.dead=false/\q.dead=false
 | .par p q=>p.dead=false/\q.dead=false
 | .own x p=>x∈p.usd
 | .mat a b _=>a≠b
 | _=>True
theorem ab5 (t:Tm):Peeled t.peel:=by
 induction t with
 | mat a b p ih=>unfold Tm.peel;split;exact ih;assumption
 | sum p q ih ih2=>
  unfold Tm.peel;split
  ·exact ih2
  ·split
   ·exact ih
   ·rename_i h1 h2;exact⟨by simpa using h1,by simpa using h2⟩
 | par p q ih ih2=>
  unfold Tm.peel;split
  ·exact ih2
  ·split
   ·exact ih
   ·rename_i h1 h2;exact⟨by simpa using h1,by simpa using h2⟩
 | own x p ih=>unfold Tm.peel;split;assumption;exact ih
 | _=>trivial
theorem ae8 (t:Tm)(h:Peeled t):t.peel=t:=by
 cases t<;>unfold Tm.peel<;>unfold Peeled at h
 case sum p q=>rw[h.1,h.2];rfl
 case par p q=>rw[h.1,h.2];rfl
 case own x p=>rw[if_pos h]
 case mat a b p=>rw[if_neg h]
 all_goals rfl
def gath:Nat->Nat->Tm->List Tm × Nat
 | 0,k,_=>([],k)
 | n+1,k,t=>
  if t.peel.dead then ([],k) else
  match t.peel with
  | .par p q=>((gath n k p).1++(gath n (gath n k p).2 q).1,(gath n (gath n k p).2 q).2)
  | .own x p=>gath n (k+1) (R p x (gl k))
  | u=>([u],k)
def lvl:Tm->List UInt8 × List Tm
 | .nil=>([],[])
 | .own x p=>(x::(lvl p).1,(lvl p).2)
 | .par p q=>((lvl p).1++(lvl q).1,(lvl p).2++(lvl q).2)
 | s=>([],[s])
def exE (E:UInt8->UInt8->Prop)(k:Nat)(G:List UInt8):UInt8->UInt8->Prop:=fun u v=>
 (∃j,∃h:j<G.length,u=gl (k+j)/\v=G[j])\/((∀j,j<G.length->u≠gl (k+j))/\v∉G/\E u v)
def Thr (t:Tm):Prop:=t.dead=false/\Peeled t/\(∀p q,t≠.par p q)/\(∀x p,t≠.own x p)
theorem ant (s:Tm):∀z,z∈(lvl s).1->z∈s.bnd:=by
 induction s with
 | own x p ih=>intro z hz;simp only[lvl,List.mem_cons]at hz;simp only[Tm.bnd,List.mem_cons];exact hz.imp id (ih z)
 | par p q ih ih2=>intro z hz;simp only[lvl,lma]at hz;simp only[Tm.bnd,lma];exact hz.imp (ih z) (ih2 z)
 | _=>intro z hz;simp[lvl]at hz
theorem ai6 (s:Tm):∀T∈(lvl s).2,∀z,z∈T.bnd->z∈s.bnd:=by
 induction s with
 | own x p ih=>intro T hT z hz;simp only[Tm.bnd,List.mem_cons];exact .inr (ih T hT z hz)
 | par p q ih ih2=>
  intro T hT z hz;simp only[lvl,lma]at hT;simp only[Tm.bnd,lma];exact hT.imp (fun h=>ih T h z hz) (fun h=>ih2 T h z hz)
 | nil=>intro T hT;simp[lvl]at hT
 | _=>intro T hT z hz;simp only[lvl,List.mem_singleton]at hT;subst hT;exact hz
inductive All2 {α β:Type} (P:α->β->Prop):List α->List β->Prop where
 | nil:All2 P [] []
 | cons {a b l m}:P a b->All2 P l m->All2 P (a::l) (b::m)
theorem All2.append {α β:Type}{P:α->β->Prop}{l l':List α}{m m':List β}(h:All2 P l m)(h':All2 P l' m'):All2 P (l++l') (m++m'):=by
 induction h with
 | nil=>exact h'
 | cons a _ ih=>exact .cons a ih
theorem All2.mono {α β:Type}{P Q:α->β->Prop}{l:List α}{m:List β}(h:All2 P l m)(hm:∀a b,a∈l->b∈m->P a b->Q a b):All2 Q l m:=by
 induction h with
 | nil=>exact .nil
 | cons a _ ih=>exact .cons (hm _ _ (by simp) (by simp) a) (ih fun a b ha hb=>hm a b (by simp[ha]) (by simp[hb]))
theorem All2.len {α β:Type}{P:α->β->Prop}{l:List α}{m:List β}(h:All2 P l m):l.length=m.length:=by
 induction h with
 | nil=>rfl
 | cons _ _ ih=>simp[ih]
def FitT (t:Tm):Prop:=Fit t\/∃p q,(t=.par p q\/t=.sum p q)/\Fit p/\Fit q
def FitX (t:Tm):Prop:=Fit t\/∃p q,t=.sum p q/\Fit p/\Fit q
theorem acg {p q:Tm}(h:FitT (.par p q)):Fit p/\Fit q:=by
 rcases h with h|⟨p',q',e,h1,h2⟩
 ·exact⟨aa0 h (by simp only[Tm.bdp];try omega) (fun z hz=>by rw[mf_par];exact .inl hz),aa0 h (by simp only[Tm.bdp];try omega) (fun z hz=>by rw[mf_par];exact .inr hz)⟩
 ·rcases e with e|e
  ·injection e with e1 e2;subst e1 e2;exact⟨h1,h2⟩
  ·cases e
theorem aeK {p q:Tm}(h:FitX (.sum p q)):Fit p/\Fit q:=by
 rcases h with h|⟨p',q',e,h1,h2⟩
 ·exact⟨aa0 h (by simp only[Tm.bdp];try omega) (fun z hz=>by rw[mf_sum];exact .inl hz),aa0 h (by simp only[Tm.bdp];try omega) (fun z hz=>by rw[mf_sum];exact .inr hz)⟩
 ·injection e with e1 e2;subst e1 e2;exact⟨h1,h2⟩
theorem ag0 {x:UInt8}{p:Tm}(h:FitT (.own x p)):Fit (.own x p):=by
 rcases h with h|⟨p',q',e,h1,h2⟩
 ·exact h
 ·rcases e with e|e<;>cases e
theorem arD {t:Tm}(h:FitT t)(hp:∀p q,t≠.par p q):FitX t:=by
 rcases h with h|⟨p',q',e,h1,h2⟩
 ·exact .inl h
 ·rcases e with e|e
  ·exact absurd e (hp _ _)
  ·exact .inr ⟨p',q',e,h1,h2⟩
theorem adH {t:Tm}(h:FitT t):FitT t.peel:=by
 rcases h with h|⟨p,q,e,h1,h2⟩
 ·exact .inl (acB t h)
 ·rcases e with e|e<;>subst e
  ·unfold Tm.peel;split
   ·exact .inl (acB q h2)
   ·split
    ·exact .inl (acB p h1)
    ·exact .inr ⟨p,q,.inl rfl,h1,h2⟩
  ·unfold Tm.peel;split
   ·exact .inl (acB q h2)
   ·split
    ·exact .inl (acB p h1)
    ·exact .inr ⟨p,q,.inr rfl,h1,h2⟩
theorem anu (n:Nat):∀(k:Nat) (t:Tm) (E:UInt8->UInt8->Prop) (s:Tm) (P:UInt8->Prop),t.size<=n->FitT t->Sm t E s->k+(lvl s).1.length<=89-> (∀z,¬aaX z->P z)->(∀i,k<=i->i<90->¬P (gl i))->(∀z,z∈t.free\/z∈t.bnd->P z)->s.bnd.Nodup->(∀u v,E u v->v∉s.bnd)-> (gath n k t).2=k+(lvl s).1.length/\All2 (fun T T'=>Sm T (exE E k (lvl s).1) T') (gath n k t).1 (lvl s).2/\ ∀T∈(gath n k t).1,(FitX T/\(Fit T\/((lvl s).1=[]/\¬Fit t)))/\T.size<=t.size/\Thr T/\∀z,z∈T.free\/z∈T.bnd->P z\/∃j,j<(lvl s).1.length/\z=gl (k+j):=by
 induction n with
 | zero=>intro k t E s P h;have:=aaq t;omega
 | succ n ih=>
  intro k t E s P hn hfit hS hk hP1 hP2 hPt hnd hE;have hps:=aba t;have hSp:=ans t E s hS;have hpf:=ab5 t;have hPu:∀z,z∈t.peel.free\/z∈t.peel.bnd->P z:=fun z hz=>hPt z (acq t z hz);have hfp:=adH hfit;have hfq:=acB t;unfold gath
  by_cases hd:t.peel.dead=true
  ·have e:=aef _ E s hd hSp;subst e;rw[if_pos hd];exact⟨rfl,.nil,fun T h=>by simp at h⟩
  ·rw[if_neg hd];have hd':t.peel.dead=false:=by simpa using hd
   generalize hu:t.peel=u at *
   -- a thread
   have hleaf:(∀p q,u≠.par p q)->(∀x p,u≠.own x p)->(lvl s)=([],[s])->
     (([u],k):List Tm × Nat).2=k+(lvl s).1.length/\All2 (fun T T'=>Sm T (exE E k (lvl s).1) T') (([u],k):List Tm × Nat).1 (lvl s).2/\
     ∀T∈(([u],k):List Tm × Nat).1,(FitX T/\(Fit T\/((lvl s).1=[]/\¬Fit t)))/\T.size<=t.size/\Thr T/\∀z,z∈T.free\/z∈T.bnd->P z\/∃j,j<(lvl s).1.length/\z=gl (k+j):=by
    intro h1 h2 h3;rw[h3];refine⟨rfl,.cons (aaL u E _ s (fun a b _ hab=>.inr ⟨fun j hj=>by simp at hj,by simp,hab⟩) hSp) .nil,fun T hT=>?_⟩;simp only[List.mem_singleton]at hT;subst hT;exact⟨⟨arD hfp h1,by by_cases c:Fit t;exact .inl (hfq c);exact .inr ⟨rfl,c⟩⟩,hps.2.2.1,⟨hd',hpf,h1,h2⟩,fun z hz=>.inl (hPu z hz)⟩
   cases u with
   | nil=>simp[Tm.dead]at hd
   | snd a b p=>obtain⟨a',b',p',rfl,_⟩:=hSp;exact hleaf (by intros;simp) (by intros;simp) rfl
   | rcv a x p=>obtain⟨a',x',p',rfl,_⟩:=hSp;exact hleaf (by intros;simp) (by intros;simp) rfl
   | tau p=>obtain⟨p',rfl,_⟩:=hSp;exact hleaf (by intros;simp) (by intros;simp) rfl
   | sum p q=>
    have h':=hSp;unfold Sm at h';rw[if_neg (by rw[hpf.1];simp),if_neg (by rw[hpf.2];simp)]at h';obtain⟨p',q',rfl,_⟩:=h';exact hleaf (by intros;simp) (by intros;simp) rfl
   | mat a b p=>
    have h':=hSp;unfold Sm at h';rw[if_neg hpf,if_neg (show ¬p.dead=true from hd)]at h';obtain⟨a',b',p',rfl,_⟩:=h';exact hleaf (by intros;simp) (by intros;simp) rfl
   | rep p=>
    have h':=hSp;unfold Sm at h';rw[if_neg (show ¬p.dead=true from hd)]at h';obtain⟨p',rfl,_⟩:=h';exact hleaf (by intros;simp) (by intros;simp) rfl
   | par p q=>
    have h':=hSp;unfold Sm at h';rw[if_neg (by rw[hpf.1];simp),if_neg (by rw[hpf.2];simp)]at h';obtain⟨p',q',rfl,h1,h2⟩:=h';simp only[lvl,lla]at hk;have hsz:p.size+q.size+1<=t.size:=hps.2.2.1;have hbn:(Tm.par p q).bnd.length=p.bnd.length+q.bnd.length:=by simp[Tm.bnd]
    have hPp:∀z,z∈p.free\/z∈p.bnd->P z:=fun z hz=>hPu z (by rw[mf_par];simp only[Tm.bnd,lma];grind);have hPq:∀z,z∈q.free\/z∈q.bnd->P z:=fun z hz=>hPu z (by rw[mf_par];simp only[Tm.bnd,lma];grind);have hnd':(p'.bnd++q'.bnd).Nodup:=hnd;rw[List.nodup_append]at hnd';obtain⟨a1,a2,a3⟩:=ih k p E p' P (by omega) (.inl (acg hfp).1) h1 (by omega) hP1 hP2 hPp hnd'.1 (fun u v e hv=>hE u v e (by simp only[Tm.bnd,lma];exact .inl hv));simp only[];rw[a1];obtain⟨b1,b2,b3⟩:=ih (k+(lvl p').1.length) q E q' P (by omega) (.inl (acg hfp).2) h2 (by omega) hP1 (fun i hi=>hP2 i (by omega)) hPq hnd'.2.1 (fun u v e hv=>hE u v e (by simp only[Tm.bnd,lma];exact .inr hv));have hEp:∀u v,E u v->v∉(lvl p').1:=fun u v e hv=>hE u v e (by simp only[Tm.bnd,lma];exact .inl (ant _ v hv));have hEq:∀u v,E u v->v∉(lvl q').1:=fun u v e hv=>hE u v e (by simp only[Tm.bnd,lma];exact .inr (ant _ v hv));simp only[lvl,lla];refine⟨by rw[b1];omega,.append (a2.mono fun T T' hT _ hm=>?_) (b2.mono fun T T' hT _ hm=>?_),fun T hT=>?_⟩
    ·refine aaL T _ _ T' (fun u v hu he=>?_) hm;have hu':=(a3 T hT).2.2.2 u (.inl (usd_free T u hu));rcases he with⟨j,hj,e1,e2⟩|⟨c1,c2,c3⟩
     ·exact .inl ⟨j,by rw[lla];omega,e1,by rw[e2,List.getElem_append_left]⟩
     ·refine .inr ⟨fun j hj e=>?_,by rw[lma];exact fun h=>h.elim c2 (hEq u v c3),c3⟩;rw[lla]at hj;rcases hu' with hu'|⟨i,hi,e'⟩
      ·exact hP2 (k+j) (by omega) (by omega) (e▸hu')
      ·exact c1 i hi e'
    ·refine aaL T _ _ T' (fun u v hu he=>?_) hm;have hu':=(b3 T hT).2.2.2 u (.inl (usd_free T u hu));rcases he with⟨j,hj,e1,e2⟩|⟨c1,c2,c3⟩
     ·exact .inl ⟨(lvl p').1.length+j,by rw[lla];omega,by rw[e1,Nat.add_assoc],by rw[e2,List.getElem_append_right (by omega)];simp⟩
     ·refine .inr ⟨fun j hj e=>?_,by rw[lma];exact fun h=>h.elim (hEp u v c3) c2,c3⟩;rw[lla]at hj;rcases hu' with hu'|⟨i,hi,e'⟩
      ·exact hP2 (k+j) (by omega) (by omega) (e▸hu')
      ·exact c1 i hi e'
    ·rcases lma.1 hT with hT|hT
     ·obtain⟨⟨c0,c1⟩,c2,c3,c4⟩:=a3 T hT;refine⟨⟨c0,.inl (c1.resolve_right fun h=>h.2 (acg hfp).1)⟩,by omega,c3,fun z hz=>?_⟩;rcases c4 z hz with h|⟨j,hj,e⟩
      ·exact .inl h
      ·exact .inr ⟨j,by omega,e⟩
     ·obtain⟨⟨c0,c1⟩,c2,c3,c4⟩:=b3 T hT;refine⟨⟨c0,.inl (c1.resolve_right fun h=>h.2 (acg hfp).2)⟩,by omega,c3,fun z hz=>?_⟩;rcases c4 z hz with h|⟨j,hj,e⟩
      ·exact .inl h
      ·exact .inr ⟨(lvl p').1.length+j,by omega,by rw[e,Nat.add_assoc]⟩
   | own x p=>
    have h':=hSp;unfold Sm at h';rw[if_pos (show x∈p.usd from hpf)]at h';obtain⟨x',p',rfl,h1⟩:=h';simp only[lvl,List.length_cons]at hk;have hsz:p.size+1<=t.size:=hps.2.2.1;have hbn:(Tm.own x p).bdp=p.bdp+1:=by simp[Tm.bdp]
    have hPp:∀z,z∈p.free\/z∈p.bnd->P z:=fun z hz=>hPu z (by rw[mf_own];simp only[Tm.bnd,List.mem_cons];grind);have hfitp:Fit p:=acA (x:=x) (ag0 hfp) (by omega) (fun z hz=>by rw[mf_own];grind);have hnPk:=hP2 k (nl _) (by omega);have hgk:gl k∉p.free:=fun h=>hnPk (hPp _ (.inl h));have hxk:x≠gl k:=fun e=>hnPk (hPu _ (.inr (by simp only[Tm.bnd,List.mem_cons];exact .inl e.symm)));have hnd':x'∉p'.bnd/\p'.bnd.Nodup:=by rw[<-List.nodup_cons];exact hnd
    have hS2:Sm (R p x (gl k)) (sbE (bdE E x x') x (gl k)) p':=awv _ p x (gl k) _ p' (nl _) (fit_roomy hfitp _ _) hxk (fun hu=>hgk (usd_free _ _ hu)) h1;have hfR:=R_names hfitp x (gl k)
    obtain⟨a1,a2,a3⟩:=ih (k+1) (R p x (gl k)) _ p' (fun z=>P z\/z=gl k) (by rw[R_size];omega) (.inl (ae6 hfitp _ _)) hS2 (by omega) (fun z hz=>.inl (hP1 z hz))
     (fun i hi hi2 h=>by
      rcases h with h|h
      ·exact hP2 i (by omega) hi2 h
      ·have:=ah6 hi2 (by omega) h;omega)
     (fun z hz=>by
      rcases hfR z hz with h|h|h
      ·exact .inl (hPp z h)
      ·exact .inr h
      ·exact .inl (hP1 z h)) hnd'.2 (fun u v he hv=>by
      rcases he with⟨_,he⟩|⟨_,_,he⟩
      ·rcases he with⟨_,e⟩|⟨e,_⟩
       ·exact hnd'.1 (e▸hv)
       ·exact e rfl
      ·rcases he with⟨_,e⟩|⟨_,_,e⟩
       ·exact hnd'.1 (e▸hv)
       ·exact hE u v e (by simp only[Tm.bnd,List.mem_cons];exact .inr hv))
    simp only[lvl,List.length_cons];refine⟨by rw[a1];omega,a2.mono fun T T' hT _ hm=>aaL T _ _ T' (fun u v hu he=>?_) hm,fun T hT=>?_⟩
    ·rcases he with⟨j,hj,e1,e2⟩|⟨c1,c2,c3⟩
     ·exact .inl ⟨j+1,by rw[List.length_cons];omega,by rw[e1];congr 1;omega,by rw[e2];rfl⟩
     ·have hc1:∀j,j<(x'::(lvl p').1).length->u≠gl k->u≠gl (k+j):=fun j hj h0 e=>by
       cases j with
       | zero=>exact h0 e
       | succ j=>exact c1 j (by simp at hj;omega) (by rw[e];congr 1;omega)
      rcases c3 with⟨e1,he⟩|⟨d1,d2,he⟩
      ·rcases he with⟨_,e⟩|⟨e,_⟩
       ·exact .inl ⟨0,by simp,e1,e⟩
       ·exact absurd rfl e
      ·rcases he with⟨e,_⟩|⟨_,d3,d4⟩
       ·exact absurd e d2
       ·exact .inr ⟨fun j hj=>hc1 j hj d1,by rw[List.mem_cons];exact fun h=>h.elim d3 c2,d4⟩
    ·obtain⟨⟨c0,c1⟩,c2,c3,c4⟩:=a3 T hT;rw[R_size]at c2;refine⟨⟨c0,.inl (c1.resolve_right fun h=>h.2 (ae6 hfitp _ _))⟩,by omega,c3,fun z hz=>?_⟩;rcases c4 z hz with (h|h)|⟨j,hj,e⟩
     ·exact .inl h
     ·exact .inr ⟨0,by omega,h⟩
     ·exact .inr ⟨j+1,by omega,by rw[e];congr 1;omega⟩
theorem asy (t:Tm):∀(sc:UInt8->UInt8) (ns:List UInt8),(can t sc ns).pr.length=t.pr.length/\(can t sc ns).size=t.size/\(can t sc ns).bnd.length=t.bnd.length:=by
 induction t with
 | nil=>intro sc ns;exact⟨rfl,rfl,rfl⟩
 | rcv a x p ih=>intro sc ns;have:=ih (upd sc x (ns.headD 0)) ns.tail;simp only[can,Tm.pr,Tm.size,Tm.bnd,List.length_cons,this,and_self]
 | own x p ih=>intro sc ns;have:=ih (upd sc x (ns.headD 0)) ns.tail;simp only[can,Tm.pr,Tm.size,Tm.bnd,List.length_cons,this,and_self]
 | sum p q ih ih2=>intro sc ns;have h1:=ih sc ns;have h2:=ih2 sc (ns.drop p.bnd.length);simp[can,Tm.pr,Tm.size,Tm.bnd,h1,h2]
 | par p q ih ih2=>intro sc ns;have h1:=ih sc ns;have h2:=ih2 sc (ns.drop p.bnd.length);simp[can,Tm.pr,Tm.size,Tm.bnd,h1,h2]
 | snd a b p ih=>intro sc ns;have h1:=ih sc ns;simp[can,Tm.pr,Tm.size,Tm.bnd,h1]
 | mat a b p ih=>intro sc ns;have h1:=ih sc ns;simp[can,Tm.pr,Tm.size,Tm.bnd,h1]
 | tau p ih=>intro sc ns;have h1:=ih sc ns;simp[can,Tm.pr,Tm.size,Tm.bnd,h1]
 | rep p ih=>intro sc ns;have h1:=ih sc ns;simp[can,Tm.pr,Tm.size,Tm.bnd,h1]
structure Mk (ms ns:List UInt8):Prop where
 nd:(ms++ns).Nodup
 hi:∀z∈ms++ns,123<=z.toNat
def axh:List UInt8:=(List.range 60).map fun i=>UInt8.ofNat (123+i)
end Go.Proofs.YtalegefnppbkdaaGreat.T1
