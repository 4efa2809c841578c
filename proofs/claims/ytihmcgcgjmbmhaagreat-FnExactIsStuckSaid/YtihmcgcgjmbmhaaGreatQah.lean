/- Texts of the proof. No conditions. -/
import Derived.Test.YtihmcgcgjmbmhaaGreatQaa
namespace Go.Proofs.YtihmcgcgjmbmhaaGreat.T1
open Go.Proofs.Tryz
set_option linter.unusedVariables false
theorem mf_snd (a b:UInt8)(p:Tm)(z:UInt8):z∈(Tm.snd a b p).free↔z=a\/z=b\/z∈p.free:=by
 simp only[Tm.free,mem_addL,mem_bothL];grind
theorem mf_rcv (a x:UInt8)(p:Tm)(z:UInt8):z∈(Tm.rcv a x p).free↔z=a\/(z∈p.free/\z≠x):=by
 simp only[Tm.free,mem_addL,mem_bothL,abN];grind
theorem mf_tau (p:Tm)(z:UInt8):z∈(Tm.tau p).free↔z∈p.free:=by
 simp only[Tm.free,mem_bothL];grind
theorem mf_sum (p q:Tm)(z:UInt8):z∈(Tm.sum p q).free↔z∈p.free\/z∈q.free:=by
 simp only[Tm.free,mem_bothL];grind
theorem mf_par (p q:Tm)(z:UInt8):z∈(Tm.par p q).free↔z∈p.free\/z∈q.free:=by
 simp only[Tm.free,mem_bothL];grind
theorem mf_own (x:UInt8)(p:Tm)(z:UInt8):z∈(Tm.own x p).free↔z∈p.free/\z≠x:=by
 simp only[Tm.free,mem_bothL,abN];grind
theorem mf_mat (a b:UInt8)(p:Tm)(z:UInt8):z∈(Tm.mat a b p).free↔z=a\/z=b\/z∈p.free:=by
 simp only[Tm.free,mem_addL,mem_bothL];grind
theorem mf_rep (p:Tm)(z:UInt8):z∈(Tm.rep p).free↔z∈p.free:=by
 simp only[Tm.free,mem_bothL];grind
theorem awj (z:UInt8):z∈Tm.nil.free↔False:=by simp[Tm.free]
theorem aqX (n:Nat):∀(k:Nat) (t:Tm) (o m:UInt8),t.size<=n->t.size<=k->ren n t o m=ren k t o m:=by
 induction n with
 | zero=>intro k t o m h;have:=aao t;omega
 | succ n ih=>
  intro k t o m hn hk
  cases k with
  | zero=>have:=aao t;omega
  | succ k=>
   have hb:∀p x,p.size<=n->p.size<=k->ah1 n p x o m=ah1 k p x o m:=by
    intro p x h1 h2;unfold ah1
    split<;>split
    ·exact ih _ _ _ _ h1 h2
    ·rfl
    ·rw[ih k p x _ h1 h2];exact ih _ _ _ _ (by rw[(ahb _ _ _ _).2];exact h1) (by rw[(ahb _ _ _ _).2];exact h2)
    ·exact ih _ _ _ _ h1 h2
   unfold ren
   split
   ·rfl
   ·cases t with
    | nil=>rfl
    | snd a b p=>simp only[Tm.size]at hn hk;simp only[ih k p o m (by omega) (by omega)]
    | rcv a x p=>simp only[Tm.size]at hn hk;have h:=hb p x (by omega) (by omega);unfold ah1 at h;simp only[h]
    | tau p=>simp only[Tm.size]at hn hk;simp only[ih k p o m (by omega) (by omega)]
    | sum p q=>simp only[Tm.size]at hn hk;simp only[ih k p o m (by omega) (by omega),ih k q o m (by omega) (by omega)]
    | par p q=>simp only[Tm.size]at hn hk;simp only[ih k p o m (by omega) (by omega),ih k q o m (by omega) (by omega)]
    | own x p=>simp only[Tm.size]at hn hk;have h:=hb p x (by omega) (by omega);unfold ah1 at h;simp only[h]
    | mat a b p=>simp only[Tm.size]at hn hk;simp only[ih k p o m (by omega) (by omega)]
    | rep p=>simp only[Tm.size]at hn hk;simp only[ih k p o m (by omega) (by omega)]
def R (t:Tm)(o m:UInt8):Tm:=ren t.size t o m
theorem R_size (t:Tm)(o m:UInt8):(R t o m).size=t.size:=(ahb _ _ _ _).2
theorem acV (t:Tm)(o m:UInt8):(R t o m).pr.length=t.pr.length:=(ahb _ _ _ _).1
theorem ae4 {n:Nat}{t:Tm}(h:t.size<=n)(o m:UInt8):ren n t o m=R t o m:=aqX _ _ _ _ _ h (nl _)
theorem abk (t:Tm)(o m:UInt8)(h:o=m\/o∉t.free):R t o m=t:=aqq _ _ _ _ h
def RB (p:Tm)(x o m:UInt8):Tm:=if capX p x o m=o then (if x=m/\o∈p.free then R p x (capX p x o m) else p) else R (if x=m/\o∈p.free then R p x (capX p x o m) else p) o m
theorem anZ {n:Nat}{p:Tm}(h:p.size<=n)(x o m:UInt8):ah1 n p x o m=RB p x o m:=by
 unfold ah1 RB
 split<;>split
 ·rw[ae4 h]
 ·rfl
 ·rw[ae4 h,ae4 (by rw[R_size];exact h)]
 ·rw[ae4 h]
section
variable {o m:UInt8}
theorem aet {a b:UInt8}{p:Tm}(h:¬(o=m\/o∉(Tm.snd a b p).free)):R (.snd a b p) o m=.snd (sw a o m) (sw b o m) (R p o m):=by
 show ren (p.size+1) _ _ _=_;unfold ren;rw[if_neg h];simp only[ae4 (nl p.size)]
theorem aeu {a b:UInt8}{p:Tm}(h:¬(o=m\/o∉(Tm.mat a b p).free)):R (.mat a b p) o m=.mat (sw a o m) (sw b o m) (R p o m):=by
 show ren (p.size+1) _ _ _=_;unfold ren;rw[if_neg h];simp only[ae4 (nl p.size)]
theorem ae5 {a x:UInt8}{p:Tm}(h:¬(o=m\/o∉(Tm.rcv a x p).free)):R (.rcv a x p) o m=.rcv (sw a o m) (capX p x o m) (RB p x o m):=by
 show ren (p.size+1) _ _ _=_;rw[<-anZ (nl p.size)];unfold ren ah1;rw[if_neg h]
theorem afx {x:UInt8}{p:Tm}(h:¬(o=m\/o∉(Tm.own x p).free)):R (.own x p) o m=.own (capX p x o m) (RB p x o m):=by
 show ren (p.size+1) _ _ _=_;rw[<-anZ (nl p.size)];unfold ren ah1;rw[if_neg h]
theorem aev {p:Tm}(h:¬(o=m\/o∉(Tm.tau p).free)):R (.tau p) o m=.tau (R p o m):=by
 show ren (p.size+1) _ _ _=_;unfold ren;rw[if_neg h];simp only[ae4 (nl p.size)]
theorem aew {p:Tm}(h:¬(o=m\/o∉(Tm.rep p).free)):R (.rep p) o m=.rep (R p o m):=by
 show ren (p.size+1) _ _ _=_;unfold ren;rw[if_neg h];simp only[ae4 (nl p.size)]
theorem adI {p q:Tm}(h:¬(o=m\/o∉(Tm.sum p q).free)):R (.sum p q) o m=.sum (R p o m) (R q o m):=by
 show ren (p.size+q.size+1) _ _ _=_;unfold ren;rw[if_neg h];simp only[ae4 (Nat.le_add_right p.size q.size),ae4 (Nat.le_add_left q.size p.size)]
theorem ae6 {p q:Tm}(h:¬(o=m\/o∉(Tm.par p q).free)):R (.par p q) o m=.par (R p o m) (R q o m):=by
 show ren (p.size+q.size+1) _ _ _=_;unfold ren;rw[if_neg h];simp only[ae4 (Nat.le_add_right p.size q.size),ae4 (Nat.le_add_left q.size p.size)]
end
def Tm.bdp:Tm->Nat
 | .nil=>0
 | .snd _ _ p=>p.bdp
 | .rcv _ _ p=>p.bdp+1
 | .tau p=>p.bdp
 | .sum p q=>max p.bdp q.bdp
 | .par p q=>max p.bdp q.bdp
 | .own _ p=>p.bdp+1
 | .mat _ _ p=>p.bdp
 | .rep p=>p.bdp
theorem an0 (t:Tm):t.bdp<=t.bnd.length:=by
 induction t<;>simp only[Tm.bdp,Tm.bnd,lla,List.length_cons,List.length_nil]<;>omega
theorem ajl (n:Nat):∀(t:Tm) (o m:UInt8),t.size<=n->(R t o m).bdp=t.bdp:=by
 induction n with
 | zero=>intro t o m h;have:=aao t;omega
 | succ n ih=>
  intro t o m hn
  by_cases h:o=m\/o∉t.free
  ·rw[abk _ _ _ h]
  ·have hb:∀p x,p.size<=n->(RB p x o m).bdp=p.bdp:=by
    intro p x h1;unfold RB
    split<;>split
    ·exact ih _ _ _ h1
    ·rfl
    ·rw[ih _ _ _ (by rw[R_size];exact h1)];exact ih _ _ _ h1
    ·exact ih _ _ _ h1
   cases t with
   | nil=>exact absurd (.inr (by simp[Tm.free])) h
   | snd a b p=>simp only[Tm.size]at hn;rw[aet h];exact ih _ _ _ (by omega)
   | rcv a x p=>simp only[Tm.size]at hn;rw[ae5 h];simp only[Tm.bdp];rw[hb p x (by omega)]
   | tau p=>simp only[Tm.size]at hn;rw[aev h];exact ih _ _ _ (by omega)
   | sum p q=>simp only[Tm.size]at hn;rw[adI h];simp only[Tm.bdp];rw[ih p _ _ (by omega),ih q _ _ (by omega)]
   | par p q=>simp only[Tm.size]at hn;rw[ae6 h];simp only[Tm.bdp];rw[ih p _ _ (by omega),ih q _ _ (by omega)]
   | own x p=>simp only[Tm.size]at hn;rw[afx h];simp only[Tm.bdp];rw[hb p x (by omega)]
   | mat a b p=>simp only[Tm.size]at hn;rw[aeu h];exact ih _ _ _ (by omega)
   | rep p=>simp only[Tm.size]at hn;rw[aew h];exact ih _ _ _ (by omega)
theorem acF:∀{m l:List UInt8},Srt l->Srt m->(∀z∈l,z∈m)->l.length<=m.length:=by
 intro m
 induction m with
 | nil=>intro l _ _ h;cases l with
  | nil=>simp
  | cons a l=>exact absurd (h a (by simp)) (by simp)
 | cons b m ih=>
  intro l hl hm h
  cases l with
  | nil=>simp
  | cons a l=>
   have hl':=List.pairwise_cons.1 hl;have hm':=List.pairwise_cons.1 hm
   by_cases e:a=b
   ·subst e
    have:=ih hl'.2 hm'.2 fun z hz=>by
     rcases List.mem_cons.1 (h z (List.mem_cons_of_mem _ hz)) with h1|h1
     ·have:=hl'.1 z hz;rw[h1,abT]at this;omega
     ·exact h1
    simp;exact this
   ·have ha:a∈m:=by
     rcases List.mem_cons.1 (h a (by simp)) with h1|h1
     ·exact absurd h1 e
     ·exact h1
    have hba:=hm'.1 a ha
    have:=ih hl hm'.2 fun z hz=>by
     rcases List.mem_cons.1 (h z hz) with h1|h1
     ·rcases List.mem_cons.1 hz with h2|h2
      ·exact absurd (h2▸h1) e
      ·have h3:=hl'.1 z h2;rw[h1]at h3;rw[abT]at h3 hba;omega
     ·exact h1
    simp only[List.length_cons]at this ⊢;omega
theorem abY (c:UInt8):∀(l:List UInt8),(addL l c).length<=l.length+1:=by
 intro l
 induction l with
 | nil=>simp[addL]
 | cons d l ih=>unfold addL;split<;>(try split)<;>simp only[List.length_cons]<;>omega
def Roomy (t:Tm)(o m:UInt8):Prop:=(bothL t.free [o,m]).length+t.bdp<=88
theorem aex (l:List UInt8)(o m z:UInt8):z∈bothL l [o,m]↔z∈l\/z=o\/z=m:=by rw[mem_bothL];simp
theorem abd {t p:Tm}{o m o' m':UInt8}(y:UInt8)(h:Roomy t o m)(hb:p.bdp+1<=t.bdp)(hs:∀z,z∈p.free\/z=o'\/z=m'->z∈t.free\/z=o\/z=m\/z=y):Roomy p o' m':=by
 unfold Roomy at h ⊢
 have h1:=acF (l:=bothL p.free [o',m']) (m:=addL (bothL t.free [o,m]) y) (aap _ (aav p)) (srt_addL (aap _ (aav t)) y) (fun z hz=>by
  rw[mem_addL,aex];have:=hs z ((aex _ _ _ _).1 hz)
  grind)
 have h2:=abY y (bothL t.free [o,m]);omega
theorem aaE {t p:Tm}{o m o' m':UInt8}(h:Roomy t o m)(hb:p.bdp<=t.bdp)(hs:∀z,z∈p.free\/z=o'\/z=m'->z∈t.free\/z=o\/z=m):Roomy p o' m':=by
 unfold Roomy at h ⊢
 have h1:=acF (l:=bothL p.free [o',m']) (m:=bothL t.free [o,m]) (aap _ (aav p)) (aap _ (aav t)) (fun z hz=>by
  rw[aex]
  exact hs z ((aex _ _ _ _).1 hz))
 omega
def awk:List UInt8:=(List.range 26).map (fun i=>UInt8.ofNat (97+i))++(List.range 63).map (fun i=>UInt8.ofNat (128+i))
theorem aqY:Srt awk:=by unfold Srt awk;decide +kernel
theorem an1 {s:List UInt8}(hs:Srt s)(hl:s.length<=88):fresh s∉s:=by
 rcases fresh_cases s with⟨k,h1,_,h3,h4⟩|⟨h0,⟨k,h1,_,h3,h4⟩|⟨h1,h4⟩⟩
 ·rw[h4];exact h3
 ·rw[h4];exact h3
 ·have:=acF aqY hs (fun z hz=>by
   unfold awk at hz;rcases lma.1 hz with h|h
   ·obtain⟨i,hi,rfl⟩:=List.mem_map.1 h;exact h0 i (List.mem_range.1 hi)
   ·obtain⟨i,hi,rfl⟩:=List.mem_map.1 h;exact h1 i (List.mem_range.1 hi))
  have h2:awk.length=89:=by unfold awk;decide +kernel
  omega
theorem afy {p t:Tm}{x o m:UInt8}(hr:Roomy t o m)(hb:p.bdp+1<=t.bdp)(hs:∀z,z∈p.free->z=x\/z∈t.free)(hc:x=m/\o∈p.free) : capX p x o m∉p.free/\capX p x o m≠o/\capX p x o m≠m:=by
 unfold capX;rw[if_pos hc]
 have h:=an1 (s:=bothL p.free [o,m]) (aap _ (aav p)) (by
  unfold Roomy at hr
  have h1:=acF (l:=bothL p.free [o,m]) (m:=bothL t.free [o,m]) (aap _ (aav p)) (aap _ (aav t)) (fun z hz=>by
   rw[aex]at hz ⊢;have:=hs z
   grind)
  omega)
 rw[aex]at h
 grind
theorem R_free (n:Nat):∀(t:Tm) (o m:UInt8),t.size<=n->Roomy t o m->o≠m->∀z,z∈(R t o m).free↔(z∈t.free/\z≠o)\/(z=m/\o∈t.free):=by
 induction n with
 | zero=>intro t o m h;have:=aao t;omega
 | succ n ih=>
  intro t o m hn hr hne z
  by_cases h:o=m\/o∉t.free
  ·rw[abk _ _ _ h];grind
  ·have hof:o∈t.free:=by grind
   -- the part of a sign that binds: what is free behind it,the bound one apart
   have hb:∀(p:Tm) (x:UInt8),p.size<=n->p.bdp+1<=t.bdp->(∀z,z∈p.free->z=x\/z∈t.free)->∀z,(z∈(RB p x o m).free/\z≠capX p x o m)↔(z∈p.free/\z≠x/\z≠o)\/(z=m/\o∈p.free/\o≠x):=by
    intro p x hp hbl hs z;unfold RB
    by_cases hc:x=m/\o∈p.free
    ·obtain⟨y1,y2,y3⟩:=afy hr hbl hs hc;rw[if_neg y2,if_pos hc];have r1:Roomy p x (capX p x o m):=abd (capX p x o m) hr hbl (fun z hz=>by have:=hs z;grind);have f1:=ih p x (capX p x o m) hp r1 (fun e=>y3 (e.symm.trans hc.1));have r2:Roomy (R p x (capX p x o m)) o m:=abd (capX p x o m) hr (by rw[ajl _ _ _ _ (nl _)];exact hbl) (fun z hz=>by have:=hs z;have:=f1 z;grind);have f2:=ih (R p x (capX p x o m)) o m (by rw[R_size];exact hp) r2 hne z;have g1:=f1 z;have g2:=f1 o
     grind
    ·have hx:capX p x o m=x:=by unfold capX;rw[if_neg hc]
     rw[hx,if_neg hc]
     by_cases ho:x=o
     ·rw[if_pos ho];grind
     ·rw[if_neg ho];have r1:Roomy p o m:=abd x hr hbl (fun z hz=>by have:=hs z;grind);have f1:=ih p o m hp r1 hne z
      grind
   cases t with
   | nil=>simp[Tm.free]at hof
   | snd a b p=>
    simp only[Tm.size]at hn;have f:=ih p o m (by omega) (aaE hr (nl _) (fun z hz=>by rw[mf_snd];grind)) hne z;rw[aet h,mf_snd,mf_snd];rw[mf_snd]at hof;unfold sw;rw[f];grind [mf_snd]
   | mat a b p=>
    simp only[Tm.size]at hn;have f:=ih p o m (by omega) (aaE hr (nl _) (fun z hz=>by rw[mf_mat];grind)) hne z;rw[aeu h,mf_mat,mf_mat];rw[mf_mat]at hof;unfold sw;rw[f];grind [mf_mat]
   | rcv a x p=>
    simp only[Tm.size]at hn;have f:=hb p x (by omega) (by simp only[Tm.bdp];try omega) (fun z hz=>by rw[mf_rcv];grind) z;rw[ae5 h,mf_rcv,mf_rcv,f];rw[mf_rcv]at hof;unfold sw;grind [mf_rcv]
   | own x p=>
    simp only[Tm.size]at hn;have f:=hb p x (by omega) (by simp only[Tm.bdp];try omega) (fun z hz=>by rw[mf_own];grind) z;rw[afx h,mf_own,mf_own,f];rw[mf_own]at hof;grind [mf_own]
   | tau p=>
    simp only[Tm.size]at hn;have f:=ih p o m (by omega) (aaE hr (nl _) (fun z hz=>by rw[mf_tau];grind)) hne z;rw[aev h,mf_tau,mf_tau,f];grind [mf_tau]
   | rep p=>
    simp only[Tm.size]at hn;have f:=ih p o m (by omega) (aaE hr (nl _) (fun z hz=>by rw[mf_rep];grind)) hne z;rw[aew h,mf_rep,mf_rep,f];grind [mf_rep]
   | sum p q=>
    simp only[Tm.size]at hn;have f:=ih p o m (by omega) (aaE hr (by simp only[Tm.bdp];try omega) (fun z hz=>by rw[mf_sum];grind)) hne z;have g:=ih q o m (by omega) (aaE hr (by simp only[Tm.bdp];try omega) (fun z hz=>by rw[mf_sum];grind)) hne z;rw[adI h,mf_sum,mf_sum,f,g];grind [mf_sum]
   | par p q=>
    simp only[Tm.size]at hn;have f:=ih p o m (by omega) (aaE hr (by simp only[Tm.bdp];try omega) (fun z hz=>by rw[mf_par];grind)) hne z;have g:=ih q o m (by omega) (aaE hr (by simp only[Tm.bdp];try omega) (fun z hz=>by rw[mf_par];grind)) hne z;rw[ae6 h,mf_par,mf_par,f,g];grind [mf_par]
def Tm.strip:Tm->Tm
 | .mat a b p=>if a=b then p.strip else .mat a b p
 | t=>t
def Tm.dead:Tm->Bool
 | .nil=>true
 | .snd _ _ _=>false
 | .rcv _ _ _=>false
 | .tau _=>false
 | .sum p q=>p.dead && q.dead
 | .par p q=>p.dead && q.dead
 | .own _ p=>p.dead
 | .mat _ _ p=>p.dead
 | .rep p=>p.dead
def Tm.usd:Tm->List UInt8
 | .nil=>[]
 | .snd a b p=>addL (addL (bothL [] p.usd) a) b
 | .rcv a x p=>addL (abI (bothL [] p.usd) x) a
 | .tau p=>bothL [] p.usd
 | .sum p q=>if p.dead && q.dead then [] else bothL (bothL [] p.usd) q.usd
 | .par p q=>if p.dead && q.dead then [] else bothL (bothL [] p.usd) q.usd
 | .own x p=>if p.dead then [] else abI (bothL [] p.usd) x
 | .mat a b p=>if a=b then p.usd else if p.dead then [] else addL (addL (bothL [] p.usd) a) b
 | .rep p=>if p.dead then [] else bothL [] p.usd
def Tm.peel:Tm->Tm
 | .mat a b p=>if a=b then p.peel else .mat a b p
 | .sum p q=>if p.dead then q.peel else if q.dead then p.peel else .sum p q
 | .par p q=>if p.dead then q.peel else if q.dead then p.peel else .par p q
 | .own x p=>if x∈p.usd then .own x p else p.peel
 | t=>t
theorem agP (t:Tm):t.strip.dead=t.dead:=by
 induction t with
 | mat a b p ih=>unfold Tm.strip;split;(rw[ih];rfl);rfl
 | _=>rfl
theorem afz (t:Tm):(∀nm,t.ok nm=true->t.strip.ok nm=true)/\t.strip.pr.length<=t.pr.length/\t.strip.size<=t.size/\t.strip.bnd.length<=t.bnd.length/\(∀z,z∈t.strip.free->z∈t.free):=by
 induction t with
 | mat a b p ih=>
  unfold Tm.strip
  split
  ·refine⟨fun nm h=>ih.1 nm (by simp only[Tm.ok,bae]at h;exact h.2),?_,?_,?_,?_⟩
   ·simp only[Tm.pr,List.length_cons];omega
   ·simp only[Tm.size];omega
   ·exact ih.2.2.2.1
   ·intro z hz;rw[mf_mat];exact .inr (.inr (ih.2.2.2.2 z hz))
  ·exact⟨fun _ h=>h,nl _,nl _,nl _,fun _ h=>h⟩
 | _=>exact⟨fun _ h=>h,nl _,nl _,nl _,fun _ h=>h⟩
theorem afA (t:Tm):t.strip.usd=t.usd:=by
 induction t with
 | mat a b p ih=>
  unfold Tm.strip
  split
  ·rename_i h;rw[ih];simp only[Tm.usd];rw[if_pos h]
  ·rfl
 | _=>rfl
theorem ahl (t:Tm):∀a p,t.strip≠.mat a a p:=by
 induction t with
 | mat a b p ih=>
  intro c q;unfold Tm.strip
  split
  ·exact ih c q
  ·rename_i h;intro e;injection e with e1 e2 e3;exact h (e1.trans e2.symm)
 | _=>intro c q e;cases e
theorem abo (t:Tm):Srt t.usd:=by
 induction t with
 | nil=>exact aay
 | snd a b p ih=>exact srt_addL (srt_addL (aap _ aay) a) b
 | rcv a x p ih=>exact srt_addL (ab7 (aap _ aay) x) a
 | tau p ih=>exact aap _ aay
 | sum p q ih ih2=>unfold Tm.usd;split;exact aay;exact aap _ (aap _ aay)
 | par p q ih ih2=>unfold Tm.usd;split;exact aay;exact aap _ (aap _ aay)
 | own x p ih=>unfold Tm.usd;split;exact aay;exact ab7 (aap _ aay) x
 | mat a b p ih=>unfold Tm.usd;split;exact ih;split;exact aay;exact srt_addL (srt_addL (aap _ aay) a) b
 | rep p ih=>unfold Tm.usd;split;exact aay;exact aap _ aay
theorem alO (t:Tm):t.strip.peel=t.peel:=by
 induction t with
 | mat a b p ih=>
  unfold Tm.strip
  split
  ·rename_i h;rw[ih];simp only[Tm.peel];rw[if_pos h]
  ·rfl
 | _=>rfl
theorem abm (t:Tm):(∀nm,t.ok nm=true->t.peel.ok nm=true)/\t.peel.pr.length<=t.pr.length/\t.peel.size<=t.size/\t.peel.bnd.length<=t.bnd.length:=by
 induction t with
 | mat a b p ih=>
  unfold Tm.peel
  split
  ·exact⟨fun nm h=>ih.1 nm (by simp only[Tm.ok,bae]at h;exact h.2),by simp only[Tm.pr,List.length_cons];omega,by simp only[Tm.size];omega,by simp only[Tm.bnd];omega⟩
  ·exact⟨fun _ h=>h,nl _,nl _,nl _⟩
 | sum p q ih ih2=>
  unfold Tm.peel
  split
  ·exact⟨fun nm h=>ih2.1 nm (by simp only[Tm.ok,bae]at h;exact h.2),by simp only[Tm.pr,List.length_cons,lla];omega,by simp only[Tm.size];omega,by simp only[Tm.bnd,lla];omega⟩
  ·split
   ·exact⟨fun nm h=>ih.1 nm (by simp only[Tm.ok,bae]at h;exact h.1),by simp only[Tm.pr,List.length_cons,lla];omega,by simp only[Tm.size];omega,by simp only[Tm.bnd,lla];omega⟩
   ·exact⟨fun _ h=>h,nl _,nl _,nl _⟩
 | par p q ih ih2=>
  unfold Tm.peel
  split
  ·exact⟨fun nm h=>ih2.1 nm (by simp only[Tm.ok,bae]at h;exact h.2),by simp only[Tm.pr,List.length_cons,lla];omega,by simp only[Tm.size];omega,by simp only[Tm.bnd,lla];omega⟩
  ·split
   ·exact⟨fun nm h=>ih.1 nm (by simp only[Tm.ok,bae]at h;exact h.1),by simp only[Tm.pr,List.length_cons,lla];omega,by simp only[Tm.size];omega,by simp only[Tm.bnd,lla];omega⟩
   ·exact⟨fun _ h=>h,nl _,nl _,nl _⟩
 | own x p ih=>
  unfold Tm.peel
  split
  ·exact⟨fun _ h=>h,nl _,nl _,nl _⟩
  ·exact⟨fun nm h=>ih.1 nm (by simp only[Tm.ok,bae]at h;exact h.2),by simp only[Tm.pr,List.length_cons];omega,by simp only[Tm.size];omega,by simp only[Tm.bnd,List.length_cons];omega⟩
 | _=>exact⟨fun _ h=>h,nl _,nl _,nl _⟩
def Tm.sums:Nat->Tm->List Tm
 | 0,_=>[]
 | n+1,t=>match t.peel with
  | .sum p q=>Tm.sums n p++Tm.sums n q
  | u=>if u.dead then [] else [u]
def joinR (c:Tm->Tm->Tm):List Tm->Tm
 | []=>.nil
 | [t]=>t
 | t::ts=>c t (joinR c ts)
theorem dead_usd (t:Tm):t.dead=true->t.usd=[]:=by
 induction t with
 | nil=>intro _;rfl
 | snd a b p ih=>intro h;cases h
 | rcv a x p ih=>intro h;cases h
 | tau p ih=>intro h;cases h
 | sum p q ih ih2=>intro h;unfold Tm.usd;exact if_pos h
 | par p q ih ih2=>intro h;unfold Tm.usd;exact if_pos h
 | own x p ih=>intro h;unfold Tm.usd;exact if_pos h
 | mat a b p ih=>
  intro h;unfold Tm.usd;split
  ·exact ih h
  ·exact if_pos h
 | rep p ih=>intro h;unfold Tm.usd;exact if_pos h
theorem mu_snd (a b:UInt8)(p:Tm)(z:UInt8):z∈(Tm.snd a b p).usd↔z=a\/z=b\/z∈p.usd:=by
 show z∈addL (addL (bothL [] p.usd) a) b↔_;rw[mem_addL,mem_addL,mem_bothL];grind
theorem mu_rcv (a x:UInt8)(p:Tm)(z:UInt8):z∈(Tm.rcv a x p).usd↔z=a\/(z∈p.usd/\z≠x):=by
 show z∈addL (abI (bothL [] p.usd) x) a↔_;rw[mem_addL,abN,mem_bothL];grind
theorem mu_tau (p:Tm)(z:UInt8):z∈(Tm.tau p).usd↔z∈p.usd:=by
 show z∈bothL [] p.usd↔_;rw[mem_bothL];simp
theorem mu_rep (p:Tm)(z:UInt8):z∈(Tm.rep p).usd↔z∈p.usd:=by
 show z∈(if p.dead then [] else bothL [] p.usd)↔_;split
 ·rename_i h;rw[dead_usd _ h]
 ·rw[mem_bothL];simp
theorem mu_sum (p q:Tm)(z:UInt8):z∈(Tm.sum p q).usd↔z∈p.usd\/z∈q.usd:=by
 show z∈(if p.dead && q.dead then [] else bothL (bothL [] p.usd) q.usd)↔_;split
 ·rename_i h;rw[bae]at h;rw[dead_usd _ h.1,dead_usd _ h.2];simp
 ·rw[mem_bothL,mem_bothL];simp
theorem mu_par (p q:Tm)(z:UInt8):z∈(Tm.par p q).usd↔z∈p.usd\/z∈q.usd:=by
 show z∈(if p.dead && q.dead then [] else bothL (bothL [] p.usd) q.usd)↔_;split
 ·rename_i h;rw[bae]at h;rw[dead_usd _ h.1,dead_usd _ h.2];simp
 ·rw[mem_bothL,mem_bothL];simp
theorem mu_own (x:UInt8)(p:Tm)(z:UInt8):z∈(Tm.own x p).usd↔z∈p.usd/\z≠x:=by
 show z∈(if p.dead then [] else abI (bothL [] p.usd) x)↔_;split
 ·rename_i h;rw[dead_usd _ h];simp
 ·rw[abN,mem_bothL];simp
theorem mu_mat (a b:UInt8)(p:Tm)(z:UInt8):z∈(Tm.mat a b p).usd↔(a=b/\z∈p.usd)\/(a≠b/\p.dead=false/\(z=a\/z=b\/z∈p.usd)):=by
 show z∈(if a=b then p.usd else if p.dead then [] else addL (addL (bothL [] p.usd) a) b)↔_;split
 ·rename_i h;simp[h]
 ·rename_i h;split
  ·rename_i h2;simp[h,h2]
  ·rename_i h2;rw[mem_addL,mem_addL,mem_bothL]
   have:p.dead=false:=by simpa using h2
   simp[h,this];grind
theorem usd_free (t:Tm):∀z,z∈t.usd->z∈t.free:=by
 induction t with
 | nil=>intro z h;simp[Tm.usd]at h
 | snd a b p ih=>intro z h;rw[mu_snd]at h;rw[mf_snd];have:=ih z;grind
 | rcv a x p ih=>intro z h;rw[mu_rcv]at h;rw[mf_rcv];have:=ih z;grind
 | tau p ih=>intro z h;rw[mu_tau]at h;rw[mf_tau];exact ih z h
 | sum p q ih ih2=>intro z h;rw[mu_sum]at h;rw[mf_sum];have:=ih z;have:=ih2 z;grind
 | par p q ih ih2=>intro z h;rw[mu_par]at h;rw[mf_par];have:=ih z;have:=ih2 z;grind
 | own x p ih=>intro z h;rw[mu_own]at h;rw[mf_own];have:=ih z;grind
 | mat a b p ih=>intro z h;rw[mu_mat]at h;rw[mf_mat];have:=ih z;grind
 | rep p ih=>intro z h;rw[mu_rep]at h;rw[mf_rep];exact ih z h
def bdE (E:UInt8->UInt8->Prop)(x x':UInt8):UInt8->UInt8->Prop:=fun u v=>(u=x/\v=x')\/(u≠x/\v≠x'/\E u v)
def sbE (E:UInt8->UInt8->Prop)(o m:UInt8):UInt8->UInt8->Prop:=fun u v=>(u=m/\E o v)\/(u≠m/\u≠o/\E u v)
def Sm:Tm->(UInt8->UInt8->Prop)->Tm->Prop
 | .nil,_,s=>s=.nil
 | .snd a b p,E,s=>∃a' b' p',s=.snd a' b' p'/\E a a'/\E b b'/\Sm p E p'
 | .rcv a x p,E,s=>∃a' x' p',s=.rcv a' x' p'/\E a a'/\Sm p (bdE E x x') p'
 | .tau p,E,s=>∃p',s=.tau p'/\Sm p E p'
 | .sum p q,E,s=>if p.dead then Sm q E s else if q.dead then Sm p E s else ∃p' q',s=.sum p' q'/\Sm p E p'/\Sm q E q'
 | .par p q,E,s=>if p.dead then Sm q E s else if q.dead then Sm p E s else ∃p' q',s=.par p' q'/\Sm p E p'/\Sm q E q'
 | .own x p,E,s=>if x∈p.usd then ∃x' p',s=.own x' p'/\Sm p (bdE E x x') p' else Sm p E s
 | .mat a b p,E,s=>if a=b then Sm p E s else if p.dead then s=.nil else ∃a' b' p',s=.mat a' b' p'/\E a a'/\E b b'/\Sm p E p'
 | .rep p,E,s=>if p.dead then s=.nil else ∃p',s=.rep p'/\Sm p E p'
theorem aey (t:Tm):∀(E:UInt8->UInt8->Prop) (s:Tm),t.dead=true->Sm t E s->s=.nil:=by
 induction t with
 | nil=>intro E s _ h;exact h
 | snd a b p ih=>intro E s h;cases h
 | rcv a x p ih=>intro E s h;cases h
 | tau p ih=>intro E s h;cases h
 | sum p q ih ih2=>
  intro E s h hs;simp only[Tm.dead,bae]at h;unfold Sm at hs;rw[if_pos h.1]at hs;exact ih2 E s h.2 hs
 | par p q ih ih2=>
  intro E s h hs;simp only[Tm.dead,bae]at h;unfold Sm at hs;rw[if_pos h.1]at hs;exact ih2 E s h.2 hs
 | own x p ih=>
  intro E s h hs;have h':p.dead=true:=h;unfold Sm at hs;rw[if_neg (by rw[dead_usd p h'];simp)]at hs;exact ih E s h' hs
 | mat a b p ih=>
  intro E s h hs;have h':p.dead=true:=h;unfold Sm at hs
  split at hs
  ·exact ih E s h' hs
  ·first|exact hs|(rw[if_pos h']at hs;exact hs)
 | rep p ih=>
  intro E s h hs;have h':p.dead=true:=h;unfold Sm at hs;rw[if_pos h']at hs;exact hs
theorem akc (t:Tm)(E:UInt8->UInt8->Prop)(h:t.dead=true):Sm t E .nil:=by
 induction t generalizing E with
 | nil=>rfl
 | snd a b p ih=>cases h
 | rcv a x p ih=>cases h
 | tau p ih=>cases h
 | sum p q ih ih2=>
  simp only[Tm.dead,bae]at h;unfold Sm;rw[if_pos h.1];exact ih2 E h.2
 | par p q ih ih2=>
  simp only[Tm.dead,bae]at h;unfold Sm;rw[if_pos h.1];exact ih2 E h.2
 | own x p ih=>
  have h':p.dead=true:=h;unfold Sm;rw[if_neg (by rw[dead_usd p h'];simp)];exact ih E h'
 | mat a b p ih=>
  have h':p.dead=true:=h;unfold Sm;split
  ·exact ih E h'
  ·first|rfl|rw[if_pos h']
 | rep p ih=>
  have h':p.dead=true:=h;unfold Sm;rw[if_pos h']
theorem akd {E F:UInt8->UInt8->Prop}{l k:List UInt8}{x x':UInt8}(h:∀u v,u∈l->E u v->F u v)(hk:∀u,u∈k->u≠x->u∈l):∀u v,u∈k->bdE E x x' u v->bdE F x x' u v:=by
 intro u v hu hb;rcases hb with hb|⟨h1,h2,h3⟩
 ·exact .inl hb
 ·exact .inr ⟨h1,h2,h u v (hk u hu h1) h3⟩
theorem aaV (t:Tm):∀(E F:UInt8->UInt8->Prop) (s:Tm),(∀u v,u∈t.usd->E u v->F u v)->Sm t E s->Sm t F s:=by
 induction t with
 | nil=>intro E F s _ h;exact h
 | snd a b p ih=>
  rintro E F s h ⟨a',b',p',rfl,h1,h2,h3⟩;exact⟨a',b',p',rfl,h _ _ (by rw[mu_snd];simp) h1,h _ _ (by rw[mu_snd];simp) h2,ih E F p' (fun u v hu=>h u v (by rw[mu_snd];simp[hu])) h3⟩
 | rcv a x p ih=>
  rintro E F s h ⟨a',x',p',rfl,h1,h3⟩;exact⟨a',x',p',rfl,h _ _ (by rw[mu_rcv];simp) h1,ih _ _ p' (akd h (fun u hu hx=>by rw[mu_rcv];exact .inr ⟨hu,hx⟩)) h3⟩
 | tau p ih=>
  rintro E F s h ⟨p',rfl,h3⟩;exact⟨p',rfl,ih E F p' (fun u v hu=>h u v (by rw[mu_tau];exact hu)) h3⟩
 | sum p q ih ih2=>
  intro E F s h hs;have hp:∀u v,u∈p.usd->E u v->F u v:=fun u v hu=>h u v (by rw[mu_sum];exact .inl hu);have hq:∀u v,u∈q.usd->E u v->F u v:=fun u v hu=>h u v (by rw[mu_sum];exact .inr hu);unfold Sm at hs ⊢
  split at hs
  ·rename_i c;rw[if_pos c];exact ih2 E F s hq hs
  ·rename_i c;rw[if_neg c]
   split at hs
   ·rename_i c;rw[if_pos c];exact ih E F s hp hs
   ·rename_i c;rw[if_neg c]
    obtain⟨p',q',e,h1,h2⟩:=hs;exact⟨p',q',e,ih E F p' hp h1,ih2 E F q' hq h2⟩
 | par p q ih ih2=>
  intro E F s h hs;have hp:∀u v,u∈p.usd->E u v->F u v:=fun u v hu=>h u v (by rw[mu_par];exact .inl hu);have hq:∀u v,u∈q.usd->E u v->F u v:=fun u v hu=>h u v (by rw[mu_par];exact .inr hu);unfold Sm at hs ⊢
  split at hs
  ·rename_i c;rw[if_pos c];exact ih2 E F s hq hs
  ·rename_i c;rw[if_neg c]
   split at hs
   ·rename_i c;rw[if_pos c];exact ih E F s hp hs
   ·rename_i c;rw[if_neg c]
    obtain⟨p',q',e,h1,h2⟩:=hs;exact⟨p',q',e,ih E F p' hp h1,ih2 E F q' hq h2⟩
 | own x p ih=>
  intro E F s h hs;unfold Sm at hs ⊢
  split at hs
  ·rename_i c;rw[if_pos c]
   obtain⟨x',p',e,h1⟩:=hs;exact⟨x',p',e,ih _ _ p' (akd h (fun u hu hx=>by rw[mu_own];exact⟨hu,hx⟩)) h1⟩
  ·rename_i c;rw[if_neg c]
   exact ih E F s (fun u v hu=>h u v (by rw[mu_own];exact⟨hu,fun e=>c (e▸hu)⟩)) hs
 | mat a b p ih=>
  intro E F s h hs;unfold Sm at hs ⊢
  split at hs
  ·rename_i c;rw[if_pos c];exact ih E F s (fun u v hu=>h u v (by rw[mu_mat];exact .inl ⟨c,hu⟩)) hs
  ·rename_i c;rw[if_neg c]
   split at hs
   ·rename_i d;rw[if_pos d];exact hs
   ·rename_i d;rw[if_neg d]
    have d':p.dead=false:=by simpa using d
    obtain⟨a',b',p',e,h1,h2,h3⟩:=hs;exact⟨a',b',p',e,h _ _ (by rw[mu_mat];exact .inr ⟨c,d',.inl rfl⟩) h1,h _ _ (by rw[mu_mat];exact .inr ⟨c,d',.inr (.inl rfl)⟩) h2,ih E F p' (fun u v hu=>h u v (by rw[mu_mat];exact .inr ⟨c,d',.inr (.inr hu)⟩)) h3⟩
 | rep p ih=>
  intro E F s h hs;unfold Sm at hs ⊢
  split at hs
  ·rename_i c;rw[if_pos c];exact hs
  ·rename_i c;rw[if_neg c]
   obtain⟨p',e,h1⟩:=hs;exact⟨p',e,ih E F p' (fun u v hu=>h u v (by rw[mu_rep];exact hu)) h1⟩
theorem awl (n:Nat):∀(t:Tm) (o m:UInt8),t.size<=n->(R t o m).dead=t.dead:=by
 induction n with
 | zero=>intro t o m h;have:=aao t;omega
 | succ n ih=>
  intro t o m hn
  by_cases h:o=m\/o∉t.free
  ·rw[abk _ _ _ h]
  ·have hb:∀p x,p.size<=n->(RB p x o m).dead=p.dead:=by
    intro p x h1;unfold RB
    split<;>split
    ·exact ih _ _ _ h1
    ·rfl
    ·rw[ih _ _ _ (by rw[R_size];exact h1)];exact ih _ _ _ h1
    ·exact ih _ _ _ h1
   cases t with
   | nil=>exact absurd (.inr (by simp[Tm.free])) h
   | snd a b p=>rw[aet h];rfl
   | rcv a x p=>rw[ae5 h];rfl
   | tau p=>rw[aev h];rfl
   | sum p q=>simp only[Tm.size]at hn;rw[adI h];simp only[Tm.dead];rw[ih p _ _ (by omega),ih q _ _ (by omega)]
   | par p q=>simp only[Tm.size]at hn;rw[ae6 h];simp only[Tm.dead];rw[ih p _ _ (by omega),ih q _ _ (by omega)]
   | own x p=>simp only[Tm.size]at hn;rw[afx h];simp only[Tm.dead];rw[hb p x (by omega)]
   | mat a b p=>simp only[Tm.size]at hn;rw[aeu h];simp only[Tm.dead];exact ih _ _ _ (by omega)
   | rep p=>simp only[Tm.size]at hn;rw[aew h];simp only[Tm.dead];exact ih _ _ _ (by omega)
theorem abR (t:Tm)(o m:UInt8):(R t o m).dead=t.dead:=awl _ t o m (nl _)
theorem ahm (n:Nat):∀(t:Tm) (o m:UInt8),t.size<=n->Roomy t o m->o≠m->m∉t.usd->∀z,z∈(R t o m).usd↔(z∈t.usd/\z≠o)\/(z=m/\o∈t.usd):=by
 induction n with
 | zero=>intro t o m h;have:=aao t;omega
 | succ n ih=>
  intro t o m hn hr hne hm z
  by_cases h:o=m\/o∉t.free
  ·rw[abk _ _ _ h];have:=usd_free t o;grind
  ·have hof:o∈t.free:=by grind
   have hb:∀(p:Tm) (x:UInt8),p.size<=n->p.bdp+1<=t.bdp->(∀z,z∈p.free->z=x\/z∈t.free)->(m∈p.usd->m=x)->(∀z,(z∈(RB p x o m).usd/\z≠capX p x o m)↔(z∈p.usd/\z≠x/\z≠o)\/(z=m/\o∈p.usd/\o≠x)):=by
    intro p x hp hbl hs hmx z;unfold RB
    by_cases hc:x=m/\o∈p.free
    ·obtain⟨y1,y2,y3⟩:=afy hr hbl hs hc;rw[if_neg y2,if_pos hc];have y4:capX p x o m∉p.usd:=fun e=>y1 (usd_free p _ e);have r1:Roomy p x (capX p x o m):=abd (capX p x o m) hr hbl (fun z hz=>by have:=hs z;grind);have hxy:x≠capX p x o m:=fun e=>y3 (e.symm.trans hc.1);have f1:=ih p x (capX p x o m) hp r1 hxy y4;have k1:=R_free p.size p x (capX p x o m) (nl _) r1 hxy;have r2:Roomy (R p x (capX p x o m)) o m:=abd (capX p x o m) hr (by rw[ajl _ _ _ _ (nl _)];exact hbl) (fun z hz=>by have:=hs z;have:=k1 z;grind);have f2:=ih (R p x (capX p x o m)) o m (by rw[R_size];exact hp) r2 hne (by have:=f1 m;grind) z;have g1:=f1 z;have g2:=f1 o
     grind
    ·have hx:capX p x o m=x:=by unfold capX;rw[if_neg hc]
     rw[hx,if_neg hc]
     by_cases ho:x=o
     ·rw[if_pos ho];have:=usd_free p o;grind
     ·rw[if_neg ho]
      by_cases hmp:m∈p.usd
      ·have hxm:=hmx hmp;rw[abk p o m (.inr (by grind))];have:=usd_free p o;grind
      ·have r1:Roomy p o m:=abd x hr hbl (fun z hz=>by have:=hs z;grind);have f1:=ih p o m hp r1 hne hmp z;have:=usd_free p o
       grind
   cases t with
   | nil=>simp[Tm.free]at hof
   | snd a b p=>
    simp only[Tm.size]at hn;rw[mu_snd]at hm;have f:=ih p o m (by omega) (aaE hr (nl _) (fun z hz=>by rw[mf_snd];grind)) hne (by grind) z;rw[aet h,mu_snd,mu_snd,f,mu_snd];unfold sw;grind
   | mat a b p=>
    simp only[Tm.size]at hn;rw[mu_mat]at hm;have dd:=dead_usd p;rw[aeu h,mu_mat,mu_mat,mu_mat,abR]
    by_cases hd:p.dead=true
    ·have e1:p.usd=[]:=dead_usd p hd;have e2:(R p o m).usd=[]:=dead_usd _ (by rw[abR];exact hd);simp[hd,e1,e2]
    ·have hd':p.dead=false:=by simpa using hd
     have f:=ih p o m (by omega) (aaE hr (nl _) (fun z hz=>by rw[mf_mat];grind)) hne (by grind) z;rw[f];unfold sw;grind
   | rcv a x p=>
    simp only[Tm.size]at hn;rw[mu_rcv]at hm;have f:=hb p x (by omega) (by simp only[Tm.bdp];try omega) (fun z hz=>by rw[mf_rcv];grind) (by grind) z;rw[ae5 h,mu_rcv,mu_rcv,f,mu_rcv];unfold sw;grind
   | own x p=>
    simp only[Tm.size]at hn;rw[mu_own]at hm;have f:=hb p x (by omega) (by simp only[Tm.bdp];try omega) (fun z hz=>by rw[mf_own];grind) (by grind) z;rw[afx h,mu_own,mu_own,f,mu_own];grind
   | tau p=>
    simp only[Tm.size]at hn;rw[mu_tau]at hm;have f:=ih p o m (by omega) (aaE hr (nl _) (fun z hz=>by rw[mf_tau];grind)) hne hm z;rw[aev h,mu_tau,mu_tau,f,mu_tau]
   | rep p=>
    simp only[Tm.size]at hn;rw[mu_rep]at hm;have f:=ih p o m (by omega) (aaE hr (nl _) (fun z hz=>by rw[mf_rep];grind)) hne hm z;rw[aew h,mu_rep,mu_rep,f,mu_rep]
   | sum p q=>
    simp only[Tm.size]at hn;rw[mu_sum]at hm;have f:=ih p o m (by omega) (aaE hr (by simp only[Tm.bdp];try omega) (fun z hz=>by rw[mf_sum];grind)) hne (by grind) z;have g:=ih q o m (by omega) (aaE hr (by simp only[Tm.bdp];try omega) (fun z hz=>by rw[mf_sum];grind)) hne (by grind) z;rw[adI h,mu_sum,mu_sum,f,g,mu_sum];grind
   | par p q=>
    simp only[Tm.size]at hn;rw[mu_par]at hm;have f:=ih p o m (by omega) (aaE hr (by simp only[Tm.bdp];try omega) (fun z hz=>by rw[mf_par];grind)) hne (by grind) z;have g:=ih q o m (by omega) (aaE hr (by simp only[Tm.bdp];try omega) (fun z hz=>by rw[mf_par];grind)) hne (by grind) z;rw[ae6 h,mu_par,mu_par,f,g,mu_par];grind
theorem ax6 (n:Nat):∀(t:Tm) (o m:UInt8) (E:UInt8->UInt8->Prop) (s:Tm),t.size<=n->Roomy t o m->o≠m->m∉t.usd->Sm t E s->Sm (R t o m) (sbE E o m) s:=by
 induction n with
 | zero=>intro t o m E s h;have:=aao t;omega
 | succ n ih=>
  intro t o m E s hn hr hne hm hs
  by_cases h:o=m\/o∉t.free
  ·rw[abk _ _ _ h];refine aaV t E _ s (fun u v hu he=>.inr ⟨fun e=>hm (e▸hu),fun e=>?_,he⟩) hs;have:=usd_free t u hu;subst e;rcases h with h|h
   ·exact hne h
   ·exact h this
  ·have hof:o∈t.free:=by grind
   have hb:∀(p:Tm) (x x':UInt8) (p':Tm),p.size<=n->p.bdp+1<=t.bdp->(∀z,z∈p.free->z=x\/z∈t.free)->(m∈p.usd->m=x)->Sm p (bdE E x x') p'->Sm (RB p x o m) (bdE (sbE E o m) (capX p x o m) x') p':=by
    intro p x x' p' hp hbl hs hmx hS;unfold RB
    by_cases hc:x=m/\o∈p.free
    ·obtain⟨y1,y2,y3⟩:=afy hr hbl hs hc;rw[if_neg y2,if_pos hc];have y4:capX p x o m∉p.usd:=fun e=>y1 (usd_free p _ e);have r1:Roomy p x (capX p x o m):=abd (capX p x o m) hr hbl (fun z hz=>by have:=hs z;grind);have hxy:x≠capX p x o m:=fun e=>y3 (e.symm.trans hc.1);have f1:=ahm p.size p x (capX p x o m) (nl _) r1 hxy y4;have k1:=R_free p.size p x (capX p x o m) (nl _) r1 hxy;have r2:Roomy (R p x (capX p x o m)) o m:=abd (capX p x o m) hr (by rw[ajl _ _ _ _ (nl _)];exact hbl) (fun z hz=>by have:=hs z;have:=k1 z;grind);have s1:=ih p x (capX p x o m) _ p' hp r1 hxy y4 hS;have s2:=ih (R p x (capX p x o m)) o m _ p' (by rw[R_size];exact hp) r2 hne (by have:=f1 m;grind) s1;refine aaV _ _ _ _ (fun u v hu he=>?_) s2
     generalize capX p x o m=y at *
     unfold bdE sbE at *
     grind
    ·have hx:capX p x o m=x:=by unfold capX;rw[if_neg hc]
     rw[hx,if_neg hc]
     by_cases ho:x=o
     ·rw[if_pos ho];refine aaV _ _ _ _ (fun u v hu he=>?_) hS;unfold bdE sbE at *
      grind
     ·rw[if_neg ho]
      by_cases hmp:m∈p.usd
      ·have hxm:=hmx hmp;rw[abk p o m (.inr (by grind))];refine aaV _ _ _ _ (fun u v hu he=>?_) hS;have:=usd_free p u hu;unfold bdE sbE at *
       grind
      ·have r1:Roomy p o m:=abd x hr hbl (fun z hz=>by have:=hs z;grind);have s1:=ih p o m _ p' hp r1 hne hmp hS;have f1:=ahm p.size p o m (nl _) r1 hne hmp
       by_cases hxm:x=m
       ·rw[abk p o m (.inr (by grind))];refine aaV _ _ _ _ (fun u v hu he=>?_) hS;have:=usd_free p u hu;unfold bdE sbE at *
        grind
       ·refine aaV _ _ _ _ (fun u v hu he=>?_) s1;unfold bdE sbE at *
        grind
   have hb0:∀(p:Tm) (x:UInt8),p.size<=n->p.bdp+1<=t.bdp->(∀z,z∈p.free->z=x\/z∈t.free)->(m∈p.usd->m=x)->x∉p.usd->Sm p E s->Sm (RB p x o m) (sbE E o m) s:=by
    intro p x hp hbl hs hmx hxu hS;have hmp:m∉p.usd:=fun e=>hxu (hmx e▸e);unfold RB
    by_cases hc:x=m/\o∈p.free
    ·obtain⟨y1,y2,y3⟩:=afy hr hbl hs hc;rw[if_neg y2,if_pos hc];have y4:capX p x o m∉p.usd:=fun e=>y1 (usd_free p _ e);have r1:Roomy p x (capX p x o m):=abd (capX p x o m) hr hbl (fun z hz=>by have:=hs z;grind);have hxy:x≠capX p x o m:=fun e=>y3 (e.symm.trans hc.1);have f1:=ahm p.size p x (capX p x o m) (nl _) r1 hxy y4;have k1:=R_free p.size p x (capX p x o m) (nl _) r1 hxy;have r2:Roomy (R p x (capX p x o m)) o m:=abd (capX p x o m) hr (by rw[ajl _ _ _ _ (nl _)];exact hbl) (fun z hz=>by have:=hs z;have:=k1 z;grind);have f2:=ahm _ (R p x (capX p x o m)) o m (nl _) r2 hne (by have:=f1 m;grind);have s1:=ih p x (capX p x o m) _ s hp r1 hxy y4 hS;have s2:=ih (R p x (capX p x o m)) o m _ s (by rw[R_size];exact hp) r2 hne (by have:=f1 m;grind) s1;refine aaV _ _ _ _ (fun u v hu he=>?_) s2;have g1:=f1 u;have g2:=f2 u
     generalize capX p x o m=y at *
     unfold sbE at *
     grind
    ·have hx:capX p x o m=x:=by unfold capX;rw[if_neg hc]
     rw[hx,if_neg hc]
     by_cases ho:x=o
     ·rw[if_pos ho];refine aaV _ _ _ _ (fun u v hu he=>?_) hS;unfold sbE
      grind
     ·rw[if_neg ho]
      by_cases hxm:x=m
      ·rw[abk p o m (.inr (by grind))];refine aaV _ _ _ _ (fun u v hu he=>?_) hS;have:=usd_free p u hu;unfold sbE
       grind
      ·exact ih p o m _ s hp (abd x hr hbl (fun z hz=>by have:=hs z;grind)) hne hmp hS
   cases t with
   | nil=>simp[Tm.free]at hof
   | snd a b p=>
    simp only[Tm.size]at hn;rw[mu_snd]at hm;obtain⟨a',b',p',e,h1,h2,h3⟩:=hs;have f:=ih p o m E p' (by omega) (aaE hr (nl _) (fun z hz=>by rw[mf_snd];grind)) hne (by grind) h3;rw[aet h];refine⟨a',b',p',e,?_,?_,f⟩
    ·unfold sw sbE;split<;>grind
    ·unfold sw sbE;split<;>grind
   | rcv a x p=>
    simp only[Tm.size]at hn;rw[mu_rcv]at hm;obtain⟨a',x',p',e,h1,h3⟩:=hs;have f:=hb p x x' p' (by omega) (by simp only[Tm.bdp];try omega) (fun z hz=>by rw[mf_rcv];grind) (by grind) h3;rw[ae5 h];refine⟨a',x',p',e,?_,f⟩;unfold sw sbE;split<;>grind
   | own x p=>
    simp only[Tm.size]at hn;have hm':=hm;rw[mu_own]at hm;rw[afx h];have hR:(R (.own x p) o m)=.own (capX p x o m) (RB p x o m):=afx h;have hu:=ahm _ (.own x p) o m (nl _) hr hne hm'
    have hq:capX p x o m∈(RB p x o m).usd↔x∈p.usd:=by
     have hbl:p.bdp+1<=(Tm.own x p).bdp:=by simp only[Tm.bdp];try omega
     have hsf:∀z,z∈p.free->z=x\/z∈(Tm.own x p).free:=fun z hz=>by rw[mf_own];grind
     unfold RB
     by_cases hc:x=m/\o∈p.free
     ·obtain⟨y1,y2,y3⟩:=afy hr hbl hsf hc;rw[if_neg y2,if_pos hc];have y4:capX p x o m∉p.usd:=fun e=>y1 (usd_free p _ e);have r1:Roomy p x (capX p x o m):=abd (capX p x o m) hr hbl (fun z hz=>by have:=hsf z;grind);have hxy:x≠capX p x o m:=fun e=>y3 (e.symm.trans hc.1);have f1:=ahm p.size p x (capX p x o m) (nl _) r1 hxy y4;have k1:=R_free p.size p x (capX p x o m) (nl _) r1 hxy;have r2:Roomy (R p x (capX p x o m)) o m:=abd (capX p x o m) hr (by rw[ajl _ _ _ _ (nl _)];exact hbl) (fun z hz=>by have:=hsf z;have:=k1 z;grind);have f2:=ahm _ (R p x (capX p x o m)) o m (nl _) r2 hne (by have:=f1 m;grind) (capX p x o m);have g1:=f1 (capX p x o m);have g2:=f1 o
      grind
     ·have hx:capX p x o m=x:=by unfold capX;rw[if_neg hc]
      rw[hx,if_neg hc]
      by_cases ho:x=o
      ·rw[if_pos ho]
      ·rw[if_neg ho]
       by_cases hxm:x=m
       ·rw[abk p o m (.inr (by grind))]
       ·have r1:Roomy p o m:=abd x hr hbl (fun z hz=>by have:=hsf z;grind);have f1:=ahm p.size p o m (nl _) r1 hne (by grind) x
        grind
    unfold Sm at hs ⊢
    by_cases hxu:x∈p.usd
    ·rw[if_pos hxu]at hs;rw[if_pos (hq.2 hxu)];obtain⟨x',p',e,h3⟩:=hs;exact⟨x',p',e,hb p x x' p' (by omega) (by simp only[Tm.bdp];try omega) (fun z hz=>by rw[mf_own];grind) (by grind) h3⟩
    ·rw[if_neg hxu]at hs;rw[if_neg (fun e=>hxu (hq.1 e))];exact hb0 p x (by omega) (by simp only[Tm.bdp];try omega) (fun z hz=>by rw[mf_own];grind) (by grind) hxu hs
   | tau p=>
    simp only[Tm.size]at hn;rw[mu_tau]at hm;obtain⟨p',e,h3⟩:=hs;rw[aev h];exact⟨p',e,ih p o m E p' (by omega) (aaE hr (nl _) (fun z hz=>by rw[mf_tau];grind)) hne hm h3⟩
   | rep p=>
    simp only[Tm.size]at hn;rw[mu_rep]at hm;rw[aew h];unfold Sm at hs ⊢;rw[abR]
    split at hs
    ·rename_i c;rw[if_pos c];exact hs
    ·rename_i c;rw[if_neg c]
     obtain⟨p',e,h3⟩:=hs;exact⟨p',e,ih p o m E p' (by omega) (aaE hr (nl _) (fun z hz=>by rw[mf_rep];grind)) hne hm h3⟩
   | mat a b p=>
    simp only[Tm.size]at hn;rw[mu_mat]at hm;rw[aeu h];unfold Sm at hs ⊢;rw[abR]
    by_cases hd:p.dead=true
    ·have hn0:s=.nil:=by
      split at hs
      ·exact aey p E s hd hs
      ·first|exact hs|(rw[if_pos hd]at hs;exact hs)
     subst hn0
     split
     ·exact akc _ _ (by rw[abR];exact hd)
     ·first|rfl|rw[if_pos hd]
    ·have hd':p.dead=false:=by simpa using hd
     have hmp:m∉p.usd:=by grind
     have f:=fun p'=>ih p o m E p' (by omega) (aaE hr (nl _) (fun z hz=>by rw[mf_mat];grind)) hne hmp
     split at hs
     ·rename_i c;subst c;rw[if_pos rfl];exact f s hs
     ·rename_i c
      (try rw[if_neg hd]at hs)
      rw[if_neg (by unfold sw;grind),if_neg hd];obtain⟨a',b',p',e,h1,h2,h3⟩:=hs;refine⟨a',b',p',e,?_,?_,f p' h3⟩
      ·unfold sw sbE;split<;>grind
      ·unfold sw sbE;split<;>grind
   | sum p q=>
    simp only[Tm.size]at hn;rw[mu_sum]at hm;rw[adI h];have f:=fun s=>ih p o m E s (by omega) (aaE hr (by simp only[Tm.bdp];try omega) (fun z hz=>by rw[mf_sum];grind)) hne (by grind);have g:=fun s=>ih q o m E s (by omega) (aaE hr (by simp only[Tm.bdp];try omega) (fun z hz=>by rw[mf_sum];grind)) hne (by grind);unfold Sm at hs ⊢;rw[abR,abR]
    split at hs
    ·rename_i c;rw[if_pos c];exact g s hs
    ·rename_i c;rw[if_neg c]
     split at hs
     ·rename_i c;rw[if_pos c];exact f s hs
     ·rename_i c;rw[if_neg c]
      obtain⟨p',q',e,h1,h2⟩:=hs;exact⟨p',q',e,f p' h1,g q' h2⟩
   | par p q=>
    simp only[Tm.size]at hn;rw[mu_par]at hm;rw[ae6 h];have f:=fun s=>ih p o m E s (by omega) (aaE hr (by simp only[Tm.bdp];try omega) (fun z hz=>by rw[mf_par];grind)) hne (by grind);have g:=fun s=>ih q o m E s (by omega) (aaE hr (by simp only[Tm.bdp];try omega) (fun z hz=>by rw[mf_par];grind)) hne (by grind);unfold Sm at hs ⊢;rw[abR,abR]
    split at hs
    ·rename_i c;rw[if_pos c];exact g s hs
    ·rename_i c;rw[if_neg c]
     split at hs
     ·rename_i c;rw[if_pos c];exact f s hs
     ·rename_i c;rw[if_neg c]
      obtain⟨p',q',e,h1,h2⟩:=hs;exact⟨p',q',e,f p' h1,g q' h2⟩
def upd (sc:UInt8->UInt8)(x y:UInt8):UInt8->UInt8:=fun z=>if z=x then y else sc z
def can:Tm->(UInt8->UInt8)->List UInt8->Tm
 | .nil,_,_=>.nil
 | .snd a b p,sc,ns=>.snd (sc a) (sc b) (can p sc ns)
 | .rcv a x p,sc,ns=>.rcv (sc a) (ns.headD 0) (can p (upd sc x (ns.headD 0)) ns.tail)
 | .tau p,sc,ns=>.tau (can p sc ns)
 | .sum p q,sc,ns=>.sum (can p sc ns) (can q sc (ns.drop p.bnd.length))
 | .par p q,sc,ns=>.par (can p sc ns) (can q sc (ns.drop p.bnd.length))
 | .own x p,sc,ns=>.own (ns.headD 0) (can p (upd sc x (ns.headD 0)) ns.tail)
 | .mat a b p,sc,ns=>.mat (sc a) (sc b) (can p sc ns)
 | .rep p,sc,ns=>.rep (can p sc ns)
def othL (l:List UInt8):List UInt8:=((List.range 26).map fun i=>UInt8.ofNat (97+i)).filter fun c=>decide (c∉l)
def aqZ:List UInt8:=(List.range 26).map fun i=>UInt8.ofNat (97+i)
theorem ahn:Srt aqZ:=by unfold Srt aqZ;decide +kernel
theorem adJ (l:List UInt8):Srt (othL l):=List.Pairwise.filter _ ahn
theorem ajm (c:UInt8):c∈aqZ↔97<=c.toNat/\c.toNat<=122:=by
 unfold aqZ;rw[List.mem_map];constructor
 ·rintro⟨i,hi,rfl⟩;rw[List.mem_range]at hi;rw[UInt8.toNat_ofNat'];omega
 ·intro h;exact⟨c.toNat - 97,List.mem_range.2 (by omega),u8_ext (by rw[UInt8.toNat_ofNat'];omega)⟩
theorem abv (l:List UInt8)(c:UInt8):c∈othL l↔(97<=c.toNat/\c.toNat<=122)/\c∉l:=by
 rw[<-ajm];unfold othL aqZ;rw[List.mem_filter];simp
theorem fresh_oth (l:List UInt8):(∃c r,othL l=c::r/\fresh l=c/\c.toNat<=122)\/(othL l=[]/\122<(fresh l).toNat):=by
 rcases fresh_cases l with⟨k,h1,h2,h3,h4⟩|⟨h0,h⟩
 ·left
  have hs:=adJ l;have hmem:UInt8.ofNat (97+k)∈othL l:=(abv _ _).2 ⟨by rw[UInt8.toNat_ofNat'];omega,h3⟩
  cases ho:othL l with
  | nil=>rw[ho]at hmem;cases hmem
  | cons c r=>
   have hc:c=UInt8.ofNat (97+k):=by
    rw[ho]at hs hmem;rcases List.mem_cons.1 hmem with h|h
    ·exact h.symm
    ·have h5:=(List.pairwise_cons.1 hs).1 _ h;have h6:=(abv l c).1 (by rw[ho];simp);rw[abT,UInt8.toNat_ofNat']at h5;exact absurd (by have:=h2 (c.toNat - 97) (by omega);rw[show UInt8.ofNat (97+(c.toNat - 97))=c from u8_ext (by rw[UInt8.toNat_ofNat'];omega)]at this;exact this) h6.2
   exact⟨c,r,rfl,by rw[h4,hc],by rw[hc,UInt8.toNat_ofNat'];omega⟩
 ·right
  refine⟨?_,?_⟩
  ·cases ho:othL l with
   | nil=>rfl
   | cons c r=>
    have h6:=(abv l c).1 (by rw[ho];simp);exact absurd (by have:=h0 (c.toNat - 97) (by omega);rw[show UInt8.ofNat (97+(c.toNat - 97))=c from u8_ext (by rw[UInt8.toNat_ofNat'];omega)]at this;exact this) h6.2
  ·rcases h with⟨k,h1,_,_,h4⟩|⟨_,h4⟩
   ·rw[h4,UInt8.toNat_ofNat'];omega
   ·rw[h4];decide
theorem ajn {l:List UInt8}{c:UInt8}{r:List UInt8}(h:othL l=c::r):othL (addL l c)=r:=by
 have hs:=adJ l;rw[h]at hs;refine aed (adJ _) (List.pairwise_cons.1 hs).2 fun x=>?_;rw[abv,mem_addL];have h1:=abv l x;rw[h,List.mem_cons]at h1;have h2:x∈r->x≠c:=fun hx e=>by have:=(List.pairwise_cons.1 hs).1 x hx;rw[e,abT]at this;omega
 grind
structure Tk (t:Tm) (l:List UInt8):Prop where
 srt:Srt l
 sub:∀z,z∈t.free->z∈l
 room:l.length+t.bnd.length<=87
theorem adK (l A:List UInt8):(bothL l A).length<=l.length+A.length:=by
 induction A generalizing l with
 | nil=>simp[bothL]
 | cons c A ih=>
  have h1:=ih (addL l c);have h2:=abY c l;show (bothL (addL l c) A).length<=_;simp only[List.length_cons];omega
def gl (k:Nat):UInt8:=UInt8.ofNat (if k<26 then 65+k else 166+k)
def aa4 (z:UInt8):Prop:=(65<=z.toNat/\z.toNat<=90)\/192<=z.toNat
theorem agQ {k:Nat}(h:k<90):(gl k).toNat=if k<26 then 65+k else 166+k:=by
 unfold gl;rw[UInt8.toNat_ofNat'];split<;>omega
theorem aip {i j:Nat}(hi:i<90)(hj:j<90)(h:gl i=gl j):i=j:=by
 have h1:=agQ hi;have h2:=agQ hj;rw[h,h2]at h1
 split at h1<;>split at h1<;>omega
theorem ace {i:Nat}(hi:i<90):aa4 (gl i):=by
 unfold aa4;rw[agQ hi];split<;>omega
theorem awm {i:Nat}(hi:i<90):nmE (gl i)=true:=by
 rw[ahc,agQ hi];split<;>omega
def Fit (t:Tm):Prop:=t.free.length+t.bdp<=86
theorem aa9 {t p:Tm}(h:Fit t)(hb:p.bdp<=t.bdp)(hs:∀z,z∈p.free->z∈t.free):Fit p:=by
 have:=acF (aav p) (aav t) hs;unfold Fit at h ⊢;omega
theorem acG {t p:Tm}{x:UInt8}(h:Fit t)(hb:p.bdp+1<=t.bdp)(hs:∀z,z∈p.free->z=x\/z∈t.free):Fit p:=by
 have h1:=acF (aav p) (srt_addL (aav t) x) (fun z hz=>by rw[mem_addL];exact(hs z hz).symm);have h2:=abY x t.free;unfold Fit at h ⊢;omega
theorem fit_roomy {t:Tm}(h:Fit t)(o m:UInt8):Roomy t o m:=by
 have:=adK t.free [o,m];unfold Fit at h;unfold Roomy;simp at this;omega
theorem aiq {l:List UInt8}{c:UInt8}(h:c∈l):(abI l c).length+1<=l.length:=by
 induction l with
 | nil=>cases h
 | cons a l ih=>
  unfold abI;rw[List.filter_cons]
  by_cases e:a=c
  ·subst e;simp only[bne_self_eq_false,Bool.false_eq_true,if_false,List.length_cons];have:=List.length_filter_le (fun x:UInt8=>x != a) l;omega
  ·have:c∈l:=by
    rcases List.mem_cons.1 h with h|h
    ·exact absurd h.symm e
    ·exact h
   have ih:=ih this
   unfold abI at ih;have e':(a != c)=true:=by simpa using e
   rw[if_pos e'];simp only[List.length_cons];omega
theorem afB {t:Tm}(h:Fit t)(o m:UInt8):Fit (R t o m):=by
 by_cases hs:o=m\/o∉t.free
 ·rw[abk _ _ _ hs];exact h
 ·have hne:o≠m:=fun e=>hs (.inl e);have hof:o∈t.free:=by grind
  have hf:=R_free _ t o m (nl _) (fit_roomy h o m) hne
  have h1:=acF (aav (R t o m)) (srt_addL (ab7 (aav t) o) m) (fun z hz=>by
   rw[mem_addL,abN];have:=(hf z).1 hz;grind)
  have h2:=abY m (abI t.free o);have h3:=aiq hof;have h4:=ajl _ t o m (nl _);unfold Fit at h ⊢;omega
theorem act (t:Tm):∀z,z∈t.peel.free\/z∈t.peel.bnd->z∈t.free\/z∈t.bnd:=by
 induction t with
 | mat a b p ih=>
  unfold Tm.peel;split
  ·intro z hz;rw[mf_mat];have:=ih z hz;simp only[Tm.bnd];grind
  ·exact fun _ h=>h
 | sum p q ih ih2=>
  unfold Tm.peel;split
  ·intro z hz;rw[mf_sum];have:=ih2 z hz;simp only[Tm.bnd,lma];grind
  ·split
   ·intro z hz;rw[mf_sum];have:=ih z hz;simp only[Tm.bnd,lma];grind
   ·exact fun _ h=>h
 | par p q ih ih2=>
  unfold Tm.peel;split
  ·intro z hz;rw[mf_par];have:=ih2 z hz;simp only[Tm.bnd,lma];grind
  ·split
   ·intro z hz;rw[mf_par];have:=ih z hz;simp only[Tm.bnd,lma];grind
   ·exact fun _ h=>h
 | own x p ih=>
  unfold Tm.peel;split
  ·exact fun _ h=>h
  ·intro z hz;rw[mf_own];have:=ih z hz;simp only[Tm.bnd,List.mem_cons];grind
 | _=>exact fun _ h=>h
theorem acH (t:Tm):Fit t->Fit t.peel:=by
 induction t with
 | mat a b p ih=>
  intro h;unfold Tm.peel;split
  ·exact ih (aa9 h (nl _) (fun z hz=>by rw[mf_mat];exact .inr (.inr hz)))
  ·exact h
 | sum p q ih ih2=>
  intro h;unfold Tm.peel;split
  ·exact ih2 (aa9 h (by simp only[Tm.bdp];try omega) (fun z hz=>by rw[mf_sum];exact .inr hz))
  ·split
   ·exact ih (aa9 h (by simp only[Tm.bdp];try omega) (fun z hz=>by rw[mf_sum];exact .inl hz))
   ·exact h
 | par p q ih ih2=>
  intro h;unfold Tm.peel;split
  ·exact ih2 (aa9 h (by simp only[Tm.bdp];try omega) (fun z hz=>by rw[mf_par];exact .inr hz))
  ·split
   ·exact ih (aa9 h (by simp only[Tm.bdp];try omega) (fun z hz=>by rw[mf_par];exact .inl hz))
   ·exact h
 | own x p ih=>
  intro h;unfold Tm.peel;split
  ·exact h
  ·exact ih (acG (x:=x) h (by simp only[Tm.bdp];try omega) (fun z hz=>by rw[mf_own];grind))
 | _=>exact fun h=>h
theorem acI (l:List UInt8):¬aa4 (fresh l):=by
 unfold aa4;rcases fresh_cases l with⟨k,h1,_,_,h4⟩|⟨_,⟨k,h1,_,_,h4⟩|⟨_,h4⟩⟩
 ·rw[h4,UInt8.toNat_ofNat'];omega
 ·rw[h4,UInt8.toNat_ofNat'];omega
 ·rw[h4];decide
theorem R_bnds (n:Nat):∀(t:Tm) (o m:UInt8),t.size<=n->∀z,z∈(R t o m).bnd->z∈t.bnd\/¬aa4 z:=by
 induction n with
 | zero=>intro t o m h;have:=aao t;omega
 | succ n ih=>
  intro t o m hn z
  by_cases h:o=m\/o∉t.free
  ·rw[abk _ _ _ h];exact .inl
  ·have hc:∀p x,capX p x o m=x\/¬aa4 (capX p x o m):=by
    intro p x;unfold capX;split
    ·exact .inr (acI _)
    ·exact .inl rfl
   have hb:∀p x,p.size<=n->∀z,z∈(RB p x o m).bnd->z∈p.bnd\/¬aa4 z:=by
    intro p x h1 z;unfold RB
    split<;>split
    ·exact ih _ _ _ h1 z
    ·exact .inl
    ·intro hz;rcases ih _ _ _ (by rw[R_size];exact h1) z hz with hz|hz
     ·exact ih _ _ _ h1 z hz
     ·exact .inr hz
    ·exact ih _ _ _ h1 z
   cases t with
   | nil=>exact absurd (.inr (by simp[Tm.free])) h
   | snd a b p=>simp only[Tm.size]at hn;rw[aet h];exact ih p _ _ (by omega) z
   | mat a b p=>simp only[Tm.size]at hn;rw[aeu h];exact ih p _ _ (by omega) z
   | tau p=>simp only[Tm.size]at hn;rw[aev h];exact ih p _ _ (by omega) z
   | rep p=>simp only[Tm.size]at hn;rw[aew h];exact ih p _ _ (by omega) z
   | sum p q=>
    simp only[Tm.size]at hn;rw[adI h];simp only[Tm.bnd,lma];have:=ih p o m (by omega) z;have:=ih q o m (by omega) z;grind
   | par p q=>
    simp only[Tm.size]at hn;rw[ae6 h];simp only[Tm.bnd,lma];have:=ih p o m (by omega) z;have:=ih q o m (by omega) z;grind
   | rcv a x p=>
    simp only[Tm.size]at hn;rw[ae5 h];simp only[Tm.bnd,List.mem_cons];have:=hb p x (by omega) z;have:=hc p x;grind
   | own x p=>
    simp only[Tm.size]at hn;rw[afx h];simp only[Tm.bnd,List.mem_cons];have:=hb p x (by omega) z;have:=hc p x;grind
theorem R_names {t:Tm}(h:Fit t)(o m:UInt8):∀z,z∈(R t o m).free\/z∈(R t o m).bnd->(z∈t.free\/z∈t.bnd)\/z=m\/¬aa4 z:=by
 intro z hz;rcases hz with hz|hz
 ·by_cases e:o=m
  ·rw[abk _ _ _ (.inl e)]at hz;exact .inl (.inl hz)
  ·have:=(R_free _ t o m (nl _) (fit_roomy h o m) e z).1 hz;grind
 ·have:=R_bnds _ t o m (nl _) z hz;grind
theorem afC (t:Tm):t.peel.dead=t.dead:=by
 induction t with
 | mat a b p ih=>unfold Tm.peel;split;exact ih;rfl
 | sum p q ih ih2=>
  unfold Tm.peel;split
  ·rename_i h;rw[ih2];simp only[Tm.dead];rw[h];rfl
  ·split
   ·rename_i h;rw[ih];simp only[Tm.dead];rw[h,Bool.and_true]
   ·rfl
 | par p q ih ih2=>
  unfold Tm.peel;split
  ·rename_i h;rw[ih2];simp only[Tm.dead];rw[h];rfl
  ·split
   ·rename_i h;rw[ih];simp only[Tm.dead];rw[h,Bool.and_true]
   ·rfl
 | own x p ih=>unfold Tm.peel;split;rfl;exact ih
 | _=>rfl
theorem aq0 (t:Tm):∀z,z∈t.peel.usd↔z∈t.usd:=by
 induction t with
 | mat a b p ih=>
  unfold Tm.peel;split
  ·rename_i h;intro z;rw[ih,mu_mat];grind
  ·exact fun _=>Iff.rfl
 | sum p q ih ih2=>
  unfold Tm.peel;split
  ·rename_i h;intro z;rw[ih2,mu_sum,dead_usd _ h];simp
  ·split
   ·rename_i h;intro z;rw[ih,mu_sum,dead_usd _ h];simp
   ·exact fun _=>Iff.rfl
 | par p q ih ih2=>
  unfold Tm.peel;split
  ·rename_i h;intro z;rw[ih2,mu_par,dead_usd _ h];simp
  ·split
   ·rename_i h;intro z;rw[ih,mu_par,dead_usd _ h];simp
   ·exact fun _=>Iff.rfl
 | own x p ih=>
  unfold Tm.peel;split
  ·exact fun _=>Iff.rfl
  ·rename_i h;intro z;rw[ih,mu_own]
   exact⟨fun hz=>⟨hz,fun e=>h (e▸hz)⟩,fun hz=>hz.1⟩
 | _=>exact fun _=>Iff.rfl
theorem an2 (t:Tm):∀(E:UInt8->UInt8->Prop) (s:Tm),Sm t E s->Sm t.peel E s:=by
 induction t with
 | mat a b p ih=>
  intro E s h;unfold Tm.peel;split
  ·rename_i c;unfold Sm at h;rw[if_pos c]at h;exact ih E s h
  ·exact h
 | sum p q ih ih2=>
  intro E s h;unfold Tm.peel;split
  ·rename_i c;unfold Sm at h;rw[if_pos c]at h;exact ih2 E s h
  ·rename_i c;split
   ·rename_i d;unfold Sm at h;rw[if_neg c,if_pos d]at h;exact ih E s h
   ·exact h
 | par p q ih ih2=>
  intro E s h;unfold Tm.peel;split
  ·rename_i c;unfold Sm at h;rw[if_pos c]at h;exact ih2 E s h
  ·rename_i c;split
   ·rename_i d;unfold Sm at h;rw[if_neg c,if_pos d]at h;exact ih E s h
   ·exact h
 | own x p ih=>
  intro E s h;unfold Tm.peel;split
  ·exact h
  ·rename_i c;unfold Sm at h;rw[if_neg c]at h;exact ih E s h
 | _=>intro E s h;exact h
def Peeled:Tm->Prop
 | .sum p q=>p.dead=false/\q.dead=false
 | .par p q=>p.dead=false/\q.dead=false
 | .own x p=>x∈p.usd
 | .mat a b _=>a≠b
 | _=>True
theorem ab9 (t:Tm):Peeled t.peel:=by
 induction t with
 | mat a b p ih=>unfold Tm.peel;split;exact ih;assumption
 | sum p q ih ih2=>
  unfold Tm.peel;split
  ·exact ih2
  ·split
   ·exact ih
   ·rename_i h1 h2;exact⟨by simpa using h1,by simpa using h2⟩
 | par p q ih ih2=>
  unfold Tm.peel;split
  ·exact ih2
  ·split
   ·exact ih
   ·rename_i h1 h2;exact⟨by simpa using h1,by simpa using h2⟩
 | own x p ih=>unfold Tm.peel;split;assumption;exact ih
 | _=>trivial
theorem afD (t:Tm)(h:Peeled t):t.peel=t:=by
 cases t<;>unfold Tm.peel<;>unfold Peeled at h
 case sum p q=>rw[h.1,h.2];rfl
 case par p q=>rw[h.1,h.2];rfl
 case own x p=>rw[if_pos h]
 case mat a b p=>rw[if_neg h]
 all_goals rfl
def gath:Nat->Nat->Tm->List Tm × Nat
 | 0,k,_=>([],k)
 | n+1,k,t=>
  if t.peel.dead then ([],k) else
  match t.peel with
  | .par p q=>((gath n k p).1++(gath n (gath n k p).2 q).1,(gath n (gath n k p).2 q).2)
  | .own x p=>gath n (k+1) (R p x (gl k))
  | u=>([u],k)
def lvl:Tm->List UInt8 × List Tm
 | .nil=>([],[])
 | .own x p=>(x::(lvl p).1,(lvl p).2)
 | .par p q=>((lvl p).1++(lvl q).1,(lvl p).2++(lvl q).2)
 | s=>([],[s])
def exE (E:UInt8->UInt8->Prop)(k:Nat)(G:List UInt8):UInt8->UInt8->Prop:=fun u v=>
 (∃j,∃h:j<G.length,u=gl (k+j)/\v=G[j])\/((∀j,j<G.length->u≠gl (k+j))/\v∉G/\E u v)
def Thr (t:Tm):Prop:=t.dead=false/\Peeled t/\(∀p q,t≠.par p q)/\(∀x p,t≠.own x p)
theorem an3 (s:Tm):∀z,z∈(lvl s).1->z∈s.bnd:=by
 induction s with
 | own x p ih=>intro z hz;simp only[lvl,List.mem_cons]at hz;simp only[Tm.bnd,List.mem_cons];exact hz.imp id (ih z)
 | par p q ih ih2=>intro z hz;simp only[lvl,lma]at hz;simp only[Tm.bnd,lma];exact hz.imp (ih z) (ih2 z)
 | _=>intro z hz;simp[lvl]at hz
theorem ajo (s:Tm):∀T∈(lvl s).2,∀z,z∈T.bnd->z∈s.bnd:=by
 induction s with
 | own x p ih=>intro T hT z hz;simp only[Tm.bnd,List.mem_cons];exact .inr (ih T hT z hz)
 | par p q ih ih2=>
  intro T hT z hz;simp only[lvl,lma]at hT;simp only[Tm.bnd,lma];exact hT.imp (fun h=>ih T h z hz) (fun h=>ih2 T h z hz)
 | nil=>intro T hT;simp[lvl]at hT
 | _=>intro T hT z hz;simp only[lvl,List.mem_singleton]at hT;subst hT;exact hz
inductive All2 {α β:Type} (P:α->β->Prop):List α->List β->Prop where
 | nil:All2 P [] []
 | cons {a b l m}:P a b->All2 P l m->All2 P (a::l) (b::m)
theorem All2.append {α β:Type}{P:α->β->Prop}{l l':List α}{m m':List β}(h:All2 P l m)(h':All2 P l' m'):All2 P (l++l') (m++m'):=by
 induction h with
 | nil=>exact h'
 | cons a _ ih=>exact .cons a ih
theorem All2.mono {α β:Type}{P Q:α->β->Prop}{l:List α}{m:List β}(h:All2 P l m)(hm:∀a b,a∈l->b∈m->P a b->Q a b):All2 Q l m:=by
 induction h with
 | nil=>exact .nil
 | cons a _ ih=>exact .cons (hm _ _ (by simp) (by simp) a) (ih fun a b ha hb=>hm a b (by simp[ha]) (by simp[hb]))
theorem All2.len {α β:Type}{P:α->β->Prop}{l:List α}{m:List β}(h:All2 P l m):l.length=m.length:=by
 induction h with
 | nil=>rfl
 | cons _ _ ih=>simp[ih]
def FitT (t:Tm):Prop:=Fit t\/∃p q,(t=.par p q\/t=.sum p q)/\Fit p/\Fit q
def FitX (t:Tm):Prop:=Fit t\/∃p q,t=.sum p q/\Fit p/\Fit q
theorem acf {p q:Tm}(h:FitT (.par p q)):Fit p/\Fit q:=by
 rcases h with h|⟨p',q',e,h1,h2⟩
 ·exact⟨aa9 h (by simp only[Tm.bdp];try omega) (fun z hz=>by rw[mf_par];exact .inl hz),aa9 h (by simp only[Tm.bdp];try omega) (fun z hz=>by rw[mf_par];exact .inr hz)⟩
 ·rcases e with e|e
  ·injection e with e1 e2;subst e1 e2;exact⟨h1,h2⟩
  ·cases e
theorem ae9 {p q:Tm}(h:FitX (.sum p q)):Fit p/\Fit q:=by
 rcases h with h|⟨p',q',e,h1,h2⟩
 ·exact⟨aa9 h (by simp only[Tm.bdp];try omega) (fun z hz=>by rw[mf_sum];exact .inl hz),aa9 h (by simp only[Tm.bdp];try omega) (fun z hz=>by rw[mf_sum];exact .inr hz)⟩
 ·injection e with e1 e2;subst e1 e2;exact⟨h1,h2⟩
theorem aho {x:UInt8}{p:Tm}(h:FitT (.own x p)):Fit (.own x p):=by
 rcases h with h|⟨p',q',e,h1,h2⟩
 ·exact h
 ·rcases e with e|e<;>cases e
theorem asH {t:Tm}(h:FitT t)(hp:∀p q,t≠.par p q):FitX t:=by
 rcases h with h|⟨p',q',e,h1,h2⟩
 ·exact .inl h
 ·rcases e with e|e
  ·exact absurd e (hp _ _)
  ·exact .inr ⟨p',q',e,h1,h2⟩
theorem adL {t:Tm}(h:FitT t):FitT t.peel:=by
 rcases h with h|⟨p,q,e,h1,h2⟩
 ·exact .inl (acH t h)
 ·rcases e with e|e<;>subst e
  ·unfold Tm.peel;split
   ·exact .inl (acH q h2)
   ·split
    ·exact .inl (acH p h1)
    ·exact .inr ⟨p,q,.inl rfl,h1,h2⟩
  ·unfold Tm.peel;split
   ·exact .inl (acH q h2)
   ·split
    ·exact .inl (acH p h1)
    ·exact .inr ⟨p,q,.inr rfl,h1,h2⟩
theorem an4 (n:Nat):∀(k:Nat) (t:Tm) (E:UInt8->UInt8->Prop) (s:Tm) (P:UInt8->Prop),t.size<=n->FitT t->Sm t E s->k+(lvl s).1.length<=89-> (∀z,¬aa4 z->P z)->(∀i,k<=i->i<90->¬P (gl i))->(∀z,z∈t.free\/z∈t.bnd->P z)->s.bnd.Nodup->(∀u v,E u v->v∉s.bnd)-> (gath n k t).2=k+(lvl s).1.length/\All2 (fun T T'=>Sm T (exE E k (lvl s).1) T') (gath n k t).1 (lvl s).2/\ ∀T∈(gath n k t).1,(FitX T/\(Fit T\/((lvl s).1=[]/\¬Fit t)))/\T.size<=t.size/\Thr T/\∀z,z∈T.free\/z∈T.bnd->P z\/∃j,j<(lvl s).1.length/\z=gl (k+j):=by
 induction n with
 | zero=>intro k t E s P h;have:=aao t;omega
 | succ n ih=>
  intro k t E s P hn hfit hS hk hP1 hP2 hPt hnd hE;have hps:=abm t;have hSp:=an2 t E s hS;have hpf:=ab9 t;have hPu:∀z,z∈t.peel.free\/z∈t.peel.bnd->P z:=fun z hz=>hPt z (act t z hz);have hfp:=adL hfit;have hfq:=acH t;unfold gath
  by_cases hd:t.peel.dead=true
  ·have e:=aey _ E s hd hSp;subst e;rw[if_pos hd];exact⟨rfl,.nil,fun T h=>by simp at h⟩
  ·rw[if_neg hd];have hd':t.peel.dead=false:=by simpa using hd
   generalize hu:t.peel=u at *
   -- a thread
   have hleaf:(∀p q,u≠.par p q)->(∀x p,u≠.own x p)->(lvl s)=([],[s])->
     (([u],k):List Tm × Nat).2=k+(lvl s).1.length/\All2 (fun T T'=>Sm T (exE E k (lvl s).1) T') (([u],k):List Tm × Nat).1 (lvl s).2/\
     ∀T∈(([u],k):List Tm × Nat).1,(FitX T/\(Fit T\/((lvl s).1=[]/\¬Fit t)))/\T.size<=t.size/\Thr T/\∀z,z∈T.free\/z∈T.bnd->P z\/∃j,j<(lvl s).1.length/\z=gl (k+j):=by
    intro h1 h2 h3;rw[h3];refine⟨rfl,.cons (aaV u E _ s (fun a b _ hab=>.inr ⟨fun j hj=>by simp at hj,by simp,hab⟩) hSp) .nil,fun T hT=>?_⟩;simp only[List.mem_singleton]at hT;subst hT;exact⟨⟨asH hfp h1,by by_cases c:Fit t;exact .inl (hfq c);exact .inr ⟨rfl,c⟩⟩,hps.2.2.1,⟨hd',hpf,h1,h2⟩,fun z hz=>.inl (hPu z hz)⟩
   cases u with
   | nil=>simp[Tm.dead]at hd
   | snd a b p=>obtain⟨a',b',p',rfl,_⟩:=hSp;exact hleaf (by intros;simp) (by intros;simp) rfl
   | rcv a x p=>obtain⟨a',x',p',rfl,_⟩:=hSp;exact hleaf (by intros;simp) (by intros;simp) rfl
   | tau p=>obtain⟨p',rfl,_⟩:=hSp;exact hleaf (by intros;simp) (by intros;simp) rfl
   | sum p q=>
    have h':=hSp;unfold Sm at h';rw[if_neg (by rw[hpf.1];simp),if_neg (by rw[hpf.2];simp)]at h';obtain⟨p',q',rfl,_⟩:=h';exact hleaf (by intros;simp) (by intros;simp) rfl
   | mat a b p=>
    have h':=hSp;unfold Sm at h';rw[if_neg hpf,if_neg (show ¬p.dead=true from hd)]at h';obtain⟨a',b',p',rfl,_⟩:=h';exact hleaf (by intros;simp) (by intros;simp) rfl
   | rep p=>
    have h':=hSp;unfold Sm at h';rw[if_neg (show ¬p.dead=true from hd)]at h';obtain⟨p',rfl,_⟩:=h';exact hleaf (by intros;simp) (by intros;simp) rfl
   | par p q=>
    have h':=hSp;unfold Sm at h';rw[if_neg (by rw[hpf.1];simp),if_neg (by rw[hpf.2];simp)]at h';obtain⟨p',q',rfl,h1,h2⟩:=h';simp only[lvl,lla]at hk;have hsz:p.size+q.size+1<=t.size:=hps.2.2.1;have hbn:(Tm.par p q).bnd.length=p.bnd.length+q.bnd.length:=by simp[Tm.bnd]
    have hPp:∀z,z∈p.free\/z∈p.bnd->P z:=fun z hz=>hPu z (by rw[mf_par];simp only[Tm.bnd,lma];grind);have hPq:∀z,z∈q.free\/z∈q.bnd->P z:=fun z hz=>hPu z (by rw[mf_par];simp only[Tm.bnd,lma];grind);have hnd':(p'.bnd++q'.bnd).Nodup:=hnd;rw[List.nodup_append]at hnd';obtain⟨a1,a2,a3⟩:=ih k p E p' P (by omega) (.inl (acf hfp).1) h1 (by omega) hP1 hP2 hPp hnd'.1 (fun u v e hv=>hE u v e (by simp only[Tm.bnd,lma];exact .inl hv));simp only[];rw[a1];obtain⟨b1,b2,b3⟩:=ih (k+(lvl p').1.length) q E q' P (by omega) (.inl (acf hfp).2) h2 (by omega) hP1 (fun i hi=>hP2 i (by omega)) hPq hnd'.2.1 (fun u v e hv=>hE u v e (by simp only[Tm.bnd,lma];exact .inr hv));have hEp:∀u v,E u v->v∉(lvl p').1:=fun u v e hv=>hE u v e (by simp only[Tm.bnd,lma];exact .inl (an3 _ v hv));have hEq:∀u v,E u v->v∉(lvl q').1:=fun u v e hv=>hE u v e (by simp only[Tm.bnd,lma];exact .inr (an3 _ v hv));simp only[lvl,lla];refine⟨by rw[b1];omega,.append (a2.mono fun T T' hT _ hm=>?_) (b2.mono fun T T' hT _ hm=>?_),fun T hT=>?_⟩
    ·refine aaV T _ _ T' (fun u v hu he=>?_) hm;have hu':=(a3 T hT).2.2.2 u (.inl (usd_free T u hu));rcases he with⟨j,hj,e1,e2⟩|⟨c1,c2,c3⟩
     ·exact .inl ⟨j,by rw[lla];omega,e1,by rw[e2,List.getElem_append_left]⟩
     ·refine .inr ⟨fun j hj e=>?_,by rw[lma];exact fun h=>h.elim c2 (hEq u v c3),c3⟩;rw[lla]at hj;rcases hu' with hu'|⟨i,hi,e'⟩
      ·exact hP2 (k+j) (by omega) (by omega) (e▸hu')
      ·exact c1 i hi e'
    ·refine aaV T _ _ T' (fun u v hu he=>?_) hm;have hu':=(b3 T hT).2.2.2 u (.inl (usd_free T u hu));rcases he with⟨j,hj,e1,e2⟩|⟨c1,c2,c3⟩
     ·exact .inl ⟨(lvl p').1.length+j,by rw[lla];omega,by rw[e1,Nat.add_assoc],by rw[e2,List.getElem_append_right (by omega)];simp⟩
     ·refine .inr ⟨fun j hj e=>?_,by rw[lma];exact fun h=>h.elim (hEp u v c3) c2,c3⟩;rw[lla]at hj;rcases hu' with hu'|⟨i,hi,e'⟩
      ·exact hP2 (k+j) (by omega) (by omega) (e▸hu')
      ·exact c1 i hi e'
    ·rcases lma.1 hT with hT|hT
     ·obtain⟨⟨c0,c1⟩,c2,c3,c4⟩:=a3 T hT;refine⟨⟨c0,.inl (c1.resolve_right fun h=>h.2 (acf hfp).1)⟩,by omega,c3,fun z hz=>?_⟩;rcases c4 z hz with h|⟨j,hj,e⟩
      ·exact .inl h
      ·exact .inr ⟨j,by omega,e⟩
     ·obtain⟨⟨c0,c1⟩,c2,c3,c4⟩:=b3 T hT;refine⟨⟨c0,.inl (c1.resolve_right fun h=>h.2 (acf hfp).2)⟩,by omega,c3,fun z hz=>?_⟩;rcases c4 z hz with h|⟨j,hj,e⟩
      ·exact .inl h
      ·exact .inr ⟨(lvl p').1.length+j,by omega,by rw[e,Nat.add_assoc]⟩
   | own x p=>
    have h':=hSp;unfold Sm at h';rw[if_pos (show x∈p.usd from hpf)]at h';obtain⟨x',p',rfl,h1⟩:=h';simp only[lvl,List.length_cons]at hk;have hsz:p.size+1<=t.size:=hps.2.2.1;have hbn:(Tm.own x p).bdp=p.bdp+1:=by simp[Tm.bdp]
    have hPp:∀z,z∈p.free\/z∈p.bnd->P z:=fun z hz=>hPu z (by rw[mf_own];simp only[Tm.bnd,List.mem_cons];grind);have hfitp:Fit p:=acG (x:=x) (aho hfp) (by omega) (fun z hz=>by rw[mf_own];grind);have hnPk:=hP2 k (nl _) (by omega);have hgk:gl k∉p.free:=fun h=>hnPk (hPp _ (.inl h));have hxk:x≠gl k:=fun e=>hnPk (hPu _ (.inr (by simp only[Tm.bnd,List.mem_cons];exact .inl e.symm)));have hnd':x'∉p'.bnd/\p'.bnd.Nodup:=by rw[<-List.nodup_cons];exact hnd
    have hS2:Sm (R p x (gl k)) (sbE (bdE E x x') x (gl k)) p':=ax6 _ p x (gl k) _ p' (nl _) (fit_roomy hfitp _ _) hxk (fun hu=>hgk (usd_free _ _ hu)) h1;have hfR:=R_names hfitp x (gl k)
    obtain⟨a1,a2,a3⟩:=ih (k+1) (R p x (gl k)) _ p' (fun z=>P z\/z=gl k) (by rw[R_size];omega) (.inl (afB hfitp _ _)) hS2 (by omega) (fun z hz=>.inl (hP1 z hz))
     (fun i hi hi2 h=>by
      rcases h with h|h
      ·exact hP2 i (by omega) hi2 h
      ·have:=aip hi2 (by omega) h;omega)
     (fun z hz=>by
      rcases hfR z hz with h|h|h
      ·exact .inl (hPp z h)
      ·exact .inr h
      ·exact .inl (hP1 z h)) hnd'.2 (fun u v he hv=>by
      rcases he with⟨_,he⟩|⟨_,_,he⟩
      ·rcases he with⟨_,e⟩|⟨e,_⟩
       ·exact hnd'.1 (e▸hv)
       ·exact e rfl
      ·rcases he with⟨_,e⟩|⟨_,_,e⟩
       ·exact hnd'.1 (e▸hv)
       ·exact hE u v e (by simp only[Tm.bnd,List.mem_cons];exact .inr hv))
    simp only[lvl,List.length_cons];refine⟨by rw[a1];omega,a2.mono fun T T' hT _ hm=>aaV T _ _ T' (fun u v hu he=>?_) hm,fun T hT=>?_⟩
    ·rcases he with⟨j,hj,e1,e2⟩|⟨c1,c2,c3⟩
     ·exact .inl ⟨j+1,by rw[List.length_cons];omega,by rw[e1];congr 1;omega,by rw[e2];rfl⟩
     ·have hc1:∀j,j<(x'::(lvl p').1).length->u≠gl k->u≠gl (k+j):=fun j hj h0 e=>by
       cases j with
       | zero=>exact h0 e
       | succ j=>exact c1 j (by simp at hj;omega) (by rw[e];congr 1;omega)
      rcases c3 with⟨e1,he⟩|⟨d1,d2,he⟩
      ·rcases he with⟨_,e⟩|⟨e,_⟩
       ·exact .inl ⟨0,by simp,e1,e⟩
       ·exact absurd rfl e
      ·rcases he with⟨e,_⟩|⟨_,d3,d4⟩
       ·exact absurd e d2
       ·exact .inr ⟨fun j hj=>hc1 j hj d1,by rw[List.mem_cons];exact fun h=>h.elim d3 c2,d4⟩
    ·obtain⟨⟨c0,c1⟩,c2,c3,c4⟩:=a3 T hT;rw[R_size]at c2;refine⟨⟨c0,.inl (c1.resolve_right fun h=>h.2 (afB hfitp _ _))⟩,by omega,c3,fun z hz=>?_⟩;rcases c4 z hz with (h|h)|⟨j,hj,e⟩
     ·exact .inl h
     ·exact .inr ⟨0,by omega,h⟩
     ·exact .inr ⟨j+1,by omega,by rw[e];congr 1;omega⟩
def nexts:List UInt8->Nat->List UInt8
 | _,0=>[]
 | tk,k+1=>fresh tk::nexts (addL tk (fresh tk)) k
def allT:List UInt8->Nat->List UInt8
 | tk,0=>tk
 | tk,k+1=>allT (addL tk (fresh tk)) k
def nmG:List Nat->List UInt8->Tm->Tm
 | i::o,l::ls,t=>nmG o ls (R t (gl i) l)
 | _,_,t=>t
def ordsL {α:Type}:Nat->List α->List (List α)
 | 0,_=>[[]]
 | n+1,l=>if l.isEmpty then [[]] else (List.range l.length).flatMap fun i=>(ordsL n (l.eraseIdx i)).map fun r=>(l.drop i).take 1++r
def ords (m:Nat):List (List Nat):=ordsL m (List.range m)
def srtT (l:List Tm):List Tm:=l.mergeSort fun a b=>decide (a.pr<=b.pr)
def ahp:List Tm->Tm
 | []=>.nil
 | c::cs=>cs.foldl (fun b c=>if c.pr<b.pr then c else b) c
def wrapO (ls:List UInt8)(t:Tm):Tm:=ls.foldr Tm.own t
def thS (f:Tm->List UInt8->Tm × Bool):Tm->List UInt8->Tm × Bool
 | .snd a b p,tk=>(.snd a b (f p tk).1,(f p tk).2)
 | .tau p,tk=>(.tau (f p tk).1,(f p tk).2)
 | .rcv a x p,tk=>(.rcv a (fresh tk) (f (R p x (fresh tk)) (addL tk (fresh tk))).1,(f (R p x (fresh tk)) (addL tk (fresh tk))).2)
 | .mat a b p,tk=>(if b<a then .mat b a (f p tk).1 else .mat a b (f p tk).1,(f p tk).2)
 | .rep p,tk=>(.rep (f p tk).1,(f p tk).2)
 | t,tk=>(joinR .sum (srtT ((Tm.sums t.size t).map fun q=>(f q tk).1)),(Tm.sums t.size t).any fun q=>(f q tk).2)
def whl:Nat->Bool->Tm->List UInt8->Tm × Bool
 | 0,_,_,_=>(.nil,false)
 | n+1,once,t,tk=>
  if (gath t.size 0 t).1.isEmpty then (.nil,false) else
  if 5<(gath t.size 0 t).2 then (.nil,true) else
  (wrapO (nexts tk (gath t.size 0 t).2) (ahp ((if once then (ords (gath t.size 0 t).2).take 1 else ords (gath t.size 0 t).2).map fun o=>
    joinR .par (srtT ((gath t.size 0 t).1.map fun T=>(thS (whl n once) (nmG o (nexts tk (gath t.size 0 t).2) T) (allT tk (gath t.size 0 t).2)).1)))),
   (if once then (ords (gath t.size 0 t).2).take 1 else ords (gath t.size 0 t).2).any fun o=>
    (gath t.size 0 t).1.any fun T=>(thS (whl n once) (nmG o (nexts tk (gath t.size 0 t).2) T) (allT tk (gath t.size 0 t).2)).2)
def smds:Tm->List Tm
 | .sum p q=>smds p++smds q
 | s=>[s]
def updL:(UInt8->UInt8)->List UInt8->List UInt8->UInt8->UInt8
 | L,x::o,l::ls=>updL (upd L x l) o ls
 | L,_,_=>L
def thI (f:(UInt8->UInt8)->List UInt8->Tm->Tm)(L:UInt8->UInt8)(left:List UInt8):Tm->Tm
 | .snd a b p=>.snd (L a) (L b) (f L left p)
 | .tau p=>.tau (f L left p)
 | .rcv a x p=>.rcv (L a) (left.headD 0) (f (upd L x (left.headD 0)) left.tail p)
 | .mat a b p=>if L b<L a then .mat (L b) (L a) (f L left p) else .mat (L a) (L b) (f L left p)
 | .rep p=>.rep (f L left p)
 | s=>joinR .sum (srtT ((smds s).map (f L left)))
def mid:Nat->Bool->(UInt8->UInt8)->List UInt8->Tm->Tm
 | 0,_,_,_,_=>.nil
 | n+1,once,L,left,s=>
  if (lvl s).2.isEmpty then .nil else
  wrapO (left.take (lvl s).1.length) (ahp ((if once then (ords (lvl s).1.length).take 1 else ords (lvl s).1.length).map fun o=>
   joinR .par (srtT ((lvl s).2.map (thI (mid n once) (updL L (o.map fun i=>(lvl s).1.getD i 0) left) (left.drop (lvl s).1.length))))))
def fcnt (s:Tm):Nat:=(lvl s).1.length
def tf:Tm->Nat->Bool
 | .nil,_=>true
 | .own _ p,k=>tf p k
 | .par p q,k=>tf p k && tf q k
 | .snd _ _ p,k=>decide (fcnt p<=5) && decide (fcnt p<=k) && tf p (k - fcnt p)
 | .tau p,k=>decide (fcnt p<=5) && decide (fcnt p<=k) && tf p (k - fcnt p)
 | .mat _ _ p,k=>decide (fcnt p<=5) && decide (fcnt p<=k) && tf p (k - fcnt p)
 | .rep p,k=>decide (fcnt p<=5) && decide (fcnt p<=k) && tf p (k - fcnt p)
 | .rcv _ _ p,k=>decide (1<=k) && (decide (fcnt p<=5) && decide (fcnt p<=k - 1) && tf p (k - 1 - fcnt p))
 | .sum p q,k=>(decide (fcnt p<=5) && decide (fcnt p<=k) && tf p (k - fcnt p)) && (decide (fcnt q<=5) && decide (fcnt q<=k) && tf q (k - fcnt q))
def fl (s:Tm)(k:Nat):Bool:=decide (fcnt s<=5) && decide (fcnt s<=k) && tf s (k - fcnt s)
-- letters
theorem abE:∀(k:Nat) (tk:List UInt8),(nexts tk k).length=k:=by
 intro k;induction k with
 | zero=>intro tk;rfl
 | succ k ih=>intro tk;simp[nexts,ih]
theorem an5:∀(k:Nat) (tk:List UInt8),k<=(othL tk).length->nexts tk k=(othL tk).take k/\othL (allT tk k)=(othL tk).drop k:=by
 intro k;induction k with
 | zero=>intro tk _;simp[nexts,allT]
 | succ k ih=>
  intro tk h;rcases fresh_oth tk with⟨c,r,h1,h2,h3⟩|⟨h1,h2⟩
  ·have ha:=ajn h1;rw[h1]at h;have:=ih (addL tk c) (by rw[ha];simpa using h);rw[ha]at this
   simp only[nexts,allT,h2];rw[h1];simp only[List.take_succ_cons,List.drop_succ_cons];exact⟨by rw[this.1],this.2⟩
  ·rw[h1]at h;simp at h
theorem an6:∀(k:Nat) (tk:List UInt8),(othL tk).length<k->∃l∈nexts tk k,nmL l=false:=by
 intro k;induction k with
 | zero=>intro tk h;omega
 | succ k ih=>
  intro tk h;rcases fresh_oth tk with⟨c,r,h1,h2,h3⟩|⟨h1,h2⟩
  ·have ha:=ajn h1;rw[h1]at h;obtain⟨l,hl,e⟩:=ih (addL tk c) (by rw[ha];simpa using h);exact⟨l,by simp only[nexts,h2,List.mem_cons];exact .inr hl,e⟩
  ·refine⟨fresh tk,by simp[nexts],?_⟩
   cases hc:nmL (fresh tk) with
   | false=>rfl
   | true=>rw[nmL_iff]at hc;omega
theorem ake:∀(k:Nat) (tk:List UInt8) (z:UInt8),z∈allT tk k↔z∈tk\/z∈nexts tk k:=by
 intro k;induction k with
 | zero=>intro tk z;simp[allT,nexts]
 | succ k ih=>intro tk z;simp only[allT,nexts,ih,mem_addL,List.mem_cons];grind
theorem air (l:List UInt8):(othL l).Nodup:=(adJ l).imp fun h e=>by rw[e,abT]at h;omega
theorem an7 {l:List UInt8}{z:UInt8}(h:z∈othL l):¬aa4 z:=by
 rw[abv]at h;unfold aa4;omega
theorem acJ:∀(k:Nat) (tk:List UInt8),∀l∈nexts tk k,¬aa4 l:=by
 intro k;induction k with
 | zero=>intro tk l h;simp[nexts]at h
 | succ k ih=>
  intro tk l h;simp only[nexts,List.mem_cons]at h;rcases h with h|h
  ·rw[h];exact acI _
  ·exact ih _ l h
-- orders
theorem acn:∀m,m<=5->∀o∈ords m,o.length=m/\o.Nodup/\∀i,i∈o↔i<m:=by
 have h:∀m,m<=5->∀o∈ords m,o.length=m/\o.Nodup/\(∀i∈o,i<m)/\∀i∈List.range m,i∈o:=by
  intro m hm;have:m=0\/m=1\/m=2\/m=3\/m=4\/m=5:=by omega
  rcases this with rfl|rfl|rfl|rfl|rfl|rfl<;>decide +kernel
 intro m hm o ho;obtain⟨a,b,c,d⟩:=h m hm o ho;exact⟨a,b,fun i=>⟨c i,fun hi=>d i (List.mem_range.2 hi)⟩⟩
theorem acW:∀m,m<=5->ords m≠[]:=by
 intro m hm;have:m=0\/m=1\/m=2\/m=3\/m=4\/m=5:=by omega
 rcases this with rfl|rfl|rfl|rfl|rfl|rfl<;>decide +kernel
-- what is used has its name in the simplified one
theorem an8 (t:Tm):∀(E:UInt8->UInt8->Prop) (s:Tm),Sm t E s->∀u,u∈t.usd->∃v,v∈s.free/\E u v:=by
 induction t with
 | nil=>intro E s _ u hu;simp[Tm.usd]at hu
 | snd a b p ih=>
  rintro E s ⟨a',b',p',rfl,h1,h2,h3⟩ u hu;rw[mu_snd]at hu;rcases hu with rfl|rfl|hu
  ·exact⟨a',by rw[mf_snd];simp,h1⟩
  ·exact⟨b',by rw[mf_snd];simp,h2⟩
  ·obtain⟨v,hv,e⟩:=ih E p' h3 u hu;exact⟨v,by rw[mf_snd];simp[hv],e⟩
 | rcv a x p ih=>
  rintro E s ⟨a',x',p',rfl,h1,h3⟩ u hu;rw[mu_rcv]at hu;rcases hu with rfl|⟨hu,hx⟩
  ·exact⟨a',by rw[mf_rcv];simp,h1⟩
  ·obtain⟨v,hv,e⟩:=ih _ p' h3 u hu;rcases e with⟨e,_⟩|⟨_,e1,e2⟩
   ·exact absurd e hx
   ·exact⟨v,by rw[mf_rcv];exact .inr ⟨hv,e1⟩,e2⟩
 | tau p ih=>
  rintro E s ⟨p',rfl,h3⟩ u hu;rw[mu_tau]at hu;obtain⟨v,hv,e⟩:=ih E p' h3 u hu;exact⟨v,by rw[mf_tau];exact hv,e⟩
 | sum p q ih ih2=>
  intro E s h u hu;rw[mu_sum]at hu;unfold Sm at h
  split at h
  ·rename_i c;rw[dead_usd _ c]at hu;exact ih2 E s h u (by simpa using hu)
  ·split at h
   ·rename_i c;rw[dead_usd _ c]at hu;exact ih E s h u (by simpa using hu)
   ·obtain⟨p',q',rfl,h1,h2⟩:=h;rcases hu with hu|hu
    ·obtain⟨v,hv,e⟩:=ih E p' h1 u hu;exact⟨v,by rw[mf_sum];exact .inl hv,e⟩
    ·obtain⟨v,hv,e⟩:=ih2 E q' h2 u hu;exact⟨v,by rw[mf_sum];exact .inr hv,e⟩
 | par p q ih ih2=>
  intro E s h u hu;rw[mu_par]at hu;unfold Sm at h
  split at h
  ·rename_i c;rw[dead_usd _ c]at hu;exact ih2 E s h u (by simpa using hu)
  ·split at h
   ·rename_i c;rw[dead_usd _ c]at hu;exact ih E s h u (by simpa using hu)
   ·obtain⟨p',q',rfl,h1,h2⟩:=h;rcases hu with hu|hu
    ·obtain⟨v,hv,e⟩:=ih E p' h1 u hu;exact⟨v,by rw[mf_par];exact .inl hv,e⟩
    ·obtain⟨v,hv,e⟩:=ih2 E q' h2 u hu;exact⟨v,by rw[mf_par];exact .inr hv,e⟩
 | own x p ih=>
  intro E s h u hu;rw[mu_own]at hu;unfold Sm at h
  split at h
  ·obtain⟨x',p',rfl,h1⟩:=h;obtain⟨v,hv,e⟩:=ih _ p' h1 u hu.1;rcases e with⟨e,_⟩|⟨_,e1,e2⟩
   ·exact absurd e hu.2
   ·exact⟨v,by rw[mf_own];exact⟨hv,e1⟩,e2⟩
  ·exact ih E s h u hu.1
 | mat a b p ih=>
  intro E s h u hu;rw[mu_mat]at hu;unfold Sm at h
  split at h
  ·rename_i c;exact ih E s h u (by grind)
  ·rename_i c
   split at h
   ·rename_i d;grind
   ·obtain⟨a',b',p',rfl,h1,h2,h3⟩:=h;have hu:u=a\/u=b\/u∈p.usd:=by grind
    rcases hu with rfl|rfl|hu
    ·exact⟨a',by rw[mf_mat];simp,h1⟩
    ·exact⟨b',by rw[mf_mat];simp,h2⟩
    ·obtain⟨v,hv,e⟩:=ih E p' h3 u hu;exact⟨v,by rw[mf_mat];simp[hv],e⟩
 | rep p ih=>
  intro E s h u hu;rw[mu_rep]at hu;unfold Sm at h
  split at h
  ·rename_i c;rw[dead_usd _ c]at hu;simp at hu
  ·obtain⟨p',rfl,h3⟩:=h;obtain⟨v,hv,e⟩:=ih E p' h3 u hu;exact⟨v,by rw[mf_rep];exact hv,e⟩
theorem an9 (t:Tm):∀(E:UInt8->UInt8->Prop) (s:Tm),t.dead=false->Sm t E s->(lvl s).2≠[]:=by
 induction t with
 | nil=>intro E s h;simp[Tm.dead]at h
 | snd a b p ih=>rintro E s _ ⟨a',b',p',rfl,_⟩;simp[lvl]
 | rcv a x p ih=>rintro E s _ ⟨a',x',p',rfl,_⟩;simp[lvl]
 | tau p ih=>rintro E s _ ⟨p',rfl,_⟩;simp[lvl]
 | sum p q ih ih2=>
  intro E s h hs;simp only[Tm.dead,Bool.and_eq_false_iff]at h;unfold Sm at hs
  split at hs
  ·exact ih2 E s (by grind) hs
  ·split at hs
   ·exact ih E s (by grind) hs
   ·obtain⟨p',q',rfl,_⟩:=hs;simp[lvl]
 | par p q ih ih2=>
  intro E s h hs;simp only[Tm.dead,Bool.and_eq_false_iff]at h;unfold Sm at hs
  split at hs
  ·exact ih2 E s (by grind) hs
  ·split at hs
   ·exact ih E s (by grind) hs
   ·obtain⟨p',q',rfl,h1,h2⟩:=hs;have:=ih E p' (by grind) h1;simp only[lvl];intro e;exact this (List.append_eq_nil_iff.1 e).1
 | own x p ih=>
  intro E s h hs;have h':p.dead=false:=h;unfold Sm at hs
  split at hs
  ·obtain⟨x',p',rfl,h1⟩:=hs;exact ih _ p' h' h1
  ·exact ih E s h' hs
 | mat a b p ih=>
  intro E s h hs;have h':p.dead=false:=h;unfold Sm at hs
  split at hs
  ·exact ih E s h' hs
  ·rw[if_neg (by rw[h'];simp)]at hs;obtain⟨a',b',p',rfl,_⟩:=hs;simp[lvl]
 | rep p ih=>
  intro E s h hs;have h':p.dead=false:=h;unfold Sm at hs;rw[if_neg (by rw[h'];simp)]at hs;obtain⟨p',rfl,_⟩:=hs;simp[lvl]
def plc:Tm->Nat
 | .nil=>0
 | .snd _ _ p=>plc p+2
 | .rcv _ _ p=>plc p+1
 | .tau p=>plc p
 | .sum p q=>plc p+plc q
 | .par p q=>plc p+plc q
 | .own _ p=>plc p
 | .mat _ _ p=>plc p+2
 | .rep p=>plc p
theorem afE (l A:List UInt8):(bothL l A).length<=l.length+A.length:=adK l A
theorem ac9 (s:Tm):s.free.length<=plc s:=by
 induction s with
 | nil=>simp[Tm.free,plc]
 | snd a b p ih=>simp only[Tm.free,plc,abA (aav p)];have:=abY b (addL p.free a);have:=abY a p.free;omega
 | mat a b p ih=>simp only[Tm.free,plc,abA (aav p)];have:=abY b (addL p.free a);have:=abY a p.free;omega
 | rcv a x p ih=>
  simp only[Tm.free,plc,abA (aav p)];have:=abY a (abI p.free x);have:(abI p.free x).length<=p.free.length:=List.length_filter_le _ _;omega
 | own x p ih=>
  simp only[Tm.free,plc,abA (aav p)];have:(abI p.free x).length<=p.free.length:=List.length_filter_le _ _;omega
 | tau p ih=>simp only[Tm.free,plc,abA (aav p)];exact ih
 | rep p ih=>simp only[Tm.free,plc,abA (aav p)];exact ih
 | sum p q ih ih2=>simp only[Tm.free,plc,abA (aav p)];have:=afE p.free q.free;omega
 | par p q ih ih2=>simp only[Tm.free,plc,abA (aav p)];have:=afE p.free q.free;omega
theorem ac_ (t:Tm):∀(E:UInt8->UInt8->Prop) (s:Tm),Sm t E s->fcnt s+s.free.length<=plc s/\2 * fcnt s+plc s<=2 * s.size/\s.size<=t.size:=by
 have hp:∀s,2 * 0+plc s<=2 * s.size:=by
  intro s;induction s<;>simp only[plc,Tm.size]<;>omega
 induction t with
 | nil=>rintro E s rfl;exact⟨by simp[fcnt,lvl,Tm.free],by simp[fcnt,lvl,plc],nl _⟩
 | snd a b p ih=>
  rintro E s ⟨a',b',p',rfl,h1,h2,h3⟩;have:=(ih _ _ h3).2.2;exact⟨by simpa [fcnt,lvl] using ac9 _,by simpa [fcnt,lvl] using hp _,by simp only[Tm.size];omega⟩
 | rcv a x p ih=>
  rintro E s ⟨a',x',p',rfl,h1,h3⟩;have:=(ih _ _ h3).2.2;exact⟨by simpa [fcnt,lvl] using ac9 _,by simpa [fcnt,lvl] using hp _,by simp only[Tm.size];omega⟩
 | tau p ih=>
  rintro E s ⟨p',rfl,h3⟩;have:=(ih _ _ h3).2.2;exact⟨by simpa [fcnt,lvl] using ac9 _,by simpa [fcnt,lvl] using hp _,by simp only[Tm.size];omega⟩
 | sum p q ih ih2=>
  intro E s h;unfold Sm at h
  split at h
  ·have:=ih2 E s h;exact⟨this.1,this.2.1,by simp only[Tm.size];omega⟩
  ·split at h
   ·have:=ih E s h;exact⟨this.1,this.2.1,by simp only[Tm.size];omega⟩
   ·obtain⟨p',q',rfl,h1,h2⟩:=h;have:=(ih _ _ h1).2.2;have:=(ih2 _ _ h2).2.2;exact⟨by simpa [fcnt,lvl] using ac9 _,by simpa [fcnt,lvl] using hp _,by simp only[Tm.size];omega⟩
 | par p q ih ih2=>
  intro E s h;unfold Sm at h
  split at h
  ·have:=ih2 E s h;exact⟨this.1,this.2.1,by simp only[Tm.size];omega⟩
  ·split at h
   ·have:=ih E s h;exact⟨this.1,this.2.1,by simp only[Tm.size];omega⟩
   ·obtain⟨p',q',rfl,h1,h2⟩:=h;have a:=ih _ _ h1;have b:=ih2 _ _ h2;have e:fcnt (.par p' q')=fcnt p'+fcnt q':=by simp[fcnt,lvl]
    have c:=afE p'.free q'.free;have d:(Tm.par p' q').free=bothL p'.free q'.free:=by simp only[Tm.free,abA (aav p')]
    rw[d,e];exact⟨by simp only[plc];omega,by simp only[plc,Tm.size];omega,by simp only[Tm.size];omega⟩
 | own x p ih=>
  intro E s h;unfold Sm at h
  split at h
  ·rename_i c
   obtain⟨x',p',rfl,h1⟩:=h;have a:=ih _ _ h1;obtain⟨v,hv,e⟩:=an8 p _ p' h1 x c
   have hx:x'∈p'.free:=by
    rcases e with⟨_,e⟩|⟨e,_⟩
    ·exact e▸hv
    ·exact absurd rfl e
   have e:fcnt (.own x' p')=fcnt p'+1:=by simp[fcnt,lvl]
   have d:(Tm.own x' p').free=abI p'.free x':=by simp only[Tm.free,abA (aav p')]
   have l:=aiq hx;rw[d,e];exact⟨by simp only[plc];omega,by simp only[plc,Tm.size];omega,by simp only[Tm.size];omega⟩
  ·have:=ih E s h;exact⟨this.1,this.2.1,by simp only[Tm.size];omega⟩
 | mat a b p ih=>
  intro E s h;unfold Sm at h
  split at h
  ·have:=ih E s h;exact⟨this.1,this.2.1,by simp only[Tm.size];omega⟩
  ·split at h
   ·subst h;exact⟨by simp[fcnt,lvl,Tm.free],by simp[fcnt,lvl,plc],by simp only[Tm.size];omega⟩
   ·obtain⟨a',b',p',rfl,h1,h2,h3⟩:=h;have:=(ih _ _ h3).2.2;exact⟨by simpa [fcnt,lvl] using ac9 _,by simpa [fcnt,lvl] using hp _,by simp only[Tm.size];omega⟩
 | rep p ih=>
  intro E s h;unfold Sm at h
  split at h
  ·subst h;exact⟨by simp[fcnt,lvl,Tm.free],by simp[fcnt,lvl,plc],by simp only[Tm.size];omega⟩
  ·obtain⟨p',rfl,h3⟩:=h;have:=(ih _ _ h3).2.2;exact⟨by simpa [fcnt,lvl] using ac9 _,by simpa [fcnt,lvl] using hp _,by simp only[Tm.size];omega⟩
theorem an_ {t s:Tm}{E:UInt8->UInt8->Prop}(h:Sm t E s)(hs:t.size<=121):fcnt s<=89:=by
 have:=ac_ t E s h;omega
theorem adM (s:Tm):s.bnd.Perm ((lvl s).1++(lvl s).2.flatMap Tm.bnd):=by
 induction s with
 | nil=>simp[Tm.bnd,lvl]
 | own x p ih=>simp only[Tm.bnd,lvl,List.cons_append];exact ih.cons x
 | par p q ih ih2=>
  simp only[Tm.bnd,lvl,List.flatMap_append];refine(ih.append ih2).trans ?_;rw[List.append_assoc,List.append_assoc];refine List.Perm.append_left _ ?_;rw[<-List.append_assoc,<-List.append_assoc];exact List.Perm.append_right _ List.perm_append_comm
 | _=>simp[Tm.bnd,lvl]
theorem asI {s:Tm}(h:s.bnd.Nodup):(lvl s).1.Nodup/\(∀T∈(lvl s).2,T.bnd.Nodup)/\∀z∈(lvl s).1,∀T∈(lvl s).2,z∉T.bnd:=by
 have h:=(adM s).nodup_iff.1 h;rw[List.nodup_append]at h;refine⟨h.1,fun T hT=>?_,fun z hz T hT hz2=>h.2.2 z hz z (List.mem_flatMap.2 ⟨T,hT,hz2⟩) rfl⟩;have:=h.2.1;unfold List.Nodup at this ⊢
 rw[List.pairwise_flatMap]at this
 exact this.1 T hT
theorem ax7 {t:Tm}{o m:UInt8}(h:Thr t)(hm:m∉t.usd):Thr (R t o m):=by
 by_cases hs:o=m\/o∉t.free
 ·rw[abk _ _ _ hs];exact h
 ·obtain⟨h1,h2,h3,h4⟩:=h
  cases t with
  | nil=>simp[Tm.dead]at h1
  | snd a b p=>rw[aet hs];exact⟨rfl,trivial,by intros;simp,by intros;simp⟩
  | rcv a x p=>rw[ae5 hs];exact⟨rfl,trivial,by intros;simp,by intros;simp⟩
  | tau p=>rw[aev hs];exact⟨rfl,trivial,by intros;simp,by intros;simp⟩
  | sum p q=>
   have:=abR (.sum p q) o m;rw[adI hs]at this ⊢
   exact⟨this.trans h1,⟨by rw[abR];exact h2.1,by rw[abR];exact h2.2⟩,by intros;simp,by intros;simp⟩
  | par p q=>exact absurd rfl (h3 p q)
  | own x p=>exact absurd rfl (h4 x p)
  | mat a b p=>
   have:=abR (.mat a b p) o m;rw[aeu hs]at this ⊢
   refine⟨this.trans h1,?_,by intros;simp,by intros;simp⟩;have hd:p.dead=false:=h1;have hne:a≠b:=h2;rw[mu_mat]at hm;show sw a o m≠sw b o m;unfold sw;grind
  | rep p=>
   have:=abR (.rep p) o m;rw[aew hs]at this ⊢
   exact⟨this.trans h1,trivial,by intros;simp,by intros;simp⟩
theorem awn {l:List UInt8}(h:l.Nodup){i j:Nat}(hi:i<l.length)(hj:j<l.length)(e:l[i]=l[j]):i=j:=by
 unfold List.Nodup at h;rw[List.pairwise_iff_getElem]at h;rcases Nat.lt_trichotomy i j with h1|h1|h1
 ·exact absurd e (h i j hi hj h1)
 ·exact h1
 ·exact absurd e.symm (h j i hj hi h1)
theorem awo:∀(o:List Nat) (ls:List UInt8) (T:Tm) (X:UInt8->UInt8->Prop) (L:UInt8->UInt8) (G:List UInt8) (A V:UInt8->Prop) (s':Tm), o.length=ls.length->o.Nodup->ls.Nodup->G.Nodup->G.length<=89->(∀i∈o,i<G.length)->(∀l∈ls,¬aa4 l/\A l)-> FitX T->(Fit T\/o=[])->Thr T->Sm T X s'-> (∀u v,X u v->V v/\((∃i,i∈o/\u=gl i/\v=G.getD i 0)\/(u=L v/\A u/\u∉ls/\¬aa4 u/\∀i∈o,v≠G.getD i 0)))-> Sm (nmG o ls T) (fun u v=>u=updL L (o.map fun i=>G.getD i 0) ls v/\V v/\A u) s'/\FitX (nmG o ls T)/\Thr (nmG o ls T)/\(nmG o ls T).size=T.size/\ ∀z,(z∈(nmG o ls T).free\/z∈(nmG o ls T).bnd)->(z∈T.free/\∀i∈o,z≠gl i)\/z∈T.bnd\/¬aa4 z:=by
 intro o
 induction o with
 | nil=>
  intro ls T X L G A V s' hlen _ _ _ _ _ _ hX _ hT hS hE
  cases ls with
  | cons l ls=>simp at hlen
  | nil=>
   refine⟨aaV T X _ s' (fun u v _ he=>?_) hS,hX,hT,rfl,fun z hz=>?_⟩
   ·obtain⟨h1,h2⟩:=hE u v he;rcases h2 with⟨i,hi,_⟩|⟨h2,h3,_⟩
    ·simp at hi
    ·exact⟨h2,h1,h3⟩
   ·exact hz.imp (fun h=>⟨h,fun i hi=>by simp at hi⟩) .inl
 | cons i o ih=>
  intro ls T X L G A V s' hlen ho hls hG hGl hio hl hX hF hT hS hE
  cases ls with
  | nil=>simp at hlen
  | cons l ls=>
   have hF:Fit T:=hF.resolve_right (by simp);simp only[List.length_cons,Nat.add_right_cancel_iff]at hlen;rw[List.nodup_cons]at ho hls;have hig:i<G.length:=hio i (by simp);have hgl:gl i≠l:=fun e=>(hl l (by simp)).1 (e▸ace (by omega))
   have hlu:l∉T.usd:=fun hu=>by
    obtain⟨v,_,e⟩:=an8 T X s' hS l hu;rcases (hE l v e).2 with⟨j,hj,e,_⟩|⟨_,_,e,_⟩
    ·exact(hl l (by simp)).1 (e▸ace (by have:=hio j hj;omega))
    ·exact e (by simp)
   have hS1:=ax6 _ T (gl i) l X s' (nl _) (fit_roomy hF _ _) hgl hlu hS;have hF1:=afB hF (gl i) l
   have hinj:∀j,j∈o->G.getD j 0≠G.getD i 0:=fun j hj e=>by
    have hj2:j<G.length:=hio j (by simp[hj]);rw[List.getD_eq_getElem?_getD,List.getD_eq_getElem?_getD,List.getElem?_eq_getElem hj2,List.getElem?_eq_getElem hig]at e;exact ho.1 (awn hG hj2 hig (by simpa using e)▸hj)
   obtain⟨a1,a2,a3,a4,a5⟩:=ih ls (R T (gl i) l) _ (upd L (G.getD i 0) l) G A V s' hlen ho.2 hls.2 hG hGl (fun j hj=>hio j (by simp[hj])) (fun z hz=>hl z (by simp[hz])) (.inl hF1) (.inl hF1) (ax7 hT hlu) hS1 (fun u v he=>by
    rcases he with⟨e1,he⟩|⟨d1,d2,he⟩
    ·obtain⟨h1,h2⟩:=hE _ v he;refine⟨h1,.inr ?_⟩;rcases h2 with⟨j,hj,e,ev⟩|⟨_,_,_,e,_⟩
     ·have:i=j:=aip (by omega) (by have:=hio j hj;omega) e;subst this
      refine⟨by unfold upd;rw[if_pos ev];exact e1,e1▸(hl l (by simp)).2,e1▸hls.1,e1▸(hl l (by simp)).1,fun j hj=>?_⟩;rw[ev];exact(hinj j hj).symm
     ·exact absurd (ace (by omega)) e
    ·obtain⟨h1,h2⟩:=hE u v he;refine⟨h1,?_⟩;rcases h2 with⟨j,hj,e,ev⟩|⟨e1,e2,e3,e4,e5⟩
     ·rcases List.mem_cons.1 hj with hj|hj
      ·exact absurd (hj▸e) d2
      ·exact .inl ⟨j,hj,e,ev⟩
     ·refine .inr ⟨?_,e2,fun h=>e3 (by simp[h]),e4,fun j hj=>e5 j (by simp[hj])⟩
      unfold upd;rw[if_neg (e5 i (by simp))];exact e1)
   refine⟨a1,a2,a3,by rw[<-R_size T (gl i) l];exact a4,fun z hz=>?_⟩;rcases a5 z hz with⟨h1,h2⟩|h|h
   ·have:=(R_free _ T (gl i) l (nl _) (fit_roomy hF _ _) hgl z).1 h1
    rcases this with⟨f1,f2⟩|⟨f1,_⟩
    ·exact .inl ⟨f1,fun j hj=>by
      rcases List.mem_cons.1 hj with hj|hj
      ·exact hj▸f2
      ·exact h2 j hj⟩
    ·exact .inr (.inr (f1▸(hl l (by simp)).1))
   ·rcases R_bnds _ T (gl i) l (nl _) z h with h|h
    ·exact .inr (.inl h)
    ·exact .inr (.inr h)
   ·exact .inr (.inr h)
structure Cx (t:Tm) (E:UInt8->UInt8->Prop) (s:Tm) (L:UInt8->UInt8) (tk:List UInt8):Prop where
 sm:Sm t E s
 ng:∀z,z∈t.free\/z∈t.bnd->¬aa4 z
 nd:s.bnd.Nodup
 rel:∀u v,E u v->u=L v/\v∉s.bnd/\u∈tk/\¬aa4 u
 sz:t.size<=121
def Good (r:Tm × Bool)(b:Bool)(m:Tm):Prop:=(b=true->r=(m,false))/\(b=false->r.2=true\/r.1.ok nmL=false)
theorem aez {r:Tm × Bool}{b:Bool}{m:Tm}(h:Good r b m)(hb:b=true):r=(m,false):=h.1 hb
def ays (n:Nat)(once:Bool):Prop:=∀t tk s E L,t.size<=n->FitT t->Cx t E s L tk->Good (whl n once t tk) (fl s (othL tk).length) (mid n once L (othL tk) s)
theorem acX (s:Tm)(k:Nat):(fl s k=true->∀q∈smds s,fl q k=true)/\(fl s k=false->∃q,q∈smds s/\fl q k=false):=by
 induction s with
 | sum p q ih ih2=>
  have e:fl (.sum p q) k=(fl p k && fl q k):=by unfold fl;simp[fcnt,lvl,tf]<;>rfl
  simp only[smds];rw[e];constructor
  ·intro h z hz;rw[bae]at h;rcases lma.1 hz with hz|hz
   ·exact ih.1 h.1 z hz
   ·exact ih2.1 h.2 z hz
  ·intro h;rw[Bool.and_eq_false_iff]at h;rcases h with h|h
   ·obtain⟨z,hz,e⟩:=ih.2 h;exact⟨z,List.mem_append_left _ hz,e⟩
   ·obtain⟨z,hz,e⟩:=ih2.2 h;exact⟨z,List.mem_append_right _ hz,e⟩
 | _=>exact⟨fun h z hz=>by simp only[smds,List.mem_singleton]at hz;rw[hz];exact h,fun h=>⟨_,by simp only[smds,List.mem_singleton],h⟩⟩
theorem aoa {s:Tm}(h:s.bnd.Nodup):∀q∈smds s,q.bnd.Nodup/\∀z,z∈q.bnd->z∈s.bnd:=by
 induction s with
 | sum p q ih ih2=>
  intro z hz;have h':(p.bnd++q.bnd).Nodup:=h;rw[List.nodup_append]at h';simp only[smds]at hz;rcases lma.1 hz with hz|hz
  ·exact⟨(ih h'.1 z hz).1,fun y hy=>by simp only[Tm.bnd,lma];exact .inl ((ih h'.1 z hz).2 y hy)⟩
  ·exact⟨(ih2 h'.2.1 z hz).1,fun y hy=>by simp only[Tm.bnd,lma];exact .inr ((ih2 h'.2.1 z hz).2 y hy)⟩
 | _=>intro z hz;simp only[smds,List.mem_singleton]at hz;rw[hz];exact⟨h,fun _ h=>h⟩
theorem aob (n:Nat):∀(t:Tm) (E:UInt8->UInt8->Prop) (s:Tm),t.size<=n->t.dead=false->Sm t E s->Fit t-> All2 (fun q q'=>Sm q E q'/\Fit q/\q.size<=t.size/\∀z,z∈q.free\/z∈q.bnd->z∈t.free\/z∈t.bnd) (Tm.sums n t) (smds s):=by
 induction n with
 | zero=>intro t E s h;have:=aao t;omega
 | succ n ih=>
  intro t E s hn hd hS hf;have hps:=abm t;have hSp:=an2 t E s hS;have hpf:=ab9 t;have hd':=afC t;have hnm:=act t;have hfp:=acH t hf;unfold Tm.sums
  generalize hu:t.peel=u at *
  rw[hd]at hd'
  cases u with
  | sum p q=>
   have h':=hSp;unfold Sm at h';rw[if_neg (by rw[hpf.1];simp),if_neg (by rw[hpf.2];simp)]at h';obtain⟨p',q',rfl,h1,h2⟩:=h';have hsz:p.size+q.size+1<=t.size:=hps.2.2.1;simp only[smds];refine .append ((ih p E p' (by omega) hpf.1 h1 (ae9 (.inl hfp)).1).mono fun a b _ _ h=>?_) ((ih q E q' (by omega) hpf.2 h2 (ae9 (.inl hfp)).2).mono fun a b _ _ h=>?_)
   ·exact⟨h.1,h.2.1,by omega,fun z hz=>hnm z (by rw[mf_sum];simp only[Tm.bnd,lma];have:=h.2.2.2 z hz;grind)⟩
   ·exact⟨h.1,h.2.1,by omega,fun z hz=>hnm z (by rw[mf_sum];simp only[Tm.bnd,lma];have:=h.2.2.2 z hz;grind)⟩
  | nil=>simp[Tm.dead]at hd'
  | snd a b p=>obtain⟨a',b',p',rfl,_⟩:=id hSp;exact .cons ⟨hSp,hfp,hps.2.2.1,hnm⟩ .nil
  | rcv a x p=>obtain⟨a',x',p',rfl,_⟩:=id hSp;exact .cons ⟨hSp,hfp,hps.2.2.1,hnm⟩ .nil
  | tau p=>obtain⟨p',rfl,_⟩:=id hSp;exact .cons ⟨hSp,hfp,hps.2.2.1,hnm⟩ .nil
  | par p q=>
   have h':=hSp;unfold Sm at h';rw[if_neg (by rw[hpf.1];simp),if_neg (by rw[hpf.2];simp)]at h';obtain⟨p',q',rfl,h1,h2⟩:=h';simp only[hd',Bool.false_eq_true,if_false];exact .cons ⟨hSp,hfp,hps.2.2.1,hnm⟩ .nil
  | own x p=>
   have h':=hSp;unfold Sm at h';rw[if_pos (show x∈p.usd from hpf)]at h';obtain⟨x',p',rfl,h1⟩:=h';simp only[hd',Bool.false_eq_true,if_false];exact .cons ⟨hSp,hfp,hps.2.2.1,hnm⟩ .nil
  | mat a b p=>
   have h':=hSp;unfold Sm at h';rw[if_neg hpf,if_neg (show ¬p.dead=true by rw[show p.dead=false from hd'];simp)]at h';obtain⟨a',b',p',rfl,_⟩:=h';simp only[hd',Bool.false_eq_true,if_false];exact .cons ⟨hSp,hfp,hps.2.2.1,hnm⟩ .nil
  | rep p=>
   have h':=hSp;unfold Sm at h';rw[if_neg (show ¬p.dead=true by rw[show p.dead=false from hd'];simp)]at h';obtain⟨p',rfl,_⟩:=h';simp only[hd',Bool.false_eq_true,if_false];exact .cons ⟨hSp,hfp,hps.2.2.1,hnm⟩ .nil
theorem All2.ex {α β:Type}{P:α->β->Prop}{l:List α}{m:List β}(h:All2 P l m):∀b∈m,∃a∈l,P a b:=by
 induction h with
 | nil=>intro b hb;simp at hb
 | cons p _ ih=>
  intro b hb;rcases List.mem_cons.1 hb with rfl|hb
  ·exact⟨_,by simp,p⟩
  ·obtain⟨a,ha,e⟩:=ih b hb;exact⟨a,by simp[ha],e⟩
theorem All2.ex' {α β:Type}{P:α->β->Prop}{l:List α}{m:List β}(h:All2 P l m):∀a∈l,∃b∈m,P a b:=by
 induction h with
 | nil=>intro b hb;simp at hb
 | cons p _ ih=>
  intro b hb;rcases List.mem_cons.1 hb with rfl|hb
  ·exact⟨_,by simp,p⟩
  ·obtain⟨a,ha,e⟩:=ih b hb;exact⟨a,by simp[ha],e⟩
theorem All2.map_eq {α β γ:Type}{f:α->γ}{g:β->γ}{l:List α}{m:List β}(h:All2 (fun a b=>f a=g b) l m):l.map f=m.map g:=by
 induction h with
 | nil=>rfl
 | cons p _ ih=>simp[p,ih]
theorem aaG (l:List Tm)(t:Tm):t∈srtT l↔t∈l:=List.mem_mergeSort
theorem aoc {nm:UInt8->Bool}:∀l:List Tm,(joinR .sum l).ok nm=true->∀t∈l,t.ok nm=true:=by
 intro l;induction l with
 | nil=>intro _ t ht;simp at ht
 | cons a l ih=>
  cases l with
  | nil=>intro h t ht;rw[List.mem_singleton.1 ht];exact h
  | cons b l=>
   intro h t ht;simp only[joinR,Tm.ok,bae]at h;rcases List.mem_cons.1 ht with rfl|ht
   ·exact h.1
   ·exact ih h.2 t ht
theorem ais {nm:UInt8->Bool}:∀l:List Tm,(joinR .par l).ok nm=true->∀t∈l,t.ok nm=true:=by
 intro l;induction l with
 | nil=>intro _ t ht;simp at ht
 | cons a l ih=>
  cases l with
  | nil=>intro h t ht;rw[List.mem_singleton.1 ht];exact h
  | cons b l=>
   intro h t ht;simp only[joinR,Tm.ok,bae]at h;rcases List.mem_cons.1 ht with rfl|ht
   ·exact h.1
   ·exact ih h.2 t ht
theorem acu:∀l:List Tm,l≠[]->ahp l∈l:=by
 have h:∀(cs:List Tm) (c:Tm),cs.foldl (fun b c=>if c.pr<b.pr then c else b) c=c\/cs.foldl (fun b c=>if c.pr<b.pr then c else b) c∈cs:=by
  intro cs;induction cs with
  | nil=>intro c;exact .inl rfl
  | cons d cs ih=>
   intro c;simp only[List.foldl_cons];rcases ih (if d.pr<c.pr then d else c) with h|h
   ·rw[h];split
    ·exact .inr (by simp)
    ·exact .inl rfl
   ·exact .inr (by simp[h])
 intro l hl
 cases l with
 | nil=>exact absurd rfl hl
 | cons c cs=>
  show cs.foldl (fun b c=>if c.pr<b.pr then c else b) c∈c::cs;rcases h cs c with e|e
  ·rw[e];simp
  ·exact List.mem_cons_of_mem _ e
theorem akf {nm:UInt8->Bool}(t:Tm):∀ls:List UInt8,(wrapO ls t).ok nm=true->(∀l∈ls,nm l=true)/\t.ok nm=true:=by
 intro ls;induction ls with
 | nil=>intro h;exact⟨fun l hl=>by simp at hl,h⟩
 | cons a ls ih=>
  intro h;have h':(nm a && (wrapO ls t).ok nm)=true:=h;rw[bae]at h';obtain⟨a1,a2⟩:=ih h'.2
  exact⟨fun l hl=>by
   rcases List.mem_cons.1 hl with rfl|hl
   ·exact h'.1
   ·exact a1 l hl,a2⟩
theorem abZ {nm:UInt8->Bool}{t:Tm}(h:t.ok nm=true->False):t.ok nm=false:=by
 cases e:t.ok nm with
 | false=>rfl
 | true=>exact(h e).elim
theorem alP {tk:List UInt8}{c:UInt8}{r:List UInt8}(h:othL tk=c::r):fresh tk=c/\othL (addL tk c)=r/\c∉tk/\¬aa4 c:=by
 have hc:c∈othL tk:=by rw[h];simp
 refine⟨?_,ajn h,((abv _ _).1 hc).2,an7 hc⟩;rcases fresh_oth tk with⟨c',r',h1,h2,_⟩|⟨h1,_⟩
 ·rw[h]at h1;injection h1 with e1 _;rw[h2,e1]
 ·rw[h]at h1;cases h1
theorem alQ {tk:List UInt8}(h:othL tk=[]):nmL (fresh tk)=false:=by
 rcases fresh_oth tk with⟨c,r,h1,_⟩|⟨_,h2⟩
 ·rw[h]at h1;cases h1
 ·cases hc:nmL (fresh tk) with
  | false=>rfl
  | true=>rw[nmL_iff]at hc;omega
theorem aod {t:Tm}(h:FitX t)(hp:∀p q,t≠.sum p q):Fit t:=by
 rcases h with h|⟨p,q,e,_⟩
 ·exact h
 ·exact absurd e (hp p q)
theorem awp (n:Nat)(once:Bool)(H:ays n once)(T:Tm)(tk:List UInt8)(T':Tm)(E:UInt8->UInt8->Prop)(L:UInt8->UInt8) (hn:T.size<=n+1)(hX:FitX T)(hT:Thr T)(cx:Cx T E T' L tk) : Good (thS (whl n once) T tk) (tf T' (othL tk).length) (thI (mid n once) L (othL tk) T'):=by
 obtain⟨hsm,hng,hnd,hrel,hsz⟩:=cx;obtain⟨t1,t2,t3,t4⟩:=hT
 cases T with
 | nil=>simp[Tm.dead]at t1
 | par p q=>exact absurd rfl (t3 p q)
 | own x p=>exact absurd rfl (t4 x p)
 | snd a b p=>
  obtain⟨a',b',p',rfl,h1,h2,h3⟩:=hsm;have hf:Fit p:=aa9 (aod hX (by intros;simp)) (nl _) (fun z hz=>by rw[mf_snd];simp[hz]);simp only[Tm.size]at hn hsz;have g:=H p tk p' E L (by omega) (.inl hf) ⟨h3,fun z hz=>hng z (by rw[mf_snd];simp only[Tm.bnd];grind),hnd,hrel,by omega⟩;have e1:=(hrel _ _ h1).1;have e2:=(hrel _ _ h2).1;refine⟨fun hb=>?_,fun hb=>?_⟩
  ·have:=aez g hb;simp only[thS,thI,this,<-e1,<-e2]
  ·refine(g.2 hb).imp id fun h=>abZ fun h'=>?_;simp only[thS,Tm.ok,bae]at h';rw[h]at h';simp at h'
 | tau p=>
  obtain⟨p',rfl,h3⟩:=hsm;have hf:Fit p:=aa9 (aod hX (by intros;simp)) (nl _) (fun z hz=>by rw[mf_tau];exact hz);simp only[Tm.size]at hn hsz;have g:=H p tk p' E L (by omega) (.inl hf) ⟨h3,fun z hz=>hng z (by rw[mf_tau];simp only[Tm.bnd];grind),hnd,hrel,by omega⟩;refine⟨fun hb=>?_,fun hb=>?_⟩
  ·have:=aez g hb;simp only[thS,thI,this]
  ·refine(g.2 hb).imp id fun h=>abZ fun h'=>?_;simp only[thS,Tm.ok]at h';rw[h]at h';simp at h'
 | rep p=>
  have hd:¬p.dead=true:=by rw[show p.dead=false from t1];simp
  unfold Sm at hsm;rw[if_neg hd]at hsm;obtain⟨p',rfl,h3⟩:=hsm;have hf:Fit p:=aa9 (aod hX (by intros;simp)) (nl _) (fun z hz=>by rw[mf_rep];exact hz);simp only[Tm.size]at hn hsz;have g:=H p tk p' E L (by omega) (.inl hf) ⟨h3,fun z hz=>hng z (by rw[mf_rep];simp only[Tm.bnd];grind),hnd,hrel,by omega⟩;refine⟨fun hb=>?_,fun hb=>?_⟩
  ·have:=aez g hb;simp only[thS,thI,this]
  ·refine(g.2 hb).imp id fun h=>abZ fun h'=>?_;simp only[thS,Tm.ok]at h';rw[h]at h';simp at h'
 | mat a b p=>
  have hd:¬p.dead=true:=by rw[show p.dead=false from t1];simp
  unfold Sm at hsm;rw[if_neg (show ¬a=b from t2),if_neg hd]at hsm;obtain⟨a',b',p',rfl,h1,h2,h3⟩:=hsm;have hf:Fit p:=aa9 (aod hX (by intros;simp)) (nl _) (fun z hz=>by rw[mf_mat];simp[hz]);simp only[Tm.size]at hn hsz;have g:=H p tk p' E L (by omega) (.inl hf) ⟨h3,fun z hz=>hng z (by rw[mf_mat];simp only[Tm.bnd];grind),hnd,hrel,by omega⟩;have e1:=(hrel _ _ h1).1;have e2:=(hrel _ _ h2).1;refine⟨fun hb=>?_,fun hb=>?_⟩
  ·have:=aez g hb;simp only[thS,thI,this,<-e1,<-e2]
  ·refine(g.2 hb).imp id fun h=>abZ fun h'=>?_;simp only[thS]at h';split at h'<;>simp only[Tm.ok,bae]at h'<;>rw[h]at h'<;>simp at h'
 | rcv a x p=>
  obtain⟨a',x',p',rfl,h1,h3⟩:=hsm;have hfT:=aod hX (by intros;simp);have hf:Fit p:=acG (x:=x) hfT (by simp only[Tm.bdp];try omega) (fun z hz=>by rw[mf_rcv];grind);simp only[Tm.size]at hn hsz;have e1:=(hrel _ _ h1).1;rcases ho:othL tk with _|⟨c,r⟩
  ·have hbad:=alQ ho;refine⟨fun hb=>by simp[tf]at hb,fun hb=>.inr (abZ fun h'=>?_)⟩;simp only[thS,Tm.ok,bae]at h';rw[hbad]at h';simp at h'
  ·obtain⟨c1,c2,c3,c4⟩:=alP ho;have hnd':x'∉p'.bnd/\p'.bnd.Nodup:=by rw[<-List.nodup_cons];exact hnd
   have hpn:∀z,z∈p.free\/z∈p.bnd->¬aa4 z:=fun z hz=>hng z (by rw[mf_rcv];simp only[Tm.bnd,List.mem_cons];grind)
   have hrel2:∀u v,bdE E x x' u v->(x=c->u=upd L x' c v/\v∉p'.bnd/\u∈addL tk c/\¬aa4 u)/\(u≠x->u=upd L x' c v/\v∉p'.bnd/\u∈addL tk c/\¬aa4 u):=by
    intro u v he;rcases he with⟨q1,q2⟩|⟨q1,q2,q3⟩
    ·exact⟨fun e=>⟨by unfold upd;rw[if_pos q2,q1,e],q2▸hnd'.1,by rw[mem_addL];exact .inr (q1.trans e),by rw[q1,e];exact c4⟩,fun h=>absurd q1 h⟩
    ·obtain⟨r1,r2,r3,r4⟩:=hrel u v q3
     have:u=upd L x' c v/\v∉p'.bnd/\u∈addL tk c/\¬aa4 u:=
      ⟨by unfold upd;rw[if_neg q2];exact r1,fun h=>r2 (by simp only[Tm.bnd,List.mem_cons];exact .inr h),by rw[mem_addL];exact .inl r3,r4⟩
     exact⟨fun _=>this,fun _=>this⟩
   have hcx:∃E2,Cx (R p x c) E2 p' (upd L x' c) (addL tk c):=by
    by_cases e:x=c
    ·refine⟨_,⟨by rw[abk _ _ _ (.inl e)];exact h3,by rw[abk _ _ _ (.inl e)];exact hpn,hnd'.2,fun u v he=>(hrel2 u v he).1 e,by rw[R_size];omega⟩⟩
    ·have hcu:c∉p.usd:=fun hu=>by
      obtain⟨v,_,he⟩:=an8 _ _ _ h3 c hu;rcases he with⟨q,_⟩|⟨_,_,q⟩
      ·exact e q.symm
      ·exact c3 (hrel _ _ q).2.2.1
     refine⟨_,⟨ax6 _ p x c _ p' (nl _) (fit_roomy hf _ _) e hcu h3,fun z hz=>?_,hnd'.2,fun u v he=>?_,by rw[R_size];omega⟩⟩
     ·rcases R_names hf x c z hz with h|h|h
      ·exact hpn z h
      ·exact h▸c4
      ·exact h
     ·rcases he with⟨q1,q2⟩|⟨q1,q2,q3⟩
      ·rcases q2 with⟨_,q⟩|⟨q,_⟩
       ·exact⟨by unfold upd;rw[if_pos q,q1],q▸hnd'.1,by rw[mem_addL];exact .inr q1,q1▸c4⟩
       ·exact absurd rfl q
      ·exact(hrel2 u v q3).2 q2
   obtain⟨E2,cx2⟩:=hcx;have g:=H (R p x c) (addL tk c) p' E2 (upd L x' c) (by rw[R_size];omega) (.inl (afB hf _ _)) cx2;rw[c2]at g;have et:tf (.rcv a' x' p') (c::r).length=fl p' r.length:=by simp[tf,fl]
   rw[et];refine⟨fun hb=>?_,fun hb=>?_⟩
   ·have:=aez g hb;simp only[thS,thI,c1,this,<-e1,List.headD_cons,List.tail_cons]
   ·refine(g.2 hb).imp (fun h=>?_) fun h=>abZ fun h'=>?_
    ·simp only[thS,c1];exact h
    ·simp only[thS,Tm.ok,bae,c1]at h';rw[h]at h';simp at h'
 | sum p q=>
  have hd:¬p.dead=true:=by rw[t2.1];simp
  have hd2:¬q.dead=true:=by rw[t2.2];simp
  unfold Sm at hsm;rw[if_neg hd,if_neg hd2]at hsm;obtain⟨p',q',rfl,h1,h2⟩:=hsm;obtain⟨f1,f2⟩:=ae9 hX;simp only[Tm.size]at hn hsz;have hpos:=aao p;have hpos2:=aao q
  have hsums:Tm.sums (Tm.sum p q).size (.sum p q)=Tm.sums (p.size+q.size) p++Tm.sums (p.size+q.size) q:=by
   show Tm.sums (p.size+q.size+1) (.sum p q)=_;unfold Tm.sums;rw[afD _ t2]
   cases p.size+q.size<;>rfl
  have hA:All2 (fun a b=>Good (whl n once a tk) (fl b (othL tk).length) (mid n once L (othL tk) b)) (Tm.sums (Tm.sum p q).size (.sum p q)) (smds (.sum p' q')):=by
   rw[hsums];simp only[smds];have hnd':(p'.bnd++q'.bnd).Nodup:=hnd;rw[List.nodup_append]at hnd';refine .append ((aob _ p E p' (by omega) t2.1 h1 f1).mono fun a b ha hb h=>?_) ((aob _ q E q' (by omega) t2.2 h2 f2).mono fun a b ha hb h=>?_)
   ·obtain⟨b1,b2⟩:=aoa hnd'.1 b hb
    exact H a tk b E L (by omega) (.inl h.2.1) ⟨h.1,fun z hz=>hng z (by rw[mf_sum];simp only[Tm.bnd,lma];have:=h.2.2.2 z hz;grind),b1,fun u v he=>by
     obtain⟨r1,r2,r3⟩:=hrel u v he
     exact⟨r1,fun hv=>r2 (by simp only[Tm.bnd,lma];exact .inl (b2 v hv)),r3⟩,by omega⟩
   ·obtain⟨b1,b2⟩:=aoa hnd'.2.1 b hb
    exact H a tk b E L (by omega) (.inl h.2.1) ⟨h.1,fun z hz=>hng z (by rw[mf_sum];simp only[Tm.bnd,lma];have:=h.2.2.2 z hz;grind),b1,fun u v he=>by
     obtain⟨r1,r2,r3⟩:=hrel u v he
     exact⟨r1,fun hv=>r2 (by simp only[Tm.bnd,lma];exact .inr (b2 v hv)),r3⟩,by omega⟩
  have hs:=acX (.sum p' q') (othL tk).length;have et:fl (.sum p' q') (othL tk).length=tf (.sum p' q') (othL tk).length:=by simp[fl,fcnt,lvl]
  rw[et]at hs;have e1:thS (whl n once) (.sum p q) tk=(joinR .sum (srtT ((Tm.sums (Tm.sum p q).size (.sum p q)).map fun q=>(whl n once q tk).1)),(Tm.sums (Tm.sum p q).size (.sum p q)).any fun q=>(whl n once q tk).2):=rfl;have e2:thI (mid n once) L (othL tk) (.sum p' q')=joinR .sum (srtT ((smds (.sum p' q')).map (mid n once L (othL tk)))):=rfl;rw[e1,e2]
  generalize Tm.sums (Tm.sum p q).size (.sum p q)=l at *
  generalize smds (.sum p' q')=m at *
  refine⟨fun hb=>?_,fun hb=>?_⟩
  ·have hall:=hs.1 hb;have hm:l.map (fun q=>(whl n once q tk).1)=m.map (mid n once L (othL tk)):=(hA.mono fun a b _ hb h=>by rw[aez h (hall b hb)]).map_eq;rw[hm];congr 1;rw[List.any_eq_false];intro a ha;obtain⟨b,hb,h⟩:=hA.ex' a ha;rw[aez h (hall b hb)];simp
  ·obtain⟨b,hb,e⟩:=hs.2 hb;obtain⟨a,ha,h⟩:=hA.ex b hb;refine(h.2 e).imp (fun h=>?_) fun h=>abZ fun h'=>?_
   ·rw[List.any_eq_true];exact⟨a,ha,h⟩
   ·have:=aoc _ h' (whl n once a tk).1 ((aaG _ _).2 (List.mem_map.2 ⟨a,ha,rfl⟩));rw[h]at this;simp at this
theorem ait:∀(o:List UInt8) (L:UInt8->UInt8) (ls:List UInt8),updL L o (ls.take o.length)=updL L o ls:=by
 intro o;induction o with
 | nil=>intro L ls;cases ls<;>rfl
 | cons x o ih=>
  intro L ls
  cases ls with
  | nil=>rfl
  | cons l ls=>simp only[List.length_cons,List.take_succ_cons,updL];exact ih _ ls
theorem aiu (s:Tm)(k:Nat):tf s k=(lvl s).2.all fun T=>tf T k:=by
 induction s with
 | nil=>rfl
 | own x p ih=>simp only[tf,lvl];exact ih
 | par p q ih ih2=>simp only[tf,lvl,List.all_append];rw[ih,ih2]
 | _=>simp[lvl]
theorem aq1 (t:Tm):∀z,z∈t.peel.bnd->z∈t.bnd:=by
 induction t with
 | mat a b p ih=>unfold Tm.peel;split;exact ih;exact fun _ h=>h
 | sum p q ih ih2=>
  unfold Tm.peel;split
  ·intro z hz;simp only[Tm.bnd,lma];exact .inr (ih2 z hz)
  ·split
   ·intro z hz;simp only[Tm.bnd,lma];exact .inl (ih z hz)
   ·exact fun _ h=>h
 | par p q ih ih2=>
  unfold Tm.peel;split
  ·intro z hz;simp only[Tm.bnd,lma];exact .inr (ih2 z hz)
  ·split
   ·intro z hz;simp only[Tm.bnd,lma];exact .inl (ih z hz)
   ·exact fun _ h=>h
 | own x p ih=>
  unfold Tm.peel;split
  ·exact fun _ h=>h
  ·intro z hz;simp only[Tm.bnd,List.mem_cons];exact .inr (ih z hz)
 | _=>exact fun _ h=>h
theorem akg (n:Nat):∀(k:Nat) (t:Tm),(∀z∈t.bnd,¬aa4 z)->∀T∈(gath n k t).1,∀z∈T.bnd,¬aa4 z:=by
 induction n with
 | zero=>intro k t _ T hT;simp[gath]at hT
 | succ n ih=>
  intro k t h T hT;have h':∀z∈t.peel.bnd,¬aa4 z:=fun z hz=>h z (aq1 t z hz);unfold gath at hT
  split at hT
  ·simp at hT
  ·generalize t.peel=u at *
   cases u with
   | par p q=>
    simp only[lma]at hT;rcases hT with hT|hT
    ·exact ih k p (fun z hz=>h' z (by simp only[Tm.bnd,lma];exact .inl hz)) T hT
    ·exact ih _ q (fun z hz=>h' z (by simp only[Tm.bnd,lma];exact .inr hz)) T hT
   | own x p=>
    refine ih (k+1) (R p x (gl k)) (fun z hz=>?_) T hT;rcases R_bnds _ p x (gl k) (nl _) z hz with hz|hz
    ·exact h' z (by simp only[Tm.bnd,List.mem_cons];exact .inr hz)
    ·exact hz
   | nil=>simp only[List.mem_singleton]at hT;rw[hT];exact h'
   | snd a b p=>simp only[List.mem_singleton]at hT;rw[hT];exact h'
   | rcv a b p=>simp only[List.mem_singleton]at hT;rw[hT];exact h'
   | tau p=>simp only[List.mem_singleton]at hT;rw[hT];exact h'
   | sum p q=>simp only[List.mem_singleton]at hT;rw[hT];exact h'
   | mat a b p=>simp only[List.mem_singleton]at hT;rw[hT];exact h'
   | rep p=>simp only[List.mem_singleton]at hT;rw[hT];exact h'
theorem aoe (n:Nat):∀once,ays n once:=by
 induction n with
 | zero=>intro once t tk s E L h;have:=aao t;omega
 | succ n ih=>
  intro once t tk s E L hn hf cx;obtain⟨hsm,hng,hnd,hrel,hsz⟩:=id cx;have h89:=an_ hsm hsz;obtain⟨g1,g2,g3⟩:=an4 t.size 0 t E s (fun z=>¬aa4 z) (nl _) hf hsm (by unfold fcnt at h89;omega) (fun z h=>h) (fun i _ hi h=>h (ace hi)) hng hnd (fun u v h=>(hrel u v h).2.1);have gb:=akg t.size 0 t (fun z hz=>hng z (.inr hz));simp only[Nat.zero_add]at g1 g3;obtain⟨n1,n2,n3⟩:=asI hnd;unfold whl mid
  by_cases hU:(lvl s).2=[]
  ·have hd:t.dead=true:=by
    cases e:t.dead with
    | true=>rfl
    | false=>exact absurd hU (an9 t E s e hsm)
   have e:=aey t E s hd hsm;subst e;have hT:(gath t.size 0 t).1=[]:=List.length_eq_zero_iff.1 (by rw[g2.len];rfl);rw[hT];exact⟨fun _=>rfl,fun hb=>by simp[fl,fcnt,lvl,tf]at hb⟩
  ·have hT:(gath t.size 0 t).1≠[]:=fun e=>hU (List.length_eq_zero_iff.1 (by rw[<-g2.len,e];rfl));have hT':(gath t.size 0 t).1.isEmpty=false:=by simpa using hT
   have hU':(lvl s).2.isEmpty=false:=by simpa using hU
   rw[hT',hU',g1];simp only[Bool.false_eq_true,if_false]
   have hfl:fl s (othL tk).length=(decide ((lvl s).1.length<=5) && decide ((lvl s).1.length<=(othL tk).length) && (lvl s).2.all fun T=>tf T ((othL tk).length - (lvl s).1.length)):=by
    unfold fl fcnt;rw[aiu]
   rw[hfl]
   generalize hG:(lvl s).1=G at *
   generalize hU2:(lvl s).2=U at *
   generalize (gath t.size 0 t).1=TT at *
   by_cases h5:5<G.length
   ·rw[if_pos h5];refine⟨fun hb=>?_,fun _=>.inl rfl⟩;simp only[bae,decide_eq_true_eq]at hb;omega
   ·rw[if_neg h5]
    have hos:∀o∈(if once=true then (ords G.length).take 1 else ords G.length),o.length=G.length/\o.Nodup/\∀i,i∈o↔i<G.length:=by
     intro o ho;refine acn G.length (by omega) o ?_
     split at ho
     ·exact List.mem_of_mem_take ho
     ·exact ho
    have hone:(if once=true then (ords G.length).take 1 else ords G.length)≠[]:=by
     have:=acW G.length (by omega)
     split
     ·intro e;rw[List.take_eq_nil_iff]at e;simp at e;exact this e
     ·exact this
    generalize (if once=true then (ords G.length).take 1 else ords G.length)=os at *
    by_cases hk:G.length<=(othL tk).length
    ·obtain⟨l1,l2⟩:=an5 G.length tk hk
     have hA:∀o∈os,All2 (fun T T'=>Good (thS (whl n once) (nmG o (nexts tk G.length) T) (allT tk G.length)) (tf T' ((othL tk).length - G.length)) (thI (mid n once) (updL L (o.map fun i=>G.getD i 0) (othL tk)) ((othL tk).drop G.length) T')) TT U:=by
      intro o ho;obtain⟨o1,o2,o3⟩:=hos o ho;refine g2.mono fun T T' hT hT' hm=>?_;obtain⟨⟨x1,x2⟩,x3,x4,x5⟩:=g3 T hT
      obtain⟨m1,m2,m3,m4,m5⟩:=awo o (nexts tk G.length) T (exE E 0 G) L G (fun u=>u∈allT tk G.length/\¬aa4 u) (fun v=>v∉T'.bnd) T'
       (by rw[abE];exact o1) o2 (by rw[l1];exact(air tk).sublist (List.take_sublist _ _)) n1 (by unfold fcnt at h89;rw[hG]at h89;exact h89) (fun i hi=>(o3 i).1 hi)
       (fun l hl=>⟨acJ _ _ l hl,by rw[ake];exact .inr hl,acJ _ _ l hl⟩) x1
       (x2.imp id fun h=>List.length_eq_zero_iff.1 (by rw[o1,h.1];rfl)) x4 hm (fun u v he=>by
        rcases he with⟨j,hj,e1,e2⟩|⟨e1,e2,e3⟩
        ·refine⟨fun hv=>n3 v (by rw[e2];exact List.getElem_mem hj) T' hT' hv,.inl ⟨j,(o3 j).2 hj,by rw[e1,Nat.zero_add],?_⟩⟩;rw[e2,List.getD_eq_getElem?_getD,List.getElem?_eq_getElem hj];rfl
        ·obtain⟨r1,r2,r3,r4⟩:=hrel u v e3;refine⟨fun hv=>r2 (ajo s T' (by rw[hU2];exact hT') v hv),.inr ⟨r1,⟨by rw[ake];exact .inl r3,r4⟩,fun hu=>?_,r4,fun i hi e=>e2 ?_⟩⟩
         ·rw[l1]at hu;exact((abv _ _).1 (List.mem_of_mem_take hu)).2 r3
         ·have hi':=(o3 i).1 hi;rw[e,List.getD_eq_getElem?_getD,List.getElem?_eq_getElem hi']
          exact List.getElem_mem hi')
      have hcx:Cx (nmG o (nexts tk G.length) T) _ T' (updL L (o.map fun i=>G.getD i 0) (nexts tk G.length)) (allT tk G.length):=
       ⟨m1,fun z hz=>by
        rcases m5 z hz with⟨h1,h2⟩|h|h
        ·rcases x5 z (.inl h1) with h|⟨j,hj,e⟩
         ·exact h
         ·exact absurd e (h2 j ((o3 j).2 hj))
        ·exact gb T hT z h
        ·exact h,n2 T' hT',fun u v he=>⟨he.1,he.2.1,he.2.2.1,he.2.2.2⟩,by rw[m4];omega⟩
      have g:=awp n once (ih once) _ (allT tk G.length) T' _ _ (by rw[m4];omega) m2 m3 hcx;rw[l2,List.length_drop]at g
      have e:updL L (o.map fun i=>G.getD i 0) (nexts tk G.length)=updL L (o.map fun i=>G.getD i 0) (othL tk):=by
       rw[l1];have:=ait (o.map fun i=>G.getD i 0) L (othL tk);rw[List.length_map,o1]at this
       exact this
      rw[e]at g;exact g
     rw[l1]at hA ⊢;refine⟨fun hb=>?_,fun hb=>?_⟩
     ·simp only[bae,List.all_eq_true]at hb
      have hm:os.map (fun o=>joinR .par (srtT (TT.map fun T=>(thS (whl n once) (nmG o ((othL tk).take G.length) T) (allT tk G.length)).1))) =
        os.map (fun o=>joinR .par (srtT (U.map (thI (mid n once) (updL L (o.map fun i=>G.getD i 0) (othL tk)) ((othL tk).drop G.length))))):=by
       refine List.map_congr_left fun o ho=>?_;congr 2;exact((hA o ho).mono fun a b _ hb' h=>by rw[aez h (hb.2 b hb')]).map_eq
      rw[hm];congr 1;rw[List.any_eq_false];intro o ho;rw[Bool.not_eq_true,List.any_eq_false];intro a ha;obtain⟨b,hb',h⟩:=(hA o ho).ex' a ha;rw[aez h (hb.2 b hb')];simp
     ·have hbad:∃T'∈U,tf T' ((othL tk).length - G.length)=false:=by
       simp only[Bool.and_eq_false_iff,decide_eq_false_iff_not,List.all_eq_false]at hb;rcases hb with (hb|hb)|⟨T',h1,h2⟩
       ·omega
       ·omega
       ·exact⟨T',h1,by simpa using h2⟩
      obtain⟨T',hT2,e⟩:=hbad
      by_cases hany:(os.any fun o=>TT.any fun T=>(thS (whl n once) (nmG o ((othL tk).take G.length) T) (allT tk G.length)).2)=true
      ·exact .inl hany
      ·refine .inr (abZ fun h'=>hany ?_);have h2:=(akf _ _ h').2;have hm:=acu (os.map fun o=>joinR .par (srtT (TT.map fun T=>(thS (whl n once) (nmG o ((othL tk).take G.length) T) (allT tk G.length)).1))) (by simpa using hone);obtain⟨o,ho,e2⟩:=List.mem_map.1 hm;rw[<-e2]at h2;obtain⟨a,ha,h⟩:=(hA o ho).ex T' hT2;rw[List.any_eq_true];refine⟨o,ho,?_⟩;rw[List.any_eq_true];refine⟨a,ha,?_⟩;rcases h.2 e with h|h
       ·exact h
       ·have:=ais _ h2 _ ((aaG _ _).2 (List.mem_map.2 ⟨a,ha,rfl⟩));rw[h]at this;simp at this
    ·refine⟨fun hb=>?_,fun _=>.inr (abZ fun h'=>?_)⟩
     ·simp only[bae,decide_eq_true_eq]at hb;omega
     ·obtain⟨l,hl,e⟩:=an6 G.length tk (by omega);have:=(akf _ _ h').1 l hl;rw[e]at this;simp at this
def Tm.sim:Tm->Tm
 | .nil=>.nil
 | .snd a b p=>.snd a b p.sim
 | .rcv a x p=>.rcv a x p.sim
 | .tau p=>.tau p.sim
 | .sum p q=>if p.sim=.nil then q.sim else if q.sim=.nil then p.sim else .sum p.sim q.sim
 | .par p q=>if p.sim=.nil then q.sim else if q.sim=.nil then p.sim else .par p.sim q.sim
 | .own x p=>if x∈p.sim.free then .own x p.sim else p.sim
 | .mat a b p=>if a=b\/p.sim=.nil then p.sim else .mat a b p.sim
 | .rep p=>if p.sim=.nil then p.sim else .rep p.sim
theorem abe (t:Tm):(t.sim=.nil↔t.dead=true)/\∀z,z∈t.sim.free↔z∈t.usd:=by
 induction t with
 | nil=>exact⟨by simp[Tm.sim,Tm.dead],fun z=>by simp[Tm.sim,Tm.free,Tm.usd]⟩
 | snd a b p ih=>exact⟨by simp[Tm.sim,Tm.dead],fun z=>by rw[mu_snd];simp only[Tm.sim];rw[mf_snd,ih.2]⟩
 | rcv a x p ih=>exact⟨by simp[Tm.sim,Tm.dead],fun z=>by rw[mu_rcv];simp only[Tm.sim];rw[mf_rcv,ih.2]⟩
 | tau p ih=>exact⟨by simp[Tm.sim,Tm.dead],fun z=>by rw[mu_tau];simp only[Tm.sim];rw[mf_tau,ih.2]⟩
 | sum p q ih ih2=>
  simp only[Tm.sim,Tm.dead,bae]
  by_cases h:p.sim=.nil
  ·rw[if_pos h];have hd:=ih.1.1 h;exact⟨by rw[ih2.1];simp[hd],fun z=>by rw[mu_sum,ih2.2,dead_usd _ hd];simp⟩
  ·rw[if_neg h];have hd:¬p.dead=true:=fun e=>h (ih.1.2 e)
   by_cases h2:q.sim=.nil
   ·rw[if_pos h2];have hd2:=ih2.1.1 h2;exact⟨by rw[ih.1];simp[hd2],fun z=>by rw[mu_sum,ih.2,dead_usd _ hd2];simp⟩
   ·rw[if_neg h2];exact⟨by simp[hd],fun z=>by rw[mu_sum,mf_sum,ih.2,ih2.2]⟩
 | par p q ih ih2=>
  simp only[Tm.sim,Tm.dead,bae]
  by_cases h:p.sim=.nil
  ·rw[if_pos h];have hd:=ih.1.1 h;exact⟨by rw[ih2.1];simp[hd],fun z=>by rw[mu_par,ih2.2,dead_usd _ hd];simp⟩
  ·rw[if_neg h];have hd:¬p.dead=true:=fun e=>h (ih.1.2 e)
   by_cases h2:q.sim=.nil
   ·rw[if_pos h2];have hd2:=ih2.1.1 h2;exact⟨by rw[ih.1];simp[hd2],fun z=>by rw[mu_par,ih.2,dead_usd _ hd2];simp⟩
   ·rw[if_neg h2];exact⟨by simp[hd],fun z=>by rw[mu_par,mf_par,ih.2,ih2.2]⟩
 | own x p ih=>
  simp only[Tm.sim,Tm.dead]
  by_cases h:x∈p.sim.free
  ·rw[if_pos h];have hx:=(ih.2 x).1 h;exact⟨⟨fun e=>(by cases e),fun e=>(by rw[dead_usd _ e]at hx;simp at hx)⟩,fun z=>by rw[mu_own,mf_own,ih.2]⟩
  ·rw[if_neg h];exact⟨ih.1,fun z=>by rw[mu_own,ih.2];exact⟨fun hz=>⟨hz,fun e=>h ((ih.2 x).2 (e▸hz))⟩,fun hz=>hz.1⟩⟩
 | mat a b p ih=>
  simp only[Tm.sim,Tm.dead]
  by_cases h:a=b\/p.sim=.nil
  ·rw[if_pos h];refine⟨ih.1,fun z=>?_⟩;rw[mu_mat,ih.2];rcases h with h|h
   ·simp[h]
   ·have:=ih.1.1 h;rw[dead_usd _ this];simp[this]
  ·rw[if_neg h];have hd:¬p.dead=true:=fun e=>h (.inr (ih.1.2 e));have hd':p.dead=false:=by simpa using hd
   have hab:a≠b:=fun e=>h (.inl e);exact⟨by simp[hd],fun z=>by rw[mu_mat,mf_mat,ih.2];simp[hab,hd']⟩
 | rep p ih=>
  simp only[Tm.sim,Tm.dead]
  by_cases h:p.sim=.nil
  ·rw[if_pos h];exact⟨ih.1,fun z=>by rw[mu_rep,ih.2]⟩
  ·rw[if_neg h];have hd:¬p.dead=true:=fun e=>h (ih.1.2 e);exact⟨by simp[hd],fun z=>by rw[mu_rep,mf_rep,ih.2]⟩
theorem sim_usd (t:Tm):t.sim.free=t.usd:=aed (aav _) (abo _) (abe t).2
theorem akh (t:Tm):Sm t (fun u v=>u=v) t.sim:=by
 have hb:∀(x:UInt8) (p s:Tm),Sm p (fun u v=>u=v) s->Sm p (bdE (fun u v=>u=v) x x) s:=fun x p s h=>
  aaV p _ _ s (fun u v _ e=>by
   by_cases hx:u=x
   ·exact .inl ⟨hx,e▸hx⟩
   ·exact .inr ⟨hx,e▸hx,e⟩) h
 induction t with
 | nil=>rfl
 | snd a b p ih=>exact⟨a,b,p.sim,rfl,rfl,rfl,ih⟩
 | rcv a x p ih=>exact⟨a,x,p.sim,rfl,rfl,hb x p _ ih⟩
 | tau p ih=>exact⟨p.sim,rfl,ih⟩
 | sum p q ih ih2=>
  unfold Sm Tm.sim
  by_cases h:p.sim=.nil
  ·rw[if_pos h,if_pos ((abe p).1.1 h)];exact ih2
  ·rw[if_neg h,if_neg (fun e=>h ((abe p).1.2 e))]
   by_cases h2:q.sim=.nil
   ·rw[if_pos h2,if_pos ((abe q).1.1 h2)];exact ih
   ·rw[if_neg h2,if_neg (fun e=>h2 ((abe q).1.2 e))];exact⟨_,_,rfl,ih,ih2⟩
 | par p q ih ih2=>
  unfold Sm Tm.sim
  by_cases h:p.sim=.nil
  ·rw[if_pos h,if_pos ((abe p).1.1 h)];exact ih2
  ·rw[if_neg h,if_neg (fun e=>h ((abe p).1.2 e))]
   by_cases h2:q.sim=.nil
   ·rw[if_pos h2,if_pos ((abe q).1.1 h2)];exact ih
   ·rw[if_neg h2,if_neg (fun e=>h2 ((abe q).1.2 e))];exact⟨_,_,rfl,ih,ih2⟩
 | own x p ih=>
  unfold Sm Tm.sim
  by_cases h:x∈p.sim.free
  ·rw[if_pos h,if_pos (((abe p).2 x).1 h)];exact⟨x,p.sim,rfl,hb x p _ ih⟩
  ·rw[if_neg h,if_neg (fun e=>h (((abe p).2 x).2 e))];exact ih
 | mat a b p ih=>
  unfold Sm Tm.sim
  by_cases h:a=b
  ·rw[if_pos h,if_pos (show a=b\/p.sim=.nil from .inl h)];exact ih
  ·rw[if_neg h]
   by_cases h2:p.sim=.nil
   ·rw[if_pos (show a=b\/p.sim=.nil from .inr h2),if_pos ((abe p).1.1 h2)];exact h2
   ·rw[if_neg (show ¬(a=b\/p.sim=.nil) from fun e=>e.elim h h2),if_neg (fun e=>h2 ((abe p).1.2 e))];exact⟨a,b,p.sim,rfl,rfl,rfl,ih⟩
 | rep p ih=>
  unfold Sm Tm.sim
  by_cases h2:p.sim=.nil
  ·rw[if_pos h2,if_pos ((abe p).1.1 h2)];exact h2
  ·rw[if_neg h2,if_neg (fun e=>h2 ((abe p).1.2 e))];exact⟨p.sim,rfl,ih⟩
theorem asJ (t:Tm):∀(E:UInt8->UInt8->Prop) (s:Tm) (f:UInt8->UInt8) (ns:List UInt8),Sm t E s->s.bnd.length<=ns.length->ns.Nodup->(∀z,z∈s.free->f z∉ns)-> Sm t (fun u v=>∃w,w∈s.free/\E u w/\v=f w) (can s f ns):=by
 have hbind:∀(p p':Tm) (E:UInt8->UInt8->Prop) (x x' n:UInt8) (f:UInt8->UInt8) (ns:List UInt8) (F:List UInt8),(∀z,z∈p'.free->z≠x'->z∈F)->(∀z,z∈F->f z∉n::ns)->(n::ns).Nodup->
   Sm p (fun u v=>∃w,w∈p'.free/\bdE E x x' u w/\v=upd f x' n w) (can p' (upd f x' n) ns)->
   Sm p (bdE (fun u v=>∃w,w∈F/\E u w/\v=f w) x n) (can p' (upd f x' n) ns):=by
  intro p p' E x x' n f ns F hF hf hnd h;refine aaV p _ _ _ (fun u v _ he=>?_) h;obtain⟨w,hw,he,hv⟩:=he;rcases he with⟨e1,e2⟩|⟨e1,e2,e3⟩
  ·exact .inl ⟨e1,by rw[hv];unfold upd;rw[if_pos e2]⟩
  ·have hv':v=f w:=by rw[hv];unfold upd;rw[if_neg e2]
   refine .inr ⟨e1,fun e=>hf w (hF w hw e2) (by rw[<-hv',e];simp),w,hF w hw e2,e3,hv'⟩
 have hsub:∀(p':Tm) (x' n:UInt8) (f:UInt8->UInt8) (ns:List UInt8) (F:List UInt8),(∀z,z∈p'.free->z≠x'->z∈F)->(∀z,z∈F->f z∉n::ns)->(n::ns).Nodup->∀z,z∈p'.free->upd f x' n z∉ns:=by
  intro p' x' n f ns F hF hf hnd z hz;rw[List.nodup_cons]at hnd;unfold upd;split
  ·exact hnd.1
  ·rename_i e;exact fun h=>hf z (hF z hz e) (by simp[h])
 induction t with
 | nil=>rintro E s f ns rfl _ _ _;rfl
 | snd a b p ih=>
  rintro E s f ns ⟨a',b',p',rfl,h1,h2,h3⟩ hl hn hf;refine⟨f a',f b',can p' f ns,rfl,⟨a',by rw[mf_snd];simp,h1,rfl⟩,⟨b',by rw[mf_snd];simp,h2,rfl⟩,?_⟩;exact aaV p _ _ _ (fun u v _ he=>by obtain⟨w,hw,e⟩:=he;exact⟨w,by rw[mf_snd];simp[hw],e⟩) (ih E p' f ns h3 hl hn (fun z hz=>hf z (by rw[mf_snd];simp[hz])))
 | tau p ih=>
  rintro E s f ns ⟨p',rfl,h3⟩ hl hn hf;refine⟨can p' f ns,rfl,?_⟩;exact aaV p _ _ _ (fun u v _ he=>by obtain⟨w,hw,e⟩:=he;exact⟨w,by rw[mf_tau];exact hw,e⟩) (ih E p' f ns h3 hl hn (fun z hz=>hf z (by rw[mf_tau];exact hz)))
 | rcv a x p ih=>
  rintro E s f ns ⟨a',x',p',rfl,h1,h3⟩ hl hn hf
  cases ns with
  | nil=>simp[Tm.bnd]at hl
  | cons n ns=>
   have hF:∀z,z∈p'.free->z≠x'->z∈(Tm.rcv a' x' p').free:=fun z hz e=>by rw[mf_rcv];exact .inr ⟨hz,e⟩
   refine⟨f a',n,can p' (upd f x' n) ns,rfl,⟨a',by rw[mf_rcv];simp,h1,rfl⟩,?_⟩;exact hbind p p' E x x' n f ns _ hF hf hn (ih _ p' (upd f x' n) ns h3 (by simpa [Tm.bnd] using hl) (List.nodup_cons.1 hn).2 (hsub p' x' n f ns _ hF hf hn))
 | own x p ih=>
  intro E s f ns h hl hn hf;unfold Sm at h ⊢
  split at h
  ·rename_i c;rw[if_pos c]
   obtain⟨x',p',rfl,h3⟩:=h
   cases ns with
   | nil=>simp[Tm.bnd]at hl
   | cons n ns=>
    have hF:∀z,z∈p'.free->z≠x'->z∈(Tm.own x' p').free:=fun z hz e=>by rw[mf_own];exact⟨hz,e⟩
    refine⟨n,can p' (upd f x' n) ns,rfl,?_⟩;exact hbind p p' E x x' n f ns _ hF hf hn (ih _ p' (upd f x' n) ns h3 (by simpa [Tm.bnd] using hl) (List.nodup_cons.1 hn).2 (hsub p' x' n f ns _ hF hf hn))
  ·rename_i c;rw[if_neg c];exact ih E s f ns h hl hn hf
 | sum p q ih ih2=>
  intro E s f ns h hl hn hf;unfold Sm at h ⊢
  split at h
  ·rename_i c;rw[if_pos c];exact ih2 E s f ns h hl hn hf
  ·rename_i c;rw[if_neg c]
   split at h
   ·rename_i c;rw[if_pos c];exact ih E s f ns h hl hn hf
   ·rename_i c;rw[if_neg c]
    obtain⟨p',q',rfl,h1,h2⟩:=h;simp only[Tm.bnd,lla]at hl;refine⟨can p' f ns,can q' f (ns.drop p'.bnd.length),rfl,?_,?_⟩
    ·exact aaV p _ _ _ (fun u v _ he=>by obtain⟨w,hw,e⟩:=he;exact⟨w,by rw[mf_sum];exact .inl hw,e⟩) (ih E p' f ns h1 (by omega) hn (fun z hz=>hf z (by rw[mf_sum];exact .inl hz)))
    ·exact aaV q _ _ _ (fun u v _ he=>by obtain⟨w,hw,e⟩:=he;exact⟨w,by rw[mf_sum];exact .inr hw,e⟩) (ih2 E q' f _ h2 (by rw[List.length_drop];omega) (hn.sublist (List.drop_sublist _ _)) (fun z hz h=>hf z (by rw[mf_sum];exact .inr hz) (List.mem_of_mem_drop h)))
 | par p q ih ih2=>
  intro E s f ns h hl hn hf;unfold Sm at h ⊢
  split at h
  ·rename_i c;rw[if_pos c];exact ih2 E s f ns h hl hn hf
  ·rename_i c;rw[if_neg c]
   split at h
   ·rename_i c;rw[if_pos c];exact ih E s f ns h hl hn hf
   ·rename_i c;rw[if_neg c]
    obtain⟨p',q',rfl,h1,h2⟩:=h;simp only[Tm.bnd,lla]at hl;refine⟨can p' f ns,can q' f (ns.drop p'.bnd.length),rfl,?_,?_⟩
    ·exact aaV p _ _ _ (fun u v _ he=>by obtain⟨w,hw,e⟩:=he;exact⟨w,by rw[mf_par];exact .inl hw,e⟩) (ih E p' f ns h1 (by omega) hn (fun z hz=>hf z (by rw[mf_par];exact .inl hz)))
    ·exact aaV q _ _ _ (fun u v _ he=>by obtain⟨w,hw,e⟩:=he;exact⟨w,by rw[mf_par];exact .inr hw,e⟩) (ih2 E q' f _ h2 (by rw[List.length_drop];omega) (hn.sublist (List.drop_sublist _ _)) (fun z hz h=>hf z (by rw[mf_par];exact .inr hz) (List.mem_of_mem_drop h)))
 | mat a b p ih=>
  intro E s f ns h hl hn hf;unfold Sm at h ⊢
  by_cases c:a=b
  ·rw[if_pos c]at h ⊢;exact ih E s f ns h hl hn hf
  ·rw[if_neg c]at h ⊢
   split at h
   ·rename_i d;rw[if_pos d];subst h;rfl
   ·rename_i d;rw[if_neg d]
    obtain⟨a',b',p',rfl,h1,h2,h3⟩:=h;refine⟨f a',f b',can p' f ns,rfl,⟨a',by rw[mf_mat];simp,h1,rfl⟩,⟨b',by rw[mf_mat];simp,h2,rfl⟩,?_⟩;exact aaV p _ _ _ (fun u v _ he=>by obtain⟨w,hw,e⟩:=he;exact⟨w,by rw[mf_mat];simp[hw],e⟩) (ih E p' f ns h3 hl hn (fun z hz=>hf z (by rw[mf_mat];simp[hz])))
 | rep p ih=>
  intro E s f ns h hl hn hf;unfold Sm at h ⊢
  split at h
  ·rename_i d;rw[if_pos d];subst h;rfl
  ·rename_i d;rw[if_neg d]
   obtain⟨p',rfl,h3⟩:=h;refine⟨can p' f ns,rfl,?_⟩;exact aaV p _ _ _ (fun u v _ he=>by obtain⟨w,hw,e⟩:=he;exact⟨w,by rw[mf_rep];exact hw,e⟩) (ih E p' f ns h3 hl hn (fun z hz=>hf z (by rw[mf_rep];exact hz)))
theorem ajp (s:Tm):∀(f:UInt8->UInt8) (ns:List UInt8),s.bnd.length<=ns.length->(can s f ns).bnd=ns.take s.bnd.length:=by
 induction s with
 | nil=>intro f ns _;simp[can,Tm.bnd]
 | snd a b p ih=>intro f ns h;exact ih f ns h
 | tau p ih=>intro f ns h;exact ih f ns h
 | mat a b p ih=>intro f ns h;exact ih f ns h
 | rep p ih=>intro f ns h;exact ih f ns h
 | rcv a x p ih=>
  intro f ns h
  cases ns with
  | nil=>simp[Tm.bnd]at h
  | cons n ns=>
   simp only[can,Tm.bnd,List.headD_cons,List.tail_cons,List.length_cons,List.take_succ_cons];rw[ih _ ns (by simpa [Tm.bnd] using h)]
 | own x p ih=>
  intro f ns h
  cases ns with
  | nil=>simp[Tm.bnd]at h
  | cons n ns=>
   simp only[can,Tm.bnd,List.headD_cons,List.tail_cons,List.length_cons,List.take_succ_cons];rw[ih _ ns (by simpa [Tm.bnd] using h)]
 | sum p q ih ih2=>
  intro f ns h;simp only[Tm.bnd,lla]at h;simp only[can,Tm.bnd,lla];rw[ih f ns (by omega),ih2 f _ (by rw[List.length_drop];omega),<-List.take_add]
 | par p q ih ih2=>
  intro f ns h;simp only[Tm.bnd,lla]at h;simp only[can,Tm.bnd,lla];rw[ih f ns (by omega),ih2 f _ (by rw[List.length_drop];omega),<-List.take_add]
def ownc:Tm->Nat
 | .nil=>0
 | .snd _ _ p=>ownc p
 | .rcv _ _ p=>ownc p
 | .tau p=>ownc p
 | .sum p q=>ownc p+ownc q
 | .par p q=>ownc p+ownc q
 | .own _ p=>ownc p+1
 | .mat _ _ p=>ownc p
 | .rep p=>ownc p
theorem aof (t:Tm)(h:t.ok nmE=true):t.pr.count 35=ownc t:=by
 have hn:∀c,nmE c=true->c≠35:=fun c h e=>by rw[e]at h;revert h;decide
 induction t with
 | nil=>rfl
 | snd a b p ih=>
  simp only[Tm.ok,bae]at h;simp only[Tm.pr,List.count_cons,ownc,ih h.2];simp[hn a h.1.1,hn b h.1.2]
 | rcv a b p ih=>
  simp only[Tm.ok,bae]at h;simp only[Tm.pr,List.count_cons,ownc,ih h.2];simp[hn a h.1.1,hn b h.1.2]
 | tau p ih=>simp only[Tm.ok]at h;simp only[Tm.pr,List.count_cons,ownc,ih h];simp
 | rep p ih=>simp only[Tm.ok]at h;simp only[Tm.pr,List.count_cons,ownc,ih h];simp
 | mat a b p ih=>
  simp only[Tm.ok,bae]at h;simp only[Tm.pr,List.count_cons,ownc,ih h.2];simp[hn a h.1.1,hn b h.1.2]
 | own x p ih=>
  simp only[Tm.ok,bae]at h;simp only[Tm.pr,List.count_cons,ownc,ih h.2];simp[hn x h.1]
 | sum p q ih ih2=>
  simp only[Tm.ok,bae]at h;simp only[Tm.pr,List.count_cons,List.count_append,List.count_nil,ownc,ih h.1,ih2 h.2];simp
 | par p q ih ih2=>
  simp only[Tm.ok,bae]at h;simp only[Tm.pr,List.count_cons,List.count_append,List.count_nil,ownc,ih h.1,ih2 h.2];simp
def agR (l:List Tm):Nat:=(l.map ownc).sum
theorem aiv {l m:List Tm}(h:l.Perm m):agR l=agR m:=by
 unfold agR;induction h with
 | nil=>rfl
 | cons a _ ih=>simp[ih]
 | swap a b l=>simp;omega
 | trans _ _ ih ih2=>rw[ih,ih2]
theorem aki (l:List Tm):agR (srtT l)=agR l:=aiv (List.mergeSort_perm _ _)
theorem alR:∀l:List Tm,ownc (joinR .sum l)=agR l:=by
 intro l;induction l with
 | nil=>rfl
 | cons a l ih=>
  cases l with
  | nil=>simp[joinR,agR]
  | cons b l=>simp only[joinR,ownc,ih];simp[agR]
theorem alS:∀l:List Tm,ownc (joinR .par l)=agR l:=by
 intro l;induction l with
 | nil=>rfl
 | cons a l ih=>
  cases l with
  | nil=>simp[joinR,agR]
  | cons b l=>simp only[joinR,ownc,ih];simp[agR]
theorem aog (t:Tm):∀ls:List UInt8,ownc (wrapO ls t)=ls.length+ownc t:=by
 intro ls;induction ls with
 | nil=>simp[wrapO]
 | cons a ls ih=>show ownc (.own a (wrapO ls t))=_;simp only[ownc,ih,List.length_cons];omega
theorem ahq (s:Tm):ownc s=(lvl s).1.length+agR (lvl s).2:=by
 induction s with
 | nil=>rfl
 | own x p ih=>simp only[lvl,ownc,ih,List.length_cons];omega
 | par p q ih ih2=>simp only[lvl,ownc,ih,ih2,lla];simp[agR];omega
 | _=>simp[lvl,agR]
theorem aoh (s:Tm):agR (smds s)=ownc s:=by
 induction s with
 | sum p q ih ih2=>simp only[smds,ownc,<-ih,<-ih2];simp[agR]
 | _=>simp[smds,agR]
theorem akj {f:Tm->Tm}:∀l:List Tm,(∀t∈l,ownc (f t)=ownc t)->agR (l.map f)=agR l:=by
 intro l;induction l with
 | nil=>intro _;rfl
 | cons a l ih=>
  intro h;have h1:=h a (by simp);have h2:=ih fun t ht=>h t (by simp[ht]);unfold agR at *;simp only[List.map_cons,List.sum_cons,h1,h2]
theorem aa_ (s:Tm):(∀T∈(lvl s).2,T.size<=s.size):=by
 induction s with
 | own x p ih=>intro T hT;have:=ih T hT;simp only[Tm.size];omega
 | par p q ih ih2=>
  intro T hT;simp only[lvl,lma]at hT;simp only[Tm.size];rcases hT with hT|hT
  ·have:=ih T hT;omega
  ·have:=ih2 T hT;omega
 | nil=>intro T hT;simp[lvl]at hT
 | _=>intro T hT;simp only[lvl,List.mem_singleton]at hT;rw[hT];exact nl _
theorem aaL (s:Tm):∀q∈smds s,q.size<=s.size:=by
 induction s with
 | sum p q ih ih2=>
  intro T hT;simp only[smds,lma]at hT;simp only[Tm.size];rcases hT with hT|hT
  ·have:=ih T hT;omega
  ·have:=ih2 T hT;omega
 | _=>intro T hT;simp only[smds,List.mem_singleton]at hT;rw[hT];exact nl _
theorem aba (s:Tm):∀T∈(lvl s).2,(∀p q,T≠.par p q)/\(∀x p,T≠.own x p)/\T≠.nil:=by
 induction s with
 | own x p ih=>exact ih
 | par p q ih ih2=>
  intro T hT;simp only[lvl,lma]at hT;exact hT.elim (ih T) (ih2 T)
 | nil=>intro T hT;simp[lvl]at hT
 | _=>intro T hT;simp only[lvl,List.mem_singleton]at hT;rw[hT];exact⟨by intros;simp,by intros;simp,by simp⟩
-- the order of texts
theorem awq:∀(l m x y:List UInt8),(∀r,l++r≠m)->(∀r,m++r≠l)->(l++x<m++y↔l<m):=by
 intro l;induction l with
 | nil=>intro m x y h _;exact absurd rfl (h m)
 | cons c l ih=>
  intro m x y h h2
  cases m with
  | nil=>exact absurd rfl (h2 (c::l))
  | cons d m=>
   simp only[List.cons_append,List.cons_lt_cons_iff]
   by_cases e:c=d
   ·subst e;rw[ih m x y (fun r hr=>h r (by rw[List.cons_append,hr])) (fun r hr=>h2 r (by rw[List.cons_append,hr]))]
   ·simp[e]
theorem lt_irr (l:List UInt8):¬l<l:=List.lt_irrefl l
theorem awr {nm:UInt8->Bool}(hn:Nm nm){a b:Tm}(ha:a.ok nm=true)(hb:b.ok nm=true)(h:a≠b):∀r,a.pr++r≠b.pr:=fun r e=>
 h (ab6 hn a b r [] ha hb (by rw[List.append_nil];exact e)).1
theorem aws {nm:UInt8->Bool}(hn:Nm nm){a b:Tm}(ha:a.ok nm=true)(hb:b.ok nm=true)(x y:List UInt8):(a.pr++x<b.pr++y)↔(a.pr<b.pr\/(a=b/\x<y)):=by
 by_cases h:a=b
 ·subst h;constructor
  ·intro e;refine .inr ⟨rfl,?_⟩
   have:∀l:List UInt8,l++x<l++y->x<y:=by
    intro l;induction l with
    | nil=>exact id
    | cons c l ih=>intro e;simp only[List.cons_append,List.cons_lt_cons_iff]at e;exact ih (by simpa using e)
   exact this _ e
  ·intro e
   have:∀l:List UInt8,x<y->l++x<l++y:=by
    intro l;induction l with
    | nil=>exact id
    | cons c l ih=>intro e;simp only[List.cons_append,List.cons_lt_cons_iff];exact .inr ⟨trivial,ih e⟩
   rcases e with e|⟨_,e⟩
   ·exact absurd e (lt_irr _)
   ·exact this _ e
 ·rw[awq _ _ x y (awr hn ha hb h) (awr hn hb ha (Ne.symm h))];simp[h]
def agS:List (List UInt8)->List (List UInt8)->Bool
 | a::l,b::m=>if a<b then true else if b<a then false else agS l m
 | _,_=>false
theorem aoi {nm:UInt8->Bool}(hn:Nm nm):∀(c d:List Tm),c.length=d.length->(∀t∈c,t.ok nm=true)->(∀t∈d,t.ok nm=true)-> (agS (c.map Tm.pr) (d.map Tm.pr)=true↔(joinR .par c).pr<(joinR .par d).pr):=by
 have hj:∀(l:List Tm),(∀t∈l,t.ok nm=true)->(joinR .par l).ok nm=true:=by
  intro l;induction l with
  | nil=>intro _;rfl
  | cons a l ih=>
   cases l with
   | nil=>intro h;exact h a (by simp)
   | cons b l=>intro h;simp only[joinR,Tm.ok,bae];exact⟨h a (by simp),ih fun t ht=>h t (by simp[ht])⟩
 intro c;induction c with
 | nil=>
  intro d hl _ _
  cases d with
  | nil=>simp only[List.map_nil,agS,joinR];exact⟨fun h=>(by cases h),fun h=>absurd h (lt_irr _)⟩
  | cons b d=>simp at hl
 | cons a c ih=>
  intro d hl hc hd
  cases d with
  | nil=>simp at hl
  | cons b d=>
   have ha:=hc a (by simp);have hb:=hd b (by simp);have hl':c.length=d.length:=by simpa using hl
   have ih:=ih d hl' (fun t ht=>hc t (by simp[ht])) (fun t ht=>hd t (by simp[ht]));simp only[List.map_cons,agS];have hin:b.pr<a.pr->¬a.pr<b.pr:=fun h1 h2=>lt_irr _ (List.lt_trans h1 h2)
   have hne:¬a.pr<b.pr->¬b.pr<a.pr->a=b:=fun h1 h2=>by
    have:a.pr=b.pr:=List.le_antisymm (List.not_lt.1 h2) (List.not_lt.1 h1);exact(ab6 hn a b [] [] ha hb (by rw[this])).1
   cases c with
   | nil=>
    cases d with
    | cons _ _=>simp at hl'
    | nil=>
     simp only[List.map_nil,agS,joinR]
     by_cases h1:a.pr<b.pr
     ·simp[h1]
     ·simp[h1]
   | cons c0 c=>
    cases d with
    | nil=>simp at hl'
    | cons d0 d=>
     simp only[joinR,Tm.pr,List.cons_lt_cons_iff];rw[aws hn ha hb];simp only[List.cons_lt_cons_iff];rw[aws hn (hj (c0::c) fun t ht=>hc t (by simp[ht])) (hj (d0::d) fun t ht=>hd t (by simp[ht]))]
     by_cases h1:a.pr<b.pr
     ·simp[h1]
     ·by_cases h2:b.pr<a.pr
      ·have:a≠b:=fun e=>by rw[e]at h2;exact lt_irr _ h2
       simp[h1,h2,this]
      ·have e:=hne h1 h2;subst e;simp only[if_neg h1,ih];simp[lt_irr]
-- the least
def minB {α:Type}(lt:α->α->Bool):List α->α->α
 | [],b=>b
 | c::cs,b=>minB lt cs (if lt c b then c else b)
theorem agT {α:Type}(key:α->List UInt8)(lt:α->α->Bool)(hlt:∀a b,lt a b=true↔key a<key b):∀(cs:List α) (b:α),minB lt cs b∈b::cs/\∀c∈b::cs,¬key c<key (minB lt cs b):=by
 intro cs;induction cs with
 | nil=>intro b;exact⟨by simp[minB],fun c hc=>by simp only[List.mem_singleton]at hc;rw[hc];exact lt_irr _⟩
 | cons c cs ih=>
  intro b;simp only[minB]
  by_cases h:lt c b=true
  ·rw[if_pos h];obtain⟨h1,h2⟩:=ih c;refine⟨List.mem_cons_of_mem _ h1,fun d hd=>?_⟩;rcases List.mem_cons.1 hd with rfl|hd
   ·intro hh;have:=(hlt _ _).1 h;exact h2 c (by simp) (List.lt_trans this hh)
   ·exact h2 d hd
  ·rw[if_neg h];obtain⟨h1,h2⟩:=ih b;refine⟨?_,fun d hd=>?_⟩
   ·rcases List.mem_cons.1 h1 with h1|h1
    ·rw[h1];simp
    ·simp[h1]
   ·rcases List.mem_cons.1 hd with rfl|hd
    ·exact h2 d (by simp)
    ·rcases List.mem_cons.1 hd with rfl|hd
     ·intro hh;have h3:¬key d<key b:=fun e=>h ((hlt _ _).2 e);have h4:=h2 b (by simp);exact h3 (Std.lt_of_lt_of_le hh (List.not_lt.1 h4))
     ·exact h2 d (by simp[hd])
def bestL:List (List Tm)->List Tm
 | []=>[]
 | c::cs=>minB (fun a b=>agS (a.map Tm.pr) (b.map Tm.pr)) cs c
theorem aoj (c:Tm)(cs:List Tm):ahp (c::cs)=minB (fun a b=>decide (a.pr<b.pr)) cs c:=by
 show cs.foldl _ c=_
 induction cs generalizing c with
 | nil=>rfl
 | cons d cs ih=>simp only[List.foldl_cons,minB];rw[ih];simp
theorem alT {α:Type}(P:α->Prop)(lt lt':α->α->Bool)(h:∀a b,P a->P b->lt a b=lt' a b):∀(cs:List α) (b:α),P b->(∀c∈cs,P c)->minB lt cs b=minB lt' cs b:=by
 intro cs;induction cs with
 | nil=>intro b _ _;rfl
 | cons c cs ih=>
  intro b hb hc;simp only[minB];rw[h c b (hc c (by simp)) hb];refine ih _ ?_ fun d hd=>hc d (by simp[hd])
  split
  ·exact hc c (by simp)
  ·exact hb
theorem afF {nm:UInt8->Bool}(hn:Nm nm)(k:Nat)(l:List (List Tm))(m:List (List Tm))(hl:l≠[])(hm:m≠[])(hlm:∀c,c∈l↔c∈m)(hok:∀c∈l,c.length=k/\∀t∈c,t.ok nm=true) : joinR .par (bestL l)=ahp (m.map (joinR .par)):=by
 have hj:∀(l:List Tm),(∀t∈l,t.ok nm=true)->(joinR .par l).ok nm=true:=by
  intro l;induction l with
  | nil=>intro _;rfl
  | cons a l ih=>
   cases l with
   | nil=>intro h;exact h a (by simp)
   | cons b l=>intro h;simp only[joinR,Tm.ok,bae];exact⟨h a (by simp),ih fun t ht=>h t (by simp[ht])⟩
 cases l with
 | nil=>exact absurd rfl hl
 | cons c cs=>
  cases m with
  | nil=>exact absurd rfl hm
  | cons d ds=>
   have e1:bestL (c::cs)=minB (fun a b=>decide ((joinR .par a).pr<(joinR .par b).pr)) cs c:=by
    show minB _ cs c=_;refine alT (fun x=>x∈c::cs) _ _ (fun a b ha hb=>?_) cs c (by simp) fun x hx=>by simp[hx]
    have h1:=hok a ha;have h2:=hok b hb;have:=aoi hn a b (by rw[h1.1,h2.1]) h1.2 h2.2;rw[Bool.eq_iff_iff,this];simp
   obtain⟨a1,a2⟩:=agT (fun x=>(joinR .par x).pr) (fun a b=>decide ((joinR .par a).pr<(joinR .par b).pr)) (fun a b=>by simp) cs c;rw[<-e1]at a1 a2;have e2:ahp ((d::ds).map (joinR .par))=minB (fun a b=>decide (a.pr<b.pr)) (ds.map (joinR .par)) (joinR .par d):=aoj _ _;obtain⟨b1,b2⟩:=agT (fun x:Tm=>x.pr) (fun a b=>decide (a.pr<b.pr)) (fun a b=>by simp) (ds.map (joinR .par)) (joinR .par d);rw[<-e2]at b1 b2;have b1':ahp ((d::ds).map (joinR .par))∈(d::ds).map (joinR .par):=b1;obtain⟨y,hy,ey⟩:=List.mem_map.1 b1';have f1:=b2 (joinR .par (bestL (c::cs))) (List.mem_map.2 ⟨_,(hlm _).1 a1,rfl⟩);have f2:=a2 y ((hlm y).2 hy);rw[ey]at f2;have f3:(joinR .par (bestL (c::cs))).pr=(ahp ((d::ds).map (joinR .par))).pr:=List.le_antisymm (List.not_lt.1 f2) (List.not_lt.1 f1);refine(ab6 hn _ _ [] [] (hj _ (hok _ a1).2) ?_ (by rw[f3])).1;rw[<-ey];exact hj _ (hok y ((hlm y).2 hy)).2
-- orders,one after the other
def nextG {α:Type}(lt:α->α->Bool)(l:List α):Option (List α):=
 (List.range l.length).reverse.findSome? fun i=>((List.range l.length).reverse.find? fun j=>decide (i<j) && (match l[i]?,l[j]? with|some a,some b=>lt a b|_,_=>false)).map fun j=>
  match l[i]?,l[j]? with
  | some a,some b=>((l.set i b).set j a).take (i+1)++(((l.set i b).set j a).drop (i+1)).reverse
  | _,_=>l
def visG {α:Type}(lt:α->α->Bool):Nat->List α->List (List α)
 | 0,_=>[]
 | k+1,l=>l::(match nextG lt l with|some m=>visG lt k m|none=>[])
theorem aok {α β:Type}(f:α->β)(lt:α->α->Bool)(lt':β->β->Bool)(l:List α)(h:∀a∈l,∀b∈l,lt' (f a) (f b)=lt a b):nextG lt' (l.map f)=(nextG lt l).map (List.map f):=by
 have hp:∀i j:Nat,(match (l.map f)[i]?,(l.map f)[j]? with|some a,some b=>lt' a b|_,_=>false)=(match l[i]?,l[j]? with|some a,some b=>lt a b|_,_=>false):=by
  intro i j;rw[List.getElem?_map,List.getElem?_map]
  cases hi:l[i]? with
  | none=>rfl
  | some a=>
   cases hj:l[j]? with
   | none=>rfl
   | some b=>exact h a (List.mem_of_getElem? hi) b (List.mem_of_getElem? hj)
 have hs:∀i j:Nat,(match (l.map f)[i]?,(l.map f)[j]? with|some a,some b=>(((l.map f).set i b).set j a).take (i+1)++((((l.map f).set i b).set j a).drop (i+1)).reverse|_,_=>l.map f) =
   List.map f (match l[i]?,l[j]? with|some a,some b=>((l.set i b).set j a).take (i+1)++(((l.set i b).set j a).drop (i+1)).reverse|_,_=>l):=by
  intro i j;rw[List.getElem?_map,List.getElem?_map]
  cases hi:l[i]? with
  | none=>rfl
  | some a=>
   cases hj:l[j]? with
   | none=>rfl
   | some b=>simp[List.map_set,List.map_take,List.map_drop]
 unfold nextG;rw[List.length_map];simp only[hp,hs]
 have key:∀(g:Nat->Nat->Bool) (F:Nat->Nat->List α) (r r':List Nat),(r'.findSome? fun i=>(r.find? (g i)).map fun j=>List.map f (F i j))=(r'.findSome? fun i=>(r.find? (g i)).map (F i)).map (List.map f):=by
  intro g F r r'
  induction r' with
  | nil=>rfl
  | cons i r' ih=>
   simp only[List.findSome?_cons]
   cases r.find? (g i) with
   | none=>exact ih
   | some j=>rfl
 exact key _ _ _ _
theorem aol {α:Type}(lt:α->α->Bool)(l m:List α)(h:nextG lt l=some m):∀a∈m,a∈l:=by
 unfold nextG at h;obtain⟨r,hr⟩:∃r,r=(List.range l.length).reverse:=⟨_,rfl⟩;rw[<-hr]at h;obtain⟨i,hi,h⟩:=List.exists_of_findSome?_eq_some h;rw[Option.map_eq_some_iff]at h;obtain⟨j,_,h⟩:=h;intro a ha;rw[<-h]at ha
 split at ha
 ·rename_i x y hx hy
  have:a∈(l.set i y).set j x:=by
   rcases lma.1 ha with ha|ha
   ·exact List.mem_of_mem_take ha
   ·exact List.mem_of_mem_drop (List.mem_reverse.1 ha)
  rcases List.mem_or_eq_of_mem_set this with h1|h1
  ·rcases List.mem_or_eq_of_mem_set h1 with h1|h1
   ·exact h1
   ·rw[h1];exact List.mem_of_getElem? hy
  ·rw[h1];exact List.mem_of_getElem? hx
 ·exact ha
theorem akk {α β:Type}(f:α->β)(lt:α->α->Bool)(lt':β->β->Bool)(P:α->Prop)(h:∀a b,P a->P b->lt' (f a) (f b)=lt a b):∀(k:Nat) (l:List α),(∀a∈l,P a)->visG lt' k (l.map f)=(visG lt k l).map (List.map f):=by
 intro k;induction k with
 | zero=>intro l _;rfl
 | succ k ih=>
  intro l hl;simp only[visG,List.map_cons];rw[aok f lt lt' l fun a ha b hb=>h a b (hl a ha) (hl b hb)]
  cases hn:nextG lt l with
  | none=>rfl
  | some m=>simp only[Option.map_some];rw[ih m fun a ha=>hl a (aol lt l m hn a ha)]
def ltN (a b:Nat):Bool:=decide (a<b)
def ltU (a b:UInt8):Bool:=decide (a<b)
theorem akl:∀m,m<=5->∀o,o∈visG ltN 200 (List.range m)↔o∈ords m:=by
 have h:∀m,m<=5->(∀o∈visG ltN 200 (List.range m),o∈ords m)/\(∀o∈ords m,o∈visG ltN 200 (List.range m)):=by
  intro m hm;have:m=0\/m=1\/m=2\/m=3\/m=4\/m=5:=by omega
  rcases this with rfl|rfl|rfl|rfl|rfl|rfl<;>decide +kernel
 intro m hm o;exact⟨(h m hm).1 o,(h m hm).2 o⟩
theorem aiw (G:List UInt8)(hs:G.Pairwise (·<·))(hl:G.length<=5):∀o,o∈visG ltU 200 G↔∃p∈ords G.length,o=p.map fun i=>G.getD i 0:=by
 have e:G=(List.range G.length).map fun i=>G.getD i 0:=by
  apply List.ext_getElem (by simp)
  intro i h1 h2;simp[List.getD_eq_getElem?_getD,List.getElem?_eq_getElem h1]
 have hlt:∀a b,a<G.length->b<G.length->ltU (G.getD a 0) (G.getD b 0)=ltN a b:=by
  intro a b ha hb;rw[List.pairwise_iff_getElem]at hs;rw[List.getD_eq_getElem?_getD,List.getD_eq_getElem?_getD,List.getElem?_eq_getElem ha,List.getElem?_eq_getElem hb];unfold ltU ltN;simp only[Option.getD_some];rcases Nat.lt_trichotomy a b with h|h|h
  ·have:=hs a b ha hb h;simp[this,h]
  ·subst h;simp
  ·have:=hs b a hb ha h;have h':¬a<b:=by omega
   have:¬G[a]<G[b]:=fun e=>by rw[abT]at this e;omega
   simp[this,h']
 intro o
 conv=>lhs;rw[e]
 rw[akk (fun i=>G.getD i 0) ltN ltU (fun i=>i<G.length) hlt 200 _ (fun a ha=>List.mem_range.1 ha),List.mem_map];exact⟨fun ⟨p,hp,e⟩=>⟨p,(akl _ hl p).1 hp,e.symm⟩,fun ⟨p,hp,e⟩=>⟨p,(akl _ hl p).2 hp,e.symm⟩⟩
def levI:Nat->(UInt8->UInt8)->List UInt8->Tm->Tm
 | 0,_,_,_=>.nil
 | n+1,L,left,s=>
  wrapO (left.take (lvl s).1.length) (joinR .par (bestL ((visG ltU 200 (lvl s).1).map fun o=>srtT ((lvl s).2.map (thI (levI n) (updL L o left) (left.drop (lvl s).1.length))))))
def Clean:Tm->Prop
 | .nil=>True
 | .snd _ _ p=>Clean p
 | .rcv _ _ p=>Clean p
 | .tau p=>Clean p
 | .sum p q=>Clean p/\Clean q
 | .par p q=>p≠.nil/\Clean p/\Clean q
 | .own _ p=>p≠.nil/\Clean p
 | .mat _ _ p=>Clean p
 | .rep p=>Clean p
theorem acY (s:Tm)(h:Clean s)(hs:s≠.nil):(lvl s).2≠[]:=by
 induction s with
 | nil=>exact absurd rfl hs
 | own x p ih=>exact ih h.2 h.1
 | par p q ih ih2=>simp only[lvl];intro e;exact ih h.2.1 h.1 (List.append_eq_nil_iff.1 e).1
 | _=>simp[lvl]
theorem aix (s:Tm)(h:Clean s):∀T∈(lvl s).2,Clean T:=by
 induction s with
 | nil=>intro T hT;simp[lvl]at hT
 | own x p ih=>exact ih h.2
 | par p q ih ih2=>
  intro T hT;simp only[lvl,lma]at hT;exact hT.elim (ih h.2.1 T) (ih2 h.2.2 T)
 | _=>intro T hT;simp only[lvl,List.mem_singleton]at hT;rw[hT];exact h
theorem agU (s:Tm)(h:Clean s):∀q∈smds s,Clean q:=by
 induction s with
 | sum p q ih ih2=>
  intro T hT;simp only[smds,lma]at hT;exact hT.elim (ih h.1 T) (ih2 h.2 T)
 | _=>intro T hT;simp only[smds,List.mem_singleton]at hT;rw[hT];exact h
theorem aiy (t:Tm):Clean t.sim:=by
 induction t with
 | nil=>trivial
 | snd a b p ih=>exact ih
 | rcv a x p ih=>exact ih
 | tau p ih=>exact ih
 | sum p q ih ih2=>
  unfold Tm.sim
  split
  ·exact ih2
  ·split
   ·exact ih
   ·exact⟨ih,ih2⟩
 | par p q ih ih2=>
  unfold Tm.sim
  split
  ·exact ih2
  ·split
   ·exact ih
   ·rename_i h1 h2;exact⟨h1,ih,ih2⟩
 | own x p ih=>
  unfold Tm.sim
  split
  ·rename_i h;exact⟨fun e=>by rw[e]at h;simp[Tm.free]at h,ih⟩
  ·exact ih
 | mat a b p ih=>unfold Tm.sim;split<;>exact ih
 | rep p ih=>unfold Tm.sim;split<;>exact ih
theorem afG {s:Tm}{f:UInt8->UInt8}{ns:List UInt8}(h:can s f ns=.nil):s=.nil:=by cases s<;>simp[can]at h;rfl
theorem aiz (s:Tm):∀(f:UInt8->UInt8) (ns:List UInt8),Clean s->Clean (can s f ns):=by
 induction s with
 | nil=>intro f ns h;trivial
 | snd a b p ih=>intro f ns h;exact ih _ _ h
 | rcv a x p ih=>intro f ns h;exact ih _ _ h
 | tau p ih=>intro f ns h;exact ih _ _ h
 | mat a b p ih=>intro f ns h;exact ih _ _ h
 | rep p ih=>intro f ns h;exact ih _ _ h
 | sum p q ih ih2=>intro f ns h;exact⟨ih _ _ h.1,ih2 _ _ h.2⟩
 | par p q ih ih2=>intro f ns h;exact⟨fun e=>h.1 (afG e),ih _ _ h.2.1,ih2 _ _ h.2.2⟩
 | own x p ih=>intro f ns h;exact⟨fun e=>h.1 (afG e),ih _ _ h.2⟩
theorem acg {s:Tm}{k:Nat}(h:fl s k=true):(lvl s).1.length<=5/\(lvl s).1.length<=k/\∀T∈(lvl s).2,tf T (k - (lvl s).1.length)=true:=by
 unfold fl fcnt at h;rw[aiu]at h;simp only[bae,decide_eq_true_eq,List.all_eq_true]at h;exact⟨h.1.1,h.1.2,h.2⟩
theorem afH {p q:Tm}{k:Nat}:fl (.sum p q) k=tf (.sum p q) k:=by simp[fl,fcnt,lvl]
theorem aq2 {once:Bool}{m:Nat}:∀o∈(if once=true then (ords m).take 1 else ords m),o∈ords m:=by
 intro o ho
 split at ho
 ·exact List.mem_of_mem_take ho
 ·exact ho
theorem ahr {once:Bool}{m:Nat}(hm:m<=5):(if once=true then (ords m).take 1 else ords m)≠[]:=by
 have:=acW m hm
 split
 ·intro e;rw[List.take_eq_nil_iff]at e;simp at e;exact this e
 ·exact this
-- how many names of its own
theorem ajq (n:Nat):∀(once:Bool) (L:UInt8->UInt8) (left:List UInt8) (s:Tm),s.size<=n->Clean s->fl s left.length=true->ownc (mid n once L left s)=ownc s:=by
 induction n with
 | zero=>intro once L left s h;have:=aao s;omega
 | succ n ih=>
  intro once L left s hn hc hf;obtain⟨f1,f2,f3⟩:=acg hf;unfold mid
  by_cases hU:(lvl s).2=[]
  ·have:s=.nil:=by
    cases s with
    | nil=>rfl
    | _=>exact absurd hU (acY _ hc (by simp))
   subst this;rfl
  ·have hU':(lvl s).2.isEmpty=false:=by simpa using hU
   rw[hU'];simp only[Bool.false_eq_true,if_false];rw[aog,List.length_take,Nat.min_eq_left f2,ahq s];congr 1
   have hm:=acu ((if once then (ords (lvl s).1.length).take 1 else ords (lvl s).1.length).map fun o=>
    joinR .par (srtT ((lvl s).2.map (thI (mid n once) (updL L (o.map fun i=>(lvl s).1.getD i 0) left) (left.drop (lvl s).1.length))))) (by simpa using ahr f1)
   obtain⟨o,ho,e⟩:=List.mem_map.1 hm;rw[<-e,alS,aki];refine akj _ fun T hT=>?_;have hk:=aba s T hT;have hsz:=aa_ s T hT;have hcl:=aix s hc T hT;have htf:=f3 T hT;have hlen:(left.drop (lvl s).1.length).length=left.length - (lvl s).1.length:=List.length_drop;rw[<-hlen]at htf
   generalize left.drop (lvl s).1.length=lf at *
   generalize updL L (o.map fun i=>(lvl s).1.getD i 0) left=L'
   cases T with
   | nil=>exact absurd rfl hk.2.2
   | par p q=>exact absurd rfl (hk.1 p q)
   | own x p=>exact absurd rfl (hk.2.1 x p)
   | snd a b p=>simp only[Tm.size]at hsz;simp only[thI,ownc];exact ih once L' lf p (by omega) hcl htf
   | tau p=>simp only[Tm.size]at hsz;simp only[thI,ownc];exact ih once L' lf p (by omega) hcl htf
   | rep p=>simp only[Tm.size]at hsz;simp only[thI,ownc];exact ih once L' lf p (by omega) hcl htf
   | mat a b p=>simp only[Tm.size]at hsz;simp only[thI];split<;>simp only[ownc]<;>exact ih once L' lf p (by omega) hcl htf
   | rcv a x p=>
    simp only[Tm.size]at hsz
    cases lf with
    | nil=>simp[tf]at htf
    | cons c lf=>
     simp only[thI,ownc,List.headD_cons,List.tail_cons];refine ih once _ lf p (by omega) hcl ?_;simp only[tf,List.length_cons,bae]at htf;simpa [fl] using htf
   | sum p q=>
    have hsm:=(acX (.sum p q) lf.length).1 (by rw[afH];exact htf);have e1:thI (mid n once) L' lf (.sum p q)=joinR .sum (srtT ((smds (.sum p q)).map (mid n once L' lf))):=rfl;rw[e1,alR,aki,<-aoh (.sum p q)];refine akj _ fun r hr=>?_
    have hrs:r.size<(Tm.sum p q).size:=by
     simp only[smds,lma]at hr;simp only[Tm.size];rcases hr with hr|hr
     ·have:=aaL p r hr;omega
     ·have:=aaL q r hr;omega
    exact ih once L' lf r (by omega) (agU _ hcl r hr) (hsm r hr)
-- well spelt
theorem lvl_free (s:Tm):∀T∈(lvl s).2,∀z,z∈T.free->z∈s.free\/z∈(lvl s).1:=by
 induction s with
 | nil=>intro T hT;simp[lvl]at hT
 | own x p ih=>
  intro T hT z hz;simp only[lvl,List.mem_cons,mf_own];rcases ih T hT z hz with h|h
  ·by_cases e:z=x
   ·exact .inr (.inl e)
   ·exact .inl ⟨h,e⟩
  ·exact .inr (.inr h)
 | par p q ih ih2=>
  intro T hT z hz;simp only[lvl,lma,mf_par]at hT ⊢;rcases hT with hT|hT
  ·rcases ih T hT z hz with h|h
   ·exact .inl (.inl h)
   ·exact .inr (.inl h)
  ·rcases ih2 T hT z hz with h|h
   ·exact .inl (.inr h)
   ·exact .inr (.inr h)
 | _=>intro T hT z hz;simp only[lvl,List.mem_singleton]at hT;rw[hT]at hz;exact .inl hz
theorem adN (s:Tm):∀q∈smds s,∀z,z∈q.free->z∈s.free:=by
 induction s with
 | sum p q ih ih2=>
  intro T hT z hz;simp only[smds,lma]at hT;rw[mf_sum];exact hT.imp (fun h=>ih T h z hz) (fun h=>ih2 T h z hz)
 | _=>intro T hT z hz;simp only[smds,List.mem_singleton]at hT;rw[hT]at hz;exact hz
theorem ahs:∀(o:List UInt8) (L:UInt8->UInt8) (ls:List UInt8) (v:UInt8),o.length<=ls.length->(v∈o->updL L o ls v∈ls)/\(v∉o->updL L o ls v=L v):=by
 intro o;induction o with
 | nil=>intro L ls v _;exact⟨fun h=>by simp at h,fun _=>by cases ls<;>rfl⟩
 | cons x o ih=>
  intro L ls v h
  cases ls with
  | nil=>simp at h
  | cons l ls=>
   obtain⟨h1,h2⟩:=ih (upd L x l) ls v (by simpa using h);simp only[updL];constructor
   ·intro hv
    by_cases hvo:v∈o
    ·exact List.mem_cons_of_mem _ (h1 hvo)
    ·rw[h2 hvo]
     have:v=x:=by rcases List.mem_cons.1 hv with h|h;exact h;exact absurd h hvo
     unfold upd;rw[if_pos this];simp
   ·intro hv;rw[h2 (fun h=>hv (by simp[h]))];unfold upd;rw[if_neg (fun e=>hv (by simp[e]))]
theorem aht {nm:UInt8->Bool}{t:Tm}:∀ls:List UInt8,(∀l∈ls,nm l=true)->t.ok nm=true->(wrapO ls t).ok nm=true:=by
 intro ls;induction ls with
 | nil=>intro _ h;exact h
 | cons a ls ih=>
  intro h ht;show (nm a && (wrapO ls t).ok nm)=true;rw[h a (by simp),ih (fun l hl=>h l (by simp[hl])) ht];rfl
theorem ahu {nm:UInt8->Bool}:∀l:List Tm,(∀t∈l,t.ok nm=true)->(joinR .par l).ok nm=true:=by
 intro l;induction l with
 | nil=>intro _;rfl
 | cons a l ih=>
  cases l with
  | nil=>intro h;exact h a (by simp)
  | cons b l=>intro h;simp only[joinR,Tm.ok,bae];exact⟨h a (by simp),ih fun t ht=>h t (by simp[ht])⟩
theorem akm {nm:UInt8->Bool}:∀l:List Tm,(∀t∈l,t.ok nm=true)->(joinR .sum l).ok nm=true:=by
 intro l;induction l with
 | nil=>intro _;rfl
 | cons a l ih=>
  cases l with
  | nil=>intro h;exact h a (by simp)
  | cons b l=>intro h;simp only[joinR,Tm.ok,bae];exact⟨h a (by simp),ih fun t ht=>h t (by simp[ht])⟩
theorem aom {s:Tm}{L:UInt8->UInt8}{left:List UInt8}{o:List UInt8}(hl:∀l∈left,nmL l=true)(hL:∀v,v∈s.free->nmL (L v)=true)(ho:o.length<=left.length)(hG:∀v,v∈(lvl s).1->v∈o){T:Tm}(hT:T∈(lvl s).2) : ∀v,v∈T.free->nmL (updL L o left v)=true:=by
 intro v hv;obtain⟨h1,h2⟩:=ahs o L left v ho
 by_cases hvo:v∈o
 ·exact hl _ (h1 hvo)
 ·rw[h2 hvo];rcases lvl_free s T hT v hv with h|h
  ·exact hL v h
  ·exact absurd (hG v h) hvo
theorem adO {G:List UInt8}{o:List Nat}(h:∀i,i∈o↔i<G.length):∀v,v∈G->v∈o.map fun i=>G.getD i 0:=by
 intro v hv;obtain⟨i,hi,e⟩:=List.getElem_of_mem hv;exact List.mem_map.2 ⟨i,(h i).2 hi,by rw[List.getD_eq_getElem?_getD,List.getElem?_eq_getElem hi,e];rfl⟩
theorem aon (f:(UInt8->UInt8)->List UInt8->Tm->Tm)(n:Nat) (ih:∀(L:UInt8->UInt8) (left:List UInt8) (s:Tm),s.size<=n->fl s left.length=true->(∀l∈left,nmL l=true)->(∀v,v∈s.free->nmL (L v)=true)->(f L left s).ok nmL=true) (L:UInt8->UInt8)(lf:List UInt8)(T:Tm)(hsz:T.size<=n+1)(hk:(∀p q,T≠.par p q)/\(∀x p,T≠.own x p)/\T≠.nil)(htf:tf T lf.length=true)(hl:∀l∈lf,nmL l=true)(hL:∀v,v∈T.free->nmL (L v)=true) : (thI f L lf T).ok nmL=true:=by
 cases T with
 | nil=>exact absurd rfl hk.2.2
 | par p q=>exact absurd rfl (hk.1 p q)
 | own x p=>exact absurd rfl (hk.2.1 x p)
 | snd a b p=>
  simp only[Tm.size]at hsz;simp only[thI,Tm.ok,bae];exact⟨⟨hL a (by rw[mf_snd];simp),hL b (by rw[mf_snd];simp)⟩,ih L lf p (by omega) htf hl fun v hv=>hL v (by rw[mf_snd];simp[hv])⟩
 | tau p=>simp only[Tm.size]at hsz;simp only[thI,Tm.ok];exact ih L lf p (by omega) htf hl fun v hv=>hL v (by rw[mf_tau];exact hv)
 | rep p=>simp only[Tm.size]at hsz;simp only[thI,Tm.ok];exact ih L lf p (by omega) htf hl fun v hv=>hL v (by rw[mf_rep];exact hv)
 | mat a b p=>
  simp only[Tm.size]at hsz;have h1:=hL a (by rw[mf_mat];simp);have h2:=hL b (by rw[mf_mat];simp);have h3:=ih L lf p (by omega) htf hl fun v hv=>hL v (by rw[mf_mat];simp[hv]);simp only[thI];split<;>simp only[Tm.ok,bae]
  ·exact⟨⟨h2,h1⟩,h3⟩
  ·exact⟨⟨h1,h2⟩,h3⟩
 | rcv a x p=>
  simp only[Tm.size]at hsz
  cases lf with
  | nil=>simp[tf]at htf
  | cons c lf=>
   simp only[thI,Tm.ok,bae,List.headD_cons,List.tail_cons];refine⟨⟨hL a (by rw[mf_rcv];simp),hl c (by simp)⟩,ih _ lf p (by omega) ?_ (fun l h=>hl l (by simp[h])) fun v hv=>?_⟩
   ·simp only[tf,List.length_cons,bae]at htf;simpa [fl] using htf
   ·unfold upd;split
    ·exact hl c (by simp)
    ·rename_i e;exact hL v (by rw[mf_rcv];exact .inr ⟨hv,e⟩)
 | sum p q=>
  have hsm:=(acX (.sum p q) lf.length).1 (by rw[afH];exact htf);have e1:thI f L lf (.sum p q)=joinR .sum (srtT ((smds (.sum p q)).map (f L lf))):=rfl;rw[e1];refine akm _ fun t ht=>?_;obtain⟨r,hr,rfl⟩:=List.mem_map.1 ((aaG _ _).1 ht)
  have hrs:r.size<(Tm.sum p q).size:=by
   simp only[smds,lma]at hr;simp only[Tm.size];rcases hr with hr|hr
   ·have:=aaL p r hr;omega
   ·have:=aaL q r hr;omega
  exact ih L lf r (by omega) (hsm r hr) hl fun v hv=>hL v (adN _ r hr v hv)
theorem aiA (n:Nat):∀(once:Bool) (L:UInt8->UInt8) (left:List UInt8) (s:Tm),s.size<=n->fl s left.length=true->(∀l∈left,nmL l=true)->(∀v,v∈s.free->nmL (L v)=true)->(mid n once L left s).ok nmL=true:=by
 induction n with
 | zero=>intro once L left s h;have:=aao s;omega
 | succ n ih=>
  intro once L left s hn hf hl hL;obtain⟨f1,f2,f3⟩:=acg hf;unfold mid
  split
  ·rfl
  ·refine aht _ (fun l h=>hl l (List.mem_of_mem_take h)) ?_
   have hm:=acu ((if once then (ords (lvl s).1.length).take 1 else ords (lvl s).1.length).map fun o=>
    joinR .par (srtT ((lvl s).2.map (thI (mid n once) (updL L (o.map fun i=>(lvl s).1.getD i 0) left) (left.drop (lvl s).1.length))))) (by simpa using ahr f1)
   obtain⟨o,ho,e⟩:=List.mem_map.1 hm;rw[<-e];obtain⟨o1,o2,o3⟩:=acn _ f1 o (aq2 o ho);refine ahu _ fun t ht=>?_;obtain⟨T,hT,rfl⟩:=List.mem_map.1 ((aaG _ _).1 ht);have hlen:(left.drop (lvl s).1.length).length=left.length - (lvl s).1.length:=List.length_drop
   exact aon (mid n once) n (ih once) _ _ T (by have:=aa_ s T hT;omega) (aba s T hT) (by rw[hlen];exact f3 T hT) (fun l h=>hl l (List.mem_of_mem_drop h))
    (aom hl hL (by rw[List.length_map];omega) (adO o3) hT)
-- the program's way
theorem ajr (s:Tm):(lvl s).1.Sublist s.bnd:=by
 induction s with
 | nil=>simp[lvl]
 | own x p ih=>simp only[lvl,Tm.bnd];exact ih.cons_cons x
 | par p q ih ih2=>simp only[lvl,Tm.bnd];exact ih.append ih2
 | _=>simp[lvl]
theorem ae_ (s:Tm):∀T∈(lvl s).2,T.bnd.Sublist s.bnd:=by
 induction s with
 | nil=>intro T hT;simp[lvl]at hT
 | own x p ih=>intro T hT;simp only[Tm.bnd];exact(ih T hT).cons x
 | par p q ih ih2=>
  intro T hT;simp only[lvl,lma]at hT;simp only[Tm.bnd];rcases hT with hT|hT
  ·exact(ih T hT).trans (List.sublist_append_left _ _)
  ·exact(ih2 T hT).trans (List.sublist_append_right _ _)
 | _=>intro T hT;simp only[lvl,List.mem_singleton]at hT;rw[hT];exact List.Sublist.refl _
theorem adP (s:Tm):∀T∈smds s,T.bnd.Sublist s.bnd:=by
 induction s with
 | sum p q ih ih2=>
  intro T hT;simp only[smds,lma]at hT;simp only[Tm.bnd];rcases hT with hT|hT
  ·exact(ih T hT).trans (List.sublist_append_left _ _)
  ·exact(ih2 T hT).trans (List.sublist_append_right _ _)
 | _=>intro T hT;simp only[smds,List.mem_singleton]at hT;rw[hT];exact List.Sublist.refl _
theorem acK {α:Type}(lt:α->α->Bool)(k:Nat)(l:List α):visG lt (k+1) l≠[]:=by simp[visG]
theorem aq3 {α:Type}(lt:α->α->Bool)(k:Nat):visG lt (k+1) []=[[]]:=by simp[visG,nextG]
theorem akn (n:Nat)(L:UInt8->UInt8)(left:List UInt8):levI (n+1) L left .nil=.nil:=by
 unfold levI;have e:lvl .nil=([],[]):=rfl;rw[e];simp only[List.length_nil,List.take_zero,List.drop_zero,List.map_nil];rw[aq3 ltU 199];simp only[List.map_cons,List.map_nil,bestL,minB];unfold srtT;rw[List.mergeSort_nil];rfl
theorem ahv (n:Nat):∀(L:UInt8->UInt8) (left:List UInt8) (s:Tm),s.size<=n->Clean s->fl s left.length=true->s.bnd.Pairwise (·<·)->(∀l∈left,nmL l=true)->(∀v,v∈s.free->nmL (L v)=true)-> levI n L left s=mid n false L left s:=by
 induction n with
 | zero=>intro L left s h;have:=aao s;omega
 | succ n ih=>
  intro L left s hn hc hf hb hl hL;obtain⟨f1,f2,f3⟩:=acg hf;have hlen:(left.drop (lvl s).1.length).length=left.length - (lvl s).1.length:=List.length_drop;have hl2:∀l∈left.drop (lvl s).1.length,nmL l=true:=fun l h=>hl l (List.mem_of_mem_drop h)
  -- the threads
  have hth:∀(L':UInt8->UInt8) (T:Tm),T∈(lvl s).2->(∀v,v∈T.free->nmL (L' v)=true)->thI (levI n) L' (left.drop (lvl s).1.length) T=thI (mid n false) L' (left.drop (lvl s).1.length) T:=by
   intro L' T hT hL';have hk:=aba s T hT;have hsz:=aa_ s T hT;have hcl:=aix s hc T hT;have htf:=f3 T hT;have hbb:=hb.sublist (ae_ s T hT);rw[<-hlen]at htf;clear hf f3
   generalize left.drop (lvl s).1.length=lf at *
   cases T with
   | nil=>exact absurd rfl hk.2.2
   | par p q=>exact absurd rfl (hk.1 p q)
   | own x p=>exact absurd rfl (hk.2.1 x p)
   | snd a b p=>simp only[Tm.size]at hsz;simp only[thI];rw[ih L' lf p (by omega) hcl htf hbb hl2 fun v hv=>hL' v (by rw[mf_snd];simp[hv])]
   | tau p=>simp only[Tm.size]at hsz;simp only[thI];rw[ih L' lf p (by omega) hcl htf hbb hl2 fun v hv=>hL' v (by rw[mf_tau];exact hv)]
   | rep p=>simp only[Tm.size]at hsz;simp only[thI];rw[ih L' lf p (by omega) hcl htf hbb hl2 fun v hv=>hL' v (by rw[mf_rep];exact hv)]
   | mat a b p=>simp only[Tm.size]at hsz;simp only[thI];rw[ih L' lf p (by omega) hcl htf hbb hl2 fun v hv=>hL' v (by rw[mf_mat];simp[hv])]
   | rcv a x p=>
    simp only[Tm.size]at hsz
    cases lf with
    | nil=>simp[tf]at htf
    | cons c lf=>
     simp only[thI,List.headD_cons,List.tail_cons];rw[ih _ lf p (by omega) hcl (by simp only[tf,List.length_cons,bae]at htf;simpa [fl] using htf) (List.Pairwise.of_cons hbb) (fun l h=>hl2 l (by simp[h])) fun v hv=>?_];unfold upd;split
     ·exact hl2 c (by simp)
     ·rename_i e;exact hL' v (by rw[mf_rcv];exact .inr ⟨hv,e⟩)
   | sum p q=>
    have hsm:=(acX (.sum p q) lf.length).1 (by rw[afH];exact htf);have e1:∀f,thI f L' lf (.sum p q)=joinR .sum (srtT ((smds (.sum p q)).map (f L' lf))):=fun f=>rfl;rw[e1,e1];congr 2;refine List.map_congr_left fun r hr=>?_
    have hrs:r.size<(Tm.sum p q).size:=by
     simp only[smds,lma]at hr;simp only[Tm.size];rcases hr with hr|hr
     ·have:=aaL p r hr;omega
     ·have:=aaL q r hr;omega
    exact ih L' lf r (by omega) (agU _ hcl r hr) (hsm r hr) (hbb.sublist (adP _ r hr)) hl2 fun v hv=>hL' v (adN _ r hr v hv)
  by_cases hU:(lvl s).2=[]
  ·have:s=.nil:=by
    cases s with
    | nil=>rfl
    | _=>exact absurd hU (acY _ hc (by simp))
   subst this
   rw[akn];rfl
  ·unfold levI mid;have hU':(lvl s).2.isEmpty=false:=by simpa using hU
   rw[hU'];simp only[Bool.false_eq_true,if_false];congr 1;have hG:=hb.sublist (ajr s);have hv:=aiw _ hG f1
   have hL2:∀p∈ords (lvl s).1.length,∀T∈(lvl s).2,∀v,v∈T.free->nmL (updL L (p.map fun i=>(lvl s).1.getD i 0) left v)=true:=fun p hp T hT=>
    aom hl hL (by rw[List.length_map];have:=(acn _ f1 p hp).1;omega) (adO (acn _ f1 p hp).2.2) hT
   have hcand:∀p∈ords (lvl s).1.length,srtT ((lvl s).2.map (thI (levI n) (updL L (p.map fun i=>(lvl s).1.getD i 0) left) (left.drop (lvl s).1.length))) =
     srtT ((lvl s).2.map (thI (mid n false) (updL L (p.map fun i=>(lvl s).1.getD i 0) left) (left.drop (lvl s).1.length))):=fun p hp=>by
    congr 1;exact List.map_congr_left fun T hT=>hth _ T hT (hL2 p hp T hT)
   have hmap:((ords (lvl s).1.length).map fun o=>joinR .par (srtT ((lvl s).2.map (thI (mid n false) (updL L (o.map fun i=>(lvl s).1.getD i 0) left) (left.drop (lvl s).1.length))))) =
     ((ords (lvl s).1.length).map fun o=>srtT ((lvl s).2.map (thI (mid n false) (updL L (o.map fun i=>(lvl s).1.getD i 0) left) (left.drop (lvl s).1.length)))).map (joinR .par):=by
    rw[List.map_map];rfl
   rw[hmap];refine afF aa5 (lvl s).2.length _ _ ?_ ?_ (fun c=>?_) (fun c hc'=>?_)
   ·exact fun e=>acK ltU 199 _ (List.map_eq_nil_iff.1 e)
   ·exact fun e=>acW _ f1 (List.map_eq_nil_iff.1 e)
   ·rw[List.mem_map,List.mem_map];constructor
    ·rintro⟨o,ho,rfl⟩;obtain⟨p,hp,rfl⟩:=(hv o).1 ho;exact⟨p,hp,(hcand p hp).symm⟩
    ·rintro⟨p,hp,rfl⟩;exact⟨_,(hv _).2 ⟨p,hp,rfl⟩,hcand p hp⟩
   ·obtain⟨o,ho,rfl⟩:=List.mem_map.1 hc';obtain⟨p,hp,rfl⟩:=(hv o).1 ho;refine⟨by unfold srtT;rw[List.length_mergeSort,List.length_map],fun t ht=>?_⟩;obtain⟨T,hT,rfl⟩:=List.mem_map.1 ((aaG _ _).1 ht);rw[hth _ T hT (hL2 p hp T hT)];exact aon (mid n false) n (aiA n false) _ _ T (by have:=aa_ s T hT;omega) (aba s T hT) (by rw[hlen];exact f3 T hT) hl2 (hL2 p hp T hT)
def marksN:List UInt8:=(List.range 133).map fun i=>UInt8.ofNat (123+i)
theorem acv:marksN.Pairwise (·<·):=by unfold marksN;decide +kernel
theorem aaZ:marksN.length=133:=by unfold marksN;simp
theorem aoo:∀z∈marksN,123<=z.toNat:=by unfold marksN;decide +kernel
def numb (t:Tm):Tm:=can t.sim id marksN
def nfS (t:Tm):Option Tm:=
 if (whl t.size true t t.usd).2=true\/8<(whl t.size true t t.usd).1.pr.count 35 then none else
 if (whl t.size false t t.usd).2=true then none else
 if (whl t.size false t t.usd).1.ok nmL=true/\(whl t.size false t t.usd).1.pr.length<=300/\(whl t.size false t t.usd).1.size<=60 then some (whl t.size false t t.usd).1 else none
def nfI (t:Tm):Option Tm:=
 if 8<ownc (numb t)\/fl (numb t) (othL t.usd).length=false then none else
 if (levI t.size id (othL t.usd) (numb t)).ok nmL=true/\(levI t.size id (othL t.usd) (numb t)).pr.length<=300/\(levI t.size id (othL t.usd) (numb t)).size<=60 then some (levI t.size id (othL t.usd) (numb t)) else none
theorem abq (t:Tm):t.sim.size<=t.size:=(ac_ t _ _ (akh t)).2.2
theorem ach (s:Tm)(f:UInt8->UInt8)(ns:List UInt8):(can s f ns).size=s.size:=by
 induction s generalizing f ns with
 | _=>simp_all [can,Tm.size]
theorem aci {z:UInt8}(h:nmL z=true):¬aa4 z:=by rw[nmL_iff]at h;unfold aa4;omega
theorem okL_names {t:Tm}(h:t.ok nmL=true):(∀z,z∈t.free->nmL z=true)/\∀z,z∈t.bnd->nmL z=true:=
 ⟨fun z hz=>(nmL_iff z).2 (lets_free t h z hz),fun z hz=>(nmL_iff z).2 (aqp t h z hz)⟩
theorem ada {t:Tm}(hs:t.size<=121):(numb t).bnd=marksN.take t.sim.bnd.length:=by
 refine ajp _ _ _ ?_;have:=acB t.sim;have:=abq t;rw[aaZ];omega
theorem aop {t:Tm}(h:t.ok nmL=true)(hs:t.size<=121):∃E,Cx t E (numb t) id t.usd:=by
 have hn:=okL_names h;have hb:t.sim.bnd.length<=marksN.length:=by have:=acB t.sim;have:=abq t;rw[aaZ];omega
 have hf:∀z,z∈t.sim.free->id z∉marksN:=fun z hz hm=>by
  rw[sim_usd]at hz;have h1:=(nmL_iff z).1 (hn.1 z (usd_free t z hz));have h2:=aoo _ hm;simp only[id]at h2;omega
 have hnd:marksN.Nodup:=acv.imp fun h e=>by rw[e,abT]at h;omega
 refine⟨_,asJ t _ _ id marksN (akh t) hb hnd hf,fun z hz=>aci (hz.elim (hn.1 z) (hn.2 z)),?_,fun u v he=>?_,hs⟩
 ·rw[ada hs];exact hnd.sublist (List.take_sublist _ _)
 ·obtain⟨w,hw,rfl,rfl⟩:=he;refine⟨rfl,fun hv=>hf _ hw ?_,by rw[<-sim_usd];exact hw,aci (hn.1 _ (usd_free t _ (by rw[<-sim_usd];exact hw)))⟩;rw[ada hs]at hv;exact List.mem_of_mem_take hv
theorem adQ (s:Tm):∀(f:UInt8->UInt8) (ns:List UInt8),s.bnd.length<=ns.length->∀z,z∈(can s f ns).free->(∃w,w∈s.free/\z=f w):=by
 have hb:∀(p:Tm) (x n:UInt8) (f:UInt8->UInt8) (z:UInt8),(∃w,w∈p.free/\z=upd f x n w)->z≠n->∃w,(w∈p.free/\w≠x)/\z=f w:=by
  rintro p x n f z ⟨w,hw,e⟩ hz;unfold upd at e
  split at e
  ·exact absurd e hz
  ·rename_i hx;exact⟨w,⟨hw,hx⟩,e⟩
 induction s with
 | nil=>intro f ns _ z hz;simp[can,Tm.free]at hz
 | snd a b p ih=>
  intro f ns h z hz;simp only[can,mf_snd]at hz;rcases hz with rfl|rfl|hz
  ·exact⟨a,by rw[mf_snd];simp,rfl⟩
  ·exact⟨b,by rw[mf_snd];simp,rfl⟩
  ·obtain⟨w,hw,e⟩:=ih f ns h z hz;exact⟨w,by rw[mf_snd];simp[hw],e⟩
 | mat a b p ih=>
  intro f ns h z hz;simp only[can,mf_mat]at hz;rcases hz with rfl|rfl|hz
  ·exact⟨a,by rw[mf_mat];simp,rfl⟩
  ·exact⟨b,by rw[mf_mat];simp,rfl⟩
  ·obtain⟨w,hw,e⟩:=ih f ns h z hz;exact⟨w,by rw[mf_mat];simp[hw],e⟩
 | tau p ih=>intro f ns h z hz;simp only[can,mf_tau]at hz;obtain⟨w,hw,e⟩:=ih f ns h z hz;exact⟨w,by rw[mf_tau];exact hw,e⟩
 | rep p ih=>intro f ns h z hz;simp only[can,mf_rep]at hz;obtain⟨w,hw,e⟩:=ih f ns h z hz;exact⟨w,by rw[mf_rep];exact hw,e⟩
 | rcv a x p ih=>
  intro f ns h z hz
  cases ns with
  | nil=>simp[Tm.bnd]at h
  | cons n ns=>
   simp only[can,mf_rcv,List.headD_cons,List.tail_cons]at hz;rcases hz with rfl|⟨hz,hn⟩
   ·exact⟨a,by rw[mf_rcv];simp,rfl⟩
   ·obtain⟨w,hw,e⟩:=hb p x n f z (ih _ ns (by simpa [Tm.bnd] using h) z hz) hn;exact⟨w,by rw[mf_rcv];exact .inr hw,e⟩
 | own x p ih=>
  intro f ns h z hz
  cases ns with
  | nil=>simp[Tm.bnd]at h
  | cons n ns=>
   simp only[can,mf_own,List.headD_cons,List.tail_cons]at hz;obtain⟨w,hw,e⟩:=hb p x n f z (ih _ ns (by simpa [Tm.bnd] using h) z hz.1) hz.2;exact⟨w,by rw[mf_own];exact hw,e⟩
 | sum p q ih ih2=>
  intro f ns h z hz;simp only[Tm.bnd,lla]at h;simp only[can,mf_sum]at hz;rcases hz with hz|hz
  ·obtain⟨w,hw,e⟩:=ih f ns (by omega) z hz;exact⟨w,by rw[mf_sum];exact .inl hw,e⟩
  ·obtain⟨w,hw,e⟩:=ih2 f _ (by rw[List.length_drop];omega) z hz;exact⟨w,by rw[mf_sum];exact .inr hw,e⟩
 | par p q ih ih2=>
  intro f ns h z hz;simp only[Tm.bnd,lla]at h;simp only[can,mf_par]at hz;rcases hz with hz|hz
  ·obtain⟨w,hw,e⟩:=ih f ns (by omega) z hz;exact⟨w,by rw[mf_par];exact .inl hw,e⟩
  ·obtain⟨w,hw,e⟩:=ih2 f _ (by rw[List.length_drop];omega) z hz;exact⟨w,by rw[mf_par];exact .inr hw,e⟩
theorem ajs (t:Tm)(h:t.ok nmL=true):t.ok nmE=true:=by
 have hc:∀c,nmL c=true->nmE c=true:=fun c h=>by rw[ahc];exact .inl ((nmL_iff c).1 h)
 induction t with
 | nil=>rfl
 | snd a b p ih=>simp only[Tm.ok,bae]at h ⊢;exact⟨⟨hc _ h.1.1,hc _ h.1.2⟩,ih h.2⟩
 | rcv a b p ih=>simp only[Tm.ok,bae]at h ⊢;exact⟨⟨hc _ h.1.1,hc _ h.1.2⟩,ih h.2⟩
 | mat a b p ih=>simp only[Tm.ok,bae]at h ⊢;exact⟨⟨hc _ h.1.1,hc _ h.1.2⟩,ih h.2⟩
 | own a p ih=>simp only[Tm.ok,bae]at h ⊢;exact⟨hc _ h.1,ih h.2⟩
 | tau p ih=>simp only[Tm.ok]at h ⊢;exact ih h
 | rep p ih=>simp only[Tm.ok]at h ⊢;exact ih h
 | sum p q ih ih2=>simp only[Tm.ok,bae]at h ⊢;exact⟨ih h.1,ih2 h.2⟩
 | par p q ih ih2=>simp only[Tm.ok,bae]at h ⊢;exact⟨ih h.1,ih2 h.2⟩
theorem ajt {t:Tm}(h:t.ok nmL=true)(hs:t.size<=121)(hf:FitT t):nfS t=nfI t:=by
 obtain⟨E,cx⟩:=aop h hs;have g:=fun once=>aoe t.size once t t.usd (numb t) E id (nl _) hf cx;have hsz:(numb t).size<=t.size:=by unfold numb;rw[ach];exact abq t
 have hcl:Clean (numb t):=aiz _ _ _ (aiy t);have hlet:∀l∈othL t.usd,nmL l=true:=fun l hl=>(nmL_iff l).2 ((abv _ _).1 hl).1
 have hfr:∀v,v∈(numb t).free->nmL (id v)=true:=fun v hv=>by
  obtain⟨w,hw,e⟩:=adQ t.sim id marksN (by have:=acB t.sim;have:=abq t;rw[aaZ];omega) v hv;rw[e];rw[sim_usd]at hw;exact(okL_names h).1 _ (usd_free t _ hw)
 unfold nfS nfI
 cases hfl:fl (numb t) (othL t.usd).length with
 | false=>
  rw[if_pos (show 8<ownc (numb t)\/false=false from .inr rfl)]
  split
  ·rfl
  ·split
   ·rfl
   ·rename_i h1 h2
    rcases (g false).2 hfl with h3|h3
    ·exact absurd h3 h2
    ·rw[if_neg (by rw[h3];simp)]
 | true=>
  have e1:=aez (g true) hfl;have e2:=aez (g false) hfl;have o1:=aiA t.size true id (othL t.usd) (numb t) hsz hfl hlet hfr;have o2:=ajq t.size true id (othL t.usd) (numb t) hsz hcl hfl;have e3:=ahv t.size id (othL t.usd) (numb t) hsz hcl hfl (by rw[ada hs];exact acv.sublist (List.take_sublist _ _)) hlet hfr;rw[e1,e2,e3];simp only[aof _ (ajs _ o1),o2,Bool.false_eq_true,false_or,if_false,Bool.true_eq_false,or_false]
theorem aiB (n i:Nat)(h:i<n):(List.range n).reverse=(List.range' (i+1) (n - (i+1))).reverse++i::(List.range i).reverse:=by
 have e:List.range n=List.range i++i::List.range' (i+1) (n - (i+1)):=by
  rw[List.range_eq_range',List.range_eq_range'];have h1:n=i+(1+(n - (i+1))):=by omega
  conv=>lhs;rw[h1,<-List.range'_append_1,Nat.zero_add,<-List.range'_append_1]
  simp
 rw[e,List.reverse_append,List.reverse_cons,List.append_assoc];rfl
theorem ako {n i x:Nat}(h:x∈(List.range' (i+1) (n - (i+1))).reverse):i<x/\x<n:=by
 rw[List.mem_reverse,List.mem_range'_1]at h;omega
def asc {α:Type}(lt:α->α->Bool)(l:List α)(i j:Nat):Bool:=
 decide (i<j) && (match l[i]?,l[j]? with|some a,some b=>lt a b|_,_=>false)
theorem aeA {α:Type}(lt:α->α->Bool)(l:List α)(h:∀i j,i<j->j<l.length->asc lt l i j=false):nextG lt l=none:=by
 unfold nextG;rw[List.findSome?_eq_none_iff];intro i hi;rw[Option.map_eq_none_iff,List.find?_eq_none];intro j hj;rw[List.mem_reverse,List.mem_range]at hj
 by_cases hij:i<j
 ·have:=h i j hij hj
  exact fun e=>by
   have e':asc lt l i j=true:=e;rw[this]at e';cases e'
 ·simp[hij]
def aiC {α:Type}(l:List α)(i j:Nat)(a b:α):List α:=((l.set i b).set j a).take (i+1)++(((l.set i b).set j a).drop (i+1)).reverse
theorem alU {α:Type}(lt:α->α->Bool)(l:List α)(i j:Nat)(a b:α)(hij:i<j)(hj:j<l.length)(ha:l[i]?=some a)(hb:l[j]?=some b)(hlt:lt a b=true) (h1:∀j',j<j'->j'<l.length->asc lt l i j'=false)(h2:∀i' j',i<i'->i'<j'->j'<l.length->asc lt l i' j'=false):nextG lt l=some (aiC l i j a b):=by
 unfold nextG;rw[List.findSome?_eq_some_iff];refine⟨(List.range' (i+1) (l.length - (i+1))).reverse,i,(List.range i).reverse,aiB _ _ (by omega),?_,?_⟩
 ·rw[Option.map_eq_some_iff];refine⟨j,?_,by rw[ha,hb];rfl⟩;rw[List.find?_eq_some_iff_append];refine⟨by rw[ha,hb];simp[hij,hlt],(List.range' (j+1) (l.length - (j+1))).reverse,(List.range j).reverse,aiB _ _ hj,?_⟩;intro j' hj';have:=ako hj';have h3:=h1 j' this.1 this.2
  show (!asc lt l i j')=true;rw[h3];rfl
 ·intro i' hi';have hm:=ako hi';rw[Option.map_eq_none_iff,List.find?_eq_none];intro j' hj';rw[List.mem_reverse,List.mem_range]at hj'
  by_cases hc:i'<j'
  ·have:=h2 i' j' hm.1 hc hj'
   exact fun e=>by
    have e':asc lt l i' j'=true:=e;rw[this]at e';cases e'
  ·simp[hc]
theorem aq4:∀m,m<=5->(visG ltN 200 (List.range m)).length<=120:=by
 intro m hm;have:m=0\/m=1\/m=2\/m=3\/m=4\/m=5:=by omega
 rcases this with rfl|rfl|rfl|rfl|rfl|rfl<;>decide +kernel
theorem atw (G:List UInt8)(hs:G.Pairwise (·<·))(hl:G.length<=5):(visG ltU 200 G).length<=120:=by
 have e:G=(List.range G.length).map fun i=>G.getD i 0:=by
  apply List.ext_getElem (by simp)
  intro i h1 h2;simp[List.getD_eq_getElem?_getD,List.getElem?_eq_getElem h1]
 have hlt:∀a b,a<G.length->b<G.length->ltU (G.getD a 0) (G.getD b 0)=ltN a b:=by
  intro a b ha hb;rw[List.pairwise_iff_getElem]at hs;rw[List.getD_eq_getElem?_getD,List.getD_eq_getElem?_getD,List.getElem?_eq_getElem ha,List.getElem?_eq_getElem hb];unfold ltU ltN;simp only[Option.getD_some];rcases Nat.lt_trichotomy a b with h|h|h
  ·have:=hs a b ha hb h;simp[this,h]
  ·subst h;simp
  ·have:=hs b a hb ha h;have h':¬a<b:=by omega
   have:¬G[a]<G[b]:=fun e=>by rw[abT]at this e;omega
   simp[this,h']
 rw[e,akk (fun i=>G.getD i 0) ltN ltU (fun i=>i<G.length) hlt 200 _ (fun a ha=>List.mem_range.1 ha),List.length_map];exact aq4 _ hl
theorem aju (G:List UInt8)(hs:G.Pairwise (·<·))(hl:G.length<=5){o:List UInt8}(ho:o∈visG ltU 200 G):o.length=G.length/\∀v,v∈G->v∈o:=by
 obtain⟨p,hp,rfl⟩:=(aiw G hs hl o).1 ho;have:=acn _ hl p hp;exact⟨by rw[List.length_map];exact this.1,adO this.2.2⟩
def ahw (k:Nat)(o:List UInt8):List (List UInt8):=match nextG ltU o with|some m=>visG ltU k m|none=>[]
theorem adR (k:Nat)(o:List UInt8):visG ltU (k+1) o=o::ahw k o:=by
 unfold ahw;rw[visG];cases nextG ltU o<;>rfl
theorem alV {k:Nat}{o:List UInt8}(h:nextG ltU o=none):ahw k o=[]:=by unfold ahw;rw[h]
theorem aeB {k:Nat}{o m:List UInt8}(h:nextG ltU o=some m):ahw (k+1) o=m::ahw k m:=by
 rw[<-adR];unfold ahw;rw[h]
def Srch (G:List UInt8)(F:List UInt8->List Tm)(o:List UInt8)(b:List Tm)(k:Nat):Prop:=
 (∃pre,pre++o::ahw k o=visG ltU 200 G/\pre.length+k=199)/\minB (fun a b=>agS (a.map Tm.pr) (b.map Tm.pr)) ((ahw k o).map F) b=bestL ((visG ltU 200 G).map F)/\∃o',o'∈visG ltU 200 G/\b=F o'
theorem Srch.start (G:List UInt8)(F:List UInt8->List Tm):Srch G F G (F G) 199:=by
 refine⟨⟨[],(adR 199 G).symm,rfl⟩,?_,G,?_,rfl⟩
 ·rw[adR 199];rfl
 ·rw[adR 199];simp
theorem Srch.mem {G:List UInt8}{F:List UInt8->List Tm}{o:List UInt8}{b:List Tm}{k:Nat}(h:Srch G F o b k):o∈visG ltU 200 G:=by
 obtain⟨⟨pre,h1,_⟩,_⟩:=h;rw[<-h1];simp
theorem Srch.stop {G:List UInt8}{F:List UInt8->List Tm}{o:List UInt8}{b:List Tm}{k:Nat}(h:Srch G F o b k)(hn:nextG ltU o=none):b=bestL ((visG ltU 200 G).map F):=by
 have:=h.2.1;rw[alV hn]at this
 exact this
theorem Srch.go {G:List UInt8}{F:List UInt8->List Tm}{o m:List UInt8}{b:List Tm}{k:Nat}(hs:G.Pairwise (·<·))(hl:G.length<=5)(h:Srch G F o b k)(hn:nextG ltU o=some m) : ∃k',k=k'+1/\Srch G F m (if agS ((F m).map Tm.pr) (b.map Tm.pr) then F m else b) k':=by
 obtain⟨⟨pre,h1,h2⟩,h3,o',h4,h5⟩:=h;have hlen:=atw G hs hl;rw[<-h1,lla,List.length_cons]at hlen
 cases k with
 | zero=>omega
 | succ k=>
  refine⟨k,rfl,⟨pre++[o],?_,by simp;omega⟩,?_,?_⟩
  ·rw[<-h1,aeB hn];simp
  ·rw[aeB hn]at h3;simp only[List.map_cons,minB]at h3;exact h3
  ·have hm:m∈visG ltU 200 G:=by rw[<-h1,aeB hn];simp
   split
   ·exact⟨m,hm,rfl⟩
   ·exact⟨o',h4,h5⟩
theorem afI (n:Nat):∀(k:Nat) (t:Tm),k<=(gath n k t).2:=by
 induction n with
 | zero=>intro k t;exact nl _
 | succ n ih=>
  intro k t;unfold gath
  split
  ·exact nl _
  ·split
   ·rename_i p q _
    exact Nat.le_trans (ih k p) (ih _ q)
   ·rename_i x p _
    have:=ih (k+1) (R p x (gl k));omega
   ·exact nl _
theorem aoq (n:Nat):∀(t:Tm) (k:Nat) (P:UInt8->Prop),t.size<=n->FitT t->(gath n k t).2<=89-> (∀z,¬aa4 z->P z)->(∀i,k<=i->i<90->¬P (gl i))->(∀z,z∈t.free\/z∈t.bnd->P z)-> ∀z,(z∈t.usd\/∃i,k<=i/\i<(gath n k t).2/\z=gl i)->∃T∈(gath n k t).1,z∈T.usd:=by
 induction n with
 | zero=>intro t k P h;have:=aao t;omega
 | succ n ih=>
  intro t k P hn hfit h89 hP1 hP2 hPt z hz;have hps:=abm t;have hpf:=ab9 t;have hPu:∀z,z∈t.peel.free\/z∈t.peel.bnd->P z:=fun z hz=>hPt z (act t z hz);have hfp:=adL hfit;rw[<-aq0 t z]at hz;unfold gath at h89 hz ⊢
  by_cases hd:t.peel.dead=true
  ·rw[if_pos hd]at hz;rw[dead_usd _ hd]at hz;rcases hz with hz|⟨i,h1,h2,_⟩
   ·simp at hz
   ·simp only at h2;omega
  ·rw[if_neg hd]at h89 hz ⊢
   generalize hu:t.peel=u at *
   have hleaf:∀l:List Tm × Nat,l=([u],k)->(z∈u.usd\/∃i,k<=i/\i<l.2/\z=gl i)->∃T∈l.1,z∈T.usd:=by
    rintro l rfl (h|⟨i,h1,h2,_⟩)
    ·exact⟨u,by simp,h⟩
    ·simp only at h2;omega
   cases u with
   | par p q=>
    simp only at h89 hz ⊢;have hsz:p.size+q.size+1<=t.size:=hps.2.2.1;have m1:=afI n k p;have m2:=afI n (gath n k p).2 q;have hp:=ih p k P (by omega) (.inl (acf hfp).1) (by omega) hP1 hP2 (fun z hz=>hPu z (by rw[mf_par];simp only[Tm.bnd,lma];grind)) z;have hq:=ih q (gath n k p).2 P (by omega) (.inl (acf hfp).2) h89 hP1 (fun i hi=>hP2 i (by omega)) (fun z hz=>hPu z (by rw[mf_par];simp only[Tm.bnd,lma];grind)) z;rw[mu_par]at hz;have hL:(∃T∈(gath n k p).1,z∈T.usd)->∃T∈(gath n k p).1++(gath n (gath n k p).2 q).1,z∈T.usd:=fun ⟨T,h1,h2⟩=>⟨T,List.mem_append_left _ h1,h2⟩;have hR:(∃T∈(gath n (gath n k p).2 q).1,z∈T.usd)->∃T∈(gath n k p).1++(gath n (gath n k p).2 q).1,z∈T.usd:=fun ⟨T,h1,h2⟩=>⟨T,List.mem_append_right _ h1,h2⟩;rcases hz with (h|h)|⟨i,h1,h2,h3⟩
    ·exact hL (hp (.inl h))
    ·exact hR (hq (.inl h))
    ·by_cases c:i<(gath n k p).2
     ·exact hL (hp (.inr ⟨i,h1,c,h3⟩))
     ·exact hR (hq (.inr ⟨i,by omega,h2,h3⟩))
   | own x p=>
    simp only at h89 hz ⊢;have hsz:p.size+1<=t.size:=hps.2.2.1;have hm:=afI n (k+1) (R p x (gl k));have hk:k<=88:=by omega
    have hbn:(Tm.own x p).bdp=p.bdp+1:=by simp[Tm.bdp]
    have hfitp:Fit p:=acG (x:=x) (aho hfp) (by omega) (fun z hz=>by rw[mf_own];grind)
    have hPp:∀z,z∈p.free\/z∈p.bnd->P z:=fun z hz=>by
     by_cases c:z=x
     ·exact hPu z (.inr (by simp[Tm.bnd,c]))
     ·exact hPu z (by rw[mf_own];simp only[Tm.bnd,List.mem_cons];grind)
    have hnPk:=hP2 k (nl _) (by omega);have hx:P x:=hPu x (.inr (by simp[Tm.bnd]));have hne:x≠gl k:=fun e=>hnPk (e▸hx);have hnu:gl k∉p.usd:=fun h=>hnPk (hPp _ (.inl (usd_free p _ h)));have hus:=ahm p.size p x (gl k) (nl _) (fit_roomy hfitp _ _) hne hnu z;refine ih (R p x (gl k)) (k+1) (fun z=>P z\/z=gl k) (by rw[R_size];omega) (.inl (afB hfitp _ _)) h89 (fun z h=>.inl (hP1 z h)) (fun i h1 h2 h=>?_) (fun y hy=>?_) z ?_
    ·rcases h with h|h
     ·exact hP2 i (by omega) h2 h
     ·have:=aip (i:=i) (j:=k) (by omega) (by omega) h;omega
    ·rcases R_names hfitp x (gl k) y hy with h|h|h
     ·exact .inl (hPp y h)
     ·exact .inr h
     ·exact .inl (hP1 y h)
    ·rw[hus];rw[mu_own]at hz;rcases hz with h|⟨i,h1,h2,h3⟩
     ·exact .inl (.inl h)
     ·by_cases c:i=k
      ·subst c;exact .inl (.inr ⟨h3,hpf⟩)
      ·exact .inr ⟨i,by omega,h2,h3⟩
   | _=>exact hleaf _ rfl hz
def Plain (t:Tm):Prop:=∀z,z∈t.free\/z∈t.bnd->¬aa4 z
def Thw:Tm->Prop
 | .nil=>False
 | .par _ _=>False
 | .own _ _=>False
 | .sum p q=>p.dead=false/\q.dead=false
 | _=>True
theorem atx {t:Tm}(h:Thr t):Thw t:=by
 obtain⟨h1,h2,h3,h4⟩:=h
 cases t with
 | nil=>simp[Tm.dead]at h1
 | par p q=>exact h3 p q rfl
 | own x p=>exact h4 x p rfl
 | sum p q=>exact h2
 | _=>trivial
theorem ax8 {t:Tm}(h:Thw t)(o m:UInt8):Thw (R t o m):=by
 by_cases hs:o=m\/o∉t.free
 ·rw[abk _ _ _ hs];exact h
 ·cases t with
  | nil=>exact h.elim
  | par p q=>exact h.elim
  | own x p=>exact h.elim
  | snd a b p=>rw[aet hs];trivial
  | rcv a x p=>rw[ae5 hs];trivial
  | tau p=>rw[aev hs];trivial
  | sum p q=>rw[adI hs];exact⟨by rw[abR];exact h.1,by rw[abR];exact h.2⟩
  | mat a b p=>rw[aeu hs];trivial
  | rep p=>rw[aew hs];trivial
theorem agV {t:Tm}(hs:t.size<=121)(hf:FitT t)(hp:Plain t) : (gath t.size 0 t).2<=89/\∀T∈(gath t.size 0 t).1,FitX T/\(Fit T\/(gath t.size 0 t).2=0)/\T.size<=t.size/\Thw T/\(∀z,z∈T.free->¬aa4 z\/∃j,j<(gath t.size 0 t).2/\z=gl j)/\∀z∈T.bnd,¬aa4 z:=by
 have hb:t.sim.bnd.length<=133:=by have:=acB t.sim;have:=(ac_ t _ _ (akh t)).2.2;omega
 obtain⟨ns,hn1,hn2,hn3⟩:∃ns:List UInt8,ns.length=133/\ns.Nodup/\(0:UInt8)∉ns:=
  ⟨(List.range 133).map fun i=>UInt8.ofNat (123+i),by simp,by decide +kernel,by decide +kernel⟩
 have hS:=asJ t _ _ (fun _=>0) ns (akh t) (by omega) hn2 (fun _ _=>hn3)
 have hnd:(can t.sim (fun _=>0) ns).bnd.Nodup:=by
  rw[ajp _ _ _ (by omega)];exact hn2.sublist (List.take_sublist _ _)
 have h89:=an_ hS hs
 obtain⟨g1,g2,g3⟩:=an4 t.size 0 t _ _ (fun z=>¬aa4 z) (nl _) hf hS (by unfold fcnt at h89;omega) (fun z h=>h) (fun i _ hi h=>h (ace hi)) hp hnd (fun u v h hv=>by
  obtain⟨w,_,_,rfl⟩:=h;rw[ajp _ _ _ (by omega)]at hv
  exact hn3 (List.mem_of_mem_take hv))
 have gb:=akg t.size 0 t (fun z hz=>hp z (.inr hz));rw[Nat.zero_add]at g1;unfold fcnt at h89;rw[g1];refine⟨h89,fun T hT=>?_⟩;obtain⟨⟨a1,a2⟩,a3,a4,a5⟩:=g3 T hT;refine⟨a1,a2.imp id fun h=>by rw[h.1];rfl,a3,atx a4,fun z hz=>?_,gb T hT⟩;have:=a5 z (.inl hz);simpa only[Nat.zero_add] using this
theorem akp (n:Nat):∀(k:Nat) (t:Tm),t.ok nmE=true->(gath n k t).2<=89->∀T∈(gath n k t).1,T.ok nmE=true:=by
 induction n with
 | zero=>intro k t _ _ T hT;simp[gath]at hT
 | succ n ih=>
  intro k t ho h89 T hT;have hou:=(abm t).1 nmE ho;unfold gath at h89 hT
  by_cases hd:t.peel.dead=true
  ·rw[if_pos hd]at hT;simp at hT
  ·rw[if_neg hd]at h89 hT
   generalize t.peel=u at *
   cases u with
   | par p q=>
    simp only at h89 hT;have m2:=afI n (gath n k p).2 q;have hoo:p.ok nmE=true/\q.ok nmE=true:=by simpa only[Tm.ok,bae] using hou
    rcases lma.1 hT with h|h
    ·exact ih k p hoo.1 (by omega) T h
    ·exact ih _ q hoo.2 h89 T h
   | own x p=>
    simp only at h89 hT;have hm:=afI n (k+1) (R p x (gl k));have hoo:nmE x=true/\p.ok nmE=true:=by simpa only[Tm.ok,bae] using hou
    exact ih (k+1) _ (aee _ _ _ _ hoo.2 (awm (by omega))) h89 T hT
   | _=>simp only[List.mem_singleton]at hT;subst hT;exact hou
def wtL (l:List Tm):Nat:=(l.map fun t=>t.pr.length+3).sum
def wtS (l:List Tm):Nat:=(l.map fun t=>t.size+1).sum
theorem ahx (l m:List Tm):wtL (l++m)=wtL l+wtL m:=by simp[wtL]
theorem aor (l m:List Tm):wtS (l++m)=wtS l+wtS m:=by simp[wtS]
theorem aos (n:Nat):∀(k:Nat) (t:Tm),wtL (gath n k t).1+3 * (gath n k t).2<=t.pr.length+3+3 * k/\wtS (gath n k t).1+(gath n k t).2<=t.size+1+k:=by
 induction n with
 | zero=>intro k t;simp[gath,wtL,wtS]
 | succ n ih=>
  intro k t;have hps:=abm t;unfold gath
  generalize t.peel=u at *
  split
  ·simp[wtL,wtS]
  ·cases u with
   | par p q=>
    simp only;have h1:=ih k p;have h2:=ih (gath n k p).2 q;have e1:(Tm.par p q).pr.length=p.pr.length+q.pr.length+3:=by simp[Tm.pr];omega
    have e2:(Tm.par p q).size=p.size+q.size+1:=rfl;rw[ahx,aor];omega
   | own x p=>
    simp only;have h1:=ih (k+1) (R p x (gl k));rw[acV,R_size]at h1;have e1:(Tm.own x p).pr.length=p.pr.length+3:=by simp[Tm.pr]
    have e2:(Tm.own x p).size=p.size+1:=rfl;omega
   | _=>simp only[wtL,wtS,List.map_cons,List.map_nil,List.sum_cons,List.sum_nil];omega
theorem aeC (n:Nat):∀t:Tm,wtL (Tm.sums n t)<=t.pr.length+3/\wtS (Tm.sums n t)<=t.size+1:=by
 induction n with
 | zero=>intro t;simp[Tm.sums,wtL,wtS]
 | succ n ih=>
  intro t;have hps:=abm t;unfold Tm.sums
  generalize t.peel=u at *
  cases u with
  | sum p q=>
   simp only;have h1:=ih p;have h2:=ih q;have e1:(Tm.sum p q).pr.length=p.pr.length+q.pr.length+3:=by simp[Tm.pr];omega
   have e2:(Tm.sum p q).size=p.size+q.size+1:=rfl;rw[ahx,aor];omega
  | _=>simp only;split<;>simp only[wtL,wtS,List.map_cons,List.map_nil,List.sum_cons,List.sum_nil]<;>omega
theorem adS {l:List Tm}{t:Tm}(h:t∈l):t.pr.length+3<=wtL l/\t.size+1<=wtS l:=by
 induction l with
 | nil=>simp at h
 | cons a l ih=>
  simp only[wtL,wtS,List.map_cons,List.sum_cons];have e1:(l.map fun t=>t.pr.length+3).sum=wtL l:=rfl;have e2:(l.map fun t=>t.size+1).sum=wtS l:=rfl;rcases List.mem_cons.1 h with rfl|h
  ·omega
  ·have:=ih h;omega
theorem asK (l:List Tm):2 * l.length<=wtS l:=by
 induction l with
 | nil=>simp[wtS]
 | cons a l ih=>
  have:=aao a;have e2:wtS (a::l)=a.size+1+wtS l:=by simp[wtS]
  rw[e2];simp only[List.length_cons];omega
theorem adT:∀l:List Tm,l≠[]->(joinR .par l).pr.length+3=wtL l
 | [],h=>absurd rfl h
 | [t],_=>by simp[joinR,wtL]
 | t::u::l,_=>by
  have:=adT (u::l) (by simp);have e:wtL (t::u::l)=t.pr.length+3+wtL (u::l):=by simp[wtL]
  rw[e,<-this];simp[joinR,Tm.pr];omega
theorem afJ:∀l:List Tm,l≠[]->(joinR .sum l).pr.length+3=wtL l
 | [],h=>absurd rfl h
 | [t],_=>by simp[joinR,wtL]
 | t::u::l,_=>by
  have:=afJ (u::l) (by simp);have e:wtL (t::u::l)=t.pr.length+3+wtL (u::l):=by simp[wtL]
  rw[e,<-this];simp[joinR,Tm.pr];omega
theorem aty {l m:List Tm}(h:l.Perm m):wtL l=wtL m:=(h.map _).sum_nat
theorem aot {α:Type}(l:List α)(f g:α->Tm)(h:∀a∈l,(f a).pr.length<=(g a).pr.length):wtL (l.map f)<=wtL (l.map g):=by
 induction l with
 | nil=>exact nl _
 | cons a l ih=>
  have e1:wtL ((a::l).map f)=(f a).pr.length+3+wtL (l.map f):=by simp[wtL]
  have e2:wtL ((a::l).map g)=(g a).pr.length+3+wtL (l.map g):=by simp[wtL]
  have:=ih fun b hb=>h b (by simp[hb]);have:=h a (by simp);omega
theorem afa (ls:List UInt8)(t:Tm):(wrapO ls t).pr.length=3 * ls.length+t.pr.length:=by
 induction ls with
 | nil=>simp[wrapO]
 | cons a l ih=>simp only[wrapO,List.foldr_cons,Tm.pr,List.length_cons]at ih ⊢;omega
theorem ahy:∀(o:List Nat) (ls:List UInt8) (T:Tm),(nmG o ls T).pr.length=T.pr.length/\(nmG o ls T).size=T.size
 | [],ls,T=>by simp[nmG]
 | i::o,[],T=>by simp[nmG]
 | i::o,l::ls,T=>by
  simp only[nmG];have:=ahy o ls (R T (gl i) l);rw[acV,R_size]at this;exact this
theorem afK:∀(o:List Nat) (ls:List UInt8) (T:Tm),o.length=ls.length->(∀i∈o,i<90)->(∀l∈ls,nmE l=true)->(Fit T\/o=[])->FitX T->T.ok nmE=true->Thw T->
  FitX (nmG o ls T)/\(nmG o ls T).ok nmE=true/\Thw (nmG o ls T)
 | [],ls,T,_,_,_,_,h1,h2,h3=>⟨by simpa [nmG] using h1,by simpa [nmG] using h2,by simpa [nmG] using h3⟩
 | i::o,[],T,h,_,_,_,_,_,_=>by simp at h
 | i::o,l::ls,T,h,hi,hl,hf,h1,h2,h3=>by
  have hF:Fit T:=hf.resolve_right (by simp);simp only[nmG];exact afK o ls _ (by simpa using h) (fun j hj=>hi j (by simp[hj])) (fun z hz=>hl z (by simp[hz])) (.inl (afB hF _ _)) (.inl (afB hF _ _)) (aee _ _ _ _ h2 (hl l (by simp))) (ax8 h3 _ _)
theorem afL:∀(o:List Nat) (ls:List UInt8) (T:Tm),o.length=ls.length->o.Nodup->(∀i∈o,i<90)->(∀l∈ls,¬aa4 l)->(Fit T\/o=[])->(∀z,z∈T.free->¬aa4 z\/∃j,j∈o/\z=gl j)->(∀z∈T.bnd,¬aa4 z)->Plain (nmG o ls T)
 | [],ls,T,_,_,_,_,_,h1,h2=>by
  simp only[nmG];intro z hz;rcases hz with hz|hz
  ·rcases h1 z hz with h|⟨j,hj,_⟩
   ·exact h
   ·simp at hj
  ·exact h2 z hz
 | i::o,[],T,h,_,_,_,_,_,_=>by simp at h
 | i::o,l::ls,T,h,hnd,hi,hl,hf,h1,h2=>by
  have hF:Fit T:=hf.resolve_right (by simp);rw[List.nodup_cons]at hnd;have hlg:=hl l (by simp);have hgl:gl i≠l:=fun e=>hlg (e▸ace (hi i (by simp)));simp only[nmG];refine afL o ls _ (by simpa using h) hnd.2 (fun j hj=>hi j (by simp[hj])) (fun z hz=>hl z (by simp[hz])) (.inl (afB hF _ _)) (fun z hz=>?_) (fun z hz=>?_)
  ·rcases (R_free _ T (gl i) l (nl _) (fit_roomy hF _ _) hgl z).1 hz with⟨f1,f2⟩|⟨f1,_⟩
   ·rcases h1 z f1 with h|⟨j,hj,e⟩
    ·exact .inl h
    ·rcases List.mem_cons.1 hj with hj|hj
     ·exact absurd (hj▸e) f2
     ·exact .inr ⟨j,hj,e⟩
   ·exact .inl (f1▸hlg)
  ·rcases R_bnds _ T (gl i) l (nl _) z hz with h|h
   ·exact h2 z h
   ·exact h
theorem agW (n:Nat):∀t:Tm,t.ok nmE=true->FitX t->Plain t->∀q∈Tm.sums n t,q.ok nmE=true/\FitT q/\Plain q:=by
 induction n with
 | zero=>intro t _ _ _ q hq;simp[Tm.sums]at hq
 | succ n ih=>
  intro t ho hf hp q hq;have hou:=(abm t).1 nmE ho;have hpu:Plain t.peel:=fun z hz=>hp z (act t z hz);have hfu:FitT t.peel:=adL (hf.imp id fun ⟨p,q,e,h⟩=>⟨p,q,.inr e,h⟩);unfold Tm.sums at hq
  generalize t.peel=u at *
  cases u with
  | sum a b=>
   simp only[lma]at hq;have hoo:a.ok nmE=true/\b.ok nmE=true:=by simpa only[Tm.ok,bae] using hou
   have hfx:=ae9 (asH hfu (by intros;simp));rcases hq with hq|hq
   ·exact ih a hoo.1 (.inl hfx.1) (fun z hz=>hpu z (by rw[mf_sum];simp only[Tm.bnd,lma];grind)) q hq
   ·exact ih b hoo.2 (.inl hfx.2) (fun z hz=>hpu z (by rw[mf_sum];simp only[Tm.bnd,lma];grind)) q hq
  | _=>
   simp only at hq
   split at hq
   ·simp at hq
   ·simp only[List.mem_singleton]at hq;subst hq;exact⟨hou,hfu,hpu⟩
theorem atz (n:Nat):∀t:Tm,t.size<=n->t.dead=false->Tm.sums n t≠[]:=by
 induction n with
 | zero=>intro t h;have:=aao t;omega
 | succ n ih=>
  intro t hn hd;have hps:=abm t;have hd':=afC t;have hpf:=ab9 t;rw[hd]at hd';unfold Tm.sums
  generalize t.peel=u at *
  cases u with
  | sum a b=>
   have:a.size+b.size+1<=t.size:=hps.2.2.1;simp only;intro e;rw[List.append_eq_nil_iff]at e;exact ih a (by omega) hpf.1 e.1
  | _=>simp only;rw[if_neg (by rw[hd'];simp)];simp
theorem atA (t:Tm):∀(sc:UInt8->UInt8) (ns:List UInt8),(can t sc ns).pr.length=t.pr.length/\(can t sc ns).size=t.size/\(can t sc ns).bnd.length=t.bnd.length:=by
 induction t with
 | nil=>intro sc ns;exact⟨rfl,rfl,rfl⟩
 | rcv a x p ih=>intro sc ns;have:=ih (upd sc x (ns.headD 0)) ns.tail;simp only[can,Tm.pr,Tm.size,Tm.bnd,List.length_cons,this,and_self]
 | own x p ih=>intro sc ns;have:=ih (upd sc x (ns.headD 0)) ns.tail;simp only[can,Tm.pr,Tm.size,Tm.bnd,List.length_cons,this,and_self]
 | sum p q ih ih2=>intro sc ns;have h1:=ih sc ns;have h2:=ih2 sc (ns.drop p.bnd.length);simp[can,Tm.pr,Tm.size,Tm.bnd,h1,h2]
 | par p q ih ih2=>intro sc ns;have h1:=ih sc ns;have h2:=ih2 sc (ns.drop p.bnd.length);simp[can,Tm.pr,Tm.size,Tm.bnd,h1,h2]
 | snd a b p ih=>intro sc ns;have h1:=ih sc ns;simp[can,Tm.pr,Tm.size,Tm.bnd,h1]
 | mat a b p ih=>intro sc ns;have h1:=ih sc ns;simp[can,Tm.pr,Tm.size,Tm.bnd,h1]
 | tau p ih=>intro sc ns;have h1:=ih sc ns;simp[can,Tm.pr,Tm.size,Tm.bnd,h1]
 | rep p ih=>intro sc ns;have h1:=ih sc ns;simp[can,Tm.pr,Tm.size,Tm.bnd,h1]
structure Mk (ms ns:List UInt8):Prop where
 nd:(ms++ns).Nodup
 hi:∀z∈ms++ns,123<=z.toNat
def ayH:List UInt8:=(List.range 60).map fun i=>UInt8.ofNat (123+i)
end Go.Proofs.YtihmcgcgjmbmhaaGreat.T1
