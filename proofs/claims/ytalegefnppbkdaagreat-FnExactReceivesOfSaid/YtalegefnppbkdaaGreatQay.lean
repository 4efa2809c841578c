/- Texts of the proof. No conditions. -/
import Derived.Test.YtalegefnppbkdaaGreatQax
import Derived.Deep.AppendLies
namespace Go.Proofs.YtalegefnppbkdaaGreat.T1
open Go.Proofs.Tryz
set_option maxHeartbeats 8000000
open Go.RowKit
set_option maxRecDepth 100000
set_option linter.unusedVariables false
set_option linter.unusedSimpArgs false
theorem aaD {w:World}{base n:Nat}{e:TypeId}{v:Value}{xs:List Value}(h:w.ownsRow base e 1 v n xs):∃p cap,v=.slice p n cap:=by
 rcases h.2 with⟨h1,h2⟩|⟨g,cap,cur,h1,_⟩
 ·exact⟨_,_,by rw[h1,h2]⟩
 ·exact⟨_,_,h1⟩
theorem act {w:World}{base n cap:Nat}{e:TypeId}{p:Option Addr}{xs:List Value}(h:w.ownsRow base e 1 (.slice p n cap) n xs)(hn:0<n):∃g,p=some ⟨g,0,none⟩/\base<=g/\g<w.heap.size/\n<=cap/\∀j u,xs[j]?=some u->w.cell? ⟨g,j,none⟩=some u:=by
 rcases h.2 with⟨h1,h2⟩|⟨g,cap',cur,h1,h2,h3,h4,_⟩
 ·omega
 ·have h1':=h1
  injection h1 with e1 e2 e3
  subst e1;refine⟨g,rfl,h2,lt_of_block h3,by omega,fun j u hj=>?_⟩;have:=ab7 h j u hj;rw[aof]at this
  exact this
def cbN (t:Tm):Nat:=if t.binds.isSome then 1 else 0
theorem asV (T:TypeId)(V:Value)(HB:Zr 119 #[.iface T V] (.tuple #[.int .u8 0,.bool false]))(w:World):Calls prog 151 #[.iface T V] w fun e w'=>e=.returned (.int .i64 0)/\Zb w w':=by
 have H:=qz HB;clear HB
 go_enter func151,ntmps151
 go_wp2_with fail;refine(H.out _).mono ?_;rintro e w1 ⟨rfl,b1⟩;go_wp2_with fail;go_ret;exact⟨rfl,b1⟩
theorem asW (T:TypeId)(V:Value)(x:Int)(HB:Zr 119 #[.iface T V] (.tuple #[.int .u8 x,.bool true]))(w:World):Calls prog 151 #[.iface T V] w fun e w'=>e=.returned (.int .i64 1)/\Zb w w':=by
 have H:=qz HB;clear HB
 go_enter func151,ntmps151
 go_wp2_with fail;refine(H.out _).mono ?_;rintro e w1 ⟨rfl,b1⟩;go_wp2_with fail;go_ret;exact⟨rfl,b1⟩
theorem afl (t:Tm)(w:World):Calls prog 151 #[.iface (aaB t) (pay t)] w fun e w'=>e=.returned (.int .i64 (cbN t:Nat))/\Zb w w':=by
 have HB:=aap t;unfold cbN
 cases h:t.binds with
 | none=>rw[h]at HB;exact asV _ _ HB w
 | some x=>rw[h]at HB;exact asW _ _ _ HB w
-- the parts of a sum
def ahF (ts:List Value)(w:World)(e:Ending)(w':World):Prop:=∃g cap,e=.returned (.slice (some ⟨g,0,none⟩) ts.length cap)/\w'.ownsRow w.heap.size 38 1 (.slice (some ⟨g,0,none⟩) ts.length cap) ts.length ts/\Zb w w'
theorem avs (tp tq:TypeId)(vp vq:Value)(ts us:List Value)(htl:ts.length<=1000)(hul:us.length<=1000)(hu0:0<us.length)(hi1:OneI us)(IH:∀w,Calls prog 73 #[.iface tp vp] w (ahF ts w))(IH2:∀w,Calls prog 73 #[.iface tq vq] w (ahF us w))(w:World) : Calls prog 73 #[.iface 62 (.agg #[.iface tp vp,.iface tq vq])] w (ahF (ts++us) w):=by
  obtain⟨j0,hj,hy0,hy1,hy2⟩:=info_parts Tryz.infoSg;have IH':=qz IH;have IH2':=qz IH2;have HI1:=qz hi1;clear IH IH2 hi1
  go_enter func73,ntmps73
  obtain⟨W,hW⟩:∃W,W=w.alloc (.cells #[.iface tp vp,.iface tq vq] 62):=⟨_,rfl⟩;have hbk:W.heap[w.heap.size]?=some (.cells #[.iface tp vp,.iface tq vq] 62 (0,0)):=by rw[hW];exact aag _ _
  have blW:Zb w W:=by rw[hW];exact bra
  have Hbk:=qz hbk;have k0:=aai hbk;have k1:=aak hbk;clear hbk;go_wp2_with fail;rw[<-hW];clear hW;have hlW:w.heap.size<W.heap.size:=lt_of_block Hbk.out;have hbW:=blW.size
  go_region_held3 (fun w'=>w'.cell? ⟨w.heap.size,0,none⟩=some (.iface tp vp)/\w'.cell? ⟨w.heap.size,1,none⟩=some (.iface tq vq)) (first|exact⟨k0,k1⟩|exact⟨y0,y1⟩|exact⟨z0,z1⟩|exact⟨r0,r1⟩)
    ((first
      | (go_at_call_of 73 tp;(with_reducible refine(IH'.out _).mono ?_);rintro e w1 ⟨g1,c1,rfl,o1,b1⟩;have h1:=aac (w:=W.drew) Hbk.out b1;have r0:=aai h1;have r1:=aak h1;have O1:=qz (aaW (b2:=W.heap.size) o1 (nl _));have B1:=qz (aaa blW.drew b1);have hz1:W.heap.size<=w1.heap.size:=b1.size;clear o1 b1 h1)
      | (go_at_call_of 73 tq;(with_reducible refine(IH2'.out _).mono ?_);rintro e w2 ⟨g2,c2,rfl,o2,b2⟩;have z0:=(b2.cell (p:=⟨w.heap.size,0,none⟩) (aa1 r0)).trans r0;have z1:=(b2.cell (p:=⟨w.heap.size,1,none⟩) (aa1 r1)).trans r1;have O2:=qz (aaW (b2:=W.heap.size) o2 hz1);have Q1:=qz (aal O1.out b2);have B2:=qz (aaa B1.out b2);have hz2:W.heap.size<=w2.heap.size:=Nat.le_trans hz1 b2.size;clear o2 b2)
      | (refine step_append_lies _ (by rfl) (.tmp 17) (.tmp 21) _ (by rfl) W.heap.size 38 j0 .nilIface 1 16 underlying45 hj hy0 hy1 hy2 (by rfl) (by omega) _ ts.length ts (by rfl) Q1.out ⟨g2,0,none⟩ us.length c2 us (by rfl) (by omega) (ab7 O2.out) HI1.out.one hu0 (by unfold maxLen;omega) (by omega) hz2 _ rfl ?_
         intro g3 c3 w3 hown3 hgrow3 hat3 hlt3
         have hne3:(some w.heap.size:Option Nat)≠(Value.slice (some ⟨g1,0,none⟩) ts.length c1).ownBlock:=fun e=>by
           have:=(Q1.out.lt _ e.symm).1;omega
         have y0:=hgrow3.cell z0 hne3;have y1:=hgrow3.cell z1 hne3;have O3:=qz hown3;have B3:=qz (aas B2.out hgrow3 (fun g e=>Nat.le_trans hbW (Q1.out.lt g e).1) (Nat.le_trans hbW hz2))
         clear hown3 hgrow3)
      | fail))
  go_wp2_with fail;go_ret;refine⟨g3,c3,by rw[lla];rfl,?_,B3.out⟩;have:=aaW O3.out hbW;rw[lla];exact this
theorem abX (w:World)(o:Obj)(x:Value)(T:TypeId)(base:Nat)(hb:base<=w.heap.size+1):((w.alloc o).alloc (.cells #[x] T)).ownsRow base T 1 (.slice (some ⟨w.heap.size+1,0,none⟩) 1 1) 1 [x]:=by
 have e:(w.alloc o).heap.size=w.heap.size+1:=by simp
 have:=aa3 (w.alloc o) x T base (by omega);rw[e]at this
 exact this
theorem su_nothing  (w:World):Calls prog 73 #[.iface 90 (.agg #[])] w (ahF [.iface 90 (.agg #[])] w):=by
 go_enter func73,ntmps73
 go_wp2_with fail;go_ret;exact⟨_,_,rfl,abX _ _ _ _ _ (by omega),(bra).alloc (Below.size ((Below.refl w.heap.size w).alloc (nl _) _)) _⟩
theorem su_send (n0 n1:Int)(tz:TypeId)(vz:Value)(w:World):Calls prog 73 #[.iface 108 (.agg #[.int .u8 n0,.int .u8 n1,.iface tz vz])] w (ahF [.iface 108 (.agg #[.int .u8 n0,.int .u8 n1,.iface tz vz])] w):=by
 go_enter func73,ntmps73
 go_wp2_with fail;go_ret;exact⟨_,_,rfl,abX _ _ _ _ _ (by omega),(bra).alloc (Below.size ((Below.refl w.heap.size w).alloc (nl _) _)) _⟩
theorem su_receive (n0 n1:Int)(tz:TypeId)(vz:Value)(w:World):Calls prog 73 #[.iface 111 (.agg #[.int .u8 n0,.int .u8 n1,.iface tz vz])] w (ahF [.iface 111 (.agg #[.int .u8 n0,.int .u8 n1,.iface tz vz])] w):=by
 go_enter func73,ntmps73
 go_wp2_with fail;go_ret;exact⟨_,_,rfl,abX _ _ _ _ _ (by omega),(bra).alloc (Below.size ((Below.refl w.heap.size w).alloc (nl _) _)) _⟩
theorem su_match (n0 n1:Int)(tz:TypeId)(vz:Value)(w:World):Calls prog 73 #[.iface 150 (.agg #[.int .u8 n0,.int .u8 n1,.iface tz vz])] w (ahF [.iface 150 (.agg #[.int .u8 n0,.int .u8 n1,.iface tz vz])] w):=by
 go_enter func73,ntmps73
 go_wp2_with fail;go_ret;exact⟨_,_,rfl,abX _ _ _ _ _ (by omega),(bra).alloc (Below.size ((Below.refl w.heap.size w).alloc (nl _) _)) _⟩
theorem su_own (n0:Int)(tz:TypeId)(vz:Value)(w:World):Calls prog 73 #[.iface 61 (.agg #[.int .u8 n0,.iface tz vz])] w (ahF [.iface 61 (.agg #[.int .u8 n0,.iface tz vz])] w):=by
 go_enter func73,ntmps73
 go_wp2_with fail;go_ret;exact⟨_,_,rfl,abX _ _ _ _ _ (by omega),(bra).alloc (Below.size ((Below.refl w.heap.size w).alloc (nl _) _)) _⟩
theorem su_silent (tz:TypeId)(vz:Value)(w:World):Calls prog 73 #[.iface 146 (.agg #[.iface tz vz])] w (ahF [.iface 146 (.agg #[.iface tz vz])] w):=by
 go_enter func73,ntmps73
 go_wp2_with fail;go_ret;exact⟨_,_,rfl,abX _ _ _ _ _ (by omega),(bra).alloc (Below.size ((Below.refl w.heap.size w).alloc (nl _) _)) _⟩
theorem su_repeat (tz:TypeId)(vz:Value)(w:World):Calls prog 73 #[.iface 147 (.agg #[.iface tz vz])] w (ahF [.iface 147 (.agg #[.iface tz vz])] w):=by
 go_enter func73,ntmps73
 go_wp2_with fail;go_ret;exact⟨_,_,rfl,abX _ _ _ _ _ (by omega),(bra).alloc (Below.size ((Below.refl w.heap.size w).alloc (nl _) _)) _⟩
theorem su_beside (tz ty:TypeId)(vz vy:Value)(w:World):Calls prog 73 #[.iface 55 (.agg #[.iface tz vz,.iface ty vy])] w (ahF [.iface 55 (.agg #[.iface tz vz,.iface ty vy])] w):=by
 go_enter func73,ntmps73
 go_wp2_with fail;go_ret;exact⟨_,_,rfl,abX _ _ _ _ _ (by omega),(bra).alloc (Below.size ((Below.refl w.heap.size w).alloc (nl _) _)) _⟩
theorem ahk (t:Tm):0<(smds t).length/\(smds t).length<=t.size:=by
 induction t with
 | sum p q ih ih2=>simp only[smds,lla,Tm.size];omega
 | nil=>simp[smds,Tm.size]
 | _=>simp only[smds,List.length_cons,List.length_nil,Tm.size]<;>omega
theorem aaI (t:Tm):t.size<=1000->∀w,Calls prog 73 #[.iface (aaB t) (pay t)] w (ahF ((smds t).map enc) w):=by
 induction t with
 | nil=>intro _ w;exact su_nothing w
 | snd a b p=>intro _ w;exact su_send _ _ _ _ w
 | rcv a b p=>intro _ w;exact su_receive _ _ _ _ w
 | mat a b p=>intro _ w;exact su_match _ _ _ _ w
 | own a p=>intro _ w;exact su_own _ _ _ w
 | tau p=>intro _ w;exact su_silent _ _ w
 | rep p=>intro _ w;exact su_repeat _ _ w
 | par p q=>intro _ w;exact su_beside _ _ _ _ w
 | sum p q ih ih2=>
  intro h w;simp only[Tm.size]at h;have h1:=ahk p;have h2:=ahk q;have:=avs (aaB p) (aaB q) (pay p) (pay q) _ _ (by rw[List.length_map];omega) (by rw[List.length_map];omega) (by rw[List.length_map];omega) (ajd _) (ih (by omega)) (ih2 (by omega)) w;rw[<-List.map_append]at this
  exact this
-- whether letters are enough
def adS (T:Tm)(k:Nat):Bool:=decide (cbN T<=k) && T.parts.all fun p=>fl p (k - cbN T)
theorem aon (S0:Tm)(k:Nat)(hk:k<=1000)(nf:List UInt8)(TS:List Tm)(hnf:nf.length<=1000)(hTS:TS.length<=1000)(Z:Bool)(hz1:(5<nf.length\/k<nf.length)->Z=false)(hz2:¬(5<nf.length\/k<nf.length)->Z=TS.all fun T=>adS T (k - nf.length)) (hp:∀T∈TS,∃p,T.parts=[p]\/∃q,T.parts=[p,q]) (HL:∀w,Calls prog 54 #[.iface (aaB S0) (pay S0)] w (agu nf (TS.map enc) w)) (HF:∀T∈TS,∀p∈T.parts,∀j:Nat,j<=1000->Zr 115 #[.iface (aaB p) (pay p),.int .i64 (j:Int)] (.bool (fl p j)))(w:World) : Calls prog 115 #[.iface (aaB S0) (pay S0),.int .i64 (k:Int)] w fun e w'=>e=.returned (.bool Z)/\Zb w w':=by
 have HL':=qz HL;have HF':=qz HF;have HZ1:=qz hz1;have HZ2:=qz hz2;have HP:=qz hp;clear HL HF hz1 hz2 hp;obtain⟨T0,hT0⟩:∃T0,T0=aaB S0:=⟨_,rfl⟩;obtain⟨V0,hV0⟩:∃V0,V0=pay S0:=⟨_,rfl⟩;rw[<-hT0,<-hV0]at HL' ⊢;clear hT0 hV0
 go_enter func115,ntmps115
 go_wp2_with fail;refine(HL'.out _).mono ?_;rintro e w1 ⟨v1,v2,rfl,o1,o2,b1⟩;obtain⟨p1,c1,rfl⟩:=aaD o1;obtain⟨p2,c2,rfl⟩:=aaD o2;have O2:=qz o2;have B1:=qz b1;clear o1 o2 b1;rw[List.length_map]at O2 ⊢
 by_cases h5:5<nf.length
 ·have q5:(5:Int)<(nf.length:Int):=by omega
  have hZ:=qz (HZ1.out (.inl h5));go_wp2_with fail;go_ret;exact⟨by rw[hZ.out];rfl,B1.out⟩
 ·have q5:¬(5:Int)<(nf.length:Int):=by omega
  by_cases hkn:k<nf.length
  ·have q6:(k:Int) - (nf.length:Int)<0:=by omega
   have hZ:=qz (HZ1.out (.inr hkn));go_wp2_with fail;go_ret;exact⟨by rw[hZ.out];rfl,B1.out⟩
  ·have hZ:=qz (HZ2.out (by omega));have q6:¬(k:Int) - (nf.length:Int)<0:=by omega
   obtain⟨K,hK⟩:∃K:Nat,K=k - nf.length:=⟨_,rfl⟩;have hKI:(k:Int) - (nf.length:Int)=(K:Int):=by omega
   rw[<-hK]at hZ;have hK1:K<=1000:=by omega
   have HKI:=qz hKI;clear hK hKI HZ1 HZ2;go_wp2_with fail;rw[HKI.out]
   go_loopw [30] (fun i wr=>∃j:Nat,j<=TS.length/\i=.int .i64 (j:Int)/\Hid (∀i (h:i<TS.length),i<j->adS TS[i] K=true)/\Zb w1 wr) (fun i _=>TS.length - (intOf i).toNat)
   case atStart=>exact⟨0,Nat.zero_le _,rfl,fun _ _ h=>by omega,Below.refl _ _⟩
   case round=>
    obtain⟨j,hj,rfl,hal,hbw⟩:=hrel
    by_cases hlt:j<TS.length
    ·obtain⟨g,e1,_,hgl,_,hcl⟩:=act O2.out (by omega);subst e1;obtain⟨T,hT⟩:∃T,T=TS[j]:=⟨_,rfl⟩;have hTm:T∈TS:=by rw[hT];exact List.getElem_mem hlt
     have cj:wr.cell? ⟨g,j,none⟩=some (.iface (aaB T) (pay T)):=by
      rw[hbw.cell (p:=⟨g,j,none⟩) hgl];exact hcl j _ (by rw[List.getElem?_map,List.getElem?_eq_getElem hlt,hT];rfl)
     have HCB:=qz (afl T);have HFj:=qz (HF'.out T hTm);have hpt:=HP.out T hTm;have hfd:Hid (adS T K=(decide (cbN T<=K) && T.parts.all fun p=>fl p (K - cbN T))):=rfl
     have hbad:Hid (adS T K=false->Z=false):=fun h=>by
      rw[hZ.out]
      cases hh:TS.all fun T=>adS T K with
      | false=>rfl
      | true=>rw[List.all_eq_true]at hh;rw[hh T hTm]at h;cases h
     have hgood:Hid (adS T K=true->∀i (h:i<TS.length),i<j+1->adS TS[i] K=true):=fun h i hi hij=>by
      by_cases c:i=j
      ·subst c;rw[<-hT];exact h
      ·exact hal.out i hi (by omega)
     obtain⟨F,RR,hm,hn,hc,hpp⟩:=(parts_fact T).pf;have HPP:=qz hpp;obtain⟨CB,hCB⟩:∃CB,CB=cbN T:=⟨_,rfl⟩;have hCB1:CB<=1:=by rw[hCB];unfold cbN;split<;>omega
     obtain⟨TT,hTT⟩:∃TT,TT=aaB T:=⟨_,rfl⟩;obtain⟨VV,hVV⟩:∃VV,VV=pay T:=⟨_,rfl⟩;rw[<-hTT,<-hVV]at cj hm hn HCB;rw[<-hCB]at HCB hfd;have Hb:=qz hbw;clear hpp hT hTm hcl hbw hal hTT hVV hCB;go_wp2_with fail;refine(HCB.out _).mono ?_;rintro e w2 ⟨rfl,b2⟩;have Hb2:=qz (Hb.out.trans (b2.mono Hb.out.size));clear b2 cj
     by_cases hcb:K<CB
     ·have q7:(K:Int) - (CB:Int)<0:=by omega
      have hZf:=qz (hbad.out (by rw[hfd.out,decide_eq_false (by omega)];rfl));have Bf:=qz (B1.out.trans (Hb2.out.mono B1.out.size));go_wp2_with fail;go_ret;exact⟨by rw[hZf.out];rfl,Bf.out⟩
     ·have q7:¬(K:Int) - (CB:Int)<0:=by omega
      obtain⟨M,hM⟩:∃M:Nat,M=K - CB:=⟨_,rfl⟩;have hMI:=qz (show (K:Int) - (CB:Int)=(M:Int) by omega);have hM1:M<=1000:=by omega
      have hdc:decide (CB<=K)=true:=decide_eq_true (by omega);rw[hdc,<-hM,Bool.true_and]at hfd;clear hM hdc;go_wp2_with fail;rw[hMI.out];obtain⟨p,hpq⟩:=hpt;rcases hpq with hpq|⟨q,hpq⟩
      ·rw[hpq]at HPP hfd HFj;have HF1:=qz (HFj.out p (by simp) M hM1);have hfd1:Hid (adS T K=fl p M):=by show _=_;rw[hfd.out];simp
       obtain⟨bp,hbp⟩:∃bp,bp=fl p M:=⟨_,rfl⟩;obtain⟨tp,htp⟩:∃tp,tp=aaB p:=⟨_,rfl⟩;obtain⟨vp,hvp⟩:∃vp,vp=pay p:=⟨_,rfl⟩;have HPP2:Hid (∀w,Calls prog F #[RR] w fun e w'=>∃b,e=.returned (.slice (some ⟨b,0,none⟩) 1 1)/\w.heap.size<=b/\w'.heap[b]?=some (.cells #[.iface tp vp] 38 (0,0))/\Zb w w'):=by rw[htp,hvp];exact HPP.out
       rw[<-hbp]at HF1 hfd1;rw[<-htp,<-hvp]at HF1;clear hbp htp hvp HPP hfd HFj hpq;refine(HPP2.out _).mono ?_;rintro e w3 ⟨b,rfl,hb,hh,b3⟩;have Hb3:=qz (Hb2.out.trans (b3.mono Hb2.out.size));have d0:=aah hh;clear hb hh b3;go_wp2_with fail;refine wp_loop_rounds 2 ?_;rw[rounds_succ];go_wp2_with fail;refine(HF1.out _).mono ?_;rintro e w4 ⟨rfl,b4⟩;have Hb4:=qz (Hb3.out.trans (b4.mono Hb3.out.size));clear b4 d0
       cases bp
       ·have hZf:=qz (hbad.out hfd1.out);have Bf:=qz (B1.out.trans (Hb4.out.mono B1.out.size));go_wp2_with fail;go_ret;exact⟨by rw[hZf.out];rfl,Bf.out⟩
       ·have hg2:=qz (hgood.out hfd1.out);go_wp2_with fail;rw[rounds_succ];go_wp2_with fail
        go_roundw
        case rel=>exact⟨j+1,by omega,by push_cast;rfl,hg2,Hb4.out⟩
        case measure=>simp[intOf]<;>omega
      ·rw[hpq]at HPP hfd HFj;have HF1:=qz (HFj.out p (by simp) M hM1);have HF2:=qz (HFj.out q (by simp) M hM1);have hfd1:Hid (adS T K=(fl p M && fl q M)):=by show _=_;rw[hfd.out];simp
       obtain⟨bp,hbp⟩:∃bp,bp=fl p M:=⟨_,rfl⟩;obtain⟨bq,hbq⟩:∃bq,bq=fl q M:=⟨_,rfl⟩;obtain⟨tp,htp⟩:∃tp,tp=aaB p:=⟨_,rfl⟩;obtain⟨vp,hvp⟩:∃vp,vp=pay p:=⟨_,rfl⟩;obtain⟨tq,htq⟩:∃tp,tp=aaB q:=⟨_,rfl⟩;obtain⟨vq,hvq⟩:∃vp,vp=pay q:=⟨_,rfl⟩;have HPP2:Hid (∀w,Calls prog F #[RR] w fun e w'=>∃b,e=.returned (.slice (some ⟨b,0,none⟩) 2 2)/\w.heap.size<=b/\w'.heap[b]?=some (.cells #[.iface tp vp,.iface tq vq] 38 (0,0))/\Zb w w'):=by rw[htp,hvp,htq,hvq];exact HPP.out
       rw[<-hbp,<-hbq]at hfd1;rw[<-hbp,<-htp,<-hvp]at HF1;rw[<-hbq,<-htq,<-hvq]at HF2;clear hbp htp hvp hbq htq hvq HPP hfd HFj hpq;refine(HPP2.out _).mono ?_;rintro e w3 ⟨b,rfl,hb,hh,b3⟩;have Hb3:=qz (Hb2.out.trans (b3.mono Hb2.out.size));have d0:=aai hh;have Hh:=qz hh;clear hb hh b3;go_wp2_with fail;refine wp_loop_rounds 3 ?_;rw[rounds_succ];go_wp2_with fail;refine(HF1.out _).mono ?_;rintro e w4 ⟨rfl,b4⟩;have Hb4:=qz (Hb3.out.trans (b4.mono Hb3.out.size));have h4:=aac Hh.out b4;have d1:=aak h4;clear b4 d0 h4
       cases bp
       ·have hZf:=qz (hbad.out hfd1.out);have Bf:=qz (B1.out.trans (Hb4.out.mono B1.out.size));go_wp2_with fail;go_ret;exact⟨by rw[hZf.out];rfl,Bf.out⟩
       ·go_wp2_with fail;rw[rounds_succ];go_wp2_with fail;refine(HF2.out _).mono ?_;rintro e w5 ⟨rfl,b5⟩;have Hb5:=qz (Hb4.out.trans (b5.mono Hb4.out.size));clear b5 d1
        cases bq
        ·have hZf:=qz (hbad.out hfd1.out);have Bf:=qz (B1.out.trans (Hb5.out.mono B1.out.size));go_wp2_with fail;go_ret;exact⟨by rw[hZf.out];rfl,Bf.out⟩
        ·have hg2:=qz (hgood.out hfd1.out);go_wp2_with fail;rw[rounds_succ];go_wp2_with fail
         go_roundw
         case rel=>exact⟨j+1,by omega,by push_cast;rfl,hg2,Hb5.out⟩
         case measure=>simp[intOf]<;>omega
    ·obtain rfl:j=TS.length:=by omega
     have hZt:Hid (Z=true):=by
      show _=_;rw[hZ.out,List.all_eq_true];intro T hT;obtain⟨i,hi,e⟩:=List.mem_iff_getElem.1 hT;rw[<-e];exact hal.out i hi hi
     have Bf:=qz (B1.out.trans (hbw.mono B1.out.size));go_wp2_with fail;go_ret;exact⟨by rw[hZt.out];rfl,Bf.out⟩
theorem afm (s:Tm):∀T∈(lvl s).2,T≠.nil/\(∀p q,T≠.par p q)/\(∀x p,T≠.own x p):=by
 induction s with
 | nil=>intro T hT;simp[lvl]at hT
 | own x p ih=>intro T hT;exact ih T hT
 | par p q ih ih2=>intro T hT;simp only[lvl,lma]at hT;exact hT.elim (ih T) (ih2 T)
 | _=>intro T hT;simp only[lvl,List.mem_singleton]at hT;subst hT;exact⟨by simp,by intros;simp,by intros;simp⟩
theorem arJ (T:Tm)(h:T≠.nil/\(∀p q,T≠.par p q)/\(∀x p,T≠.own x p))(k:Nat):tf T k=adS T k:=by
 cases T with
 | nil=>exact absurd rfl h.1
 | par p q=>exact absurd rfl (h.2.1 p q)
 | own x p=>exact absurd rfl (h.2.2 x p)
 | rcv a x p=>simp[tf,adS,cbN,Tm.binds,Tm.parts,fl]
 | sum p q=>simp[tf,adS,cbN,Tm.binds,Tm.parts,fl]
 | _=>simp[tf,adS,cbN,Tm.binds,Tm.parts,fl]
theorem arK (s:Tm)(k:Nat):fl s k=(decide ((lvl s).1.length<=5) && decide ((lvl s).1.length<=k) && (lvl s).2.all fun T=>adS T (k - (lvl s).1.length)):=by
 unfold fl fcnt;rw[ah8];congr 1;rw[Bool.eq_iff_iff,List.all_eq_true,List.all_eq_true];exact⟨fun h T hT=>by rw[<-arJ T (afm s T hT)];exact h T hT,fun h T hT=>by rw[arJ T (afm s T hT)];exact h T hT⟩
theorem aje (T:Tm)(h:T≠.nil):∃p,T.parts=[p]\/∃q,T.parts=[p,q]:=by
 cases T with
 | nil=>exact absurd rfl h
 | sum p q=>exact⟨p,.inr ⟨q,rfl⟩⟩
 | par p q=>exact⟨p,.inr ⟨q,rfl⟩⟩
 | snd a b p=>exact⟨p,.inl rfl⟩
 | rcv a b p=>exact⟨p,.inl rfl⟩
 | mat a b p=>exact⟨p,.inl rfl⟩
 | own a p=>exact⟨p,.inl rfl⟩
 | tau p=>exact⟨p,.inl rfl⟩
 | rep p=>exact⟨p,.inl rfl⟩
theorem alz (T p:Tm)(h:p∈T.parts):p.size<T.size:=by
 cases T<;>simp only[Tm.parts,List.mem_cons,List.not_mem_nil,or_false]at h<;>simp only[Tm.size]
 all_goals first|(subst h;omega)|(rcases h with h|h<;>subst h<;>omega)
theorem aqs (n:Nat):∀(s:Tm) (k:Nat),s.size<=n->s.size<=1000->k<=1000->Zr 115 #[.iface (aaB s) (pay s),.int .i64 (k:Int)] (.bool (fl s k)):=by
 induction n with
 | zero=>intro s k h;have:=aaq s;omega
 | succ n ih=>
  intro s k hn hs hk w;have hw:=aj5 s;refine aon s k hk (lvl s).1 (lvl s).2 (by omega) (by omega) _ (fun h=>?_) (fun h=>?_) (fun T hT=>aje T (afm s T hT).1) (ab8 s hs) (fun T hT p hp j hj w=>?_) w
  ·rw[arK];rcases h with h|h
   ·rw[decide_eq_false (show ¬(lvl s).1.length<=5 by omega)];rfl
   ·rw[decide_eq_false (show ¬(lvl s).1.length<=k by omega),Bool.and_false];rfl
  ·rw[arK,decide_eq_true (show (lvl s).1.length<=5 by omega),decide_eq_true (show (lvl s).1.length<=k by omega)];rfl
  ·have h1:=alz T p hp;have h2:=aa8 s T hT;exact ih p j (by omega) (by omega) hj w
end Go.Proofs.YtalegefnppbkdaaGreat.T1
