/- Texts of the proof. No conditions. -/
import Derived.Test.YtihmcgcgjmbmhaaGreatQar
import Derived.Test.YtihmcgcgjmbmhaaGreatQat
import Derived.Deep.AppendLies
import Derived.Sort.Walk0
namespace Go.Proofs.YtihmcgcgjmbmhaaGreat.T1
open Go.Proofs.Tryz
set_option maxHeartbeats 8000000
open Go.RowKit
set_option maxRecDepth 100000
set_option linter.unusedVariables false
set_option linter.unusedSimpArgs false
def RowT (xs:List ByteArray)(w:World)(e:Ending)(w':World):Prop:=
 ((xs=[]/\e=.returned (.slice none 0 0))\/∃g cap,xs≠[]/\e=.returned (.slice (some ⟨g,0,none⟩) xs.length cap)/\w'.ownsRow w.heap.size 9 1 (.slice (some ⟨g,0,none⟩) xs.length cap) xs.length (xs.map Value.string))/\Zb w w'
def RowN (xs:List ByteArray)(w:World)(e:Ending)(w':World):Prop:=
 ∃g cap,e=.returned (.slice (some ⟨g,0,none⟩) xs.length cap)/\w'.ownsRow w.heap.size 9 1 (.slice (some ⟨g,0,none⟩) xs.length cap) xs.length (xs.map Value.string)/\Zb w w'
theorem RowT.some_ {xs:List ByteArray}{w:World}{e:Ending}{w':World}(h:RowT xs w e w')(hx:xs≠[]):RowN xs w e w':=by
 rcases h with⟨⟨h,_⟩|⟨g,cap,_,h1,h2⟩,h3⟩
 ·exact absurd h hx
 ·exact⟨g,cap,h1,h2,h3⟩
theorem RowN.row {xs:List ByteArray}{w:World}{e:Ending}{w':World}(h:RowN xs w e w')(hx:xs≠[]):RowT xs w e w':=by
 obtain⟨g,cap,h1,h2,h3⟩:=h;exact⟨.inr ⟨g,cap,hx,h1,h2⟩,h3⟩
theorem arR {w:World}{base base' size:Nat}{e:TypeId}{v:Value}{n:Nat}{xs:List Value}(h:w.ownsRow base e size v n xs)(hb:base'<=base):w.ownsRow base' e size v n xs:=by
 refine⟨h.1,h.2.imp id ?_⟩;rintro⟨g,cap,cur,h1,h2,h3⟩;exact⟨g,cap,cur,h1,by omega,h3⟩
theorem apG (w:World)(T:TypeId)(x:Value){base:Nat}(hb:base<=w.heap.size):(w.alloc (.cells #[x] T)).ownsRow base T 1 (.slice (some ⟨w.heap.size,0,none⟩) 1 1) 1 [x]:=
 ⟨rfl,.inr ⟨w.heap.size,1,#[x],rfl,hb,heap_alloc_new w _,nl _,by unfold maxLen;omega,rfl,rfl⟩⟩
theorem ajL (xs:List ByteArray):∀u∈xs.map Value.string,u.oneCell'=true:=by
 intro u hu;obtain⟨c,_,rfl⟩:=List.mem_map.1 hu;rfl
theorem auF (s X:ByteArray)(k:Int)(hk:(k != 43)=true)(hk2:(k==43)=false)(HP:Zr 208 #[.string s] (.string X)) (HK:Ze 116 #[.string X] (.int .u8 k)) (HD:Zr 196 #[.string X] (.bool true))(w:World) : Calls prog 220 #[.string s] w (RowT [] w):=by
 have HP':=qz HP;have HK':=qz HK;have HD':=qz HD;clear HP HK HD
 go_enter func220,ntmps220
 go_wp2_with fail;refine(HP'.out _).mono ?_;rintro e w1 ⟨rfl,b1⟩;go_wp2_with fail;refine(HK'.out _).mono ?_;rintro e w' ⟨rfl,rfl⟩;go_wp2_with fail;refine(HD'.out _).mono ?_;rintro e w2 ⟨rfl,b2⟩;go_wp2_with fail;go_ret;exact⟨.inl ⟨rfl,rfl⟩,aab b1 b2 b1.size⟩
theorem axa (s X:ByteArray)(k:Int)(hk:(k != 43)=true)(hk2:(k==43)=false)(HP:Zr 208 #[.string s] (.string X)) (HK:Ze 116 #[.string X] (.int .u8 k)) (HD:Zr 196 #[.string X] (.bool false))(w:World) : Calls prog 220 #[.string s] w (RowT [X] w):=by
 have HP':=qz HP;have HK':=qz HK;have HD':=qz HD;clear HP HK HD
 go_enter func220,ntmps220
 go_wp2_with fail;refine(HP'.out _).mono ?_;rintro e w1 ⟨rfl,b1⟩;go_wp2_with fail;refine(HK'.out _).mono ?_;rintro e w' ⟨rfl,rfl⟩;go_wp2_with fail;refine(HD'.out _).mono ?_;rintro e w2 ⟨rfl,b2⟩;have bl:=aab b1 b2 b1.size;go_wp2_with fail;go_ret;exact⟨.inr ⟨_,_,by simp,rfl,apG _ _ _ bl.size⟩,bl.alloc bl.size _⟩
theorem axb (s X U V:ByteArray)(xs ys:List ByteArray)(hx:xs≠[])(hy:ys≠[])(hn:xs.length+ys.length<=1000) (HP:Zr 208 #[.string s] (.string X)) (HK:Ze 116 #[.string X] (.int .u8 43)) (HPt:∀w,Calls prog 117 #[.string X] w fun e w'=>∃b,e=.returned (.slice (some ⟨b,0,none⟩) 2 2)/\w.heap.size<=b/\w'.heap[b]?=some (.cells #[.string U,.string V] 9 (0,0))/\Zb w w') (HU:∀w,Calls prog 220 #[.string U] w (RowN xs w))(HV:∀w,Calls prog 220 #[.string V] w (RowN ys w))(w:World) : Calls prog 220 #[.string s] w (RowT (xs++ys) w):=by
 obtain⟨i0,hi,hz0,hz1,hz2⟩:=info_parts Tryz.infoS;have HP':=qz HP;have HK':=qz HK;have HPt':=qz HPt;have HU':=qz HU;have HV':=qz HV
 have hny:0<ys.length:=by cases ys with
  | nil=>exact absurd rfl hy
  | cons _ _=>simp
 have HX:=qz hx;clear HP HK HPt HU HV hx hy
 go_enter func220,ntmps220
 go_wp2_with fail;refine(HP'.out _).mono ?_;rintro e w1 ⟨rfl,b1⟩;go_wp2_with fail;refine(HK'.out _).mono ?_;rintro e w' ⟨rfl,rfl⟩;go_wp2_with fail;refine(HPt'.out _).mono ?_;rintro e w2 ⟨b,rfl,hb,hh,b2⟩;have bl:=aab b1 b2 b1.size;have c0:=aaf hh;have c1:=aak hh;have Hh:=qz hh;clear hh hb b1 b2;go_wp2_with fail;have Bl:=qz bl;clear bl
 go_region_held3 (fun w'=>w'.cell? ⟨b,0,none⟩=some (.string U)/\w'.cell? ⟨b,1,none⟩=some (.string V)) ((first|exact⟨by assumption,by assumption⟩|exact⟨s0,s1⟩))
  ((first
  | (go_at_call 220;(with_reducible refine(HU'.out _).mono ?_);rintro e wu ⟨gu,cu,rfl,ou,bu⟩;have Ou:=qz ou;clear ou;have hu:=(bu.block b (lt_of_block Hh.out)).trans Hh.out;have d0:=aaf hu;have d1:=aak hu)
  | (go_at_call 220;(with_reducible refine(HV'.out _).mono ?_);rintro e wv ⟨gv,cv,rfl,ov,bv⟩;have Ov:=qz ov;clear ov;have hv:=(bv.block b (lt_of_block hu)).trans hu;have q0:=aaf hv;have q1:=aak hv;have Hv:=qz hv;have NEWS:=qz (Ov.out.cells (g:=gv) rfl);have OWN:=qz (arR (base':=w.heap.size) (aaY Ou.out bv) Bl.out.size);have BLF:=qz (aab (aab Bl.out.drew bu Bl.out.size) bv (Nat.le_trans Bl.out.size bu.size)))
  | (refine step_append_lies _ (by rfl) (.tmp 18) (.tmp 22) 22 (by rfl) w.heap.size 9 i0 (.string ⟨#[]⟩) 1 16 underlying22 hi hz0 hz1 hz2 rfl (by decide) (.slice (some ⟨gu,0,none⟩) xs.length cu) xs.length (xs.map Value.string) (by rfl) OWN.out ⟨gv,0,none⟩ ys.length cv (ys.map Value.string) (by rfl) (by simp) NEWS.out (ajL ys) hny (by unfold maxLen;omega) (by omega) BLF.out.size _ rfl ?_;intro g cap w9 hown hgrow hat hlt;have hbg:b<wv.heap.size:=lt_of_block Hv.out;have hne:some b≠(Value.slice (some ⟨gu,0,none⟩) xs.length cu).ownBlock:=(fun h=>by have h1:=Ou.out.lt gu rfl;have h2:=lt_of_block Hh.out;simp[Value.ownBlock]at h;simp at h1;omega);have h9:=(hgrow.block b hbg hne).trans Hv.out;have s0:=aaf h9;have s1:=aak h9)
  | fail))
 all_goals go_wp2_with fail
 all_goals go_ret
 all_goals
  refine⟨.inr ⟨g,cap,by have:=HX.out;simp[this],(by rw[lla];rfl),by rw[lla,List.map_append];exact hown⟩,BLF.out.grown hgrow BLF.out.size (fun k hk=>(OWN.out.lt k hk).1)⟩
theorem ak2 (n:Nat):∀t:Tm,t.size<=n->t.dead=false->Tm.sums n t≠[]:=by
 induction n with
 | zero=>intro t h;have:=aao t;omega
 | succ n ih=>
  intro t hn hd;have hps:=(abm t).2.2.1;have hd':=afC t;have hpf:=ab9 t;rw[hd]at hd';unfold Tm.sums
  generalize t.peel=u at *
  cases u with
  | sum p q=>
   have:p.size+q.size+1<=t.size:=hps;intro e;exact ih p (by omega) hpf.1 (List.append_eq_nil_iff.1 e).1
  | _=>simp[hd']
theorem ak3 (n:Nat):∀t:Tm,(Tm.sums n t).length<=t.size:=by
 induction n with
 | zero=>intro t;simp[Tm.sums]
 | succ n ih=>
  intro t;have hps:=(abm t).2.2.1;have hpos:=aao t;unfold Tm.sums
  generalize t.peel=u at *
  cases u with
  | sum p q=>
   have:p.size+q.size+1<=t.size:=hps;have:=ih p;have:=ih q;simp only[lla];omega
  | _=>simp only[];split<;>simp<;>omega
theorem ags (n:Nat):∀t:Tm,t.size<=n->t.ok nmE=true->t.pr.length<=700->∀w,Calls prog 220 #[.string (S t)] w (RowT ((Tm.sums n t).map S) w):=by
 induction n with
 | zero=>intro t h;have:=aao t;omega
 | succ n ih=>
  intro t hn ho hl w;have hps:=abm t;have hpf:=ab9 t;have hP:=ag7 t ho hl;have hou:=hps.1 nmE ho;have hlu:t.peel.pr.length<=700:=by omega
  have hK:=aah t.peel hou hlu;have hD:=adi t.peel.size t.peel (nl _) hou hlu;have hPt:=aaj t.peel hou hlu
  have hone:(∀p q,t.peel≠.sum p q)->(((t.peel.kind.toNat:Nat):Int) != 43)=true/\(((t.peel.kind.toNat:Nat):Int)==43)=false:=by
   intro h
   cases hu:t.peel with
   | sum p q=>exact absurd hu (h p q)
   | _=>exact⟨rfl,rfl⟩
  by_cases hs:∃p q,t.peel=.sum p q
  ·obtain⟨p,q,hu⟩:=hs;rw[hu]at hpf hK hPt hou hlu hps;have hsz:p.size+q.size+1<=t.size:=hps.2.2.1;have hoo:p.ok nmE=true/\q.ok nmE=true:=by simpa only[Tm.ok,bae] using hou
   have hll:p.pr.length+q.pr.length<=700:=by simp only[Tm.pr,List.length_cons,lla]at hlu;omega
   have e:(Tm.sums (n+1) t).map S=(Tm.sums n p).map S++(Tm.sums n q).map S:=by
    rw[<-List.map_append];congr 1
    conv=>lhs;unfold Tm.sums
    rw[hu]
   rw[e];have h1:=ak2 n p (by omega) hpf.1;have h2:=ak2 n q (by omega) hpf.2;have l1:=ak3 n p;have l2:=ak3 n q;have z1:=aaX p;have z2:=aaX q;refine axb (S t) (S (.sum p q)) (S p) (S q) _ _ (by simpa using h1) (by simpa using h2) (by simp only[List.length_map];omega) (by rw[hu]at hP;exact hP) hK ?_ (fun w=>(ih p (by omega) hoo.1 (by omega) w).mono fun _ _ h=>h.some_ (by simpa using h1)) (fun w=>(ih q (by omega) hoo.2 (by omega) w).mono fun _ _ h=>h.some_ (by simpa using h2)) w;exact hPt
  ·have hs':∀p q,t.peel≠.sum p q:=fun p q e=>hs ⟨p,q,e⟩;obtain⟨k1,k2⟩:=hone hs'
   have e:(Tm.sums (n+1) t).map S=if t.peel.dead then [] else [S t.peel]:=by
    conv=>lhs;unfold Tm.sums
    cases hu:t.peel with
    | sum p q=>exact absurd hu (hs' p q)
    | _=>simp only[];split<;>rfl
   rw[e]
   cases hd:t.peel.dead with
   | true=>rw[if_pos rfl];rw[hd]at hD;exact auF _ _ _ k1 k2 hP hK hD w
   | false=>rw[if_neg (by simp)];rw[hd]at hD;exact axa _ _ _ k1 k2 hP hK hD w
theorem abH {w:World}{base n cap g:Nat}{xs:List Value}(h:w.ownsRow base 9 1 (.slice (some ⟨g,0,none⟩) n cap) n xs):∃C,w.heap[g]?=some (.cells C 9 (0,0))/\(∀j (hj:j<xs.length),C[j]?=some xs[j])/\base<=g:=by
 obtain⟨h1,h2⟩:=h;rcases h2 with⟨h2,_⟩|⟨g',cap',cur,h2,hb,hg,_,_,hc,ht⟩
 ·cases h2
 ·cases h2;refine⟨cur,hg,fun j hj=>?_,hb⟩;have e:(cur.toList.take (n * 1))[j]?=some xs[j]:=by rw[ht];exact List.getElem?_eq_getElem hj
  rw[List.getElem?_take]at e
  split at e
  ·simpa using e
  ·cases e
def ai0 (s:ByteArray)(F:Nat->List ByteArray)(k:Nat):List ByteArray:=(List.range k).flatMap fun i=>(F i).map fun r=>s.extract i (i+1)++r
theorem ai1 (s:ByteArray)(F:Nat->List ByteArray)(k:Nat):ai0 s F (k+1)=ai0 s F k++(F k).map fun r=>s.extract k (k+1)++r:=by
 unfold ai0;rw[List.range_succ,List.flatMap_append];simp
theorem arS (s:ByteArray)(F:Nat->List ByteArray)(k:Nat)(h:∀i,i<k->(F i).length<=200):(ai0 s F k).length<=k * 200:=by
 induction k with
 | zero=>simp[ai0]
 | succ k ih=>
  rw[ai1,lla,List.length_map];have:=ih fun i hi=>h i (by omega);have:=h k (by omega);omega
theorem as5 (w:World):Calls prog 193 #[.string ⟨#[]⟩] w (RowN [⟨#[]⟩] w):=by
 go_enter func193,ntmps193
 go_wp2_with fail;go_ret;exact⟨_,_,rfl,apG _ _ _ (nl _),bra⟩
theorem auG (s:ByteArray)(F:Nat->List ByteArray)(hs:s.size<=10)(h0:0<s.size)(hne:s.toList.isEmpty=false)(hF:∀i,i<s.size->(F i).length<=200)(hz:∀i,i<s.size->∀r∈F i,r.size<=100) (H:∀i,i<s.size->∀w,Calls prog 193 #[.string (s.extract 0 i++s.extract (i+1) s.size)] w (RowN (F i) w))(w:World) : Calls prog 193 #[.string s] w fun e w'=>∃v,e=.returned v/\w'.ownsRow w.heap.size 9 1 v (ai0 s F s.size).length ((ai0 s F s.size).map Value.string)/\Zb w w':=by
 obtain⟨i0,hi,hz0,hz1,hz2⟩:=info_parts Tryz.infoS;have HH:=qz H;have HF:=qz hF;have HZ:=qz hz;obtain⟨cap0,W0,hcv,bW,hr⟩:=aaF s _ s.size rfl (by simp) w;have BW:=qz bW;clear H hF hz hr bW
 go_enter func193,ntmps193
 go_wp2_with fail
 go_loopw [3,13] (fun v c wr=>∃k:Nat,k<=s.size/\c=.int .i64 (k:Int)/\Hid (wr.ownsRow w.heap.size 9 1 v (ai0 s F k).length ((ai0 s F k).map Value.string))/\Zb w wr) (fun _ c _=>s.size - (intOf c).toNat)
 case atStart=>exact⟨0,Nat.zero_le _,rfl,World.ownsRow_nil _ _ _ _,BW.out⟩
 case round=>
  obtain⟨k,hk,rfl,hown,hbw⟩:=hrel
  by_cases hlt:k<s.size
  ·have HC:=qz (HH.out k hlt);have hll:=arS s F k fun i hi=>HF.out i (by omega);have hfl:=HF.out k hlt;have hzk:=qz (HZ.out k hlt);have hw1:IntKind.i64.wrap ((k:Int)+1)=(k:Int)+1:=IntWalk.i64_in _ (by omega);have Bw:=qz hbw;have q1:(0:Int)<=(k:Int)+1:=by omega
   have q2:(k:Int)+1<=(s.size:Int):=by omega
   have q3:¬9223372036854775807<k+(s.size - (k+1)):=by omega
   clear hbw;go_wp2_with fail
   go_region_held3 (fun w'=>True) (trivial)
    ((first
    | (go_at_call 193;(with_reducible refine(HC.out _).mono ?_);rintro e w2 ⟨g,cap,rfl,ow,bw⟩;have Ow:=qz ow;have Bw2:=qz bw;clear ow bw)
    | fail))
   obtain⟨C,hC0,hC1,hCb⟩:=abH Ow.out;have HC0:=qz hC0;have HC1:=qz hC1
   have hne0:Hid (u3.ownBlock≠some g):=fun h=>by
    have:=(hown.out.lt g h).2;have hx:wr.heap.size<=g:=hCb;omega
   have hown2:Hid (w2.ownsRow w.heap.size 9 1 u3 (ai0 s F k).length ((ai0 s F k).map Value.string)):=aaY (w:=wr.drew) hown.out Bw2.out;have bl2:Zb w w2:=aab Bw.out.drew Bw2.out Bw.out.size;obtain⟨L,hL⟩:∃L,L=F k:=⟨_,rfl⟩;have HL:=qz hL;obtain⟨A,hA⟩:∃A,A=s.extract k (k+1):=⟨_,rfl⟩;have HA:=qz hA;have hAs:A.size<=10:=by rw[hA,ByteArray.size_extract];omega
   have hLl:L.length<=200:=by rw[hL];exact hfl
   have hLz:Hid (∀r∈L,r.size<=100):=by rw[hL];exact hzk.out
   rw[<-hL]at hC1 HC1 ⊢;obtain⟨O,hO⟩:∃O,O=ai0 s F k:=⟨_,rfl⟩;have HO:=qz hO;rw[<-hO]at hown2 hll;clear hL hA hC0 hC1 hCb hfl hzk HC Ow Bw2 hown hO;go_wp2_with fail
   go_loopw [3,26] (fun v c wr2=>∃j:Nat,j<=L.length/\c=.int .i64 (j:Int)/\Hid (wr2.ownsRow w.heap.size 9 1 v (O.length+j) ((O++(L.take j).map fun r=>A++r).map Value.string))/\Hid (wr2.heap[g]?=some (.cells C 9 (0,0)))/\Hid (v.ownBlock≠some g)/\Zb w wr2) (fun _ c _=>L.length - (intOf c).toNat)
   case atStart=>exact⟨0,Nat.zero_le _,rfl,by simpa [Hid] using hown2.out,HC0,hne0,bl2⟩
   case round=>
    obtain⟨j,hj,rfl,hown,hg,hng,hbw⟩:=hrel
    by_cases hlt2:j<L.length
    ·obtain⟨r,hr⟩:∃r,r=L[j]:=⟨_,rfl⟩
     have c1:wr.cell? ⟨g,j,none⟩=some (.string r):=by
      rw[cell_of_row wr g _ C _ _ hg.out,hr];have:=HC1.out j (by simpa using hlt2);simpa using this
     have hrs:r.size<=100:=by rw[hr];exact hLz.out _ (List.getElem_mem _)
     have HR:=qz hr;have hgl:=lt_of_block hg.out;have hsz:=hbw.size;clear hr
     go_wp2_with (at_builtin;refine wpList_append_own_at _ rfl (.tmp 30) (.tmp 38) 22 rfl w.heap.size 9 i0 (.string ⟨#[]⟩) 1 16 underlying22 hi hz0 hz1 hz2 rfl (by decide) _ _ _ rfl (hown.out.alloc _) ⟨wr.heap.size,0,none⟩ 1 1 [.string (s.extract k (k+1)++r)] rfl rfl (aaR wr [.string (s.extract k (k+1)++r)] 9) (fun u hu=>by simp at hu;subst hu;rfl) ?c2 ?c3 ?c4 ?_)
     case c2=>unfold maxLen;omega
     case c3=>omega
     case c4=>simp;omega
     intro v1 w1 hown1 hgrow1 _ hat;have hbw1:Zb w w1:=Below.grown (hbw.alloc hsz _) hgrow1 (by simp;omega) (fun i hi=>(hown.out.lt i hi).1)
     have hg1:Hid (w1.heap[g]?=some (.cells C 9 (0,0))):=by
      show _=_;rw[hgrow1.block g (by simp;omega) (fun e=>hng.out e.symm)];exact(Below.heap_alloc wr _ g hgl).trans hg.out
     have hng1:Hid (v1.ownBlock≠some g):=fun e=>by
      rcases hat with h|h
      ·exact hng.out (h▸e)
      ·rw[h]at e;simp at e;omega
     have HOw:Hid (w1.ownsRow w.heap.size 9 1 v1 (O.length+(j+1)) ((O++(L.take (j+1)).map fun r=>A++r).map Value.string)):=by
      have e:(O++(L.take (j+1)).map fun r=>A++r).map Value.string=List.map Value.string O++(List.take j (List.map (Value.string∘fun r=>A++r) L)++[.string (s.extract k (k+1)++r)]):=by
       rw[List.take_succ_eq_append_getElem hlt2,<-HR.out,<-HA.out];simp[List.map_take]
      show World.ownsRow _ _ _ _ _ _ _;rw[e];exact hown1
     clear hown1 hgrow1 hat hg hng hown;go_wp2_with fail
     go_roundw
     case rel=>exact⟨j+1,by omega,by push_cast;rfl,HOw,hg1,hng1,hbw1⟩
     case measure=>simp[intOf];omega
    ·obtain rfl:j=L.length:=by omega
     have hfin:Hid (wr.ownsRow w.heap.size 9 1 u3 (ai0 s F (k+1)).length ((ai0 s F (k+1)).map Value.string)):=by
      show World.ownsRow _ _ _ _ _ _ _;have:=hown.out;rw[List.take_length]at this
      rw[ai1,<-HO.out,<-HL.out,<-HA.out,lla,List.length_map];exact this
     clear hown hg hng;go_wp2_with fail
     go_roundw
     case rel=>exact⟨k+1,by omega,by push_cast;rfl,hfin,hbw⟩
     case measure=>simp[intOf];omega
  ·obtain rfl:k=s.size:=by omega
   go_wp2_with fail;go_ret;exact⟨_,rfl,hown.out,hbw⟩
theorem abM {w:World}{base n:Nat}{v:Value}{xs:List Value}(h:w.ownsRow base 9 1 v n xs)(hn:0<n):∃g cap,v=.slice (some ⟨g,0,none⟩) n cap:=by
 rcases h.2 with⟨_,h⟩|⟨g,cap,cur,h,_⟩
 ·omega
 ·exact⟨g,cap,h⟩
def fct:Nat->Nat
 | 0=>1
 | n+1=>(n+1) * fct n
theorem ai2 {α:Type}(n:Nat):ordsL n ([]:List α)=[[]]:=by cases n<;>rfl
theorem ag8 {α:Type}(n:Nat)(l:List α)(h:l≠[]):ordsL (n+1) l=(List.range l.length).flatMap fun i=>(ordsL n (l.eraseIdx i)).map fun r=>(l.drop i).take 1++r:=by
 have:l.isEmpty=false:=by simpa using h
 conv=>lhs;unfold ordsL
 rw[this];rfl
theorem arT {α β:Type}(l:List α)(f:α->List β)(m:Nat)(h:∀a∈l,(f a).length<=m):(l.flatMap f).length<=l.length * m:=by
 induction l with
 | nil=>simp
 | cons a l ih=>
  simp only[List.flatMap_cons,lla,List.length_cons];have:=ih fun b hb=>h b (by simp[hb]);have:=h a (by simp);rw[Nat.succ_mul];omega
theorem acb {α:Type}(n:Nat):∀(l:List α),l.length<=n->(ordsL n l).length<=fct l.length/\ordsL n l≠[]/\∀r∈ordsL n l,r.length<=l.length:=by
 induction n with
 | zero=>
  intro l h;have:l=[]:=List.length_eq_zero_iff.1 (by omega);subst this
  exact⟨by simp[ordsL,fct],by simp[ordsL],fun r hr=>by simp only[ordsL,List.mem_singleton]at hr;rw[hr];simp⟩
 | succ n ih=>
  intro l h
  by_cases he:l=[]
  ·subst he;rw[ai2];exact⟨by simp[fct],by simp,fun r hr=>by simp only[List.mem_singleton]at hr;rw[hr];simp⟩
  ·have hpos:0<l.length:=List.length_pos_iff.2 he;have hel:∀i,i<l.length->(l.eraseIdx i).length=l.length - 1:=fun i hi=>List.length_eraseIdx_of_lt hi;rw[ag8 n l he];refine⟨?_,?_,fun r hr=>?_⟩
   ·refine Nat.le_trans (arT _ _ (fct (l.length - 1)) fun i hi=>?_) ?_
    ·rw[List.length_map];have hi':=List.mem_range.1 hi;have:=(ih (l.eraseIdx i) (by rw[hel i hi'];omega)).1;rw[hel i hi']at this
     exact this
    ·rw[List.length_range];obtain⟨m,hm⟩:∃m,l.length=m+1:=⟨l.length - 1,by omega⟩;rw[hm];exact nl _
   ·intro e;rw[List.flatMap_eq_nil_iff]at e;have:=e 0 (List.mem_range.2 hpos);rw[List.map_eq_nil_iff]at this
    exact(ih (l.eraseIdx 0) (by rw[hel 0 hpos];omega)).2.1 this
   ·obtain⟨i,hi,hr⟩:=List.mem_flatMap.1 hr;obtain⟨r',hr',rfl⟩:=List.mem_map.1 hr;have hi':=List.mem_range.1 hi;have:=(ih (l.eraseIdx i) (by rw[hel i hi'];omega)).2.2 r' hr';rw[hel i hi']at this
    rw[lla,List.length_take];omega
theorem apH (l:List UInt8)(i j:Nat):(B l).extract i j=B ((l.drop i).take (j - i)):=by
 apply asD
 rw[ByteArray.data_extract,Array.toList_extract,aaQ,List.extract_eq_take_drop]
theorem arU (l m:List UInt8):B l++B m=B (l++m):=by apply asD;simp[B]
theorem ai3 (n:Nat):∀(l:List UInt8),l.length<=n->l.length<=5->∀w,Calls prog 193 #[.string (B l)] w (RowN ((ordsL n l).map B) w):=by
 induction n with
 | zero=>
  intro l h _ w;have:l=[]:=List.length_eq_zero_iff.1 (by omega);subst this
  exact as5 w
 | succ n ih=>
  intro l h h5 w
  by_cases he:l=[]
  ·subst he;rw[ai2];exact as5 w
  ·have hpos:0<l.length:=List.length_pos_iff.2 he;have hel:∀i,i<l.length->(l.eraseIdx i).length=l.length - 1:=fun i hi=>List.length_eraseIdx_of_lt hi;have hsz:(B l).size=l.length:=aa1 l;have hf4:∀k,k<=4->fct k<=24:=by decide
   have hF:∀i,i<(B l).size->((ordsL n (l.eraseIdx i)).map B).length<=200:=fun i hi=>by
    rw[hsz]at hi;have:=(acb n (l.eraseIdx i) (by rw[hel i hi];omega)).1;rw[hel i hi]at this
    have:=hf4 (l.length - 1) (by omega);rw[List.length_map];omega
   have e:(ordsL (n+1) l).map B=ai0 (B l) (fun i=>(ordsL n (l.eraseIdx i)).map B) (B l).size:=by
    rw[ag8 n l he,hsz];unfold ai0;rw[List.map_flatMap];congr 1
    funext i
    rw[List.map_map,List.map_map];congr 1
    funext r
    simp only[Function.comp];rw[apH,arU];congr 2;rw[Nat.add_sub_cancel_left]
   rw[e];refine(auG (B l) (fun i=>(ordsL n (l.eraseIdx i)).map B) (by omega) (by omega) ?_ hF (fun i hi r hr=>?_) (fun i hi w=>?_) w).mono fun e' w' h=>?_
   ·cases l with
    | nil=>exact absurd rfl he
    | cons a l=>simp[B,ByteArray.toList_eq]
   ·obtain⟨r',hr',rfl⟩:=List.mem_map.1 hr;rw[hsz]at hi;have:=(acb n (l.eraseIdx i) (by rw[hel i hi];omega)).2.2 r' hr';rw[hel i hi]at this
    rw[aa1];omega
   ·rw[hsz]at hi ⊢;rw[apH,apH,arU]
    have e2:(l.drop 0).take (i - 0)++(l.drop (i+1)).take (l.length - (i+1))=l.eraseIdx i:=by
     have e3:(l.drop (i+1)).take (l.length - (i+1))=l.drop (i+1):=List.take_of_length_le (by rw[List.length_drop];omega);rw[List.eraseIdx_eq_take_drop_succ,List.drop_zero,Nat.sub_zero,e3]
    rw[e2];exact ih (l.eraseIdx i) (by rw[hel i hi];omega) (by rw[hel i hi];omega) w
   ·obtain⟨v,h1,h2,h3⟩:=h
    have hne:0<(ai0 (B l) (fun i=>(ordsL n (l.eraseIdx i)).map B) (B l).size).length:=by
     rw[<-e,List.length_map];exact List.length_pos_iff.2 (acb (n+1) l h).2.1
    obtain⟨g,cap,rfl⟩:=abM h2 hne;exact⟨g,cap,h1,h2,h3⟩
def leT2 (a b:ByteArray):Bool:=Op.bytesLess a.toList b.toList || a.toList==b.toList
def amL (out:List ByteArray)(s:ByteArray):Nat:=(out.takeWhile fun y=>leT2 y s).length
def ahR (out:List ByteArray)(s:ByteArray):List ByteArray:=out.take (amL out s)++[s]++out.drop (amL out s)
def ad6 (xs:List ByteArray):List ByteArray:=xs.foldl ahR []
theorem auH (out:List ByteArray)(s:ByteArray):amL out s<=out.length:=List.Sublist.length_le (List.takeWhile_sublist _)
theorem arV (out:List ByteArray)(s:ByteArray):(ahR out s).length=out.length+1:=by
 have:=auH out s;unfold ahR;simp only[lla,List.length_take,List.length_drop,List.length_cons,List.length_nil];omega
theorem ai4 (xs:List ByteArray)(i:Nat)(h:i<xs.length):ad6 (xs.take (i+1))=ahR (ad6 (xs.take i)) xs[i]:=by
 unfold ad6;rw[List.take_succ_eq_append_getElem h,List.foldl_append];rfl
theorem ad7 (xs:List ByteArray):(ad6 xs).length=xs.length:=by
 have:∀(l out:List ByteArray),(l.foldl ahR out).length=out.length+l.length:=by
  intro l;induction l with
  | nil=>intro out;rfl
  | cons a l ih=>intro out;simp only[List.foldl_cons,ih,arV,List.length_cons];omega
 have:=this xs []
 simpa [ad6] using this
theorem auI (out:List ByteArray)(s:ByteArray)(k:Nat)(hk:k<=out.length)(h:∀j (hj:j<out.length),j<k->leT2 out[j] s=true)(h2:∀hk:k<out.length,leT2 out[k] s=false):amL out s=k:=by
 unfold amL
 induction out generalizing k with
 | nil=>simp at hk;simp[hk]
 | cons a out ih=>
  cases k with
  | zero=>
   have:=h2 (by simp);simp only[List.getElem_cons_zero]at this
   simp[List.takeWhile_cons,this]
  | succ k=>
   have h0:=h 0 (by simp) (by omega);simp only[List.getElem_cons_zero]at h0;rw[List.takeWhile_cons,if_pos h0,List.length_cons];rw[ih k (by simpa using hk) (fun j hj hjk=>by have:=h (j+1) (by simp;omega) (by omega);simpa using this) (fun hk=>by have:=h2 (by simp;omega);simpa using this)]
theorem ayY (g k j:Nat):(⟨g,k,none⟩:Addr).add j=⟨g,k+j,none⟩:=by
 unfold Addr.add
 split
 ·rename_i h;rw[h];rfl
 ·rfl
theorem ajM (xs:List ByteArray)(g n cap:Nat)(C:Array Value)(hn:n=xs.length)(h1:1<=n)(h2:n<=1000)(w:World)(hg:w.heap[g]?=some (.cells C 9 (0,0)))(hC:∀j (h:j<xs.length),C[j]?=some (.string xs[j])) : Calls prog 50 #[.slice (some ⟨g,0,none⟩) n cap] w (RowN (ad6 xs) w):=by
 obtain⟨i0,hi,hz0,hz1,hz2⟩:=info_parts Tryz.infoS;have HN:=qz hn;have HG:=qz hg;have HC:=qz hC;clear hn hg hC
 go_enter func50,ntmps50
 go_wp2_with fail
 go_loopw [3,10] (fun v c wr=>∃i:Nat,i<=n/\c=.int .i64 (i:Int)/\Hid ((i=0/\v=.slice none 0 0)\/(0<i/\∃g' cap',v=.slice (some ⟨g',0,none⟩) i cap'/\wr.ownsRow w.heap.size 9 1 (.slice (some ⟨g',0,none⟩) i cap') i ((ad6 (xs.take i)).map Value.string)))/\Zb w wr) (fun _ c _=>n - (intOf c).toNat)
 case atStart=>exact⟨0,Nat.zero_le _,rfl,.inl ⟨rfl,rfl⟩,Below.refl _ _⟩
 case round=>
  obtain⟨i,hin,rfl,hv,hbw⟩:=hrel
  by_cases hlt:i<n
  ·have hix:i<xs.length:=by have:=HN.out;omega
   obtain⟨s,hs⟩:∃s,s=xs[i]:=⟨_,rfl⟩;have hgw:=(hbw.block g (lt_of_block HG.out)).trans HG.out;have c0:wr.cell? ⟨g,i,none⟩=some (.string s):=by rw[cell_of_row wr g _ C _ _ hgw,hs];exact HC.out i hix
   have HS:=qz hs;have Bw:=qz hbw;clear hs hgw hbw
   by_cases hi0:i=0
   ·subst hi0
    obtain rfl:u3=.slice none 0 0:=by
     rcases hv.out with⟨_,h⟩|⟨h,_⟩
     ·exact h
     ·omega
    clear hv;have hsz:=Bw.out.size;have hmade:(wr.alloc (.cells #[] 9)).ownsRow w.heap.size 9 1 (.slice (some ⟨wr.heap.size,0,none⟩) 0 0) 0 []:=World.ownsRow_made wr #[] 0 hsz (by unfold maxLen;omega) rfl;have HM:=qz hmade;clear hmade;go_wp2_with fail;refine wp_loop_rounds 1 ?_;rw[rounds_succ]
    go_wp2_with (first
     | (at_builtin;refine wpList_append_own_none rfl (.tmp 28) (.tmp 31) 22 rfl w.heap.size 9 i0 1 underlying22 hi (.slice (some ⟨wr.heap.size,0,none⟩) 0 0) 0 [] rfl HM.out rfl ?_)
     | (at_builtin;refine wpList_append_own_at _ rfl (.tmp 32) (.tmp 34) 22 rfl w.heap.size 9 i0 (.string ⟨#[]⟩) 1 16 underlying22 hi hz0 hz1 hz2 rfl (by decide) (.slice (some ⟨wr.heap.size,0,none⟩) 0 0) 0 [] rfl (HM.out.alloc _) ⟨wr.heap.size+1,0,none⟩ 1 1 [.string s] rfl rfl (abC wr _ [.string s] 9) (fun u hu=>by simp at hu;subst hu;rfl) ?c2 ?c3 ?c4 ?_))
    case c2=>unfold maxLen;omega
    case c3=>omega
    case c4=>simp;omega
    intro v1 w1 hown1 hgrow1 _ hat;have bl1:Zb w w1:=Below.grown ((Bw.out.alloc hsz _).alloc (by simp;omega) _) hgrow1 (by simp;omega) (fun k hk=>by simp[Value.ownBlock]at hk;omega);have hown2:w1.ownsRow w.heap.size 9 1 v1 1 [.string s]:=hown1;obtain⟨g',cap',rfl⟩:=abM hown2 (by omega);have HO:=qz hown2;clear hown1 hown2 hgrow1 hat
    go_wp2_with (at_builtin;refine wpList_append_own_none rfl (.tmp 36) (.tmp 39) 22 rfl w.heap.size 9 i0 1 underlying22 hi (.slice (some ⟨g',0,none⟩) 1 cap') 1 [.string s] rfl HO.out rfl ?_)
    go_wp2_with fail
    go_roundw
    case rel=>
     refine⟨1,by omega,by push_cast;rfl,.inr ⟨by omega,g',cap',rfl,?_⟩,bl1⟩;have e:ad6 (xs.take (0+1))=[s]:=by rw[ai4 xs 0 hix,HS.out];rfl
     have e':ad6 (xs.take 1)=[s]:=e;rw[e'];exact HO.out
    case measure=>simp[intOf];omega
   ·obtain⟨g',cap',rfl,hown⟩:∃g' cap',u3=.slice (some ⟨g',0,none⟩) i cap'/\wr.ownsRow w.heap.size 9 1 (.slice (some ⟨g',0,none⟩) i cap') i ((ad6 (xs.take i)).map Value.string):=by
     rcases hv.out with⟨h,_⟩|⟨_,g',cap',h,h'⟩
     ·exact absurd h hi0
     ·exact⟨g',cap',h,h'⟩
    obtain⟨ys,hys⟩:∃ys,ys=ad6 (xs.take i):=⟨_,rfl⟩;have hyl:Hid (ys.length=i):=by show _=_;rw[hys,ad7,List.length_take];omega
    rw[<-hys]at hown;obtain⟨C',hC0,hC1,hCb⟩:=abH hown
    have hcap:i<=cap'/\cap'<=9223372036854775807:=by
     rcases hown.2 with⟨h,_⟩|⟨_,_,_,h,_,_,h3,h4,_⟩
     ·cases h
     ·cases h;unfold maxLen at h4;exact⟨h3,h4⟩
    have HO:=qz hown;have HYS:=qz hys;have HC0:=qz hC0;have hg'l:g'<wr.heap.size:=lt_of_block hC0
    have HC1:Hid (∀j (hj:j<ys.length),wr.cell? ⟨g',j,none⟩=some (.string ys[j])):=fun j hj=>by
     rw[cell_of_row wr g' _ C' _ _ hC0];have:=hC1 j (by simpa using hj);simpa using this
    have hsz:=Bw.out.size;have hmade:(wr.alloc (.cells #[] 9)).ownsRow w.heap.size 9 1 (.slice (some ⟨wr.heap.size,0,none⟩) 0 0) 0 []:=World.ownsRow_made wr #[] 0 hsz (by unfold maxLen;omega) rfl;have HM:=qz hmade;clear hmade hown hys hC0 hC1 hv;go_wp2_with fail
    go_loop [6] (fun c=>∃k:Nat,k<=i/\c=.int .i64 (k:Int)/\Hid (∀j (hj:j<ys.length),j<k->leT2 ys[j] s=true)) (fun c=>i - (intOf c).toNat)
    case atStart=>exact⟨0,Nat.zero_le _,rfl,fun j _ h=>by omega⟩
    case round=>
     obtain⟨k,hki,rfl,hle⟩:=hrel
     by_cases hgo:∃hk:k<ys.length,leT2 ys[k] s=true
     ·obtain⟨hk,hlek⟩:=hgo;have hk':k<i:=by have:=hyl.out;omega
      have c1:=HC1.out k hk
      have hnext:Hid (∀j (hj:j<ys.length),j<k+1->leT2 ys[j] s=true):=fun j hj hjk=>by
       by_cases e:j=k
       ·subst e;exact hlek
       ·exact hle.out j hj (by omega)
      obtain⟨Y,hY⟩:∃Y,Y=ys[k]:=⟨_,rfl⟩;rw[<-hY]at c1 hlek;unfold leT2 at hlek;clear hY;rcases hb1:Op.bytesLess Y.toList s.toList with _|_
      ·rw[hb1,Bool.false_or]at hlek;go_wp2_with fail
       go_round
       case rel=>exact⟨k+1,by omega,by go_num,hnext⟩
       case measure=>simp[intOf];omega
      ·clear hlek;go_wp2_with fail
       go_round
       case rel=>exact⟨k+1,by omega,by go_num,hnext⟩
       case measure=>simp[intOf];omega
     ·have hpos:Hid (amL ys s=k):=auI ys s k (by have:=hyl.out;omega) hle.out (fun hk=>by
       cases h:leT2 ys[k] s with
       | false=>rfl
       | true=>exact absurd ⟨hk,h⟩ hgo)
      have hbd:k<i->∃Y,wr.cell? ⟨g',k,none⟩=some (.string Y)/\Op.bytesLess Y.toList s.toList=false/\(Y.toList==s.toList)=false:=fun hk=>by
       have hk':k<ys.length:=by have:=hyl.out;omega
       refine⟨ys[k],HC1.out k hk',?_⟩
       have:leT2 ys[k] s=false:=by
        cases h:leT2 ys[k] s with
        | false=>rfl
        | true=>exact absurd ⟨hk',h⟩ hgo
       unfold leT2 at this
       simpa using this
      clear hgo;have hki2:(k:Int)<=(i:Int):=by omega
      have hki3:(k:Int)<=(cap':Int):=by omega
      have hki4:(0:Int)<=(k:Int):=by omega
      have hend:Hid (∀(W:World),Zb w W->(∀j,j<wr.heap.size->W.heap[j]?=wr.heap[j]?)->∀j u,((ys.drop k).map Value.string)[j]?=some u->W.cell? ⟨g',k+j,none⟩=some u):=fun W _ hW j u hu=>by
       rw[cell_of_row W g' _ C' _ _ ((hW g' hg'l).trans HC0.out)];rw[List.getElem?_map,List.getElem?_drop]at hu;rw[<-cell_of_row wr g' _ C' _ _ HC0.out]
       cases hy:ys[k+j]? with
       | none=>rw[hy]at hu;cases hu
       | some y=>
        rw[hy]at hu;obtain⟨hlt',e⟩:=List.getElem?_eq_some_iff.1 hy;have:=HC1.out (k+j) hlt';rw[this,e];exact hu
      have htake:Hid (∀(W:World),(∀j,j<wr.heap.size->W.heap[j]?=wr.heap[j]?)->∀j u,((ys.take k).map Value.string)[j]?=some u->W.cell? ((⟨g',0,none⟩:Addr).add j)=some u):=fun W hW j u hu=>by
       rw[aoW,cell_of_row W g' _ C' _ _ ((hW g' hg'l).trans HC0.out),<-cell_of_row wr g' _ C' _ _ HC0.out];rw[List.getElem?_map,List.getElem?_take]at hu
       split at hu
       ·cases hy:ys[j]? with
        | none=>rw[hy]at hu;cases hu
        | some y=>
         rw[hy]at hu;obtain⟨hlt',e⟩:=List.getElem?_eq_some_iff.1 hy;have:=HC1.out j hlt';rw[this,e];exact hu
       ·cases hu
      have hkl:k<=ys.length:=by have:=hyl.out;omega
      have hstop:(k=i)\/(k<i/\∃Y,wr.cell? ⟨g',k,none⟩=some (.string Y)/\Op.bytesLess Y.toList s.toList=false/\(Y.toList==s.toList)=false):=by
       by_cases h:k<i
       ·exact .inr ⟨h,hbd h⟩
       ·exact .inl (by omega)
      have hnl:Hid (((ys.take k).map Value.string).length=k * 1):=by show _=_;rw[List.length_map,List.length_take,Nat.min_eq_left hkl,Nat.mul_one]
      have hnl2:Hid (((ys.drop k).map Value.string).length=(ys.length - k) * 1):=by show _=_;rw[List.length_map,List.length_drop,Nat.mul_one]
      have Hki:=qz hki;clear hbd hle hyl
      have hcases:(k=i/\k=cap')\/(k=i/\k<cap')\/(k<i/\∃Y,wr.cell? ⟨g',k,none⟩=some (.string Y)/\Op.bytesLess Y.toList s.toList=false/\(Y.toList==s.toList)=false):=by
       rcases hstop with h|h
       ·by_cases hc:k=cap'
        ·exact .inl ⟨h,hc⟩
        ·exact .inr (.inl ⟨h,by omega⟩)
       ·exact .inr (.inr h)
      have hylen:=qz (show ys.length=i from by have:=HYS.out;rw[this,ad7,List.length_take];omega);have hi1000:i<=1000:=by omega
      have hnl3:Hid (((ys.drop k).map Value.string).length=(i - k) * 1):=by show _=_;rw[hnl2.out,hylen.out]
      have hfinal:Hid (∀(W:World) (v:Value),W.ownsRow w.heap.size 9 1 v (i+1) (((ys.take k++[s]).map Value.string)++(ys.drop k).map Value.string)->W.ownsRow w.heap.size 9 1 v (i+1) ((ad6 (xs.take (i+1))).map Value.string)):=fun W v h=>by
       have e1:ad6 (xs.take (i+1))=ahR ys s:=by rw[ai4 xs i hix,<-HYS.out,<-HS.out]
       rw[e1];unfold ahR;rw[hpos.out,List.map_append];exact h
      have hdrop:Hid (k=i->ys.drop k=[]):=fun e=>List.drop_of_length_le (by have:=hylen.out;omega);clear hstop;rcases hcases with⟨rfl,rfl⟩|⟨rfl,hkc⟩|⟨hklt,Y,cY,bY,eY⟩
      all_goals
       go_wp2_with ((at_builtin;refine wpList_append_own_at _ rfl (.tmp 28) (.tmp 31) 22 rfl w.heap.size 9 i0 (.string ⟨#[]⟩) 1 16 underlying22 hi hz0 hz1 hz2 rfl (by decide) (.slice (some ⟨wr.heap.size,0,none⟩) 0 0) 0 [] rfl HM.out ⟨g',0,none⟩ k _ ((ys.take k).map Value.string) rfl hnl.out (htake.out _ (fun j hj=>Below.heap_alloc wr _ j hj)) (ajL _) ?c2 ?c3 ?c4 ?_))
       case c2=>unfold maxLen;omega
       case c3=>omega
       case c4=>first|omega|(simp;omega)
       intro v1 w1 hown1 hgrow1 _ hat1;have hsz1:wr.heap.size+1<=w1.heap.size:=by have:=hgrow1.size;simpa using this
       have bl1:Zb w w1:=Below.grown (Bw.out.alloc hsz _) hgrow1 (by simp;omega) (fun j hj=>by simp[Value.ownBlock]at hj;omega);have hk1:Hid (∀j,j<wr.heap.size->w1.heap[j]?=wr.heap[j]?):=fun j hj=>(hgrow1.block j (by simp;omega) (fun e=>by simp[Value.ownBlock]at e;omega)).trans (Below.heap_alloc wr _ j hj)
       have hv1:v1.ownBlock=none\/∃b,v1.ownBlock=some b/\wr.heap.size<=b:=by
        rcases hat1 with h|h
        ·exact .inr ⟨wr.heap.size,by rw[h];rfl,nl _⟩
        ·exact .inr ⟨_,h,by simp⟩
       have HO1:=qz hown1;have Bl1:=qz bl1;have Hv1:=qz hv1;clear hown1 hgrow1 hat1 bl1 hv1
       go_wp2_with ((at_builtin;refine wpList_append_own_at _ rfl (.tmp 32) (.tmp 34) 22 rfl w.heap.size 9 i0 (.string ⟨#[]⟩) 1 16 underlying22 hi hz0 hz1 hz2 rfl (by decide) _ _ _ rfl (HO1.out.alloc _) ⟨w1.heap.size,0,none⟩ 1 1 [.string s] rfl rfl (aaR w1 [.string s] 9) (fun u hu=>by simp at hu;subst hu;rfl) ?d2 ?d3 ?d4 ?_))
       case d2=>unfold maxLen;omega
       case d3=>omega
       case d4=>first|omega|(simp;omega)
       intro v2 w2 hown2 hgrow2 _ hat2
       have bl2:Zb w w2:=Below.grown (Bl1.out.alloc (by omega) _) hgrow2 (by simp;omega) (fun j hj=>by
        rcases Hv1.out with h|⟨b,h,hb⟩
        ·rw[h]at hj;cases hj
        ·rw[h]at hj;cases hj;omega)
       have hk2:Hid (∀j,j<wr.heap.size->w2.heap[j]?=wr.heap[j]?):=fun j hj=>(hgrow2.block j (by simp;omega) (fun e=>by
        rcases Hv1.out with h|⟨b,h,hb⟩
        ·rw[h]at e;cases e
        ·rw[h]at e;cases e;omega)).trans ((Below.heap_alloc w1 _ j (by omega)).trans (hk1.out j hj))
       have hsz2:wr.heap.size<=w2.heap.size:=by have:=hgrow2.size;simp at this;omega
       have hv2:∀b,v2.ownBlock=some b->wr.heap.size<=b:=fun b hb=>by
        rcases hat2 with h|h
        ·rcases Hv1.out with h'|⟨b',h',hb'⟩
         ·rw[h,h']at hb;cases hb
         ·rw[h,h']at hb;cases hb;exact hb'
        ·rw[h]at hb;simp at hb;omega
       have HO2:=qz hown2;have Bl2:=qz bl2;have Hv2:=qz hv2;clear hown2 hgrow2 hat2 bl2 hv2 Bl1 Hv1 hk1 HO1
      all_goals have hE:=qz (hend.out w2 Bl2.out hk2.out)
      ·go_wp2_with ((at_builtin;refine wpList_append_own_at _ rfl (.tmp 36) (.tmp 39) 22 rfl w.heap.size 9 i0 (.string ⟨#[]⟩) 1 16 underlying22 hi hz0 hz1 hz2 rfl (by decide) _ _ _ rfl HO2.out _ _ _ [] rfl rfl (fun j u h=>by simp at h) (fun u h=>by simp at h) ?a2 ?a3 ?a4 ?_))
       case a2=>unfold maxLen;omega
       case a3=>omega
       case a4=>omega
       intro v3 w3 hown3 hgrow3 _ hat3;have bl3:Zb w w3:=Below.grown Bl2.out hgrow3 (by omega) (fun j hj=>by have:=Hv2.out j hj;omega)
       have hfin:w3.ownsRow w.heap.size 9 1 v3 (k+1) ((ad6 (xs.take (k+1))).map Value.string):=by
        refine hfinal.out _ _ ?_;rw[hdrop.out (by first|rfl|trivial)];simpa [List.map_take] using hown3
       obtain⟨g3,cap3,rfl⟩:=abM hfin (by omega);have HF:=qz hfin;clear hown3 hgrow3 hat3 hfin;go_wp2_with fail
       go_roundw
       case rel=>exact⟨k+1,by omega,by push_cast;rfl,.inr ⟨by omega,g3,cap3,rfl,HF.out⟩,bl3⟩
       case measure=>simp[intOf];omega
      ·go_wp2_with ((at_builtin;refine wpList_append_own_at _ rfl (.tmp 36) (.tmp 39) 22 rfl w.heap.size 9 i0 (.string ⟨#[]⟩) 1 16 underlying22 hi hz0 hz1 hz2 rfl (by decide) _ _ _ rfl HO2.out ⟨g',k,none⟩ 0 (cap' - k) [] rfl rfl (fun j u h=>by simp at h) (fun u h=>by simp at h) ?a2 ?a3 ?a4 ?_))
       case a2=>unfold maxLen;omega
       case a3=>omega
       case a4=>omega
       intro v3 w3 hown3 hgrow3 _ hat3;have bl3:Zb w w3:=Below.grown Bl2.out hgrow3 (by omega) (fun j hj=>by have:=Hv2.out j hj;omega)
       have hfin:w3.ownsRow w.heap.size 9 1 v3 (k+1) ((ad6 (xs.take (k+1))).map Value.string):=by
        refine hfinal.out _ _ ?_;rw[hdrop.out (by first|rfl|trivial)];simpa [List.map_take] using hown3
       obtain⟨g3,cap3,rfl⟩:=abM hfin (by omega);have HF:=qz hfin;clear hown3 hgrow3 hat3 hfin;go_wp2_with fail
       go_roundw
       case rel=>exact⟨k+1,by omega,by push_cast;rfl,.inr ⟨by omega,g3,cap3,rfl,HF.out⟩,bl3⟩
       case measure=>simp[intOf];omega
      ·go_wp2_with ((at_builtin;refine wpList_append_own_at _ rfl (.tmp 36) (.tmp 39) 22 rfl w.heap.size 9 i0 (.string ⟨#[]⟩) 1 16 underlying22 hi hz0 hz1 hz2 rfl (by decide) _ _ _ rfl HO2.out ⟨g',k,none⟩ (i - k) (cap' - k) ((ys.drop k).map Value.string) rfl hnl3.out (fun j u h=>by have:=hE.out j u h;rw[show (⟨g',k,none⟩:Addr).add j=⟨g',k+j,none⟩ from ayY g' k j];exact this) (ajL _) ?a2 ?a3 ?a4 ?_))
       case a2=>unfold maxLen;omega
       case a3=>omega
       case a4=>omega
       intro v3 w3 hown3 hgrow3 _ hat3;have bl3:Zb w w3:=Below.grown Bl2.out hgrow3 (by omega) (fun j hj=>by have:=Hv2.out j hj;omega)
       have hfin:w3.ownsRow w.heap.size 9 1 v3 (i+1) ((ad6 (xs.take (i+1))).map Value.string):=by
        refine hfinal.out _ _ ?_;have h3:=hown3;rw[show k+1+(i - k)=i+1 by omega]at h3;simpa [List.map_take,List.map_drop] using h3
       obtain⟨g3,cap3,rfl⟩:=abM hfin (by omega);have HF:=qz hfin;clear hown3 hgrow3 hat3 hfin;go_wp2_with fail
       go_roundw
       case rel=>exact⟨i+1,by omega,by push_cast;rfl,.inr ⟨by omega,g3,cap3,rfl,HF.out⟩,bl3⟩
       case measure=>simp[intOf];omega
  ·obtain rfl:i=n:=by omega
   have hfin:∃g' cap',u3=.slice (some ⟨g',0,none⟩) i cap'/\wr.ownsRow w.heap.size 9 1 (.slice (some ⟨g',0,none⟩) i cap') i ((ad6 (xs.take i)).map Value.string):=by
    rcases hv.out with⟨h,_⟩|⟨_,g',cap',h,h'⟩
    ·omega
    ·exact⟨g',cap',h,h'⟩
   obtain⟨g',cap',rfl,hown⟩:=hfin;have HO:=qz hown;have hxl:=HN.out;clear hown hv;go_wp2_with fail;go_ret;have e:ad6 (xs.take i)=ad6 xs:=by rw[List.take_of_length_le (by omega)]
   have el:i=(ad6 xs).length:=by rw[ad7];exact hxl
   have:=HO.out;rw[e]at this
   exact⟨g',cap',(by rw[<-el];rfl),by rw[<-el];exact this,hbw⟩
structure Two (b:Nat) (r:Option Nat) (w w':World):Prop where
 os:w'.os=w.os
 tape:w'.tape=w.tape
 output:w'.output=w.output
 size:w.heap.size<=w'.heap.size
 block:∀k,k<w.heap.size->k≠b->some k≠r->w'.heap[k]?=w.heap[k]?
theorem Two.of_below {b:Nat}{r:Option Nat}{u v:World}(h:Zb u v):Two b r u v:=⟨h.os,h.tape,h.output,h.size,fun k hk _ _=>h.block k hk⟩
theorem Two.trans {b:Nat}{r r':Option Nat}{u v w:World}(h:Two b r u v)(k:Two b r' v w)(hr:r'=r\/∃m,r'=some m/\u.heap.size<=m):Two b r u w:=
 ⟨k.os.trans h.os,k.tape.trans h.tape,k.output.trans h.output,Nat.le_trans h.size k.size,fun i hi hb hn=>(k.block i (Nat.lt_of_lt_of_le hi h.size) hb (by
  rcases hr with e|⟨m,e,hm⟩
  ·rw[e];exact hn
  ·rw[e];intro e2;cases e2;omega)).trans (h.block i hi hb hn)⟩
theorem Two.set {b:Nat}{r:Option Nat}{u v:World}(h:Two b r u v)(o:Nat)(x:Value):Two b r u (v.setCell ⟨b,o,none⟩ x):=
 ⟨h.os,h.tape,h.output,Nat.le_trans h.size (by simp[World.setCell]),fun k hk hb hn=>(Below.heap_setCell _ _ _ _ hb).trans (h.block k hk hb hn)⟩
theorem Two.grown {b:Nat}{r:Option Nat}{u v w:World}(h:Two b r u v)(g:v.grownBy w r):Two b r u w:=
 ⟨g.os.trans h.os,g.tape.trans h.tape,g.output.trans h.output,Nat.le_trans h.size g.size,fun k hk hb hn=>(g.block k (Nat.lt_of_lt_of_le hk h.size) hn).trans (h.block k hk hb hn)⟩
theorem Two.alloc {b:Nat}{r:Option Nat}{u v:World}(h:Two b r u v)(o:Obj):Two b r u (v.alloc o):=
 ⟨h.os,h.tape,h.output,Nat.le_trans h.size (by simp),fun k hk hb hn=>(Below.heap_alloc _ _ _ (Nat.lt_of_lt_of_le hk h.size)).trans (h.block k hk hb hn)⟩
theorem Two.drew {b:Nat}{r:Option Nat}{u v:World}(h:Two b r u v):Two b r u v.drew:=⟨h.os,h.tape,h.output,h.size,h.block⟩
def LvAt (w:World)(b:Nat)(F:ByteArray)(v:Value):Prop:=w.heap[b]?=some (.cells #[.string F,v] 221 (0,0))
theorem LvAt.c0 {w:World}{b:Nat}{F:ByteArray}{v:Value}(h:LvAt w b F v):w.cell? ⟨b,0,none⟩=some (.string F):=by unfold LvAt at h;simp[World.cell?,h]
theorem LvAt.c1 {w:World}{b:Nat}{F:ByteArray}{v:Value}(h:LvAt w b F v):w.cell? ⟨b,1,none⟩=some v:=by unfold LvAt at h;simp[World.cell?,h]
theorem LvAt.f0 {w:World}{b:Nat}{F:ByteArray}{v:Value}(h:LvAt w b F v):w.frozen? ⟨b,0,none⟩=false:=by unfold LvAt at h;simp[World.frozen?,h]
theorem LvAt.f1 {w:World}{b:Nat}{F:ByteArray}{v:Value}(h:LvAt w b F v):w.frozen? ⟨b,1,none⟩=false:=by unfold LvAt at h;simp[World.frozen?,h]
theorem LvAt.lt {w:World}{b:Nat}{F:ByteArray}{v:Value}(h:LvAt w b F v):b<w.heap.size:=lt_of_block h
theorem LvAt.below {w w':World}{b:Nat}{F:ByteArray}{v:Value}(h:LvAt w b F v)(k:Zb w w'):LvAt w' b F v:=(k.block b h.lt).trans h
theorem LvAt.set1 {w:World}{b:Nat}{F:ByteArray}{v:Value}(h:LvAt w b F v)(u:Value):LvAt (w.setCell ⟨b,1,none⟩ u) b F u:=by
 have hlt:=h.lt;unfold LvAt at h ⊢;have h':w.heap[b]=.cells #[.string F,v] 221 (0,0):=by simpa [Array.getElem?_eq_getElem hlt] using h
 show (w.heap.modify b _)[b]?=_;rw[Array.getElem?_eq_getElem (by simpa using hlt),Array.getElem_modify_self,h'];rfl
theorem LvAt.set0 {w:World}{b:Nat}{F:ByteArray}{v:Value}(h:LvAt w b F v)(G:ByteArray):LvAt (w.setCell ⟨b,0,none⟩ (.string G)) b G v:=by
 have hlt:=h.lt;unfold LvAt at h ⊢;have h':w.heap[b]=.cells #[.string F,v] 221 (0,0):=by simpa [Array.getElem?_eq_getElem hlt] using h
 show (w.heap.modify b _)[b]?=_;rw[Array.getElem?_eq_getElem (by simpa using hlt),Array.getElem_modify_self,h'];rfl
theorem apI {w:World}{base size n b o:Nat}{e:TypeId}{v x:Value}{xs:List Value}(h:w.ownsRow base e size v n xs)(hb:v.ownBlock≠some b):(w.setCell ⟨b,o,none⟩ x).ownsRow base e size v n xs:=by
 refine⟨h.1,h.2.imp id ?_⟩;rintro⟨g,cap,cur,rfl,h2,h3,h4⟩;exact⟨g,cap,cur,rfl,h2,(Below.heap_setCell _ _ _ _ (fun e=>hb (by simp only at e;rw[<-e];rfl))).trans h3,h4⟩
theorem apJ {w:World}{base n b:Nat}{F:ByteArray}{v u:Value}{xs:List Value}(h:LvAt w b F u)(ho:w.ownsRow base 9 1 v n xs):v.ownBlock≠some b:=by
 intro e;rcases ho.2 with⟨rfl,_⟩|⟨g,cap,cur,rfl,_,hg,_⟩
 ·simp[Value.ownBlock]at e
 ·simp[Value.ownBlock]at e;subst e;unfold LvAt at h;rw[h]at hg
  injection hg with hg
  injection hg with _ ht
  revert ht
  decide
def agt (b base:Nat)(v:Value)(F:ByteArray)(xs:List ByteArray)(w:World)(e:Ending)(w':World):Prop:=
 e=.returned (.tuple #[])/\∃v',LvAt w' b F v'/\w'.ownsRow base 9 1 v' xs.length (xs.map Value.string)/\Two b v.ownBlock w w'/\(v'.ownBlock=v.ownBlock\/∃m,v'.ownBlock=some m/\w.heap.size<=m)
theorem auJ (s X F:ByteArray)(v:Value)(xs:List ByteArray)(b base:Nat) (HP:Zr 208 #[.string s] (.string X)) (HD:Zr 196 #[.string X] (.bool true)) (w:World)(hb:LvAt w b F v)(ho:w.ownsRow base 9 1 v xs.length (xs.map Value.string)) : Calls prog 192 #[.pointer (some ⟨b,0,none⟩),.string s] w (agt b base v F xs w):=by
 have HP':=qz HP;have HD':=qz HD;have HB:=qz hb;have HO:=qz ho;clear HP HD hb ho
 go_enter func192,ntmps192
 go_wp2_with fail;refine(HP'.out _).mono ?_;rintro e w1 ⟨rfl,b1⟩;go_wp2_with fail;refine(HD'.out _).mono ?_;rintro e w2 ⟨rfl,b2⟩;have bl:=aab b1 b2 b1.size;go_wp2_with fail;go_end0;exact⟨rfl,v,HB.out.below bl,aaY HO.out bl,Two.of_below bl,.inl rfl⟩
theorem auK (s X F:ByteArray)(v:Value)(xs:List ByteArray)(b base:Nat)(k:Int)(k1:(k==38)=false)(k2:(k==35)=false)(hn:xs.length<=1000) (HP:Zr 208 #[.string s] (.string X)) (HD:Zr 196 #[.string X] (.bool false)) (HK:Ze 116 #[.string X] (.int .u8 k)) (w:World)(hb:LvAt w b F v)(ho:w.ownsRow base 9 1 v xs.length (xs.map Value.string))(hbase:base<=w.heap.size) : Calls prog 192 #[.pointer (some ⟨b,0,none⟩),.string s] w (agt b base v F (xs++[X]) w):=by
 obtain⟨i0,hi,hz0,hz1,hz2⟩:=info_parts Tryz.infoS;have HP':=qz HP;have HD':=qz HD;have HK':=qz HK;have HB:=qz hb;have HO:=qz ho;clear HP HD HK hb ho
 go_enter func192,ntmps192
 go_wp2_with fail;refine(HP'.out _).mono ?_;rintro e w1 ⟨rfl,b1⟩;go_wp2_with fail;refine(HD'.out _).mono ?_;rintro e w2 ⟨rfl,b2⟩;have bl:=aab b1 b2 b1.size;clear b1 b2;go_wp2_with fail;refine(HK'.out _).mono ?_;rintro e w' ⟨rfl,rfl⟩;have hb2:=HB.out.below bl;have ho2:=aaY HO.out bl;have HB2:=qz hb2;have HO2:=qz ho2;have c1:=hb2.c1;have hbs:=bl.size;have Bl:=qz bl;clear hb2 ho2 bl
 go_wp2_with ((at_builtin;refine wpList_append_own_at _ rfl (.tmp 16) (.tmp 18) 22 rfl base 9 i0 (.string ⟨#[]⟩) 1 16 underlying22 hi hz0 hz1 hz2 rfl (by decide) _ _ _ rfl (HO2.out.alloc _) ⟨w2.heap.size,0,none⟩ 1 1 [.string X] rfl rfl (aaR w2 [.string X] 9) (fun u hu=>by simp at hu;subst hu;rfl) ?c2 ?c3 ?c4 ?_))
 case c2=>unfold maxLen;omega
 case c3=>omega
 case c4=>first|omega|(simp;omega)
 intro v1 w3 hown1 hgrow1 _ hat;obtain⟨gg,cc,rfl⟩:=abM hown1 (by omega);have hvb:v.ownBlock≠some b:=apJ HB2.out HO2.out;have hb3:LvAt w3 b F v:=(hgrow1.block b (by have:=HB2.out.lt;simp;omega) (fun e=>hvb e.symm)).trans ((Below.heap_alloc w2 _ b HB2.out.lt).trans HB2.out);have d1:=hb3.c1;have f1:=hb3.f1;have tw:Two b v.ownBlock w w3:=((Two.of_below Bl.out).alloc _).grown hgrow1;have hv1b:(Value.slice (some ⟨gg,0,none⟩) (xs.length+1) cc).ownBlock≠some b:=apJ hb3 hown1
 have hat2:Hid ((Value.slice (some ⟨gg,0,none⟩) (xs.length+1) cc).ownBlock=v.ownBlock\/∃m,(Value.slice (some ⟨gg,0,none⟩) (xs.length+1) cc).ownBlock=some m/\w.heap.size<=m):=by
  rcases hat with h|h
  ·exact .inl h
  ·exact .inr ⟨_,h,by first|omega|(simp;omega)⟩
 have HB3:=qz hb3;have HO3:=qz hown1;have Tw:=qz tw;have Hv:=qz hv1b;clear hown1 hgrow1 hat hb3 tw hv1b hvb c1;go_wp2_with fail;go_end0;refine⟨rfl,_,HB3.out.set1 _,?_,Tw.out.set _ _,hat2.out⟩;have:=apI (o:=1) (x:=(Value.slice (some ⟨gg,0,none⟩) (xs.length+1) cc)) HO3.out Hv.out;rw[lla,List.map_append];exact this
theorem axc (s X U V F F1 F2:ByteArray)(v:Value)(xs ys zs:List ByteArray)(b base:Nat) (HP:Zr 208 #[.string s] (.string X)) (HD:Zr 196 #[.string X] (.bool false)) (HK:Ze 116 #[.string X] (.int .u8 38)) (HPt:∀w,Calls prog 117 #[.string X] w fun e w'=>∃b,e=.returned (.slice (some ⟨b,0,none⟩) 2 2)/\w.heap.size<=b/\w'.heap[b]?=some (.cells #[.string U,.string V] 9 (0,0))/\Zb w w') (HU:∀v w,LvAt w b F v->w.ownsRow base 9 1 v xs.length (xs.map Value.string)->base<=w.heap.size->Calls prog 192 #[.pointer (some ⟨b,0,none⟩),.string U] w (agt b base v F1 ys w)) (HV:∀v w,LvAt w b F1 v->w.ownsRow base 9 1 v ys.length (ys.map Value.string)->base<=w.heap.size->Calls prog 192 #[.pointer (some ⟨b,0,none⟩),.string V] w (agt b base v F2 zs w)) (w:World)(hb:LvAt w b F v)(ho:w.ownsRow base 9 1 v xs.length (xs.map Value.string))(hbase:base<=w.heap.size) : Calls prog 192 #[.pointer (some ⟨b,0,none⟩),.string s] w (agt b base v F2 zs w):=by
 have HP':=qz HP;have HD':=qz HD;have HK':=qz HK;have HPt':=qz HPt;have HU':=qz HU;have HV':=qz HV;have HB:=qz hb;have HO:=qz ho;clear HP HD HK HPt HU HV hb ho
 go_enter func192,ntmps192
 go_wp2_with fail;refine(HP'.out _).mono ?_;rintro e w1 ⟨rfl,b1⟩;go_wp2_with fail;refine(HD'.out _).mono ?_;rintro e w2 ⟨rfl,b2⟩;have bl:=aab b1 b2 b1.size;clear b1 b2;go_wp2_with fail;refine(HK'.out _).mono ?_;rintro e w' ⟨rfl,rfl⟩;go_wp2_with fail;refine(HPt'.out _).mono ?_;rintro e w3 ⟨p,rfl,hp,hh,b3⟩;have bl3:=aab bl b3 bl.size;have c0:=aaf hh;have Hh:=qz hh;have Bl:=qz bl3;have hpw:w.heap.size<=p:=Nat.le_trans bl.size hp;clear hh bl b3 bl3 hp;have hb3:=HB.out.below Bl.out;have ho3:=aaY HO.out Bl.out;have HB3:=qz hb3;have HO3:=qz ho3;have hpb:p≠b:=by have:=HB.out.lt;omega
 have hpv:some p≠v.ownBlock:=fun e=>by have:=(HO.out.lt p e.symm).2;omega
 clear hb3 ho3;go_wp2_with fail;refine(HU'.out v _ HB3.out HO3.out (Nat.le_trans hbase Bl.out.size)).mono ?_;rintro e w4 ⟨rfl,v4,hb4,ho4,t4,a4⟩;have hh4:=(t4.block p (lt_of_block Hh.out) hpb hpv).trans Hh.out;have c1:=aak hh4;have HB4:=qz hb4;have HO4:=qz ho4;have T4:=qz ((Two.of_below Bl.out).trans t4 (.inl rfl));have hs4:w3.heap.size<=w4.heap.size:=t4.size;have A4:=qz a4;clear hb4 ho4 t4 a4 hh4 c0;go_wp2_with fail;refine(HV'.out v4 _ HB4.out HO4.out (by have:=Bl.out.size;omega)).mono ?_;rintro e w5 ⟨rfl,v5,hb5,ho5,t5,a5⟩;have HB5:=qz hb5;have HO5:=qz ho5;have T5:=qz t5;have A5:=qz a5;clear hb5 ho5 t5 a5 c1;go_wp2_with fail;go_end0
 have e4:v4.ownBlock=v.ownBlock\/∃m,v4.ownBlock=some m/\w.heap.size<=m:=by
  rcases A4.out with h|⟨m,h,hm⟩
  ·exact .inl h
  ·exact .inr ⟨m,h,Nat.le_trans Bl.out.size hm⟩
 refine⟨rfl,v5,HB5.out,HO5.out,T4.out.trans T5.out e4,?_⟩;rcases A5.out with h|⟨m,h,hm⟩
 ·rw[h];exact e4
 ·exact .inr ⟨m,h,by have:=Bl.out.size;omega⟩
theorem auL {i:Nat}(h:i<88)(h25:i≠25):(((gl i).toNat:Nat):Int)+1=(((gl (i+1)).toNat:Nat):Int)/\(((((gl (i+1)).toNat:Nat):Int))==91)=false/\(((gl i).toNat:Nat):Int)<255/\(0:Int)<=(((gl i).toNat:Nat):Int):=by
 have h1:=agQ (k:=i) (by omega);have h2:=agQ (k:=i+1) (by omega);rw[h1,h2];refine⟨?_,?_,?_,by omega⟩
 ·split<;>split<;>omega
 ·rw[beq_eq_false_iff_ne];split<;>omega
 ·split<;>omega
theorem axd (s X F FX RP F2:ByteArray)(x:Int)(k:Nat)(hk:k<=88)(v:Value)(xs zs:List ByteArray)(b base:Nat)(hF:F.size<=1000)(hFX:FX.size<=1000)(hX:X.size<=1000)(h3:3<=X.size)(h1:((X[1]'(by omega)).toNat:Int)=x) (hF1:∀i,i<k->inB F (((gl i).toNat:Nat):Int)=true)(hF2:inB F (((gl k).toNat:Nat):Int)=false)(hX2:inB FX (((gl k).toNat:Nat):Int)=false) (HP:Zr 208 #[.string s] (.string X)) (HD:Zr 196 #[.string X] (.bool false)) (HK:Ze 116 #[.string X] (.int .u8 35)) (HFr:Zr 120 #[.string X] (.string FX)) (HR:Zr 77 #[.string (X.extract 3 X.size),.int .u8 x,.int .u8 (((gl k).toNat:Nat):Int)] (.string RP)) (HG:∀v w,LvAt w b (F++one (gl k)) v->w.ownsRow base 9 1 v xs.length (xs.map Value.string)->base<=w.heap.size->Calls prog 192 #[.pointer (some ⟨b,0,none⟩),.string RP] w (agt b base v F2 zs w)) (w:World)(hb:LvAt w b F v)(ho:w.ownsRow base 9 1 v xs.length (xs.map Value.string))(hbase:base<=w.heap.size) : Calls prog 192 #[.pointer (some ⟨b,0,none⟩),.string s] w (agt b base v F2 zs w):=by
 have HP':=qz HP;have HD':=qz HD;have HK':=qz HK;have HFr':=qz HFr;have HR':=qz HR;have HG':=qz HG;have HB:=qz hb;have HO:=qz ho;have HF1:=qz hF1;subst h1;have p1:(1:Int)<(X.size:Int):=by omega
 have p3:(3:Int)<=(X.size:Int):=by omega
 have HIn:=qz (fun (c:Int) (w:World)=>acd F c w (by omega));have HInX:=qz (fun (w:World)=>acd FX (((gl k).toNat:Nat):Int) w (by omega));have HF2:=qz hF2;have HX2:=qz hX2;clear HP HD HK HFr HR HG hb ho hF1 hF2 hX2
 go_enter func192,ntmps192
 go_wp2_with fail;refine(HP'.out _).mono ?_;rintro e w1 ⟨rfl,b1⟩;go_wp2_with fail;refine(HD'.out _).mono ?_;rintro e w2 ⟨rfl,b2⟩;have bl:=aab b1 b2 b1.size;clear b1 b2;go_wp2_with fail;refine(HK'.out _).mono ?_;rintro e w' ⟨rfl,rfl⟩;have Bl:=qz bl;clear bl;go_wp2_with fail
 go_loopw [5] (fun y wr=>∃i:Nat,i<=k/\y=.int .u8 (((gl i).toNat:Nat):Int)/\wr=w2) (fun y _=>300 - (intOf y).toNat)
 case atStart=>exact⟨0,Nat.zero_le _,rfl,rfl⟩
 case round=>
  obtain⟨i,hik,rfl,rfl⟩:=hrel;have hb2:=HB.out.below Bl.out;have c0:=hb2.c0;clear hb2
  by_cases hlt:i<k
  ·have hT:=HF1.out i hlt
   have HC:Hid (Ze 119 #[.string F,.int .u8 (((gl i).toNat:Nat):Int)] (.bool true)):=fun w=>by
    have:=HIn.out (((gl i).toNat:Nat):Int) w;rw[hT]at this;exact this
   clear hT
   by_cases h25:i=25
   ·subst h25;rw[show (((gl 25).toNat:Nat):Int)=90 from by decide]at HC ⊢;go_wp2_with fail;refine(HC.out _).mono ?_;rintro e w' ⟨rfl,rfl⟩;go_wp2_with fail
    go_roundw
    case rel=>exact⟨26,by omega,by rw[show (((gl 26).toNat:Nat):Int)=192 from by decide],by first|rfl|trivial⟩
    case measure=>simp[intOf]
   ·obtain⟨s1,s2,s3,s4⟩:=auL (i:=i) (by omega) h25;obtain⟨N,hN⟩:∃N,N=(((gl i).toNat:Nat):Int):=⟨_,rfl⟩;obtain⟨M,hM⟩:∃M,M=(((gl (i+1)).toNat:Nat):Int):=⟨_,rfl⟩;rw[<-hN,<-hM]at s1;rw[<-hM]at s2;rw[<-hN]at s3 s4 HC ⊢;have hwr:IntKind.u8.wrap (N+1)=M:=by rw[s1];exact IntWalk.u8_in _ (by omega)
    have HM:=qz hM;have hNM:M=N+1:=s1.symm;have Hnm:=qz hNM;clear hN hM s1 hNM;go_wp2_with fail;refine(HC.out _).mono ?_;rintro e w' ⟨rfl,rfl⟩;go_wp2_with fail
    go_roundw
    case rel=>exact⟨i+1,by omega,by rw[HM.out],by first|rfl|trivial⟩
    case measure=>have:=Hnm.out;simp[intOf];omega
  ·obtain rfl:i=k:=by omega
   have HC:Hid (Ze 119 #[.string F,.int .u8 (((gl i).toNat:Nat):Int)] (.bool false)):=fun w=>by
    have:=HIn.out (((gl i).toNat:Nat):Int) w;rw[HF2.out]at this;exact this
   have HCX:Hid (Ze 119 #[.string FX,.int .u8 (((gl i).toNat:Nat):Int)] (.bool false)):=fun w=>by
    have:=HInX.out w;rw[HX2.out]at this;exact this
   obtain⟨Y,hY⟩:∃Y,Y=gl i:=⟨_,rfl⟩;rw[<-hY]at HC HCX HR' HG' ⊢;have HY:=qz hY;have hcv:=anp Y;have hcvd:=anq Y;have hone:(one Y).size<=1:=nl _;clear hY HIn HInX HF1 HF2 HX2;go_wp2_with fail;refine(HC.out _).mono ?_;rintro e w' ⟨rfl,rfl⟩;go_wp2_with fail;refine(HFr'.out _).mono ?_;rintro e w5 ⟨rfl,b5⟩;have bl5:=aab Bl.out b5 Bl.out.size;have Bl5:=qz bl5;clear b5 bl5 c0;go_wp2_with fail;refine(HCX.out _).mono ?_;rintro e w' ⟨rfl,rfl⟩;have hb5:=HB.out.below Bl5.out;have ho5:=aaY HO.out Bl5.out;have c0:=hb5.c0;have f0:=hb5.f0;have HB5:=qz hb5;have HO5:=qz ho5;clear hb5 ho5;go_wp2_with fail;have hBo:Hid (∀o,LvAt (w5.alloc o) b F v):=fun o=>HB5.out.below ((Below.refl _ _).alloc (nl _) o);have fz:∀o,(w5.alloc o).frozen? ⟨b,0,none⟩=false:=fun o=>(hBo.out o).f0;have cz:∀o,(w5.alloc o).cell? ⟨b,0,none⟩=some (.string F):=fun o=>(hBo.out o).c0;have hvb:v.ownBlock≠some b:=apJ HB5.out HO5.out
   have hW:∃W,W=((w5.alloc (.cells #[.int .u8 (Y.toNat:Int)] 5)).setCell ⟨b,0,none⟩ (.string (F++one Y))).drew/\LvAt W b (F++one Y) v/\W.ownsRow base 9 1 v xs.length (xs.map Value.string)/\Two b v.ownBlock w W/\base<=W.heap.size:=
    ⟨_,rfl,(hBo.out _).set0 _,apI (HO5.out.alloc _) hvb,(((Two.of_below Bl5.out).alloc _).set _ _).drew,by
     have h1:=(((Two.of_below (b:=b) (r:=v.ownBlock) Bl5.out).alloc (.cells #[.int .u8 (Y.toNat:Int)] 5)).set 0 (.string (F++one Y))).drew.size
     exact Nat.le_trans hbase h1⟩
   obtain⟨W,hW,hWb,hWo,hWt,hWs⟩:=hW;have HWb:=qz hWb;have HWo:=qz hWo;have HWt:=qz hWt;have HHW:=qz hW;clear hW hWb hWo hWt hvb
   go_region
   rw[<-HHW.out];have cW:=HWb.out.c0;clear fz cz c0 f0 hcv hcvd;go_wp2_with fail
   go_region_held3 (fun w'=>True) (trivial)
    ((first
    | (go_at_call 77;(with_reducible refine(HR'.out _).mono ?_);rintro e w6 ⟨rfl,b6⟩;have B6:=qz b6;clear b6)
    | (go_at_call 192;(refine(HG'.out v _ (LvAt.below (w:=W.drew) HWb.out B6.out) (aaY (w:=W.drew) HWo.out B6.out) (Nat.le_trans hWs B6.out.size)).mono ?_);rintro e w7 ⟨rfl,v7,hb7,ho7,t7,a7⟩;have HB7:=qz hb7;have HO7:=qz ho7;have T7:=qz t7;have A7:=qz a7;clear hb7 ho7 t7 a7)
    | fail))
   go_wp2_with fail;go_end0;have t6:Two b v.ownBlock W w6:=Two.of_below (u:=W) ⟨B6.out.os,B6.out.tape,B6.out.output,B6.out.size,B6.out.block⟩;refine⟨rfl,v7,HB7.out,HO7.out,(HWt.out.trans t6 (.inl rfl)).trans T7.out (.inl rfl),?_⟩;rcases A7.out with h|⟨m,h,hm⟩
   ·exact .inl h
   ·exact .inr ⟨m,h,by have h1:=HWt.out.size;have h2:=t6.size;omega⟩
end Go.Proofs.YtihmcgcgjmbmhaaGreat.T1
