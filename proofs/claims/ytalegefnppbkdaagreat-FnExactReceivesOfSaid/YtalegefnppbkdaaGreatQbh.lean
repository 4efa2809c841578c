/- Texts of the proof. No conditions. -/
import Derived.Test.YtalegefnppbkdaaGreatQbd
import Derived.Test.YtalegefnppbkdaaGreatQbg
import Derived.Deep.AppendLies
namespace Go.Proofs.YtalegefnppbkdaaGreat.T1
open Go.Proofs.Tryz
set_option maxHeartbeats 8000000
open Go.RowKit
set_option maxRecDepth 100000
set_option linter.unusedVariables false
set_option linter.unusedSimpArgs false
def RowT (xs:List ByteArray)(w:World)(e:Ending)(w':World):Prop:=
 ((xs=[]/\e=.returned (.slice none 0 0))\/∃g cap,xs≠[]/\e=.returned (.slice (some ⟨g,0,none⟩) xs.length cap)/\w'.ownsRow w.heap.size 9 1 (.slice (some ⟨g,0,none⟩) xs.length cap) xs.length (xs.map Value.string))/\Zb w w'
def RowN (xs:List ByteArray)(w:World)(e:Ending)(w':World):Prop:=
 ∃g cap,e=.returned (.slice (some ⟨g,0,none⟩) xs.length cap)/\w'.ownsRow w.heap.size 9 1 (.slice (some ⟨g,0,none⟩) xs.length cap) xs.length (xs.map Value.string)/\Zb w w'
theorem RowT.some_ {xs:List ByteArray}{w:World}{e:Ending}{w':World}(h:RowT xs w e w')(hx:xs≠[]):RowN xs w e w':=by
 rcases h with⟨⟨h,_⟩|⟨g,cap,_,h1,h2⟩,h3⟩
 ·exact absurd h hx
 ·exact⟨g,cap,h1,h2,h3⟩
theorem RowN.row {xs:List ByteArray}{w:World}{e:Ending}{w':World}(h:RowN xs w e w')(hx:xs≠[]):RowT xs w e w':=by
 obtain⟨g,cap,h1,h2,h3⟩:=h;exact⟨.inr ⟨g,cap,hx,h1,h2⟩,h3⟩
theorem akj {w:World}{base base' size:Nat}{e:TypeId}{v:Value}{n:Nat}{xs:List Value}(h:w.ownsRow base e size v n xs)(hb:base'<=base):w.ownsRow base' e size v n xs:=by
 refine⟨h.1,h.2.imp id ?_⟩;rintro⟨g,cap,cur,h1,h2,h3⟩;exact⟨g,cap,cur,h1,by omega,h3⟩
theorem aoK (w:World)(T:TypeId)(x:Value){base:Nat}(hb:base<=w.heap.size):(w.alloc (.cells #[x] T)).ownsRow base T 1 (.slice (some ⟨w.heap.size,0,none⟩) 1 1) 1 [x]:=
 ⟨rfl,.inr ⟨w.heap.size,1,#[x],rfl,hb,heap_alloc_new w _,nl _,by unfold maxLen;omega,rfl,rfl⟩⟩
theorem ajk (xs:List ByteArray):∀u∈xs.map Value.string,u.oneCell'=true:=by
 intro u hu;obtain⟨c,_,rfl⟩:=List.mem_map.1 hu;rfl
theorem atp (s X:ByteArray)(k:Int)(hk:(k != 43)=true)(hk2:(k==43)=false)(HP:Zr 172 #[.string s] (.string X)) (HK:Ze 71 #[.string X] (.int .u8 k)) (HD:Zr 142 #[.string X] (.bool true))(w:World) : Calls prog 187 #[.string s] w (RowT [] w):=by
 have HP':=qz HP;have HK':=qz HK;have HD':=qz HD;clear HP HK HD
 go_enter func187,ntmps187
 go_wp2_with fail;refine(HP'.out _).mono ?_;rintro e w1 ⟨rfl,b1⟩;go_wp2_with fail;refine(HK'.out _).mono ?_;rintro e w' ⟨rfl,rfl⟩;go_wp2_with fail;refine(HD'.out _).mono ?_;rintro e w2 ⟨rfl,b2⟩;go_wp2_with fail;go_ret;exact⟨.inl ⟨rfl,rfl⟩,aab b1 b2 b1.size⟩
theorem avJ (s X:ByteArray)(k:Int)(hk:(k != 43)=true)(hk2:(k==43)=false)(HP:Zr 172 #[.string s] (.string X)) (HK:Ze 71 #[.string X] (.int .u8 k)) (HD:Zr 142 #[.string X] (.bool false))(w:World) : Calls prog 187 #[.string s] w (RowT [X] w):=by
 have HP':=qz HP;have HK':=qz HK;have HD':=qz HD;clear HP HK HD
 go_enter func187,ntmps187
 go_wp2_with fail;refine(HP'.out _).mono ?_;rintro e w1 ⟨rfl,b1⟩;go_wp2_with fail;refine(HK'.out _).mono ?_;rintro e w' ⟨rfl,rfl⟩;go_wp2_with fail;refine(HD'.out _).mono ?_;rintro e w2 ⟨rfl,b2⟩;have bl:=aab b1 b2 b1.size;go_wp2_with fail;go_ret;exact⟨.inr ⟨_,_,by simp,rfl,aoK _ _ _ bl.size⟩,bl.alloc bl.size _⟩
theorem avK (s X U V:ByteArray)(xs ys:List ByteArray)(hx:xs≠[])(hy:ys≠[])(hn:xs.length+ys.length<=1000) (HP:Zr 172 #[.string s] (.string X)) (HK:Ze 71 #[.string X] (.int .u8 43)) (HPt:∀w,Calls prog 72 #[.string X] w fun e w'=>∃b,e=.returned (.slice (some ⟨b,0,none⟩) 2 2)/\w.heap.size<=b/\w'.heap[b]?=some (.cells #[.string U,.string V] 9 (0,0))/\Zb w w') (HU:∀w,Calls prog 187 #[.string U] w (RowN xs w))(HV:∀w,Calls prog 187 #[.string V] w (RowN ys w))(w:World) : Calls prog 187 #[.string s] w (RowT (xs++ys) w):=by
 obtain⟨i0,hi,hz0,hz1,hz2⟩:=info_parts Tryz.infoS;have HP':=qz HP;have HK':=qz HK;have HPt':=qz HPt;have HU':=qz HU;have HV':=qz HV
 have hny:0<ys.length:=by cases ys with
  | nil=>exact absurd rfl hy
  | cons _ _=>simp
 have HX:=qz hx;clear HP HK HPt HU HV hx hy
 go_enter func187,ntmps187
 go_wp2_with fail;refine(HP'.out _).mono ?_;rintro e w1 ⟨rfl,b1⟩;go_wp2_with fail;refine(HK'.out _).mono ?_;rintro e w' ⟨rfl,rfl⟩;go_wp2_with fail;refine(HPt'.out _).mono ?_;rintro e w2 ⟨b,rfl,hb,hh,b2⟩;have bl:=aab b1 b2 b1.size;have c0:=aai hh;have c1:=aak hh;have Hh:=qz hh;clear hh hb b1 b2;go_wp2_with fail;have Bl:=qz bl;clear bl
 go_region_held3 (fun w'=>w'.cell? ⟨b,0,none⟩=some (.string U)/\w'.cell? ⟨b,1,none⟩=some (.string V)) ((first|exact⟨by assumption,by assumption⟩|exact⟨s0,s1⟩))
  ((first
  | (go_at_call 187;(with_reducible refine(HU'.out _).mono ?_);rintro e wu ⟨gu,cu,rfl,ou,bu⟩;have Ou:=qz ou;clear ou;have hu:=(bu.block b (lt_of_block Hh.out)).trans Hh.out;have d0:=aai hu;have d1:=aak hu)
  | (go_at_call 187;(with_reducible refine(HV'.out _).mono ?_);rintro e wv ⟨gv,cv,rfl,ov,bv⟩;have Ov:=qz ov;clear ov;have hv:=(bv.block b (lt_of_block hu)).trans hu;have q0:=aai hv;have q1:=aak hv;have Hv:=qz hv;have NEWS:=qz (Ov.out.cells (g:=gv) rfl);have OWN:=qz (akj (base':=w.heap.size) (aaP Ou.out bv) Bl.out.size);have BLF:=qz (aab (aab Bl.out.drew bu Bl.out.size) bv (Nat.le_trans Bl.out.size bu.size)))
  | (refine step_append_lies _ (by rfl) (.tmp 18) (.tmp 22) 29 (by rfl) w.heap.size 9 i0 (.string ⟨#[]⟩) 1 16 underlying29 hi hz0 hz1 hz2 rfl (by decide) (.slice (some ⟨gu,0,none⟩) xs.length cu) xs.length (xs.map Value.string) (by rfl) OWN.out ⟨gv,0,none⟩ ys.length cv (ys.map Value.string) (by rfl) (by simp) NEWS.out (ajk ys) hny (by unfold maxLen;omega) (by omega) BLF.out.size _ rfl ?_;intro g cap w9 hown hgrow hat hlt;have hbg:b<wv.heap.size:=lt_of_block Hv.out;have hne:some b≠(Value.slice (some ⟨gu,0,none⟩) xs.length cu).ownBlock:=(fun h=>by have h1:=Ou.out.lt gu rfl;have h2:=lt_of_block Hh.out;simp[Value.ownBlock]at h;simp at h1;omega);have h9:=(hgrow.block b hbg hne).trans Hv.out;have s0:=aai h9;have s1:=aak h9)
  | fail))
 all_goals go_wp2_with fail
 all_goals go_ret
 all_goals
  refine⟨.inr ⟨g,cap,by have:=HX.out;simp[this],(by rw[lla];rfl),by rw[lla,List.map_append];exact hown⟩,BLF.out.grown hgrow BLF.out.size (fun k hk=>(OWN.out.lt k hk).1)⟩
theorem akk (n:Nat):∀t:Tm,t.size<=n->t.dead=false->Tm.sums n t≠[]:=by
 induction n with
 | zero=>intro t h;have:=aaq t;omega
 | succ n ih=>
  intro t hn hd;have hps:=(aba t).2.2.1;have hd':=ae7 t;have hpf:=ab5 t;rw[hd]at hd';unfold Tm.sums
  generalize t.peel=u at *
  cases u with
  | sum p q=>
   have:p.size+q.size+1<=t.size:=hps;intro e;exact ih p (by omega) hpf.1 (List.append_eq_nil_iff.1 e).1
  | _=>simp[hd']
theorem akl (n:Nat):∀t:Tm,(Tm.sums n t).length<=t.size:=by
 induction n with
 | zero=>intro t;simp[Tm.sums]
 | succ n ih=>
  intro t;have hps:=(aba t).2.2.1;have hpos:=aaq t;unfold Tm.sums
  generalize t.peel=u at *
  cases u with
  | sum p q=>
   have:p.size+q.size+1<=t.size:=hps;have:=ih p;have:=ih q;simp only[lla];omega
  | _=>simp only[];split<;>simp<;>omega
theorem afW (n:Nat):∀t:Tm,t.size<=n->t.ok nmE=true->t.pr.length<=700->∀w,Calls prog 187 #[.string (S t)] w (RowT ((Tm.sums n t).map S) w):=by
 induction n with
 | zero=>intro t h;have:=aaq t;omega
 | succ n ih=>
  intro t hn ho hl w;have hps:=aba t;have hpf:=ab5 t;have hP:=agA t ho hl;have hou:=hps.1 nmE ho;have hlu:t.peel.pr.length<=700:=by omega
  have hK:=aad t.peel hou hlu;have hD:=ade t.peel.size t.peel (nl _) hou hlu;have hPt:=aaf t.peel hou hlu
  have hone:(∀p q,t.peel≠.sum p q)->(((t.peel.kind.toNat:Nat):Int) != 43)=true/\(((t.peel.kind.toNat:Nat):Int)==43)=false:=by
   intro h
   cases hu:t.peel with
   | sum p q=>exact absurd hu (h p q)
   | _=>exact⟨rfl,rfl⟩
  by_cases hs:∃p q,t.peel=.sum p q
  ·obtain⟨p,q,hu⟩:=hs;rw[hu]at hpf hK hPt hou hlu hps;have hsz:p.size+q.size+1<=t.size:=hps.2.2.1;have hoo:p.ok nmE=true/\q.ok nmE=true:=by simpa only[Tm.ok,bae] using hou
   have hll:p.pr.length+q.pr.length<=700:=by simp only[Tm.pr,List.length_cons,lla]at hlu;omega
   have e:(Tm.sums (n+1) t).map S=(Tm.sums n p).map S++(Tm.sums n q).map S:=by
    rw[<-List.map_append];congr 1
    conv=>lhs;unfold Tm.sums
    rw[hu]
   rw[e];have h1:=akk n p (by omega) hpf.1;have h2:=akk n q (by omega) hpf.2;have l1:=akl n p;have l2:=akl n q;have z1:=aaO p;have z2:=aaO q;refine avK (S t) (S (.sum p q)) (S p) (S q) _ _ (by simpa using h1) (by simpa using h2) (by simp only[List.length_map];omega) (by rw[hu]at hP;exact hP) hK ?_ (fun w=>(ih p (by omega) hoo.1 (by omega) w).mono fun _ _ h=>h.some_ (by simpa using h1)) (fun w=>(ih q (by omega) hoo.2 (by omega) w).mono fun _ _ h=>h.some_ (by simpa using h2)) w;exact hPt
  ·have hs':∀p q,t.peel≠.sum p q:=fun p q e=>hs ⟨p,q,e⟩;obtain⟨k1,k2⟩:=hone hs'
   have e:(Tm.sums (n+1) t).map S=if t.peel.dead then [] else [S t.peel]:=by
    conv=>lhs;unfold Tm.sums
    cases hu:t.peel with
    | sum p q=>exact absurd hu (hs' p q)
    | _=>simp only[];split<;>rfl
   rw[e]
   cases hd:t.peel.dead with
   | true=>rw[if_pos rfl];rw[hd]at hD;exact atp _ _ _ k1 k2 hP hK hD w
   | false=>rw[if_neg (by simp)];rw[hd]at hD;exact avJ _ _ _ k1 k2 hP hK hD w
theorem abw {w:World}{base n cap g:Nat}{xs:List Value}(h:w.ownsRow base 9 1 (.slice (some ⟨g,0,none⟩) n cap) n xs):∃C,w.heap[g]?=some (.cells C 9 (0,0))/\(∀j (hj:j<xs.length),C[j]?=some xs[j])/\base<=g:=by
 obtain⟨h1,h2⟩:=h;rcases h2 with⟨h2,_⟩|⟨g',cap',cur,h2,hb,hg,_,_,hc,ht⟩
 ·cases h2
 ·cases h2;refine⟨cur,hg,fun j hj=>?_,hb⟩;have e:(cur.toList.take (n * 1))[j]?=some xs[j]:=by rw[ht];exact List.getElem?_eq_getElem hj
  rw[List.getElem?_take]at e
  split at e
  ·simpa using e
  ·cases e
def aiy (s:ByteArray)(F:Nat->List ByteArray)(k:Nat):List ByteArray:=(List.range k).flatMap fun i=>(F i).map fun r=>s.extract i (i+1)++r
theorem aiz (s:ByteArray)(F:Nat->List ByteArray)(k:Nat):aiy s F (k+1)=aiy s F k++(F k).map fun r=>s.extract k (k+1)++r:=by
 unfold aiy;rw[List.range_succ,List.flatMap_append];simp
theorem aqO (s:ByteArray)(F:Nat->List ByteArray)(k:Nat)(h:∀i,i<k->(F i).length<=200):(aiy s F k).length<=k * 200:=by
 induction k with
 | zero=>simp[aiy]
 | succ k ih=>
  rw[aiz,lla,List.length_map];have:=ih fun i hi=>h i (by omega);have:=h k (by omega);omega
theorem arX (w:World):Calls prog 139 #[.string ⟨#[]⟩] w (RowN [⟨#[]⟩] w):=by
 go_enter func139,ntmps139
 go_wp2_with fail;go_ret;exact⟨_,_,rfl,aoK _ _ _ (nl _),bra⟩
theorem atq (s:ByteArray)(F:Nat->List ByteArray)(hs:s.size<=10)(h0:0<s.size)(hne:s.toList.isEmpty=false)(hF:∀i,i<s.size->(F i).length<=200)(hz:∀i,i<s.size->∀r∈F i,r.size<=100) (H:∀i,i<s.size->∀w,Calls prog 139 #[.string (s.extract 0 i++s.extract (i+1) s.size)] w (RowN (F i) w))(w:World) : Calls prog 139 #[.string s] w fun e w'=>∃v,e=.returned v/\w'.ownsRow w.heap.size 9 1 v (aiy s F s.size).length ((aiy s F s.size).map Value.string)/\Zb w w':=by
 obtain⟨i0,hi,hz0,hz1,hz2⟩:=info_parts Tryz.infoS;have HH:=qz H;have HF:=qz hF;have HZ:=qz hz;obtain⟨cap0,W0,hcv,bW,hr⟩:=aaz s _ s.size rfl (by simp) w;have BW:=qz bW;clear H hF hz hr bW
 go_enter func139,ntmps139
 go_wp2_with fail
 go_loopw [3,13] (fun v c wr=>∃k:Nat,k<=s.size/\c=.int .i64 (k:Int)/\Hid (wr.ownsRow w.heap.size 9 1 v (aiy s F k).length ((aiy s F k).map Value.string))/\Zb w wr) (fun _ c _=>s.size - (intOf c).toNat)
 case atStart=>exact⟨0,Nat.zero_le _,rfl,World.ownsRow_nil _ _ _ _,BW.out⟩
 case round=>
  obtain⟨k,hk,rfl,hown,hbw⟩:=hrel
  by_cases hlt:k<s.size
  ·have HC:=qz (HH.out k hlt);have hll:=aqO s F k fun i hi=>HF.out i (by omega);have hfl:=HF.out k hlt;have hzk:=qz (HZ.out k hlt);have hw1:IntKind.i64.wrap ((k:Int)+1)=(k:Int)+1:=IntWalk.i64_in _ (by omega);have Bw:=qz hbw;have q1:(0:Int)<=(k:Int)+1:=by omega
   have q2:(k:Int)+1<=(s.size:Int):=by omega
   have q3:¬9223372036854775807<k+(s.size - (k+1)):=by omega
   clear hbw;go_wp2_with fail
   go_region_held3 (fun w'=>True) (trivial)
    ((first
    | (go_at_call 139;(with_reducible refine(HC.out _).mono ?_);rintro e w2 ⟨g,cap,rfl,ow,bw⟩;have Ow:=qz ow;have Bw2:=qz bw;clear ow bw)
    | fail))
   obtain⟨C,hC0,hC1,hCb⟩:=abw Ow.out;have HC0:=qz hC0;have HC1:=qz hC1
   have hne0:Hid (u3.ownBlock≠some g):=fun h=>by
    have:=(hown.out.lt g h).2;have hx:wr.heap.size<=g:=hCb;omega
   have hown2:Hid (w2.ownsRow w.heap.size 9 1 u3 (aiy s F k).length ((aiy s F k).map Value.string)):=aaP (w:=wr.drew) hown.out Bw2.out;have bl2:Zb w w2:=aab Bw.out.drew Bw2.out Bw.out.size;obtain⟨L,hL⟩:∃L,L=F k:=⟨_,rfl⟩;have HL:=qz hL;obtain⟨A,hA⟩:∃A,A=s.extract k (k+1):=⟨_,rfl⟩;have HA:=qz hA;have hAs:A.size<=10:=by rw[hA,ByteArray.size_extract];omega
   have hLl:L.length<=200:=by rw[hL];exact hfl
   have hLz:Hid (∀r∈L,r.size<=100):=by rw[hL];exact hzk.out
   rw[<-hL]at hC1 HC1 ⊢;obtain⟨O,hO⟩:∃O,O=aiy s F k:=⟨_,rfl⟩;have HO:=qz hO;rw[<-hO]at hown2 hll;clear hL hA hC0 hC1 hCb hfl hzk HC Ow Bw2 hown hO;go_wp2_with fail
   go_loopw [3,26] (fun v c wr2=>∃j:Nat,j<=L.length/\c=.int .i64 (j:Int)/\Hid (wr2.ownsRow w.heap.size 9 1 v (O.length+j) ((O++(L.take j).map fun r=>A++r).map Value.string))/\Hid (wr2.heap[g]?=some (.cells C 9 (0,0)))/\Hid (v.ownBlock≠some g)/\Zb w wr2) (fun _ c _=>L.length - (intOf c).toNat)
   case atStart=>exact⟨0,Nat.zero_le _,rfl,by simpa [Hid] using hown2.out,HC0,hne0,bl2⟩
   case round=>
    obtain⟨j,hj,rfl,hown,hg,hng,hbw⟩:=hrel
    by_cases hlt2:j<L.length
    ·obtain⟨r,hr⟩:∃r,r=L[j]:=⟨_,rfl⟩
     have c1:wr.cell? ⟨g,j,none⟩=some (.string r):=by
      rw[cell_of_row wr g _ C _ _ hg.out,hr];have:=HC1.out j (by simpa using hlt2);simpa using this
     have hrs:r.size<=100:=by rw[hr];exact hLz.out _ (List.getElem_mem _)
     have HR:=qz hr;have hgl:=lt_of_block hg.out;have hsz:=hbw.size;clear hr
     go_wp2_with (at_builtin;refine wpList_append_own_at _ rfl (.tmp 30) (.tmp 38) 29 rfl w.heap.size 9 i0 (.string ⟨#[]⟩) 1 16 underlying29 hi hz0 hz1 hz2 rfl (by decide) _ _ _ rfl (hown.out.alloc _) ⟨wr.heap.size,0,none⟩ 1 1 [.string (s.extract k (k+1)++r)] rfl rfl (abp wr [.string (s.extract k (k+1)++r)] 9) (fun u hu=>by simp at hu;subst hu;rfl) ?c2 ?c3 ?c4 ?_)
     case c2=>unfold maxLen;omega
     case c3=>omega
     case c4=>simp;omega
     intro v1 w1 hown1 hgrow1 _ hat;have hbw1:Zb w w1:=Below.grown (hbw.alloc hsz _) hgrow1 (by simp;omega) (fun i hi=>(hown.out.lt i hi).1)
     have hg1:Hid (w1.heap[g]?=some (.cells C 9 (0,0))):=by
      show _=_;rw[hgrow1.block g (by simp;omega) (fun e=>hng.out e.symm)];exact(Below.heap_alloc wr _ g hgl).trans hg.out
     have hng1:Hid (v1.ownBlock≠some g):=fun e=>by
      rcases hat with h|h
      ·exact hng.out (h▸e)
      ·rw[h]at e;simp at e;omega
     have HOw:Hid (w1.ownsRow w.heap.size 9 1 v1 (O.length+(j+1)) ((O++(L.take (j+1)).map fun r=>A++r).map Value.string)):=by
      have e:(O++(L.take (j+1)).map fun r=>A++r).map Value.string=List.map Value.string O++(List.take j (List.map (Value.string∘fun r=>A++r) L)++[.string (s.extract k (k+1)++r)]):=by
       rw[List.take_succ_eq_append_getElem hlt2,<-HR.out,<-HA.out];simp[List.map_take]
      show World.ownsRow _ _ _ _ _ _ _;rw[e];exact hown1
     clear hown1 hgrow1 hat hg hng hown;go_wp2_with fail
     go_roundw
     case rel=>exact⟨j+1,by omega,by push_cast;rfl,HOw,hg1,hng1,hbw1⟩
     case measure=>simp[intOf];omega
    ·obtain rfl:j=L.length:=by omega
     have hfin:Hid (wr.ownsRow w.heap.size 9 1 u3 (aiy s F (k+1)).length ((aiy s F (k+1)).map Value.string)):=by
      show World.ownsRow _ _ _ _ _ _ _;have:=hown.out;rw[List.take_length]at this
      rw[aiz,<-HO.out,<-HL.out,<-HA.out,lla,List.length_map];exact this
     clear hown hg hng;go_wp2_with fail
     go_roundw
     case rel=>exact⟨k+1,by omega,by push_cast;rfl,hfin,hbw⟩
     case measure=>simp[intOf];omega
  ·obtain rfl:k=s.size:=by omega
   go_wp2_with fail;go_ret;exact⟨_,rfl,hown.out,hbw⟩
theorem abD {w:World}{base n:Nat}{v:Value}{xs:List Value}(h:w.ownsRow base 9 1 v n xs)(hn:0<n):∃g cap,v=.slice (some ⟨g,0,none⟩) n cap:=by
 rcases h.2 with⟨_,h⟩|⟨g,cap,cur,h,_⟩
 ·omega
 ·exact⟨g,cap,h⟩
def fct:Nat->Nat
 | 0=>1
 | n+1=>(n+1) * fct n
theorem aiA {α:Type}(n:Nat):ordsL n ([]:List α)=[[]]:=by cases n<;>rfl
theorem agB {α:Type}(n:Nat)(l:List α)(h:l≠[]):ordsL (n+1) l=(List.range l.length).flatMap fun i=>(ordsL n (l.eraseIdx i)).map fun r=>(l.drop i).take 1++r:=by
 have:l.isEmpty=false:=by simpa using h
 conv=>lhs;unfold ordsL
 rw[this];rfl
theorem aqP {α β:Type}(l:List α)(f:α->List β)(m:Nat)(h:∀a∈l,(f a).length<=m):(l.flatMap f).length<=l.length * m:=by
 induction l with
 | nil=>simp
 | cons a l ih=>
  simp only[List.flatMap_cons,lla,List.length_cons];have:=ih fun b hb=>h b (by simp[hb]);have:=h a (by simp);rw[Nat.succ_mul];omega
theorem ab9 {α:Type}(n:Nat):∀(l:List α),l.length<=n->(ordsL n l).length<=fct l.length/\ordsL n l≠[]/\∀r∈ordsL n l,r.length<=l.length:=by
 induction n with
 | zero=>
  intro l h;have:l=[]:=List.length_eq_zero_iff.1 (by omega);subst this
  exact⟨by simp[ordsL,fct],by simp[ordsL],fun r hr=>by simp only[ordsL,List.mem_singleton]at hr;rw[hr];simp⟩
 | succ n ih=>
  intro l h
  by_cases he:l=[]
  ·subst he;rw[aiA];exact⟨by simp[fct],by simp,fun r hr=>by simp only[List.mem_singleton]at hr;rw[hr];simp⟩
  ·have hpos:0<l.length:=List.length_pos_iff.2 he;have hel:∀i,i<l.length->(l.eraseIdx i).length=l.length - 1:=fun i hi=>List.length_eraseIdx_of_lt hi;rw[agB n l he];refine⟨?_,?_,fun r hr=>?_⟩
   ·refine Nat.le_trans (aqP _ _ (fct (l.length - 1)) fun i hi=>?_) ?_
    ·rw[List.length_map];have hi':=List.mem_range.1 hi;have:=(ih (l.eraseIdx i) (by rw[hel i hi'];omega)).1;rw[hel i hi']at this
     exact this
    ·rw[List.length_range];obtain⟨m,hm⟩:∃m,l.length=m+1:=⟨l.length - 1,by omega⟩;rw[hm];exact nl _
   ·intro e;rw[List.flatMap_eq_nil_iff]at e;have:=e 0 (List.mem_range.2 hpos);rw[List.map_eq_nil_iff]at this
    exact(ih (l.eraseIdx 0) (by rw[hel 0 hpos];omega)).2.1 this
   ·obtain⟨i,hi,hr⟩:=List.mem_flatMap.1 hr;obtain⟨r',hr',rfl⟩:=List.mem_map.1 hr;have hi':=List.mem_range.1 hi;have:=(ih (l.eraseIdx i) (by rw[hel i hi'];omega)).2.2 r' hr';rw[hel i hi']at this
    rw[lla,List.length_take];omega
theorem aoL (l:List UInt8)(i j:Nat):(B l).extract i j=B ((l.drop i).take (j - i)):=by
 apply apw
 rw[ByteArray.data_extract,Array.toList_extract,aaE,List.extract_eq_take_drop]
theorem aqQ (l m:List UInt8):B l++B m=B (l++m):=by apply apw;simp[B]
theorem aiB (n:Nat):∀(l:List UInt8),l.length<=n->l.length<=5->∀w,Calls prog 139 #[.string (B l)] w (RowN ((ordsL n l).map B) w):=by
 induction n with
 | zero=>
  intro l h _ w;have:l=[]:=List.length_eq_zero_iff.1 (by omega);subst this
  exact arX w
 | succ n ih=>
  intro l h h5 w
  by_cases he:l=[]
  ·subst he;rw[aiA];exact arX w
  ·have hpos:0<l.length:=List.length_pos_iff.2 he;have hel:∀i,i<l.length->(l.eraseIdx i).length=l.length - 1:=fun i hi=>List.length_eraseIdx_of_lt hi;have hsz:(B l).size=l.length:=aaR l;have hf4:∀k,k<=4->fct k<=24:=by decide
   have hF:∀i,i<(B l).size->((ordsL n (l.eraseIdx i)).map B).length<=200:=fun i hi=>by
    rw[hsz]at hi;have:=(ab9 n (l.eraseIdx i) (by rw[hel i hi];omega)).1;rw[hel i hi]at this
    have:=hf4 (l.length - 1) (by omega);rw[List.length_map];omega
   have e:(ordsL (n+1) l).map B=aiy (B l) (fun i=>(ordsL n (l.eraseIdx i)).map B) (B l).size:=by
    rw[agB n l he,hsz];unfold aiy;rw[List.map_flatMap];congr 1
    funext i
    rw[List.map_map,List.map_map];congr 1
    funext r
    simp only[Function.comp];rw[aoL,aqQ];congr 2;rw[Nat.add_sub_cancel_left]
   rw[e];refine(atq (B l) (fun i=>(ordsL n (l.eraseIdx i)).map B) (by omega) (by omega) ?_ hF (fun i hi r hr=>?_) (fun i hi w=>?_) w).mono fun e' w' h=>?_
   ·cases l with
    | nil=>exact absurd rfl he
    | cons a l=>simp[B,ByteArray.toList_eq]
   ·obtain⟨r',hr',rfl⟩:=List.mem_map.1 hr;rw[hsz]at hi;have:=(ab9 n (l.eraseIdx i) (by rw[hel i hi];omega)).2.2 r' hr';rw[hel i hi]at this
    rw[aaR];omega
   ·rw[hsz]at hi ⊢;rw[aoL,aoL,aqQ]
    have e2:(l.drop 0).take (i - 0)++(l.drop (i+1)).take (l.length - (i+1))=l.eraseIdx i:=by
     have e3:(l.drop (i+1)).take (l.length - (i+1))=l.drop (i+1):=List.take_of_length_le (by rw[List.length_drop];omega);rw[List.eraseIdx_eq_take_drop_succ,List.drop_zero,Nat.sub_zero,e3]
    rw[e2];exact ih (l.eraseIdx i) (by rw[hel i hi];omega) (by rw[hel i hi];omega) w
   ·obtain⟨v,h1,h2,h3⟩:=h
    have hne:0<(aiy (B l) (fun i=>(ordsL n (l.eraseIdx i)).map B) (B l).size).length:=by
     rw[<-e,List.length_map];exact List.length_pos_iff.2 (ab9 (n+1) l h).2.1
    obtain⟨g,cap,rfl⟩:=abD h2 hne;exact⟨g,cap,h1,h2,h3⟩
end Go.Proofs.YtalegefnppbkdaaGreat.T1
