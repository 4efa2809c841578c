/- Texts of the proof. No conditions. -/
import Derived.Test.YtihmcgcgjmbmhaaGreatQbe
import Derived.DeepKeys4
namespace Go.Proofs.YtihmcgcgjmbmhaaGreat.T1
open Go.Proofs.Tryz
set_option maxHeartbeats 4000000
open Go.RowKit Go.Maps
set_option maxRecDepth 100000
set_option linter.unusedVariables false
set_option linter.unusedSimpArgs false
theorem MapG.ne_own {P:Program}{k:TypeId}{w:World}{m:Nat}{X:List (Value × Value)}(h:MapG P k w m X){base n sz:Nat}{e:TypeId}{v:Value}{xs:List Value}(ho:w.ownsRow base e sz v n xs):v.ownBlock≠some m:=by
 intro hv;obtain⟨es,cl,hb,_⟩:=h;rcases ho.2 with⟨h1,_⟩|⟨g,cap,cur,h1,_,h3,_⟩
 ·rw[h1]at hv;cases hv
 ·rw[h1]at hv;cases hv;rw[hb]at h3;cases h3
theorem afh {w w':World}{base n m:Nat}{e:TypeId}{v:Value}{xs:List Value}(h:w.ownsRow base e 1 v n xs)(k:Only m w w')(hm:v.ownBlock≠some m):w'.ownsRow base e 1 v n xs:=
 adZ h fun g hg=>k.block g (h.lt g hg).2 (fun e=>hm (by rw[hg,e]))
theorem Only.cell2 {m:Nat}{w w':World}(h:Only m w w'){b o:Nat}{x:Value}(hc:w.cell? ⟨b,o,none⟩=some x)(hm:b≠m):w'.cell? ⟨b,o,none⟩=some x:=by
 have hl:=World.block_lt_of_cell? w _ hc;unfold World.cell? at hc ⊢;rw[h.block b hl hm];exact hc
theorem Only.of_below {m:Nat}{w w':World}(b:Zb w w'):Only m w w':=(Only.refl m w).below b
structure AdC (fr:List UInt8) (n:Int) (len:Nat):Prop where
 who:∀(Bk:List Tm),Bk.length=len->∀base v w,w.ownsRow base 41 1 v Bk.length (Bk.map enc)->Calls prog 104 #[.agg #[.int .u32 n,v]] w fun e w'=>e=.returned (.iface (aau (tP fr Bk)) (pay (tP fr Bk)))/\Zb w w'
abbrev ayo (t:Tm):Prop:=∀(L:List Tm) (m:Nat) (w:World),okAll L->MapG prog 9 w m (L.map entS)->Calls prog 102 #[.map (some m),.iface (aau t) (pay t)] w fun e w'=>e=.returned (.bool (nfI t).isSome)/\MapG prog 9 w' m ((akV L (nfI t)).map entS)/\Only m w w'
def axX (xs L:List Tm)(m:Nat)(w:World)(e:Ending)(w':World):Prop:=
 ((e=.returned (.bool true)/\(∀t∈xs,nfI t≠none)/\MapG prog 9 w' m ((insAll L xs).map entS))\/(e=.returned (.bool false)/\∃t∈xs,nfI t=none))/\Only m w w'
theorem ajT (fr:List UInt8)(n:Int)(us:List Tm)(hu:us.length<=300)(i:Nat)(hi:i<us.length)(C:AdC fr n us.length) (hol:(offT us[i]).length<=300)(HO0:∀w,Calls prog 101 #[.iface (aau us[i]) (pay us[i])] w (ag2 ((offT us[i]).map enc) w)) (HA0:∀t∈(offT us[i]).filterMap (tauP fr us i),ayo t/\∀r,nfI t=some r->r.ok nmL=true)(L:List Tm)(hL:okAll L)(m:Nat)(p:Option Addr)(c base:Nat)(w:World)(hM:MapG prog 9 w m (L.map entS))(ho:w.ownsRow base 41 1 (.slice p us.length c) us.length (us.map enc)) : Calls prog 64 #[.map (some m),.agg #[.int .u32 n,.slice p us.length c],.int .i64 (i:Int)] w (axX ((offT us[i]).filterMap (tauP fr us i)) L m w):=by
 have HO:=qz HO0;have HA:=qz HA0;have HW:=qz C.who;have HL:=qz hL;have hml:=hM.lt;obtain⟨g,hp,hg1,hg2,hg3,hcells⟩:=abQ ho (by omega);subst hp;have hgm:g≠m:=fun e=>hM.ne_own ho (by rw[<-e];rfl);have HM:=qz hM;have HR:=qz ho;obtain⟨T,hT⟩:∃T,T=us[i]:=⟨_,rfl⟩;have c0:w.cell? ⟨g,i,none⟩=some (.iface (aau T) (pay T)):=hcells i (enc T) (by rw[hT,List.getElem?_map,List.getElem?_eq_getElem hi];rfl);rw[<-hT]at HO HA hol ⊢;obtain⟨xs,hxs⟩:∃xs,xs=(offT T).filterMap (tauP fr us i):=⟨_,rfl⟩;have HXS:=qz hxs;rw[<-hxs]at HA ⊢;obtain⟨TT,hTT⟩:∃TT,TT=aau T:=⟨_,rfl⟩;obtain⟨TV,hTV⟩:∃TV,TV=pay T:=⟨_,rfl⟩;rw[<-hTT,<-hTV]at HO c0;clear HO0 HA0 C hL hM ho hT hcells hxs hTT hTV
 go_enter func64,ntmps64
 go_wp2_with fail;with_reducible refine(HO.out _).mono ?_
 rintro e w2 ⟨g2,c2,rfl,o2,b2⟩;rw[List.length_map]at o2 ⊢;have O2:=qz o2;have hz2:=b2.size;have hz0:w.heap.size+1<=w2.heap.size:=by simpa using hz2
 have hbx:w2.heap[w.heap.size]?=some (.cells #[.int .u32 n,.slice (some ⟨g,0,none⟩) us.length c] 81 (0,0)):=(b2.block w.heap.size (by simp)).trans (heap_alloc_new _ _);have BX:=qz hbx;have B2:=qz (aab ((Below.refl w.heap.size w).alloc (nl _) _) b2 (by simp));have HM2:=qz (HM.out.below HM.out.lt B2.out);have HR2:=qz (aan HR.out B2.out);have hg2m:g2≠m:=fun e=>HM2.out.ne_own o2 (by rw[<-e];rfl);clear o2 b2 hbx c0 HM HR;go_wp2_with fail
 go_loopg [18] (offT T).length (fun gk s18 wr=>(∃k:Nat,s18=.int .i64 (k:Int)/\k+gk=(offT T).length/\Hid (∀t∈((offT T).take k).filterMap (tauP fr us i),nfI t≠none)/\Hid (okAll (insAll L (((offT T).take k).filterMap (tauP fr us i))))/\Hid (MapG prog 9 wr m ((insAll L (((offT T).take k).filterMap (tauP fr us i))).map entS)))/\Hid (Only m w2 wr))
 case atStart=>exact⟨⟨0,by congr 1,by omega,fun t ht=>by simp at ht,HL.out,HM2⟩,Only.refl m w2⟩
 case round=>
  obtain⟨⟨k,rfl,hkk,hall,hok,hmp⟩,hon⟩:=hrel;have hsz:=hon.out.size
  by_cases hlt:(k:Int)<((offT T).length:Int)
  ·have hkt:k<(offT T).length:=by omega
   obtain⟨g',hp,hh1,hh2,hh3,hcells⟩:=abQ O2.out (by omega);cases hp;obtain⟨q,hq⟩:∃q,q=(offT T)[k]:=⟨_,rfl⟩;have c1:wr.cell? ⟨g2,k,none⟩=some (.iface (aau q) (pay q)):=hon.out.cell2 (hcells k (enc q) (by rw[hq,List.getElem?_map,List.getElem?_eq_getElem hkt];rfl)) hg2m;have hbx:=(hon.out.block w.heap.size (by omega) (by omega)).trans BX.out;have x0:=aaf hbx;have x1:=aak hbx;have x0a:=fun ob=>abf x0 ob;have x1a:=fun ob=>abf x1 ob;have HNx:=qz (akU (tauP fr us i) (offT T) k hkt);have HQm:Hid (q∈offT T):=hq▸List.getElem_mem hkt;rw[<-hq]at HNx;obtain⟨X,hX⟩:∃X,X=((offT T).take k).filterMap (tauP fr us i):=⟨_,rfl⟩;rw[<-hX]at hall hok hmp HNx;clear hcells hq hX hbx
   by_cases hr:∃p,q=.tau p
   ·obtain⟨p,rfl⟩:=hr;have c1':wr.cell? ⟨g2,k,none⟩=some (.iface 143 (.agg #[.iface (aau p) (pay p)])):=c1;clear c1;have hre:tauP fr us i (.tau p)=some (tP fr (us.set i p)):=rfl;have htm:tP fr (us.set i p)∈xs:=by rw[HXS.out];exact List.mem_filterMap.2 ⟨_,HQm.out,hre⟩
    obtain⟨HAt,hAr⟩:=HA.out _ htm;rw[hre]at HNx;have HRw:=qz (afh HR2.out hon.out (fun e=>hgm (Option.some.inj e)));have HWt:=qz (HW.out (us.set i p) (by simp));have HTM:Hid (tP fr (us.set i p)∈xs):=htm;obtain⟨t,ht⟩:∃t,t=tP fr (us.set i p):=⟨_,rfl⟩;rw[<-ht]at HWt HAt hAr HNx HTM;have HAT:=qz HAt;have HAR:=qz hAr;have HWi:=qz (fun (w:World) (h:w.ownsRow base 41 1 (.slice (some ⟨g,0,none⟩) us.length c) us.length (us.map enc))=>afX n us (by omega) i hi p _ _ _ w h);obtain⟨TP,hTP⟩:∃TP,TP=aau p:=⟨_,rfl⟩;obtain⟨VP,hVP⟩:∃VP,VP=pay p:=⟨_,rfl⟩;rw[<-hTP,<-hVP]at HWi c1';clear hre htm HAt hAr ht hTP hVP;go_wp2_with fail;with_reducible refine(HWi.out _ (aan HRw.out (bra))).mono ?_
    rintro e w3 ⟨v3,rfl,o3,b3⟩;have B3:=qz (aab ((Below.refl wr.heap.size wr).alloc (nl _) _) b3 (by simp));rw[show us.length=(us.set i p).length by simp]at o3;have O3:=qz o3;clear o3 b3;go_wp2_with fail;with_reducible refine(HWt.out _ _ _ O3.out).mono ?_
    rintro e w4 ⟨rfl,b4⟩;have B4:=qz (aab B3.out b4 B3.out.size);clear b4;have HMx:=qz (hmp.out.below hmp.out.lt B4.out);go_wp2_with fail;with_reducible refine(HAT.out _ _ _ hok.out HMx.out).mono ?_
    rintro e w5 ⟨rfl,m5,n5⟩;have M5:=qz m5;have N5:=qz (hon.out.trans (((Only.refl m wr).below B4.out).trans n5));clear m5 n5 hmp
    cases hn:nfI t with
    | none=>
     have HN:=qz hn;clear hn;go_wp2_with fail;go_ret;exact⟨.inr ⟨rfl,t,HTM.out,HN.out⟩,((Only.refl m w).below B2.out).trans N5.out⟩
    | some r=>
     have HN:=qz hn;rw[hn]at M5
     have hall2:Hid (∀t∈((offT T).take (k+1)).filterMap (tauP fr us i),nfI t≠none):=fun s hs=>by
      rw[HNx.out]at hs;rcases lma.1 hs with h|h
      ·exact hall.out s h
      ·simp at h;rw[h,HN.out];simp
     have hins:insAll L (((offT T).take (k+1)).filterMap (tauP fr us i))=akV (insAll L X) (some r):=by
      rw[HNx.out,acz];show akV _ (nfI t)=_;rw[HN.out]
     have hok2:Hid (okAll (insAll L (((offT T).take (k+1)).filterMap (tauP fr us i)))):=by
      rw[hins];exact aiY hok.out fun s e=>HAR.out s (HN.out.trans e)
     rw[<-hins]at M5;clear hn hins;go_wp2_with fail
     go_roundg (gk - 1)
     case rel=>exact⟨⟨k+1,by congr 1,by omega,hall2,hok2,M5⟩,N5⟩
     case measure=>omega
   ·have hre:tauP fr us i q=none:=by
     cases q<;>first|rfl|exact absurd ⟨_,rfl⟩ hr
    have hta:=aur q (fun p e=>hr ⟨p,e⟩);rw[hre,Option.toList_none,List.append_nil]at HNx;rw[<-HNx.out]at hall hok hmp;obtain⟨TQ,hTQ⟩:∃TQ,TQ=aau q:=⟨_,rfl⟩;obtain⟨VQ,hVQ⟩:∃VQ,VQ=pay q:=⟨_,rfl⟩;rw[<-hTQ,<-hVQ]at c1 hta;clear hre hr hTQ hVQ;go_wp2_with fail;clear c1
    go_roundg (gk - 1)
    case rel=>exact⟨⟨k+1,by congr 1,by omega,hall,hok,hmp.out.alloc _⟩,hon.out.below (bra)⟩
    case measure=>omega
  ·obtain rfl:k=(offT T).length:=by omega
   rw[List.take_of_length_le (nl _),<-HXS.out]at hall hmp;go_wp2_with fail;go_ret;exact⟨.inl ⟨rfl,hall.out,hmp.out⟩,((Only.refl m w).below B2.out).trans hon.out⟩
def sndQ (fr:List UInt8)(us:List Tm)(i j:Nat):Tm->List Tm
 | .snd a b p=>((offT (us.getD j .nil)).filterMap (aeK (us.getD j .nil) a b)).map fun t=>tP fr ((us.set i p).set j t)
 | _=>[]
theorem ajU (L xs:List Tm)(k:Nat)(h:k<xs.length):insAll L (xs.take (k+1))=akV (insAll L (xs.take k)) (nfI xs[k]):=by
 rw[List.take_succ_eq_append_getElem h,acz];rfl
theorem ap9 (fr:List UInt8)(n:Int)(us:List Tm)(hu:us.length<=300)(i j:Nat)(hi:i<us.length)(hj:j<us.length)(C:AdC fr n us.length) (hol:(offT us[i]).length<=300)(hol2:(offT us[j]).length<=300)(HO0:∀w,Calls prog 101 #[.iface (aau us[i]) (pay us[i])] w (ag2 ((offT us[i]).map enc) w)) (HF0:∀a b p,.snd a b p∈offT us[i]->∀w,Calls prog 105 #[.iface (aau us[j]) (pay us[j]),.int .u8 (a.toNat:Int),.int .u8 (b.toNat:Int)] w fun e w'=>∃v,e=.returned (.tuple #[v,.bool true])/\w'.ownsRow w.heap.size 41 1 v ((offT us[j]).filterMap (aeK us[j] a b)).length (((offT us[j]).filterMap (aeK us[j] a b)).map enc)/\Zb w w') (HA0:∀t∈(offT us[i]).flatMap (sndQ fr us i j),ayo t/\∀r,nfI t=some r->r.ok nmL=true)(L:List Tm)(hL:okAll L)(m:Nat)(p:Option Addr)(c base:Nat)(w:World)(hM:MapG prog 9 w m (L.map entS))(ho:w.ownsRow base 41 1 (.slice p us.length c) us.length (us.map enc)) : Calls prog 65 #[.map (some m),.agg #[.int .u32 n,.slice p us.length c],.int .i64 (i:Int),.int .i64 (j:Int)] w (axX ((offT us[i]).flatMap (sndQ fr us i j)) L m w):=by
  have HO:=qz HO0;have HA:=qz HA0;have HF:=qz HF0;have HW:=qz C.who;have HL:=qz hL;have hml:=hM.lt;obtain⟨g,hp,hg1,hg2,hg3,hcells⟩:=abQ ho (by omega);subst hp;have hgm:g≠m:=fun e=>hM.ne_own ho (by rw[<-e];rfl);have HM:=qz hM;have HR:=qz ho
  have HSq:Hid (∀a b p,sndQ fr us i j (.snd a b p)=((offT us[j]).filterMap (aeK us[j] a b)).map fun t=>tP fr ((us.set i p).set j t)):=fun a b p=>by
    have e2:us.getD j .nil=us[j]:=by rw[List.getD_eq_getElem?_getD,List.getElem?_eq_getElem hj];rfl
    unfold sndQ;rw[e2]
  obtain⟨T,hT⟩:∃T,T=us[i]:=⟨_,rfl⟩;obtain⟨U,hU⟩:∃U,U=us[j]:=⟨_,rfl⟩;have c0:w.cell? ⟨g,i,none⟩=some (.iface (aau T) (pay T)):=hcells i (enc T) (by rw[hT,List.getElem?_map,List.getElem?_eq_getElem hi];rfl);have cJ:w.cell? ⟨g,j,none⟩=some (.iface (aau U) (pay U)):=hcells j (enc U) (by rw[hU,List.getElem?_map,List.getElem?_eq_getElem hj];rfl);rw[<-hT]at HO HA HF hol ⊢;rw[<-hU]at HF HSq hol2;obtain⟨xs,hxs⟩:∃xs,xs=(offT T).flatMap (sndQ fr us i j):=⟨_,rfl⟩;have HXS:=qz hxs;rw[<-hxs]at HA ⊢;obtain⟨TT,hTT⟩:∃TT,TT=aau T:=⟨_,rfl⟩;obtain⟨TV,hTV⟩:∃TV,TV=pay T:=⟨_,rfl⟩;obtain⟨UT,hUT⟩:∃UT,UT=aau U:=⟨_,rfl⟩;obtain⟨UV,hUV⟩:∃UV,UV=pay U:=⟨_,rfl⟩;rw[<-hTT,<-hTV]at HO c0;rw[<-hUT,<-hUV]at HF cJ;clear HO0 HA0 HF0 C hL hM ho hT hU hcells hxs hTT hTV hUT hUV
  go_enter func65,ntmps65
  go_wp2_with fail;with_reducible refine(HO.out _).mono ?_
  rintro e w2 ⟨g2,c2,rfl,o2,b2⟩;rw[List.length_map]at o2 ⊢;have O2:=qz o2;have hz2:=b2.size;have hz0:w.heap.size+1<=w2.heap.size:=by simpa using hz2
  have hbx:w2.heap[w.heap.size]?=some (.cells #[.int .u32 n,.slice (some ⟨g,0,none⟩) us.length c] 81 (0,0)):=(b2.block w.heap.size (by simp)).trans (heap_alloc_new _ _);have BX:=qz hbx;have B2:=qz (aab ((Below.refl w.heap.size w).alloc (nl _) _) b2 (by simp));have HM2:=qz (HM.out.below HM.out.lt B2.out);have HR2:=qz (aan HR.out B2.out);have cJ2:Hid (w2.cell? ⟨g,j,none⟩=some (.iface UT UV)):=(B2.out.cell (p:=⟨g,j,none⟩) hg2).trans cJ;have hg2m:g2≠m:=fun e=>HM2.out.ne_own o2 (by rw[<-e];rfl);obtain⟨pB,hpB⟩:∃pB,pB=w.heap.size:=⟨_,rfl⟩;have hpBm:pB≠m:=by omega
  have hpB2:pB<w2.heap.size:=by omega
  rw[<-hpB]at BX ⊢;clear o2 b2 hbx c0 HM HR cJ hpB hz0;go_wp2_with fail
  go_loopg [23] (offT T).length (fun gk s23 wr=>(∃k:Nat,s23=.int .i64 (k:Int)/\k+gk=(offT T).length/\Hid (∀t∈((offT T).take k).flatMap (sndQ fr us i j),nfI t≠none)/\Hid (okAll (insAll L (((offT T).take k).flatMap (sndQ fr us i j))))/\Hid (MapG prog 9 wr m ((insAll L (((offT T).take k).flatMap (sndQ fr us i j))).map entS)))/\Hid (Only m w2 wr))
  case atStart=>exact⟨⟨0,by congr 1,by omega,fun t ht=>by simp at ht,HL.out,HM2⟩,Only.refl m w2⟩
  case round=>
    obtain⟨⟨k,rfl,hkk,hall,hok,hmp⟩,hon⟩:=hrel;obtain⟨GO,hGO⟩:∃G,G=gk:=⟨_,rfl⟩;have hsz:=hon.out.size
    by_cases hlt:(k:Int)<((offT T).length:Int)
    · have hkt:k<(offT T).length:=by omega
      obtain⟨g',hp,hh1,hh2,hh3,hcells⟩:=abQ O2.out (by omega);cases hp;obtain⟨q,hq⟩:∃q,q=(offT T)[k]:=⟨_,rfl⟩;have c1:wr.cell? ⟨g2,k,none⟩=some (.iface (aau q) (pay q)):=hon.out.cell2 (hcells k (enc q) (by rw[hq,List.getElem?_map,List.getElem?_eq_getElem hkt];rfl)) hg2m;have hbx:=(hon.out.block pB hpB2 hpBm).trans BX.out;have x0:=aaf hbx;have x1:=aak hbx;have HNx:=qz (aiV (offT T) k hkt (sndQ fr us i j));have HQm:Hid (q∈offT T):=hq▸List.getElem_mem hkt;rw[<-hq]at HNx;obtain⟨X,hX⟩:∃X,X=((offT T).take k).flatMap (sndQ fr us i j):=⟨_,rfl⟩;rw[<-hX]at hall hok hmp HNx;clear hcells hq hX hbx
      by_cases hr:∃a b p,q=.snd a b p
      · obtain⟨a,b,p,rfl⟩:=hr
        have c1':wr.cell? ⟨g2,k,none⟩=some (.iface 148 (.agg #[.int .u8 (a.toNat:Int),.int .u8 (b.toNat:Int),.iface (aau p) (pay p)])):=c1;clear c1;have HFx:=qz (HF.out a b p HQm.out);have hln2:((offT U).filterMap (aeK U a b)).length<=300:=Nat.le_trans (List.length_filterMap_le _ _) hol2;have hsq:=HSq.out a b p;have htm:∀t∈sndQ fr us i j (.snd a b p),t∈xs:=fun t ht=>by rw[HXS.out];exact List.mem_flatMap.2 ⟨_,HQm.out,ht⟩
        obtain⟨RL,hRL⟩:∃RL,RL=(offT U).filterMap (aeK U a b):=⟨_,rfl⟩;rw[<-hRL]at HFx hln2 hsq;obtain⟨YL,hYL⟩:∃YL,YL=RL.map fun t=>tP fr ((us.set i p).set j t):=⟨_,rfl⟩;have HYL:=qz hYL;have hYn:YL.length=RL.length:=by rw[hYL];simp
        rw[hsq,<-hYL]at HNx htm;have HTM:=qz htm;have HWi:=qz (fun (w:World) (h:w.ownsRow base 41 1 (.slice (some ⟨g,0,none⟩) us.length c) us.length (us.map enc))=>afX n us (by omega) i hi p _ _ _ w h);have HWj:=qz (fun (t:Tm) (v:Option Addr) (c b:Nat) (w:World) (h:w.ownsRow b 41 1 (.slice v (us.set i p).length c) (us.set i p).length ((us.set i p).map enc))=>afX n (us.set i p) (by simp;omega) j (by simpa using hj) t v c b w h);rw[show (us.set i p).length=us.length by simp]at HWj;have HWt:=qz (fun t=>HW.out ((us.set i p).set j t) (by simp));obtain⟨TP,hTP⟩:∃TP,TP=aau p:=⟨_,rfl⟩;obtain⟨VP,hVP⟩:∃VP,VP=pay p:=⟨_,rfl⟩;rw[<-hTP,<-hVP]at HWi c1';have x0a:=fun ob=>abf x0 ob;have x1a:=fun ob=>abf x1 ob;clear hsq htm hRL hYL hTP hVP;go_wp2_with fail;obtain⟨W1,hW1⟩:∃W1,W1=wr.alloc (.cells #[.int .u8 (a.toNat:Int),.int .u8 (b.toNat:Int),.iface TP VP] 148):=⟨_,rfl⟩;obtain⟨pS,hpS⟩:∃pS,pS=wr.heap.size:=⟨_,rfl⟩;rw[<-hW1,<-hpS];have d0:W1.cell? ⟨pS,0,none⟩=some (.int .u8 (a.toNat:Int)):=by rw[hW1,hpS];exact abh wr _ _ 0 _ rfl
        have d1:W1.cell? ⟨pS,1,none⟩=some (.int .u8 (b.toNat:Int)):=by rw[hW1,hpS];exact abh wr _ _ 1 _ rfl
        have d2:W1.cell? ⟨pS,2,none⟩=some (.iface TP VP):=by rw[hW1,hpS];exact abh wr _ _ 2 _ rfl
        have e0:W1.cell? ⟨pB,0,none⟩=some (.int .u32 n):=by rw[hW1];exact abf x0 _
        have e1:W1.cell? ⟨pB,1,none⟩=some (.slice (some ⟨g,0,none⟩) us.length c):=by rw[hW1];exact abf x1 _
        have eJ:W1.cell? ⟨g,j,none⟩=some (.iface UT UV):=by rw[hW1];exact abf (hon.out.cell2 cJ2.out hgm) _
        have B1:Hid (Zb wr W1):=by rw[hW1];exact bra
        have hmp1:=qz (hmp.out.below hmp.out.lt B1.out);have hon1:=qz (hon.out.below B1.out);have HR1:=qz (afh HR2.out hon1.out (fun e=>hgm (Option.some.inj e)));have hpSm:pS≠m:=by rw[hpS];have:=hmp.out.lt;omega
        have cd:W1.drew.cell? ⟨pB,1,none⟩=some (.slice (some ⟨g,0,none⟩) us.length c)/\W1.drew.cell? ⟨g,j,none⟩=some (.iface UT UV)/\W1.drew.cell? ⟨pS,0,none⟩=some (.int .u8 (a.toNat:Int))/\W1.drew.cell? ⟨pS,1,none⟩=some (.int .u8 (b.toNat:Int)):=⟨e1,eJ,d0,d1⟩;have hjI:(j:Int)<(us.length:Int):=by omega
        have HB1:Hid (Zb W1 W1.drew):=Below.drew (Below.refl _ _);clear hW1 hpS c1' x0 x1 x0a x1a hmp hon B1;obtain⟨f1,f2,f3,f4⟩:=cd
        go_region_held3 (fun w'=>w'.cell? ⟨pB,1,none⟩=some (.slice (some ⟨g,0,none⟩) us.length c)/\w'.cell? ⟨g,j,none⟩=some (.iface UT UV)/\w'.cell? ⟨pS,0,none⟩=some (.int .u8 (a.toNat:Int))/\w'.cell? ⟨pS,1,none⟩=some (.int .u8 (b.toNat:Int))) (first|exact⟨f1,f2,f3,f4⟩|exact y3)
          ((first
            | (go_at_call 105;(with_reducible refine(HFx.out _).mono ?_);rintro e w3 ⟨v3,rfl,o3,b3⟩
               have B3:Hid (Zb W1 w3):=qz (HB1.out.trans b3);have y3:=And.intro (b3.cell (p:=⟨pB,1,none⟩) (World.block_lt_of_cell? _ _ e1) |>.trans e1) (And.intro (b3.cell (p:=⟨g,j,none⟩) (World.block_lt_of_cell? _ _ eJ) |>.trans eJ) (And.intro (b3.cell (p:=⟨pS,0,none⟩) (World.block_lt_of_cell? _ _ d0) |>.trans d0) (b3.cell (p:=⟨pS,1,none⟩) (World.block_lt_of_cell? _ _ d1) |>.trans d1)));have O3:=qz o3
               clear o3 b3)
            | fail))
        have d2':=(B3.out.cell (p:=⟨pS,2,none⟩) (World.block_lt_of_cell? _ _ d2)).trans d2;have e0':=(B3.out.cell (p:=⟨pB,0,none⟩) (World.block_lt_of_cell? _ _ e0)).trans e0;have e1':=(B3.out.cell (p:=⟨pB,1,none⟩) (World.block_lt_of_cell? _ _ e1)).trans e1;have hmp3:=qz (hmp1.out.below hmp1.out.lt B3.out);have hon3:=qz (hon1.out.below B3.out);have HR3:=qz (aan HR1.out B3.out);obtain⟨p3,c3,rfl⟩:=aaM O3.out;clear f1 f2 f3 f4 y3 d0 d1 d2 e0 e1 eJ hmp1 hon1 HR1 HB1;go_wp2_with fail
        go_loopg [51] RL.length (fun gj s51 wr=>(∃l:Nat,s51=.int .i64 (l:Int)/\l+gj=RL.length/\Hid (∀t∈YL.take l,nfI t≠none)/\Hid (okAll (insAll (insAll L X) (YL.take l)))/\Hid (MapG prog 9 wr m ((insAll (insAll L X) (YL.take l)).map entS)))/\Hid (Only m w3 wr))
        case atStart=>exact⟨⟨0,by congr 1,by omega,fun t ht=>by simp at ht,by simpa [insAll] using hok,by simpa [insAll] using hmp3⟩,Only.refl m w3⟩
        case round=>
          obtain⟨⟨l,rfl,hlk,hall2,hok2,hmp⟩,hon⟩:=hrel
          by_cases hlt2:(l:Int)<(RL.length:Int)
          · have hlt':l<RL.length:=by omega
            obtain⟨g3,hp,hh1,hh2,hh3,hcells⟩:=abQ O3.out (by omega);subst hp;have hg3m:g3≠m:=fun e=>hmp3.out.ne_own O3.out (by rw[<-e];rfl);obtain⟨t,ht⟩:∃t,t=RL[l]:=⟨_,rfl⟩;have k0:wr.cell? ⟨g3,l,none⟩=some (.iface (aau t) (pay t)):=hon.out.cell2 (hcells l (enc t) (by rw[ht,List.getElem?_map,List.getElem?_eq_getElem hlt'];rfl)) hg3m;have k1:=hon.out.cell2 d2' hpSm;have k2:=hon.out.cell2 e0' hpBm;have k3:=hon.out.cell2 e1' hpBm;have HRw:=qz (afh HR3.out hon.out (fun e=>hgm (Option.some.inj e)));have hly:l<YL.length:=by omega
            have hyl:YL[l]=tP fr ((us.set i p).set j t):=by
              have:=HYL.out;subst this;rw[List.getElem_map,ht]
            have htm:=HTM.out YL[l] (List.getElem_mem hly);have HNy:=qz (ajU (insAll L X) YL l hly)
            have HTk:Hid (∀s,s∈YL.take (l+1)->s∈YL.take l\/s=YL[l]):=fun s hs=>by
              rw[List.take_succ_eq_append_getElem hly]at hs;rcases lma.1 hs with h|h
              · exact .inl h
              · exact .inr (List.mem_singleton.1 h)
            rw[hyl]at htm HNy HTk;obtain⟨HAt,hAr⟩:=HA.out _ htm;have HTM2:=qz htm;have HWx:=qz (HWt.out t);have HWy:=qz (HWj.out t);obtain⟨z,hz⟩:∃z,z=tP fr ((us.set i p).set j t):=⟨_,rfl⟩;rw[<-hz]at HWx HAt hAr HNy HTM2 HTk;have HAT:=qz HAt;have HAR:=qz hAr;obtain⟨ZT,hZT⟩:∃ZT,ZT=aau t:=⟨_,rfl⟩;obtain⟨ZV,hZV⟩:∃ZV,ZV=pay t:=⟨_,rfl⟩;rw[<-hZT,<-hZV]at HWy k0;clear hcells hyl htm HAt hAr hz hZT hZV;go_wp2_with fail;with_reducible refine(HWi.out _ HRw.out).mono ?_
            rintro e w4 ⟨v4,rfl,o4,b4⟩;obtain⟨p4,c4,rfl⟩:=aaM o4;have O4:=qz o4;have B4:=qz b4;clear o4 b4;go_wp2_with fail;with_reducible refine(HWy.out _ _ _ _ O4.out).mono ?_
            rintro e w5 ⟨v5,rfl,o5,b5⟩;have B5:=qz (aab B4.out b5 B4.out.size);rw[show us.length=((us.set i p).set j t).length by simp]at o5;have O5:=qz o5;clear o5 b5;go_wp2_with fail;with_reducible refine(HWx.out _ _ _ O5.out).mono ?_
            rintro e w6 ⟨rfl,b6⟩;have B6:=qz (aab B5.out b6 B5.out.size);have HMx:=qz (hmp.out.below hmp.out.lt B6.out);clear b6;go_wp2_with fail;with_reducible refine(HAT.out _ _ _ hok2.out HMx.out).mono ?_
            rintro e w7 ⟨rfl,m7,n7⟩;have M7:=qz m7;have N7:=qz (hon.out.trans (((Only.refl m wr).below B6.out).trans n7));clear m7 n7 hmp k0 k1 k2 k3
            cases hn:nfI z with
            | none=>
              have HN:=qz hn;clear hn;go_wp2_with fail;go_ret;exact⟨.inr ⟨rfl,z,HTM2.out,HN.out⟩,((Only.refl m w).below B2.out).trans (hon3.out.trans N7.out)⟩
            | some r=>
              have HN:=qz hn;rw[hn]at M7
              have hall3:Hid (∀s∈YL.take (l+1),nfI s≠none):=fun s hs=>by
                rcases HTk.out s hs with h|h
                · exact hall2.out s h
                · rw[h,HN.out];simp
              have hins:insAll (insAll L X) (YL.take (l+1))=akV (insAll (insAll L X) (YL.take l)) (some r):=by rw[HNy.out,HN.out]
              have hok3:Hid (okAll (insAll (insAll L X) (YL.take (l+1)))):=by
                rw[hins];exact aiY hok2.out fun s e=>HAR.out s (HN.out.trans e)
              rw[<-hins]at M7;clear hn hins;go_wp2_with fail
              go_roundg (gk - 1)
              case rel=>exact⟨⟨l+1,by congr 1,by omega,hall3,hok3,M7⟩,N7⟩
              case measure=>omega
          · obtain rfl:l=RL.length:=by omega
            rw[List.take_of_length_le (by omega),<-acz]at hok2 hmp;rw[List.take_of_length_le (by omega)]at hall2;rw[<-HNx.out]at hok2 hmp
            have hall3:Hid (∀t∈((offT T).take (k+1)).flatMap (sndQ fr us i j),nfI t≠none):=fun s hs=>by
              rw[HNx.out]at hs;rcases lma.1 hs with h|h
              · exact hall.out s h
              · exact hall2.out s h
            have N8:=qz (hon3.out.trans hon.out);clear d2' e0' e1';go_wp2_with fail
            go_roundg (GO - 1)
            case rel=>exact⟨⟨k+1,by congr 1,by omega,hall3,hok2,hmp⟩,N8⟩
            case measure=>omega
      · have hre:sndQ fr us i j q=[]:=by
          cases q<;>first|rfl|exact absurd ⟨_,_,_,rfl⟩ hr
        have hta:=auq q (fun a b p e=>hr ⟨a,b,p,e⟩);rw[hre,List.append_nil]at HNx;rw[<-HNx.out]at hall hok hmp;obtain⟨TQ,hTQ⟩:∃TQ,TQ=aau q:=⟨_,rfl⟩;obtain⟨VQ,hVQ⟩:∃VQ,VQ=pay q:=⟨_,rfl⟩;rw[<-hTQ,<-hVQ]at c1 hta;clear hre hr hTQ hVQ;go_wp2_with fail;clear c1
        go_roundg (gk - 1)
        case rel=>exact⟨⟨k+1,by congr 1,by omega,hall,hok,hmp.out.alloc _⟩,hon.out.below (bra)⟩
        case measure=>omega
    · obtain rfl:k=(offT T).length:=by omega
      rw[List.take_of_length_le (nl _),<-HXS.out]at hall hmp;go_wp2_with fail;go_ret;exact⟨.inl ⟨rfl,hall.out,hmp.out⟩,((Only.refl m w).below B2.out).trans hon.out⟩
theorem Tryz.laidOut2:laidOutB prog=true:=by kernel_rfl
theorem Tryz.two0:(85:TypeId)<prog.types.size:=of_decide_eq_true (by kernel_rfl)
theorem Tryz.two1:(match prog.underlying 85 with|some (.array _ _)|some (.struct _)=>true|_=>false)=true:=by kernel_rfl
theorem ap_:Keyed prog 85:=Keyed.of_law (deep_law_laid Tryz.laidOut2 (m:=2) (by omega) Tryz.two0 (by kernel_rfl) Tryz.two1)
theorem Tryz.two2:prog.keyType 85=true:=by kernel_rfl
theorem Tryz.two3:prog.cellsOf 85=2:=by kernel_rfl
theorem Tryz.two4:prog.cellsOf 9=1:=by kernel_rfl
theorem ay4 (x y:ByteArray)(hx:x.size<=maxLen)(hy:y.size<=maxLen):∃l,keyOf prog 85 (.agg #[.string x,.string y])=some l:=by
 obtain⟨m,hm⟩:∃m,prog.types.size=m+1:=Nat.exists_eq_succ_of_ne_zero (Nat.ne_of_gt (Nat.lt_of_le_of_lt (Nat.zero_le _) Tryz.two0));have hf:(Value.agg #[.string x,.string y]).formed prog 85=true:=by simp[Value.formed,underlying85,Tryz.two3]
 unfold keyOf;rw[underlying85];simp only[Tryz.two2,hf,Bool.and_self,if_true,hm]
 have e1:∀(m:Nat) (s:ByteArray),s.size<=maxLen->prog.keyLits (m+1) 9 [.string s]=some [.string s.data.toList]:=fun m s hs=>by
  simp[Program.keyLits,underlying9,hs]
 have e2:prog.keyLits (m+1+1) 85 [.string x,.string y]=some [.string x.data.toList,.string y.data.toList]:=by
  unfold Program.keyLits;rw[underlying85];simp[Tryz.two3,Tryz.two4,List.range_succ,e1 m x hx,e1 m y hy]
 have hc:(Value.agg #[.string x,.string y]).cells.toList=[.string x,.string y]:=rfl;rw[hc,e2];exact⟨_,rfl⟩
structure Duo (m1 m2:Nat) (w w':World):Prop where
 os:w'.os=w.os
 tape:w'.tape=w.tape
 output:w'.output=w.output
 size:w.heap.size<=w'.heap.size
 block:∀k,k<w.heap.size->k≠m1->k≠m2->w'.heap[k]?=w.heap[k]?
theorem Duo.refl (m1 m2:Nat)(w:World):Duo m1 m2 w w:=⟨rfl,rfl,rfl,nl _,fun _ _ _ _=>rfl⟩
theorem Duo.trans {m1 m2:Nat}{u v w:World}(h:Duo m1 m2 u v)(k:Duo m1 m2 v w):Duo m1 m2 u w:=
 ⟨k.os.trans h.os,k.tape.trans h.tape,k.output.trans h.output,Nat.le_trans h.size k.size,fun i hi a b=>(k.block i (Nat.lt_of_lt_of_le hi h.size) a b).trans (h.block i hi a b)⟩
theorem Duo.one {m1 m2:Nat}{w w':World}(h:Only m1 w w'):Duo m1 m2 w w':=⟨h.os,h.tape,h.output,h.size,fun i hi a _=>h.block i hi a⟩
theorem Duo.two {m1 m2:Nat}{w w':World}(h:Only m2 w w'):Duo m1 m2 w w':=⟨h.os,h.tape,h.output,h.size,fun i hi _ b=>h.block i hi b⟩
theorem Duo.below {m1 m2:Nat}{u w w':World}(h:Duo m1 m2 u w)(b:Zb w w'):Duo m1 m2 u w':=h.trans (Duo.one (Only.of_below b))
theorem Duo.cell {m1 m2:Nat}{w w':World}(h:Duo m1 m2 w w'){b o:Nat}{x:Value}(hc:w.cell? ⟨b,o,none⟩=some x)(h1:b≠m1)(h2:b≠m2):w'.cell? ⟨b,o,none⟩=some x:=by
 have hl:=World.block_lt_of_cell? w _ hc;unfold World.cell? at hc ⊢;rw[h.block b hl h1 h2];exact hc
theorem Duo.to {B m1 m2:Nat}{u w w':World}(b:Below B u w)(h:Duo m1 m2 w w')(h1:B<=m1)(h2:B<=m2)(hB:B<=w.heap.size):Below B u w':=
 ⟨h.os.trans b.os,h.tape.trans b.tape,h.output.trans b.output,Nat.le_trans b.size h.size,fun i hi=>(h.block i (by omega) (by omega) (by omega)).trans (b.block i hi)⟩
theorem ajV {w w':World}{base n m1 m2:Nat}{e:TypeId}{v:Value}{xs:List Value}(h:w.ownsRow base e 1 v n xs)(k:Duo m1 m2 w w')(h1:v.ownBlock≠some m1)(h2:v.ownBlock≠some m2):w'.ownsRow base e 1 v n xs:=
 adZ h fun g hg=>k.block g (h.lt g hg).2 (fun e=>h1 (by rw[hg,e])) (fun e=>h2 (by rw[hg,e]))
structure RI (fr:List UInt8) (us:List Tm) (i j:Nat) (X:List Tm) (PP:List (Nat × Nat)):Prop where
 mem:∀t,t∈X↔(∃k,k<i/\t∈(offT (us.getD k .nil)).filterMap (tauP fr us k))\/∃ij∈PP,t∈(offT (us.getD ij.1 .nil)).flatMap (sndQ fr us ij.1 ij.2)
 all:∀t∈X,nfI t≠none
 snd:∀ij∈PP,ij.1≠ij.2/\ij.1<us.length/\ij.2<us.length
 cov:∀k l,k<us.length->l<us.length->k≠l->(k+1<i\/(k+1=i/\l<j))->∃ij∈PP,us[ij.1]?=us[k]?/\us[ij.2]?=us[l]?
def TT (fr:List UInt8)(us:List Tm)(t:Tm):Prop:=(∃i,i<us.length/\t∈(offT (us.getD i .nil)).filterMap (tauP fr us i))\/∃i j,i≠j/\i<us.length/\j<us.length/\t∈(offT (us.getD i .nil)).flatMap (sndQ fr us i j)
def metE (us:List Tm)(ij:Nat × Nat):Value × Value:=(.agg #[.string (S (us.getD ij.1 .nil)),.string (S (us.getD ij.2 .nil))],.bool true)
theorem RI.silent {fr:List UInt8}{us:List Tm}{i:Nat}{X:List Tm}{PP:List (Nat × Nat)}(h:RI fr us i us.length X PP)(ha:∀t∈(offT (us.getD i .nil)).filterMap (tauP fr us i),nfI t≠none):RI fr us (i+1) 0 (X++(offT (us.getD i .nil)).filterMap (tauP fr us i)) PP where
 mem t:=by
  rw[lma,h.mem];constructor
  ·rintro ((⟨k,hk,ht⟩|h1)|h1)
   ·exact .inl ⟨k,by omega,ht⟩
   ·exact .inr h1
   ·exact .inl ⟨i,by omega,h1⟩
  ·rintro (⟨k,hk,ht⟩|h1)
   ·by_cases e:k=i
    ·subst e;exact .inr ht
    ·exact .inl (.inl ⟨k,by omega,ht⟩)
   ·exact .inl (.inr h1)
 all t ht:=(lma.1 ht).elim (h.all t) (ha t)
 snd:=h.snd
 cov k l hk hl hkl hc:=h.cov k l hk hl hkl (by omega)
theorem RI.skip {fr:List UInt8}{us:List Tm}{i j:Nat}{X:List Tm}{PP:List (Nat × Nat)}(h:RI fr us (i+1) j X PP)(hs:i=j\/∃ij∈PP,us[ij.1]?=us[i]?/\us[ij.2]?=us[j]?):RI fr us (i+1) (j+1) X PP where
 mem:=h.mem
 all:=h.all
 snd:=h.snd
 cov k l hk hl hkl hc:=by
  by_cases e:k=i/\l=j
  ·obtain⟨rfl,rfl⟩:=e;exact hs.resolve_left hkl
  ·exact h.cov k l hk hl hkl (by omega)
theorem RI.meet {fr:List UInt8}{us:List Tm}{i j:Nat}{X:List Tm}{PP:List (Nat × Nat)}(h:RI fr us (i+1) j X PP)(hij:i≠j)(hi:i<us.length)(hj:j<us.length)(ha:∀t∈(offT (us.getD i .nil)).flatMap (sndQ fr us i j),nfI t≠none):RI fr us (i+1) (j+1) (X++(offT (us.getD i .nil)).flatMap (sndQ fr us i j)) (PP++[(i,j)]) where
 mem t:=by
  rw[lma,h.mem];simp only[lma,List.mem_singleton];constructor
  ·rintro ((h1|⟨ij,h1,h2⟩)|h1)
   ·exact .inl h1
   ·exact .inr ⟨ij,.inl h1,h2⟩
   ·exact .inr ⟨(i,j),.inr rfl,h1⟩
  ·rintro (h1|⟨ij,h1|h1,h2⟩)
   ·exact .inl (.inl h1)
   ·exact .inl (.inr ⟨ij,h1,h2⟩)
   ·subst h1;exact .inr h2
 all t ht:=(lma.1 ht).elim (h.all t) (ha t)
 snd ij hm:=by
  rcases lma.1 hm with h1|h1
  ·exact h.snd ij h1
  ·rw[List.mem_singleton]at h1;subst h1;exact⟨hij,hi,hj⟩
 cov k l hk hl hkl hc:=by
  by_cases e:k=i/\l=j
  ·obtain⟨rfl,rfl⟩:=e;exact⟨(k,l),by simp,rfl,rfl⟩
  ·obtain⟨ij,h1,h2⟩:=h.cov k l hk hl hkl (by omega);exact⟨ij,List.mem_append_left _ h1,h2⟩
theorem avs {us:List Tm}(hok:∀T∈us,T.ok nmL=true){i j:Nat}(hi:i<us.length)(hj:j<us.length){ij:Nat × Nat}(h1:ij.1<us.length)(h2:ij.2<us.length)(h:(metE us ij).1=(metE us (i,j)).1):us[ij.1]?=us[i]?/\us[ij.2]?=us[j]?:=by
 simp only[metE,Value.agg.injEq,Array.mk.injEq,List.cons.injEq,Value.string.injEq,and_true]at h;have e1:=getD_some hi;have e2:=getD_some hj;have e3:=getD_some h1;have e4:=getD_some h2;have a1:=arK (hok _ (List.mem_of_getElem? e3)) (hok _ (List.mem_of_getElem? e1)) h.1;have a2:=arK (hok _ (List.mem_of_getElem? e4)) (hok _ (List.mem_of_getElem? e2)) h.2;exact⟨by rw[e1,e3,a1],by rw[e2,e4,a2]⟩
structure RdC (TS:TypeId) (VS:Value) (fr:List UInt8) (n:Int) (us:List Tm):Prop where
 lvl:∀w,Calls prog 61 #[.iface TS VS] w (ajb fr (us.map enc) w)
 set:∀base v w,w.ownsRow base 5 1 v fr.length (fr.map ub)->Calls prog 62 #[v] w fun e w'=>e=.returned (.int .u32 n)/\Zb w w'
 txs:∀base v w,w.ownsRow base 41 1 v us.length (us.map enc)->Calls prog 63 #[v] w fun e w'=>∃v',e=.returned v'/\w'.ownsRow w.heap.size 9 1 v' us.length (us.map tvS)/\Zb w w'
 sil:∀i,i<us.length->∀L m p c base w,okAll L->MapG prog 9 w m (L.map entS)->w.ownsRow base 41 1 (.slice p us.length c) us.length (us.map enc)->Calls prog 64 #[.map (some m),.agg #[.int .u32 n,.slice p us.length c],.int .i64 (i:Int)] w (axX ((offT (us.getD i .nil)).filterMap (tauP fr us i)) L m w)
 met:∀i j,i≠j->i<us.length->j<us.length->∀L m p c base w,okAll L->MapG prog 9 w m (L.map entS)->w.ownsRow base 41 1 (.slice p us.length c) us.length (us.map enc)->Calls prog 65 #[.map (some m),.agg #[.int .u32 n,.slice p us.length c],.int .i64 (i:Int),.int .i64 (j:Int)] w (axX ((offT (us.getD i .nil)).flatMap (sndQ fr us i j)) L m w)
def ay5 (fr:List UInt8)(us:List Tm)(w:World)(e:Ending)(w':World):Prop:=
 ((∃m X PP,e=.returned (.tuple #[.map (some m),.bool true])/\w.heap.size<=m/\RI fr us us.length us.length X PP/\MapG prog 9 w' m ((insAll [] X).map entS))\/(e=.returned (.tuple #[.map none,.bool false])/\∃t,TT fr us t/\nfI t=none))/\Zb w w'
theorem ai_ (xs:List Tm)(h:∀t∈xs,∀r,nfI t=some r->r.ok nmL=true):okAll (insAll [] xs):=fun s hs=>by
 rcases (insAll_mem xs [] s).1 hs with h1|⟨t,ht,e⟩
 ·simp at h1
 ·exact h t ht s e
theorem axL {fr:List UInt8}{us:List Tm}{i j:Nat}{X:List Tm}{PP:List (Nat × Nat)}(h:RI fr us i j X PP)(hi:i<=us.length){t:Tm}(ht:t∈X):TT fr us t:=by
 rcases (h.mem t).1 ht with⟨k,hk,h1⟩|⟨ij,h1,h2⟩
 ·exact .inl ⟨k,by omega,h1⟩
 ·obtain⟨a,b,c⟩:=h.snd ij h1;exact .inr ⟨ij.1,ij.2,a,b,c,h2⟩
theorem asm (TS:TypeId)(VS:Value)(fr:List UInt8)(n:Int)(us:List Tm)(hu:us.length<=300)(hok:∀T∈us,T.ok nmL=true)(htx:∀T∈us,(S T).size<=900)(hnf:∀t,TT fr us t->∀r,nfI t=some r->r.ok nmL=true)(C:RdC TS VS fr n us)(w:World) : Calls prog 41 #[.iface TS VS] w (ay5 fr us w):=by
 have H1:=qz C.lvl;have H2:=qz C.set;have H3:=qz C.txs;have H4:=qz C.sil;have H5:=qz C.met;have HOK:=qz hok;have HTX:=qz htx;have HNF:=qz hnf;have hmm:=fun t (w:World)=>@run_makeMap prog t w;clear C hok htx hnf
 go_enter func41,ntmps41
 go_wp2_with fail;with_reducible refine(H1.out _).mono ?_
 rintro e w1 ⟨v1,v2,rfl,o1,o2,b1⟩;rw[List.length_map]at o2;obtain⟨p2,c2,rfl⟩:=aaM o2;have O1:=qz o1;have O2:=qz o2;have B1:=qz b1;have hz1:=b1.size;clear o1 o2 b1;go_wp2_with fail;with_reducible refine(H2.out _ _ _ O1.out).mono ?_
 rintro e w2 ⟨rfl,b2⟩;have B2:=qz (aab B1.out b2 hz1);have O22:=qz (aan O2.out b2);have hz2:=B2.out.size;clear b2 O1 O2
 go_wp2_with (refine ad9 rfl 81 (.tmp 19) (.tmp 20) rfl (.int .u32 n) (.slice p2 us.length c2) rfl rfl #[.int .u32 n,.slice p2 us.length c2] (by kernel_rfl) ?_)
 have O23:=qz (aan O22.out ((Below.refl _ _).alloc (nl _) (.cells #[.int .u32 n,.slice p2 us.length c2] 81)));with_reducible refine(H3.out _ _ _ O23.out).mono ?_
 rintro e w3 ⟨v3,rfl,o3,b3⟩;obtain⟨p3,c3,rfl⟩:=aaM o3;have hbx:w3.heap[w2.heap.size]?=some (.cells #[.int .u32 n,.slice p2 us.length c2] 81 (0,0)):=(b3.block w2.heap.size (by simp)).trans (heap_alloc_new _ _);have BX:=qz hbx;have B3:=qz (aab (B2.out.alloc hz2 (.cells #[.int .u32 n,.slice p2 us.length c2] 81)) b3 (by simp;omega));have OT:=qz (aan O23.out b3);have OX:=qz o3;have hz3:=b3.size;have hpl:w2.heap.size<w3.heap.size:=lt_of_block hbx;clear o3 b3 hbx O22 O23;go_wp2_with fail;obtain⟨W0,hW0⟩:∃W0,W0=(w3.alloc (.map #[] 0)).alloc (.map #[] 0):=⟨_,rfl⟩;obtain⟨mm,hmm'⟩:∃mm,mm=w3.heap.size:=⟨_,rfl⟩;obtain⟨mr,hmr⟩:∃mr,mr=w3.heap.size+1:=⟨_,rfl⟩;obtain⟨pL,hpL⟩:∃pL,pL=w2.heap.size:=⟨_,rfl⟩
 have M1:Hid (MapG prog 85 W0 mm (([]:List (Nat × Nat)).map (metE us))):=by
  rw[hW0,hmm'];exact(MapG.made _ _ w3).alloc _
 have M2:Hid (MapG prog 9 W0 mr ((insAll [] []).map entS)):=by
  rw[hW0,hmr];have:=MapG.made prog 9 (w3.alloc (.map #[] 0));exact qz (by simpa [insAll] using this)
 have B0:Hid (Zb w3 W0):=by rw[hW0];exact aaw _ _ _
 have OT0:=qz (aan OT.out B0.out);have OX0:=qz (aan OX.out B0.out);have BX0:Hid (W0.heap[pL]?=some (.cells #[.int .u32 n,.slice p2 us.length c2] 81 (0,0))):=by rw[hpL];exact(B0.out.block _ hpl).trans BX.out
 have hT1:=qz (M1.out.ne_own OT0.out);have hT2:=qz (M2.out.ne_own OT0.out);have hX1:=qz (M1.out.ne_own OX0.out);have hX2:=qz (M2.out.ne_own OX0.out);have hL1:pL≠mm:=by omega
 have hL2:pL≠mr:=by omega
 have hrm:mr≠mm:=by omega
 have hBW:=qz (B3.out.trans (B0.out.mono (show w.heap.size<=w3.heap.size by omega)));have hwm:w.heap.size<=mm/\w.heap.size<=mr/\w.heap.size<=W0.heap.size:=⟨by omega,by omega,hBW.out.size⟩;rw[<-hW0,<-hmr,<-hmm',<-hpL];clear hW0 hmm' hmr hpL hmm BX OT OX B0 B1 B2 B3
 go_loopg [28] us.length (fun gk s28 wr=>(∃(i:Nat) (X:List Tm) (PP:List (Nat × Nat)),s28=.int .i64 (i:Int)/\i+gk=us.length/\Hid (RI fr us i us.length X PP)/\Hid (MapG prog 85 wr mm (PP.map (metE us)))/\Hid (MapG prog 9 wr mr ((insAll [] X).map entS)))/\Hid (Duo mm mr W0 wr))
 case atStart=>exact⟨⟨0,[],[],by congr 1,by omega,⟨fun t=>by simp,by simp,by simp,fun k l _ _ _ h=>by omega⟩,M1,M2⟩,Duo.refl mm mr W0⟩
 case round=>
  obtain⟨⟨i,X,PP,rfl,hik,hri,hm1,hm2⟩,hdu⟩:=hrel;obtain⟨GO,hGO⟩:∃G,G=gk:=⟨_,rfl⟩
  by_cases hlt:(i:Int)<(us.length:Int)
  ·have hit:i<us.length:=by omega
   have hbx:=(hdu.out.block pL (lt_of_block BX0.out) hL1 hL2).trans BX0.out;have x0:=aaf hbx;have x1:=aak hbx;have OTw:=qz (ajV OT0.out hdu.out hT1.out hT2.out);have HokX:Hid (okAll (insAll [] X)):=ai_ X fun t ht=>HNF.out t (axL hri.out (by omega) ht);have HS:=qz (H4.out i hit (insAll [] X) mr p2 c2 w.heap.size wr HokX.out hm2.out OTw.out);clear hbx;go_wp2_with fail;with_reducible refine HS.out.mono ?_
   rintro e w4 ⟨hres,n4⟩;have N4:=qz n4;have hm4:=qz (hm1.out.only n4 (fun e=>hrm e.symm));have D4:=qz (hdu.out.trans (Duo.two n4));clear n4 x0 x1 HS;rcases hres with⟨rfl,hall,m4⟩|⟨rfl,hbad⟩
   ·have HALL:=qz (hri.out.silent hall);rw[<-acz]at m4;have M4:=qz m4;obtain⟨X1,hX1'⟩:∃X1,X1=X++(offT (us.getD i .nil)).filterMap (tauP fr us i):=⟨_,rfl⟩;rw[<-hX1']at HALL M4;clear hall m4 hX1' hm1 hm2 hri HokX OTw;go_wp2_with fail
    go_loopg [38] us.length (fun gj s38 wr=>(∃(j:Nat) (X:List Tm) (PP:List (Nat × Nat)),s38=.int .i64 (j:Int)/\j+gj=us.length/\Hid (RI fr us (i+1) j X PP)/\Hid (MapG prog 85 wr mm (PP.map (metE us)))/\Hid (MapG prog 9 wr mr ((insAll [] X).map entS)))/\Hid (Duo mm mr W0 wr))
    case atStart=>exact⟨⟨0,X1,PP,by congr 1,by omega,HALL,hm4,M4⟩,D4⟩
    case round=>
     obtain⟨⟨j,X,PP,rfl,hjk,hri,hm1,hm2⟩,hdu⟩:=hrel
     by_cases hlt2:(j:Int)<(us.length:Int)
     ·have hjt:j<us.length:=by omega
      have OXw:=ajV OX0.out hdu.out hX1.out hX2.out;obtain⟨g5,hp5,_,hg5,_,hcells⟩:=abQ OXw (by omega);cases hp5;obtain⟨si,hsi⟩:∃si,si=S (us.getD i .nil):=⟨_,rfl⟩;obtain⟨sj,hsj⟩:∃sj,sj=S (us.getD j .nil):=⟨_,rfl⟩;have t0:wr.cell? ⟨g5,i,none⟩=some (.string si):=by rw[hsi];exact hcells i _ (by rw[List.getElem?_map,getD_some hit];rfl)
      have t1:wr.cell? ⟨g5,j,none⟩=some (.string sj):=by rw[hsj];exact hcells j _ (by rw[List.getElem?_map,getD_some hjt];rfl)
      have hbx:=(hdu.out.block pL (lt_of_block BX0.out) hL1 hL2).trans BX0.out;have x0:=aaf hbx;have x1:=aak hbx;have OTw:=qz (ajV OT0.out hdu.out hT1.out hT2.out);have HsI:=qz hsi;have HsJ:=qz hsj;have hiI:(i:Int)<(us.length:Int):=by omega
      have hi0:(0:Int)<=(i:Int):=by omega
      have hj0:(0:Int)<=(j:Int):=by omega
      clear OXw hcells hsi hsj hbx
      by_cases hij:i=j
      ·subst hij;have HR1:=qz (hri.out.skip (.inl rfl));clear t1;go_wp2_with fail
       go_region
       go_wp2_with fail;clear t0 x0 x1
       go_roundg (gk - 1)
       case rel=>exact⟨⟨i+1,X,PP,by congr 1,by omega,HR1,hm1.out.alloc _,hm2.out.alloc _⟩,hdu.out.below (bra).drew⟩
       case measure=>omega
      ·have hij1:((i:Int)==(j:Int))=false:=by rw[beq_eq_false_iff_ne];omega
       go_wp2_with fail
       go_region
       obtain⟨W5,hW5⟩:∃W5,W5=(wr.alloc (.cells #[.string si,.string sj] 85)).drew:=⟨_,rfl⟩;obtain⟨pK,hpK⟩:∃pK,pK=wr.heap.size:=⟨_,rfl⟩;rw[<-hW5,<-hpK];have B5:Hid (Zb wr W5):=by rw[hW5];exact(bra).drew
       have k0:W5.cell? ⟨pK,0,none⟩=some (.string si):=by rw[hW5,hpK];exact abh wr _ _ 0 _ rfl
       have k1:W5.cell? ⟨pK,1,none⟩=some (.string sj):=by rw[hW5,hpK];exact abh wr _ _ 1 _ rfl
       have y0:=(B5.out.cell (p:=⟨pL,0,none⟩) (World.block_lt_of_cell? _ _ x0)).trans x0;have y1:=(B5.out.cell (p:=⟨pL,1,none⟩) (World.block_lt_of_cell? _ _ x1)).trans x1;have hm15:=qz (hm1.out.below hm1.out.lt B5.out);have hm25:=qz (hm2.out.below hm2.out.lt B5.out);have hdu5:=qz (hdu.out.below B5.out);have OT5:=qz (aan OTw.out B5.out);have hpK1:pK≠mm:=by rw[hpK];have:=hm1.out.lt;omega
       have hky:(metE us (i,j)).1=.agg #[.string si,.string sj]:=by rw[HsI.out,HsJ.out];rfl
       obtain⟨l,hl⟩:=ay4 si sj (by rw[HsI.out];have:=HTX.out _ (List.mem_of_getElem? (getD_some hit));unfold maxLen;omega) (by rw[HsJ.out];have:=HTX.out _ (List.mem_of_getElem? (getD_some hjt));unfold maxLen;omega);clear hW5 hpK t0 t1 x0 x1 hm1 hm2 hdu OTw
       by_cases hmem:∃ij∈PP,(metE us ij).1=(metE us (i,j)).1
       ·obtain⟨ij,h1,h2⟩:=hmem;obtain⟨_,s1,s2⟩:=hri.out.snd ij h1;have HR1:=qz (hri.out.skip (.inr ⟨ij,h1,avs HOK.out hit hjt s1 s2 h2⟩));have hlk:=hm15.out.look_in ap_ underlying83 (z:=.bool false) (by kernel_rfl) hl (v:=.bool true) (by rw[<-hky,<-h2];exact List.mem_map_of_mem h1) false;simp only[Bool.false_eq_true,if_false]at hlk;clear h1 h2 s1 s2 hky hl hij;go_wp2_with fail;clear hlk k0 k1 y0 y1
        go_roundg (gk - 1)
        case rel=>exact⟨⟨j+1,X,PP,by congr 1,by omega,HR1,hm15,hm25⟩,hdu5⟩
        case measure=>omega
       ·have hno:∀v,(Value.agg #[.string si,.string sj],v)∉PP.map (metE us):=fun v hv=>by
         obtain⟨ij,h1,h2⟩:=List.mem_map.1 hv;exact hmem ⟨ij,h1,by rw[h2,hky]⟩
        have hlk:=hm15.out.look_out ap_ underlying83 (z:=.bool false) (by kernel_rfl) hl hno false;simp only[Bool.false_eq_true,if_false]at hlk;obtain⟨W6,hup,m6,n6,_⟩:=hm15.out.upd_new ap_ underlying83 (val:=.bool true) hl hno
        have hM6:Hid (MapG prog 85 W6 mm ((PP++[(i,j)]).map (metE us))):=by
         rw[List.map_append];have e:(metE us (i,j))=(.agg #[.string si,.string sj],.bool true):=by rw[<-hky];rfl
         rw[List.map_cons,List.map_nil,e];exact m6
        have N6:=qz n6;have hM26:=qz (hm25.out.only n6 hrm);have OT6:=qz (afh OT5.out n6 (by have:=hm15.out.ne_own OT5.out;exact this));have hdu6:=qz (hdu5.out.trans (Duo.one n6));have z0:=n6.cell2 y0 hL1;have z1:=n6.cell2 y1 hL1;have HokX:Hid (okAll (insAll [] X)):=ai_ X fun t ht=>HNF.out t (axL hri.out (by omega) ht);have HM:=qz (H5.out i j hij hit hjt (insAll [] X) mr p2 c2 _ W6 HokX.out hM26.out OT6.out);have HIJ:=qz hij;clear m6 n6 hmem hno hky hl hij hm15 hm25 hdu5 OT5;go_wp2_with fail;with_reducible refine HM.out.mono ?_
        rintro e w7 ⟨hres,n7⟩;have hm7:=qz (hM6.out.only n7 (fun e=>hrm e.symm));have D7:=qz (hdu6.out.trans (Duo.two n7));clear n7 hlk hup k0 k1 y0 y1 z0 z1 HM;rcases hres with⟨rfl,hall,m7⟩|⟨rfl,hbad⟩
        ·have HR1:=qz (hri.out.meet HIJ.out hit hjt hall);rw[<-acz]at m7;have M7:=qz m7;obtain⟨X1,hX1'⟩:∃X1,X1=X++(offT (us.getD i .nil)).flatMap (sndQ fr us i j):=⟨_,rfl⟩;rw[<-hX1']at HR1 M7;clear hall m7 hX1' hri;go_wp2_with fail
         go_roundg (gk - 1)
         case rel=>exact⟨⟨j+1,X1,PP++[(i,j)],by congr 1,by omega,HR1,hm7,M7⟩,D7⟩
         case measure=>omega
        ·have HB:Hid (∃t,TT fr us t/\nfI t=none):=by
          obtain⟨t,h1,h2⟩:=hbad;exact⟨t,.inr ⟨i,j,HIJ.out,hit,hjt,h1⟩,h2⟩
         clear hbad;have BF:=qz (Duo.to hBW.out D7.out hwm.1 hwm.2.1 hwm.2.2);go_wp2_with fail;go_ret2;exact⟨.inr ⟨rfl,HB.out⟩,BF.out⟩
     ·obtain rfl:j=us.length:=by omega
      go_wp2_with fail
      go_roundg (GO - 1)
      case rel=>exact⟨⟨i+1,X,PP,by congr 1,by omega,hri,hm1,hm2⟩,hdu⟩
      case measure=>omega
   ·have HB:Hid (∃t,TT fr us t/\nfI t=none):=by
     obtain⟨t,h1,h2⟩:=hbad;exact⟨t,.inl ⟨i,hit,h1⟩,h2⟩
    clear hbad;have BF:=qz (Duo.to hBW.out D4.out hwm.1 hwm.2.1 hwm.2.2);go_wp2_with fail;go_ret2;exact⟨.inr ⟨rfl,HB.out⟩,BF.out⟩
  ·obtain rfl:i=us.length:=by omega
   have BF:=qz (Duo.to hBW.out hdu.out hwm.1 hwm.2.1 hwm.2.2);go_wp2_with fail;go_ret2;exact⟨.inl ⟨mr,X,PP,rfl,hwm.2.1,hri.out,hm2.out⟩,BF.out⟩
open Go.RowKit
structure AllO (W:World) (base:Nat) (fr:List UInt8) (Ps:List (List Tm)) (xs:List Value):Prop where
 len:xs.length=Ps.length * 2
 at_:∀k (h:k<Ps.length),∃v,xs[k * 2]?=some (.int .u32 ((setN (nB fr Ps[k]):Nat):Int))/\xs[k * 2+1]?=some v/\W.ownsRow base 41 1 v Ps[k].length (Ps[k].map enc)
theorem AllO.keep {W W':World}{base:Nat}{fr:List UInt8}{Ps:List (List Tm)}{xs:List Value}(h:AllO W base fr Ps xs)(hk:∀(v:Value) (n:Nat) (zs:List Value),W.ownsRow base 41 1 v n zs->W'.ownsRow base 41 1 v n zs):AllO W' base fr Ps xs:=
 ⟨h.len,fun k hh=>by obtain⟨v,a,b,c⟩:=h.at_ k hh;exact⟨v,a,b,hk _ _ _ c⟩⟩
theorem AllO.below {W W':World}{base:Nat}{fr:List UInt8}{Ps:List (List Tm)}{xs:List Value}(h:AllO W base fr Ps xs)(k:Zb W W'):AllO W' base fr Ps xs:=h.keep fun _ _ _ o=>aan o k
theorem AllO.nil (W:World)(base:Nat)(fr:List UInt8):AllO W base fr [] []:=⟨rfl,fun k h=>absurd h (by simp)⟩
theorem asn {fr:List UInt8}:∀{Ps:List (List Tm)} {us:List Tm},Part fr Ps us->Ps.length<=us.length:=by
 intro Ps us h;have h1:=h.flat.length_eq;rw[<-h1];have h2:∀B∈Ps,B≠[]:=fun B hB=>(h.blk B hB).ne;clear h h1
 induction Ps with
 | nil=>simp
 | cons B Ps ih=>
  have:=ih fun D hD=>h2 D (by simp[hD]);have hb:=List.length_pos_iff.2 (h2 B (by simp));rw[List.flatten_cons,lla,List.length_cons];omega
structure InvC (fr:List UInt8) (T:Tm) (Ps:List (List Tm)) (W0:World) (base jb k:Nat) (A:List (List Tm)) (D:List Tm) (vD vA:Value) (xsA:List Value) (W:World):Prop where
 below:Zb W0 W
 box:W.heap[jb]?=some (.cells #[.int .u32 ((setN (nB fr D):Nat):Int),vD] 81 (0,0))
 rowD:W.ownsRow W0.heap.size 41 1 vD D.length (D.map enc)
 rowA:W.ownsRow (jb+1) 81 2 vA A.length xsA
 all:AllO W0 base fr A xsA
 scan:Scan fr T Ps k A D
theorem amy (l:List UInt8)(c:UInt8):setN (l++[c])=setN l ||| 2 ^ (c.toNat - 97):=by
 induction l with
 | nil=>simp[setN]
 | cons a l ih=>simp only[List.cons_append,setN,ih,Nat.or_assoc];rw[Nat.or_comm (2 ^ (c.toNat - 97))]
theorem aqa (fs:List UInt8)(hl:Lets fs)(hn:fs.length<=300)(base:Nat)(v:Value)(w:World)(ho:w.ownsRow base 5 1 v fs.length (fs.map ub)) : Calls prog 62 #[v] w fun e w'=>e=.returned (.int .u32 ((setN fs:Nat):Int))/\w=w':=by
 obtain⟨p,cap,rfl⟩:=aaM ho;have HO:=qz ho;have HL:=qz hl;clear ho hl
 go_enter func62,ntmps62
 go_wp2_with fail
 go_loopg [3,8] fs.length (fun gk s2 s7 wr=>∃k:Nat,s7=.int .i64 (k:Int)/\k+gk=fs.length/\s2=.int .u32 ((setN (fs.take k):Nat):Int)/\wr=w)
 case atStart=>exact⟨0,by congr 1,by omega,by simp[setN],rfl⟩
 case round=>
  obtain⟨k,rfl,hkg,rfl,rfl⟩:=hrel
  by_cases hlt:(k:Int)<(fs.length:Int)
  ·have hk:k<fs.length:=by omega
   obtain⟨g,hpg,hg1,hg2,hg3,hcells⟩:=abQ HO.out (by omega);subst hpg;obtain⟨c,hc⟩:∃c,c=fs[k]:=⟨_,rfl⟩;have hcl:=HL.out c (hc▸List.getElem_mem hk);have c0:wr.cell? ⟨g,k,none⟩=some (.int .u8 (c.toNat:Int)):=hcells k (ub c) (by rw[hc,List.getElem?_map,List.getElem?_eq_getElem hk];rfl);obtain⟨n,hn⟩:∃n,n=setN (fs.take k):=⟨_,rfl⟩;have hlt32:n<2 ^ 32:=by rw[hn];exact ab8 _ fun x hx=>HL.out x (List.mem_of_mem_take hx)
   have HS:Hid (setN (fs.take (k+1))=n ||| 2 ^ (c.toNat - 97)):=by show _=_;rw[List.take_succ_eq_append_getElem hk,amy,<-hc,<-hn]
   have HW:=qz (abV n c.toNat hlt32 hcl.1 hcl.2);rw[<-hn];clear hn hc hcells hlt32;go_wp2_with fail;refine(HW.out _).mono ?_;rintro e w1 ⟨rfl,rfl⟩;rw[<-HS.out];clear c0;go_wp2_with fail
   go_roundg (gk - 1)
   case rel=>exact⟨k+1,by congr 1,by omega,rfl,rfl⟩
   case measure=>omega
  ·obtain rfl:k=fs.length:=by omega
   rw[List.take_length];go_wp2_with fail;go_ret;exact⟨rfl,rfl⟩
theorem All2.no {α β:Type}{g:α->Option β}:∀{Q:List α} {rs:List β},All2 (fun a r=>g a=some r) Q rs->∀a∈Q,g a=none->False:=by
 intro Q rs h
 induction h with
 | nil=>intro a ha;cases ha
 | cons e _ ih=>
  intro a ha hn;rcases List.mem_cons.1 ha with rfl|ha
  ·rw[e]at hn;cases hn
  ·exact ih a ha hn
theorem CompIs.len {fr:List UInt8}{us rs:List Tm}(h:CompIs fr us rs):rs.length<=us.length:=by
 obtain⟨P,hP,ha⟩:=h.ex;have h1:=asn hP
 have h2:∀{Q:List (List Tm)} {rs:List Tm},All2 (fun B r=>nfS (tS fr B)=some r) Q rs->rs.length=Q.length:=by
  intro Q rs h
  induction h with
  | nil=>rfl
  | cons _ _ ih=>simp[ih]
 rw[h2 ha];exact h1
theorem aqb (t:Tm):(smds t).length<=t.size:=by
 induction t with
 | sum p q ih ih2=>simp only[smds,lla,Tm.size];omega
 | _=>simp[smds,Tm.size]
theorem aso (t:Tm):(offT t).length<=t.size:=by
 cases t with
 | rep p=>simp[offT,Tm.size]
 | _=>exact aqb _
theorem avt {c:UInt8}(h:nmL c=true):nmE c=true:=by rw[ahc];exact .inl ((nmL_iff c).1 h)
theorem asp {fr:List UInt8}{L:List Tm}(h:Fine7 (tR fr L)):L.length<=61/\∀t∈L,t.pr.length<=700:=by
 have h1:=adW L;have h0:=atM L;have h2:=(adg (joinR .par L) fr).1;have h3:=h.sz;have h4:=aeS L;have h5:=acw (joinR .par L) fr;have h6:=h.pl;unfold tR at h3 h6;refine⟨by omega,fun t ht=>?_⟩;have h7:t.pr.length<=(L.map fun T=>T.pr.length).sum:=ac1 (f:=fun T:Tm=>T.pr.length) ht;have h8:=List.length_pos_of_mem ht;omega
theorem axM {w:World}{base n cap g:Nat}{L:List Tm}(h:w.ownsRow base 9 1 (.slice (some ⟨g,0,none⟩) n cap) n (L.map tvS))(hn:n=L.length):∃C:Array Value,w.heap[g]?=some (.cells C 9 (0,0))/\∀j (hj:j<(L.map S).length),C[j]?=some (.string (L.map S)[j]):=by
 rcases h.2 with⟨h1,_⟩|⟨g',cap',cur,h1,_,h3,h4,_,h6,h7⟩
 ·cases h1
 ·cases h1;refine⟨cur,h3,fun j hj=>?_⟩;rw[List.length_map]at hj;have:(cur.toList.take (n * 1))[j]?=some (tvS L[j]):=by rw[h7,List.getElem?_map,List.getElem?_eq_getElem hj];rfl
  rw[List.getElem?_take,if_pos (by omega)]at this
  rw[<-Array.getElem?_toList,this,List.getElem_map];rfl
theorem axN {w:World}{base n:Nat}{v:Value}{xs:List Value}(h:w.ownsRow base 9 1 v n xs)(h0:0<n):∃g cap,v=.slice (some ⟨g,0,none⟩) n cap:=by
 rcases h.2 with⟨_,h1⟩|⟨g,cap,cur,h1,_⟩
 ·omega
 ·exact⟨g,cap,h1⟩
theorem nxC {r:Tm}(h:NfS r):NxC (S r) (S r.fro.2) r.fro.1 r.thrs (fun t=>(nfS t).isSome) (fun t=>axu (nfS t)):=by
 obtain⟨hok,hpr,hsz⟩:=h.fits;have hE:=ajs r hok;have hlev:=h.lev;have hsz2:=hlev.lev.sz;have hpl2:=hlev.lev.pl;have hbn2:=hlev.lev.bn
 have hT:∀T∈r.thrs,T.size<=61/\T.pr.length<=303/\T.ok nmL=true/\T.smq=true:=fun T ht=>by
  have h1:T.size<=(r.thrs.map Tm.size).sum:=ac1 (f:=Tm.size) ht;have h2:T.pr.length<=(r.thrs.map fun T=>T.pr.length).sum:=ac1 (f:=fun T:Tm=>T.pr.length) ht;exact⟨by omega,by omega,hlev.lev.ok T ht,hlev.sm T ht⟩
 refine⟨fun w=>adz r hE (by omega) (by omega) w,fun w=>ahZ r hE (by omega) (by omega) w,fun T ht=>?_,fun i j hi hj g cap w hta=>?_,fun L hL base v w ho=>?_,fun U hU q hq hk T hT' o ho hko w=>?_⟩
 ·obtain⟨a,b,c,d⟩:=hT T ht;have hf:=akJ T;exact⟨by omega,fun w=>(avr T (ajs T c) (by omega) (by omega) d w).mono fun e w' h=>h.q⟩
 ·exact awF r.thrs i j g cap (by omega) (by omega) (by omega) w hta
 ·have hf:=ao8 h hL;obtain⟨hl1,hl2⟩:=asp hf;obtain⟨p,c,rfl⟩:=aaM ho;refine apC r.fro.1 L p c _ _ (by omega) (by omega) (fun k hk=>?_) w (fun hne=>?_) (fun w=>alc _ hf.sz hf.ft hf.ok hf.pl w)
  ·have h1:=acw (joinR .par L) (r.fro.1.drop k);have h2:=acw (joinR .par L) r.fro.1;have h3:=hf.pl;have h4:(r.fro.1.drop k).length<=r.fro.1.length:=by rw[List.length_drop];omega
   unfold tR at h3;rw[aaq];omega
  ·have h0:0<L.length:=List.length_pos_iff.2 hne;obtain⟨g,c',e⟩:=axN ho h0
   cases e
   obtain⟨C,hC1,hC2⟩:=axM ho rfl;refine(aeL w g L.length c C (L.map S) ⟨#[38]⟩ (by simp) h0 (by omega) (nl _) (fun x hx=>?_) hC2 hC1).mono ?_
   ·obtain⟨t,ht,rfl⟩:=List.mem_map.1 hx;have:=hl2 t ht;rw[aaq];omega
   ·rintro e w' ⟨rfl,rfl⟩;exact⟨by rw[af7 L hne],Below.refl _ _⟩
 ·obtain⟨a,b,c,d⟩:=hT U hU;obtain⟨a2,b2,c2,d2⟩:=hT T hT';have h1:=(ao3 d hq hk).1;have h2:=ao2 d2 ho hko;have h3:=(aca h1);have h4:=(aca h2);have h5:=h3.2.2.1 c;have h6:=h4.2.2.1 c2;simp only[Tm.ok,bae]at h5 h6;have h7:=h3.1;have h8:=h3.2.1;simp only[Tm.size,Tm.pr,List.length_cons,lla]at h7 h8;exact ack q.r.size q.r q.b o.b (nl _) (ajs _ h5.2) (by omega) (avt h6.1.2) w
def ay6 (r:Tm)(w:World)(e:Ending)(w':World):Prop:=
 ((nxtN r=some (lstN r)/\∃v,e=.returned (.tuple #[v,.bool true])/\w'.ownsRow w.heap.size 9 1 v (lstN r).length ((lstN r).map tvS))\/(nxtN r=none/\e=.returned (.tuple #[.slice none 0 0,.bool false])))/\Zb w w'
theorem aqc {r:Tm}(h:NfS r):(rawN r).length<=900:=Nat.le_trans (List.length_filterMap_le _ _) (akL h.lev.lev)
theorem avu {xs:List Tm}(h:∀t∈xs,(nfS t).isSome=true):(xs.map fun t=>Value.string (axu (nfS t)))=(xs.filterMap nfS).map tvS:=by
 induction xs with
 | nil=>rfl
 | cons x xs ih=>
  have h1:=h x (by simp);obtain⟨s,hs⟩:=Option.isSome_iff_exists.1 h1;rw[List.map_cons,List.filterMap_cons,hs,ih fun t ht=>h t (by simp[ht])];rfl
theorem amz (L:List Tm)(hl:L.length<=1000)(base:Nat)(v:Value)(w:World)(ho:w.ownsRow base 9 1 v L.length (L.map tvS)) : Calls prog 50 #[v] w fun e w'=>∃v',e=.returned v'/\w'.ownsRow w.heap.size 9 1 v' (srtT L).length ((srtT L).map tvS)/\Zb w w':=by
 have hsl:(srtT L).length=L.length:=(show (srtT L).Perm L from List.mergeSort_perm _ _).length_eq;rcases Nat.eq_zero_or_pos L.length with h0|h0
 ·obtain⟨p,c,rfl⟩:=aaM ho;have e0:L=[]:=List.length_eq_zero_iff.1 h0;subst e0;refine(avk p c w).mono ?_;rintro e w' ⟨rfl,rfl⟩;exact⟨_,rfl,by have e:srtT ([]:List Tm)=[]:=List.length_eq_zero_iff.1 hsl;rw[e];exact World.ownsRow_nil _ _ _ _,Below.refl _ _⟩
 ·obtain⟨g,c,rfl⟩:=axN ho h0;obtain⟨C,hC1,hC2⟩:=axM ho rfl;refine(ajM (L.map S) g L.length c C (by simp) h0 hl w hC1 hC2).mono ?_;rintro e w' ⟨g',c',rfl,hrow,hb⟩;rw[ak8,List.length_map]at hrow;refine⟨_,rfl,?_,hb⟩;rw[ak8,List.length_map];have e1:((srtT L).map S).map Value.string=(srtT L).map tvS:=by rw[List.map_map];rfl
  rw[e1]at hrow;exact hrow
theorem ale {r:Tm}(h:NfS r)(w:World):Calls prog 46 #[.string (S r)] w (ay6 r w):=by
 have hsz2:=h.lev.lev.sz;have hrl:=aqc h;refine(apv (S r) (S r.fro.2) r.fro.1 r.thrs _ _ (by omega) (akL h.lev.lev) (nxC h) (axU r) rfl (fun v w w'=>w'.ownsRow w.heap.size 9 1 v (lstN r).length ((lstN r).map tvS)) (fun hall base v w ho=>?_) w).mono ?_
 ·have e1:=avu hall
  have e2:(outs r.fro.1 r.thrs).length=(rawN r).length:=by
   have:=congrArg List.length e1;simpa [rawN] using this
  rw[e1,e2]at ho;have hs:=(amz (rawN r) (by omega) base v w ho);have hl:(srtT (rawN r)).length=(rawN r).length:=(show (srtT (rawN r)).Perm _ from List.mergeSort_perm _ _).length_eq;have:=aps v (srtT (rawN r)) (by omega) (fun a ha b hb e=>arK (ahH h a ((aaG _ _).1 ha)).fits.1 (ahH h b ((aaG _ _).1 hb)).fits.1 e) w hs;exact this
 ·rintro e w' ⟨h1|h1,hb⟩
  ·obtain⟨hz,v',w1,rfl,hq,hw⟩:=h1;exact⟨.inl ⟨by unfold nxtN;rw[if_pos hz],v',rfl,aaO hq hw⟩,hb⟩
  ·exact⟨.inr ⟨by unfold nxtN;rw[if_neg (by rw[h1.1];simp)],h1.2⟩,hb⟩
theorem alf {t:Tm}(hf:Fine7 t):ayo t/\∀r,nfI t=some r->r.ok nmL=true:=by
 have hN:=fun w=>adp t hf.ok hf.sz (by have:=hf.pl;omega) w;refine⟨fun L m w hL hM=>?_,fun r hr=>(adX hr).1⟩
 cases hn:nfI t with
 | none=>
  rw[hn]at hN;exact awU _ _ m _ w hM hN
 | some r=>
  rw[hn]at hN;have hr:=adX hn;exact auu _ _ m L r hL hr.1 (by rw[aaq];omega) w hM hN fun w=>agX r (by omega) w
theorem axO (fr:List UInt8)(us:List Tm)(i j:Nat)(q:Tm):sndP fr us i j q=sndQ fr us i j q:=by
 cases q with
 | snd a b p=>
  show (offT (us.getD j .nil)).filterMap (recP fr us i j a b p)=((offT (us.getD j .nil)).filterMap (aeK (us.getD j .nil) a b)).map fun t=>tP fr ((us.set i p).set j t);rw[List.map_filterMap]
  have e:recP fr us i j a b p=fun q=>(aeK (us.getD j .nil) a b q).map fun t=>tP fr ((us.set i p).set j t):=by
   funext q
   cases q with
   | rcv c x p2=>
    simp only[recP,aeK]
    by_cases h:c=a
    ·rw[if_pos h,if_pos h];rfl
    ·rw[if_neg h,if_neg h];rfl
   | _=>rfl
  rw[e]
 | _=>rfl
theorem aja (fr:List UInt8)(us:List Tm)(i j:Nat):(offT (us.getD i .nil)).flatMap (sndQ fr us i j)=prJ fr us i j:=by
 unfold prJ;congr 1
 funext q
 exact(axO fr us i j q).symm
theorem aqd {r t:Tm}(h:NfS r)(ht:TT r.fro.1 r.thrs t):Fine7 t:=by
 rcases ht with⟨i,hi,h1⟩|⟨i,j,a,b,c,h1⟩
 ·exact aiQ h (.inl ⟨i,hi,h1⟩)
 ·rw[aja]at h1;exact aiQ h (.inr ⟨i,j,a,b,c,h1⟩)
theorem aqe {r:Tm}(h:NfS r):Lets r.fro.1/\lets (setN r.fro.1) 26=r.fro.1/\r.fro.1.length<=26:=by
 have h1:Lets r.fro.1:=fun l hl=>(nmL_iff l).1 (h.lev.lev.frl l hl)
 have h2:Srt r.fro.1:=by
  obtain⟨t,h3,h4,h5⟩:=h;exact(aiM h3).1
 have h3:=amx r.fro.1 h2 h1;have h4:=aka (setN r.fro.1) 26;rw[h3]at h4;exact⟨h1,h3,h4⟩
theorem aqf {r:Tm}(h:NfS r):AdC r.fro.1 ((setN r.fro.1:Nat):Int) r.thrs.length:=by
 obtain⟨h1,h2,h3⟩:=aqe h;have hsz:=h.lev.lev.sz;refine⟨fun Bk hB base v w ho=>?_⟩;exact amu r.fro.1 (setN r.fro.1) (ab8 _ h1) h2 h3 Bk (by omega) base v w ho
theorem avv {r:Tm}(h:NfS r):RdC (aau r) (pay r) r.fro.1 ((setN r.fro.1:Nat):Int) r.thrs:=by
 obtain⟨hok,hpr,hsz⟩:=h.fits;obtain⟨f1,f2,f3⟩:=aqe h;have hlev:=h.lev;have hsz2:=hlev.lev.sz;have hpl2:=hlev.lev.pl
 have hT:∀T∈r.thrs,T.size<=61/\T.pr.length<=303/\T.ok nmL=true/\T.smq=true:=fun T ht=>by
  have h1:T.size<=(r.thrs.map Tm.size).sum:=ac1 (f:=Tm.size) ht;have h2:T.pr.length<=(r.thrs.map fun T=>T.pr.length).sum:=ac1 (f:=fun T:Tm=>T.pr.length) ht;exact⟨by omega,by omega,hlev.lev.ok T ht,hlev.sm T ht⟩
 have hol:∀T∈r.thrs,(offT T).length<=300:=fun T ht=>by
  have:=(hT T ht).1;have h2:=aso T;omega
 have hgd:∀i (hi:i<r.thrs.length),r.thrs.getD i .nil=r.thrs[i]:=fun i hi=>by rw[List.getD_eq_getElem?_getD,List.getElem?_eq_getElem hi];rfl
 refine⟨fun w=>?_,fun base v w ho=>?_,fun base v w ho=>?_,fun i hi L m p c base w hL hM ho=>?_,fun i j hij hi hj L m p c base w hL hM ho=>?_⟩
 ·have:=adw r (by omega) w;obtain⟨e1,e2,_⟩:=akv h.form;rw[e1,e2]at this;exact this
 ·refine(aqa r.fro.1 f1 (by omega) base v w ho).mono ?_;rintro e w' ⟨rfl,rfl⟩;exact⟨rfl,Below.refl _ _⟩
 ·exact ajR r.thrs _ rfl (by omega) (fun t ht=>by have:=(hT t ht).2.1;omega) v base w ho
 ·have hm:=List.getElem_mem hi;rw[hgd i hi];refine ajT r.fro.1 _ r.thrs (by omega) i hi (aqf h) (hol _ hm) (fun w=>ac6 _ (by have:=(hT _ hm).1;omega) w) (fun t ht=>?_) L hL m p c base w hM ho;exact alf (aqd h (.inl ⟨i,hi,by rw[hgd i hi];exact ht⟩))
 ·have hm:=List.getElem_mem hi;have hm2:=List.getElem_mem hj;have hi':=List.getElem?_eq_getElem hi;have hj':=List.getElem?_eq_getElem hj;rw[hgd i hi];refine ap9 r.fro.1 _ r.thrs (by omega) i j hi hj (aqf h) (hol _ hm) (hol _ hm2) (fun w=>ac6 _ (by have:=(hT _ hm).1;omega) w) (fun a b q hq w=>?_) (fun t ht=>?_) L hL m p c base w hM ho
  ·refine apz _ a b (hol _ hm2) (fun w=>ac6 _ (by have:=(hT _ hm2).1;omega) w) (fun x q2 hq2 w=>?_) w;have hml:=(adh hlev hij hi' hj' hq hq2).1;have h3:=(aca hq2).2.2.1 (hT _ hm2).2.2.1;have h4:=(aca hq).2.2.1 (hT _ hm).2.2.1;simp only[Tm.ok,bae]at h3 h4;have hre:aaT q2 x b=some (R q2 x b):=by unfold aaT;rw[if_pos hml]
   have:=agp q2.size q2 x b (nl _) h3.2 h3.1.2 h4.1.2;rw[hre]at this
   exact aa7 this w
  ·exact alf (aqd h (.inr ⟨i,j,hij,hi,hj,by rw[hgd i hi];exact ht⟩))
def ay7 (r:Tm)(w:World)(e:Ending)(w':World):Prop:=
 ((nxtN r=some (lstN r)/\∃m L,e=.returned (.tuple #[.map (some m),.bool true])/\w.heap.size<=m/\List.Perm L (lstN r)/\MapG prog 9 w' m (List.map entS L))\/(nxtN r=none/\e=.returned (.tuple #[.map none,.bool false])))/\Zb w w'
theorem aqg {r:Tm}(h:NfS r)(w:World):Calls prog 41 #[.iface (aau r) (pay r)] w (ay7 r w):=by
 have hlev:=h.lev;have hsz2:=hlev.lev.sz;have hpl2:=hlev.lev.pl;refine(asm (aau r) (pay r) r.fro.1 _ r.thrs (by omega) hlev.lev.ok (fun T ht=>?_) (fun t ht s hs=>(adX hs).1) (avv h) w).mono ?_
 ·have h2:T.pr.length<=(r.thrs.map fun T=>T.pr.length).sum:=ac1 (f:=fun T:Tm=>T.pr.length) ht;rw[aaq];omega
 ·rintro e w' ⟨⟨m,X,PP,rfl,hm,hri,hmp⟩|⟨rfl,t,ht,hn⟩,hb⟩
  ·have hp:=arz h PP hri.snd (fun i j hij hi hj=>hri.cov i j hi hj hij (by omega)) (fun i hi t ht=>hri.all t ((hri.mem t).2 (.inl ⟨i,hi,ht⟩))) (fun ij hij t ht=>hri.all t ((hri.mem t).2 (.inr ⟨ij,hij,by rw[aja];exact ht⟩)));refine⟨.inl ⟨hp.1,m,insAll [] X,rfl,hm,?_,hmp⟩,hb⟩;refine(List.perm_ext_iff_of_nodup (aiX X (by simp)) (al6 h)).2 fun s=>?_;rw[hp.2,insAll_mem];constructor
   ·rintro (h1|⟨t,ht,e⟩)
    ·simp at h1
    ·rcases (hri.mem t).1 ht with⟨i,hi,h1⟩|⟨ij,h1,h2⟩
     ·exact .inl ⟨i,hi,t,h1,e⟩
     ·exact .inr ⟨ij,h1,t,by rw[<-aja];exact h2,e⟩
   ·rintro (⟨i,hi,t,h1,e⟩|⟨ij,h1,t,h2,e⟩)
    ·exact .inr ⟨t,(hri.mem t).2 (.inl ⟨i,hi,h1⟩),e⟩
    ·exact .inr ⟨t,(hri.mem t).2 (.inr ⟨ij,h1,by rw[aja];exact h2⟩),e⟩
  ·refine⟨.inr ⟨ao7 h hn ?_,rfl⟩,hb⟩;rcases ht with⟨i,hi,h1⟩|⟨i,j,a,b,c,h1⟩
   ·exact .inl ⟨i,hi,h1⟩
   ·rw[aja]at h1;exact .inr ⟨i,j,a,b,c,h1⟩
theorem avw {s:ByteArray}{r:Tm}(h:stO s=some r):NfS r:=by
 unfold stO at h
 cases hg:good s.data.toList with
 | none=>rw[hg]at h;cases h
 | some t=>
  rw[hg]at h;have h':(if t.smp=true then nfI t else none)=some r:=h
  split at h'
  ·rename_i hs
   exact⟨t,h',hs,by have:=(adE hg).2.2.2;omega⟩
  ·cases h'
theorem axP (s:ByteArray)(hs:s.size<=9223372036854775807):∃(us:List Tm) (b:Bool),us.length<=900/\(∀w,Calls prog 39 #[.string s] w (fun e w'=>∃v',e=.returned (.tuple #[v',.bool b])/\w'.ownsRow w.heap.size 9 1 v' us.length (us.map sv)/\Zb w w'))/\(∀w,Calls prog 14 #[.string s] w (fun e w'=>∃v',e=.returned (.tuple #[v',.bool b])/\w'.ownsRow w.heap.size 9 1 v' us.length (us.map sv)/\Zb w w')):=by
 have hst:=fun w=>ajS s hs w;have hsn:=fun w=>ae8 s hs w
 cases hr:stO s with
 | none=>
  rw[hr]at hst hsn;exact⟨[],false,by simp,fun w=>(aux s _ w (hst w)).mono fun e w' h=>⟨_,h.1,World.ownsRow_nil _ _ _ _,h.2⟩,fun w=>(auy s _ w (hsn w)).mono fun e w' h=>⟨_,h.1,World.ownsRow_nil _ _ _ _,h.2⟩⟩
 | some r=>
  rw[hr]at hst hsn;have h:=avw hr
  have hlen:(lstN r).length<=900:=by
   have h1:=akS (srtT (rawN r)) [];have h2:(srtT (rawN r)).length=(rawN r).length:=(show (srtT (rawN r)).Perm _ from List.mergeSort_perm _ _).length_eq;have h3:=aqc h;unfold lstN ajC;simp only[List.length_nil]at h1;omega
  cases hn:nxtN r with
  | none=>
   refine⟨[],false,by simp,fun w=>?_,fun w=>?_⟩
   ·refine(akZ s (S r) (fun _ _ _=>True) (fun v _ _=>v=.slice none 0 0) false w (hst w) fun w1 b1=>(ale h w1).mono ?_).mono ?_
    ·rintro e w' ⟨⟨h1,_⟩|⟨_,rfl⟩,hb⟩
     ·rw[hn]at h1;cases h1
     ·exact⟨_,rfl,rfl,hb⟩
    ·rintro e w' ⟨x,w1,rfl,rfl,_,hb⟩;exact⟨_,rfl,World.ownsRow_nil _ _ _ _,hb⟩
   ·refine(ak0 s _ false (fun m _=>m=.map none) (fun v _ _=>v=.slice none 0 0) w (hsn w) (fun w1 b1=>(aqg h w1).mono ?_) (fun m w2 b2 hm=>?_)).mono ?_
    ·rintro e w' ⟨⟨h1,_⟩|⟨_,rfl⟩,hb⟩
     ·rw[hn]at h1;cases h1
     ·exact⟨_,rfl,rfl,hb⟩
    ·subst hm;exact(apB w2).mono fun e w' h=>⟨_,h.1,rfl,h.2⟩
    ·rintro e w' ⟨v,w2,rfl,rfl,_,hb⟩;exact⟨_,rfl,World.ownsRow_nil _ _ _ _,hb⟩
  | some l=>
   refine⟨lstN r,true,hlen,fun w=>?_,fun w=>?_⟩
   ·refine(akZ s (S r) (fun _ _ _=>True) (fun v w1 w'=>w'.ownsRow w1.heap.size 9 1 v (lstN r).length ((lstN r).map tvS)) true w (hst w) fun w1 b1=>(ale h w1).mono ?_).mono ?_
    ·rintro e w' ⟨⟨_,v,rfl,hv⟩|⟨h1,_⟩,hb⟩
     ·exact⟨v,rfl,hv,hb⟩
     ·rw[hn]at h1;cases h1
    ·rintro e w' ⟨x,w1,rfl,hx,hw,hb⟩;exact⟨x,rfl,aaO hx hw,hb⟩
   ·refine(ak0 s _ true (fun v w'=>∃m L,v=.map (some m)/\List.Perm L (lstN r)/\MapG prog 9 w' m (List.map entS L)) (fun v w1 w'=>w'.ownsRow w1.heap.size 9 1 v (lstN r).length ((lstN r).map tvS)) w (hsn w) (fun w1 b1=>(aqg h w1).mono ?_) (fun v w2 b2 hm=>?_)).mono ?_
    ·rintro e w' ⟨⟨_,m,L,rfl,_,hp,hmp⟩|⟨h1,_⟩,hb⟩
     ·exact⟨_,rfl,⟨m,L,rfl,hp,hmp⟩,hb⟩
     ·rw[hn]at h1;cases h1
    ·obtain⟨m,L,rfl,hp,hmp⟩:=hm;refine(apA L (by rw[hp.length_eq];omega) m w2 hmp).mono ?_;rintro e w' ⟨v,rfl,hv,hb⟩
     have e1:srtT L=lstN r:=by
      have h1:(srtT L).Perm (lstN r):=(show (srtT L).Perm L from List.mergeSort_perm _ _).trans hp;exact List.Perm.eq_of_pairwise (le:=leP) (fun a b _ _=>akH a b) (akI fun t ht=>(at2 h t (hp.mem_iff.1 ht)).fits.1) ((ahI h).1.imp fun h=>h.1) h1
     rw[e1]at hv;exact⟨v,rfl,hv,hb⟩
    ·rintro e w' ⟨v,w2,rfl,hv,hw,hb⟩;exact⟨v,rfl,aaO hv hw,hb⟩
theorem spR (p:ByteArray)(v:Value->World->World->Prop)(b:Bool)(H0:∀w,Calls prog 39 #[.string p] w fun e w'=>∃x,e=.returned (.tuple #[x,.bool b])/\v x w w'/\Zb w w')(w:World) : Calls prog 13 #[.string p] w fun e w'=>∃x,e=.returned (.tuple #[x,.bool b])/\v x w w'/\Zb w w':=by
 have H:=qz H0;clear H0
 go_enter func13,ntmps13
 go_wp2_with fail;with_reducible refine(H.out _).mono ?_
 rintro e w1 ⟨x,rfl,hx,b1⟩;have HX:=qz hx;have B1:=qz b1;clear hx b1;go_wp2_with fail;go_ret2;exact⟨x,rfl,HX.out,B1.out⟩
theorem axQ (s:ByteArray)(hs:s.size<=9223372036854775807):∃(us:List Tm) (b:Bool),us.length<=900/\(∀w,Calls prog 13 #[.string s] w (fun e w'=>∃v',e=.returned (.tuple #[v',.bool b])/\w'.ownsRow w.heap.size 9 1 v' us.length (us.map sv)/\Zb w w'))/\(∀w,Calls prog 14 #[.string s] w (fun e w'=>∃v',e=.returned (.tuple #[v',.bool b])/\w'.ownsRow w.heap.size 9 1 v' us.length (us.map sv)/\Zb w w')):=by
 obtain⟨us,b,hu,h1,h2⟩:=axP s hs;exact⟨us,b,hu,fun w=>spR s (fun x w w'=>w'.ownsRow w.heap.size 9 1 x us.length (us.map sv)) b h1 w,h2⟩
end Go.Proofs.YtihmcgcgjmbmhaaGreat.T1
