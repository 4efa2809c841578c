/- Texts of the proof. No conditions. -/
import Derived.Test.YtalegefnppbkdaaGreatQbv
namespace Go.Proofs.YtalegefnppbkdaaGreat.T1
open Go.Proofs.Tryz
set_option maxHeartbeats 8000000
open Go.RowKit
set_option maxRecDepth 100000
set_option linter.unusedVariables false
set_option linter.unusedSimpArgs false
theorem awd (g:Off->Option UInt8)(o:Off):[o].filterMap g=(g o).toList:=by cases h:g o<;>simp[h]
theorem at4 (l:List UInt8)(a:UInt8):inB (B l) (a.toNat:Int)=decide (a∈l):=by
 rw[Bool.eq_iff_iff,decide_eq_true_eq];unfold inB;rw[aaE,List.any_eq_true];constructor
 ·rintro⟨x,hx,e⟩;have:x=a:=UInt8.toNat_inj.1 (by have:=beq_iff_eq.1 e;omega);exact this▸hx
 ·intro h;exact⟨a,h,by simp⟩
theorem awe (k:UInt8)(fr:List UInt8)(hk:k≠126)(l:List Off)(h:∀o∈l,nmL o.a=true\/o.k=126):∀c∈l.filterMap (ovS k fr),nmL c=true:=by
 intro c hc;obtain⟨o,ho,e⟩:=List.mem_filterMap.1 hc;unfold ovS at e
 split at e
 ·rename_i hk'
  split at e
  ·cases e
  ·cases e
   exact(h o ho).resolve_right fun e'=>hk (hk'.symm.trans e')
 ·cases e
theorem agH (l:List UInt8)(hs:Srt l)(hl:Lets l):lets (setN l) 26=l:=by
 refine acP ?_ hs fun x=>?_
 ·unfold lets Srt;rw[List.pairwise_map];refine List.Pairwise.imp_of_mem ?_ (List.Pairwise.filter _ List.pairwise_lt_range);intro a b ha hb hab;have ha':=(List.mem_filter.1 ha).1;have hb':=(List.mem_filter.1 hb).1;rw[List.mem_range]at ha' hb';rw[abO,UInt8.toNat_ofNat',UInt8.toNat_ofNat'];omega
 ·unfold lets;rw[List.mem_map];constructor
  ·rintro⟨i,hi,rfl⟩;obtain⟨h1,h2⟩:=List.mem_filter.1 hi;rw[List.mem_range]at h1;obtain⟨d,hd,e⟩:=(aaF l hl i).1 h2;rw[show UInt8.ofNat (97+i)=d from u8_ext (by rw[UInt8.toNat_ofNat'];omega)];exact hd
  ·intro hx;have:=hl x hx;refine⟨x.toNat - 97,List.mem_filter.2 ⟨List.mem_range.2 (by omega),(aaF l hl _).2 ⟨x,hx,by omega⟩⟩,u8_ext ?_⟩;rw[UInt8.toNat_ofNat'];omega
theorem ari (l:List UInt8)(h:∀c∈l,nmL c=true):(B (addsL [] l)).size<=26:=by
 have hl:=abZ l [] lets_nil0 h;have e:=agH _ (srt_addsL l [] srt_nil) hl;have:=ajK (setN (addsL [] l)) 26;rw[e]at this
 have h2:(B (addsL [] l)).size=(addsL [] l).length:=by show (addsL [] l).toArray.size=_;simp
 omega
theorem awf (s:ByteArray)(k:Int)(n1:Zr 98 #[.string s] (.tuple #[.string ⟨#[]⟩,.bool false]))(w:World):Calls prog 74 #[.string s,.int .u8 k] w fun e w'=>e=.returned (.tuple #[.string ⟨#[]⟩,.bool false])/\Zb w w':=by
 have G1:=qz n1;clear n1
 go_enter func74,ntmps74
 go_wp2_with fail;refine(G1.out _).mono ?_;rintro e w1 ⟨rfl,b1⟩;go_wp2_with fail;go_ret2;exact⟨rfl,b1⟩
theorem ar7 (s X FB Y:ByteArray)(fr:List UInt8)(hfb:FB=B fr)(hfl:FB.size<=1000)(us:List Tm)(hu:us.length<=300)(k:UInt8)(n1:Zr 98 #[.string s] (.tuple #[.string X,.bool true]))(n2:Ze 52 #[.string X] (.tuple #[.string FB,.string Y]))(n3:∀w,Calls prog 55 #[.string X] w (TxP us us.length w)) (n4:∀T∈us,(offs T).length<=1000/\(∀o∈offs T,nmL o.a=true\/o.k=126)/\∀w,Calls prog 99 #[.string (S T)] w (aw5 T w))(hk:k≠126)(w:World) : Calls prog 74 #[.string s,.int .u8 (k.toNat:Int)] w fun e w'=>e=.returned (.tuple #[.string (B (addsL [] (us.flatMap fun T=>(offs T).filterMap (ovS k fr)))),.bool true])/\Zb w w':=by
 have G1:=qz n1;have G2:=qz n2;have G3:=qz n3;have G4:=qz n4;have hfl2:(B fr).size<=1000:=hfb▸hfl;clear n1 n2 n3 n4
 go_enter func74,ntmps74
 go_wp2_with fail;refine(G1.out _).mono ?_;rintro e w1 ⟨rfl,b1⟩;go_wp2_with fail;refine(G2.out _).mono ?_;rintro e w2 ⟨rfl,rfl⟩;go_wp2_with fail;refine(G3.out _).mono ?_;rintro e w3 ⟨v3,rfl,o3,b3⟩;obtain⟨p3,c3,rfl⟩:=aiv o3;have O3:=qz o3;have B3:=qz (aaa b1 b3);clear o3 b1 b3;go_wp2_with fail
 go_loopg [10,30] us.length (fun gk s10 s30 wr=>(∃i:Nat,s30=.int .i64 (i:Int)/\i+gk=us.length/\s10=.string (B (addsL [] ((us.take i).flatMap fun T=>(offs T).filterMap (ovS k fr)))))/\Hid (Zb w3 wr))
 case atStart=>exact⟨⟨0,by congr 1,by omega,rfl⟩,Below.refl _ _⟩
 case round=>
  obtain⟨⟨i,rfl,hik,rfl⟩,hbw⟩:=hrel;obtain⟨GO,hGO⟩:∃G,G=gk:=⟨_,rfl⟩;have hsz:=hbw.out.size
  by_cases hlt:(i:Int)<(us.length:Int)
  ·have hit:i<us.length:=by omega
   obtain⟨g,hpg,hg1,hg2,hg3,hcells⟩:=aoC O3.out (by omega);subst hpg;obtain⟨hol,hnm,hRO⟩:=G4.out us[i] (List.getElem_mem hit);obtain⟨T,hT⟩:∃T,T=us[i]:=⟨_,rfl⟩
   have c1:wr.cell? ⟨g,i,none⟩=some (.string (S T)):=
    (hbw.out.cell (p:=⟨g,i,none⟩) hg2).trans (hcells i (.string (S T)) (by rw[hT,List.getElem?_map,List.getElem?_eq_getElem hit];rfl))
   rw[<-hT]at hRO hol hnm;have HRO:=qz hRO;have HNM:=qz hnm;obtain⟨P,hP⟩:∃P,P=(us.take i).flatMap fun T=>(offs T).filterMap (ovS k fr):=⟨_,rfl⟩
   have HPn:Hid (∀c∈P,nmL c=true):=by
    intro c hc;rw[hP]at hc;obtain⟨T',hT',hc'⟩:=List.mem_flatMap.1 hc;exact awe k fr hk _ (G4.out T' (List.mem_of_mem_take hT')).2.1 c hc'
   have HPs:Hid (((us.take (i+1)).flatMap fun T=>(offs T).filterMap (ovS k fr))=P++(offs T).filterMap (ovS k fr)):=by
    show _=_;rw[List.take_succ_eq_append_getElem hit,List.flatMap_append,<-hP,hT];simp
   rw[<-hP];clear hcells hRO hnm hP hT;go_wp2_with fail;refine(HRO.out _).mono ?_;rintro e w4 ⟨v4,rfl,o4,b4⟩;obtain⟨p4,c4,rfl⟩:=aiv o4;have O4:=qz o4;have B4:=qz (aaa hbw.out b4);clear o4 b4 c1;go_wp2_with fail
   go_loopg [10,37] (offs T).length (fun gj s10 s37 wr=>(∃j:Nat,s37=.int .i64 (j:Int)/\j+gj=(offs T).length/\s10=.string (B (addsL [] (P++((offs T).take j).filterMap (ovS k fr)))))/\Hid (Zb w4 wr))
   case atStart=>exact⟨⟨0,by congr 1,by omega,by simp⟩,Below.refl _ _⟩
   case round=>
    obtain⟨⟨j,rfl,hjk,rfl⟩,hbv⟩:=hrel;have hvz:=hbv.out.size
    by_cases hlt2:(j:Int)<((offs T).length:Int)
    ·have hjt:j<(offs T).length:=by omega
     obtain⟨g4,hp4,hh1,hh2,hh3,hcells⟩:=aoC O4.out (by omega);subst hp4;obtain⟨x0,x1,x2,x3,x4⟩:=atd (offs T) j hjt;obtain⟨oj,hoj⟩:∃oj,oj=(offs T)[j]:=⟨_,rfl⟩;rw[<-hoj]at x0 x1 x2 x3 x4;have k0:=(hbv.out.cell (p:=⟨g4,j * 5,none⟩) hh2).trans (hcells _ _ x0);have k1:=(hbv.out.cell (p:=⟨g4,j * 5+1,none⟩) hh2).trans (hcells _ _ x1);have k2:=(hbv.out.cell (p:=⟨g4,j * 5+2,none⟩) hh2).trans (hcells _ _ x2);have k3:=(hbv.out.cell (p:=⟨g4,j * 5+3,none⟩) hh2).trans (hcells _ _ x3);have k4:=(hbv.out.cell (p:=⟨g4,j * 5+4,none⟩) hh2).trans (hcells _ _ x4)
     have htk:((offs T).take (j+1)).filterMap (ovS k fr)=((offs T).take j).filterMap (ovS k fr)++(ovS k fr oj).toList:=by
      rw[List.take_succ_eq_append_getElem hjt,List.filterMap_append,<-hoj,awd]
     have hoja:nmL oj.a=true\/oj.k=126:=HNM.out _ (hoj▸List.getElem_mem hjt);obtain⟨Q,hQ⟩:∃Q,Q=P++((offs T).take j).filterMap (ovS k fr):=⟨_,rfl⟩
     have HQ:Hid (P++((offs T).take (j+1)).filterMap (ovS k fr)=Q++(ovS k fr oj).toList):=by
      show _=_;rw[htk,hQ,List.append_assoc]
     have hQn:∀c∈Q,nmL c=true:=by
      intro c hc;rw[hQ]at hc;rcases lma.1 hc with hc|hc
      ·exact HPn.out c hc
      ·exact awe k fr hk _ (fun o ho=>HNM.out o (List.mem_of_mem_take ho)) c hc
     have hQs:=ari Q hQn;rw[<-hQ];have hby:(k.toNat:Int)=(k.toNat:Int):=rfl
     have HAD:Hid (∀w,Calls prog 91 #[.string (B (addsL [] Q)),.int .u8 (oj.a.toNat:Int)] w fun e w'=>e=.returned (.string (B (addL (addsL [] Q) oj.a)))/\Zb w w'):=fun w=>by
      have:=adD (B (addsL [] Q)) oj.a (by omega) w;rw[aaE]at this;exact this
     have HIN:Hid (Ze 88 #[.string (B fr),.int .u8 (oj.a.toNat:Int)] (.bool (decide (oj.a∈fr)))):=fun w=>by
      have:=abr (B fr) (oj.a.toNat:Int) w (by omega);rw[at4]at this;exact this
     obtain⟨KO,hKO⟩:∃KO:Int,KO=(oj.k.toNat:Int):=⟨_,rfl⟩;obtain⟨KK,hKK⟩:∃KK:Int,KK=(k.toNat:Int):=⟨_,rfl⟩;obtain⟨AO,hAO⟩:∃AO:Int,AO=(oj.a.toNat:Int):=⟨_,rfl⟩;clear x0 x1 x2 x3 x4 hcells htk hQ hoj
     by_cases hkk:oj.k=k
     ·have hc:((oj.k.toNat:Int)==(k.toNat:Int))=true:=by rw[hkk];simp
      by_cases hin:oj.a∈fr
      ·have hi:decide (oj.a∈fr)=true:=decide_eq_true hin;rw[hi]at HIN
       have HR:Hid (P++((offs T).take (j+1)).filterMap (ovS k fr)=Q):=by
        show _=_;rw[HQ.out];unfold ovS;rw[if_pos hkk,if_pos hin];simp
       clear hi hin hkk;go_wp2_with fail;refine(HIN.out _).mono ?_;rintro e w5 ⟨rfl,rfl⟩;clear k0 k1 k2 k3 k4;go_wp2_with fail
       go_roundg (gk - 1)
       case rel=>exact⟨⟨j+1,by congr 1,by omega,by rw[HR.out]⟩,hbv.out.alloc hvz _⟩
       case measure=>omega
      ·have hi:decide (oj.a∈fr)=false:=decide_eq_false hin;rw[hi]at HIN
       have HR:Hid (P++((offs T).take (j+1)).filterMap (ovS k fr)=Q++[oj.a]):=by
        show _=_;rw[HQ.out];unfold ovS;rw[if_pos hkk,if_neg hin];rfl
       clear hi hin hkk;go_wp2_with fail;refine(HIN.out _).mono ?_;rintro e w5 ⟨rfl,rfl⟩;clear k0 k1 k2 k3 k4;go_wp2_with fail;refine(HAD.out _).mono ?_;rintro e w6 ⟨rfl,b6⟩;have B6:=qz (aaa (hbv.out.alloc hvz _) b6);clear b6;go_wp2_with fail
       go_roundg (gk - 1)
       case rel=>exact⟨⟨j+1,by congr 1,by omega,by rw[HR.out,air]⟩,B6⟩
       case measure=>omega
     ·have hc:((oj.k.toNat:Int)==(k.toNat:Int))=false:=by
       rw[beq_eq_false_iff_ne];intro e;exact hkk (UInt8.toNat_inj.1 (by omega))
      have HR:Hid (P++((offs T).take (j+1)).filterMap (ovS k fr)=Q):=by
       show _=_;rw[HQ.out];unfold ovS;rw[if_neg hkk];simp
      clear hkk;go_wp2_with fail;clear k0 k1 k2 k3 k4
      go_roundg (gk - 1)
      case rel=>exact⟨⟨j+1,by congr 1,by omega,by rw[HR.out]⟩,hbv.out.alloc hvz _⟩
      case measure=>omega
    ·obtain rfl:j=(offs T).length:=by omega
     have htk:P++((offs T).take (offs T).length).filterMap (ovS k fr)=((us.take (i+1)).flatMap fun T=>(offs T).filterMap (ovS k fr)):=by
      rw[List.take_of_length_le (nl _),HPs.out]
     rw[htk];have B7:=qz (aaa B4.out hbv.out);clear htk;go_wp2_with fail
     go_roundg (GO - 1)
     case rel=>exact⟨⟨i+1,by congr 1,by omega,rfl⟩,B7⟩
     case measure=>omega
  ·obtain rfl:i=us.length:=by omega
   have htk:us.take us.length=us:=List.take_of_length_le (nl _);rw[htk];have B7:=qz (aaa B3.out hbw.out);clear htk;go_wp2_with fail;go_ret2;exact⟨rfl,B7.out⟩
end Go.Proofs.YtalegefnppbkdaaGreat.T1
