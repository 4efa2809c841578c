/- Texts of the proof. No conditions. -/
import Derived.Test.YtalegefnppbkdaaGreatQbe
import Derived.Test.YtalegefnppbkdaaGreatQbi
import Derived.WalkMore
import Derived.Scope
namespace Go.Proofs.YtalegefnppbkdaaGreat.T1
open Go.Proofs.Tryz
set_option maxHeartbeats 16000000
open Go.RowKit
open Go.Sort (Holds putRow putCells swp)
set_option maxRecDepth 100000
set_option linter.unusedVariables false
set_option linter.unusedSimpArgs false
theorem afX (w:World):Calls prog 181 #[.slice none 0 0] w fun e w'=>e=.returned (.bool false)/\w'=w:=by
 go_enter func181,ntmps181
 go_wp2_with fail
 go_loopg [3] 1 (fun k s3 wr=>s3=.int .i64 (-2)/\wr=w)
 case atStart=>exact⟨by congr 1,rfl⟩
 case round=>
  obtain⟨rfl,rfl⟩:=hrel;go_wp2_with fail;go_ret;exact⟨rfl,rfl⟩
theorem aoM:(5:TypeId)≠9:=by decide
theorem alF (w:World)(r:Option Nat):w.grownBy w r:=⟨rfl,rfl,rfl,nl _,fun _ _ _=>rfl⟩
theorem ahs {o m:List UInt8}(h:nextG ltU o=some m):m.length=o.length:=by
 unfold nextG at h;obtain⟨i,_,h⟩:=List.exists_of_findSome?_eq_some h;rw[Option.map_eq_some_iff]at h;obtain⟨j,_,h⟩:=h;rw[<-h]
 split
 ·simp;omega
 ·rfl
theorem att (o:List UInt8)(v:Value)(n base:Nat)(w:World)(hn:n=o.length)(hn2:n<=1000)(h:w.ownsRow base 5 1 v n (o.map ub)) : Calls prog 181 #[v] w fun e w'=>e=.returned (.bool (nextG ltU o).isSome)/\w'.ownsRow base 5 1 v n (((nextG ltU o).getD o).map ub)/\w.grownBy w' v.ownBlock:=by
 rcases h.2 with⟨rfl,rfl⟩|⟨g,cap,cur,rfl,h2,h3,h4,h5,h6,h7⟩
 ·have ho:o=[]:=List.length_eq_zero_iff.1 hn.symm;subst ho;have e0:nextG ltU ([]:List UInt8)=none:=aei _ _ fun i j _ hj=>by simp at hj
  refine(afX w).mono ?_;rintro e w' ⟨rfl,rfl⟩;rw[e0];exact⟨rfl,h,alF _ _⟩
 ·subst hn;rw[Nat.mul_one]at h7;refine(ahe axj o g cap hn2 h4 w (ads ub h3 h7)).mono ?_;rintro e w' ⟨rfl,q,rfl⟩;refine⟨rfl,aqo ub ?_ h2 h3 h4 h5 h6,aoe ub _⟩
  cases hx:nextG ltU o with
  | none=>rfl
  | some m=>exact ahs hx
theorem atu (o:List UInt8)(v:Value)(n base:Nat)(w:World)(hn:n=o.length)(hn2:n<=12)(hs:o.Pairwise (·<·))(h:w.ownsRow base 5 1 v n (o.map ub)) : Calls prog 180 #[v] w fun e w'=>e=.returned (.tuple #[])/\w'.ownsRow base 5 1 v n (o.map ub)/\Zb w w':=by
 rcases h.2 with⟨rfl,rfl⟩|⟨g,cap,cur,rfl,h2,h3,h4,h5,h6,h7⟩
 ·refine(alD w).mono ?_;rintro e w' ⟨rfl,rfl⟩;exact⟨rfl,h,Below.refl _ _⟩
 ·have hn':=hn;subst hn;rw[Nat.mul_one]at h7;refine(awH o g cap _ rfl hs hn2 h4 w (ads ub h3 h7)).mono ?_;rintro e w' ⟨rfl,q,rfl⟩;exact⟨rfl,h,⟨rfl,rfl,rfl,nl _,fun _ _=>rfl⟩⟩
theorem atv {w:World}{base:Nat}{v:Value}{o:List UInt8}(h:w.ownsRow base 5 1 v o.length (o.map ub)) : ∃po go co,v=.slice po o.length co/\(o≠[]->po=some ⟨go,0,none⟩/\∀k (h:k<o.length),w.cell? ⟨go,k,none⟩=some (.int .u8 (o[k].toNat:Int))):=by
 have h0:=h;rcases h.2 with⟨e1,e2⟩|⟨g,cap,cur,rfl,_⟩
 ·exact⟨none,0,0,by rw[e1,e2],fun hne=>absurd (List.length_eq_zero_iff.1 e2) hne⟩
 ·refine⟨_,g,cap,rfl,fun _=>⟨rfl,fun k hk=>?_⟩⟩;have:=ab7 h0 k (ub o[k]) (by rw[List.getElem?_map,List.getElem?_eq_getElem hk];rfl);rw[aof]at this
  exact this
theorem aoN (G:List UInt8)(hs:G.Pairwise (·<·))(hl5:G.length<=5)(Fc:List UInt8->List Tm)(k:Nat)(hk:∀o∈visG ltU 200 G,(Fc o).length=k)(hk2:k<=300) (C:FuncId)(caps:Array Value)(hC:∀args w,(callFunc C args).run prog w=.ok (.enter C args) w)(v0:Value)(base:Nat)(w:World)(hown:w.ownsRow base 5 1 v0 G.length (G.map ub)) (HT:∀o,o∈visG ltU 200 G->∀po go co w',Zb w w'->(o≠[]->po=some ⟨go,0,none⟩/\∀j (h:j<o.length),w'.cell? ⟨go,j,none⟩=some (.int .u8 (o[j].toNat:Int)))-> Calls prog C (#[.slice po o.length co]++caps) w' (TxP (Fc o) k w')) : Calls prog 157 #[.agg #[.func (.func C) #[] caps],v0] w (TxP (bestL ((visG ltU 200 G).map Fc)) k w):=by
 have HTv:=qz fun (o:List UInt8) (ho:o∈visG ltU 200 G) (b2:Nat) (v:Value) (w':World) (hb:Zb w w') (hw:w'.ownsRow b2 5 1 v o.length (o.map ub))=>
  (show Calls prog C (#[v]++caps) w' (TxP (Fc o) k w') by
   obtain⟨po,go,co,rfl,hc⟩:=atv hw
   exact HT o ho po go co w' hb hc)
 have HCl:=qz fun (w':World) (hb:Zb w w')=>avi G v0 G.length base w' (aal hown hb) (by omega);have HSo:=qz fun (v:Value) (b2:Nat) (w':World) (h:w'.ownsRow b2 5 1 v G.length (G.map ub))=>atu G v G.length b2 w' rfl (by omega) hs h;have HNx:=qz fun (o:List UInt8) (v:Value) (b2:Nat) (w':World) (hn:G.length=o.length) (h:w'.ownsRow b2 5 1 v G.length (o.map ub))=>att o v G.length b2 w' hn (by omega) h;have HS:=qz hs;have HK:=qz hk;obtain⟨n,hn⟩:∃n,n=G.length:=⟨_,rfl⟩;have HN:=qz hn;rw[<-hn]at HCl HSo HNx;clear hn hs hk hown HT
 go_enter func157,ntmps157
 go_wp2_with fail
 go_step3
 go_wp2_with fail;obtain⟨W,hW⟩:∃W,W=w.alloc (.cells #[.func (.func C) #[] caps] 160):=⟨_,rfl⟩;have hbk:W.heap[w.heap.size]?=some (.cells #[.func (.func C) #[] caps] 160 (0,0)):=by rw[hW];exact aag _ _
 have blW:Zb w W:=by rw[hW];exact bra
 rw[<-hW];clear hW;refine(HCl.out _ blW).mono ?_;rintro e w1 ⟨v1,rfl,ho1,b1⟩;have bk1:=aac hbk b1;have bl1:=aaa blW b1;have O1:=qz (aaW (b2:=w.heap.size+1) ho1 (lt_of_block hbk));clear hbk blW ho1 b1;go_wp2_with fail;refine(HSo.out _ _ _ O1.out).mono ?_;rintro e w2 ⟨rfl,ho2,b2⟩;have bk2:=qz (aac bk1 b2);have bl2:=qz (aaa bl1 b2);have O2:=qz ho2;have k2:=aah bk2.out;clear bk1 bl1 ho2 b2 O1;go_wp2_with fail;have ho2:=O2.out;rw[HN.out]at ho2;refine(HTv.out G (Srch.start G Fc).mem _ _ _ bl2.out ho2).mono ?_;rintro e w3 ⟨vb,rfl,ho3,b3⟩;have bk3:=qz (aac bk2.out b3);have bl3:=qz (aaa bl2.out b3);have O3:=qz (aal O2.out b3);have P3:=qz (aaW (b2:=w.heap.size+1) ho3 (lt_of_block bk2.out));clear ho2 ho3 b3 k2 bk2 bl2 O2;go_wp2_with fail
 go_step3
 go_wp2_with fail
 go_loopg [6] 199 (fun gk s6 wr=>∃(o:List UInt8) (b:List Tm),Hid (Srch G Fc o b gk)/\Hid (wr.ownsRow (w.heap.size+1) 5 1 v1 n (o.map ub))/\Hid (wr.ownsRow (w.heap.size+1) 9 1 s6 k (b.map sv))/\
  Hid (wr.heap[w.heap.size]?=some (.cells #[.func (.func C) #[] caps] 160 (0,0)))/\Hid (Zb w wr))
 case atStart=>exact⟨G,Fc G,Srch.start G Fc,O3,P3,bk3,bl3⟩
 case round=>
  obtain⟨o,b,hsr,ho,hb,hbk,hbl⟩:=hrel;have hol:Hid (n=o.length):=by show _=_;rw[HN.out];exact(anZ G HS.out hl5 hsr.out.mem).1.symm
  go_wp2_with fail;refine(HNx.out o _ _ _ hol.out ho.out).mono ?_;rintro e w4 ⟨rfl,ho4,g4⟩;have hv1:=qz fun g (e:v1.ownBlock=some g)=>(ho.out.lt g e).1;have hb4:=qz (acW hb.out g4 (fun g e h=>adP aoM ho.out hb.out g h e));have hbk4:Hid (w4.heap[w.heap.size]?=some (.cells #[.func (.func C) #[] caps] 160 (0,0))):=(g4.block _ (lt_of_block hbk.out) (fun e=>by have:=hv1.out _ e.symm;omega)).trans hbk.out;have hbl4:=qz (aas hbl.out g4 (fun g e=>by have:=hv1.out g e;omega) hbl.out.size);have hb0:=lt_of_block hbk4.out;have HO4:=qz ho4;clear g4 ho4 hb hbk hbl
  cases hx:nextG ltU o with
  | none=>
   have he:=qz (hsr.out.stop hx);simp only[Option.isSome_none];go_wp2_with fail
   try rw[Exit.noGoto_ret]
   go_ret;rw[<-he.out];exact⟨_,rfl,aaW hb4.out (by omega),hbl4.out⟩
  | some m=>
   obtain⟨k',rfl,hs2⟩:=hsr.out.go HS.out hl5 hx;have hsm:=qz hs2;have ho4:=HO4.out;rw[hx]at ho4
   have ho5:w4.ownsRow (w.heap.size+1) 5 1 v1 m.length (m.map ub):=by
    rw[ahs hx,<-hol.out];exact ho4
   have hbl0:Hid (b.length=k):=by
    obtain⟨_,_,o',h1,h2⟩:=hsr.out;show _=_;rw[h2];exact HK.out o' h1
   have HO5:=qz ho4;have hml:Hid (m.length=n):=by show _=_;rw[ahs hx,hol.out]
   have k4:=aah hbk4.out;simp only[Option.isSome_some];clear hs2 HO4 ho4 hsr hx hol ho;go_wp2_with fail;refine(HTv.out m hsm.out.mem _ _ _ hbl4.out ho5).mono ?_;rintro e w5 ⟨vt,rfl,ht5,b5⟩;have hb5:=qz (aal hb4.out b5);have hbk5:=qz (aac hbk4.out b5);have hbl5:=qz (aaa hbl4.out b5);have HO6:=qz (aal HO5.out b5);have HT5:=qz (aaW (b2:=w.heap.size+1) ht5 hb0);have hml2:Hid ((Fc m).length=k):=HK.out m hsm.out.mem;clear ho5 b5 ht5 k4 hb0 hb4 hbk4 hbl4 HO5;obtain⟨pt,ct,rfl⟩:=aaD HT5.out;obtain⟨pb,cb,rfl⟩:=aaD hb5.out;go_wp2_with fail
   go_loopg [6,26] k (fun j s6 s26 wr=>∃i:Nat,s26=.int .i64 (i:Int)/\i+j=k/\s6=.slice pb k cb/\wr=w5/\Hid (((Fc m).map Tm.pr).take i=(b.map Tm.pr).take i))
   case atStart=>exact⟨0,by congr 1,by omega,rfl,rfl,rfl⟩
   case round=>
    obtain⟨i,rfl,hij,rfl,rfl,htk⟩:=hrel
    by_cases hlt:(i:Int)<(k:Int)
    ·have hi1:i<(Fc m).length:=by rw[hml2.out];omega
     have hi2:i<b.length:=by rw[hbl0.out];omega
     obtain⟨gt',hpt,_,hgt2,hgt3,hct⟩:=act HT5.out (by omega);obtain⟨gb',hpb,_,hgb2,hgb3,hcb⟩:=act hb5.out (by omega);subst hpt hpb;have c1:wr.cell? ⟨gt',i,none⟩=some (.string (S (Fc m)[i])):=hct i (sv (Fc m)[i]) (by rw[List.getElem?_map,List.getElem?_eq_getElem hi1];rfl);have c2:wr.cell? ⟨gb',i,none⟩=some (.string (S b[i])):=hcb i (sv b[i]) (by rw[List.getElem?_map,List.getElem?_eq_getElem hi2];rfl);have hg1:((Fc m).map Tm.pr)[i]?=some (Fc m)[i].pr:=by rw[List.getElem?_map,List.getElem?_eq_getElem hi1];rfl
     have hg2:(b.map Tm.pr)[i]?=some b[i].pr:=by rw[List.getElem?_map,List.getElem?_eq_getElem hi2];rfl
     obtain⟨x,hx⟩:∃x,x=(Fc m)[i]:=⟨_,rfl⟩;obtain⟨y,hy⟩:∃y,y=b[i]:=⟨_,rfl⟩;rw[<-hx]at c1 hg1;rw[<-hy]at c2 hg2;obtain⟨X,hX⟩:∃X,X=S x:=⟨_,rfl⟩;obtain⟨Y,hY⟩:∃Y,Y=S y:=⟨_,rfl⟩;have hless:Op.bytesLess X.toList Y.toList=decide (x.pr<y.pr):=by rw[bytesLess_eq,Lib.toList_data,Lib.toList_data,hX,hY];rfl
     have hgtr:(X.toList==Y.toList)=(x.pr==y.pr):=by rw[Lib.toList_data,Lib.toList_data,hX,hY];rfl
     rw[<-hX]at c1;rw[<-hY]at c2;have G1:=qz hg1;have G2:=qz hg2;clear hX hY hx hy hg1 hg2 hct hcb hi1 hi2
     by_cases h1:x.pr<y.pr
     ·rw[decide_eq_true h1]at hless;have hyes:Hid (agp ((Fc m).map Tm.pr) (b.map Tm.pr)=true):=aqk i _ _ _ _ htk.out G1.out G2.out h1;clear hgtr;go_wp2_with fail
      go_roundg k'
      case rel=>exact⟨m,Fc m,by have:=hsm.out;rw[hyes.out]at this;show Srch _ _ _ _ _;simpa using this,HO6,HT5,hbk5,hbl5⟩
      case measure=>omega
     ·rw[decide_eq_false h1]at hless
      by_cases h2:y.pr<x.pr
      ·rw[show (x.pr==y.pr)=false from by simp only[beq_eq_false_iff_ne];intro e;rw[e]at h2;exact lt_irr _ h2]at hgtr;have hno:Hid (agp ((Fc m).map Tm.pr) (b.map Tm.pr)=false):=asG i _ _ _ _ htk.out G1.out G2.out h2;go_wp2_with fail
       go_roundg k'
       case rel=>exact⟨m,b,by have:=hsm.out;rw[hno.out]at this;show Srch _ _ _ _ _;simpa using this,HO6,hb5,hbk5,hbl5⟩
       case measure=>omega
      ·have hxy:x.pr=y.pr:=List.le_antisymm (List.not_lt.1 h2) (List.not_lt.1 h1);rw[show (x.pr==y.pr)=true from by rw[hxy];simp]at hgtr
       have hsame:Hid (((Fc m).map Tm.pr).take (i+1)=(b.map Tm.pr).take (i+1)):=by
        show _=_;obtain⟨a1,e1⟩:=List.getElem?_eq_some_iff.1 G1.out;obtain⟨a2,e2⟩:=List.getElem?_eq_some_iff.1 G2.out;rw[List.take_succ_eq_append_getElem a1,List.take_succ_eq_append_getElem a2,htk.out,e1,e2,hxy]
       go_wp2_with fail
       go_roundg (gk - 1)
       case rel=>exact⟨i+1,by congr 1,by omega,rfl,rfl,hsame⟩
       case measure=>omega
    ·obtain rfl:i=k:=by omega
     have hno:Hid (agp ((Fc m).map Tm.pr) (b.map Tm.pr)=false):=by
      have:=htk.out;rw[List.take_of_length_le (by rw[List.length_map,hml2.out];exact nl _),List.take_of_length_le (by rw[List.length_map,hbl0.out];exact nl _)]at this
      show _=_;rw[this];exact aod _
     go_wp2_with fail
     go_roundg k'
     case rel=>exact⟨m,b,by have:=hsm.out;rw[hno.out]at this;show Srch _ _ _ _ _;simpa using this,HO6,hb5,hbk5,hbl5⟩
     case measure=>omega
theorem ac2 (a b:ByteArray):leT2 a b=decide (a.data.toList<=b.data.toList):=by
 unfold leT2;rw[bytesLess_eq,Lib.toList_data,Lib.toList_data]
 by_cases h:a.data.toList<b.data.toList
 ·have:a.data.toList<=b.data.toList:=List.le_of_lt h;simp[h,this]
 ·by_cases e:a.data.toList=b.data.toList
  ·have:a.data.toList<=b.data.toList:=by rw[e];exact List.le_refl _
   simp[e]
  ·have:¬a.data.toList<=b.data.toList:=fun hle=>by
    rcases List.le_iff_lt_or_eq.1 hle with h1|h1
    ·exact h h1
    ·exact e h1
   have e':(a.data.toList==b.data.toList)=false:=by simpa using e
   rw[e',decide_eq_false h,decide_eq_false this];rfl
theorem alG (a b c:ByteArray)(h:leT2 a b=true)(k:leT2 b c=true):leT2 a c=true:=by
 rw[ac2]at *;exact decide_eq_true (List.le_trans (of_decide_eq_true h) (of_decide_eq_true k))
theorem alH (a b:ByteArray):leT2 a b=true\/leT2 b a=true:=by
 rw[ac2,ac2];rcases List.le_total a.data.toList b.data.toList with h|h
 ·exact .inl (decide_eq_true h)
 ·exact .inr (decide_eq_true h)
theorem abg {a b:ByteArray}(h:a.data.toList=b.data.toList):a=b:=by
 cases a;cases b;congr;exact Array.toList_inj.1 h
theorem aoO (a b:ByteArray)(h:leT2 a b=true)(k:leT2 b a=true):a=b:=by
 rw[ac2]at *;exact abg (List.le_antisymm (of_decide_eq_true h) (of_decide_eq_true k))
theorem insB_perm (out:List ByteArray)(s:ByteArray):(ahr out s).Perm (s::out):=by
 unfold ahr;have h:=List.take_append_drop (amd out s) out;rw[List.append_assoc,List.singleton_append];refine List.perm_middle.trans ?_;rw[h]
theorem aoP (a:ByteArray)(out:List ByteArray)(s:ByteArray):ahr (a::out) s=if leT2 a s then a::ahr out s else s::a::out:=by
 unfold ahr amd;rw[List.takeWhile_cons]
 split<;>simp
theorem insB_sorted (out:List ByteArray)(s:ByteArray)(h:out.Pairwise fun a b=>leT2 a b=true):(ahr out s).Pairwise fun a b=>leT2 a b=true:=by
 induction out with
 | nil=>simp[ahr,amd]
 | cons a out ih=>
  rw[aoP];rw[List.pairwise_cons]at h
  split
  ·rename_i hle
   refine List.pairwise_cons.2 ⟨fun x hx=>?_,ih h.2⟩;rcases List.mem_cons.1 ((insB_perm out s).mem_iff.1 hx) with rfl|hx
   ·exact hle
   ·exact h.1 x hx
  ·rename_i hle
   have h1:leT2 s a=true:=(alH s a).resolve_right hle;refine List.pairwise_cons.2 ⟨fun x hx=>?_,List.pairwise_cons.2 h⟩;rcases List.mem_cons.1 hx with rfl|hx
   ·exact h1
   ·exact alG s a x h1 (h.1 x hx)
theorem aoQ (xs:List ByteArray):(adV xs).Perm xs:=by
 have:∀(l out:List ByteArray),(l.foldl ahr out).Perm (out++l):=by
  intro l;induction l with
  | nil=>intro out;simp
  | cons a l ih=>
   intro out;refine(ih _).trans ?_;refine((insB_perm out a).append_right l).trans ?_;exact List.perm_middle.symm
 exact this xs []
theorem ajm (xs:List ByteArray):(adV xs).Pairwise fun a b=>leT2 a b=true:=by
 have:∀(l out:List ByteArray),(out.Pairwise fun a b=>leT2 a b=true)->(l.foldl ahr out).Pairwise fun a b=>leT2 a b=true:=by
  intro l;induction l with
  | nil=>intro out h;exact h
  | cons a l ih=>intro out h;exact ih _ (insB_sorted out a h)
 exact this xs [] List.Pairwise.nil
theorem adw (l:List Tm):(srtT l).Pairwise fun a b=>a.pr<=b.pr:=by
 have:=List.pairwise_mergeSort (le:=fun a b:Tm=>decide (a.pr<=b.pr)) (fun a b c h k=>decide_eq_true (List.le_trans (of_decide_eq_true h) (of_decide_eq_true k)))
  (fun a b=>by
   rcases List.le_total a.pr b.pr with h|h
   ·simp[h]
   ·simp[h]) l
 exact this.imp fun h=>of_decide_eq_true h
theorem agC (l:List Tm):adV (l.map S)=(srtT l).map S:=by
 refine List.Perm.eq_of_pairwise (le:=fun a b=>leT2 a b=true) (fun a b _ _ h k=>aoO a b h k) (ajm _) ?_ ?_
 ·refine List.pairwise_map.2 ((adw l).imp fun {a b} h=>?_);rw[ac2];exact decide_eq_true (by simpa [aaN] using h)
 ·exact(aoQ _).trans (((List.mergeSort_perm l _).symm).map S)
theorem afx (l:List Tm)(h:l≠[]):aby ⟨#[38]⟩ (l.map S)=S (joinR .par l):=by
 induction l with
 | nil=>exact absurd rfl h
 | cons a l ih=>
  cases l with
  | nil=>rfl
  | cons b l=>
   have:=ih (by simp);simp only[List.map_cons]at this ⊢
   show (⟨#[40]⟩:ByteArray)++S a++_++aby _ (S b::l.map S)++(⟨#[41]⟩:ByteArray)=_;rw[this];refine abg ?_;simp[S,joinR,Tm.pr]
theorem aiD (l:List Tm)(h:l≠[]):aby ⟨#[43]⟩ (l.map S)=S (joinR .sum l):=by
 induction l with
 | nil=>exact absurd rfl h
 | cons a l ih=>
  cases l with
  | nil=>rfl
  | cons b l=>
   have:=ih (by simp);simp only[List.map_cons]at this ⊢
   show (⟨#[40]⟩:ByteArray)++S a++_++aby _ (S b::l.map S)++(⟨#[41]⟩:ByteArray)=_;rw[this];refine abg ?_;simp[S,joinR,Tm.pr]
theorem avL (sg:ByteArray)(hsg:sg.size<=1)(ts:List Tm)(v:Value)(n base:Nat)(w:World)(h:w.ownsRow base 9 1 v n (ts.map sv))(hn:n=ts.length)(hn1:1<=n)(hn2:n<=100)(ht:∀t∈ts,t.pr.length<=1000) : Calls prog 156 #[v,.string sg] w fun e w'=>e=.returned (.string (aby sg (ts.map S)))/\w=w':=by
 rcases h.2 with⟨_,h0⟩|⟨g,cap,cur,rfl,h2,h3,h4,h5,h6,h7⟩
 ·omega
 ·refine afU w g n cap cur (ts.map S) sg (by rw[List.length_map];exact hn) hn1 hn2 hsg (fun x hx=>?_) (fun j hj=>?_) h3
  ·obtain⟨t,htm,rfl⟩:=List.mem_map.1 hx;rw[aan];exact ht t htm
  ·have hj':j<ts.length:=by simpa using hj
   have:=ab7 h j (sv ts[j]) (by rw[List.getElem?_map,List.getElem?_eq_getElem hj'];rfl);rw[aof,cell_of_row w g j cur _ _ h3]at this
   rw[this,List.getElem_map];rfl
theorem avM (sg:ByteArray)(v:Value)(base:Nat)(w:World)(h:w.ownsRow base 9 1 v 0 []) : Calls prog 156 #[v,.string sg] w fun e w'=>e=.returned (.string ⟨#[48]⟩)/\w=w':=by
 obtain⟨p,cap,rfl⟩:=aaD h;exact afV p cap sg w
theorem avN (args:Array Value)(w:World):(callFunc 178 args).run prog w=.ok (.enter 178 args) w:=by kernel_rfl
theorem avO (j g:Nat)(hj:j<256)(n0:Int)(w:World)(h1:w.cell? ⟨g,j,none⟩=some (.int .u8 n0)) : Calls prog 178 #[.int .u8 ((j:Int)),.pointer (some ⟨g,0,none⟩)] w fun e w'=>e=.returned (.int .u8 n0)/\w=w':=by
 have hj2:(j:Int)<256:=by omega
 go_enter func178,ntmps178
 go_wp2_with fail;go_ret;exact⟨rfl,rfl⟩
theorem atw (c:UInt8)(D:Array Value)(L:UInt8->UInt8)(v:Value)(hD:DrOf D L v)(g:Nat)(w:World)(h:w.heap[g]?=some (.cells D 127 (0,0))) : Calls prog 178 (#[.int .u8 (c.toNat:Int)]++#[.pointer (some ⟨g,0,none⟩)]) w fun e w'=>e=.returned (.int .u8 ((L c).toNat:Int))/\w=w':=by
 have h1:=c.toNat_lt;have h3:UInt8.ofNat c.toNat=c:=u8_ext (by rw[UInt8.toNat_ofNat'];omega);have:=avO (c.toNat) g (by omega) ((L c).toNat:Int) w (by rw[cell_of_row w g _ D _ _ h,hD.at_ _ (by omega),h3]);exact this
theorem alI (t:Tm)(D:Array Value)(L:UInt8->UInt8)(vL:Value)(hs:DrOf D L vL)(g:Nat)(v:World)(h:v.heap[g]?=some (.cells D 127 (0,0))) :
  Calls prog 175 #[.iface (aaB t) (pay t),.func (.func 178) #[] #[.pointer (some ⟨g,0,none⟩)]] v fun e v'=>e=.returned (.iface (aaB (t.mapU L)) (pay (t.mapU L)))/\Zb v v':=
 aex t 178 _ L avN v fun c hc v1 b1=>atw c D L vL hs g v1 (aau h b1)
end Go.Proofs.YtalegefnppbkdaaGreat.T1
