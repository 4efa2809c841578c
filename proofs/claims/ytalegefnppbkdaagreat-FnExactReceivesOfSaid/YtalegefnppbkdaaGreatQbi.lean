/- Texts of the proof. No conditions. -/
import Derived.Test.YtalegefnppbkdaaGreatQbh
import Derived.Sort.Walk0
namespace Go.Proofs.YtalegefnppbkdaaGreat.T1
open Go.Proofs.Tryz
set_option maxHeartbeats 8000000
open Go.RowKit
set_option maxRecDepth 100000
set_option linter.unusedVariables false
set_option linter.unusedSimpArgs false
def leT2 (a b:ByteArray):Bool:=Op.bytesLess a.toList b.toList || a.toList==b.toList
def amd (out:List ByteArray)(s:ByteArray):Nat:=(out.takeWhile fun y=>leT2 y s).length
def ahr (out:List ByteArray)(s:ByteArray):List ByteArray:=out.take (amd out s)++[s]++out.drop (amd out s)
def adV (xs:List ByteArray):List ByteArray:=xs.foldl ahr []
theorem atr (out:List ByteArray)(s:ByteArray):amd out s<=out.length:=List.Sublist.length_le (List.takeWhile_sublist _)
theorem aqR (out:List ByteArray)(s:ByteArray):(ahr out s).length=out.length+1:=by
 have:=atr out s;unfold ahr;simp only[lla,List.length_take,List.length_drop,List.length_cons,List.length_nil];omega
theorem aiC (xs:List ByteArray)(i:Nat)(h:i<xs.length):adV (xs.take (i+1))=ahr (adV (xs.take i)) xs[i]:=by
 unfold adV;rw[List.take_succ_eq_append_getElem h,List.foldl_append];rfl
theorem acG (xs:List ByteArray):(adV xs).length=xs.length:=by
 have:∀(l out:List ByteArray),(l.foldl ahr out).length=out.length+l.length:=by
  intro l;induction l with
  | nil=>intro out;rfl
  | cons a l ih=>intro out;simp only[List.foldl_cons,ih,aqR,List.length_cons];omega
 have:=this xs []
 simpa [adV] using this
theorem ats (out:List ByteArray)(s:ByteArray)(k:Nat)(hk:k<=out.length)(h:∀j (hj:j<out.length),j<k->leT2 out[j] s=true)(h2:∀hk:k<out.length,leT2 out[k] s=false):amd out s=k:=by
 unfold amd
 induction out generalizing k with
 | nil=>simp at hk;simp[hk]
 | cons a out ih=>
  cases k with
  | zero=>
   have:=h2 (by simp);simp only[List.getElem_cons_zero]at this
   simp[List.takeWhile_cons,this]
  | succ k=>
   have h0:=h 0 (by simp) (by omega);simp only[List.getElem_cons_zero]at h0;rw[List.takeWhile_cons,if_pos h0,List.length_cons];rw[ih k (by simpa using hk) (fun j hj hjk=>by have:=h (j+1) (by simp;omega) (by omega);simpa using this) (fun hk=>by have:=h2 (by simp;omega);simpa using this)]
theorem axx (g k j:Nat):(⟨g,k,none⟩:Addr).add j=⟨g,k+j,none⟩:=by
 unfold Addr.add
 split
 ·rename_i h;rw[h];rfl
 ·rfl
theorem ajl (xs:List ByteArray)(g n cap:Nat)(C:Array Value)(hn:n=xs.length)(h1:1<=n)(h2:n<=1000)(w:World)(hg:w.heap[g]?=some (.cells C 9 (0,0)))(hC:∀j (h:j<xs.length),C[j]?=some (.string xs[j])) : Calls prog 66 #[.slice (some ⟨g,0,none⟩) n cap] w (RowN (adV xs) w):=by
 obtain⟨i0,hi,hz0,hz1,hz2⟩:=info_parts Tryz.infoS;have HN:=qz hn;have HG:=qz hg;have HC:=qz hC;clear hn hg hC
 go_enter func66,ntmps66
 go_wp2_with fail
 go_loopw [3,10] (fun v c wr=>∃i:Nat,i<=n/\c=.int .i64 (i:Int)/\Hid ((i=0/\v=.slice none 0 0)\/(0<i/\∃g' cap',v=.slice (some ⟨g',0,none⟩) i cap'/\wr.ownsRow w.heap.size 9 1 (.slice (some ⟨g',0,none⟩) i cap') i ((adV (xs.take i)).map Value.string)))/\Zb w wr) (fun _ c _=>n - (intOf c).toNat)
 case atStart=>exact⟨0,Nat.zero_le _,rfl,.inl ⟨rfl,rfl⟩,Below.refl _ _⟩
 case round=>
  obtain⟨i,hin,rfl,hv,hbw⟩:=hrel
  by_cases hlt:i<n
  ·have hix:i<xs.length:=by have:=HN.out;omega
   obtain⟨s,hs⟩:∃s,s=xs[i]:=⟨_,rfl⟩;have hgw:=(hbw.block g (lt_of_block HG.out)).trans HG.out;have c0:wr.cell? ⟨g,i,none⟩=some (.string s):=by rw[cell_of_row wr g _ C _ _ hgw,hs];exact HC.out i hix
   have HS:=qz hs;have Bw:=qz hbw;clear hs hgw hbw
   by_cases hi0:i=0
   ·subst hi0
    obtain rfl:u3=.slice none 0 0:=by
     rcases hv.out with⟨_,h⟩|⟨h,_⟩
     ·exact h
     ·omega
    clear hv;have hsz:=Bw.out.size;have hmade:(wr.alloc (.cells #[] 9)).ownsRow w.heap.size 9 1 (.slice (some ⟨wr.heap.size,0,none⟩) 0 0) 0 []:=World.ownsRow_made wr #[] 0 hsz (by unfold maxLen;omega) rfl;have HM:=qz hmade;clear hmade;go_wp2_with fail;refine wp_loop_rounds 1 ?_;rw[rounds_succ]
    go_wp2_with (first
     | (at_builtin;refine wpList_append_own_none rfl (.tmp 28) (.tmp 31) 29 rfl w.heap.size 9 i0 1 underlying29 hi (.slice (some ⟨wr.heap.size,0,none⟩) 0 0) 0 [] rfl HM.out rfl ?_)
     | (at_builtin;refine wpList_append_own_at _ rfl (.tmp 32) (.tmp 34) 29 rfl w.heap.size 9 i0 (.string ⟨#[]⟩) 1 16 underlying29 hi hz0 hz1 hz2 rfl (by decide) (.slice (some ⟨wr.heap.size,0,none⟩) 0 0) 0 [] rfl (HM.out.alloc _) ⟨wr.heap.size+1,0,none⟩ 1 1 [.string s] rfl rfl (abq wr _ [.string s] 9) (fun u hu=>by simp at hu;subst hu;rfl) ?c2 ?c3 ?c4 ?_))
    case c2=>unfold maxLen;omega
    case c3=>omega
    case c4=>simp;omega
    intro v1 w1 hown1 hgrow1 _ hat;have bl1:Zb w w1:=Below.grown ((Bw.out.alloc hsz _).alloc (by simp;omega) _) hgrow1 (by simp;omega) (fun k hk=>by simp[Value.ownBlock]at hk;omega);have hown2:w1.ownsRow w.heap.size 9 1 v1 1 [.string s]:=hown1;obtain⟨g',cap',rfl⟩:=abD hown2 (by omega);have HO:=qz hown2;clear hown1 hown2 hgrow1 hat
    go_wp2_with (at_builtin;refine wpList_append_own_none rfl (.tmp 36) (.tmp 39) 29 rfl w.heap.size 9 i0 1 underlying29 hi (.slice (some ⟨g',0,none⟩) 1 cap') 1 [.string s] rfl HO.out rfl ?_)
    go_wp2_with fail
    go_roundw
    case rel=>
     refine⟨1,by omega,by push_cast;rfl,.inr ⟨by omega,g',cap',rfl,?_⟩,bl1⟩;have e:adV (xs.take (0+1))=[s]:=by rw[aiC xs 0 hix,HS.out];rfl
     have e':adV (xs.take 1)=[s]:=e;rw[e'];exact HO.out
    case measure=>simp[intOf];omega
   ·obtain⟨g',cap',rfl,hown⟩:∃g' cap',u3=.slice (some ⟨g',0,none⟩) i cap'/\wr.ownsRow w.heap.size 9 1 (.slice (some ⟨g',0,none⟩) i cap') i ((adV (xs.take i)).map Value.string):=by
     rcases hv.out with⟨h,_⟩|⟨_,g',cap',h,h'⟩
     ·exact absurd h hi0
     ·exact⟨g',cap',h,h'⟩
    obtain⟨ys,hys⟩:∃ys,ys=adV (xs.take i):=⟨_,rfl⟩;have hyl:Hid (ys.length=i):=by show _=_;rw[hys,acG,List.length_take];omega
    rw[<-hys]at hown;obtain⟨C',hC0,hC1,hCb⟩:=abw hown
    have hcap:i<=cap'/\cap'<=9223372036854775807:=by
     rcases hown.2 with⟨h,_⟩|⟨_,_,_,h,_,_,h3,h4,_⟩
     ·cases h
     ·cases h;unfold maxLen at h4;exact⟨h3,h4⟩
    have HO:=qz hown;have HYS:=qz hys;have HC0:=qz hC0;have hg'l:g'<wr.heap.size:=lt_of_block hC0
    have HC1:Hid (∀j (hj:j<ys.length),wr.cell? ⟨g',j,none⟩=some (.string ys[j])):=fun j hj=>by
     rw[cell_of_row wr g' _ C' _ _ hC0];have:=hC1 j (by simpa using hj);simpa using this
    have hsz:=Bw.out.size;have hmade:(wr.alloc (.cells #[] 9)).ownsRow w.heap.size 9 1 (.slice (some ⟨wr.heap.size,0,none⟩) 0 0) 0 []:=World.ownsRow_made wr #[] 0 hsz (by unfold maxLen;omega) rfl;have HM:=qz hmade;clear hmade hown hys hC0 hC1 hv;go_wp2_with fail
    go_loop [6] (fun c=>∃k:Nat,k<=i/\c=.int .i64 (k:Int)/\Hid (∀j (hj:j<ys.length),j<k->leT2 ys[j] s=true)) (fun c=>i - (intOf c).toNat)
    case atStart=>exact⟨0,Nat.zero_le _,rfl,fun j _ h=>by omega⟩
    case round=>
     obtain⟨k,hki,rfl,hle⟩:=hrel
     by_cases hgo:∃hk:k<ys.length,leT2 ys[k] s=true
     ·obtain⟨hk,hlek⟩:=hgo;have hk':k<i:=by have:=hyl.out;omega
      have c1:=HC1.out k hk
      have hnext:Hid (∀j (hj:j<ys.length),j<k+1->leT2 ys[j] s=true):=fun j hj hjk=>by
       by_cases e:j=k
       ·subst e;exact hlek
       ·exact hle.out j hj (by omega)
      obtain⟨Y,hY⟩:∃Y,Y=ys[k]:=⟨_,rfl⟩;rw[<-hY]at c1 hlek;unfold leT2 at hlek;clear hY;rcases hb1:Op.bytesLess Y.toList s.toList with _|_
      ·rw[hb1,Bool.false_or]at hlek;go_wp2_with fail
       go_round
       case rel=>exact⟨k+1,by omega,by go_num,hnext⟩
       case measure=>simp[intOf];omega
      ·clear hlek;go_wp2_with fail
       go_round
       case rel=>exact⟨k+1,by omega,by go_num,hnext⟩
       case measure=>simp[intOf];omega
     ·have hpos:Hid (amd ys s=k):=ats ys s k (by have:=hyl.out;omega) hle.out (fun hk=>by
       cases h:leT2 ys[k] s with
       | false=>rfl
       | true=>exact absurd ⟨hk,h⟩ hgo)
      have hbd:k<i->∃Y,wr.cell? ⟨g',k,none⟩=some (.string Y)/\Op.bytesLess Y.toList s.toList=false/\(Y.toList==s.toList)=false:=fun hk=>by
       have hk':k<ys.length:=by have:=hyl.out;omega
       refine⟨ys[k],HC1.out k hk',?_⟩
       have:leT2 ys[k] s=false:=by
        cases h:leT2 ys[k] s with
        | false=>rfl
        | true=>exact absurd ⟨hk',h⟩ hgo
       unfold leT2 at this
       simpa using this
      clear hgo;have hki2:(k:Int)<=(i:Int):=by omega
      have hki3:(k:Int)<=(cap':Int):=by omega
      have hki4:(0:Int)<=(k:Int):=by omega
      have hend:Hid (∀(W:World),Zb w W->(∀j,j<wr.heap.size->W.heap[j]?=wr.heap[j]?)->∀j u,((ys.drop k).map Value.string)[j]?=some u->W.cell? ⟨g',k+j,none⟩=some u):=fun W _ hW j u hu=>by
       rw[cell_of_row W g' _ C' _ _ ((hW g' hg'l).trans HC0.out)];rw[List.getElem?_map,List.getElem?_drop]at hu;rw[<-cell_of_row wr g' _ C' _ _ HC0.out]
       cases hy:ys[k+j]? with
       | none=>rw[hy]at hu;cases hu
       | some y=>
        rw[hy]at hu;obtain⟨hlt',e⟩:=List.getElem?_eq_some_iff.1 hy;have:=HC1.out (k+j) hlt';rw[this,e];exact hu
      have htake:Hid (∀(W:World),(∀j,j<wr.heap.size->W.heap[j]?=wr.heap[j]?)->∀j u,((ys.take k).map Value.string)[j]?=some u->W.cell? ((⟨g',0,none⟩:Addr).add j)=some u):=fun W hW j u hu=>by
       rw[aof,cell_of_row W g' _ C' _ _ ((hW g' hg'l).trans HC0.out),<-cell_of_row wr g' _ C' _ _ HC0.out];rw[List.getElem?_map,List.getElem?_take]at hu
       split at hu
       ·cases hy:ys[j]? with
        | none=>rw[hy]at hu;cases hu
        | some y=>
         rw[hy]at hu;obtain⟨hlt',e⟩:=List.getElem?_eq_some_iff.1 hy;have:=HC1.out j hlt';rw[this,e];exact hu
       ·cases hu
      have hkl:k<=ys.length:=by have:=hyl.out;omega
      have hstop:(k=i)\/(k<i/\∃Y,wr.cell? ⟨g',k,none⟩=some (.string Y)/\Op.bytesLess Y.toList s.toList=false/\(Y.toList==s.toList)=false):=by
       by_cases h:k<i
       ·exact .inr ⟨h,hbd h⟩
       ·exact .inl (by omega)
      have hnl:Hid (((ys.take k).map Value.string).length=k * 1):=by show _=_;rw[List.length_map,List.length_take,Nat.min_eq_left hkl,Nat.mul_one]
      have hnl2:Hid (((ys.drop k).map Value.string).length=(ys.length - k) * 1):=by show _=_;rw[List.length_map,List.length_drop,Nat.mul_one]
      have Hki:=qz hki;clear hbd hle hyl
      have hcases:(k=i/\k=cap')\/(k=i/\k<cap')\/(k<i/\∃Y,wr.cell? ⟨g',k,none⟩=some (.string Y)/\Op.bytesLess Y.toList s.toList=false/\(Y.toList==s.toList)=false):=by
       rcases hstop with h|h
       ·by_cases hc:k=cap'
        ·exact .inl ⟨h,hc⟩
        ·exact .inr (.inl ⟨h,by omega⟩)
       ·exact .inr (.inr h)
      have hylen:=qz (show ys.length=i from by have:=HYS.out;rw[this,acG,List.length_take];omega);have hi1000:i<=1000:=by omega
      have hnl3:Hid (((ys.drop k).map Value.string).length=(i - k) * 1):=by show _=_;rw[hnl2.out,hylen.out]
      have hfinal:Hid (∀(W:World) (v:Value),W.ownsRow w.heap.size 9 1 v (i+1) (((ys.take k++[s]).map Value.string)++(ys.drop k).map Value.string)->W.ownsRow w.heap.size 9 1 v (i+1) ((adV (xs.take (i+1))).map Value.string)):=fun W v h=>by
       have e1:adV (xs.take (i+1))=ahr ys s:=by rw[aiC xs i hix,<-HYS.out,<-HS.out]
       rw[e1];unfold ahr;rw[hpos.out,List.map_append];exact h
      have hdrop:Hid (k=i->ys.drop k=[]):=fun e=>List.drop_of_length_le (by have:=hylen.out;omega);clear hstop;rcases hcases with⟨rfl,rfl⟩|⟨rfl,hkc⟩|⟨hklt,Y,cY,bY,eY⟩
      all_goals
       go_wp2_with ((at_builtin;refine wpList_append_own_at _ rfl (.tmp 28) (.tmp 31) 29 rfl w.heap.size 9 i0 (.string ⟨#[]⟩) 1 16 underlying29 hi hz0 hz1 hz2 rfl (by decide) (.slice (some ⟨wr.heap.size,0,none⟩) 0 0) 0 [] rfl HM.out ⟨g',0,none⟩ k _ ((ys.take k).map Value.string) rfl hnl.out (htake.out _ (fun j hj=>Below.heap_alloc wr _ j hj)) (ajk _) ?c2 ?c3 ?c4 ?_))
       case c2=>unfold maxLen;omega
       case c3=>omega
       case c4=>first|omega|(simp;omega)
       intro v1 w1 hown1 hgrow1 _ hat1;have hsz1:wr.heap.size+1<=w1.heap.size:=by have:=hgrow1.size;simpa using this
       have bl1:Zb w w1:=Below.grown (Bw.out.alloc hsz _) hgrow1 (by simp;omega) (fun j hj=>by simp[Value.ownBlock]at hj;omega);have hk1:Hid (∀j,j<wr.heap.size->w1.heap[j]?=wr.heap[j]?):=fun j hj=>(hgrow1.block j (by simp;omega) (fun e=>by simp[Value.ownBlock]at e;omega)).trans (Below.heap_alloc wr _ j hj)
       have hv1:v1.ownBlock=none\/∃b,v1.ownBlock=some b/\wr.heap.size<=b:=by
        rcases hat1 with h|h
        ·exact .inr ⟨wr.heap.size,by rw[h];rfl,nl _⟩
        ·exact .inr ⟨_,h,by simp⟩
       have HO1:=qz hown1;have Bl1:=qz bl1;have Hv1:=qz hv1;clear hown1 hgrow1 hat1 bl1 hv1
       go_wp2_with ((at_builtin;refine wpList_append_own_at _ rfl (.tmp 32) (.tmp 34) 29 rfl w.heap.size 9 i0 (.string ⟨#[]⟩) 1 16 underlying29 hi hz0 hz1 hz2 rfl (by decide) _ _ _ rfl (HO1.out.alloc _) ⟨w1.heap.size,0,none⟩ 1 1 [.string s] rfl rfl (abp w1 [.string s] 9) (fun u hu=>by simp at hu;subst hu;rfl) ?d2 ?d3 ?d4 ?_))
       case d2=>unfold maxLen;omega
       case d3=>omega
       case d4=>first|omega|(simp;omega)
       intro v2 w2 hown2 hgrow2 _ hat2
       have bl2:Zb w w2:=Below.grown (Bl1.out.alloc (by omega) _) hgrow2 (by simp;omega) (fun j hj=>by
        rcases Hv1.out with h|⟨b,h,hb⟩
        ·rw[h]at hj;cases hj
        ·rw[h]at hj;cases hj;omega)
       have hk2:Hid (∀j,j<wr.heap.size->w2.heap[j]?=wr.heap[j]?):=fun j hj=>(hgrow2.block j (by simp;omega) (fun e=>by
        rcases Hv1.out with h|⟨b,h,hb⟩
        ·rw[h]at e;cases e
        ·rw[h]at e;cases e;omega)).trans ((Below.heap_alloc w1 _ j (by omega)).trans (hk1.out j hj))
       have hsz2:wr.heap.size<=w2.heap.size:=by have:=hgrow2.size;simp at this;omega
       have hv2:∀b,v2.ownBlock=some b->wr.heap.size<=b:=fun b hb=>by
        rcases hat2 with h|h
        ·rcases Hv1.out with h'|⟨b',h',hb'⟩
         ·rw[h,h']at hb;cases hb
         ·rw[h,h']at hb;cases hb;exact hb'
        ·rw[h]at hb;simp at hb;omega
       have HO2:=qz hown2;have Bl2:=qz bl2;have Hv2:=qz hv2;clear hown2 hgrow2 hat2 bl2 hv2 Bl1 Hv1 hk1 HO1
      all_goals have hE:=qz (hend.out w2 Bl2.out hk2.out)
      ·go_wp2_with ((at_builtin;refine wpList_append_own_at _ rfl (.tmp 36) (.tmp 39) 29 rfl w.heap.size 9 i0 (.string ⟨#[]⟩) 1 16 underlying29 hi hz0 hz1 hz2 rfl (by decide) _ _ _ rfl HO2.out _ _ _ [] rfl rfl (fun j u h=>by simp at h) (fun u h=>by simp at h) ?a2 ?a3 ?a4 ?_))
       case a2=>unfold maxLen;omega
       case a3=>omega
       case a4=>omega
       intro v3 w3 hown3 hgrow3 _ hat3;have bl3:Zb w w3:=Below.grown Bl2.out hgrow3 (by omega) (fun j hj=>by have:=Hv2.out j hj;omega)
       have hfin:w3.ownsRow w.heap.size 9 1 v3 (k+1) ((adV (xs.take (k+1))).map Value.string):=by
        refine hfinal.out _ _ ?_;rw[hdrop.out (by first|rfl|trivial)];simpa [List.map_take] using hown3
       obtain⟨g3,cap3,rfl⟩:=abD hfin (by omega);have HF:=qz hfin;clear hown3 hgrow3 hat3 hfin;go_wp2_with fail
       go_roundw
       case rel=>exact⟨k+1,by omega,by push_cast;rfl,.inr ⟨by omega,g3,cap3,rfl,HF.out⟩,bl3⟩
       case measure=>simp[intOf];omega
      ·go_wp2_with ((at_builtin;refine wpList_append_own_at _ rfl (.tmp 36) (.tmp 39) 29 rfl w.heap.size 9 i0 (.string ⟨#[]⟩) 1 16 underlying29 hi hz0 hz1 hz2 rfl (by decide) _ _ _ rfl HO2.out ⟨g',k,none⟩ 0 (cap' - k) [] rfl rfl (fun j u h=>by simp at h) (fun u h=>by simp at h) ?a2 ?a3 ?a4 ?_))
       case a2=>unfold maxLen;omega
       case a3=>omega
       case a4=>omega
       intro v3 w3 hown3 hgrow3 _ hat3;have bl3:Zb w w3:=Below.grown Bl2.out hgrow3 (by omega) (fun j hj=>by have:=Hv2.out j hj;omega)
       have hfin:w3.ownsRow w.heap.size 9 1 v3 (k+1) ((adV (xs.take (k+1))).map Value.string):=by
        refine hfinal.out _ _ ?_;rw[hdrop.out (by first|rfl|trivial)];simpa [List.map_take] using hown3
       obtain⟨g3,cap3,rfl⟩:=abD hfin (by omega);have HF:=qz hfin;clear hown3 hgrow3 hat3 hfin;go_wp2_with fail
       go_roundw
       case rel=>exact⟨k+1,by omega,by push_cast;rfl,.inr ⟨by omega,g3,cap3,rfl,HF.out⟩,bl3⟩
       case measure=>simp[intOf];omega
      ·go_wp2_with ((at_builtin;refine wpList_append_own_at _ rfl (.tmp 36) (.tmp 39) 29 rfl w.heap.size 9 i0 (.string ⟨#[]⟩) 1 16 underlying29 hi hz0 hz1 hz2 rfl (by decide) _ _ _ rfl HO2.out ⟨g',k,none⟩ (i - k) (cap' - k) ((ys.drop k).map Value.string) rfl hnl3.out (fun j u h=>by have:=hE.out j u h;rw[show (⟨g',k,none⟩:Addr).add j=⟨g',k+j,none⟩ from axx g' k j];exact this) (ajk _) ?a2 ?a3 ?a4 ?_))
       case a2=>unfold maxLen;omega
       case a3=>omega
       case a4=>omega
       intro v3 w3 hown3 hgrow3 _ hat3;have bl3:Zb w w3:=Below.grown Bl2.out hgrow3 (by omega) (fun j hj=>by have:=Hv2.out j hj;omega)
       have hfin:w3.ownsRow w.heap.size 9 1 v3 (i+1) ((adV (xs.take (i+1))).map Value.string):=by
        refine hfinal.out _ _ ?_;have h3:=hown3;rw[show k+1+(i - k)=i+1 by omega]at h3;simpa [List.map_take,List.map_drop] using h3
       obtain⟨g3,cap3,rfl⟩:=abD hfin (by omega);have HF:=qz hfin;clear hown3 hgrow3 hat3 hfin;go_wp2_with fail
       go_roundw
       case rel=>exact⟨i+1,by omega,by push_cast;rfl,.inr ⟨by omega,g3,cap3,rfl,HF.out⟩,bl3⟩
       case measure=>simp[intOf];omega
  ·obtain rfl:i=n:=by omega
   have hfin:∃g' cap',u3=.slice (some ⟨g',0,none⟩) i cap'/\wr.ownsRow w.heap.size 9 1 (.slice (some ⟨g',0,none⟩) i cap') i ((adV (xs.take i)).map Value.string):=by
    rcases hv.out with⟨h,_⟩|⟨_,g',cap',h,h'⟩
    ·omega
    ·exact⟨g',cap',h,h'⟩
   obtain⟨g',cap',rfl,hown⟩:=hfin;have HO:=qz hown;have hxl:=HN.out;clear hown hv;go_wp2_with fail;go_ret;have e:adV (xs.take i)=adV xs:=by rw[List.take_of_length_le (by omega)]
   have el:i=(adV xs).length:=by rw[acG];exact hxl
   have:=HO.out;rw[e]at this
   exact⟨g',cap',(by rw[<-el];rfl),by rw[<-el];exact this,hbw⟩
end Go.Proofs.YtalegefnppbkdaaGreat.T1
