/- Texts of the proof. No conditions. -/
import Derived.Test.YtihmcgcgjmbmhaaGreatQax
import Derived.Test.YtihmcgcgjmbmhaaGreatQaz
namespace Go.Proofs.YtihmcgcgjmbmhaaGreat.T1
open Go.Proofs.Tryz
set_option maxHeartbeats 8000000
open Go.RowKit
set_option maxRecDepth 100000
set_option linter.unusedVariables false
set_option linter.unusedSimpArgs false
def aea (bs:List Bool)(j:Nat):Bool:=(bs.take j).any id
theorem af8 (bs:List Bool)(j:Nat)(h:j<bs.length):aea bs (j+1)=(aea bs j || bs[j]):=by
 unfold aea;rw[List.take_succ_eq_append_getElem h,List.any_append];simp
theorem ar5 (out:List ByteArray)(s x:ByteArray):x∈ahR out s↔x∈out\/x=s:=by
 unfold ahR
 have h:x∈out↔x∈out.take (amL out s)\/x∈out.drop (amL out s):=by
  conv=>lhs;rw[<-List.take_append_drop (amL out s) out]
  exact lma
 rw[h];simp only[lma,List.mem_singleton]
 grind
theorem ak9 (xs:List ByteArray)(x:ByteArray):x∈ad6 xs↔x∈xs:=by
 have:∀(l out:List ByteArray),x∈l.foldl ahR out↔x∈out\/x∈l:=by
  intro l;induction l with
  | nil=>intro out;simp
  | cons a l ih=>intro out;simp only[List.foldl_cons,ih,ar5,List.mem_cons];grind
 have:=this xs []
 simpa [ad6] using this
theorem axo (X K:ByteArray)(qs rs:List ByteArray)(bs:List Bool)(hq:qs≠[])(hqr:rs.length=qs.length)(hqb:bs.length=qs.length)(hqn:qs.length<=100)(hrs:∀r∈rs,r.size<=1000)(m:Nat)(br once:Bool) (HK:Ze 116 #[.string X] (.int .u8 43)) (HS:∀w,Calls prog 220 #[.string X] w (RowN qs w)) (HW:∀(j:Nat) (q r:ByteArray) (bb:Bool),qs[j]?=some q->rs[j]?=some r->bs[j]?=some bb->∀br w,MkAt w m br once->Calls prog 166 #[.pointer (some ⟨m,0,none⟩),.string q,.string K] w (MkP m br once r bb w))(w:World)(hm:MkAt w m br once) : Calls prog 209 #[.pointer (some ⟨m,0,none⟩),.string X,.string K] w (MkP m br once (abJ ⟨#[43]⟩ (ad6 rs)) (bs.any id) w):=by
 obtain⟨i0,hi,hz0,hz1,hz2⟩:=info_parts Tryz.infoS;have HK':=qz HK;have HS':=qz HS;have HW':=qz HW;have HM:=qz hm;have HQR:=qz hqr;have HQB:=qz hqb;have HRS:=qz hrs;have hq0:0<qs.length:=List.length_pos_iff.2 hq;clear HK HS HW hm hqr hqb hq hrs
 go_enter func209,ntmps209
 go_wp2_with fail;refine(HK'.out _).mono ?_;rintro e w' ⟨rfl,rfl⟩;go_wp2_with fail;refine(HS'.out _).mono ?_;rintro e w1 ⟨g,cap,rfl,ow,b1⟩;obtain⟨C,hC0,hC1,hCb⟩:=abH ow;have HC0:=qz hC0;have HC1:=qz hC1;have M1:=qz (HM.out.below b1);have O1:=qz ((Only.refl m w).below b1);have hgm:g≠m:=by have:=HM.out.lt;omega
 clear ow b1 hC0 hC1;go_wp2_with fail
 go_loopw [10,87] (fun v c wr=>∃j:Nat,j<=qs.length/\c=.int .i64 (j:Int)/\Hid (wr.ownsRow w.heap.size 9 1 v j ((rs.take j).map Value.string))/\Hid (wr.heap[g]?=some (.cells C 9 (0,0)))/\Hid (v.ownBlock≠some g/\v.ownBlock≠some m)/\Hid (MkAt wr m (br || aea bs j) once)/\Only m w wr) (fun _ c _=>qs.length - (intOf c).toNat)
 case atStart=>exact⟨0,Nat.zero_le _,rfl,World.ownsRow_nil _ _ _ _,HC0,⟨by simp[Value.ownBlock],by simp[Value.ownBlock]⟩,by have:=M1.out;simpa [Hid,aea] using this,O1.out⟩
 case round=>
  obtain⟨j,hj,rfl,hown,hg,hng,hMk,hon⟩:=hrel
  by_cases hlt:j<qs.length
  ·obtain⟨q,hq⟩:∃q,q=qs[j]:=⟨_,rfl⟩;obtain⟨r,hr⟩:∃r,r=rs[j]'(by have:=HQR.out;omega):=⟨_,rfl⟩;obtain⟨bb,hbb⟩:∃bb,bb=bs[j]'(by have:=HQB.out;omega):=⟨_,rfl⟩
   have HWj:Hid (∀br w,MkAt w m br once->Calls prog 166 #[.pointer (some ⟨m,0,none⟩),.string q,.string K] w (MkP m br once r bb w)):=by
    exact HW'.out j q r bb (by rw[hq];exact List.getElem?_eq_getElem hlt) (by rw[hr];exact List.getElem?_eq_getElem _) (by rw[hbb];exact List.getElem?_eq_getElem _)
   have c1:wr.cell? ⟨g,j,none⟩=some (.string q):=by
    rw[cell_of_row wr g _ C _ _ hg.out,hq];have:=HC1.out j (by simpa using hlt);simpa using this
   have hrs1:r.size<=1000:=by rw[hr];exact HRS.out _ (List.getElem_mem _)
   have hany:Hid (aea bs (j+1)=(aea bs j || bb)):=by show _=_;rw[hbb];exact af8 bs j _
   have htk:Hid ((rs.take (j+1)).map Value.string=(rs.take j).map Value.string++[.string r]):=by
    show _=_;rw[List.take_succ_eq_append_getElem (by have:=HQR.out;omega),List.map_append,hr];rfl
   have Hon:=qz hon;clear hq hr hbb hon;go_wp2_with fail;refine(HWj.out _ _ hMk.out).mono ?_;rintro e w2 ⟨rfl,m2,o2⟩;have hg2:=(o2.block g (lt_of_block hg.out) hgm).trans hg.out
   have hown2:w2.ownsRow w.heap.size 9 1 u10 j ((rs.take j).map Value.string):=by
    refine⟨hown.out.1,hown.out.2.imp id ?_⟩;rintro⟨g',cap',cur,hv,h2,h3,h4⟩;exact⟨g',cap',cur,hv,h2,(o2.block g' (lt_of_block h3) (fun e=>hng.out.2 (by rw[hv,<-e];rfl))).trans h3,h4⟩
   have Hg2:=qz hg2;have Hown2:=qz hown2;have M2:=qz m2;have O2:=qz (Hon.out.trans o2);have hs2:w.heap.size<=w2.heap.size:=O2.out.size;have hgl:=lt_of_block hg2;clear m2 o2 hg2 hown2 c1 hMk hg hown
   go_wp2_with ((at_builtin;refine wpList_append_own_at _ rfl (.tmp 91) (.tmp 96) 22 rfl w.heap.size 9 i0 (.string ⟨#[]⟩) 1 16 underlying22 hi hz0 hz1 hz2 rfl (by decide) _ _ _ rfl (Hown2.out.alloc _) ⟨w2.heap.size,0,none⟩ 1 1 [.string r] rfl rfl (aaR w2 [.string r] 9) (fun u hu=>by simp at hu;subst hu;rfl) ?c2 ?c3 ?c4 ?_))
   case c2=>unfold maxLen;omega
   case c3=>omega
   case c4=>first|omega|(simp;omega)
   intro v1 w3 hown1 hgrow1 _ hat;have hml:=M2.out.lt
   have hg3:Hid (w3.heap[g]?=some (.cells C 9 (0,0))):=by
    show _=_;rw[hgrow1.block g (by simp;omega) (fun e=>hng.out.1 e.symm)];exact(Below.heap_alloc w2 _ g hgl).trans Hg2.out
   have hM3:Hid (MkAt w3 m (br || aea bs (j+1)) once):=by
    have h:MkAt w3 m ((br || aea bs j) || bb) once:=(hgrow1.block m (by simp;omega) (fun e=>hng.out.2 e.symm)).trans ((Below.heap_alloc w2 _ m hml).trans M2.out);show MkAt _ _ _ _;rw[hany.out,<-Bool.or_assoc];exact h
   have hon3:Only m w w3:=⟨by rw[hgrow1.os];exact O2.out.os,by rw[hgrow1.tape];exact O2.out.tape,by rw[hgrow1.output];exact O2.out.output,by have:=hgrow1.size;simp at this;omega,fun i hi hb=>by
    rw[hgrow1.block i (by simp;omega) (fun e=>by have:=(Hown2.out.lt i e.symm).1;omega),Below.heap_alloc w2 _ i (by omega)]
    exact O2.out.block i hi hb⟩
   have hng3:Hid (v1.ownBlock≠some g/\v1.ownBlock≠some m):=by
    rcases hat with h|h
    ·rw[Hid,h];exact hng.out
    ·rw[Hid,h];simp;omega
   have HO3:Hid (w3.ownsRow w.heap.size 9 1 v1 (j+1) ((rs.take (j+1)).map Value.string)):=by
    show World.ownsRow _ _ _ _ _ _ _;rw[htk.out];simpa [List.map_take] using hown1
   clear hown1 hgrow1 hat hng;go_wp2_with fail
   go_roundw
   case rel=>exact⟨j+1,by omega,by push_cast;rfl,HO3,hg3,hng3,hM3,hon3⟩
   case measure=>simp[intOf];omega
  ·obtain rfl:j=qs.length:=by omega
   obtain⟨g',cap',rfl⟩:=abM hown.out hq0;have hrl:Hid ((rs.take qs.length).map Value.string=rs.map Value.string):=by show _=_;rw[List.take_of_length_le (by have:=HQR.out;omega)]
   have hown2:=hown.out;rw[hrl.out]at hown2;obtain⟨C',hC0,hC1,hCb⟩:=abH hown2;have hso:=ajM rs g' qs.length cap' C' HQR.out.symm hq0 (by omega) wr hC0 (fun i hi=>by have:=hC1 i (by simpa using hi);simpa using this);have HSo:=qz hso;have Hon:=qz hon;clear hown hown2 hC0 hC1 hso hng hon;go_wp2_with fail;refine(HSo.out).mono ?_;rintro e w2 ⟨g2,cap2,rfl,ow2,b2⟩;obtain⟨C2,hD0,hD1,_⟩:=abH ow2;have hsl:=ad7 rs;have htx:=aeL w2 g2 rs.length cap2 C2 (ad6 rs) ⟨#[43]⟩ hsl.symm (by have:=HQR.out;omega) (by have:=HQR.out;omega) (by decide) (fun x hx=>HRS.out x ((ak9 rs x).1 hx)) (fun i hi=>by have:=hD1 i (by simpa using hi);simpa using this) hD0;have HTx:=qz htx;have B2:=qz b2;clear ow2 hD0 hD1 htx b2;go_wp2_with fail;refine(HTx.out).mono ?_;rintro e w' ⟨rfl,rfl⟩;go_wp2_with fail;go_ret;refine⟨rfl,?_,Hon.out.below B2.out⟩;have:aea bs qs.length=bs.any id:=by unfold aea;rw[List.take_of_length_le (by have:=HQB.out;omega)]
   rw[<-this];exact hMk.out.below B2.out
theorem axp (g cap:Nat)(C:Array Value)(TT rs:List ByteArray)(bs:List Bool)(OR LT K:ByteArray)(ts:Nat->Nat->ByteArray)(hq:TT≠[])(hqr:rs.length=TT.length)(hqb:bs.length=TT.length)(hqn:TT.length<=100)(hrs:∀r∈rs,r.size<=1000)(ho:OR.size<=700)(hol:LT.size=OR.size)(m:Nat)(br once:Bool)(hgm:g≠m) (h0:∀(j:Nat) (q:ByteArray),TT[j]?=some q->ts j 0=q)(hC:∀j (h:j<TT.length),C[j]?=some (.string TT[j])) (HR:∀(j i:Nat) (h:i<OR.size) (w:World),j<TT.length->Calls prog 77 #[.string (ts j i),.int .u8 (((OR[i]'h).toNat:Nat):Int),.int .u8 (((LT[i]'(by omega)).toNat:Nat):Int)] w fun e w'=>e=.returned (.string (ts j (i+1)))/\Zb w w') (HW:∀(j:Nat) (r:ByteArray) (bb:Bool),j<TT.length->rs[j]?=some r->bs[j]?=some bb->∀br w,MkAt w m br once->Calls prog 209 #[.pointer (some ⟨m,0,none⟩),.string (ts j OR.size),.string K] w (MkP m br once r bb w))(w:World)(hg:w.heap[g]?=some (.cells C 9 (0,0)))(hm:MkAt w m br once) : Calls prog 194 #[.pointer (some ⟨m,0,none⟩),.slice (some ⟨g,0,none⟩) TT.length cap,.string OR,.string LT,.string K] w (MkP m br once (abJ ⟨#[38]⟩ (ad6 rs)) (bs.any id) w):=by
 obtain⟨i0,hi,hz0,hz1,hz2⟩:=info_parts Tryz.infoS;have HR':=qz HR;have HW':=qz HW;have HM:=qz hm;have HG:=qz hg;have HCC:=qz hC;have HQR:=qz hqr;have HQB:=qz hqb;have HRS:=qz hrs;have HOL:=qz hol;have H0:=qz h0;have hq0:0<TT.length:=List.length_pos_iff.2 hq;clear HR HW hm hqr hqb hq hrs hg hC h0
 go_enter func194,ntmps194
 go_wp2_with fail
 go_loopw [11,17] (fun v c wr=>∃j:Nat,j<=TT.length/\c=.int .i64 (j:Int)/\Hid (wr.ownsRow w.heap.size 9 1 v j ((rs.take j).map Value.string))/\Hid (wr.heap[g]?=some (.cells C 9 (0,0)))/\Hid (v.ownBlock≠some g/\v.ownBlock≠some m)/\Hid (MkAt wr m (br || aea bs j) once)/\Only m w wr) (fun _ c _=>TT.length - (intOf c).toNat)
 case atStart=>exact⟨0,Nat.zero_le _,rfl,World.ownsRow_nil _ _ _ _,HG,⟨by simp[Value.ownBlock],by simp[Value.ownBlock]⟩,by have:=HM.out;simpa [Hid,aea] using this,Only.refl m w⟩
 case round=>
  obtain⟨j,hj,rfl,hown,hg,hng,hMk,hon⟩:=hrel
  by_cases hlt:j<TT.length
  ·obtain⟨q,hq⟩:∃q,q=TT[j]:=⟨_,rfl⟩;obtain⟨r,hr⟩:∃r,r=rs[j]'(by have:=HQR.out;omega):=⟨_,rfl⟩;obtain⟨bb,hbb⟩:∃bb,bb=bs[j]'(by have:=HQB.out;omega):=⟨_,rfl⟩
   have HWj:Hid (∀br w,MkAt w m br once->Calls prog 209 #[.pointer (some ⟨m,0,none⟩),.string (ts j OR.size),.string K] w (MkP m br once r bb w)):=by
    exact HW'.out j r bb hlt (by rw[hr];exact List.getElem?_eq_getElem _) (by rw[hbb];exact List.getElem?_eq_getElem _)
   have hts:Hid (ts j 0=q):=H0.out j q (by rw[hq];exact List.getElem?_eq_getElem hlt)
   have c1:wr.cell? ⟨g,j,none⟩=some (.string (ts j 0)):=by
    rw[cell_of_row wr g _ C _ _ hg.out,hts.out,hq];exact HCC.out j hlt
   have hrs1:r.size<=1000:=by rw[hr];exact HRS.out _ (List.getElem_mem _)
   have hany:Hid (aea bs (j+1)=(aea bs j || bb)):=by show _=_;rw[hbb];exact af8 bs j _
   have htk:Hid ((rs.take (j+1)).map Value.string=(rs.take j).map Value.string++[.string r]):=by
    show _=_;rw[List.take_succ_eq_append_getElem (by have:=HQR.out;omega),List.map_append,hr];rfl
   have Hon:=qz hon;have HRj:Hid (∀(i:Nat) (h:i<OR.size) (w:World),Calls prog 77 #[.string (ts j i),.int .u8 (((OR[i]'h).toNat:Nat):Int),.int .u8 (((LT[i]'(by omega)).toNat:Nat):Int)] w fun e w'=>e=.returned (.string (ts j (i+1)))/\Zb w w'):=fun i h w=>HR'.out j i h w hlt;obtain⟨W0,hW0⟩:∃W0,W0=wr:=⟨_,rfl⟩;rw[<-hW0]at hg hMk Hon hown;have HW0:=qz hW0;clear hq hr hbb hon hts hW0;go_wp2_with fail
   go_loopw [13,14] (fun t c wr2=>∃i:Nat,i<=OR.size/\c=.int .i64 (i:Int)/\t=.string (ts j i)/\Zb W0 wr2) (fun _ c _=>OR.size - (intOf c).toNat)
   case atStart=>exact⟨0,Nat.zero_le _,rfl,rfl,by rw[HW0.out];exact Below.refl _ _⟩
   case round=>
    obtain⟨i,hi',rfl,rfl,hbw⟩:=hrel
    by_cases hlt2:i<OR.size
    ·have hlt3:i<LT.size:=by omega
     have HRi:=qz (HRj.out i hlt2);have hlz:(i:Int)<(OR.size:Int):=by omega
     have hlz3:(i:Int)<(LT.size:Int):=by omega
     have Hb:=qz hbw;clear hbw;go_wp2_with fail
     go_region_with (first
      | (go_at_call 77;(with_reducible refine(HRi.out _).mono ?_);rintro e w2 ⟨rfl,b2⟩;have Hb2:=qz (Hb.out.drew.trans (b2.mono Hb.out.drew.size));clear b2)
      | fail)
     all_goals
      go_wp2_with fail
      go_roundw
      case rel=>exact⟨i+1,by omega,by push_cast;rfl,rfl,Hb2.out⟩
      case measure=>simp[intOf];omega
    ·obtain rfl:i=OR.size:=by omega
     have hg1:Hid (wr.heap[g]?=some (.cells C 9 (0,0))):=by
      show _=_;exact(hbw.block g (lt_of_block hg.out)).trans hg.out
     have hMk1:Hid (MkAt wr m (br || aea bs j) once):=hMk.out.below hbw;have Hon1:Hid (Only m w wr):=Hon.out.below hbw
     have hown1:Hid (wr.ownsRow w.heap.size 9 1 u11 j ((rs.take j).map Value.string)):=by
      refine⟨hown.out.1,hown.out.2.imp id ?_⟩;rintro⟨g',cap',cur,hv,h2,h3,h4⟩;exact⟨g',cap',cur,hv,h2,(hbw.block g' (lt_of_block h3)).trans h3,h4⟩
     clear hg hMk Hon hown hbw HRj;go_wp2_with fail;refine(HWj.out _ _ hMk1.out).mono ?_;rintro e w2 ⟨rfl,m2,o2⟩;have hg2:=(o2.block g (lt_of_block hg1.out) hgm).trans hg1.out
     have hown2:w2.ownsRow w.heap.size 9 1 u11 j ((rs.take j).map Value.string):=by
      refine⟨hown1.out.1,hown1.out.2.imp id ?_⟩;rintro⟨g',cap',cur,hv,h2,h3,h4⟩;exact⟨g',cap',cur,hv,h2,(o2.block g' (lt_of_block h3) (fun e=>hng.out.2 (by rw[hv,<-e];rfl))).trans h3,h4⟩
     have Hg2:=qz hg2;have Hown2:=qz hown2;have M2:=qz m2;have O2:=qz (Hon1.out.trans o2);have hs2:w.heap.size<=w2.heap.size:=O2.out.size;have hgl:=lt_of_block hg2;clear m2 o2 hg2 hown2 c1 hMk1 hg1 hown1
     go_wp2_with ((at_builtin;refine wpList_append_own_at _ rfl (.tmp 35) (.tmp 40) 22 rfl w.heap.size 9 i0 (.string ⟨#[]⟩) 1 16 underlying22 hi hz0 hz1 hz2 rfl (by decide) _ _ _ rfl (Hown2.out.alloc _) ⟨w2.heap.size,0,none⟩ 1 1 [.string r] rfl rfl (aaR w2 [.string r] 9) (fun u hu=>by simp at hu;subst hu;rfl) ?c2 ?c3 ?c4 ?_))
     case c2=>unfold maxLen;omega
     case c3=>omega
     case c4=>first|omega|(simp;omega)
     intro v1 w3 hown1 hgrow1 _ hat;have hml:=M2.out.lt
     have hg3:Hid (w3.heap[g]?=some (.cells C 9 (0,0))):=by
      show _=_;rw[hgrow1.block g (by simp;omega) (fun e=>hng.out.1 e.symm)];exact(Below.heap_alloc w2 _ g hgl).trans Hg2.out
     have hM3:Hid (MkAt w3 m (br || aea bs (j+1)) once):=by
      have h:MkAt w3 m ((br || aea bs j) || bb) once:=(hgrow1.block m (by simp;omega) (fun e=>hng.out.2 e.symm)).trans ((Below.heap_alloc w2 _ m hml).trans M2.out);show MkAt _ _ _ _;rw[hany.out,<-Bool.or_assoc];exact h
     have hon3:Only m w w3:=⟨by rw[hgrow1.os];exact O2.out.os,by rw[hgrow1.tape];exact O2.out.tape,by rw[hgrow1.output];exact O2.out.output,by have:=hgrow1.size;simp at this;omega,fun i hi hb=>by
      rw[hgrow1.block i (by simp;omega) (fun e=>by have:=(Hown2.out.lt i e.symm).1;omega),Below.heap_alloc w2 _ i (by omega)]
      exact O2.out.block i hi hb⟩
     have hng3:Hid (v1.ownBlock≠some g/\v1.ownBlock≠some m):=by
      rcases hat with h|h
      ·rw[Hid,h];exact hng.out
      ·rw[Hid,h];simp;omega
     have HO3:Hid (w3.ownsRow w.heap.size 9 1 v1 (j+1) ((rs.take (j+1)).map Value.string)):=by
      show World.ownsRow _ _ _ _ _ _ _;rw[htk.out];simpa [List.map_take] using hown1
     clear hown1 hgrow1 hat hng;go_wp2_with fail
     go_roundw
     case rel=>exact⟨j+1,by omega,by push_cast;rfl,HO3,hg3,hng3,hM3,hon3⟩
     case measure=>simp[intOf];omega
  ·obtain rfl:j=TT.length:=by omega
   obtain⟨g',cap',rfl⟩:=abM hown.out hq0;have hrl:Hid ((rs.take TT.length).map Value.string=rs.map Value.string):=by show _=_;rw[List.take_of_length_le (by have:=HQR.out;omega)]
   have hown2:=hown.out;rw[hrl.out]at hown2;obtain⟨C',hC0,hC1,hCb⟩:=abH hown2;have hso:=ajM rs g' TT.length cap' C' HQR.out.symm hq0 (by omega) wr hC0 (fun i hi=>by have:=hC1 i (by simpa using hi);simpa using this);have HSo:=qz hso;have Hon:=qz hon;clear hown hown2 hC0 hC1 hso hng hon;go_wp2_with fail;refine(HSo.out).mono ?_;rintro e w2 ⟨g2,cap2,rfl,ow2,b2⟩;obtain⟨C2,hD0,hD1,_⟩:=abH ow2;have hsl:=ad7 rs;have htx:=aeL w2 g2 rs.length cap2 C2 (ad6 rs) ⟨#[38]⟩ hsl.symm (by have:=HQR.out;omega) (by have:=HQR.out;omega) (by decide) (fun x hx=>HRS.out x ((ak9 rs x).1 hx)) (fun i hi=>by have:=hD1 i (by simpa using hi);simpa using this) hD0;have HTx:=qz htx;have B2:=qz b2;clear ow2 hD0 hD1 htx b2;go_wp2_with fail;refine(HTx.out).mono ?_;rintro e w' ⟨rfl,rfl⟩;go_wp2_with fail;go_ret;refine⟨rfl,?_,Hon.out.below B2.out⟩;have:aea bs TT.length=bs.any id:=by unfold aea;rw[List.take_of_length_le (by have:=HQB.out;omega)]
   rw[<-this];exact hMk.out.below B2.out
def usU (us:Nat->List UInt8):Nat->List UInt8
 | 0=>[]
 | j+1=>bothL (usU us j) (us j)
theorem au4 (us:Nat->List UInt8)(h:∀j,Srt (us j)):∀j,Srt (usU us j):=by
 intro j;induction j with
 | zero=>exact List.Pairwise.nil
 | succ j ih=>exact aap _ ih
theorem au5 (us:Nat->List UInt8):∀j z,z∈usU us j↔∃i,i<j/\z∈us i:=by
 intro j;induction j with
 | zero=>intro z;simp[usU]
 | succ j ih=>
  intro z;rw[usU,mem_bothL,ih];constructor
  ·rintro (⟨i,h1,h2⟩|h)
   ·exact⟨i,by omega,h2⟩
   ·exact⟨j,by omega,h⟩
  ·rintro⟨i,h1,h2⟩
   by_cases c:i=j
   ·exact .inr (c▸h2)
   ·exact .inl ⟨i,by omega,h2⟩
def bstStep (b t:ByteArray):ByteArray:=if b.size=0\/Op.bytesLess t.toList b.toList=true then t else b
def ak_ (l:List ByteArray):ByteArray:=l.foldl bstStep ⟨#[]⟩
theorem apU (l:List ByteArray)(j:Nat)(h:j<l.length):ak_ (l.take (j+1))=bstStep (ak_ (l.take j)) l[j]:=by
 unfold ak_;rw[List.take_succ_eq_append_getElem h,List.foldl_append];rfl
theorem bstB_mem:∀(l:List ByteArray) (b:ByteArray),l.foldl bstStep b=b\/l.foldl bstStep b∈l:=by
 intro l;induction l with
 | nil=>intro b;exact .inl rfl
 | cons a l ih=>
  intro b;simp only[List.foldl_cons,List.mem_cons];rcases ih (bstStep b a) with h|h
  ·rw[h];unfold bstStep;split
   ·exact .inr (.inl rfl)
   ·exact .inl rfl
  ·exact .inr (.inr h)
theorem ai6 (l:List ByteArray)(m:Nat)(h:∀x∈l,x.size<=m):(ak_ l).size<=m:=by
 rcases bstB_mem l ⟨#[]⟩ with h1|h1
 ·unfold ak_;rw[h1];exact Nat.zero_le _
 ·exact h _ h1
def aeN (ls:List UInt8)(t:ByteArray):ByteArray:=ls.foldr (fun l t=>((⟨#[35]⟩:ByteArray)++B [l]++⟨#[46]⟩)++t) t
theorem amm (ls:List UInt8)(t:ByteArray):(aeN ls t).size=3 * ls.length+t.size:=by
 induction ls with
 | nil=>simp[aeN]
 | cons a l ih=>
  simp only[aeN,List.foldr_cons,ByteArray.size_append,List.length_cons,aa1]at ih ⊢;have:(⟨#[35]⟩:ByteArray).size=1:=rfl;have:(⟨#[46]⟩:ByteArray).size=1:=rfl;simp at *;omega
theorem amn (ls:List UInt8)(i:Nat)(h:i<ls.length)(t:ByteArray):aeN (ls.drop i) t=((⟨#[35]⟩:ByteArray)++(B ls).extract i (i+1)++⟨#[46]⟩)++aeN (ls.drop (i+1)) t:=by
 rw[List.drop_eq_getElem_cons h];unfold aeN;rw[List.foldr_cons,apH];congr 4;rw[List.drop_eq_getElem_cons h,Nat.add_sub_cancel_left];rfl
theorem amo:∀(i:Nat) (tk:List UInt8),nexts tk (i+1)=nexts tk i++[fresh (allT tk i)]/\allT tk (i+1)=addL (allT tk i) (fresh (allT tk i)):=by
 intro i;induction i with
 | zero=>intro tk;exact⟨rfl,rfl⟩
 | succ i ih=>
  intro tk;have:=ih (addL tk (fresh tk));refine⟨?_,?_⟩
  ·rw[nexts,this.1];rfl
  ·rw[allT,this.2];rfl
theorem ala:∀(i:Nat) (tk:List UInt8),Srt tk->Srt (allT tk i):=by
 intro i;induction i with
 | zero=>intro tk h;exact h
 | succ i ih=>intro tk h;exact ih _ (srt_addL h _)
theorem own_zero {w:World}{base:Nat}{v:Value}{xs:List Value}(h:w.ownsRow base 9 1 v 0 xs):v=.slice none 0 0\/∃g cap,v=.slice (some ⟨g,0,none⟩) 0 cap:=by
 rcases h.2 with⟨h,_⟩|⟨g,cap,cur,h,_⟩
 ·exact .inl h
 ·exact .inr ⟨g,cap,h⟩
theorem ar6 (F u:List UInt8)(i:Nat)(h:i<F.length):(F.take (i+1)).filter (fun z=>decide (z∈u))=(F.take i).filter (fun z=>decide (z∈u))++if F[i]∈u then [F[i]] else []:=by
 rw[List.take_succ_eq_append_getElem h,List.filter_append];congr 1
 by_cases c:F[i]∈u<;>simp[c]
theorem axq (X:ByteArray)(tk Fl:List UInt8)(TT:List ByteArray)(us:Nat->List UInt8)(hsr:Srt tk)(hus:∀j,Srt (us j))(hTT:TT.length<=100)(hFl:Fl.length<=90)(hall:TT≠[]->∀z∈Fl,z∈usU us TT.length) (os:List (List UInt8))(m:Nat)(br once:Bool)(hos:os=(if once then (ordsL Fl.length Fl).take 1 else ordsL Fl.length Fl))(hosn:Fl.length<=5->os.length<=120/\os≠[]) (tx:List UInt8->ByteArray)(fb:List UInt8->Bool)(htx:∀o∈os,1<=(tx o).size/\(tx o).size<=1000) (R:ByteArray)(bb:Bool)(hr1:TT=[]->R=⟨#[48]⟩/\bb=false)(hr2:TT≠[]->5<Fl.length->R=⟨#[48]⟩/\bb=true)(hr3:TT≠[]->Fl.length<=5->R=aeN (nexts tk Fl.length) (ak_ (os.map tx))/\bb=os.any fb) (HG:∀b w,LvAt w b ⟨#[]⟩ (.slice none 0 0)->Calls prog 192 #[.pointer (some ⟨b,0,none⟩),.string X] w (agt b w.heap.size (.slice none 0 0) (B Fl) TT w)) (HU:∀j (h:j<TT.length) w,Calls prog 167 #[.string TT[j]] w fun e w'=>e=.returned (.string (B (us j)))/\Zb w w') (HN:TT≠[]->Fl.length<=5->∀o∈os,∀(br:Bool) (g cap:Nat) (C:Array Value) (w:World),(∀j (h:j<TT.length),C[j]?=some (.string TT[j]))->w.heap[g]?=some (.cells C 9 (0,0))->g≠m->MkAt w m br once-> Calls prog 194 #[.pointer (some ⟨m,0,none⟩),.slice (some ⟨g,0,none⟩) TT.length cap,.string (B o),.string (B (nexts tk Fl.length)),.string (B (allT tk Fl.length))] w (MkP m br once (tx o) (fb o) w)) (w:World)(hm:MkAt w m br once) : Calls prog 166 #[.pointer (some ⟨m,0,none⟩),.string X,.string (B tk)] w (MkP m br once R bb w):=by
 have HG':=qz HG;have HU':=qz HU;have HN':=qz HN;have HM:=qz hm;have HOS:=qz hos;have HON:=qz hosn;have HTX:=qz htx;have H1:=qz hr1;have H2:=qz hr2;have H3:=qz hr3;have HALL:=qz hall;have HUS:=qz (au4 us hus);have HUJ:=qz hus;have HSR:=qz hsr;have hmlt:=hm.lt;clear HG HU HN hm hos hosn htx hr1 hr2 hr3 hall hus hsr
 go_enter func166,ntmps166
 go_wp2_with fail;refine(HG'.out _ _ (aai w _)).mono ?_;rintro e w1 ⟨rfl,v,lv,ow,tw,_⟩;have Lv:=qz lv;have Ow:=qz ow;have c0:=lv.c0;have c1:=lv.c1;have bl:Zb w w1:=⟨tw.os,tw.tape,tw.output,by have:=tw.size;simp at this;omega,fun k hk=>(tw.block k (by simp;omega) (by omega) (by simp[Value.ownBlock])).trans (Below.heap_alloc w _ k hk)⟩;have Bl:=qz bl;have hbs:=bl.size;have hb1:=lv.lt;clear lv ow tw bl
 have HC:Hid (TT≠[]->∃g cap C,v=.slice (some ⟨g,0,none⟩) TT.length cap/\w1.heap[g]?=some (.cells C 9 (0,0))/\(∀j (h:j<TT.length),C[j]?=some (.string TT[j]))/\w.heap.size<g):=fun hne=>by
  obtain⟨g,cap,rfl⟩:=abM Ow.out (List.length_pos_iff.2 hne);obtain⟨C,hC0,hC1,hCb⟩:=abH Ow.out;refine⟨g,cap,C,rfl,hC0,fun j hj=>?_,by simp at hCb;omega⟩;have:=hC1 j (by simpa using hj);simpa using this
 obtain⟨p,cap,rfl⟩:∃p cap,v=.slice p TT.length cap:=by
  by_cases hne:TT=[]
  ·subst hne;rcases own_zero Ow.out with h|⟨g,cap,h⟩
   ·exact⟨_,_,h⟩
   ·exact⟨_,_,h⟩
  ·obtain⟨g,cap,h⟩:=abM Ow.out (List.length_pos_iff.2 hne);exact⟨_,_,h⟩
 obtain⟨b,hb⟩:∃b,b=w.heap.size:=⟨_,rfl⟩;rw[<-hb]at Lv c0 c1 hb1 ⊢;have hbm:b≠m:=by omega
 have HB:=qz hb;clear Ow hb;go_wp2_with fail
 go_loopw [8,32] (fun u c wr=>∃j:Nat,j<=TT.length/\c=.int .i64 (j:Int)/\u=.string (B (usU us j))/\Zb w1 wr) (fun _ c _=>TT.length - (intOf c).toNat)
 case atStart=>exact⟨0,Nat.zero_le _,rfl,rfl,Below.refl _ _⟩
 case round=>
  obtain⟨j,hj,rfl,rfl,hbw⟩:=hrel
  by_cases hlt:j<TT.length
  ·obtain⟨g,cap',C,he,hg,hC,_⟩:=HC.out (by intro h;rw[h]at hlt;simp at hlt)
   injection he with e1 e2 e3
   subst e1
   have hcj:wr.cell? ⟨g,j,none⟩=some (.string TT[j]):=by
    rw[cell_of_row wr g _ C _ _ ((hbw.block g (lt_of_block hg)).trans hg)];exact hC j hlt
   have HUj:=qz (HU'.out j hlt);have HBo:=qz (ac3 (usU us j) (us j) (HUS.out j) (HUJ.out j));have Hb:=qz hbw;clear hg hC hbw e2 e3;go_wp2_with fail;refine(HUj.out _).mono ?_;rintro e w2 ⟨rfl,b2⟩;have Hb2:=qz (Hb.out.trans (b2.mono Hb.out.size));clear b2;go_wp2_with fail;refine(HBo.out _).mono ?_;rintro e w3 ⟨rfl,b3⟩;have Hb3:=qz (Hb2.out.trans (b3.mono Hb2.out.size));clear b3;go_wp2_with fail
   go_roundw
   case rel=>exact⟨j+1,by omega,by push_cast;rfl,rfl,Hb3.out⟩
   case measure=>simp[intOf];omega
  ·obtain rfl:j=TT.length:=by omega
   have lv2:=Lv.out.below hbw;have c0:=lv2.c0;have c1:=lv2.c1;have Lv2:=qz lv2;have Hb:=qz hbw;obtain⟨F,hF⟩:∃F,F=B Fl:=⟨_,rfl⟩;obtain⟨U,hU⟩:∃U,U=B (usU us TT.length):=⟨_,rfl⟩;have hFs1:F.size<=90:=by rw[hF,aa1];exact hFl
   have hFs:Hid (F.size=Fl.length):=by show _=_;rw[hF,aa1]
   have hUs:U.size<=1000:=by rw[hU,aa1];exact Nat.le_trans (abz (HUS.out _)) (by omega)
   have HF:=qz hF;have HUU:=qz hU;rw[<-hF]at c0 Lv2;rw[<-hU];clear hbw lv2 hF hU Lv;go_wp2_with fail
   go_loopw [11,12] (fun fr c wr2=>∃i:Nat,i<=F.size/\c=.int .i64 (i:Int)/\fr=.string (B ((Fl.take i).filter fun z=>decide (z∈usU us TT.length)))/\wr2=wr) (fun _ c _=>F.size - (intOf c).toNat)
   case atStart=>exact⟨0,Nat.zero_le _,rfl,by simp;rfl,rfl⟩
   case round=>
    obtain⟨i,hi,rfl,rfl,rfl⟩:=hrel
    by_cases hlt:i<F.size
    ·have hiF:i<Fl.length:=by have:=hFs.out;omega
     have hFi:Hid (F[i]'hlt=Fl[i]):=by show _=_;exact(abu (by rw[HF.out,aaQ]) i hlt hiF)
     have hst:=qz (ar6 Fl (usU us TT.length) i hiF)
     have hcatF:Hid (F.extract i (i+1)=B [Fl[i]]):=by
      show _=_;rw[HF.out,apH,Nat.add_sub_cancel_left,List.drop_eq_getElem_cons hiF];rfl
     have q1:(i:Int)<(F.size:Int):=by omega
     have hfz:(B ((Fl.take i).filter fun z=>decide (z∈usU us TT.length))).size<=90:=by
      rw[aa1];exact Nat.le_trans (List.length_filter_le _ _) (by rw[List.length_take];omega)
     have HI:Ze 119 #[.string U,.int .u8 (((F[i]'hlt).toNat:Nat):Int)] (.bool (decide (Fl[i]∈usU us TT.length))):=fun w=>by
      have:=acd U (((F[i]'hlt).toNat:Nat):Int) w (by omega);rw[afw,hFi.out,HUU.out,aaQ]at this
      rw[hFi.out,HUU.out];exact this
     obtain⟨FR,hFR⟩:∃FR,FR=B ((Fl.take i).filter fun z=>decide (z∈usU us TT.length)):=⟨_,rfl⟩;rw[<-hFR]at hfz ⊢;have HFR:=qz hFR;have HI0:=qz HI;clear hFR HI
     by_cases hin:Fl[i]∈usU us TT.length
     ·have HI:=qz HI0.out;rw[decide_eq_true hin]at HI;have Hin:=qz hin;clear hin HI0;go_wp2_with fail;refine(HI.out _).mono ?_;rintro e w2 ⟨rfl,rfl⟩;go_wp2_with fail
      go_roundw
      case rel=>exact⟨i+1,by omega,by push_cast;rfl,by rw[hst.out,if_pos Hin.out,hcatF.out,HFR.out,<-arU],by trivial⟩
      case measure=>simp[intOf];omega
     ·have HI:=qz HI0.out;rw[decide_eq_false hin]at HI;have Hin:=qz hin;clear hin HI0;go_wp2_with fail;refine(HI.out _).mono ?_;rintro e w2 ⟨rfl,rfl⟩;go_wp2_with fail
      go_roundw
      case rel=>exact⟨i+1,by omega,by push_cast;rfl,by rw[hst.out,if_neg Hin.out,HFR.out,List.append_nil],by trivial⟩
      case measure=>simp[intOf];omega
    ·obtain rfl:i=F.size:=by omega
     have Bw:=qz (Bl.out.trans (Hb.out.mono Bl.out.size))
     by_cases hne:TT=[]
     ·subst hne;clear HC HN' HU' HALL;go_wp2_with fail;go_ret;have hr:=H1.out (by trivial);exact⟨by rw[hr.1];rfl,by rw[hr.2,Bool.or_false];exact HM.out.below Bw.out,(Only.refl m w).below Bw.out⟩
     ·have hn0:0<TT.length:=List.length_pos_iff.2 hne
      have hfl:(Fl.take F.size).filter (fun z=>decide (z∈usU us TT.length))=Fl:=by
       rw[List.take_of_length_le (by have:=hFs.out;omega)];exact List.filter_eq_self.2 fun z hz=>decide_eq_true (HALL.out hne z hz)
      rw[hfl,<-HF.out];have t0:((TT.length:Int)==0)=false:=by rw[beq_eq_false_iff_ne];omega
      have hmk:=HM.out.below Bw.out;have HMk:=qz hmk;have Hne:=qz hne;clear hfl hne
      by_cases h5:5<F.size
      ·have q5:(5:Int)<(F.size:Int):=by omega
       have f0:=hmk.f0;have cm0:=hmk.c0;have hr:=qz (H2.out Hne.out (by have:=hFs.out;omega));clear hmk;go_wp2_with fail;go_ret;refine⟨by rw[hr.out.1];rfl,?_,?_⟩
       ·rw[hr.out.2,Bool.or_true];exact HMk.out.set0 true
       ·exact((Only.refl m w).below Bw.out).setCell 0 none _
      ·have q5:¬(5:Int)<(F.size:Int):=by omega
       obtain⟨cap0,W0,hcv,bW,hr⟩:=aaF F _ F.size rfl (by simp) wr;have BW:=qz (Bw.out.trans (bW.mono Bw.out.size));have hFl5:Hid (Fl.length<=5):=by show _<=_;have:=hFs.out;omega
       have LvW:=qz (Lv2.out.below bW)
       have HCW:Hid (∃g C,p=some ⟨g,0,none⟩/\W0.heap[g]?=some (.cells C 9 (0,0))/\(∀j (h:j<TT.length),C[j]?=some (.string TT[j]))/\g≠m):=by
        obtain⟨g,cap',C,he,hg,hC,hlt⟩:=HC.out Hne.out
        injection he with e1 e2 e3
        refine⟨g,C,e1,?_,hC,by omega⟩;exact(bW.block g (by have:=lt_of_block hg;have:=Hb.out.size;omega)).trans ((Hb.out.block g (lt_of_block hg)).trans hg)
       have MW:=qz (HMk.out.below bW);clear hr bW HC hmk HMk Bw Lv2;go_wp2_with fail;clear hcv c0 c1
       go_loopw [13,14,84] (fun lt al c wr3=>∃i:Nat,i<=F.size/\c=.int .i64 (i:Int)/\lt=.string (B (nexts tk i))/\al=.string (B (allT tk i))/\Zb W0 wr3) (fun _ _ c _=>F.size - (intOf c).toNat)
       case atStart=>exact⟨0,Nat.zero_le _,rfl,rfl,rfl,Below.refl _ _⟩
       case round=>
        obtain⟨i,hi,rfl,rfl,rfl,hbw3⟩:=hrel;have hns:(B (nexts tk i)).size<=90:=by rw[aa1,abE];omega
        have hAs:=ala i tk HSR.out
        by_cases hlt:i<F.size
        ·obtain⟨y,hy⟩:∃y,y=fresh (allT tk i):=⟨_,rfl⟩
         have HFr:Hid (Ze 123 #[.string (B (allT tk i))] (.int .u8 ((y.toNat:Nat):Int))):=fun w=>by
          have:=abX (B (allT tk i)) (by rw[aa1];exact Nat.le_trans (abz hAs) (by omega)) w;rw[aaQ,<-hy]at this;exact this
         have HAd:=qz (af4 (allT tk i) y hAs);have hcv:=anp y;have hone:(one y).size<=1:=nl _;have hsn:=amo i tk;rw[<-hy]at hsn;have Hsn:=qz hsn;obtain⟨NS,hNS⟩:∃NS,NS=B (nexts tk i):=⟨_,rfl⟩;rw[<-hNS]at hns ⊢;have HNS:=qz hNS;have Hb3:=qz hbw3;clear hy hsn hNS hAs hbw3;go_wp2_with fail;refine(HFr.out _).mono ?_;rintro e w4 ⟨rfl,rfl⟩;go_wp2_with fail;refine(HAd.out _).mono ?_;rintro e w5 ⟨rfl,b5⟩;have Hb5:=qz (aab (Hb3.out.alloc Hb3.out.size _) b5 (by have:=Hb3.out.size;simp;omega));clear b5;go_wp2_with fail
         go_roundw
         case rel=>
          refine⟨i+1,by omega,by push_cast;rfl,?_,by rw[Hsn.out.2],Hb5.out⟩;rw[Hsn.out.1,HNS.out,<-arU];rfl
         case measure=>simp[intOf];omega
        ·obtain rfl:i=F.size:=by omega
         have LvX:=qz (LvW.out.below hbw3);have MX:=qz (MW.out.below hbw3)
         have HCX:Hid (∃g C,p=some ⟨g,0,none⟩/\wr.heap[g]?=some (.cells C 9 (0,0))/\(∀j (h:j<TT.length),C[j]?=some (.string TT[j]))/\g≠m):=by
          obtain⟨g,C,e1,hg,hC,hgm⟩:=HCW.out;exact⟨g,C,e1,(hbw3.block g (lt_of_block hg)).trans hg,hC,hgm⟩
         have BX:=qz (BW.out.trans (hbw3.mono BW.out.size));clear LvW MW HCW hbw3 BW;obtain⟨W1,hW1⟩:∃W1,W1=wr:=⟨_,rfl⟩;rw[<-hW1]at LvX MX HCX BX ⊢;have hFe:F.size=Fl.length:=hFs.out;obtain⟨LT,hLT⟩:∃LT,LT=B (nexts tk F.size):=⟨_,rfl⟩;obtain⟨AL,hAL⟩:∃AL,AL=B (allT tk F.size):=⟨_,rfl⟩;have hls:Hid (LT.size=F.size):=by show _=_;rw[hLT,aa1,abE]
         have hls1:LT.size<=5:=by rw[hls.out];omega
         have HNO:Hid (∀w,Calls prog 193 #[.string F] w (RowN ((ordsL Fl.length Fl).map B) w)):=fun w=>by
          rw[HF.out];exact ai3 Fl.length Fl (nl _) hFl5.out w
         have hOn:Hid (ordsL Fl.length Fl≠[]):=(acb Fl.length Fl (nl _)).2.1;have HLT:=qz hLT;have HAL:=qz hAL;have cm1:=MX.out.c1;have HL5:=HON.out hFl5.out;have HOl:=qz HL5
         have HNn:Hid (∀o∈os,∀(br:Bool) (g cap:Nat) (C:Array Value) (w:World),(∀j (h:j<TT.length),C[j]?=some (.string TT[j]))->w.heap[g]?=some (.cells C 9 (0,0))->g≠m->MkAt w m br once->
           Calls prog 194 #[.pointer (some ⟨m,0,none⟩),.slice (some ⟨g,0,none⟩) TT.length cap,.string (B o),.string LT,.string AL] w (MkP m br once (tx o) (fb o) w)):=by
          rw[hLT,hAL,hFe];exact HN'.out Hne.out hFl5.out
         rw[<-hLT,<-hAL];clear HL5 hFe hLT hAL hW1 HN' HON HU' HUS HUJ HSR HALL;go_wp2_with fail;refine(HNO.out _).mono ?_;rintro e w4 ⟨go,capo,rfl,owo,b4⟩;obtain⟨CO,hO0,hO1,hOb⟩:=abH owo
         have hcap:1<=capo:=by
          have hp:0<(ordsL Fl.length Fl).length:=List.length_pos_iff.2 hOn.out;rcases owo.2 with⟨h,_⟩|⟨_,_,_,h,_,_,h3,h4,_⟩
          ·cases h
          ·cases h;simp only[List.length_map]at h3;omega
         have q6:(1:Int)<=(capo:Int):=by omega
         have hgom:go≠m:=by have:=MX.out.lt;omega
         have HO0:=qz hO0
         have HO1:Hid (∀j (h:j<os.length),CO[j]?=some (.string (B os[j]))):=fun j hj=>by
          have hx:∀(l:List (List UInt8)),os=(if once then l.take 1 else l)->j<l.length/\∀h:j<l.length,os[j]=l[j]:=by
           intro l hl;subst hl
           cases once
           ·exact⟨hj,fun _=>rfl⟩
           ·simp only[if_true,List.length_take]at hj ⊢;exact⟨by omega,fun h=>by rw[List.getElem_take]⟩
          obtain⟨a1,a2⟩:=hx _ HOS.out;have:=hO1 j (by simpa using a1);rw[this];simp only[List.getElem_map];rw[a2 a1]
         have HlenO:Hid (os.length=if once then 1 else (ordsL Fl.length Fl).length):=by
          show _=_;have hp:0<(ordsL Fl.length Fl).length:=List.length_pos_iff.2 hOn.out;rw[HOS.out]
          cases once<;>simp<;>omega
         have Lv4:=qz (LvX.out.below b4);have M4:=qz (MX.out.below b4)
         have HC4:Hid (∃g C,p=some ⟨g,0,none⟩/\w4.heap[g]?=some (.cells C 9 (0,0))/\(∀j (h:j<TT.length),C[j]?=some (.string TT[j]))/\g≠m):=by
          obtain⟨g,C,e1,hg,hC,hgm⟩:=HCX.out;exact⟨g,C,e1,(b4.block g (lt_of_block hg)).trans hg,hC,hgm⟩
         have B4:=qz (BX.out.trans (b4.mono BX.out.size));clear LvX MX HCX BX owo b4 hO0 hO1 cm1;have cm1:=M4.out.c1;obtain⟨N,hN⟩:∃N,N=os.length:=⟨_,rfl⟩;have HN:=qz hN;have hN1:1<=N:=by rw[hN];exact List.length_pos_iff.2 HOl.out.2
         have hN2:N<=120:=by rw[hN];exact HOl.out.1
         have hOL:once=false->(ordsL Fl.length Fl).length=N:=fun h=>by rw[hN,HlenO.out,h];rfl
         have hOT:once=true->N=1:=fun h=>by rw[hN,HlenO.out,h];rfl
         clear hN
         cases hon:once
         all_goals
          rw[hon]at cm1
          first
           | have hOL':(ordsL Fl.length Fl).length=N:=hOL hon
           | have hOT':N<=1:=Nat.le_of_eq (hOT hon)
          try rw[hOL']
          clear hOL hOT;go_wp2_with fail;clear cm1
          go_loopw [16,107] (fun bs c wr5=>∃j:Nat,j<=N/\c=.int .i64 (j:Int)/\bs=.string (ak_ ((os.map tx).take j))/\Hid (MkAt wr5 m (br || aea (os.map fb) j) once)/\Only m w4 wr5) (fun _ c _=>N - (intOf c).toNat)
          case atStart=>exact⟨0,Nat.zero_le _,rfl,rfl,by have:=M4.out;simpa [Hid,aea] using this,Only.refl m w4⟩
          case round=>
           obtain⟨j,hj,rfl,rfl,hMk,hon4⟩:=hrel;have hbl4:=Lv4.out.lt
           by_cases hlt:j<N
           ·have hjo:j<os.length:=by rw[<-HN.out];exact hlt
            obtain⟨g,C,e1,hg,hC,hgm⟩:=HC4.out;have hg5:=(hon4.block g (lt_of_block hg) hgm).trans hg;have lv5:LvAt wr b F (.slice p TT.length cap):=(hon4.block b hbl4 hbm).trans Lv4.out;have cl:=lv5.c1
            have co:wr.cell? ⟨go,j,none⟩=some (.string (B os[j])):=by
             rw[cell_of_row wr go _ CO _ _ ((hon4.block go (lt_of_block HO0.out) hgom).trans HO0.out)];exact HO1.out j hjo
            have HNj:=HNn.out os[j] (List.getElem_mem hjo) (br || aea (os.map fb) j) g cap C wr hC hg5 hgm hMk.out;subst e1;have htx:=HTX.out os[j] (List.getElem_mem hjo);have hstp:=qz (apU (os.map tx) j (by rw[List.length_map];exact hjo));have hany:Hid (aea (os.map fb) (j+1)=(aea (os.map fb) j || fb os[j])):=by show _=_;rw[af8 _ _ (by rw[List.length_map];exact hjo),List.getElem_map]
            have hBs:=ai6 ((os.map tx).take j) 1000 fun x hx=>by
             obtain⟨o,ho,rfl⟩:=List.mem_map.1 (List.mem_of_mem_take hx);exact(HTX.out o ho).2
            obtain⟨OB,hOB⟩:∃OB,OB=B os[j]:=⟨_,rfl⟩;obtain⟨T1,hT1⟩:∃T1,T1=tx os[j]:=⟨_,rfl⟩;obtain⟨fb1,hfb1⟩:∃fb1,fb1=fb os[j]:=⟨_,rfl⟩;obtain⟨BT,hBT⟩:∃BT,BT=ak_ ((os.map tx).take j):=⟨_,rfl⟩;rw[List.getElem_map,<-hT1,<-hBT]at hstp;rw[<-hfb1]at hany;rw[<-hOB,<-hT1,<-hfb1]at HNj;rw[<-hOB]at co;rw[<-hT1]at htx;rw[<-hBT]at hBs ⊢;have HNJ:=qz HNj;have Hon4:=qz hon4;have hjz:(j:Int)<(N:Int):=by omega
            have hj1:N<=1->(j:Int)<1:=fun h=>by omega
            try (have hj2:=hj1 hOT')
            clear hOB hT1 hfb1 hBT HNj hon4 hg hg5 lv5 hC hj1 hMk;go_wp2_with fail;refine(HNJ.out).mono ?_;rintro e w5 ⟨rfl,m5,o5⟩
            have M5:Hid (MkAt w5 m (br || aea (os.map fb) (j+1)) once):=by
             show MkAt _ _ _ _;rw[hany.out,<-Bool.or_assoc];exact m5
            have O5:=qz (Hon4.out.trans o5);clear m5 o5 cl co
            by_cases e0:BT.size=0
            ·have:BT=⟨#[]⟩:=by
              apply ByteArray.ext;apply Array.ext'
              exact List.eq_nil_of_length_eq_zero (by simpa using e0)
             subst this
             have hs2:Hid (ak_ ((os.map tx).take (j+1))=T1):=by show _=_;rw[hstp.out];unfold bstStep;rw[if_pos (.inl rfl)]
             clear e0 hstp;go_wp2_with fail
             go_roundw
             case rel=>exact⟨j+1,by omega,by push_cast;rfl,by rw[hs2.out],M5,O5.out⟩
             case measure=>simp[intOf];omega
            ·have hne:BT.toList.isEmpty=false:=by
              rw[ByteArray.toList_eq]
              cases h:BT.data.toList with
              | nil=>exact absurd (by have:=congrArg List.length h;simpa using this) e0
              | cons a l=>rfl
             cases hl:Op.bytesLess T1.toList BT.toList
             ·have hs2:Hid (ak_ ((os.map tx).take (j+1))=BT):=by show _=_;rw[hstp.out];unfold bstStep;rw[if_neg (by rw[hl];simp[e0])]
              clear hstp e0;go_wp2_with fail
              go_roundw
              case rel=>exact⟨j+1,by omega,by push_cast;rfl,by rw[hs2.out],M5,O5.out⟩
              case measure=>simp[intOf];omega
             ·have hs2:Hid (ak_ ((os.map tx).take (j+1))=T1):=by show _=_;rw[hstp.out];unfold bstStep;rw[if_pos (.inr hl)]
              clear hstp e0;go_wp2_with fail
              go_roundw
              case rel=>exact⟨j+1,by omega,by push_cast;rfl,by rw[hs2.out],M5,O5.out⟩
              case measure=>simp[intOf];omega
           ·obtain rfl:j=N:=by omega
            have hj1:1<=j->¬(j:Int)<1:=fun h=>by omega
            have hj2:=hj1 hN1;clear hj1;have htk:(os.map tx).take j=os.map tx:=List.take_of_length_le (by rw[List.length_map,<-HN.out];exact nl _)
            have hbk:Hid (aea (os.map fb) j=os.any fb):=by
             show _=_;unfold aea;rw[List.take_of_length_le (by rw[List.length_map,<-HN.out];exact nl _),List.any_map];rfl
            have hBs:=ai6 (os.map tx) 1000 fun x hx=>by
             obtain⟨o,ho,rfl⟩:=List.mem_map.1 hx;exact(HTX.out o ho).2
            rw[htk];obtain⟨BT,hBT⟩:∃BT,BT=ak_ (os.map tx):=⟨_,rfl⟩;rw[<-hBT]at hBs ⊢;have HBT:=qz hBT;have Hon4:=qz (((Only.refl m w).below B4.out).trans hon4);clear htk hBT hon4;go_wp2_with fail
            go_loop [16,21] (fun bs c=>∃z:Int,-1<=z/\z<(LT.size:Int)/\c=.int .i64 z/\bs=.string (aeN ((nexts tk F.size).drop (z+1).toNat) BT)) (fun _ c=>(intOf c+1).toNat)
            case atStart=>
             refine⟨(LT.size:Int) - 1,by omega,by omega,rfl,?_⟩;rw[show ((LT.size:Int) - 1+1).toNat=LT.size by omega,List.drop_of_length_le (by rw[abE,hls.out];exact nl _)];rfl
            case round=>
             obtain⟨z,hz1,hz2,rfl,rfl⟩:=hrel
             by_cases hz:0<=z
             ·obtain⟨k,rfl⟩:∃k:Nat,z=(k:Int):=⟨z.toNat,by omega⟩;have hk:k<LT.size:=by omega
              have hwd:=qz (amn (nexts tk F.size) k (by rw[abE,<-hls.out];exact hk) BT)
              have hws:(aeN ((nexts tk F.size).drop ((k:Int)+1).toNat) BT).size<=1100:=by
               rw[amm,List.length_drop,abE];have:=hls.out;omega
              have hz3:(k:Int)+1<=(LT.size:Int):=by omega
              have e1:((k:Int)+1).toNat=k+1:=by omega
              rw[e1]at hws ⊢;obtain⟨WB,hWB⟩:∃WB,WB=aeN ((nexts tk F.size).drop (k+1)) BT:=⟨_,rfl⟩;rw[<-hWB]at hws ⊢;have HWB:=qz hWB;have hxs:(LT.extract k (k+1)).size<=5:=by rw[ByteArray.size_extract];omega
              clear hWB e1 hz;go_wp2_with fail
              go_round
              case rel=>
               refine⟨(k:Int) - 1,by omega,by omega,rfl,?_⟩;rw[show ((k:Int) - 1+1).toNat=k by omega,hwd.out,HWB.out,HLT.out]
              case measure=>simp[intOf]<;>omega
             ·obtain rfl:z=-1:=by omega
              go_wp2_with fail;go_ret;have hr:=H3.out Hne.out hFl5.out;refine⟨?_,?_,Hon4.out⟩
              ·rw[hr.1,<-HBT.out,<-hFs.out];rfl
              ·rw[hr.2,<-hbk.out];first|exact hMk.out|(rw[hon]at hMk;exact hMk.out)
end Go.Proofs.YtihmcgcgjmbmhaaGreat.T1
