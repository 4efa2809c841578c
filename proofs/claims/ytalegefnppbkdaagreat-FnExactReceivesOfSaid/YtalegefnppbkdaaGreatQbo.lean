/- Texts of the proof. No conditions. -/
import Derived.Test.YtalegefnppbkdaaGreatQbn
namespace Go.Proofs.YtalegefnppbkdaaGreat.T1
open Go.Proofs.Tryz
set_option maxHeartbeats 8000000
open Go.RowKit
set_option maxRecDepth 100000
set_option linter.unusedVariables false
set_option linter.unusedSimpArgs false
def adZ (bs:List Bool)(j:Nat):Bool:=(bs.take j).any id
theorem afz (bs:List Bool)(j:Nat)(h:j<bs.length):adZ bs (j+1)=(adZ bs j || bs[j]):=by
 unfold adZ;rw[List.take_succ_eq_append_getElem h,List.any_append];simp
theorem aqZ (out:List ByteArray)(s x:ByteArray):x∈ahr out s↔x∈out\/x=s:=by
 unfold ahr
 have h:x∈out↔x∈out.take (amd out s)\/x∈out.drop (amd out s):=by
  conv=>lhs;rw[<-List.take_append_drop (amd out s) out]
  exact lma
 rw[h];simp only[lma,List.mem_singleton]
 grind
theorem akq (xs:List ByteArray)(x:ByteArray):x∈adV xs↔x∈xs:=by
 have:∀(l out:List ByteArray),x∈l.foldl ahr out↔x∈out\/x∈l:=by
  intro l;induction l with
  | nil=>intro out;simp
  | cons a l ih=>intro out;simp only[List.foldl_cons,ih,aqZ,List.mem_cons];grind
 have:=this xs []
 simpa [adV] using this
theorem avX (X K:ByteArray)(qs rs:List ByteArray)(bs:List Bool)(hq:qs≠[])(hqr:rs.length=qs.length)(hqb:bs.length=qs.length)(hqn:qs.length<=100)(hrs:∀r∈rs,r.size<=1000)(m:Nat)(br once:Bool) (HK:Ze 71 #[.string X] (.int .u8 43)) (HS:∀w,Calls prog 187 #[.string X] w (RowN qs w)) (HW:∀(j:Nat) (q r:ByteArray) (bb:Bool),qs[j]?=some q->rs[j]?=some r->bs[j]?=some bb->∀br w,MkAt w m br once->Calls prog 103 #[.pointer (some ⟨m,0,none⟩),.string q,.string K] w (MkP m br once r bb w))(w:World)(hm:MkAt w m br once) : Calls prog 174 #[.pointer (some ⟨m,0,none⟩),.string X,.string K] w (MkP m br once (aby ⟨#[43]⟩ (adV rs)) (bs.any id) w):=by
 obtain⟨i0,hi,hz0,hz1,hz2⟩:=info_parts Tryz.infoS;have HK':=qz HK;have HS':=qz HS;have HW':=qz HW;have HM:=qz hm;have HQR:=qz hqr;have HQB:=qz hqb;have HRS:=qz hrs;have hq0:0<qs.length:=List.length_pos_iff.2 hq;clear HK HS HW hm hqr hqb hq hrs
 go_enter func174,ntmps174
 go_wp2_with fail;refine(HK'.out _).mono ?_;rintro e w' ⟨rfl,rfl⟩;go_wp2_with fail;refine(HS'.out _).mono ?_;rintro e w1 ⟨g,cap,rfl,ow,b1⟩;obtain⟨C,hC0,hC1,hCb⟩:=abw ow;have HC0:=qz hC0;have HC1:=qz hC1;have M1:=qz (HM.out.below b1);have O1:=qz ((Only.refl m w).below b1);have hgm:g≠m:=by have:=HM.out.lt;omega
 clear ow b1 hC0 hC1;go_wp2_with fail
 go_loopw [10,87] (fun v c wr=>∃j:Nat,j<=qs.length/\c=.int .i64 (j:Int)/\Hid (wr.ownsRow w.heap.size 9 1 v j ((rs.take j).map Value.string))/\Hid (wr.heap[g]?=some (.cells C 9 (0,0)))/\Hid (v.ownBlock≠some g/\v.ownBlock≠some m)/\Hid (MkAt wr m (br || adZ bs j) once)/\Only m w wr) (fun _ c _=>qs.length - (intOf c).toNat)
 case atStart=>exact⟨0,Nat.zero_le _,rfl,World.ownsRow_nil _ _ _ _,HC0,⟨by simp[Value.ownBlock],by simp[Value.ownBlock]⟩,by have:=M1.out;simpa [Hid,adZ] using this,O1.out⟩
 case round=>
  obtain⟨j,hj,rfl,hown,hg,hng,hMk,hon⟩:=hrel
  by_cases hlt:j<qs.length
  ·obtain⟨q,hq⟩:∃q,q=qs[j]:=⟨_,rfl⟩;obtain⟨r,hr⟩:∃r,r=rs[j]'(by have:=HQR.out;omega):=⟨_,rfl⟩;obtain⟨bb,hbb⟩:∃bb,bb=bs[j]'(by have:=HQB.out;omega):=⟨_,rfl⟩
   have HWj:Hid (∀br w,MkAt w m br once->Calls prog 103 #[.pointer (some ⟨m,0,none⟩),.string q,.string K] w (MkP m br once r bb w)):=by
    exact HW'.out j q r bb (by rw[hq];exact List.getElem?_eq_getElem hlt) (by rw[hr];exact List.getElem?_eq_getElem _) (by rw[hbb];exact List.getElem?_eq_getElem _)
   have c1:wr.cell? ⟨g,j,none⟩=some (.string q):=by
    rw[cell_of_row wr g _ C _ _ hg.out,hq];have:=HC1.out j (by simpa using hlt);simpa using this
   have hrs1:r.size<=1000:=by rw[hr];exact HRS.out _ (List.getElem_mem _)
   have hany:Hid (adZ bs (j+1)=(adZ bs j || bb)):=by show _=_;rw[hbb];exact afz bs j _
   have htk:Hid ((rs.take (j+1)).map Value.string=(rs.take j).map Value.string++[.string r]):=by
    show _=_;rw[List.take_succ_eq_append_getElem (by have:=HQR.out;omega),List.map_append,hr];rfl
   have Hon:=qz hon;clear hq hr hbb hon;go_wp2_with fail;refine(HWj.out _ _ hMk.out).mono ?_;rintro e w2 ⟨rfl,m2,o2⟩;have hg2:=(o2.block g (lt_of_block hg.out) hgm).trans hg.out
   have hown2:w2.ownsRow w.heap.size 9 1 u10 j ((rs.take j).map Value.string):=by
    refine⟨hown.out.1,hown.out.2.imp id ?_⟩;rintro⟨g',cap',cur,hv,h2,h3,h4⟩;exact⟨g',cap',cur,hv,h2,(o2.block g' (lt_of_block h3) (fun e=>hng.out.2 (by rw[hv,<-e];rfl))).trans h3,h4⟩
   have Hg2:=qz hg2;have Hown2:=qz hown2;have M2:=qz m2;have O2:=qz (Hon.out.trans o2);have hs2:w.heap.size<=w2.heap.size:=O2.out.size;have hgl:=lt_of_block hg2;clear m2 o2 hg2 hown2 c1 hMk hg hown
   go_wp2_with ((at_builtin;refine wpList_append_own_at _ rfl (.tmp 91) (.tmp 96) 29 rfl w.heap.size 9 i0 (.string ⟨#[]⟩) 1 16 underlying29 hi hz0 hz1 hz2 rfl (by decide) _ _ _ rfl (Hown2.out.alloc _) ⟨w2.heap.size,0,none⟩ 1 1 [.string r] rfl rfl (abp w2 [.string r] 9) (fun u hu=>by simp at hu;subst hu;rfl) ?c2 ?c3 ?c4 ?_))
   case c2=>unfold maxLen;omega
   case c3=>omega
   case c4=>first|omega|(simp;omega)
   intro v1 w3 hown1 hgrow1 _ hat;have hml:=M2.out.lt
   have hg3:Hid (w3.heap[g]?=some (.cells C 9 (0,0))):=by
    show _=_;rw[hgrow1.block g (by simp;omega) (fun e=>hng.out.1 e.symm)];exact(Below.heap_alloc w2 _ g hgl).trans Hg2.out
   have hM3:Hid (MkAt w3 m (br || adZ bs (j+1)) once):=by
    have h:MkAt w3 m ((br || adZ bs j) || bb) once:=(hgrow1.block m (by simp;omega) (fun e=>hng.out.2 e.symm)).trans ((Below.heap_alloc w2 _ m hml).trans M2.out);show MkAt _ _ _ _;rw[hany.out,<-Bool.or_assoc];exact h
   have hon3:Only m w w3:=⟨by rw[hgrow1.os];exact O2.out.os,by rw[hgrow1.tape];exact O2.out.tape,by rw[hgrow1.output];exact O2.out.output,by have:=hgrow1.size;simp at this;omega,fun i hi hb=>by
    rw[hgrow1.block i (by simp;omega) (fun e=>by have:=(Hown2.out.lt i e.symm).1;omega),Below.heap_alloc w2 _ i (by omega)]
    exact O2.out.block i hi hb⟩
   have hng3:Hid (v1.ownBlock≠some g/\v1.ownBlock≠some m):=by
    rcases hat with h|h
    ·rw[Hid,h];exact hng.out
    ·rw[Hid,h];simp;omega
   have HO3:Hid (w3.ownsRow w.heap.size 9 1 v1 (j+1) ((rs.take (j+1)).map Value.string)):=by
    show World.ownsRow _ _ _ _ _ _ _;rw[htk.out];simpa [List.map_take] using hown1
   clear hown1 hgrow1 hat hng;go_wp2_with fail
   go_roundw
   case rel=>exact⟨j+1,by omega,by push_cast;rfl,HO3,hg3,hng3,hM3,hon3⟩
   case measure=>simp[intOf];omega
  ·obtain rfl:j=qs.length:=by omega
   obtain⟨g',cap',rfl⟩:=abD hown.out hq0;have hrl:Hid ((rs.take qs.length).map Value.string=rs.map Value.string):=by show _=_;rw[List.take_of_length_le (by have:=HQR.out;omega)]
   have hown2:=hown.out;rw[hrl.out]at hown2;obtain⟨C',hC0,hC1,hCb⟩:=abw hown2;have hso:=ajl rs g' qs.length cap' C' HQR.out.symm hq0 (by omega) wr hC0 (fun i hi=>by have:=hC1 i (by simpa using hi);simpa using this);have HSo:=qz hso;have Hon:=qz hon;clear hown hown2 hC0 hC1 hso hng hon;go_wp2_with fail;refine(HSo.out).mono ?_;rintro e w2 ⟨g2,cap2,rfl,ow2,b2⟩;obtain⟨C2,hD0,hD1,_⟩:=abw ow2;have hsl:=acG rs;have htx:=aen w2 g2 rs.length cap2 C2 (adV rs) ⟨#[43]⟩ hsl.symm (by have:=HQR.out;omega) (by have:=HQR.out;omega) (by decide) (fun x hx=>HRS.out x ((akq rs x).1 hx)) (fun i hi=>by have:=hD1 i (by simpa using hi);simpa using this) hD0;have HTx:=qz htx;have B2:=qz b2;clear ow2 hD0 hD1 htx b2;go_wp2_with fail;refine(HTx.out).mono ?_;rintro e w' ⟨rfl,rfl⟩;go_wp2_with fail;go_ret;refine⟨rfl,?_,Hon.out.below B2.out⟩;have:adZ bs qs.length=bs.any id:=by unfold adZ;rw[List.take_of_length_le (by have:=HQB.out;omega)]
   rw[<-this];exact hMk.out.below B2.out
theorem avY (g cap:Nat)(C:Array Value)(TT rs:List ByteArray)(bs:List Bool)(OR LT K:ByteArray)(ts:Nat->Nat->ByteArray)(hq:TT≠[])(hqr:rs.length=TT.length)(hqb:bs.length=TT.length)(hqn:TT.length<=100)(hrs:∀r∈rs,r.size<=1000)(ho:OR.size<=700)(hol:LT.size=OR.size)(m:Nat)(br once:Bool)(hgm:g≠m) (h0:∀(j:Nat) (q:ByteArray),TT[j]?=some q->ts j 0=q)(hC:∀j (h:j<TT.length),C[j]?=some (.string TT[j])) (HR:∀(j i:Nat) (h:i<OR.size) (w:World),j<TT.length->Calls prog 173 #[.string (ts j i),.int .u8 (((OR[i]'h).toNat:Nat):Int),.int .u8 (((LT[i]'(by omega)).toNat:Nat):Int)] w fun e w'=>e=.returned (.string (ts j (i+1)))/\Zb w w') (HW:∀(j:Nat) (r:ByteArray) (bb:Bool),j<TT.length->rs[j]?=some r->bs[j]?=some bb->∀br w,MkAt w m br once->Calls prog 174 #[.pointer (some ⟨m,0,none⟩),.string (ts j OR.size),.string K] w (MkP m br once r bb w))(w:World)(hg:w.heap[g]?=some (.cells C 9 (0,0)))(hm:MkAt w m br once) : Calls prog 140 #[.pointer (some ⟨m,0,none⟩),.slice (some ⟨g,0,none⟩) TT.length cap,.string OR,.string LT,.string K] w (MkP m br once (aby ⟨#[38]⟩ (adV rs)) (bs.any id) w):=by
 obtain⟨i0,hi,hz0,hz1,hz2⟩:=info_parts Tryz.infoS;have HR':=qz HR;have HW':=qz HW;have HM:=qz hm;have HG:=qz hg;have HCC:=qz hC;have HQR:=qz hqr;have HQB:=qz hqb;have HRS:=qz hrs;have HOL:=qz hol;have H0:=qz h0;have hq0:0<TT.length:=List.length_pos_iff.2 hq;clear HR HW hm hqr hqb hq hrs hg hC h0
 go_enter func140,ntmps140
 go_wp2_with fail
 go_loopw [11,17] (fun v c wr=>∃j:Nat,j<=TT.length/\c=.int .i64 (j:Int)/\Hid (wr.ownsRow w.heap.size 9 1 v j ((rs.take j).map Value.string))/\Hid (wr.heap[g]?=some (.cells C 9 (0,0)))/\Hid (v.ownBlock≠some g/\v.ownBlock≠some m)/\Hid (MkAt wr m (br || adZ bs j) once)/\Only m w wr) (fun _ c _=>TT.length - (intOf c).toNat)
 case atStart=>exact⟨0,Nat.zero_le _,rfl,World.ownsRow_nil _ _ _ _,HG,⟨by simp[Value.ownBlock],by simp[Value.ownBlock]⟩,by have:=HM.out;simpa [Hid,adZ] using this,Only.refl m w⟩
 case round=>
  obtain⟨j,hj,rfl,hown,hg,hng,hMk,hon⟩:=hrel
  by_cases hlt:j<TT.length
  ·obtain⟨q,hq⟩:∃q,q=TT[j]:=⟨_,rfl⟩;obtain⟨r,hr⟩:∃r,r=rs[j]'(by have:=HQR.out;omega):=⟨_,rfl⟩;obtain⟨bb,hbb⟩:∃bb,bb=bs[j]'(by have:=HQB.out;omega):=⟨_,rfl⟩
   have HWj:Hid (∀br w,MkAt w m br once->Calls prog 174 #[.pointer (some ⟨m,0,none⟩),.string (ts j OR.size),.string K] w (MkP m br once r bb w)):=by
    exact HW'.out j r bb hlt (by rw[hr];exact List.getElem?_eq_getElem _) (by rw[hbb];exact List.getElem?_eq_getElem _)
   have hts:Hid (ts j 0=q):=H0.out j q (by rw[hq];exact List.getElem?_eq_getElem hlt)
   have c1:wr.cell? ⟨g,j,none⟩=some (.string (ts j 0)):=by
    rw[cell_of_row wr g _ C _ _ hg.out,hts.out,hq];exact HCC.out j hlt
   have hrs1:r.size<=1000:=by rw[hr];exact HRS.out _ (List.getElem_mem _)
   have hany:Hid (adZ bs (j+1)=(adZ bs j || bb)):=by show _=_;rw[hbb];exact afz bs j _
   have htk:Hid ((rs.take (j+1)).map Value.string=(rs.take j).map Value.string++[.string r]):=by
    show _=_;rw[List.take_succ_eq_append_getElem (by have:=HQR.out;omega),List.map_append,hr];rfl
   have Hon:=qz hon;have HRj:Hid (∀(i:Nat) (h:i<OR.size) (w:World),Calls prog 173 #[.string (ts j i),.int .u8 (((OR[i]'h).toNat:Nat):Int),.int .u8 (((LT[i]'(by omega)).toNat:Nat):Int)] w fun e w'=>e=.returned (.string (ts j (i+1)))/\Zb w w'):=fun i h w=>HR'.out j i h w hlt;obtain⟨W0,hW0⟩:∃W0,W0=wr:=⟨_,rfl⟩;rw[<-hW0]at hg hMk Hon hown;have HW0:=qz hW0;clear hq hr hbb hon hts hW0;go_wp2_with fail
   go_loopw [13,14] (fun t c wr2=>∃i:Nat,i<=OR.size/\c=.int .i64 (i:Int)/\t=.string (ts j i)/\Zb W0 wr2) (fun _ c _=>OR.size - (intOf c).toNat)
   case atStart=>exact⟨0,Nat.zero_le _,rfl,rfl,by rw[HW0.out];exact Below.refl _ _⟩
   case round=>
    obtain⟨i,hi',rfl,rfl,hbw⟩:=hrel
    by_cases hlt2:i<OR.size
    ·have hlt3:i<LT.size:=by omega
     have HRi:=qz (HRj.out i hlt2);have hlz:(i:Int)<(OR.size:Int):=by omega
     have hlz3:(i:Int)<(LT.size:Int):=by omega
     have Hb:=qz hbw;clear hbw;go_wp2_with fail
     go_region_with (first
      | (go_at_call 173;(with_reducible refine(HRi.out _).mono ?_);rintro e w2 ⟨rfl,b2⟩;have Hb2:=qz (Hb.out.drew.trans (b2.mono Hb.out.drew.size));clear b2)
      | fail)
     all_goals
      go_wp2_with fail
      go_roundw
      case rel=>exact⟨i+1,by omega,by push_cast;rfl,rfl,Hb2.out⟩
      case measure=>simp[intOf];omega
    ·obtain rfl:i=OR.size:=by omega
     have hg1:Hid (wr.heap[g]?=some (.cells C 9 (0,0))):=by
      show _=_;exact(hbw.block g (lt_of_block hg.out)).trans hg.out
     have hMk1:Hid (MkAt wr m (br || adZ bs j) once):=hMk.out.below hbw;have Hon1:Hid (Only m w wr):=Hon.out.below hbw
     have hown1:Hid (wr.ownsRow w.heap.size 9 1 u11 j ((rs.take j).map Value.string)):=by
      refine⟨hown.out.1,hown.out.2.imp id ?_⟩;rintro⟨g',cap',cur,hv,h2,h3,h4⟩;exact⟨g',cap',cur,hv,h2,(hbw.block g' (lt_of_block h3)).trans h3,h4⟩
     clear hg hMk Hon hown hbw HRj;go_wp2_with fail;refine(HWj.out _ _ hMk1.out).mono ?_;rintro e w2 ⟨rfl,m2,o2⟩;have hg2:=(o2.block g (lt_of_block hg1.out) hgm).trans hg1.out
     have hown2:w2.ownsRow w.heap.size 9 1 u11 j ((rs.take j).map Value.string):=by
      refine⟨hown1.out.1,hown1.out.2.imp id ?_⟩;rintro⟨g',cap',cur,hv,h2,h3,h4⟩;exact⟨g',cap',cur,hv,h2,(o2.block g' (lt_of_block h3) (fun e=>hng.out.2 (by rw[hv,<-e];rfl))).trans h3,h4⟩
     have Hg2:=qz hg2;have Hown2:=qz hown2;have M2:=qz m2;have O2:=qz (Hon1.out.trans o2);have hs2:w.heap.size<=w2.heap.size:=O2.out.size;have hgl:=lt_of_block hg2;clear m2 o2 hg2 hown2 c1 hMk1 hg1 hown1
     go_wp2_with ((at_builtin;refine wpList_append_own_at _ rfl (.tmp 35) (.tmp 40) 29 rfl w.heap.size 9 i0 (.string ⟨#[]⟩) 1 16 underlying29 hi hz0 hz1 hz2 rfl (by decide) _ _ _ rfl (Hown2.out.alloc _) ⟨w2.heap.size,0,none⟩ 1 1 [.string r] rfl rfl (abp w2 [.string r] 9) (fun u hu=>by simp at hu;subst hu;rfl) ?c2 ?c3 ?c4 ?_))
     case c2=>unfold maxLen;omega
     case c3=>omega
     case c4=>first|omega|(simp;omega)
     intro v1 w3 hown1 hgrow1 _ hat;have hml:=M2.out.lt
     have hg3:Hid (w3.heap[g]?=some (.cells C 9 (0,0))):=by
      show _=_;rw[hgrow1.block g (by simp;omega) (fun e=>hng.out.1 e.symm)];exact(Below.heap_alloc w2 _ g hgl).trans Hg2.out
     have hM3:Hid (MkAt w3 m (br || adZ bs (j+1)) once):=by
      have h:MkAt w3 m ((br || adZ bs j) || bb) once:=(hgrow1.block m (by simp;omega) (fun e=>hng.out.2 e.symm)).trans ((Below.heap_alloc w2 _ m hml).trans M2.out);show MkAt _ _ _ _;rw[hany.out,<-Bool.or_assoc];exact h
     have hon3:Only m w w3:=⟨by rw[hgrow1.os];exact O2.out.os,by rw[hgrow1.tape];exact O2.out.tape,by rw[hgrow1.output];exact O2.out.output,by have:=hgrow1.size;simp at this;omega,fun i hi hb=>by
      rw[hgrow1.block i (by simp;omega) (fun e=>by have:=(Hown2.out.lt i e.symm).1;omega),Below.heap_alloc w2 _ i (by omega)]
      exact O2.out.block i hi hb⟩
     have hng3:Hid (v1.ownBlock≠some g/\v1.ownBlock≠some m):=by
      rcases hat with h|h
      ·rw[Hid,h];exact hng.out
      ·rw[Hid,h];simp;omega
     have HO3:Hid (w3.ownsRow w.heap.size 9 1 v1 (j+1) ((rs.take (j+1)).map Value.string)):=by
      show World.ownsRow _ _ _ _ _ _ _;rw[htk.out];simpa [List.map_take] using hown1
     clear hown1 hgrow1 hat hng;go_wp2_with fail
     go_roundw
     case rel=>exact⟨j+1,by omega,by push_cast;rfl,HO3,hg3,hng3,hM3,hon3⟩
     case measure=>simp[intOf];omega
  ·obtain rfl:j=TT.length:=by omega
   obtain⟨g',cap',rfl⟩:=abD hown.out hq0;have hrl:Hid ((rs.take TT.length).map Value.string=rs.map Value.string):=by show _=_;rw[List.take_of_length_le (by have:=HQR.out;omega)]
   have hown2:=hown.out;rw[hrl.out]at hown2;obtain⟨C',hC0,hC1,hCb⟩:=abw hown2;have hso:=ajl rs g' TT.length cap' C' HQR.out.symm hq0 (by omega) wr hC0 (fun i hi=>by have:=hC1 i (by simpa using hi);simpa using this);have HSo:=qz hso;have Hon:=qz hon;clear hown hown2 hC0 hC1 hso hng hon;go_wp2_with fail;refine(HSo.out).mono ?_;rintro e w2 ⟨g2,cap2,rfl,ow2,b2⟩;obtain⟨C2,hD0,hD1,_⟩:=abw ow2;have hsl:=acG rs;have htx:=aen w2 g2 rs.length cap2 C2 (adV rs) ⟨#[38]⟩ hsl.symm (by have:=HQR.out;omega) (by have:=HQR.out;omega) (by decide) (fun x hx=>HRS.out x ((akq rs x).1 hx)) (fun i hi=>by have:=hD1 i (by simpa using hi);simpa using this) hD0;have HTx:=qz htx;have B2:=qz b2;clear ow2 hD0 hD1 htx b2;go_wp2_with fail;refine(HTx.out).mono ?_;rintro e w' ⟨rfl,rfl⟩;go_wp2_with fail;go_ret;refine⟨rfl,?_,Hon.out.below B2.out⟩;have:adZ bs TT.length=bs.any id:=by unfold adZ;rw[List.take_of_length_le (by have:=HQB.out;omega)]
   rw[<-this];exact hMk.out.below B2.out
end Go.Proofs.YtalegefnppbkdaaGreat.T1
