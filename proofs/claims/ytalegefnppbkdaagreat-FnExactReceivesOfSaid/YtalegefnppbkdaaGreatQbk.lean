/- Texts of the proof. No conditions. -/
import Derived.Test.YtalegefnppbkdaaGreatQbi
namespace Go.Proofs.YtalegefnppbkdaaGreat.T1
open Go.Proofs.Tryz
set_option maxHeartbeats 4000000
open Go.RowKit
set_option maxRecDepth 100000
set_option linter.unusedVariables false
set_option linter.unusedSimpArgs false
structure Two (b:Nat) (r:Option Nat) (w w':World):Prop where
 os:w'.os=w.os
 tape:w'.tape=w.tape
 output:w'.output=w.output
 size:w.heap.size<=w'.heap.size
 block:∀k,k<w.heap.size->k≠b->some k≠r->w'.heap[k]?=w.heap[k]?
theorem Two.of_below {b:Nat}{r:Option Nat}{u v:World}(h:Zb u v):Two b r u v:=⟨h.os,h.tape,h.output,h.size,fun k hk _ _=>h.block k hk⟩
theorem Two.trans {b:Nat}{r r':Option Nat}{u v w:World}(h:Two b r u v)(k:Two b r' v w)(hr:r'=r\/∃m,r'=some m/\u.heap.size<=m):Two b r u w:=
 ⟨k.os.trans h.os,k.tape.trans h.tape,k.output.trans h.output,Nat.le_trans h.size k.size,fun i hi hb hn=>(k.block i (Nat.lt_of_lt_of_le hi h.size) hb (by
  rcases hr with e|⟨m,e,hm⟩
  ·rw[e];exact hn
  ·rw[e];intro e2;cases e2;omega)).trans (h.block i hi hb hn)⟩
theorem Two.set {b:Nat}{r:Option Nat}{u v:World}(h:Two b r u v)(o:Nat)(x:Value):Two b r u (v.setCell ⟨b,o,none⟩ x):=
 ⟨h.os,h.tape,h.output,Nat.le_trans h.size (by simp[World.setCell]),fun k hk hb hn=>(Below.heap_setCell _ _ _ _ hb).trans (h.block k hk hb hn)⟩
theorem Two.grown {b:Nat}{r:Option Nat}{u v w:World}(h:Two b r u v)(g:v.grownBy w r):Two b r u w:=
 ⟨g.os.trans h.os,g.tape.trans h.tape,g.output.trans h.output,Nat.le_trans h.size g.size,fun k hk hb hn=>(g.block k (Nat.lt_of_lt_of_le hk h.size) hn).trans (h.block k hk hb hn)⟩
theorem Two.alloc {b:Nat}{r:Option Nat}{u v:World}(h:Two b r u v)(o:Obj):Two b r u (v.alloc o):=
 ⟨h.os,h.tape,h.output,Nat.le_trans h.size (by simp),fun k hk hb hn=>(Below.heap_alloc _ _ _ (Nat.lt_of_lt_of_le hk h.size)).trans (h.block k hk hb hn)⟩
theorem Two.drew {b:Nat}{r:Option Nat}{u v:World}(h:Two b r u v):Two b r u v.drew:=⟨h.os,h.tape,h.output,h.size,h.block⟩
def LvAt (w:World)(b:Nat)(F:ByteArray)(v:Value):Prop:=w.heap[b]?=some (.cells #[.string F,v] 142 (0,0))
theorem LvAt.c0 {w:World}{b:Nat}{F:ByteArray}{v:Value}(h:LvAt w b F v):w.cell? ⟨b,0,none⟩=some (.string F):=by unfold LvAt at h;simp[World.cell?,h]
theorem LvAt.c1 {w:World}{b:Nat}{F:ByteArray}{v:Value}(h:LvAt w b F v):w.cell? ⟨b,1,none⟩=some v:=by unfold LvAt at h;simp[World.cell?,h]
theorem LvAt.f0 {w:World}{b:Nat}{F:ByteArray}{v:Value}(h:LvAt w b F v):w.frozen? ⟨b,0,none⟩=false:=by unfold LvAt at h;simp[World.frozen?,h]
theorem LvAt.f1 {w:World}{b:Nat}{F:ByteArray}{v:Value}(h:LvAt w b F v):w.frozen? ⟨b,1,none⟩=false:=by unfold LvAt at h;simp[World.frozen?,h]
theorem LvAt.lt {w:World}{b:Nat}{F:ByteArray}{v:Value}(h:LvAt w b F v):b<w.heap.size:=lt_of_block h
theorem LvAt.below {w w':World}{b:Nat}{F:ByteArray}{v:Value}(h:LvAt w b F v)(k:Zb w w'):LvAt w' b F v:=(k.block b h.lt).trans h
theorem LvAt.set1 {w:World}{b:Nat}{F:ByteArray}{v:Value}(h:LvAt w b F v)(u:Value):LvAt (w.setCell ⟨b,1,none⟩ u) b F u:=by
 have hlt:=h.lt;unfold LvAt at h ⊢;have h':w.heap[b]=.cells #[.string F,v] 142 (0,0):=by simpa [Array.getElem?_eq_getElem hlt] using h
 show (w.heap.modify b _)[b]?=_;rw[Array.getElem?_eq_getElem (by simpa using hlt),Array.getElem_modify_self,h'];rfl
theorem LvAt.set0 {w:World}{b:Nat}{F:ByteArray}{v:Value}(h:LvAt w b F v)(G:ByteArray):LvAt (w.setCell ⟨b,0,none⟩ (.string G)) b G v:=by
 have hlt:=h.lt;unfold LvAt at h ⊢;have h':w.heap[b]=.cells #[.string F,v] 142 (0,0):=by simpa [Array.getElem?_eq_getElem hlt] using h
 show (w.heap.modify b _)[b]?=_;rw[Array.getElem?_eq_getElem (by simpa using hlt),Array.getElem_modify_self,h'];rfl
theorem aoR {w:World}{base size n b o:Nat}{e:TypeId}{v x:Value}{xs:List Value}(h:w.ownsRow base e size v n xs)(hb:v.ownBlock≠some b):(w.setCell ⟨b,o,none⟩ x).ownsRow base e size v n xs:=by
 refine⟨h.1,h.2.imp id ?_⟩;rintro⟨g,cap,cur,rfl,h2,h3,h4⟩;exact⟨g,cap,cur,rfl,h2,(Below.heap_setCell _ _ _ _ (fun e=>hb (by simp only at e;rw[<-e];rfl))).trans h3,h4⟩
theorem aoS {w:World}{base n b:Nat}{F:ByteArray}{v u:Value}{xs:List Value}(h:LvAt w b F u)(ho:w.ownsRow base 9 1 v n xs):v.ownBlock≠some b:=by
 intro e;rcases ho.2 with⟨rfl,_⟩|⟨g,cap,cur,rfl,_,hg,_⟩
 ·simp[Value.ownBlock]at e
 ·simp[Value.ownBlock]at e;subst e;unfold LvAt at h;rw[h]at hg
  injection hg with hg
  injection hg with _ ht
  revert ht
  decide
def afY (b base:Nat)(v:Value)(F:ByteArray)(xs:List ByteArray)(w:World)(e:Ending)(w':World):Prop:=
 e=.returned (.tuple #[])/\∃v',LvAt w' b F v'/\w'.ownsRow base 9 1 v' xs.length (xs.map Value.string)/\Two b v.ownBlock w w'/\(v'.ownBlock=v.ownBlock\/∃m,v'.ownBlock=some m/\w.heap.size<=m)
theorem atx (s X F:ByteArray)(v:Value)(xs:List ByteArray)(b base:Nat) (HP:Zr 172 #[.string s] (.string X)) (HD:Zr 142 #[.string X] (.bool true)) (w:World)(hb:LvAt w b F v)(ho:w.ownsRow base 9 1 v xs.length (xs.map Value.string)) : Calls prog 137 #[.pointer (some ⟨b,0,none⟩),.string s] w (afY b base v F xs w):=by
 have HP':=qz HP;have HD':=qz HD;have HB:=qz hb;have HO:=qz ho;clear HP HD hb ho
 go_enter func137,ntmps137
 go_wp2_with fail;refine(HP'.out _).mono ?_;rintro e w1 ⟨rfl,b1⟩;go_wp2_with fail;refine(HD'.out _).mono ?_;rintro e w2 ⟨rfl,b2⟩;have bl:=aab b1 b2 b1.size;go_wp2_with fail;go_end0;exact⟨rfl,v,HB.out.below bl,aaP HO.out bl,Two.of_below bl,.inl rfl⟩
theorem aty (s X F:ByteArray)(v:Value)(xs:List ByteArray)(b base:Nat)(k:Int)(k1:(k==38)=false)(k2:(k==35)=false)(hn:xs.length<=1000) (HP:Zr 172 #[.string s] (.string X)) (HD:Zr 142 #[.string X] (.bool false)) (HK:Ze 71 #[.string X] (.int .u8 k)) (w:World)(hb:LvAt w b F v)(ho:w.ownsRow base 9 1 v xs.length (xs.map Value.string))(hbase:base<=w.heap.size) : Calls prog 137 #[.pointer (some ⟨b,0,none⟩),.string s] w (afY b base v F (xs++[X]) w):=by
 obtain⟨i0,hi,hz0,hz1,hz2⟩:=info_parts Tryz.infoS;have HP':=qz HP;have HD':=qz HD;have HK':=qz HK;have HB:=qz hb;have HO:=qz ho;clear HP HD HK hb ho
 go_enter func137,ntmps137
 go_wp2_with fail;refine(HP'.out _).mono ?_;rintro e w1 ⟨rfl,b1⟩;go_wp2_with fail;refine(HD'.out _).mono ?_;rintro e w2 ⟨rfl,b2⟩;have bl:=aab b1 b2 b1.size;clear b1 b2;go_wp2_with fail;refine(HK'.out _).mono ?_;rintro e w' ⟨rfl,rfl⟩;have hb2:=HB.out.below bl;have ho2:=aaP HO.out bl;have HB2:=qz hb2;have HO2:=qz ho2;have c1:=hb2.c1;have hbs:=bl.size;have Bl:=qz bl;clear hb2 ho2 bl
 go_wp2_with ((at_builtin;refine wpList_append_own_at _ rfl (.tmp 16) (.tmp 18) 29 rfl base 9 i0 (.string ⟨#[]⟩) 1 16 underlying29 hi hz0 hz1 hz2 rfl (by decide) _ _ _ rfl (HO2.out.alloc _) ⟨w2.heap.size,0,none⟩ 1 1 [.string X] rfl rfl (abp w2 [.string X] 9) (fun u hu=>by simp at hu;subst hu;rfl) ?c2 ?c3 ?c4 ?_))
 case c2=>unfold maxLen;omega
 case c3=>omega
 case c4=>first|omega|(simp;omega)
 intro v1 w3 hown1 hgrow1 _ hat;obtain⟨gg,cc,rfl⟩:=abD hown1 (by omega);have hvb:v.ownBlock≠some b:=aoS HB2.out HO2.out;have hb3:LvAt w3 b F v:=(hgrow1.block b (by have:=HB2.out.lt;simp;omega) (fun e=>hvb e.symm)).trans ((Below.heap_alloc w2 _ b HB2.out.lt).trans HB2.out);have d1:=hb3.c1;have f1:=hb3.f1;have tw:Two b v.ownBlock w w3:=((Two.of_below Bl.out).alloc _).grown hgrow1;have hv1b:(Value.slice (some ⟨gg,0,none⟩) (xs.length+1) cc).ownBlock≠some b:=aoS hb3 hown1
 have hat2:Hid ((Value.slice (some ⟨gg,0,none⟩) (xs.length+1) cc).ownBlock=v.ownBlock\/∃m,(Value.slice (some ⟨gg,0,none⟩) (xs.length+1) cc).ownBlock=some m/\w.heap.size<=m):=by
  rcases hat with h|h
  ·exact .inl h
  ·exact .inr ⟨_,h,by first|omega|(simp;omega)⟩
 have HB3:=qz hb3;have HO3:=qz hown1;have Tw:=qz tw;have Hv:=qz hv1b;clear hown1 hgrow1 hat hb3 tw hv1b hvb c1;go_wp2_with fail;go_end0;refine⟨rfl,_,HB3.out.set1 _,?_,Tw.out.set _ _,hat2.out⟩;have:=aoR (o:=1) (x:=(Value.slice (some ⟨gg,0,none⟩) (xs.length+1) cc)) HO3.out Hv.out;rw[lla,List.map_append];exact this
theorem avP (s X U V F F1 F2:ByteArray)(v:Value)(xs ys zs:List ByteArray)(b base:Nat) (HP:Zr 172 #[.string s] (.string X)) (HD:Zr 142 #[.string X] (.bool false)) (HK:Ze 71 #[.string X] (.int .u8 38)) (HPt:∀w,Calls prog 72 #[.string X] w fun e w'=>∃b,e=.returned (.slice (some ⟨b,0,none⟩) 2 2)/\w.heap.size<=b/\w'.heap[b]?=some (.cells #[.string U,.string V] 9 (0,0))/\Zb w w') (HU:∀v w,LvAt w b F v->w.ownsRow base 9 1 v xs.length (xs.map Value.string)->base<=w.heap.size->Calls prog 137 #[.pointer (some ⟨b,0,none⟩),.string U] w (afY b base v F1 ys w)) (HV:∀v w,LvAt w b F1 v->w.ownsRow base 9 1 v ys.length (ys.map Value.string)->base<=w.heap.size->Calls prog 137 #[.pointer (some ⟨b,0,none⟩),.string V] w (afY b base v F2 zs w)) (w:World)(hb:LvAt w b F v)(ho:w.ownsRow base 9 1 v xs.length (xs.map Value.string))(hbase:base<=w.heap.size) : Calls prog 137 #[.pointer (some ⟨b,0,none⟩),.string s] w (afY b base v F2 zs w):=by
 have HP':=qz HP;have HD':=qz HD;have HK':=qz HK;have HPt':=qz HPt;have HU':=qz HU;have HV':=qz HV;have HB:=qz hb;have HO:=qz ho;clear HP HD HK HPt HU HV hb ho
 go_enter func137,ntmps137
 go_wp2_with fail;refine(HP'.out _).mono ?_;rintro e w1 ⟨rfl,b1⟩;go_wp2_with fail;refine(HD'.out _).mono ?_;rintro e w2 ⟨rfl,b2⟩;have bl:=aab b1 b2 b1.size;clear b1 b2;go_wp2_with fail;refine(HK'.out _).mono ?_;rintro e w' ⟨rfl,rfl⟩;go_wp2_with fail;refine(HPt'.out _).mono ?_;rintro e w3 ⟨p,rfl,hp,hh,b3⟩;have bl3:=aab bl b3 bl.size;have c0:=aai hh;have Hh:=qz hh;have Bl:=qz bl3;have hpw:w.heap.size<=p:=Nat.le_trans bl.size hp;clear hh bl b3 bl3 hp;have hb3:=HB.out.below Bl.out;have ho3:=aaP HO.out Bl.out;have HB3:=qz hb3;have HO3:=qz ho3;have hpb:p≠b:=by have:=HB.out.lt;omega
 have hpv:some p≠v.ownBlock:=fun e=>by have:=(HO.out.lt p e.symm).2;omega
 clear hb3 ho3;go_wp2_with fail;refine(HU'.out v _ HB3.out HO3.out (Nat.le_trans hbase Bl.out.size)).mono ?_;rintro e w4 ⟨rfl,v4,hb4,ho4,t4,a4⟩;have hh4:=(t4.block p (lt_of_block Hh.out) hpb hpv).trans Hh.out;have c1:=aak hh4;have HB4:=qz hb4;have HO4:=qz ho4;have T4:=qz ((Two.of_below Bl.out).trans t4 (.inl rfl));have hs4:w3.heap.size<=w4.heap.size:=t4.size;have A4:=qz a4;clear hb4 ho4 t4 a4 hh4 c0;go_wp2_with fail;refine(HV'.out v4 _ HB4.out HO4.out (by have:=Bl.out.size;omega)).mono ?_;rintro e w5 ⟨rfl,v5,hb5,ho5,t5,a5⟩;have HB5:=qz hb5;have HO5:=qz ho5;have T5:=qz t5;have A5:=qz a5;clear hb5 ho5 t5 a5 c1;go_wp2_with fail;go_end0
 have e4:v4.ownBlock=v.ownBlock\/∃m,v4.ownBlock=some m/\w.heap.size<=m:=by
  rcases A4.out with h|⟨m,h,hm⟩
  ·exact .inl h
  ·exact .inr ⟨m,h,Nat.le_trans Bl.out.size hm⟩
 refine⟨rfl,v5,HB5.out,HO5.out,T4.out.trans T5.out e4,?_⟩;rcases A5.out with h|⟨m,h,hm⟩
 ·rw[h];exact e4
 ·exact .inr ⟨m,h,by have:=Bl.out.size;omega⟩
theorem atz {i:Nat}(h:i<88)(h25:i≠25):(((gl i).toNat:Nat):Int)+1=(((gl (i+1)).toNat:Nat):Int)/\(((((gl (i+1)).toNat:Nat):Int))==91)=false/\(((gl i).toNat:Nat):Int)<255/\(0:Int)<=(((gl i).toNat:Nat):Int):=by
 have h1:=agl (k:=i) (by omega);have h2:=agl (k:=i+1) (by omega);rw[h1,h2];refine⟨?_,?_,?_,by omega⟩
 ·split<;>split<;>omega
 ·rw[beq_eq_false_iff_ne];split<;>omega
 ·split<;>omega
theorem avQ (s X F FX RP F2:ByteArray)(x:Int)(k:Nat)(hk:k<=88)(v:Value)(xs zs:List ByteArray)(b base:Nat)(hF:F.size<=1000)(hFX:FX.size<=1000)(hX:X.size<=1000)(h3:3<=X.size)(h1:((X[1]'(by omega)).toNat:Int)=x) (hF1:∀i,i<k->inB F (((gl i).toNat:Nat):Int)=true)(hF2:inB F (((gl k).toNat:Nat):Int)=false)(hX2:inB FX (((gl k).toNat:Nat):Int)=false) (HP:Zr 172 #[.string s] (.string X)) (HD:Zr 142 #[.string X] (.bool false)) (HK:Ze 71 #[.string X] (.int .u8 35)) (HFr:Zr 62 #[.string X] (.string FX)) (HR:Zr 173 #[.string (X.extract 3 X.size),.int .u8 x,.int .u8 (((gl k).toNat:Nat):Int)] (.string RP)) (HG:∀v w,LvAt w b (F++one (gl k)) v->w.ownsRow base 9 1 v xs.length (xs.map Value.string)->base<=w.heap.size->Calls prog 137 #[.pointer (some ⟨b,0,none⟩),.string RP] w (afY b base v F2 zs w)) (w:World)(hb:LvAt w b F v)(ho:w.ownsRow base 9 1 v xs.length (xs.map Value.string))(hbase:base<=w.heap.size) : Calls prog 137 #[.pointer (some ⟨b,0,none⟩),.string s] w (afY b base v F2 zs w):=by
 have HP':=qz HP;have HD':=qz HD;have HK':=qz HK;have HFr':=qz HFr;have HR':=qz HR;have HG':=qz HG;have HB:=qz hb;have HO:=qz ho;have HF1:=qz hF1;subst h1;have p1:(1:Int)<(X.size:Int):=by omega
 have p3:(3:Int)<=(X.size:Int):=by omega
 have HIn:=qz (fun (c:Int) (w:World)=>abr F c w (by omega));have HInX:=qz (fun (w:World)=>abr FX (((gl k).toNat:Nat):Int) w (by omega));have HF2:=qz hF2;have HX2:=qz hX2;clear HP HD HK HFr HR HG hb ho hF1 hF2 hX2
 go_enter func137,ntmps137
 go_wp2_with fail;refine(HP'.out _).mono ?_;rintro e w1 ⟨rfl,b1⟩;go_wp2_with fail;refine(HD'.out _).mono ?_;rintro e w2 ⟨rfl,b2⟩;have bl:=aab b1 b2 b1.size;clear b1 b2;go_wp2_with fail;refine(HK'.out _).mono ?_;rintro e w' ⟨rfl,rfl⟩;have Bl:=qz bl;clear bl;go_wp2_with fail
 go_loopw [5] (fun y wr=>∃i:Nat,i<=k/\y=.int .u8 (((gl i).toNat:Nat):Int)/\wr=w2) (fun y _=>300 - (intOf y).toNat)
 case atStart=>exact⟨0,Nat.zero_le _,rfl,rfl⟩
 case round=>
  obtain⟨i,hik,rfl,rfl⟩:=hrel;have hb2:=HB.out.below Bl.out;have c0:=hb2.c0;clear hb2
  by_cases hlt:i<k
  ·have hT:=HF1.out i hlt
   have HC:Hid (Ze 88 #[.string F,.int .u8 (((gl i).toNat:Nat):Int)] (.bool true)):=fun w=>by
    have:=HIn.out (((gl i).toNat:Nat):Int) w;rw[hT]at this;exact this
   clear hT
   by_cases h25:i=25
   ·subst h25;rw[show (((gl 25).toNat:Nat):Int)=90 from by decide]at HC ⊢;go_wp2_with fail;refine(HC.out _).mono ?_;rintro e w' ⟨rfl,rfl⟩;go_wp2_with fail
    go_roundw
    case rel=>exact⟨26,by omega,by rw[show (((gl 26).toNat:Nat):Int)=192 from by decide],by first|rfl|trivial⟩
    case measure=>simp[intOf]
   ·obtain⟨s1,s2,s3,s4⟩:=atz (i:=i) (by omega) h25;obtain⟨N,hN⟩:∃N,N=(((gl i).toNat:Nat):Int):=⟨_,rfl⟩;obtain⟨M,hM⟩:∃M,M=(((gl (i+1)).toNat:Nat):Int):=⟨_,rfl⟩;rw[<-hN,<-hM]at s1;rw[<-hM]at s2;rw[<-hN]at s3 s4 HC ⊢;have hwr:IntKind.u8.wrap (N+1)=M:=by rw[s1];exact IntWalk.u8_in _ (by omega)
    have HM:=qz hM;have hNM:M=N+1:=s1.symm;have Hnm:=qz hNM;clear hN hM s1 hNM;go_wp2_with fail;refine(HC.out _).mono ?_;rintro e w' ⟨rfl,rfl⟩;go_wp2_with fail
    go_roundw
    case rel=>exact⟨i+1,by omega,by rw[HM.out],by first|rfl|trivial⟩
    case measure=>have:=Hnm.out;simp[intOf];omega
  ·obtain rfl:i=k:=by omega
   have HC:Hid (Ze 88 #[.string F,.int .u8 (((gl i).toNat:Nat):Int)] (.bool false)):=fun w=>by
    have:=HIn.out (((gl i).toNat:Nat):Int) w;rw[HF2.out]at this;exact this
   have HCX:Hid (Ze 88 #[.string FX,.int .u8 (((gl i).toNat:Nat):Int)] (.bool false)):=fun w=>by
    have:=HInX.out w;rw[HX2.out]at this;exact this
   obtain⟨Y,hY⟩:∃Y,Y=gl i:=⟨_,rfl⟩;rw[<-hY]at HC HCX HR' HG' ⊢;have HY:=qz hY;have hcv:=amT Y;have hcvd:=amU Y;have hone:(one Y).size<=1:=nl _;clear hY HIn HInX HF1 HF2 HX2;go_wp2_with fail;refine(HC.out _).mono ?_;rintro e w' ⟨rfl,rfl⟩;go_wp2_with fail;refine(HFr'.out _).mono ?_;rintro e w5 ⟨rfl,b5⟩;have bl5:=aab Bl.out b5 Bl.out.size;have Bl5:=qz bl5;clear b5 bl5 c0;go_wp2_with fail;refine(HCX.out _).mono ?_;rintro e w' ⟨rfl,rfl⟩;have hb5:=HB.out.below Bl5.out;have ho5:=aaP HO.out Bl5.out;have c0:=hb5.c0;have f0:=hb5.f0;have HB5:=qz hb5;have HO5:=qz ho5;clear hb5 ho5;go_wp2_with fail;have hBo:Hid (∀o,LvAt (w5.alloc o) b F v):=fun o=>HB5.out.below ((Below.refl _ _).alloc (nl _) o);have fz:∀o,(w5.alloc o).frozen? ⟨b,0,none⟩=false:=fun o=>(hBo.out o).f0;have cz:∀o,(w5.alloc o).cell? ⟨b,0,none⟩=some (.string F):=fun o=>(hBo.out o).c0;have hvb:v.ownBlock≠some b:=aoS HB5.out HO5.out
   have hW:∃W,W=((w5.alloc (.cells #[.int .u8 (Y.toNat:Int)] 5)).setCell ⟨b,0,none⟩ (.string (F++one Y))).drew/\LvAt W b (F++one Y) v/\W.ownsRow base 9 1 v xs.length (xs.map Value.string)/\Two b v.ownBlock w W/\base<=W.heap.size:=
    ⟨_,rfl,(hBo.out _).set0 _,aoR (HO5.out.alloc _) hvb,(((Two.of_below Bl5.out).alloc _).set _ _).drew,by
     have h1:=(((Two.of_below (b:=b) (r:=v.ownBlock) Bl5.out).alloc (.cells #[.int .u8 (Y.toNat:Int)] 5)).set 0 (.string (F++one Y))).drew.size
     exact Nat.le_trans hbase h1⟩
   obtain⟨W,hW,hWb,hWo,hWt,hWs⟩:=hW;have HWb:=qz hWb;have HWo:=qz hWo;have HWt:=qz hWt;have HHW:=qz hW;clear hW hWb hWo hWt hvb
   go_region
   rw[<-HHW.out];have cW:=HWb.out.c0;clear fz cz c0 f0 hcv hcvd;go_wp2_with fail
   go_region_held3 (fun w'=>True) (trivial)
    ((first
    | (go_at_call 173;(with_reducible refine(HR'.out _).mono ?_);rintro e w6 ⟨rfl,b6⟩;have B6:=qz b6;clear b6)
    | (go_at_call 137;(refine(HG'.out v _ (LvAt.below (w:=W.drew) HWb.out B6.out) (aaP (w:=W.drew) HWo.out B6.out) (Nat.le_trans hWs B6.out.size)).mono ?_);rintro e w7 ⟨rfl,v7,hb7,ho7,t7,a7⟩;have HB7:=qz hb7;have HO7:=qz ho7;have T7:=qz t7;have A7:=qz a7;clear hb7 ho7 t7 a7)
    | fail))
   go_wp2_with fail;go_end0;have t6:Two b v.ownBlock W w6:=Two.of_below (u:=W) ⟨B6.out.os,B6.out.tape,B6.out.output,B6.out.size,B6.out.block⟩;refine⟨rfl,v7,HB7.out,HO7.out,(HWt.out.trans t6 (.inl rfl)).trans T7.out (.inl rfl),?_⟩;rcases A7.out with h|⟨m,h,hm⟩
   ·exact .inl h
   ·exact .inr ⟨m,h,by have h1:=HWt.out.size;have h2:=t6.size;omega⟩
end Go.Proofs.YtalegefnppbkdaaGreat.T1
