/- Texts of the proof. No conditions. -/
import Derived.Test.YtihmcgcgjmbmhaaGreatQay
import Derived.Test.YtihmcgcgjmbmhaaGreatQba
import Derived.Test.YtihmcgcgjmbmhaaGreatQbb
namespace Go.Proofs.YtihmcgcgjmbmhaaGreat.T1
open Go.Proofs.Tryz
set_option maxHeartbeats 8000000
open Go.RowKit
set_option maxRecDepth 100000
set_option linter.unusedVariables false
set_option linter.unusedSimpArgs false
def isS:Tm->Bool
 | .sum _ _=>true
 | _=>false
theorem acN (t:Tm):((one t.kind).toList==[43])=isS t:=by
 rw[Lib.toList_data]
 cases t<;>rfl
theorem BS (l:List UInt8)(q:Tm)(t:Tm)(h:t.pr=l++q.pr):B l++S q=S t:=by
 apply abt
 show (B l++S q).data.toList=t.pr.toArray.toList;rw[ByteArray.data_append,Array.toList_append,h];rfl
theorem ar7 (s:Tm):2 * (smds s).length<=s.size+1:=by
 induction s with
 | sum p q ih ih2=>simp only[smds,lla,Tm.size];omega
 | _=>simp only[smds,List.length_cons,List.length_nil,Tm.size]<;>omega
theorem au6 (s:Tm):2 * (lvl s).2.length<=s.size+1:=by
 induction s with
 | own x p ih=>simp only[lvl,Tm.size];omega
 | par p q ih ih2=>simp only[lvl,lla,Tm.size];omega
 | _=>simp only[lvl,List.length_cons,List.length_nil,Tm.size]<;>omega
def LvH (n:Nat):Prop:=∀(s:Tm) (D:Array Value) (L:UInt8->UInt8) (vL:Value) (gL:Nat) (left:List UInt8) (w:World),s.size<=n->DrOf D L vL->LfS w gL vL left->gL<w.heap.size->
 fl s left.length=true->s.pr.length<=900->s.size<=121->s.bnd.Pairwise (·<·)->left.length<=30->
 Calls prog 99 #[.agg D,.iface (aau s) (pay s)] w (ae7 (S (levI n L left s)) w)
theorem aeO (t:Tm):(B (hdL t)).size<=10:=by rw[aa1];cases t<;>simp[hdL]
theorem amp (n:Nat)(H:LvH n)(T:Tm)(D:Array Value)(L:UInt8->UInt8)(vL:Value)(gL:Nat)(left:List UInt8)(w:World)(hT:isS T=true)(hsz:T.size<=n+1) (hD:DrOf D L vL)(hLf:LfS w gL vL left)(hgL:gL<w.heap.size)(hsm:∀r∈smds T,fl r left.length=true)(hpl:T.pr.length<=900)(hs2:T.size<=121)(hb:T.bnd.Pairwise (·<·))(hll:left.length<=30)(hsz':∀r∈smds T,r.size<T.size) : Calls prog 154 #[.agg D,.iface (aau T) (pay T)] w (ae7 (S (joinR .sum (srtT ((smds T).map (levI n L left))))) w):=by
 have hn0:=(ahL T).1
 have hne:srtT ((smds T).map (levI n L left))≠[]:=fun e=>by
  have:=List.map_eq_nil_iff.1 (ahB e);rw[this]at hn0;simp at hn0
 have h2:=ar7 T;have htx:=aq7 T;have hbs:=adP T;rw[<-ai5 _ hne];refine au3 _ _ D hD.sz (smds T) (srtT ((smds T).map (levI n L left))) (smds T).length _ _ (by rw[acN];exact hT) w (abj T).pf (aaS T (by omega)) ?_ ?_
 ·intro w1 v base b1 ho;refine af6 _ ar3 D hD.sz (smds T) ((smds T).map (levI n L left)) (smds T).length rfl (by simp) (by omega) v base w1 ho ?_;intro i h1 h2 w' b';rw[List.getElem_map];have hm:(smds T)[i]∈smds T:=List.getElem_mem h1;have b2:=aaa b1 b';exact H _ D L vL gL left w' (by have:=hsz' _ hm;omega) hD (hLf.below b2) (Nat.lt_of_lt_of_le hgL b2.size) (hsm _ hm) (by have:=htx _ hm;omega) (by have:=hsz' _ hm;omega) (hb.sublist (hbs _ hm)) hll
 ·intro w1 v base ho
  exact axi ⟨#[43]⟩ (by decide) _ v _ base w1 ho (by rw[adb,List.length_map]) (by omega) (by omega) (fun t ht=>by
   obtain⟨r,hr,rfl⟩:=List.mem_map.1 ((aaG _ _).1 ht);have h3:=abL n L left r;have h4:=htx r hr
   omega)
theorem ar8 (n:Nat)(H:LvH n)(T:Tm)(D:Array Value)(L:UInt8->UInt8)(vL:Value)(gL:Nat)(left:List UInt8)(w:World)(hsz:T.size<=n+1)(hk:(∀p q,T≠.par p q)/\(∀x p,T≠.own x p)/\T≠.nil) (hD:DrOf D L vL)(hLf:LfS w gL vL left)(hgL:gL<w.heap.size)(htf:tf T left.length=true)(hpl:T.pr.length<=900)(hs2:T.size<=121)(hb:T.bnd.Pairwise (·<·))(hll:left.length<=30) : Calls prog 154 #[.agg D,.iface (aau T) (pay T)] w (ae7 (S (thI (levI n) L left T)) w):=by
 cases T with
 | nil=>exact absurd rfl hk.2.2
 | par p q=>exact absurd rfl (hk.1 p q)
 | own x p=>exact absurd rfl (hk.2.1 x p)
 | snd a b p=>
  have hpp:p.pr.length<=900:=by simp only[Tm.pr,lla,List.length_cons]at hpl;omega
  simp only[Tm.size]at hsz hs2;have e:S (thI (levI n) L left (.snd a b p))=B (hdL (.snd (L a) (L b) p))++S (levI n L left p):=(BS _ _ _ (ag6 _ _ rfl)).symm;rw[e]
  exact ahU _ _ _ _ _ _ D hD.sz _ _ _ (aeO _) (by rw[aaq];have:=abL n L left p;omega) (acN _) w (abj (.snd a b p)).pf (fun v hv=>aml (.snd a b p) D L vL hD _ v hv) (aam (.snd (L a) (L b) p)) (ahd _) (ab4 (.snd (L a) (L b) p) p rfl) (parts_fact (.snd (L a) (L b) p)).pf
   (fun w1 b1=>H p D L vL gL left w1 (by omega) hD (hLf.below b1) (Nat.lt_of_lt_of_le hgL b1.size) htf hpp (by omega) hb hll)
 | tau p=>
  have hpp:p.pr.length<=900:=by simp only[Tm.pr,lla,List.length_cons]at hpl;omega
  simp only[Tm.size]at hsz hs2;have e:S (thI (levI n) L left (.tau p))=B (hdL (.tau p))++S (levI n L left p):=(BS _ _ _ (ag6 (.tau (levI n L left p)) _ rfl)).symm;rw[e]
  exact ahU _ _ _ _ _ _ D hD.sz _ _ _ (aeO _) (by rw[aaq];have:=abL n L left p;omega) (acN _) w (abj (.tau p)).pf (fun v hv=>aml (.tau p) D L vL hD _ v hv) (aam (.tau p)) (afo _) (ab4 (.tau p) p rfl) (parts_fact (.tau p)).pf
   (fun w1 b1=>H p D L vL gL left w1 (by omega) hD (hLf.below b1) (Nat.lt_of_lt_of_le hgL b1.size) htf hpp (by omega) hb hll)
 | rep p=>
  have hpp:p.pr.length<=900:=by simp only[Tm.pr,lla,List.length_cons]at hpl;omega
  simp only[Tm.size]at hsz hs2;have e:S (thI (levI n) L left (.rep p))=B (hdL (.rep p))++S (levI n L left p):=(BS _ _ _ (ag6 (.rep (levI n L left p)) _ rfl)).symm;rw[e]
  exact ahU _ _ _ _ _ _ D hD.sz _ _ _ (aeO _) (by rw[aaq];have:=abL n L left p;omega) (acN _) w (abj (.rep p)).pf (fun v hv=>aml (.rep p) D L vL hD _ v hv) (aam (.rep p)) (afr _) (ab4 (.rep p) p rfl) (parts_fact (.rep p)).pf
   (fun w1 b1=>H p D L vL gL left w1 (by omega) hD (hLf.below b1) (Nat.lt_of_lt_of_le hgL b1.size) htf hpp (by omega) hb hll)
 | mat a b p=>
  have hpp:p.pr.length<=900:=by simp only[Tm.pr,lla,List.length_cons]at hpl;omega
  simp only[Tm.size]at hsz hs2
  have HL:∀w1,Zb w w1->Calls prog 99 #[.agg D,.iface (aau p) (pay p)] w1 (ae7 (S (levI n L left p)) w1):=
   fun w1 b1=>H p D L vL gL left w1 (by omega) hD (hLf.below b1) (Nat.lt_of_lt_of_le hgL b1.size) htf hpp (by omega) hb hll
  by_cases hlt:L b<L a
  ·have e:S (thI (levI n) L left (.mat a b p))=B (hdL (.mat (L b) (L a) p))++S (levI n L left p):=by
    simp only[thI,if_pos hlt];exact(BS _ _ _ (ag6 (.mat (L b) (L a) (levI n L left p)) _ rfl)).symm
   rw[e];exact au1 _ _ _ _ _ _ D hD.sz _ _ _ (aeO _) (by rw[aaq];have:=abL n L left p;omega) (acN _) ((L a).toNat:Int) ((L b).toNat:Int) (by rw[abT]at hlt;omega) w rfl rfl (abj (.mat a b p)).pf (fun v hv=>aml (.mat a b p) D L vL hD _ v hv) (aam (.mat (L a) (L b) p)) (ab4 (.mat (L b) (L a) p) p rfl) (parts_fact (.mat (L b) (L a) p)).pf HL
  ·have e:S (thI (levI n) L left (.mat a b p))=B (hdL (.mat (L a) (L b) p))++S (levI n L left p):=by
    simp only[thI,if_neg hlt];exact(BS _ _ _ (ag6 (.mat (L a) (L b) (levI n L left p)) _ rfl)).symm
   rw[e];exact au0 _ _ _ _ _ _ D hD.sz _ _ _ (aeO _) (by rw[aaq];have:=abL n L left p;omega) (acN _) ((L a).toNat:Int) ((L b).toNat:Int) (by rw[abT]at hlt;omega) w rfl rfl (abj (.mat a b p)).pf (fun v hv=>aml (.mat a b p) D L vL hD _ v hv) (aam (.mat (L a) (L b) p)) (ab4 (.mat (L a) (L b) p) p rfl) (parts_fact (.mat (L a) (L b) p)).pf HL
 | rcv a x p=>
  have hpp:p.pr.length<=900:=by simp only[Tm.pr,lla,List.length_cons]at hpl;omega
  simp only[Tm.size]at hsz hs2
  cases left with
  | nil=>simp[tf]at htf
  | cons c left=>
   have hu:updL L [x] (c::left)=upd L x c:=by cases left<;>rfl
   have hc:updL L [x] (c::left) x=c:=by rw[hu];unfold upd;rw[if_pos rfl]
   have e:S (thI (levI n) L (c::left) (.rcv a x p))=B (hdL (.rcv (L a) c p))++S (levI n (upd L x c) left p):=(BS _ _ _ (ag6 (.rcv (L a) c (levI n (upd L x c) left p)) _ rfl)).symm;rw[e];refine au2 _ _ _ _ _ _ (pay (.rcv (L a) c p)) _ D L vL gL (c::left) hD (by simp at hll ⊢;omega) (by simp) x _ _ _ (aeO _) (by rw[aaq];have:=abL n (upd L x c) left p;omega) (acN _) w hLf hgL (abj (.rcv a x p)).pf (fun v hv=>aml (.rcv a x p) D L vL hD _ v hv) (aam (.rcv (L a) x p)) ?_ (aeW _) (ab4 (.rcv (L a) c p) p rfl) (parts_fact (.rcv (L a) c p)).pf ?_
   ·intro w1;rw[hc];exact aeD _ _ _ _ _ w1
   ·intro D2 v2 w1 hd2 hl2 b1;rw[hu]at hd2;refine H p D2 (upd L x c) v2 gL left w1 (by omega) hd2 hl2 (Nat.lt_of_lt_of_le hgL b1.size) ?_ hpp (by omega) (List.Pairwise.of_cons hb) (by simp at hll;omega);simp only[tf,List.length_cons,bae]at htf;simpa [fl] using htf
 | sum p q=>
  have hsm:=(acX (.sum p q) left.length).1 (by rw[afH];exact htf);have e1:thI (levI n) L left (.sum p q)=joinR .sum (srtT ((smds (.sum p q)).map (levI n L left))):=rfl;rw[e1];refine amp n H (.sum p q) D L vL gL left w rfl hsz hD hLf hgL hsm hpl hs2 hb hll fun r hr=>?_;simp only[smds,lma]at hr;simp only[Tm.size];rcases hr with hr|hr
  ·have:=aaL p r hr;omega
  ·have:=aaL q r hr;omega
theorem au7 (a:UInt8) (base n:Nat)(xs:List Value)(v:Value)(w:World)(ho:w.ownsRow base 5 1 v n xs)(hn:n+3<=1000)(hb:base<=w.heap.size) : Calls prog 129 #[v,.iface 136 (.agg #[.int .u8 (a.toNat:Int),.nilIface])] w (aa3 base n xs [35,a,46] w):=by
 obtain⟨i0,hi,hz0,hz1,hz2⟩:=info_parts Tryz.infoU8
 go_enter func129,ntmps129
 go_wp2_with (at_builtin;refine wpList_append_own _ rfl (.tmp 41) (.tmp 44) 73 rfl base 5 i0 (.int .u8 0) 1 1 underlying73 hi hz0 hz1 hz2 rfl (by decide) v n xs rfl ((ho.alloc _).alloc _) ⟨w.heap.size+1,0,none⟩ 3 3 ([35,a,46].map ub) rfl rfl ?c1 (acR _) ?c2 ?c3 ?c4 ?_)
 case c1=>exact abC w _ ([35,a,46].map ub) 5
 case c2=>unfold maxLen;omega
 case c3=>omega
 case c4=>simp;omega
 intro v1 w1 hown hgrow _;have K1:Hid (Kp base 5 w w1):=(Kp.of_below (aaw w _ _) hb).trans (Kp.of_grown hgrow ((ho.alloc _).alloc _) (by simp;omega));have HO:=qz hown;clear hown hgrow;go_wp2_with fail;go_ret;exact⟨v1,rfl,HO.out,K1.out⟩
theorem apV (a:UInt8)(w:World):Calls prog 157 #[.iface 136 (.agg #[.int .u8 (a.toNat:Int),.nilIface])] w (ae7 (B [35,a,46]) w):=
 adx _ _ [35,a,46] (by simp) (by simp) (fun w=>au7 a w.heap.size 0 [] (.slice none 0 0) w (World.ownsRow_nil _ _ _ _) (by omega) (nl _)) w
theorem au8 (T:TypeId)(V:Value)(D:Array Value)(L:UInt8->UInt8)(vL:Value)(gL:Nat)(left:List UInt8)(fs:List UInt8)(ts best:List Tm)(k:Nat)(q:Tm)(w:World)(hD:DrOf D L vL)(hLf:LfS w gL vL left)(hgL:gL<w.heap.size) (hq:q.pr.length<=900)(hfl:fs.length<=left.length)(hf5:fs.length<=5)(hll:left.length<=30) (hLv:∀w1,Calls prog 61 #[.iface T V] w1 (ajb fs (ts.map enc) w1)) (hLe:∀w1 v vT base base2 gd gt,Zb w w1->w1.heap[gd]?=some (.cells D 132 (0,0))->w1.cell? ⟨gt,0,none⟩=some vT->w1.ownsRow base 41 1 vT ts.length (ts.map enc)->w1.ownsRow base2 5 1 v fs.length (fs.map ub)-> Calls prog 156 #[.agg #[.func (.func 151) #[] #[.pointer (some ⟨gd,0,none⟩),.pointer (some ⟨gt,0,none⟩)]],v] w1 (TxP best k w1)) (hBr:∀w1 v base,w1.ownsRow base 9 1 v k (best.map sv)->Calls prog 155 #[v,.string ⟨#[38]⟩] w1 fun e w'=>e=.returned (.string (S q))/\w1=w') (hHd:∀(c:UInt8) w1,Calls prog 157 #[.iface 136 (.agg #[.int .u8 (c.toNat:Int),.nilIface])] w1 (ae7 (B [35,c,46]) w1)) : Calls prog 99 #[.agg D,.iface T V] w (ae7 (S (wrapO (left.take fs.length) q)) w):=by
 have HLv:=qz hLv;have HLe:=qz hLe;have HBr:=qz hBr;have HHd:=qz hHd;have HLf:=qz hLf;have HD:=qz hD;obtain⟨n,hn⟩:∃n,n=fs.length:=⟨_,rfl⟩;have HN:=qz hn;rw[<-hn]at hfl hf5 ⊢;clear hLv hLe hBr hHd hLf hD hn
 go_enter func99,ntmps99
 go_wp2_with fail;obtain⟨W,hW⟩:∃W,W=w.alloc (.cells D 132):=⟨_,rfl⟩;have hr:=qz (show W.heap[w.heap.size]?=some (.cells D 132 (0,0)) by rw[hW];exact aai _ _);have bl:Zb w W:=by rw[hW];exact bra
 rw[<-hW];clear hW;refine(HLv.out _).mono ?_;rintro e w1 ⟨v1,v2,rfl,o1,o2,b1⟩;rw[<-HN.out]at o1;rw[List.length_map]at o2;replace hr:=qz (aae hr.out b1);replace bl:=aaa bl b1;have O1:=qz o1;have O2:=qz o2;obtain⟨p1,c1,rfl⟩:=aaM o1;obtain⟨p2,c2,rfl⟩:=aaM o2;clear b1 o1 o2;have lb:=aaK w1 (.cells #[.slice p2 ts.length c2] 74) (.cells #[.nilFunc] 186);have c9:=aac lb;have f9:=free_of_one lb
 have hst:(store ⟨w1.heap.size+1,0,none⟩ (.func (.func 151) #[] #[.pointer (some ⟨w.heap.size,0,none⟩),.pointer (some ⟨w1.heap.size,0,none⟩)])).run prog ((w1.alloc (.cells #[.slice p2 ts.length c2] 74)).alloc (.cells #[.nilFunc] 186)) =
   .ok () (((w1.alloc (.cells #[.slice p2 ts.length c2] 74)).alloc (.cells #[.nilFunc] 186)).setCell ⟨w1.heap.size+1,0,none⟩ (.func (.func 151) #[] #[.pointer (some ⟨w.heap.size,0,none⟩),.pointer (some ⟨w1.heap.size,0,none⟩)])):=by
  rw[run_store _ _ _ _ _ rfl,c9];simp[f9]
 clear lb;go_wp2_with fail;obtain⟨W3,hW3⟩:∃W3,W3=(w1.alloc (.cells #[.slice p2 ts.length c2] 74)).alloc (.cells #[.func (.func 151) #[] #[.pointer (some ⟨w.heap.size,0,none⟩),.pointer (some ⟨w1.heap.size,0,none⟩)]] 186):=⟨_,rfl⟩;have b3:Zb w1 W3:=by rw[hW3];exact aaw _ _ _
 have ct:W3.cell? ⟨w1.heap.size,0,none⟩=some (.slice p2 ts.length c2):=by rw[hW3];exact aac (aaJ _ _ _)
 have hr3:=qz (aae hr.out b3);have bl3:=qz (aaa bl b3);have O1':=aan O1.out b3;rw[HN.out]at O1';have HLe':=HLe.out W3 _ _ _ _ w.heap.size w1.heap.size bl3.out hr3.out ct (aan O2.out b3) O1';rw[<-HN.out]at HLe';rw[<-hW3];clear hW3 b3 ct O1' O1 O2 c9 f9 hst hr bl;refine HLe'.mono ?_;rintro e w4 ⟨v4,rfl,o4,b4⟩;have hr4:=qz (aae hr3.out b4);have bl4:=qz (aaa bl3.out b4);have HB4:=HBr.out _ _ _ o4;clear hr3 bl3 b4 o4 HLe';go_wp2_with fail;refine HB4.mono ?_;rintro e w5 ⟨rfl,rfl⟩;clear HB4;have hlt:Hid ((left.take n).length=n):=by show _=_;rw[List.length_take];omega
 have hs0:Hid (S q=S (wrapO ((left.take n).drop n) q)):=by
  show _=_;rw[List.drop_of_length_le (by rw[hlt.out];exact nl _)];rfl
 go_wp2_with fail
 go_loopg [8,9] n (fun m s8 s9 wr=>(∃X:ByteArray,m<=n/\s8=.string X/\s9=.int .i64 ((m:Int) - 1)/\Hid (X=S (wrapO ((left.take n).drop m) q)))/\Hid (wr.heap[w.heap.size]?=some (.cells D 132 (0,0)))/\Hid (Zb w wr))
 case atStart=>exact⟨⟨S q,nl _,rfl,by congr 1,hs0⟩,hr4,bl4⟩
 case round=>
  obtain⟨⟨X,hm,rfl,rfl,hX⟩,hr5,bl5⟩:=hrel
  cases gk with
  | zero=>
   have e0:Hid (X=S (wrapO (left.take n) q)):=hX.out;rw[show (((0:Nat):Int) - 1)=-1 from rfl];go_wp2_with fail;go_ret;exact⟨by rw[<-e0.out];rfl,bl5.out⟩
  | succ i=>
   have hi:i<left.length:=by omega
   rcases HLf.out with⟨_,hnil⟩|⟨off,c,hv,hc1,hc2,hcells⟩
   ·rw[hnil]at hi;simp at hi
   have hc9:=hcells i hi;obtain⟨y,hy⟩:∃y,y=left[i]:=⟨_,rfl⟩;rw[<-hy]at hc9;have cv:wr.cell? ⟨w.heap.size,256,none⟩=some (.slice (some ⟨gL,off,none⟩) left.length c):=by rw[cell_of_row wr _ 256 D _ _ hr5.out,<-hv];exact HD.out.lf
   have cy:wr.cell? ⟨gL,off+i,none⟩=some (.int .u8 (y.toNat:Int)):=(bl5.out.cell (p:=⟨gL,off+i,none⟩) hgL).trans hc9;have HH:=qz fun w1=>HHd.out y w1;have hil:(i:Int)<(left.length:Int):=by omega
   have hnew:Hid (B [35,y,46]++X=S (wrapO ((left.take n).drop i) q)):=by
    show _=_;have hi2:i<(left.take n).length:=by rw[hlt.out];omega
    rw[hX.out,List.drop_eq_getElem_cons hi2,List.getElem_take,<-hy];exact BS [35,y,46] _ (.own y (wrapO ((left.take n).drop (i+1)) q)) rfl
   have hsz:X.size<=1000:=by
    rw[hX.out,aaq,afa,List.length_drop,hlt.out];omega
   obtain⟨P,hP⟩:∃P,P=B [35,y,46]:=⟨_,rfl⟩;have hPs:P.size<=3:=by rw[hP,aa1];simp
   obtain⟨ny,hny⟩:∃ny:Int,ny=(y.toNat:Int):=⟨_,rfl⟩;rw[<-hP]at HH hnew;rw[<-hny]at HH cy;rw[show (((i+1:Nat):Int) - 1)=(i:Int) by omega];clear hy hcells hc9 hv hP hny hX;go_wp2_with fail;refine(HH.out _).mono ?_;rintro e w6 ⟨rfl,b6⟩;have hr6:=qz (aae hr5.out b6);have bl6:=qz (aaa bl5.out b6);clear b6 cv cy hr5 bl5;go_wp2_with fail
   go_roundg i
   case rel=>exact⟨⟨_,by omega,rfl,by congr 1,hnew⟩,hr6,bl6⟩
   case measure=>omega
theorem apW:∀n,LvH n:=by
 intro n
 induction n with
 | zero=>intro s D L vL gL left w h;have:=aao s;omega
 | succ n ih=>
  intro s D L vL gL left w hn hD hLf hgL hfl hpl hs2 hb hll;obtain⟨f1,f2,f3⟩:=acg hfl;have h2:=au6 s;have hG:=hb.sublist (ajr s);have hne:(visG ltU 200 (lvl s).1).map (candI n L left s)≠[]:=fun e=>acK ltU 199 _ (List.map_eq_nil_iff.1 e)
  have hbest:(bestL ((visG ltU 200 (lvl s).1).map (candI n L left s))).length=(lvl s).2.length/\∀t∈bestL ((visG ltU 200 (lvl s).1).map (candI n L left s)),t.pr.length<=s.pr.length:=by
   obtain⟨o,_,e⟩:=List.mem_map.1 (abO _ hne);rw[<-e];exact afN n L left s o
  have hql:(joinR .par (bestL ((visG ltU 200 (lvl s).1).map (candI n L left s)))).pr.length<=900:=by
   have h3:=abL (n+1) L left s;rw[abF,afa]at h3;omega
  rw[abF];refine au8 _ _ D L vL gL left (lvl s).1 (lvl s).2 (bestL ((visG ltU 200 (lvl s).1).map (candI n L left s))) (lvl s).2.length _ w hD hLf hgL hql f2 f1 hll (adw s (by omega)) ?_ ?_ apV
  ·intro w1 v vT base base2 gd gt b1 hgd hct hoT hov;refine apQ (lvl s).1 hG f1 (candI n L left s) (lvl s).2.length (fun o _=>(afN n L left s o).1) (by omega) _ _ auV v base2 w1 hov ?_;intro o ho po go co w' b' hord;obtain⟨hol,_⟩:=aju (lvl s).1 hG f1 ho;have b2:=aaa b1 b';have e1:candI n L left s o=srtT ((lvl s).2.map (thI (levI n) (updL L o left) (left.drop o.length))):=by unfold candI;rw[hol]
   rw[e1];refine ar4 D L vL gL left o hD (by omega) (by omega) po go co gd gt vT (lvl s).2 ((lvl s).2.map (thI (levI n) (updL L o left) (left.drop o.length))) (lvl s).2.length base rfl (by simp) (by omega) w' (hLf.below b2) (Nat.lt_of_lt_of_le hgL b2.size) hord (aae hgd b') ((b'.cell (p:=⟨gt,0,none⟩) (aad hct)).trans hct) (aan hoT b') ?_;intro D' vL' w2 hd' hl' hg' i h3 h4;rw[List.getElem_map];have hm:(lvl s).2[i]∈(lvl s).2:=List.getElem_mem h3;exact ar8 n ih _ D' _ vL' gL _ w2 (by have:=aa_ s _ hm;omega) (aba s _ hm) hd' hl' hg' (by rw[List.length_drop,hol];exact f3 _ hm) (by have:=aoz s _ hm;omega) (by have:=aa_ s _ hm;omega) (hb.sublist (ae_ s _ hm)) (by rw[List.length_drop];omega)
  ·intro w1 v base ho
   by_cases hk:(lvl s).2.length=0
   ·have hb0:bestL ((visG ltU 200 (lvl s).1).map (candI n L left s))=[]:=List.length_eq_zero_iff.1 (by rw[hbest.1,hk]);rw[hb0,hk]at ho;rw[hb0];exact axj _ v base w1 ho
   ·have hbn:bestL ((visG ltU 200 (lvl s).1).map (candI n L left s))≠[]:=fun e=>hk (by rw[<-hbest.1,e];rfl);rw[<-af7 _ hbn];exact axi ⟨#[38]⟩ (by decide) _ v _ base w1 ho hbest.1.symm (by omega) (by omega) (fun t ht=>by have:=hbest.2 t ht;omega)
theorem au9 (t:Tm):t.sim.pr.length<=t.pr.length:=by
 induction t with
 | nil=>exact nl _
 | snd a b p ih=>simp only[Tm.sim,Tm.pr,lla,List.length_cons];omega
 | rcv a b p ih=>simp only[Tm.sim,Tm.pr,lla,List.length_cons];omega
 | tau p ih=>simp only[Tm.sim,Tm.pr,lla,List.length_cons];omega
 | sum p q ih ih2=>
  unfold Tm.sim
  split
  ·simp only[Tm.pr,lla,List.length_cons];omega
  ·split<;>simp only[Tm.pr,lla,List.length_cons]<;>omega
 | par p q ih ih2=>
  unfold Tm.sim
  split
  ·simp only[Tm.pr,lla,List.length_cons];omega
  ·split<;>simp only[Tm.pr,lla,List.length_cons]<;>omega
 | own x p ih=>unfold Tm.sim;split<;>simp only[Tm.pr,lla,List.length_cons]<;>omega
 | mat a b p ih=>unfold Tm.sim;split<;>simp only[Tm.pr,lla,List.length_cons]<;>omega
 | rep p ih=>unfold Tm.sim;split<;>simp only[Tm.pr,lla,List.length_cons]<;>omega
theorem ar9 (t:Tm):(numb t).pr.length<=t.pr.length:=by unfold numb;rw[(atA _ _ _).1];exact au9 t
theorem ar_ (t:Tm):t.subs.countP (fun u=>(one u.kind).toList==(⟨#[35]⟩:ByteArray).toList)=ownc t:=by
 have hk:∀u:Tm,((one u.kind).toList==(⟨#[35]⟩:ByteArray).toList)=(match u with|.own _ _=>true|_=>false):=by
  intro u;rw[Lib.toList_data,Lib.toList_data]
  cases u<;>rfl
 simp only[hk]
 induction t with
 | nil=>rfl
 | _=>simp_all [Tm.subs,ownc,List.countP_cons,List.countP_append,Nat.add_comm]
theorem ad8 (w:World):Calls prog 98 #[] w fun e w'=>∃C,e=.returned (.agg C)/\ScOf C id/\w.heap.size<w'.heap.size/\Zb w w':=by
 go_enter func98,ntmps98
 go_wp2_with fail;obtain⟨Z,hZ⟩:∃Z:Array Value,Z=Tryz.zeroCells129:=⟨_,rfl⟩;rw[<-hZ];have hZs:Hid (Z.size=256):=by rw[hZ];exact awY
 obtain⟨W,hW⟩:∃W,W=(w.alloc (.cells Z 129)).alloc (.cells Z 129):=⟨_,rfl⟩;rw[<-hW];have r0:Hid (W.heap[w.heap.size]?=some (.cells Z 129 (0,0))):=by rw[hW];exact aaJ _ _ _
 have r1:Hid (W.heap[w.heap.size+1]?=some (.cells Z 129 (0,0))):=by rw[hW];exact aaK _ _ _
 have bl:Zb w W:=by rw[hW];exact aaw _ _ _
 clear hW hZ
 go_loopw [3] (fun i wr=>∃(k:Nat) (C:Array Value),k<=256/\i=.int .i64 (k:Int)/\Hid (C.size=256)/\Hid (∀j,j<k->C[j]?=some (.int .u8 ((j:Nat):Int)))/\Hid (wr.heap[w.heap.size]?=some (.cells Z 129 (0,0)))/\Hid (wr.heap[w.heap.size+1]?=some (.cells C 129 (0,0)))/\Zb w wr) (fun i _=>256 - (intOf i).toNat)
 case atStart=>exact⟨0,Z,Nat.zero_le _,rfl,hZs,fun j h=>by omega,r0,r1,bl⟩
 case round=>
  obtain⟨k,C,hk,rfl,hC,hCj,h0,h1,hbw⟩:=hrel
  by_cases hlt:k<256
  ·obtain⟨y,hy⟩:∃y,C[k]?=some y:=⟨_,Array.getElem?_eq_getElem (by have:=hC.out;omega)⟩;have c1:wr.cell? ⟨w.heap.size+1,k,none⟩=some y:=by rw[cell_of_row wr _ k C _ _ h1.out];exact hy
   have f1:=frozen_of_row wr (w.heap.size+1) k C _ h1.out;have hw8:IntKind.u8.wrap ((k:Int))=(k:Int):=by rw[IntKind.wrap_u8]<;>omega
   have H1:=qz (heap_setCell_same wr (w.heap.size+1) k C 129 (.int .u8 ((k:Int))) h1.out);have H0:Hid ((wr.setCell ⟨w.heap.size+1,k,none⟩ (.int .u8 ((k:Int)))).heap[w.heap.size]?=some (.cells Z 129 (0,0))):=ac2 h0.out (by omega);have HS:Hid ((C.setIfInBounds k (.int .u8 ((k:Int)))).size=256):=by show _=_;rw[Array.size_setIfInBounds];exact hC.out
   have HJ:Hid (∀j,j<k+1->(C.setIfInBounds k (.int .u8 ((k:Int))))[j]?=some (.int .u8 ((j:Nat):Int))):=fun j hj=>by
    by_cases e:k=j
    ·subst e;rw[Array.getElem?_setIfInBounds_self_of_lt (by have:=hC.out;omega)]
    ·rw[Array.getElem?_setIfInBounds_ne e];exact hCj.out j (by omega)
   clear hy;go_wp2_with fail
   go_roundw
   case rel=>exact⟨k+1,_,by omega,by go_num,HS,HJ,H0,H1,hbw.setCell (p:=⟨w.heap.size+1,k,none⟩) (by show w.heap.size<=w.heap.size+1;omega) _⟩
   case measure=>simp[intOf];omega
  ·obtain rfl:k=256:=by omega
   have HSc:Hid (ScOf C id):=⟨hC.out,fun j hj=>by rw[hCj.out j hj];show _=some (Value.int .u8 (((UInt8.ofNat (j)).toNat:Nat):Int));rw[UInt8.toNat_ofNat',Nat.mod_eq_of_lt (by omega)]⟩;have hi:Hid ((prog.info? 129).map (·.size)=some C.size):=by show _=_;rw[Tryz.infoSc,hC.out]
   have hone:Hid (C.all (·.oneCell')=true):=by
    refine Array.all_eq_true.2 fun i hi=>?_;have hi':i<256:=by have:=hC.out;omega
    have h1:=hCj.out i hi';rw[Array.getElem?_eq_getElem hi]at h1;simp only[Option.some.injEq]at h1;rw[h1];rfl
   have hold:Hid (Z.size=C.size):=by show _=_;rw[hZs.out,hC.out]
   clear hC hCj
   go_wp2_with (first|refine wpList_load_row rfl 129 (.tmp 1) rfl (w.heap.size+1) rfl 129 C (0,0) _ h1.out underlying129 rfl hi.out ?_|refine wpList_store_row rfl 129 (.tmp 0) (.tmp 11) rfl w.heap.size C rfl rfl 129 Z h0.out hi.out hold.out hone.out ?_)
   exact bodyPost_ret (v:=.agg C) (results_cell_row (t:=129) (fr:=(0,0)) rfl _ _ w.heap.size _ _ rfl (setRow_heap wr w.heap.size Z C 129 _ h0.out) underlying129 rfl hi.out) rfl ⟨C,rfl,HSc.out,by have:=lt_of_block h1.out;simp;omega,aby hbw (nl _) hbw.size⟩
theorem asa (l:List Value):∀(k:Nat) (Z:Array Value),((l.zipIdx k).foldl (fun cs (p:Value × Nat)=>cs.setIfInBounds (0+p.2) p.1) Z).size=Z.size/\ ∀j,j<Z.size->((l.zipIdx k).foldl (fun cs (p:Value × Nat)=>cs.setIfInBounds (0+p.2) p.1) Z)[j]?=if k<=j/\j<k+l.length then l[j - k]? else Z[j]?:=by
 induction l with
 | nil=>intro k Z;exact⟨rfl,fun j hj=>by rw[if_neg (by simp)];rfl⟩
 | cons a l ih=>
  intro k Z;simp only[List.zipIdx_cons,List.foldl_cons,Nat.zero_add]at ih ⊢;obtain⟨h1,h2⟩:=ih (k+1) (Z.setIfInBounds k a);rw[Array.size_setIfInBounds]at h1 h2;refine⟨h1,fun j hj=>?_⟩;rw[h2 j hj]
  by_cases c1:k+1<=j/\j<k+1+l.length
  ·rw[if_pos c1,if_pos ⟨by omega,by simp;omega⟩];obtain⟨m,rfl⟩:∃m,j=k+1+m:=⟨j - (k+1),by omega⟩;rw[show k+1+m - k=m+1 by omega,show k+1+m - (k+1)=m by omega,List.getElem?_cons_succ]
  ·rw[if_neg c1]
   by_cases c2:k=j
   ·subst c2;rw[Array.getElem?_setIfInBounds_self_of_lt hj,if_pos ⟨nl _,by simp⟩];simp
   ·rw[Array.getElem?_setIfInBounds_ne c2,if_neg (by simp;omega)]
theorem asb (parts:List (Nat × Value)):prog.built 132 parts=Instr.fill (#[(0,256),(256,1)][·]?) Tryz.zeroCells132 parts:=by kernel_rfl
theorem amq (C:Array Value)(v:Value)(hC:C.size=256)(hv:v.cells=#[v])(h1:v.oneCell'=true)(sc:UInt8->UInt8)(hs:ScOf C sc) : ∃D,prog.built 132 [(0,.agg C),(1,v)]=some D/\DrOf D sc v:=by
 have hz:(Tryz.zeroCells132).size=257:=aw2;have hc:(Value.agg C).cells=C:=rfl;obtain⟨f1,f2⟩:=asa C.toList 0 Tryz.zeroCells132;rw[hz]at f1 f2;refine⟨((C.toList.zipIdx 0).foldl (fun cs (p:Value × Nat)=>cs.setIfInBounds (0+p.2) p.1) Tryz.zeroCells132).setIfInBounds 256 v,?_,?_,fun j hj=>?_,?_,h1⟩
 ·rw[asb];simp only[Instr.fill,hc,hv,hC,hz];rw[show (#[(0,256),(256,1)]:Array (Nat × Nat))[0]?=some (0,256) from rfl,show (#[(0,256),(256,1)]:Array (Nat × Nat))[1]?=some (256,1) from rfl]
  dsimp only
  have eF:∀Z:Array Value,Array.foldl (fun cs (x:Value × Nat)=>cs.setIfInBounds (0+x.snd) x.fst) Z C.zipIdx=List.foldl (fun cs (x:Value × Nat)=>cs.setIfInBounds (0+x.snd) x.fst) Z C.toList.zipIdx:=fun Z=>by
   rw[<-Array.foldl_toList,Array.toList_zipIdx]
  rw[eF,f1,if_neg (by decide),if_neg (by simp)];rfl
 ·rw[Array.size_setIfInBounds];exact f1
 ·rw[Array.getElem?_setIfInBounds_ne (by omega),f2 j (by omega),if_pos ⟨Nat.zero_le _,by simp;omega⟩,Nat.sub_zero,Array.getElem?_toList];exact hs.2 j hj
 ·rw[Array.getElem?_setIfInBounds_self_of_lt (by rw[f1];omega)]
theorem ai7 {P:Program}{ops:Array Oper}{rest:List Oper}{o:Oper}{a:Act}{w:World}{Q:Exit->Act->World->Prop}(hgd:o.guard=none)(t:TypeId)(parts:Array (Nat × Operand))(ho:o.op=.build t parts)(cells:Array Value)
  (hc:P.built t (parts.map fun (i,x)=>(i,a.eval x)).toList=some cells)(h:wpList P ops Q rest (a.put o.dst (.agg cells)) w):wpList P ops Q (o::rest) a w:=
 wpList_plain hgd fun _ hK=>wp_build t parts ho (by rw[hc];rfl) (by rw[hc];exact hK _ _ h)
theorem ad9 {P:Program}{ops:Array Oper}{rest:List Oper}{o:Oper}{a:Act}{w:World}{Q:Exit->Act->World->Prop}(hgd:o.guard=none)(t:TypeId)(x y:Operand)(ho:o.op=.build t #[(0,x),(1,y)])(u v:Value)(hx:a.eval x=u)(hy:a.eval y=v)(cells:Array Value)
  (hc:P.built t [(0,u),(1,v)]=some cells)(h:wpList P ops Q rest (a.put o.dst (.agg cells)) w):wpList P ops Q (o::rest) a w:=
 ai7 hgd t #[(0,x),(1,y)] ho cells (by rw[<-hc,<-hx,<-hy];simp) h
theorem au_ (T T1:TypeId)(V V1:Value)(sz:Nat)(hsz:60<sz)(w:World) (hSim:Zr 92 #[.iface T V] (.iface T1 V1)) (hSz:Zr 88 #[.iface T1 V1] (.int .i64 (sz:Nat))) : Calls prog 60 #[.iface T V] w fun e w'=>e=.returned (.tuple #[.nilIface,.bool false])/\Zb w w':=by
 have H1:=qz hSim;have H0:=qz hSz;have hsz':(60:Int)<(sz:Int):=by omega
 clear hSim hSz
 go_enter func60,ntmps60
 go_wp2_with fail;with_reducible refine(H1.out _).mono ?_
 rintro e w1 ⟨rfl,b1⟩;go_wp2_with fail;with_reducible refine(H0.out _).mono ?_
 rintro e w0 ⟨rfl,b0⟩;replace b1:=aaa b1 b0;clear b0;go_wp2_with fail;go_ret2;exact⟨rfl,b1⟩
theorem ava (T T1 T2:TypeId)(V V1 V2:Value)(Fi:Int)(ls:List UInt8)(hls:ls.length<=30)(cnt sz:Nat)(hsz:¬60<sz)(hc:8<cnt)(w:World) (hSim:Zr 92 #[.iface T V] (.iface T1 V1)) (hSz:Zr 88 #[.iface T1 V1] (.int .i64 (sz:Nat))) (hFr:Zr 93 #[.iface T1 V1] (.int .u32 Fi)) (hOt:∀w,Calls prog 94 #[.int .u32 Fi] w fun e w'=>∃v,e=.returned v/\w'.ownsRow w.heap.size 5 1 v ls.length (ls.map ub)/\Zb w w') (hNu:Zr 95 #[.iface T1 V1] (.iface T2 V2)) (hCk:Zr 96 #[.iface T2 V2,.string ⟨#[35]⟩] (.int .i64 (cnt:Nat))) : Calls prog 60 #[.iface T V] w fun e w'=>e=.returned (.tuple #[.nilIface,.bool false])/\Zb w w':=by
 have H1:=qz hSim;have H0:=qz hSz;have hsz':¬(60:Int)<(sz:Int):=by omega
 have H2:=qz hFr;have H3:=qz hOt;have H4:=qz hNu;have H5:=qz hCk;have hc':(8:Int)<(cnt:Int):=by omega
 clear hSim hSz hFr hOt hNu hCk
 go_enter func60,ntmps60
 go_wp2_with fail;with_reducible refine(H1.out _).mono ?_
 rintro e w1 ⟨rfl,b1⟩;go_wp2_with fail;with_reducible refine(H0.out _).mono ?_
 rintro e w0 ⟨rfl,b0⟩;replace b1:=aaa b1 b0;clear b0;go_wp2_with fail;with_reducible refine(H2.out _).mono ?_
 rintro e w2 ⟨rfl,b2⟩;replace b1:=aaa b1 b2;clear b2;go_wp2_with fail;with_reducible refine(H3.out _).mono ?_
 rintro e w3 ⟨v,rfl,ho,b3⟩;have hg3:w.heap.size<=w2.heap.size:=b1.size;replace b1:=aaa b1 b3;obtain⟨p,c,rfl⟩:=aaM ho;have HO:=qz ho;clear b3 ho;go_wp2_with fail;with_reducible refine(H4.out _).mono ?_
 rintro e w4 ⟨rfl,b4⟩;have HO4:=qz (aan HO.out b4);replace b1:=aaa b1 b4;clear b4 HO;go_wp2_with fail;with_reducible refine(H5.out _).mono ?_
 rintro e w5 ⟨rfl,b5⟩;have HO5:=qz (aan HO4.out b5);replace b1:=aaa b1 b5;clear b5 HO4;go_wp2_with fail;go_ret2;exact⟨rfl,b1⟩
theorem avb (T T1 T2:TypeId)(V V1 V2:Value)(Fi:Int)(ls:List UInt8)(hls:ls.length<=30)(cnt sz:Nat)(hsz:¬60<sz)(hc:¬8<cnt)(w:World) (hSim:Zr 92 #[.iface T V] (.iface T1 V1)) (hSz:Zr 88 #[.iface T1 V1] (.int .i64 (sz:Nat))) (hFr:Zr 93 #[.iface T1 V1] (.int .u32 Fi)) (hOt:∀w,Calls prog 94 #[.int .u32 Fi] w fun e w'=>∃v,e=.returned v/\w'.ownsRow w.heap.size 5 1 v ls.length (ls.map ub)/\Zb w w') (hNu:Zr 95 #[.iface T1 V1] (.iface T2 V2)) (hCk:Zr 96 #[.iface T2 V2,.string ⟨#[35]⟩] (.int .i64 (cnt:Nat))) (hFi:Zr 97 #[.iface T2 V2,.int .i64 (ls.length:Int)] (.bool false)) : Calls prog 60 #[.iface T V] w fun e w'=>e=.returned (.tuple #[.nilIface,.bool false])/\Zb w w':=by
 have H1:=qz hSim;have H0:=qz hSz;have hsz':¬(60:Int)<(sz:Int):=by omega
 have H2:=qz hFr;have H3:=qz hOt;have H4:=qz hNu;have H5:=qz hCk;have H6:=qz hFi;have hc':¬(8:Int)<(cnt:Int):=by omega
 clear hSim hSz hFr hOt hNu hCk hFi
 go_enter func60,ntmps60
 go_wp2_with fail;with_reducible refine(H1.out _).mono ?_
 rintro e w1 ⟨rfl,b1⟩;go_wp2_with fail;with_reducible refine(H0.out _).mono ?_
 rintro e w0 ⟨rfl,b0⟩;replace b1:=aaa b1 b0;clear b0;go_wp2_with fail;with_reducible refine(H2.out _).mono ?_
 rintro e w2 ⟨rfl,b2⟩;replace b1:=aaa b1 b2;clear b2;go_wp2_with fail;with_reducible refine(H3.out _).mono ?_
 rintro e w3 ⟨v,rfl,ho,b3⟩;have hg3:w.heap.size<=w2.heap.size:=b1.size;replace b1:=aaa b1 b3;obtain⟨p,c,rfl⟩:=aaM ho;have HO:=qz ho;clear b3 ho;go_wp2_with fail;with_reducible refine(H4.out _).mono ?_
 rintro e w4 ⟨rfl,b4⟩;have HO4:=qz (aan HO.out b4);replace b1:=aaa b1 b4;clear b4 HO;go_wp2_with fail;with_reducible refine(H5.out _).mono ?_
 rintro e w5 ⟨rfl,b5⟩;have HO5:=qz (aan HO4.out b5);replace b1:=aaa b1 b5;clear b5 HO4;go_wp2_with fail;with_reducible refine(H6.out _).mono ?_
 rintro e w6 ⟨rfl,b6⟩;replace b1:=aaa b1 b6;go_wp2_with fail;go_ret2;exact⟨rfl,b1⟩
theorem apX (T T1 T2:TypeId)(V V1 V2:Value)(Fi:Int)(ls:List UInt8)(hls:ls.length<=30)(cnt sz:Nat)(hsz:¬60<sz)(hc:¬8<cnt)(X:ByteArray)(PV:Value)(PB:Bool)(w:World) (hSim:Zr 92 #[.iface T V] (.iface T1 V1)) (hSz:Zr 88 #[.iface T1 V1] (.int .i64 (sz:Nat))) (hFr:Zr 93 #[.iface T1 V1] (.int .u32 Fi)) (hOt:∀w,Calls prog 94 #[.int .u32 Fi] w fun e w'=>∃v,e=.returned v/\w'.ownsRow w.heap.size 5 1 v ls.length (ls.map ub)/\Zb w w') (hNu:Zr 95 #[.iface T1 V1] (.iface T2 V2)) (hCk:Zr 96 #[.iface T2 V2,.string ⟨#[35]⟩] (.int .i64 (cnt:Nat))) (hFi:Zr 97 #[.iface T2 V2,.int .i64 (ls.length:Int)] (.bool true)) (hSc:∀w,Calls prog 98 #[] w fun e w'=>∃C,e=.returned (.agg C)/\ScOf C id/\w.heap.size<w'.heap.size/\Zb w w') (hLe:∀D v g w,DrOf D id v->LfS w g v ls->g<w.heap.size->Calls prog 99 #[.agg D,.iface T2 V2] w (ae7 X w)) (hPa:Zr 58 #[.string X] (.tuple #[PV,.bool PB])) : Calls prog 60 #[.iface T V] w fun e w'=>e=.returned (.tuple #[PV,.bool PB])/\Zb w w':=by
 have H1:=qz hSim;have H0:=qz hSz;have hsz':¬(60:Int)<(sz:Int):=by omega
 have H2:=qz hFr;have H3:=qz hOt;have H4:=qz hNu;have H5:=qz hCk;have H6:=qz hFi;have H7:=qz hSc;have H8:=qz hLe;have H9:=qz hPa;have hc':¬(8:Int)<(cnt:Int):=by omega
 clear hSim hSz hFr hOt hNu hCk hFi hSc hLe hPa
 go_enter func60,ntmps60
 go_wp2_with fail;with_reducible refine(H1.out _).mono ?_
 rintro e w1 ⟨rfl,b1⟩;go_wp2_with fail;with_reducible refine(H0.out _).mono ?_
 rintro e w0 ⟨rfl,b0⟩;replace b1:=aaa b1 b0;clear b0;go_wp2_with fail;with_reducible refine(H2.out _).mono ?_
 rintro e w2 ⟨rfl,b2⟩;replace b1:=aaa b1 b2;clear b2;go_wp2_with fail;with_reducible refine(H3.out _).mono ?_
 rintro e w3 ⟨v,rfl,ho,b3⟩;have hg3:w.heap.size<=w2.heap.size:=b1.size;replace b1:=aaa b1 b3;obtain⟨p,c,rfl⟩:=aaM ho;have HO:=qz ho;clear b3 ho;go_wp2_with fail;with_reducible refine(H4.out _).mono ?_
 rintro e w4 ⟨rfl,b4⟩;have HO4:=qz (aan HO.out b4);replace b1:=aaa b1 b4;clear b4 HO;go_wp2_with fail;with_reducible refine(H5.out _).mono ?_
 rintro e w5 ⟨rfl,b5⟩;have HO5:=qz (aan HO4.out b5);replace b1:=aaa b1 b5;clear b5 HO4;go_wp2_with fail;with_reducible refine(H6.out _).mono ?_
 rintro e w6 ⟨rfl,b6⟩;have HO6:=qz (aan HO5.out b6);replace b1:=aaa b1 b6;clear b6 HO5;go_wp2_with fail;with_reducible refine(H7.out _).mono ?_
 rintro e w7 ⟨C,rfl,hsc,hgt,b7⟩;have HO7:=aan HO6.out b7;have bl:=qz (aaa b1 b7);obtain⟨D,hbt,hdr⟩:=amq C (.slice p ls.length c) hsc.1 rfl rfl id hsc
 have hlf:∃g,g<w7.heap.size/\LfS w7 g (.slice p ls.length c) ls:=by
  rcases HO7.2 with⟨e,e2⟩|⟨g,c',cur,e,hb1,hb3,hb4,hb5,_⟩
  ·exact⟨w6.heap.size,hgt,.inl ⟨e,List.length_eq_zero_iff.1 e2⟩⟩
  ·cases e
   refine⟨g,lt_of_block hb3,.inr ⟨0,c,rfl,hb4,hb5,fun j hj=>?_⟩⟩;have:=ab_ HO7 j (ub ls[j]) (by rw[List.getElem?_map,List.getElem?_eq_getElem hj];rfl);rw[aoW]at this
   rw[Nat.zero_add];exact this
 obtain⟨g,hg,hlf⟩:=hlf;have HL:=qz (H8.out D _ g w7 hdr hlf hg);clear hsc hgt b1 b7 HO7 hg hlf HO6 hdr
 go_wp2_with (refine ad9 rfl 132 (.tmp 25) (.tmp 26) rfl (.agg C) (.slice p ls.length c) rfl rfl D hbt ?_)
 with_reducible refine(HL.out).mono ?_
 rintro e w8 ⟨rfl,b8⟩;have bl8:=aaa bl.out b8;go_wp2_with fail;with_reducible refine(H9.out _).mono ?_
 rintro e w9 ⟨rfl,b9⟩;have bl9:=aaa bl8 b9;go_wp2_with fail;go_ret2;exact⟨rfl,bl9⟩
theorem asd (l:List Tm):∀b:Tm,(l.map S).foldl bstStep (S b)=S (l.foldl (fun b c=>if c.pr<b.pr then c else b) b):=by
 induction l with
 | nil=>intro b;rfl
 | cons c l ih=>
  intro b;simp only[List.map_cons,List.foldl_cons]
  have:bstStep (S b) (S c)=S (if c.pr<b.pr then c else b):=by
   unfold bstStep;rw[bytesLess_eq,Lib.toList_data,Lib.toList_data,aaW,aaW];have hp:(S b).size≠0:=by rw[aaq];have:=pr_pos b;omega
   by_cases h:c.pr<b.pr
   ·rw[if_pos (.inr (by simpa using h)),if_pos h]
   ·rw[if_neg (by simp[hp,h]),if_neg h]
  rw[this,ih]
theorem ayh (l:List Tm)(h:l≠[]):ak_ (l.map S)=S (ahp l):=by
 cases l with
 | nil=>exact absurd rfl h
 | cons c l=>
  unfold ak_;simp only[List.map_cons,List.foldl_cons];rw[show bstStep ⟨#[]⟩ (S c)=S c from by unfold bstStep;rw[if_pos (.inl rfl)],asd];rfl
theorem axt (ls:List UInt8)(t:Tm):aeN ls (S t)=S (wrapO ls t):=by
 induction ls with
 | nil=>rfl
 | cons a l ih=>
  have e1:aeN (a::l) (S t)=((⟨#[35]⟩:ByteArray)++B [a]++⟨#[46]⟩)++aeN l (S t):=rfl;have e2:wrapO (a::l) t=.own a (wrapO l t):=rfl;rw[e1,e2,ih];refine abt ?_;simp[S,B,Tm.pr]
def WhP (n:Nat):Prop:=∀(t:Tm) (tk:List UInt8) (once br:Bool) (m:Nat) (w:World),t.size<=n->t.size<=121->FitT t->Plain t->t.ok nmE=true->t.pr.length<=700->Srt tk->MkAt w m br once->
 Calls prog 166 #[.pointer (some ⟨m,0,none⟩),.string (S t),.string (B tk)] w (MkP m br once (S (whl n once t tk).1) (whl n once t tk).2 w)
theorem ltI {a b:UInt8}:Op.bytesLess (B [a]).toList (B [b]).toList=decide (a<b):=by
 rw[bytesLess_eq,Lib.toList_data,Lib.toList_data,aaQ,aaQ];simp[List.cons_lt_cons_iff]
theorem amr (n:Nat)(ih:WhP n)(T:Tm)(tk:List UInt8)(once br:Bool)(m:Nat)(w:World)(hn:T.size<=n+1)(h121:T.size<=121)(hw:Thw T)(hf:FitX T)(hp:Plain T)(ho:T.ok nmE=true)(hl:T.pr.length<=700)(hs:Srt tk)(hm:MkAt w m br once) : Calls prog 209 #[.pointer (some ⟨m,0,none⟩),.string (S T),.string (B tk)] w (MkP m br once (S (thS (whl n once) T tk).1) (thS (whl n once) T tk).2 w):=by
 have hK:=aah T ho hl;have hH:=aeo T ho hl;have hX:(S T).size<=700:=by rw[aaq];exact hl
 have hTl:T.pr.length=(S T).size:=(aaq T).symm;have hr:∀p tk,p.pr.length<=700->(S (whl n once p tk).1).size<=1000:=fun p tk h=>by rw[aaq];have:=ahz n once p tk;omega
 cases T with
 | nil=>exact hw.elim
 | par p q=>exact hw.elim
 | own x p=>exact hw.elim
 | snd a b p=>
  have ho':(nmE a=true/\nmE b=true)/\p.ok nmE=true:=by simpa only[Tm.ok,bae] using ho
  have hlp:p.pr.length+4=(S (Tm.snd a b p)).size:=by rw[aaq];simp[Tm.pr]
  have hsz:p.size+1=(Tm.snd a b p).size:=rfl
  have hF:Fit (Tm.snd a b p):=by rcases hf with h|⟨_,_,e,_⟩;exact h;cases e
  have hpp:Plain p:=fun z hz=>hp z (by rw[mf_snd];simp only[Tm.bnd];grind);have hfp:FitT p:=.inl (aa9 hF (by simp only[Tm.bdp];try omega) fun z hz=>by rw[mf_snd];grind);have hW:=fun w hmk=>ih p tk once br m w (by omega) (by omega) hfp hpp ho'.2 (by omega) hs hmk;have e1:(S (Tm.snd a b p)).extract 4 (S (Tm.snd a b p)).size=S p:=abK (t:=.snd a b p) (p:=p) (pre:=[a,33,b,46]) rfl
  have e2:(S (Tm.snd a b p)).extract 0 4++S (whl n once p tk).1=S (thS (whl n once) (Tm.snd a b p) tk).1:=by
   refine abt ?_;rw[ByteArray.data_append,Array.toList_append,ByteArray.data_extract,Array.toList_extract,List.extract_eq_take_drop,aaW,aaW,aaW];simp[thS,Tm.pr]
  have:=as6 (S (Tm.snd a b p)) (B tk) (S (whl n once p tk).1) 33 (.inl rfl) 4 (by omega) hX (hr p tk (by omega)) m br once (whl n once p tk).2 hK hH (by rw[e1];exact hW) w hm;rw[e2]at this
  exact this
 | tau p=>
  have ho':p.ok nmE=true:=by simpa only[Tm.ok] using ho
  have hlp:p.pr.length+2=(S (Tm.tau p)).size:=by rw[aaq];simp[Tm.pr]
  have hsz:p.size+1=(Tm.tau p).size:=rfl
  have hF:Fit (Tm.tau p):=by rcases hf with h|⟨_,_,e,_⟩;exact h;cases e
  have hpp:Plain p:=fun z hz=>hp z (by rw[mf_tau];simp only[Tm.bnd];exact hz);have hfp:FitT p:=.inl (aa9 hF (by simp only[Tm.bdp];try omega) fun z hz=>by rw[mf_tau];exact hz);have hW:=fun w hmk=>ih p tk once br m w (by omega) (by omega) hfp hpp ho' (by omega) hs hmk;have e1:(S (Tm.tau p)).extract 2 (S (Tm.tau p)).size=S p:=abK (t:=.tau p) (p:=p) (pre:=[126,46]) rfl
  have e2:(S (Tm.tau p)).extract 0 2++S (whl n once p tk).1=S (thS (whl n once) (Tm.tau p) tk).1:=by
   refine abt ?_;rw[ByteArray.data_append,Array.toList_append,ByteArray.data_extract,Array.toList_extract,List.extract_eq_take_drop,aaW,aaW,aaW];simp[thS,Tm.pr]
  have:=as6 (S (Tm.tau p)) (B tk) (S (whl n once p tk).1) 126 (.inr ⟨rfl,rfl⟩) 2 (by omega) hX (hr p tk (by omega)) m br once (whl n once p tk).2 hK hH (by rw[e1];exact hW) w hm;rw[e2]at this
  exact this
 | rep p=>
  have ho':p.ok nmE=true:=by simpa only[Tm.ok] using ho
  have hlp:p.pr.length+1=(S (Tm.rep p)).size:=by rw[aaq];simp[Tm.pr]
  have hsz:p.size+1=(Tm.rep p).size:=rfl
  have hF:Fit (Tm.rep p):=by rcases hf with h|⟨_,_,e,_⟩;exact h;cases e
  have hpp:Plain p:=fun z hz=>hp z (by rw[mf_rep];simp only[Tm.bnd];exact hz);have hfp:FitT p:=.inl (aa9 hF (by simp only[Tm.bdp];try omega) fun z hz=>by rw[mf_rep];exact hz);have hW:=fun w hmk=>ih p tk once br m w (by omega) (by omega) hfp hpp ho' (by omega) hs hmk;have e1:(S (Tm.rep p)).extract 1 (S (Tm.rep p)).size=S p:=abK (t:=.rep p) (p:=p) (pre:=[42]) rfl
  have e2:(⟨#[42]⟩:ByteArray)++S (whl n once p tk).1=S (thS (whl n once) (Tm.rep p) tk).1:=by
   refine abt ?_;simp[thS,Tm.pr,S]
  have:=axm (S (Tm.rep p)) (B tk) (S (whl n once p tk).1) hX (by omega) (hr p tk (by omega)) m br once (whl n once p tk).2 hK (by rw[e1];exact hW) w hm;rw[e2]at this
  exact this
 | mat a b p=>
  have ho':(nmE a=true/\nmE b=true)/\p.ok nmE=true:=by simpa only[Tm.ok,bae] using ho
  have hlp:p.pr.length+5=(S (Tm.mat a b p)).size:=by rw[aaq];simp[Tm.pr]
  have hsz:p.size+1=(Tm.mat a b p).size:=rfl
  have hF:Fit (Tm.mat a b p):=by rcases hf with h|⟨_,_,e,_⟩;exact h;cases e
  have hpp:Plain p:=fun z hz=>hp z (by rw[mf_mat];simp only[Tm.bnd];grind);have hfp:FitT p:=.inl (aa9 hF (by simp only[Tm.bdp];try omega) fun z hz=>by rw[mf_mat];grind);have hW:=fun w hmk=>ih p tk once br m w (by omega) (by omega) hfp hpp ho'.2 (by omega) hs hmk;have e1:(S (Tm.mat a b p)).extract 5 (S (Tm.mat a b p)).size=S p:=abK (t:=.mat a b p) (p:=p) (pre:=[91,a,61,b,93]) rfl
  have x1:(S (Tm.mat a b p)).extract 1 2=B [a]:=by
   refine abt ?_;rw[ByteArray.data_extract,Array.toList_extract,List.extract_eq_take_drop,aaW,aaQ];rfl
  have x3:(S (Tm.mat a b p)).extract 3 4=B [b]:=by
   refine abt ?_;rw[ByteArray.data_extract,Array.toList_extract,List.extract_eq_take_drop,aaW,aaQ];rfl
  have:=axn (S (Tm.mat a b p)) (B tk) (S (whl n once p tk).1) hX (by omega) (hr p tk (by omega)) m br once (whl n once p tk).2 (decide (b<a)) (by rw[x1,x3,ltI]) hK (by rw[e1];exact hW) w hm;rw[x1,x3]at this
  have e2:(⟨#[91]⟩:ByteArray)++(if decide (b<a)=true then B [b] else B [a])++⟨#[61]⟩++(if decide (b<a)=true then B [a] else B [b])++⟨#[93]⟩++S (whl n once p tk).1=S (thS (whl n once) (Tm.mat a b p) tk).1:=by
   refine abt ?_
   by_cases h:b<a<;>simp[thS,Tm.pr,S,B,h]
  rw[e2]at this
  exact this
 | rcv a x p=>
  have ho':(nmE a=true/\nmE x=true)/\p.ok nmE=true:=by simpa only[Tm.ok,bae] using ho
  have hlp:p.pr.length+4=(S (Tm.rcv a x p)).size:=by rw[aaq];simp[Tm.pr]
  have hsz:p.size+1=(Tm.rcv a x p).size:=rfl
  have hF:Fit (Tm.rcv a x p):=by rcases hf with h|⟨_,_,e,_⟩;exact h;cases e
  have hfp:Fit p:=acG (x:=x) hF (by simp only[Tm.bdp];try omega) (fun z hz=>by rw[mf_rcv];grind);obtain⟨y,hy⟩:∃y,y=fresh tk:=⟨_,rfl⟩;have hyn:nmE y=true:=by rw[hy];exact acC tk
  have hyg:¬aa4 y:=by rw[hy];exact acI tk
  have hpx:∀z,z∈p.free\/z∈p.bnd->¬aa4 z:=fun z hz=>by
   by_cases c:z=x
   ·exact hp z (.inr (by simp[Tm.bnd,c]))
   ·exact hp z (by rw[mf_rcv];simp only[Tm.bnd,List.mem_cons];grind)
  have hpr:Plain (R p x y):=fun z hz=>by
   rcases R_names hfp x y z hz with h|h|h
   ·exact hpx z h
   ·rw[h];exact hyg
   ·exact h
  have hW:=fun w hmk=>ih (R p x y) (addL tk y) once br m w (by rw[R_size];omega) (by rw[R_size];omega) (.inl (afB hfp x y)) hpr (aee _ _ _ _ ho'.2 hyn) (by rw[acV];omega) (srt_addL hs y) hmk;have e1:(S (Tm.rcv a x p)).extract 4 (S (Tm.rcv a x p)).size=S p:=abK (t:=.rcv a x p) (p:=p) (pre:=[a,63,x,46]) rfl;have hx2:(S (Tm.rcv a x p))[2]'(by omega)=x:=abu (aaW _) 2 (by omega) (by simp[Tm.pr])
  have hFr:Ze 123 #[.string (B tk)] (.int .u8 ((y.toNat:Nat):Int)):=fun w=>by
   have:=abX (B tk) (by rw[aa1];exact Nat.le_trans (abz hs) (by omega)) w;rw[aaQ,<-hy]at this;exact this
  have:=axs (S (Tm.rcv a x p)) (B tk) (S (whl n once (R p x y) (addL tk y)).1) (S (R p x y)) (B (addL tk y)) y hX (by omega) (hr _ _ (by rw[acV];omega)) m br once (whl n once (R p x y) (addL tk y)).2 hK hFr
   (by rw[e1,hx2];exact ack p.size p x y (nl _) ho'.2 (by omega) hyn) (af4 tk y hs) hW w hm
  have e2:(S (Tm.rcv a x p)).extract 0 2++one y++⟨#[46]⟩++S (whl n once (R p x y) (addL tk y)).1=S (thS (whl n once) (Tm.rcv a x p) tk).1:=by
   refine abt ?_;rw[ByteArray.data_append,Array.toList_append,ByteArray.data_append,Array.toList_append,ByteArray.data_append,Array.toList_append,ByteArray.data_extract,Array.toList_extract,List.extract_eq_take_drop,aaW,aaW,aaW];simp[thS,Tm.pr,<-hy,one]
  rw[e2]at this
  have e3:(thS (whl n once) (Tm.rcv a x p) tk).2=(whl n once (R p x y) (addL tk y)).2:=by simp[thS,<-hy]
  rw[e3];exact this
 | sum p q=>
  have hne:Tm.sums (Tm.sum p q).size (Tm.sum p q)≠[]:=atz _ _ (nl _) (by simp[Tm.dead,hw.1]);have hpe:(Tm.sum p q).peel=.sum p q:=afD _ hw
  have hsub:∀r∈Tm.sums (Tm.sum p q).size (Tm.sum p q),r.size<(Tm.sum p q).size:=by
   intro r hr;have e:(Tm.sum p q).size=(p.size+q.size)+1:=rfl;rw[e]at hr ⊢;unfold Tm.sums at hr;rw[hpe]at hr;simp only[lma]at hr;have hq1:=aao q;have hp1:=aao p;rcases hr with h|h
   ·have:=(adS h).2;have:=(aeC (p.size+q.size) p).2;omega
   ·have:=(adS h).2;have:=(aeC (p.size+q.size) q).2;omega
  have hwt:=aeC (Tm.sum p q).size (Tm.sum p q);have hfa:=agW (Tm.sum p q).size (Tm.sum p q) ho hf hp;have hSm:=fun w=>ags (Tm.sum p q).size (Tm.sum p q) (nl _) ho hl w;obtain⟨l,hl0⟩:∃l,l=Tm.sums (Tm.sum p q).size (Tm.sum p q):=⟨_,rfl⟩;rw[<-hl0]at hne hsub hwt hfa hSm;have hll:=asK l
  have:=axo (S (Tm.sum p q)) (B tk) (l.map S) (l.map fun r=>S (whl n once r tk).1) (l.map fun r=>(whl n once r tk).2) (by simpa using hne) (by simp) (by simp) (by rw[List.length_map];omega)
   (fun r hr0=>by
    obtain⟨r',hr',rfl⟩:=List.mem_map.1 hr0
    exact hr r' tk (by have:=(adS hr').1;omega)) m br once hK (fun w=>(hSm w).mono fun e w' h=>h.some_ (by simpa using hne))
   (fun j q' r' bb h1 h2 h3 br w hmk=>by
    simp only[List.getElem?_map,Option.map_eq_some_iff]at h1 h2 h3;obtain⟨c1,k1,rfl⟩:=h1;obtain⟨c2,k2,rfl⟩:=h2;obtain⟨c3,k3,rfl⟩:=h3;rw[k1]at k2 k3
    cases k2;cases k3
    have hc:=List.mem_of_getElem? k1;obtain⟨f1,f2,f3⟩:=hfa c1 hc
    exact ih c1 tk once br m w (by have:=hsub c1 hc;omega) (by have:=hsub c1 hc;omega) f2 f3 f1 (by have:=(adS hc).1;omega) hs hmk) w hm
  have e1:(l.map fun r=>S (whl n once r tk).1)=(l.map fun r=>(whl n once r tk).1).map S:=by rw[List.map_map];rfl
  rw[e1,ak8,ai5 _ (by
   intro e;have:=congrArg List.length e;unfold srtT at this
   rw[List.length_mergeSort,List.length_map]at this
   exact hne (List.length_eq_zero_iff.1 this)),List.any_map]at this
  have e2:thS (whl n once) (Tm.sum p q) tk=(joinR .sum (srtT (l.map fun r=>(whl n once r tk).1)),l.any fun r=>(whl n once r tk).2):=by rw[hl0];rfl
  rw[e2];exact this
def ag9:List UInt8->List UInt8->Tm->Tm
 | g::o,l::ls,t=>ag9 o ls (R t g l)
 | _,_,t=>t
theorem alb:∀(o:List Nat) (ls:List UInt8) (t:Tm),ag9 (o.map gl) ls t=nmG o ls t
 | [],ls,t=>by simp[ag9,nmG]
 | i::o,[],t=>by simp[ag9,nmG]
 | i::o,l::ls,t=>by simp only[List.map_cons,ag9,nmG];exact alb o ls _
theorem ahX:∀(o ls:List UInt8) (t:Tm),(ag9 o ls t).pr.length=t.pr.length
 | [],ls,t=>by simp[ag9]
 | i::o,[],t=>by simp[ag9]
 | i::o,l::ls,t=>by simp only[ag9];rw[ahX o ls,acV]
def txO (n:Nat)(once:Bool)(TT:List Tm)(ns al:List UInt8)(o:List UInt8):Tm:=joinR .par (srtT (TT.map fun T=>(thS (whl n once) (ag9 o ns T) al).1))
def fbO (n:Nat)(once:Bool)(TT:List Tm)(ns al:List UInt8)(o:List UInt8):Bool:=TT.any fun T=>(thS (whl n once) (ag9 o ns T) al).2
theorem as7 {l:List Tm}(h:l≠[]):srtT l≠[]:=fun e=>h (by
 have:=congrArg List.length e;unfold srtT at this
 rw[List.length_mergeSort]at this
 exact List.length_eq_zero_iff.1 this)
theorem avc (n:Nat)(once:Bool)(TT:List Tm)(ns al o:List UInt8)(h:TT≠[]):(txO n once TT ns al o).pr.length+3<=wtL TT:=by
 unfold txO;have h1:=adT (srtT (TT.map fun T=>(thS (whl n once) (ag9 o ns T) al).1)) (as7 (by simpa using h));rw[aiD]at h1
 have h2:=aot TT (fun T=>(thS (whl n once) (ag9 o ns T) al).1) id (fun T _=>by
  have:=ajv (whl n once) (ahz n once) (ag9 o ns T) al;rw[ahX]at this
  exact this)
 rw[List.map_id]at h2;omega
theorem apY (n:Nat)(ih:WhP n)(TT:List Tm)(tk:List UInt8)(mm:Nat)(once br:Bool)(m:Nat)(o':List Nat)(ho1:o'.length=mm)(ho2:o'.Nodup)(ho3:∀i,i∈o'↔i<mm)(hmm:mm<=5)(hs:Srt tk)(hTT:TT≠[])(hlen:TT.length<=100) (hf:∀T∈TT,(FitX T/\(Fit T\/mm=0))/\T.size<=n+1/\T.size<=121/\Thw T/\(∀z,z∈T.free->¬aa4 z\/∃j,j<mm/\z=gl j)/\(∀z∈T.bnd,¬aa4 z)/\T.ok nmE=true/\T.pr.length<=700) (g cap:Nat)(C:Array Value)(w:World)(hC:∀j (h:j<(TT.map S).length),C[j]?=some (.string (TT.map S)[j]))(hg:w.heap[g]?=some (.cells C 9 (0,0)))(hgm:g≠m)(hm:MkAt w m br once) : Calls prog 194 #[.pointer (some ⟨m,0,none⟩),.slice (some ⟨g,0,none⟩) (TT.map S).length cap,.string (B (o'.map gl)),.string (B (nexts tk mm)),.string (B (allT tk mm))] w (MkP m br once (S (txO n once TT (nexts tk mm) (allT tk mm) (o'.map gl))) (fbO n once TT (nexts tk mm) (allT tk mm) (o'.map gl)) w):=by
 have hnl:=abE mm tk;have hN:=afM mm tk;have hNg:=acJ mm tk;have hoi:∀i∈o',i<90:=fun i hi=>by have:=(ho3 i).1 hi;omega
 have hfac:∀T∈TT,∀i,i<=mm->FitX (nmG (o'.take i) ((nexts tk mm).take i) T)/\(nmG (o'.take i) ((nexts tk mm).take i) T).ok nmE=true/\Thw (nmG (o'.take i) ((nexts tk mm).take i) T):=fun T hT i hi=>by
  obtain⟨⟨f1,f2⟩,f3,f4,f5,f6,f7,f8,f9⟩:=hf T hT
  exact afK _ _ T (by simp;omega) (fun j hj=>hoi j (List.mem_of_mem_take hj)) (fun l hl=>hN l (List.mem_of_mem_take hl)) (f2.imp id fun h=>by
   have:o'=[]:=List.length_eq_zero_iff.1 (by omega)
   rw[this,List.take_nil]) f1 f8 f5
 have hB1:(B (o'.map gl)).size=mm:=by rw[aa1,List.length_map,ho1]
 have hB2:(B (nexts tk mm)).size=mm:=by rw[aa1,hnl]
 have hfull:∀T,nmG (o'.take mm) ((nexts tk mm).take mm) T=ag9 (o'.map gl) (nexts tk mm) T:=fun T=>by
  rw[List.take_of_length_le (by omega),List.take_of_length_le (by omega),alb]
 have hTl:∀(T:Tm) i,(nmG (o'.take i) ((nexts tk mm).take i) T).pr.length=T.pr.length/\(nmG (o'.take i) ((nexts tk mm).take i) T).size=T.size:=fun T i=>ahy _ _ T
 have key:=axp g cap C (TT.map S) (TT.map fun T=>S (thS (whl n once) (ag9 (o'.map gl) (nexts tk mm) T) (allT tk mm)).1) (TT.map fun T=>(thS (whl n once) (ag9 (o'.map gl) (nexts tk mm) T) (allT tk mm)).2)
  (B (o'.map gl)) (B (nexts tk mm)) (B (allT tk mm)) (fun j i=>S (nmG (o'.take i) ((nexts tk mm).take i) (TT.getD j .nil))) (by simpa using hTT) (by simp) (by simp) (by simpa using hlen)
  (fun r hr=>by
   obtain⟨T,hT,rfl⟩:=List.mem_map.1 hr;rw[aaq];have:=ajv (whl n once) (ahz n once) (ag9 (o'.map gl) (nexts tk mm) T) (allT tk mm);rw[ahX]at this
   have:=(hf T hT).2.2.2.2.2.2.2
   omega) (by omega) (by omega) m br once hgm
  (fun j q hq=>by
   simp only[List.getElem?_map,Option.map_eq_some_iff]at hq;obtain⟨T,hT,rfl⟩:=hq
   simp[nmG,List.getD_eq_getElem?_getD,hT])
  hC
  (fun j i h w hj=>by
   rw[List.length_map]at hj;have hT:TT.getD j .nil=TT[j]:=by rw[List.getD_eq_getElem?_getD,List.getElem?_eq_getElem hj];rfl
   have hTm:TT[j]∈TT:=List.getElem_mem hj;rw[hT];have hi1:i<o'.length:=by omega
   have hi2:i<(nexts tk mm).length:=by omega
   rw[akq i o' (nexts tk mm) TT[j] hi1 hi2]
   have b1:((B (o'.map gl))[i]'h)=gl o'[i]:=by
    have:=abu (s:=B (o'.map gl)) (l:=o'.map gl) (aaQ _) i h (by rw[List.length_map];exact hi1);rw[this,List.getElem_map]
   have b2:((B (nexts tk mm))[i]'(by omega))=(nexts tk mm)[i]:=abu (aaQ _) i (by omega) hi2;rw[b1,b2];refine ack _ _ _ _ (nl _) (hfac _ hTm i (by omega)).2.1 ?_ (hN _ (List.getElem_mem hi2)) w
   rw[(hTl _ _).1];exact(hf _ hTm).2.2.2.2.2.2.2)
  (fun j r bb hj h1 h2 br w hmk=>by
   rw[List.length_map]at hj;have hT:TT.getD j .nil=TT[j]:=by rw[List.getD_eq_getElem?_getD,List.getElem?_eq_getElem hj];rfl
   have hTm:TT[j]∈TT:=List.getElem_mem hj;simp only[List.getElem?_map,List.getElem?_eq_getElem hj,Option.map_some,Option.some.injEq]at h1 h2;subst h1 h2;rw[hT,hB1];obtain⟨⟨f1,f2⟩,f3,f4,f5,f6,f7,f8,f9⟩:=hf _ hTm;obtain⟨k1,k2,k3⟩:=hfac _ hTm mm (nl _);have kl:=hTl TT[j] mm
   have kp:Plain (nmG (o'.take mm) ((nexts tk mm).take mm) TT[j]):=by
    rw[List.take_of_length_le (by omega),List.take_of_length_le (by omega)];exact afL o' (nexts tk mm) TT[j] (by omega) ho2 hoi hNg (f2.imp id fun h=>List.length_eq_zero_iff.1 (by omega)) (fun z hz=>(f6 z hz).imp id fun ⟨j,hj,e⟩=>⟨j,(ho3 j).2 hj,e⟩) f7
   rw[hfull]at k1 k2 k3 kl kp ⊢
   exact amr n ih _ (allT tk mm) once br m w (by omega) (by omega) k3 k1 kp k2 (by omega) (ala mm tk hs) hmk)
  w hg hm
 have e1:(TT.map fun T=>S (thS (whl n once) (ag9 (o'.map gl) (nexts tk mm) T) (allT tk mm)).1)=(TT.map fun T=>(thS (whl n once) (ag9 (o'.map gl) (nexts tk mm) T) (allT tk mm)).1).map S:=by rw[List.map_map];rfl
 rw[e1,ak8,af7 _ (as7 (by simpa using hTT)),List.any_map]at key;exact key
theorem apZ (n:Nat):WhP n:=by
 induction n with
 | zero=>intro t tk once br m w h;have:=aao t;omega
 | succ n ih=>
  intro t tk once br m w hn h121 hf hp ho hl hs hm;obtain⟨g89,gfa⟩:=agV h121 hf hp;have gok:=akp t.size 0 t ho g89;have gw:=aos t.size 0 t;have gu:=aoq t.size t 0 (fun z=>¬aa4 z) (nl _) hf g89 (fun z h=>h) (fun i _ hi h=>h (ace hi)) hp;have HG:=fun b w lv=>amg t.size t 0 b w.heap.size (fun z=>¬aa4 z) [] (.slice none 0 0) w (nl _) hf ho hl g89 (fun z h=>h) (fun i _ hi h=>h (ace hi)) hp (by simp;omega) lv (World.ownsRow_nil _ _ _ _) (nl _);unfold whl;obtain⟨mm,hmm⟩:∃mm,mm=(gath t.size 0 t).2:=⟨_,rfl⟩;obtain⟨TT,hTTe⟩:∃TT,TT=(gath t.size 0 t).1:=⟨_,rfl⟩;rw[<-hmm]at g89 gfa gw gu HG ⊢;rw[<-hTTe]at gfa gok gw gu HG ⊢;clear hmm hTTe;have hwm:=fun T (h:T∈TT)=>adS h;have hll:=asK TT;have hgl:(ac4 mm).length=mm:=by simp[ac4]
  have hU:∀j (h:j<(TT.map S).length) w,Calls prog 167 #[.string (TT.map S)[j]] w fun e w'=>e=.returned (.string (B (TT.getD j .nil).usd))/\Zb w w':=fun j h w=>by
   have hj:j<TT.length:=by simpa using h
   have:=aeM TT[j].size TT[j] (nl _) (gok _ (List.getElem_mem hj)) (by have:=(hwm _ (List.getElem_mem hj)).1;omega) w;have e:(TT.map S)[j]=S TT[j]:=List.getElem_map _;rw[<-e]at this
   rw[List.getD_eq_getElem?_getD,List.getElem?_eq_getElem hj];exact this
  have hord:ordsL mm (ac4 mm)=(ords mm).map (·.map gl):=alY gl mm (List.range mm);obtain⟨O,hO⟩:∃O,O=(if once=true then (ords mm).take 1 else ords mm):=⟨_,rfl⟩
  have hOO:(if once=true then (ordsL (ac4 mm).length (ac4 mm)).take 1 else ordsL (ac4 mm).length (ac4 mm))=O.map (·.map gl):=by
   rw[hgl,hord,hO];cases once<;>simp[List.map_take]
  rw[<-hO]
  have hOm:mm<=5->∀o∈O,o.length=mm/\o.Nodup/\∀i,i∈o↔i<mm:=fun h o h1=>by
   refine acn mm h o ?_;rw[hO]at h1
   split at h1
   ·exact List.mem_of_mem_take h1
   ·exact h1
  have hOn:mm<=5->O≠[]/\O.length<=120:=fun h=>by
   have h1:=acW mm h;have h2:=(acb mm (List.range mm) (by simp)).1;have h3:∀k,k<=5->fct k<=120:=by decide
   rw[List.length_range]at h2;have h4:=h3 mm h;rw[hO];unfold ords at h1 ⊢
   cases once
   ·exact⟨by simpa using h1,by simp only[Bool.false_eq_true,if_false];omega⟩
   ·refine⟨by simpa using h1,?_⟩;simp only[if_true,List.length_take];omega
  refine axq (S t) tk (ac4 mm) (TT.map S) (fun j=>(TT.getD j .nil).usd) hs (fun j=>abo _) (by rw[List.length_map];omega) (by omega) (fun hne z hz=>?_) (O.map (·.map gl)) m br once hOO.symm (fun h=>?_)
   (fun o=>S (txO n once TT (nexts tk mm) (allT tk mm) o)) (fun o=>fbO n once TT (nexts tk mm) (allT tk mm) o) (fun o ho=>?_) _ _ (fun h=>?_) (fun h h5=>?_) (fun h h5=>?_) HG ?_ (fun hne h5 o ho br g cap C w hC hg hgm hmk=>?_) w hm
  ·rw[au5];obtain⟨i,hi,rfl⟩:=List.mem_map.1 hz;obtain⟨T,hT,hu⟩:=gu _ (.inr ⟨i,Nat.zero_le _,List.mem_range.1 hi,rfl⟩);obtain⟨k,hk,e⟩:=List.mem_iff_getElem.1 hT;refine⟨k,by simpa using hk,?_⟩;rw[List.getD_eq_getElem?_getD,List.getElem?_eq_getElem hk,Option.getD_some,e];exact hu
  ·rw[hgl]at h;exact⟨by rw[List.length_map];exact(hOn h).2,by simpa using (hOn h).1⟩
  ·rw[aaq];refine⟨pr_pos _,?_⟩
   by_cases hTT:TT=[]
   ·subst hTT;simp[txO,srtT,joinR,Tm.pr]
   ·have:=avc n once TT (nexts tk mm) (allT tk mm) o hTT;omega
  ·have:TT=[]:=by simpa using h
   rw[this];exact⟨rfl,rfl⟩
  ·have h1:TT.isEmpty=false:=by simpa using h
   rw[hgl]at h5;rw[h1];simp only[Bool.false_eq_true,if_false];rw[if_pos h5];exact⟨rfl,rfl⟩
  ·have h1:TT.isEmpty=false:=by simpa using h
   rw[hgl]at h5 ⊢;rw[h1];simp only[Bool.false_eq_true,if_false];rw[if_neg (by omega)]
   have e1:(O.map (·.map gl)).map (fun o=>S (txO n once TT (nexts tk mm) (allT tk mm) o))=(O.map fun o=>joinR .par (srtT (TT.map fun T=>(thS (whl n once) (nmG o (nexts tk mm) T) (allT tk mm)).1))).map S:=by
    rw[List.map_map,List.map_map];refine List.map_congr_left fun o _=>?_;simp only[Function.comp,txO,alb]
   rw[e1,ayh _ (by simpa using (hOn h5).1),axt];refine⟨rfl,?_⟩;rw[List.any_map];show (O.any fun o=>TT.any fun T=>(thS (whl n once) (nmG o (nexts tk mm) T) (allT tk mm)).2)=_;congr 1
   funext o
   simp only[Function.comp,fbO,alb]
  ·exact hU
  ·rw[hgl]at h5 ⊢;obtain⟨o',ho',rfl⟩:=List.mem_map.1 ho;obtain⟨a1,a2,a3⟩:=hOm h5 o' ho';refine apY n ih TT tk mm once br m o' a1 a2 a3 h5 hs (by simpa using hne) (by omega) (fun T hT=>?_) g cap C w hC hg hgm hmk;obtain⟨b1,b2,b3,b4,b5,b6⟩:=gfa T hT;exact⟨⟨b1,b2⟩,by omega,by omega,b4,b5,b6,gok T hT,by have:=(hwm T hT).1;omega⟩
theorem ams (l:List UInt8)(i:Nat)(h:i<l.length):(l.take (i+1)).count 35=(l.take i).count 35+if l[i]=35 then 1 else 0:=by
 rw[List.take_succ_eq_append_getElem h,List.count_append];congr 1
 by_cases c:l[i]=35<;>simp[c]
def avd (R:ByteArray)(b:Bool)(w:World)(e:Ending)(w':World):Prop:=e=.returned (.tuple #[.string R,.bool b])/\Zb w w'
theorem af9 (X U R1 R2:ByteArray)(b1 b2:Bool)(hs1:R1.size<=1000)(V:ByteArray)(z:Bool)(hv1:(b1=true\/8<R1.data.toList.count 35)->V=⟨#[]⟩/\z=false)(hv2:¬(b1=true\/8<R1.data.toList.count 35)->V=R2/\z=!b2) (HU:Zr 167 #[.string X] (.string U)) (HW1:∀m w,MkAt w m false true->Calls prog 166 #[.pointer (some ⟨m,0,none⟩),.string X,.string U] w (MkP m false true R1 b1 w)) (HW2:∀m w,MkAt w m false false->Calls prog 166 #[.pointer (some ⟨m,0,none⟩),.string X,.string U] w (MkP m false false R2 b2 w))(w:World) : Calls prog 114 #[.string X] w (avd V z w):=by
 have HU':=qz HU;have HW1':=qz HW1;have HW2':=qz HW2;have HV1:=qz hv1;have HV2:=qz hv2;clear HU HW1 HW2 hv1 hv2
 go_enter func114,ntmps114
 go_wp2_with fail;refine(HU'.out _).mono ?_;rintro e w1 ⟨rfl,bl1⟩;have hmk:MkAt w1 w.heap.size false true:=(bl1.block w.heap.size (by simp)).trans (aai w _);have HM:=qz hmk;have B1:=qz (aab ((Below.refl w.heap.size w).alloc (nl _) _) bl1 (by simp));clear bl1 hmk;go_wp2_with fail;refine(HW1'.out _ _ HM.out).mono ?_;rintro e w2 ⟨rfl,m2,o2⟩;have B2:Hid (Zb w w2):=⟨o2.os.trans B1.out.os,o2.tape.trans B1.out.tape,o2.output.trans B1.out.output,Nat.le_trans B1.out.size o2.size,fun k hk=>(o2.block k (by have:=B1.out.size;omega) (by omega)).trans (B1.out.block k hk)⟩;obtain⟨cap0,W0,hcv,bW,hr⟩:=aaF R1 _ R1.size rfl (by simp) w2;have M2:=qz (m2.below bW);have B3:=qz (B2.out.trans (bW.mono B2.out.size));have HR:=qz hr;obtain⟨g,hg⟩:∃g,g=w2.heap.size:=⟨_,rfl⟩;rw[<-hg]at hcv HR;obtain⟨l,hl⟩:∃l,l=R1.data.toList:=⟨_,rfl⟩;have hll:Hid (l.length=R1.size):=by show _=_;rw[hl];simp
 rw[<-hl]at HR HV1 HV2;have hml:=M2.out.lt;clear m2 o2 bW hr B2 HM hg hl;go_wp2_with fail;clear hcv
 go_loop [5,19] (fun s c=>∃i:Nat,i<=R1.size/\c=.int .i64 (i:Int)/\s=.int .i64 (((l.take i).count 35:Nat):Int)) (fun _ c=>R1.size - (intOf c).toNat)
 case atStart=>exact⟨0,Nat.zero_le _,rfl,by simp⟩
 case round=>
  obtain⟨i,hi,rfl,rfl⟩:=hrel;have hct:(l.take i).count 35<=1000:=Nat.le_trans List.count_le_length (by rw[List.length_take];omega)
  by_cases hlt:i<R1.size
  ·have hil:i<l.length:=by have:=hll.out;omega
   have hcs:=qz (ams l i hil);have hc:=HR.out.cell i hil;obtain⟨k,hk⟩:∃k,k=l[i]:=⟨_,rfl⟩;rw[<-hk]at hcs hc;obtain⟨K,hK⟩:∃K,K=(l.take i).count 35:=⟨_,rfl⟩;rw[<-hK]at hct hcs ⊢;clear hk hK
   by_cases h35:k=35
   ·have t1:((k.toNat:Int)==35)=true:=by rw[h35];rfl
    have H35:=qz h35;clear h35;go_wp2_with fail
    go_round
    case rel=>exact⟨i+1,by omega,by push_cast;rfl,by rw[hcs.out,if_pos H35.out];push_cast;rfl⟩
    case measure=>simp[intOf]<;>omega
   ·have t1:((k.toNat:Int)==35)=false:=by
     rw[beq_eq_false_iff_ne];intro e;exact h35 (by apply UInt8.toNat_inj.1;show k.toNat=35;omega)
    have H35:=qz h35;clear h35;go_wp2_with fail
    go_round
    case rel=>exact⟨i+1,by omega,by push_cast;rfl,by rw[hcs.out,if_neg H35.out];push_cast;rfl⟩
    case measure=>simp[intOf]<;>omega
  ·obtain rfl:i=R1.size:=by omega
   rw[List.take_of_length_le (by have:=hll.out;omega)]at hct ⊢;obtain⟨K,hK⟩:∃K,K=l.count 35:=⟨_,rfl⟩;rw[<-hK]at hct HV1 HV2 ⊢;have c0:=M2.out.c0;clear hK HR;simp only[Bool.false_or]at c0
   cases hb1:b1
   ·rw[hb1]at c0 HV1 HV2
    by_cases h8:8<K
    ·have q8:(8:Int)<(K:Int):=by omega
     go_wp2_with fail;go_ret2;have:=HV1.out (.inr h8);exact⟨by rw[this.1,this.2];rfl,B3.out⟩
    ·have q8:¬(8:Int)<(K:Int):=by omega
     have hv:=qz (HV2.out (by simp[h8]));go_wp2_with fail;refine(HU'.out _).mono ?_;rintro e w3 ⟨rfl,bl3⟩;have hmk:MkAt w3 W0.heap.size false false:=(bl3.block W0.heap.size (by simp)).trans (aai W0 _);have HM3:=qz hmk;have hz3:W0.heap.size<w3.heap.size:=by have:=bl3.size;simp at this;omega
     have B4:=qz (B3.out.trans (aab ((Below.refl W0.heap.size W0).alloc (nl _) _) bl3 (by simp) |>.mono B3.out.size));clear bl3 hmk c0;go_wp2_with fail;refine(HW2'.out _ _ HM3.out).mono ?_;rintro e w4 ⟨rfl,m4,o4⟩;have hws:=B3.out.size;have B5:Hid (Zb w w4):=⟨o4.os.trans B4.out.os,o4.tape.trans B4.out.tape,o4.output.trans B4.out.output,Nat.le_trans B4.out.size o4.size,fun k hk=>(o4.block k (by omega) (by omega)).trans (B4.out.block k hk)⟩;have c4:=m4.c0;simp only[Bool.false_or]at c4;clear m4 o4;go_wp2_with fail
     go_quiet (fail)
     go_wp2_with fail;go_ret2;exact⟨by rw[hv.out.1,hv.out.2];rfl,by first|exact B5.out|exact aal B5.out _⟩
   ·rw[hb1]at c0 HV1 HV2;go_wp2_with fail;go_ret2;have:=HV1.out (.inl (by trivial));exact⟨by rw[this.1,this.2];rfl,B3.out⟩
theorem af_ (X V:ByteArray)(z:Bool)(R:ByteArray)(y:Bool)(hz:z=false->R=⟨#[]⟩/\y=false)(HI:z=true->∀w,Calls prog 115 #[.string V] w (avd R y w)) (HO:∀w,Calls prog 114 #[.string X] w (avd V z w))(w:World) : Calls prog 71 #[.string X] w (avd R y w):=by
 have HO':=qz HO;have HI':=qz HI;have HZ:=qz hz;clear HO HI hz
 go_enter func71,ntmps71
 go_wp2_with fail;refine(HO'.out _).mono ?_;rintro e w1 ⟨rfl,b1⟩;have B1:=qz b1;clear b1
 cases z
 ·go_wp2_with fail;go_ret2;exact⟨by rw[(HZ.out (by trivial)).1,(HZ.out (by trivial)).2];rfl,B1.out⟩
 ·have HI2:=qz (HI'.out (by trivial));go_wp2_with fail;refine(HI2.out _).mono ?_;rintro e w2 ⟨rfl,b2⟩;have B2:=qz (aab B1.out b2 B1.out.size);clear b2;go_wp2_with fail;go_ret2;exact⟨rfl,B2.out⟩
def axu:Option Tm->ByteArray
 | some r=>S r
 | none=>⟨#[]⟩
theorem alc (t:Tm)(hs:t.size<=121)(hf:FitT t)(ho:t.ok nmL=true)(hl:t.pr.length<=700)(w:World) : Calls prog 71 #[.string (S t)] w (avd (axu (nfS t)) (nfS t).isSome w):=by
 have hoE:=ajs t ho;have hp:Plain t:=fun z hz=>aci (hz.elim ((okL_names ho).1 z) ((okL_names ho).2 z));have hU:=aeM t.size t (nl _) hoE hl;have hW:=fun once m w hmk=>apZ t.size t t.usd once false m w (nl _) hs hf hp hoE hl (abo t) hmk;have hL:=fun once=>ahz t.size once t t.usd;have hO:=fun once=>atS t.size once t t.usd (nl _) hs hf hp hoE;have hx:∀r:Tm,(S r).data.toList.count 35=r.pr.count 35:=fun r=>by rw[aaW]
 unfold nfS
 by_cases h1:(whl t.size true t t.usd).2=true\/8<(whl t.size true t t.usd).1.pr.count 35
 ·rw[if_pos h1];refine af_ (S t) ⟨#[]⟩ false _ _ (fun _=>⟨rfl,rfl⟩) (fun h=>by cases h) (fun w=>af9 (S t) (B t.usd) (S (whl t.size true t t.usd).1) (S (whl t.size false t t.usd).1) (whl t.size true t t.usd).2 (whl t.size false t t.usd).2 (by rw[aaq];have:=hL true;omega) _ _ (fun _=>⟨rfl,rfl⟩) (fun h=>?_) hU (hW true) (hW false) w) w;rw[hx]at h;exact absurd h1 h
 ·rw[if_neg h1]
  cases h2:(whl t.size false t t.usd).2 with
  | true=>
   rw[if_pos rfl];refine af_ (S t) (S (whl t.size false t t.usd).1) false _ _ (fun _=>⟨rfl,rfl⟩) (fun h=>by cases h) (fun w=>af9 (S t) (B t.usd) (S (whl t.size true t t.usd).1) (S (whl t.size false t t.usd).1) (whl t.size true t t.usd).2 (whl t.size false t t.usd).2 (by rw[aaq];have:=hL true;omega) _ _ (fun h=>?_) (fun h=>⟨rfl,by rw[h2];rfl⟩) hU (hW true) (hW false) w) w;rw[hx]at h;exact absurd h h1
  | false=>
   rw[if_neg (by simp)];refine af_ (S t) (S (whl t.size false t t.usd).1) true _ _ (fun h=>by cases h) (fun _ w=>?_) (fun w=>af9 (S t) (B t.usd) (S (whl t.size true t t.usd).1) (S (whl t.size false t t.usd).1) (whl t.size true t t.usd).2 (whl t.size false t t.usd).2 (by rw[aaq];have:=hL true;omega) _ _ (fun h=>?_) (fun h=>⟨rfl,by rw[h2];rfl⟩) hU (hW true) (hW false) w) w
   ·have:=arZ (whl t.size false t t.usd).1 (hO false) (by have:=hL false;omega) w
    by_cases h:okT (whl t.size false t t.usd).1=true
    ·rw[if_pos h]at this;rw[if_pos ((ahS _).1 h)];exact this
    ·rw[if_neg h]at this;rw[if_neg (fun h'=>h ((ahS _).2 h'))];exact this
   ·rw[hx]at h;exact absurd h h1
def wz (l:List Tm):Nat:=(l.map fun t=>t.size+1).sum
theorem as8 (l m:List Tm):wz (l++m)=wz l+wz m:=by simp[wz]
theorem ave {l m:List Tm}(h:l.Perm m):wz l=wz m:=by unfold wz;exact(h.map _).sum_nat
theorem as9 (l:List Tm):wz (srtT l)=wz l:=ave (List.mergeSort_perm _ _)
theorem as_ {f:Tm->Tm}:∀l:List Tm,(∀t∈l,t.size<=(f t).size)->wz l<=wz (l.map f):=by
 intro l;induction l with
 | nil=>intro _;simp[wz]
 | cons a l ih=>
  intro h;have h1:=h a (by simp);have h2:=ih fun b hb=>h b (by simp[hb]);simp only[wz,List.map_cons,List.sum_cons]at h2 ⊢;omega
theorem ase:∀l:List Tm,wz l<=(joinR .par l).size+1:=by
 intro l;induction l with
 | nil=>simp[wz]
 | cons a l ih=>
  cases l with
  | nil=>simp[wz,joinR]
  | cons b l=>simp only[joinR,Tm.size,wz,List.map_cons,List.sum_cons]at ih ⊢;omega
theorem asf:∀l:List Tm,wz l<=(joinR .sum l).size+1:=by
 intro l;induction l with
 | nil=>simp[wz]
 | cons a l ih=>
  cases l with
  | nil=>simp[wz,joinR]
  | cons b l=>simp only[joinR,Tm.size,wz,List.map_cons,List.sum_cons]at ih ⊢;omega
theorem avf (t:Tm):∀ls:List UInt8,(wrapO ls t).size=ls.length+t.size:=by
 intro ls;induction ls with
 | nil=>simp[wrapO]
 | cons a ls ih=>
  have e:wrapO (a::ls) t=.own a (wrapO ls t):=rfl;rw[e,Tm.size,ih,List.length_cons];omega
theorem avg (s:Tm):s.size+1=wz (smds s):=by
 induction s with
 | sum p q ih ih2=>simp only[smds,as8,Tm.size];omega
 | _=>simp[smds,wz]
theorem axv (s:Tm)(h:Neat s)(hs:s≠.nil):s.size+1<=(lvl s).1.length+wz (lvl s).2:=by
 induction s with
 | nil=>exact absurd rfl hs
 | own x p ih=>have:=ih h.2 h.1;simp only[lvl,List.length_cons,Tm.size];omega
 | par p q ih ih2=>
  have h1:=ih h.2.1 h.1.1;have h2:=ih2 h.2.2 h.1.2;simp only[lvl,lla,as8,Tm.size];omega
 | _=>simp[lvl,wz]
theorem asg (n:Nat):∀(once:Bool) (L:UInt8->UInt8) (left:List UInt8) (s:Tm),s.size<=n->Neat s->fl s left.length=true->s.size<=(mid n once L left s).size:=by
 induction n with
 | zero=>intro once L left s h;have:=aao s;omega
 | succ n ih=>
  intro once L left s hn hc hf;obtain⟨f1,f2,f3⟩:=acg hf;unfold mid
  by_cases hU:(lvl s).2=[]
  ·have:s=.nil:=by
    cases s with
    | nil=>rfl
    | _=>exact absurd hU (acY _ (ade _ hc) (by simp))
   subst this;simp[lvl,Tm.size]
  ·have hU':(lvl s).2.isEmpty=false:=by simpa using hU
   have hsn:s≠.nil:=fun e=>by subst e;simp[lvl]at hU
   have hlv:=axv s hc hsn;rw[hU'];simp only[Bool.false_eq_true,if_false];rw[avf,List.length_take,Nat.min_eq_left f2]
   have hm:=acu ((if once then (ords (lvl s).1.length).take 1 else ords (lvl s).1.length).map fun o=>
    joinR .par (srtT ((lvl s).2.map (thI (mid n once) (updL L (o.map fun i=>(lvl s).1.getD i 0) left) (left.drop (lvl s).1.length))))) (by simpa using ahr f1)
   obtain⟨o,ho,e⟩:=List.mem_map.1 hm;rw[<-e];have hj:=ase (srtT ((lvl s).2.map (thI (mid n once) (updL L (o.map fun i=>(lvl s).1.getD i 0) left) (left.drop (lvl s).1.length))));rw[as9]at hj
   have hmap:=as_ (f:=thI (mid n once) (updL L (o.map fun i=>(lvl s).1.getD i 0) left) (left.drop (lvl s).1.length)) (lvl s).2 fun T hT=>by
    have hk:=aba s T hT;have hsz:=aa_ s T hT;have hcl:=afd s hc T hT;have htf:=f3 T hT;have hlen:(left.drop (lvl s).1.length).length=left.length - (lvl s).1.length:=List.length_drop;rw[<-hlen]at htf
    generalize left.drop (lvl s).1.length=lf at *
    generalize updL L (o.map fun i=>(lvl s).1.getD i 0) left=L'
    cases T with
    | nil=>exact absurd rfl hk.2.2
    | par p q=>exact absurd rfl (hk.1 p q)
    | own x p=>exact absurd rfl (hk.2.1 x p)
    | snd a b p=>simp only[Tm.size]at hsz;simp only[thI,Tm.size];have:=ih once L' lf p (by omega) hcl htf;omega
    | tau p=>simp only[Tm.size]at hsz;simp only[thI,Tm.size];have:=ih once L' lf p (by omega) hcl htf;omega
    | rep p=>simp only[Tm.size]at hsz;simp only[thI,Tm.size];have:=ih once L' lf p (by omega) hcl htf;omega
    | mat a b p=>simp only[Tm.size]at hsz;have:=ih once L' lf p (by omega) hcl htf;simp only[thI];split<;>simp only[Tm.size]<;>omega
    | rcv a x p=>
     simp only[Tm.size]at hsz
     cases lf with
     | nil=>simp[tf]at htf
     | cons c lf=>
      simp only[thI,Tm.size,List.headD_cons,List.tail_cons]
      have:=ih once (upd L' x c) lf p (by omega) hcl (by
       simp only[tf,List.length_cons,bae]at htf
       simpa [fl] using htf)
      omega
    | sum p q=>
     have hsm:=(acX (.sum p q) lf.length).1 (by rw[afH];exact htf);have e1:thI (mid n once) L' lf (.sum p q)=joinR .sum (srtT ((smds (.sum p q)).map (mid n once L' lf))):=rfl;rw[e1];have h1:=asf (srtT ((smds (.sum p q)).map (mid n once L' lf)));rw[as9]at h1;have h2:=avg (.sum p q)
     have h3:=as_ (f:=mid n once L' lf) (smds (.sum p q)) fun r hr=>by
      have hrs:r.size<(Tm.sum p q).size:=by
       simp only[smds,lma]at hr;simp only[Tm.size];rcases hr with hr|hr
       ·have:=aaL p r hr;omega
       ·have:=aaL q r hr;omega
      exact ih once L' lf r (by omega) (aiH _ hcl r hr) (hsm r hr)
     omega
   omega
theorem ata (l:List UInt8):(othL l).length<=26:=by
 unfold othL;have:=List.length_filter_le (fun c=>decide (c∉l)) ((List.range 26).map fun i=>UInt8.ofNat (97+i));simpa using this
theorem axw (t:Tm):t.bnd.length+1<=t.size:=by
 induction t with
 | nil=>simp[Tm.bnd,Tm.size]
 | _=>simp only[Tm.bnd,Tm.size,lla,List.length_cons]<;>omega
theorem avh (t:Tm)(h:t.ok nmL=true):t.free.length<=26:=by
 have:=acF (aav t) ahn (fun z hz=>(ajm z).2 (lets_free t h z hz));have h2:aqZ.length=26:=by unfold aqZ;simp
 omega
theorem axx (t:Tm)(h:t.ok nmL=true)(hs:t.size<=61):Fit t:=by
 have:=avh t h;have:=axw t;have:=an0 t;unfold Fit;omega
theorem avi {t:Tm}(ho:t.ok nmL=true)(hs:t.size<=121)(h60:60<t.sim.size):nfI t=none:=by
 have hss:=abq t;have hnum:can t.sim id marksN=numb t:=rfl;have hsz:(numb t).size<=t.size:=by rw[<-hnum,ach];exact hss
 have hsz2:(numb t).size=t.sim.size:=by rw[<-hnum,ach]
 unfold nfI
 split
 ·rfl
 ·rename_i hcf
  have hfl:fl (numb t) (othL t.usd).length=true:=by
   cases h:fl (numb t) (othL t.usd).length
   ·exact absurd (.inr h) hcf
   ·rfl
  rw[if_neg];rintro⟨_,_,h6⟩;have hcl:Neat (numb t):=afc _ _ _ (afb t);have hlet:∀l∈othL t.usd,nmL l=true:=fun l hl=>(nmL_iff l).2 ((abv _ _).1 hl).1
  have hfr:∀v,v∈(numb t).free->nmL (id v)=true:=fun v hv=>by
   obtain⟨u,hu,e⟩:=adQ t.sim id marksN (by have:=acB t.sim;rw[aaZ];omega) v hv;rw[e];rw[sim_usd]at hu;exact(okL_names ho).1 _ (usd_free t _ hu)
  have hbp:(numb t).bnd.Pairwise (·<·):=by rw[ada hs];exact acv.sublist (List.take_sublist _ _)
  rw[ahv t.size id (othL t.usd) (numb t) hsz (ade _ hcl) hfl hbp hlet hfr]at h6;have:=asg t.size false id (othL t.usd) (numb t) hsz hcl hfl;omega
def nfV:Option Tm->Value
 | some r=>.iface (aau r) (pay r)
 | none=>.nilIface
theorem adp (t:Tm)(ho:t.ok nmL=true)(hs:t.size<=121)(hl:t.pr.length<=900)(w:World) : Calls prog 60 #[.iface (aau t) (pay t)] w fun e w'=>e=.returned (.tuple #[nfV (nfI t),.bool (nfI t).isSome])/\Zb w w':=by
 have hso:=apg t ho;have hss:=abq t;have hnum:can t.sim id marksN=numb t:=rfl;have hsz:(numb t).size<=t.size:=by rw[<-hnum,ach];exact hss
 have hOt:=aeG t.sim.free (lets_free t.sim hso);have hb133:t.sim.bnd.length<=133:=by have:=acB t.sim;omega
 have hCk:=ahk (numb t) (by omega) ⟨#[35]⟩;rw[ar_]at hCk;rw[sim_usd]at hOt;have hFi:=arC (numb t).size (numb t) (othL t.usd).length (nl _) (by omega) (by have:=ata t.usd;omega);have hol:=ata t.usd;have hFr:=abD t.sim hso;rw[sim_usd]at hFr;have hSzC:=fun w=>aj7 t.sim (by omega) w
 by_cases h60:60<t.sim.size
 ·have e:nfI t=none:=avi ho hs h60;rw[e];exact au_ _ _ _ _ _ h60 w (abP t ho) hSzC
 by_cases hc:8<ownc (numb t)
 ·have e:nfI t=none:=by unfold nfI;rw[if_pos (.inl hc)]
  rw[e];exact ava _ _ _ _ _ _ _ (othL t.usd) (by omega) _ _ h60 hc w (abP t ho) hSzC hFr hOt (acj t.sim hso hb133) hCk
 ·cases hfl:fl (numb t) (othL t.usd).length with
  | false=>
   have e:nfI t=none:=by unfold nfI;rw[if_pos (.inr hfl)]
   rw[e];rw[hfl]at hFi;exact avb _ _ _ _ _ _ _ (othL t.usd) (by omega) _ _ h60 hc w (abP t ho) hSzC hFr hOt (acj t.sim hso hb133) hCk hFi
  | true=>
   rw[hfl]at hFi;have hcl:Clean (numb t):=aiz _ _ _ (aiy t);have hlet:∀l∈othL t.usd,nmL l=true:=fun l hl=>(nmL_iff l).2 ((abv _ _).1 hl).1
   have hfr:∀v,v∈(numb t).free->nmL (id v)=true:=fun v hv=>by
    obtain⟨u,hu,e⟩:=adQ t.sim id marksN (by have:=acB t.sim;rw[aaZ];omega) v hv;rw[e];rw[sim_usd]at hu;exact(okL_names ho).1 _ (usd_free t _ hu)
   have hbp:(numb t).bnd.Pairwise (·<·):=by rw[ada hs];exact acv.sublist (List.take_sublist _ _)
   have e3:=ahv t.size id (othL t.usd) (numb t) hsz hcl hfl hbp hlet hfr;have hok:(levI t.size id (othL t.usd) (numb t)).ok nmL=true:=by rw[e3];exact aiA t.size false id (othL t.usd) (numb t) hsz hfl hlet hfr
   have hlen:=abL t.size id (othL t.usd) (numb t);have hnl:=ar9 t
   have hLe:=fun (D:Array Value) (v:Value) (g:Nat) (w:World) (hd:DrOf D id v) (hlf:LfS w g v (othL t.usd)) (hg:g<w.heap.size)=>
    apW t.size (numb t) D id v g (othL t.usd) w hsz hd hlf hg hfl (by omega) (by omega) hbp (by omega)
   have hnf:nfI t=if (levI t.size id (othL t.usd) (numb t)).ok nmL=true/\(levI t.size id (othL t.usd) (numb t)).pr.length<=300/\(levI t.size id (othL t.usd) (numb t)).size<=60 then some (levI t.size id (othL t.usd) (numb t)) else none:=by
    unfold nfI;rw[if_neg (by rw[hfl];simp;omega)]
   generalize levI t.size id (othL t.usd) (numb t)=r at *
   rw[hnf]
   by_cases hg:r.ok nmL=true/\r.pr.length<=300/\r.size<=60
   ·rw[if_pos hg];exact apX _ _ _ _ _ _ _ (othL t.usd) (by omega) _ _ h60 hc (S r) _ _ w (abP t ho) hSzC hFr hOt (acj t.sim hso hb133) hCk hFi ad8 hLe (fun w=>aer (s:=S r) (by rw[aaW];exact apK hg.1 hg.2.1 hg.2.2) w (by rw[aaq];omega))
   ·rw[if_neg hg];exact apX _ _ _ _ _ _ _ (othL t.usd) (by omega) _ _ h60 hc (S r) _ _ w (abP t ho) hSzC hFr hOt (acj t.sim hso hb133) hCk hFi ad8 hLe (fun w=>agN (s:=S r) (by rw[aaW];exact ak6 (ajs r hok) hg) w (by rw[aaq];omega))
end Go.Proofs.YtihmcgcgjmbmhaaGreat.T1
