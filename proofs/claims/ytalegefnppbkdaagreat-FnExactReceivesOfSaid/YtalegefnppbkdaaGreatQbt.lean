/- Texts of the proof. No conditions. -/
import Derived.Test.YtalegefnppbkdaaGreatQba
import Derived.Test.YtalegefnppbkdaaGreatQbr
import Derived.Test.YtalegefnppbkdaaGreatQbs
namespace Go.Proofs.YtalegefnppbkdaaGreat.T1
open Go.Proofs.Tryz
set_option maxHeartbeats 8000000
open Go.RowKit
set_option maxRecDepth 100000
set_option linter.unusedVariables false
set_option linter.unusedSimpArgs false
def isS:Tm->Bool
 | .sum _ _=>true
 | _=>false
theorem acH (t:Tm):((one t.kind).toList==[43])=isS t:=by
 rw[Lib.toList_data]
 cases t<;>rfl
theorem BS (l:List UInt8)(q:Tm)(t:Tm)(h:t.pr=l++q.pr):B l++S q=S t:=by
 apply abg
 show (B l++S q).data.toList=t.pr.toArray.toList;rw[ByteArray.data_append,Array.toList_append,h];rfl
theorem aq2 (s:Tm):2 * (smds s).length<=s.size+1:=by
 induction s with
 | sum p q ih ih2=>simp only[smds,lla,Tm.size];omega
 | _=>simp only[smds,List.length_cons,List.length_nil,Tm.size]<;>omega
theorem atM (s:Tm):2 * (lvl s).2.length<=s.size+1:=by
 induction s with
 | own x p ih=>simp only[lvl,Tm.size];omega
 | par p q ih ih2=>simp only[lvl,lla,Tm.size];omega
 | _=>simp only[lvl,List.length_cons,List.length_nil,Tm.size]<;>omega
def LvH (n:Nat):Prop:=∀(s:Tm) (D:Array Value) (L:UInt8->UInt8) (vL:Value) (gL:Nat) (left:List UInt8) (w:World),s.size<=n->DrOf D L vL->LfS w gL vL left->gL<w.heap.size->
 fl s left.length=true->s.pr.length<=900->s.size<=121->s.bnd.Pairwise (·<·)->left.length<=30->
 Calls prog 117 #[.agg D,.iface (aaB s) (pay s)] w (aeQ (S (levI n L left s)) w)
theorem aeq (t:Tm):(B (hdL t)).size<=10:=by rw[aaR];cases t<;>simp[hdL]
theorem alQ (n:Nat)(H:LvH n)(T:Tm)(D:Array Value)(L:UInt8->UInt8)(vL:Value)(gL:Nat)(left:List UInt8)(w:World)(hT:isS T=true)(hsz:T.size<=n+1) (hD:DrOf D L vL)(hLf:LfS w gL vL left)(hgL:gL<w.heap.size)(hsm:∀r∈smds T,fl r left.length=true)(hpl:T.pr.length<=900)(hs2:T.size<=121)(hb:T.bnd.Pairwise (·<·))(hll:left.length<=30)(hsz':∀r∈smds T,r.size<T.size) : Calls prog 155 #[.agg D,.iface (aaB T) (pay T)] w (aeQ (S (joinR .sum (srtT ((smds T).map (levI n L left))))) w):=by
 have hn0:=(ahk T).1
 have hne:srtT ((smds T).map (levI n L left))≠[]:=fun e=>by
  have:=List.map_eq_nil_iff.1 (ahd e);rw[this]at hn0;simp at hn0
 have h2:=aq2 T;have htx:=aqj T;have hbs:=aie T;rw[<-aiD _ hne];refine atL _ _ D hD.sz (smds T) (srtT ((smds T).map (levI n L left))) (smds T).length _ _ (by rw[acH];exact hT) w (abf T).pf (aaI T (by omega)) ?_ ?_
 ·intro w1 v base b1 ho;refine afu _ aqJ D hD.sz (smds T) ((smds T).map (levI n L left)) (smds T).length rfl (by simp) (by omega) v base w1 ho ?_;intro i h1 h2 w' b';rw[List.getElem_map];have hm:(smds T)[i]∈smds T:=List.getElem_mem h1;have b2:=aaa b1 b';exact H _ D L vL gL left w' (by have:=hsz' _ hm;omega) hD (hLf.below b2) (Nat.lt_of_lt_of_le hgL b2.size) (hsm _ hm) (by have:=htx _ hm;omega) (by have:=hsz' _ hm;omega) (hb.sublist (hbs _ hm)) hll
 ·intro w1 v base ho
  exact avL ⟨#[43]⟩ (by decide) _ v _ base w1 ho (by rw[aci,List.length_map]) (by omega) (by omega) (fun t ht=>by
   obtain⟨r,hr,rfl⟩:=List.mem_map.1 ((aaV _ _).1 ht);have h3:=abC n L left r;have h4:=htx r hr
   omega)
theorem aq3 (n:Nat)(H:LvH n)(T:Tm)(D:Array Value)(L:UInt8->UInt8)(vL:Value)(gL:Nat)(left:List UInt8)(w:World)(hsz:T.size<=n+1)(hk:(∀p q,T≠.par p q)/\(∀x p,T≠.own x p)/\T≠.nil) (hD:DrOf D L vL)(hLf:LfS w gL vL left)(hgL:gL<w.heap.size)(htf:tf T left.length=true)(hpl:T.pr.length<=900)(hs2:T.size<=121)(hb:T.bnd.Pairwise (·<·))(hll:left.length<=30) : Calls prog 155 #[.agg D,.iface (aaB T) (pay T)] w (aeQ (S (thI (levI n) L left T)) w):=by
 cases T with
 | nil=>exact absurd rfl hk.2.2
 | par p q=>exact absurd rfl (hk.1 p q)
 | own x p=>exact absurd rfl (hk.2.1 x p)
 | snd a b p=>
  have hpp:p.pr.length<=900:=by simp only[Tm.pr,lla,List.length_cons]at hpl;omega
  simp only[Tm.size]at hsz hs2;have e:S (thI (levI n) L left (.snd a b p))=B (hdL (.snd (L a) (L b) p))++S (levI n L left p):=(BS _ _ _ (agz _ _ rfl)).symm;rw[e]
  exact ahx _ _ _ _ _ _ D hD.sz _ _ _ (aeq _) (by rw[aan];have:=abC n L left p;omega) (acH _) w (abf (.snd a b p)).pf (fun v hv=>alI (.snd a b p) D L vL hD _ v hv) (aap (.snd (L a) (L b) p)) (agK _) (ab1 (.snd (L a) (L b) p) p rfl) (parts_fact (.snd (L a) (L b) p)).pf
   (fun w1 b1=>H p D L vL gL left w1 (by omega) hD (hLf.below b1) (Nat.lt_of_lt_of_le hgL b1.size) htf hpp (by omega) hb hll)
 | tau p=>
  have hpp:p.pr.length<=900:=by simp only[Tm.pr,lla,List.length_cons]at hpl;omega
  simp only[Tm.size]at hsz hs2;have e:S (thI (levI n) L left (.tau p))=B (hdL (.tau p))++S (levI n L left p):=(BS _ _ _ (agz (.tau (levI n L left p)) _ rfl)).symm;rw[e]
  exact ahx _ _ _ _ _ _ D hD.sz _ _ _ (aeq _) (by rw[aan];have:=abC n L left p;omega) (acH _) w (abf (.tau p)).pf (fun v hv=>alI (.tau p) D L vL hD _ v hv) (aap (.tau p)) (aeX _) (ab1 (.tau p) p rfl) (parts_fact (.tau p)).pf
   (fun w1 b1=>H p D L vL gL left w1 (by omega) hD (hLf.below b1) (Nat.lt_of_lt_of_le hgL b1.size) htf hpp (by omega) hb hll)
 | rep p=>
  have hpp:p.pr.length<=900:=by simp only[Tm.pr,lla,List.length_cons]at hpl;omega
  simp only[Tm.size]at hsz hs2;have e:S (thI (levI n) L left (.rep p))=B (hdL (.rep p))++S (levI n L left p):=(BS _ _ _ (agz (.rep (levI n L left p)) _ rfl)).symm;rw[e]
  exact ahx _ _ _ _ _ _ D hD.sz _ _ _ (aeq _) (by rw[aan];have:=abC n L left p;omega) (acH _) w (abf (.rep p)).pf (fun v hv=>alI (.rep p) D L vL hD _ v hv) (aap (.rep p)) (aeZ _) (ab1 (.rep p) p rfl) (parts_fact (.rep p)).pf
   (fun w1 b1=>H p D L vL gL left w1 (by omega) hD (hLf.below b1) (Nat.lt_of_lt_of_le hgL b1.size) htf hpp (by omega) hb hll)
 | mat a b p=>
  have hpp:p.pr.length<=900:=by simp only[Tm.pr,lla,List.length_cons]at hpl;omega
  simp only[Tm.size]at hsz hs2
  have HL:∀w1,Zb w w1->Calls prog 117 #[.agg D,.iface (aaB p) (pay p)] w1 (aeQ (S (levI n L left p)) w1):=
   fun w1 b1=>H p D L vL gL left w1 (by omega) hD (hLf.below b1) (Nat.lt_of_lt_of_le hgL b1.size) htf hpp (by omega) hb hll
  by_cases hlt:L b<L a
  ·have e:S (thI (levI n) L left (.mat a b p))=B (hdL (.mat (L b) (L a) p))++S (levI n L left p):=by
    simp only[thI,if_pos hlt];exact(BS _ _ _ (agz (.mat (L b) (L a) (levI n L left p)) _ rfl)).symm
   rw[e];exact atJ _ _ _ _ _ _ D hD.sz _ _ _ (aeq _) (by rw[aan];have:=abC n L left p;omega) (acH _) ((L a).toNat:Int) ((L b).toNat:Int) (by rw[abO]at hlt;omega) w rfl rfl (abf (.mat a b p)).pf (fun v hv=>alI (.mat a b p) D L vL hD _ v hv) (aap (.mat (L a) (L b) p)) (ab1 (.mat (L b) (L a) p) p rfl) (parts_fact (.mat (L b) (L a) p)).pf HL
  ·have e:S (thI (levI n) L left (.mat a b p))=B (hdL (.mat (L a) (L b) p))++S (levI n L left p):=by
    simp only[thI,if_neg hlt];exact(BS _ _ _ (agz (.mat (L a) (L b) (levI n L left p)) _ rfl)).symm
   rw[e];exact atI _ _ _ _ _ _ D hD.sz _ _ _ (aeq _) (by rw[aan];have:=abC n L left p;omega) (acH _) ((L a).toNat:Int) ((L b).toNat:Int) (by rw[abO]at hlt;omega) w rfl rfl (abf (.mat a b p)).pf (fun v hv=>alI (.mat a b p) D L vL hD _ v hv) (aap (.mat (L a) (L b) p)) (ab1 (.mat (L a) (L b) p) p rfl) (parts_fact (.mat (L a) (L b) p)).pf HL
 | rcv a x p=>
  have hpp:p.pr.length<=900:=by simp only[Tm.pr,lla,List.length_cons]at hpl;omega
  simp only[Tm.size]at hsz hs2
  cases left with
  | nil=>simp[tf]at htf
  | cons c left=>
   have hu:updL L [x] (c::left)=upd L x c:=by cases left<;>rfl
   have hc:updL L [x] (c::left) x=c:=by rw[hu];unfold upd;rw[if_pos rfl]
   have e:S (thI (levI n) L (c::left) (.rcv a x p))=B (hdL (.rcv (L a) c p))++S (levI n (upd L x c) left p):=(BS _ _ _ (agz (.rcv (L a) c (levI n (upd L x c) left p)) _ rfl)).symm;rw[e];refine atK _ _ _ _ _ _ (pay (.rcv (L a) c p)) _ D L vL gL (c::left) hD (by simp at hll ⊢;omega) (by simp) x _ _ _ (aeq _) (by rw[aan];have:=abC n (upd L x c) left p;omega) (acH _) w hLf hgL (abf (.rcv a x p)).pf (fun v hv=>alI (.rcv a x p) D L vL hD _ v hv) (aap (.rcv (L a) x p)) ?_ (aeB _) (ab1 (.rcv (L a) c p) p rfl) (parts_fact (.rcv (L a) c p)).pf ?_
   ·intro w1;rw[hc];exact agt _ _ _ _ _ w1
   ·intro D2 v2 w1 hd2 hl2 b1;rw[hu]at hd2;refine H p D2 (upd L x c) v2 gL left w1 (by omega) hd2 hl2 (Nat.lt_of_lt_of_le hgL b1.size) ?_ hpp (by omega) (List.Pairwise.of_cons hb) (by simp at hll;omega);simp only[tf,List.length_cons,bae]at htf;simpa [fl] using htf
 | sum p q=>
  have hsm:=(adq (.sum p q) left.length).1 (by rw[ags];exact htf);have e1:thI (levI n) L left (.sum p q)=joinR .sum (srtT ((smds (.sum p q)).map (levI n L left))):=rfl;rw[e1];refine alQ n H (.sum p q) D L vL gL left w rfl hsz hD hLf hgL hsm hpl hs2 hb hll fun r hr=>?_;simp only[smds,lma]at hr;simp only[Tm.size];rcases hr with hr|hr
  ·have:=aaG p r hr;omega
  ·have:=aaG q r hr;omega
theorem atN (a:UInt8) (base n:Nat)(xs:List Value)(v:Value)(w:World)(ho:w.ownsRow base 5 1 v n xs)(hn:n+3<=1000)(hb:base<=w.heap.size) : Calls prog 160 #[v,.iface 61 (.agg #[.int .u8 (a.toNat:Int),.nilIface])] w (aaS base n xs [35,a,46] w):=by
 obtain⟨i0,hi,hz0,hz1,hz2⟩:=info_parts Tryz.infoU8
 go_enter func160,ntmps160
 go_wp2_with (at_builtin;refine wpList_append_own _ rfl (.tmp 41) (.tmp 44) 44 rfl base 5 i0 (.int .u8 0) 1 1 underlying44 hi hz0 hz1 hz2 rfl (by decide) v n xs rfl ((ho.alloc _).alloc _) ⟨w.heap.size+1,0,none⟩ 3 3 ([35,a,46].map ub) rfl rfl ?c1 (acN _) ?c2 ?c3 ?c4 ?_)
 case c1=>exact abq w _ ([35,a,46].map ub) 5
 case c2=>unfold maxLen;omega
 case c3=>omega
 case c4=>simp;omega
 intro v1 w1 hown hgrow _;have K1:Hid (Kp base 5 w w1):=(Kp.of_below (aaM w _ _) hb).trans (Kp.of_grown hgrow ((ho.alloc _).alloc _) (by simp;omega));have HO:=qz hown;clear hown hgrow;go_wp2_with fail;go_ret;exact⟨v1,rfl,HO.out,K1.out⟩
theorem aoX (a:UInt8)(w:World):Calls prog 158 #[.iface 61 (.agg #[.int .u8 (a.toNat:Int),.nilIface])] w (aeQ (B [35,a,46]) w):=
 adu _ _ [35,a,46] (by simp) (by simp) (fun w=>atN a w.heap.size 0 [] (.slice none 0 0) w (World.ownsRow_nil _ _ _ _) (by omega) (nl _)) w
theorem atO (T:TypeId)(V:Value)(D:Array Value)(L:UInt8->UInt8)(vL:Value)(gL:Nat)(left:List UInt8)(fs:List UInt8)(ts best:List Tm)(k:Nat)(q:Tm)(w:World)(hD:DrOf D L vL)(hLf:LfS w gL vL left)(hgL:gL<w.heap.size) (hq:q.pr.length<=900)(hfl:fs.length<=left.length)(hf5:fs.length<=5)(hll:left.length<=30) (hLv:∀w1,Calls prog 54 #[.iface T V] w1 (agu fs (ts.map enc) w1)) (hLe:∀w1 v vT base base2 gd gt,Zb w w1->w1.heap[gd]?=some (.cells D 127 (0,0))->w1.cell? ⟨gt,0,none⟩=some vT->w1.ownsRow base 38 1 vT ts.length (ts.map enc)->w1.ownsRow base2 5 1 v fs.length (fs.map ub)-> Calls prog 157 #[.agg #[.func (.func 152) #[] #[.pointer (some ⟨gd,0,none⟩),.pointer (some ⟨gt,0,none⟩)]],v] w1 (TxP best k w1)) (hBr:∀w1 v base,w1.ownsRow base 9 1 v k (best.map sv)->Calls prog 156 #[v,.string ⟨#[38]⟩] w1 fun e w'=>e=.returned (.string (S q))/\w1=w') (hHd:∀(c:UInt8) w1,Calls prog 158 #[.iface 61 (.agg #[.int .u8 (c.toNat:Int),.nilIface])] w1 (aeQ (B [35,c,46]) w1)) : Calls prog 117 #[.agg D,.iface T V] w (aeQ (S (wrapO (left.take fs.length) q)) w):=by
 have HLv:=qz hLv;have HLe:=qz hLe;have HBr:=qz hBr;have HHd:=qz hHd;have HLf:=qz hLf;have HD:=qz hD;obtain⟨n,hn⟩:∃n,n=fs.length:=⟨_,rfl⟩;have HN:=qz hn;rw[<-hn]at hfl hf5 ⊢;clear hLv hLe hBr hHd hLf hD hn
 go_enter func117,ntmps117
 go_wp2_with fail;obtain⟨W,hW⟩:∃W,W=w.alloc (.cells D 127):=⟨_,rfl⟩;have hr:=qz (show W.heap[w.heap.size]?=some (.cells D 127 (0,0)) by rw[hW];exact aag _ _);have bl:Zb w W:=by rw[hW];exact bra
 rw[<-hW];clear hW;refine(HLv.out _).mono ?_;rintro e w1 ⟨v1,v2,rfl,o1,o2,b1⟩;rw[<-HN.out]at o1;rw[List.length_map]at o2;replace hr:=qz (aac hr.out b1);replace bl:=aaa bl b1;have O1:=qz o1;have O2:=qz o2;obtain⟨p1,c1,rfl⟩:=aaD o1;obtain⟨p2,c2,rfl⟩:=aaD o2;clear b1 o1 o2;have lb:=abj w1 (.cells #[.slice p2 ts.length c2] 45) (.cells #[.nilFunc] 160);have c9:=aah lb;have f9:=free_of_one lb
 have hst:(store ⟨w1.heap.size+1,0,none⟩ (.func (.func 152) #[] #[.pointer (some ⟨w.heap.size,0,none⟩),.pointer (some ⟨w1.heap.size,0,none⟩)])).run prog ((w1.alloc (.cells #[.slice p2 ts.length c2] 45)).alloc (.cells #[.nilFunc] 160)) =
   .ok () (((w1.alloc (.cells #[.slice p2 ts.length c2] 45)).alloc (.cells #[.nilFunc] 160)).setCell ⟨w1.heap.size+1,0,none⟩ (.func (.func 152) #[] #[.pointer (some ⟨w.heap.size,0,none⟩),.pointer (some ⟨w1.heap.size,0,none⟩)])):=by
  rw[run_store _ _ _ _ _ rfl,c9];simp[f9]
 clear lb;go_wp2_with fail;obtain⟨W3,hW3⟩:∃W3,W3=(w1.alloc (.cells #[.slice p2 ts.length c2] 45)).alloc (.cells #[.func (.func 152) #[] #[.pointer (some ⟨w.heap.size,0,none⟩),.pointer (some ⟨w1.heap.size,0,none⟩)]] 160):=⟨_,rfl⟩;have b3:Zb w1 W3:=by rw[hW3];exact aaM _ _ _
 have ct:W3.cell? ⟨w1.heap.size,0,none⟩=some (.slice p2 ts.length c2):=by rw[hW3];exact aah (ab4 _ _ _)
 have hr3:=qz (aac hr.out b3);have bl3:=qz (aaa bl b3);have O1':=aal O1.out b3;rw[HN.out]at O1';have HLe':=HLe.out W3 _ _ _ _ w.heap.size w1.heap.size bl3.out hr3.out ct (aal O2.out b3) O1';rw[<-HN.out]at HLe';rw[<-hW3];clear hW3 b3 ct O1' O1 O2 c9 f9 hst hr bl;refine HLe'.mono ?_;rintro e w4 ⟨v4,rfl,o4,b4⟩;have hr4:=qz (aac hr3.out b4);have bl4:=qz (aaa bl3.out b4);have HB4:=HBr.out _ _ _ o4;clear hr3 bl3 b4 o4 HLe';go_wp2_with fail;refine HB4.mono ?_;rintro e w5 ⟨rfl,rfl⟩;clear HB4;have hlt:Hid ((left.take n).length=n):=by show _=_;rw[List.length_take];omega
 have hs0:Hid (S q=S (wrapO ((left.take n).drop n) q)):=by
  show _=_;rw[List.drop_of_length_le (by rw[hlt.out];exact nl _)];rfl
 go_wp2_with fail
 go_loopg [8,9] n (fun m s8 s9 wr=>(∃X:ByteArray,m<=n/\s8=.string X/\s9=.int .i64 ((m:Int) - 1)/\Hid (X=S (wrapO ((left.take n).drop m) q)))/\Hid (wr.heap[w.heap.size]?=some (.cells D 127 (0,0)))/\Hid (Zb w wr))
 case atStart=>exact⟨⟨S q,nl _,rfl,by congr 1,hs0⟩,hr4,bl4⟩
 case round=>
  obtain⟨⟨X,hm,rfl,rfl,hX⟩,hr5,bl5⟩:=hrel
  cases gk with
  | zero=>
   have e0:Hid (X=S (wrapO (left.take n) q)):=hX.out;rw[show (((0:Nat):Int) - 1)=-1 from rfl];go_wp2_with fail;go_ret;exact⟨by rw[<-e0.out];rfl,bl5.out⟩
  | succ i=>
   have hi:i<left.length:=by omega
   rcases HLf.out with⟨_,hnil⟩|⟨off,c,hv,hc1,hc2,hcells⟩
   ·rw[hnil]at hi;simp at hi
   have hc9:=hcells i hi;obtain⟨y,hy⟩:∃y,y=left[i]:=⟨_,rfl⟩;rw[<-hy]at hc9;have cv:wr.cell? ⟨w.heap.size,256,none⟩=some (.slice (some ⟨gL,off,none⟩) left.length c):=by rw[cell_of_row wr _ 256 D _ _ hr5.out,<-hv];exact HD.out.lf
   have cy:wr.cell? ⟨gL,off+i,none⟩=some (.int .u8 (y.toNat:Int)):=(bl5.out.cell (p:=⟨gL,off+i,none⟩) hgL).trans hc9;have HH:=qz fun w1=>HHd.out y w1;have hil:(i:Int)<(left.length:Int):=by omega
   have hnew:Hid (B [35,y,46]++X=S (wrapO ((left.take n).drop i) q)):=by
    show _=_;have hi2:i<(left.take n).length:=by rw[hlt.out];omega
    rw[hX.out,List.drop_eq_getElem_cons hi2,List.getElem_take,<-hy];exact BS [35,y,46] _ (.own y (wrapO ((left.take n).drop (i+1)) q)) rfl
   have hsz:X.size<=1000:=by
    rw[hX.out,aan,aeL,List.length_drop,hlt.out];omega
   obtain⟨P,hP⟩:∃P,P=B [35,y,46]:=⟨_,rfl⟩;have hPs:P.size<=3:=by rw[hP,aaR];simp
   obtain⟨ny,hny⟩:∃ny:Int,ny=(y.toNat:Int):=⟨_,rfl⟩;rw[<-hP]at HH hnew;rw[<-hny]at HH cy;rw[show (((i+1:Nat):Int) - 1)=(i:Int) by omega];clear hy hcells hc9 hv hP hny hX;go_wp2_with fail;refine(HH.out _).mono ?_;rintro e w6 ⟨rfl,b6⟩;have hr6:=qz (aac hr5.out b6);have bl6:=qz (aaa bl5.out b6);clear b6 cv cy hr5 bl5;go_wp2_with fail
   go_roundg i
   case rel=>exact⟨⟨_,by omega,rfl,by congr 1,hnew⟩,hr6,bl6⟩
   case measure=>omega
theorem aoY:∀n,LvH n:=by
 intro n
 induction n with
 | zero=>intro s D L vL gL left w h;have:=aaq s;omega
 | succ n ih=>
  intro s D L vL gL left w hn hD hLf hgL hfl hpl hs2 hb hll;obtain⟨f1,f2,f3⟩:=adk hfl;have h2:=atM s;have hG:=hb.sublist (anW s);have hne:(visG ltU 200 (lvl s).1).map (candI n L left s)≠[]:=fun e=>acV ltU 199 _ (List.map_eq_nil_iff.1 e)
  have hbest:(bestL ((visG ltU 200 (lvl s).1).map (candI n L left s))).length=(lvl s).2.length/\∀t∈bestL ((visG ltU 200 (lvl s).1).map (candI n L left s)),t.pr.length<=s.pr.length:=by
   obtain⟨o,_,e⟩:=List.mem_map.1 (ab6 _ hne);rw[<-e];exact afj n L left s o
  have hql:(joinR .par (bestL ((visG ltU 200 (lvl s).1).map (candI n L left s)))).pr.length<=900:=by
   have h3:=abC (n+1) L left s;rw[abI,aeL]at h3;omega
  rw[abI];refine atO _ _ D L vL gL left (lvl s).1 (lvl s).2 (bestL ((visG ltU 200 (lvl s).1).map (candI n L left s))) (lvl s).2.length _ w hD hLf hgL hql f2 f1 hll (ab8 s (by omega)) ?_ ?_ aoX
  ·intro w1 v vT base base2 gd gt b1 hgd hct hoT hov;refine aoN (lvl s).1 hG f1 (candI n L left s) (lvl s).2.length (fun o _=>(afj n L left s o).1) (by omega) _ _ atj v base2 w1 hov ?_;intro o ho po go co w' b' hord;obtain⟨hol,_⟩:=anZ (lvl s).1 hG f1 ho;have b2:=aaa b1 b';have e1:candI n L left s o=srtT ((lvl s).2.map (thI (levI n) (updL L o left) (left.drop o.length))):=by unfold candI;rw[hol]
   rw[e1];refine aqK D L vL gL left o hD (by omega) (by omega) po go co gd gt vT (lvl s).2 ((lvl s).2.map (thI (levI n) (updL L o left) (left.drop o.length))) (lvl s).2.length base rfl (by simp) (by omega) w' (hLf.below b2) (Nat.lt_of_lt_of_le hgL b2.size) hord (aac hgd b') ((b'.cell (p:=⟨gt,0,none⟩) (aa1 hct)).trans hct) (aal hoT b') ?_;intro D' vL' w2 hd' hl' hg' i h3 h4;rw[List.getElem_map];have hm:(lvl s).2[i]∈(lvl s).2:=List.getElem_mem h3;exact aq3 n ih _ D' _ vL' gL _ w2 (by have:=aa8 s _ hm;omega) (abb s _ hm) hd' hl' hg' (by rw[List.length_drop,hol];exact f3 _ hm) (by have:=aoc s _ hm;omega) (by have:=aa8 s _ hm;omega) (hb.sublist (ajW s _ hm)) (by rw[List.length_drop];omega)
  ·intro w1 v base ho
   by_cases hk:(lvl s).2.length=0
   ·have hb0:bestL ((visG ltU 200 (lvl s).1).map (candI n L left s))=[]:=List.length_eq_zero_iff.1 (by rw[hbest.1,hk]);rw[hb0,hk]at ho;rw[hb0];exact avM _ v base w1 ho
   ·have hbn:bestL ((visG ltU 200 (lvl s).1).map (candI n L left s))≠[]:=fun e=>hk (by rw[<-hbest.1,e];rfl);rw[<-afx _ hbn];exact avL ⟨#[38]⟩ (by decide) _ v _ base w1 ho hbest.1.symm (by omega) (by omega) (fun t ht=>by have:=hbest.2 t ht;omega)
theorem atP (t:Tm):t.sim.pr.length<=t.pr.length:=by
 induction t with
 | nil=>exact nl _
 | snd a b p ih=>simp only[Tm.sim,Tm.pr,lla,List.length_cons];omega
 | rcv a b p ih=>simp only[Tm.sim,Tm.pr,lla,List.length_cons];omega
 | tau p ih=>simp only[Tm.sim,Tm.pr,lla,List.length_cons];omega
 | sum p q ih ih2=>
  unfold Tm.sim
  split
  ·simp only[Tm.pr,lla,List.length_cons];omega
  ·split<;>simp only[Tm.pr,lla,List.length_cons]<;>omega
 | par p q ih ih2=>
  unfold Tm.sim
  split
  ·simp only[Tm.pr,lla,List.length_cons];omega
  ·split<;>simp only[Tm.pr,lla,List.length_cons]<;>omega
 | own x p ih=>unfold Tm.sim;split<;>simp only[Tm.pr,lla,List.length_cons]<;>omega
 | mat a b p ih=>unfold Tm.sim;split<;>simp only[Tm.pr,lla,List.length_cons]<;>omega
 | rep p ih=>unfold Tm.sim;split<;>simp only[Tm.pr,lla,List.length_cons]<;>omega
theorem aq4 (t:Tm):(numb t).pr.length<=t.pr.length:=by unfold numb;rw[(asy _ _ _).1];exact atP t
theorem aq5 (t:Tm):t.subs.countP (fun u=>(one u.kind).toList==(⟨#[35]⟩:ByteArray).toList)=ownc t:=by
 have hk:∀u:Tm,((one u.kind).toList==(⟨#[35]⟩:ByteArray).toList)=(match u with|.own _ _=>true|_=>false):=by
  intro u;rw[Lib.toList_data,Lib.toList_data]
  cases u<;>rfl
 simp only[hk]
 induction t with
 | nil=>rfl
 | _=>simp_all [Tm.subs,ownc,List.countP_cons,List.countP_append,Nat.add_comm]
theorem adW (w:World):Calls prog 116 #[] w fun e w'=>∃C,e=.returned (.agg C)/\ScOf C id/\w.heap.size<w'.heap.size/\Zb w w':=by
 go_enter func116,ntmps116
 go_wp2_with fail;obtain⟨Z,hZ⟩:∃Z:Array Value,Z=Tryz.zeroCells124:=⟨_,rfl⟩;rw[<-hZ];have hZs:Hid (Z.size=256):=by rw[hZ];exact avw
 obtain⟨W,hW⟩:∃W,W=(w.alloc (.cells Z 124)).alloc (.cells Z 124):=⟨_,rfl⟩;rw[<-hW];have r0:Hid (W.heap[w.heap.size]?=some (.cells Z 124 (0,0))):=by rw[hW];exact ab4 _ _ _
 have r1:Hid (W.heap[w.heap.size+1]?=some (.cells Z 124 (0,0))):=by rw[hW];exact abj _ _ _
 have bl:Zb w W:=by rw[hW];exact aaM _ _ _
 clear hW hZ
 go_loopw [3] (fun i wr=>∃(k:Nat) (C:Array Value),k<=256/\i=.int .i64 (k:Int)/\Hid (C.size=256)/\Hid (∀j,j<k->C[j]?=some (.int .u8 ((j:Nat):Int)))/\Hid (wr.heap[w.heap.size]?=some (.cells Z 124 (0,0)))/\Hid (wr.heap[w.heap.size+1]?=some (.cells C 124 (0,0)))/\Zb w wr) (fun i _=>256 - (intOf i).toNat)
 case atStart=>exact⟨0,Z,Nat.zero_le _,rfl,hZs,fun j h=>by omega,r0,r1,bl⟩
 case round=>
  obtain⟨k,C,hk,rfl,hC,hCj,h0,h1,hbw⟩:=hrel
  by_cases hlt:k<256
  ·obtain⟨y,hy⟩:∃y,C[k]?=some y:=⟨_,Array.getElem?_eq_getElem (by have:=hC.out;omega)⟩;have c1:wr.cell? ⟨w.heap.size+1,k,none⟩=some y:=by rw[cell_of_row wr _ k C _ _ h1.out];exact hy
   have f1:=frozen_of_row wr (w.heap.size+1) k C _ h1.out;have hw8:IntKind.u8.wrap ((k:Int))=(k:Int):=by rw[IntKind.wrap_u8]<;>omega
   have H1:=qz (heap_setCell_same wr (w.heap.size+1) k C 124 (.int .u8 ((k:Int))) h1.out);have H0:Hid ((wr.setCell ⟨w.heap.size+1,k,none⟩ (.int .u8 ((k:Int)))).heap[w.heap.size]?=some (.cells Z 124 (0,0))):=ac0 h0.out (by omega);have HS:Hid ((C.setIfInBounds k (.int .u8 ((k:Int)))).size=256):=by show _=_;rw[Array.size_setIfInBounds];exact hC.out
   have HJ:Hid (∀j,j<k+1->(C.setIfInBounds k (.int .u8 ((k:Int))))[j]?=some (.int .u8 ((j:Nat):Int))):=fun j hj=>by
    by_cases e:k=j
    ·subst e;rw[Array.getElem?_setIfInBounds_self_of_lt (by have:=hC.out;omega)]
    ·rw[Array.getElem?_setIfInBounds_ne e];exact hCj.out j (by omega)
   clear hy;go_wp2_with fail
   go_roundw
   case rel=>exact⟨k+1,_,by omega,by go_num,HS,HJ,H0,H1,hbw.setCell (p:=⟨w.heap.size+1,k,none⟩) (by show w.heap.size<=w.heap.size+1;omega) _⟩
   case measure=>simp[intOf];omega
  ·obtain rfl:k=256:=by omega
   have HSc:Hid (ScOf C id):=⟨hC.out,fun j hj=>by rw[hCj.out j hj];show _=some (Value.int .u8 (((UInt8.ofNat (j)).toNat:Nat):Int));rw[UInt8.toNat_ofNat',Nat.mod_eq_of_lt (by omega)]⟩;have hi:Hid ((prog.info? 124).map (·.size)=some C.size):=by show _=_;rw[Tryz.infoSc,hC.out]
   have hone:Hid (C.all (·.oneCell')=true):=by
    refine Array.all_eq_true.2 fun i hi=>?_;have hi':i<256:=by have:=hC.out;omega
    have h1:=hCj.out i hi';rw[Array.getElem?_eq_getElem hi]at h1;simp only[Option.some.injEq]at h1;rw[h1];rfl
   have hold:Hid (Z.size=C.size):=by show _=_;rw[hZs.out,hC.out]
   clear hC hCj
   go_wp2_with (first|refine wpList_load_row rfl 124 (.tmp 1) rfl (w.heap.size+1) rfl 124 C (0,0) _ h1.out underlying124 rfl hi.out ?_|refine wpList_store_row rfl 124 (.tmp 0) (.tmp 11) rfl w.heap.size C rfl rfl 124 Z h0.out hi.out hold.out hone.out ?_)
   exact bodyPost_ret (v:=.agg C) (results_cell_row (t:=124) (fr:=(0,0)) rfl _ _ w.heap.size _ _ rfl (setRow_heap wr w.heap.size Z C 124 _ h0.out) underlying124 rfl hi.out) rfl ⟨C,rfl,HSc.out,by have:=lt_of_block h1.out;simp;omega,abl hbw (nl _) hbw.size⟩
theorem aq6 (l:List Value):∀(k:Nat) (Z:Array Value),((l.zipIdx k).foldl (fun cs (p:Value × Nat)=>cs.setIfInBounds (0+p.2) p.1) Z).size=Z.size/\ ∀j,j<Z.size->((l.zipIdx k).foldl (fun cs (p:Value × Nat)=>cs.setIfInBounds (0+p.2) p.1) Z)[j]?=if k<=j/\j<k+l.length then l[j - k]? else Z[j]?:=by
 induction l with
 | nil=>intro k Z;exact⟨rfl,fun j hj=>by rw[if_neg (by simp)];rfl⟩
 | cons a l ih=>
  intro k Z;simp only[List.zipIdx_cons,List.foldl_cons,Nat.zero_add]at ih ⊢;obtain⟨h1,h2⟩:=ih (k+1) (Z.setIfInBounds k a);rw[Array.size_setIfInBounds]at h1 h2;refine⟨h1,fun j hj=>?_⟩;rw[h2 j hj]
  by_cases c1:k+1<=j/\j<k+1+l.length
  ·rw[if_pos c1,if_pos ⟨by omega,by simp;omega⟩];obtain⟨m,rfl⟩:∃m,j=k+1+m:=⟨j - (k+1),by omega⟩;rw[show k+1+m - k=m+1 by omega,show k+1+m - (k+1)=m by omega,List.getElem?_cons_succ]
  ·rw[if_neg c1]
   by_cases c2:k=j
   ·subst c2;rw[Array.getElem?_setIfInBounds_self_of_lt hj,if_pos ⟨nl _,by simp⟩];simp
   ·rw[Array.getElem?_setIfInBounds_ne c2,if_neg (by simp;omega)]
theorem aq7 (parts:List (Nat × Value)):prog.built 127 parts=Instr.fill (#[(0,256),(256,1)][·]?) Tryz.zeroCells127 parts:=by kernel_rfl
theorem alR (C:Array Value)(v:Value)(hC:C.size=256)(hv:v.cells=#[v])(h1:v.oneCell'=true)(sc:UInt8->UInt8)(hs:ScOf C sc) : ∃D,prog.built 127 [(0,.agg C),(1,v)]=some D/\DrOf D sc v:=by
 have hz:(Tryz.zeroCells127).size=257:=avA;have hc:(Value.agg C).cells=C:=rfl;obtain⟨f1,f2⟩:=aq6 C.toList 0 Tryz.zeroCells127;rw[hz]at f1 f2;refine⟨((C.toList.zipIdx 0).foldl (fun cs (p:Value × Nat)=>cs.setIfInBounds (0+p.2) p.1) Tryz.zeroCells127).setIfInBounds 256 v,?_,?_,fun j hj=>?_,?_,h1⟩
 ·rw[aq7];simp only[Instr.fill,hc,hv,hC,hz];rw[show (#[(0,256),(256,1)]:Array (Nat × Nat))[0]?=some (0,256) from rfl,show (#[(0,256),(256,1)]:Array (Nat × Nat))[1]?=some (256,1) from rfl]
  dsimp only
  have eF:∀Z:Array Value,Array.foldl (fun cs (x:Value × Nat)=>cs.setIfInBounds (0+x.snd) x.fst) Z C.zipIdx=List.foldl (fun cs (x:Value × Nat)=>cs.setIfInBounds (0+x.snd) x.fst) Z C.toList.zipIdx:=fun Z=>by
   rw[<-Array.foldl_toList,Array.toList_zipIdx]
  rw[eF,f1,if_neg (by decide),if_neg (by simp)];rfl
 ·rw[Array.size_setIfInBounds];exact f1
 ·rw[Array.getElem?_setIfInBounds_ne (by omega),f2 j (by omega),if_pos ⟨Nat.zero_le _,by simp;omega⟩,Nat.sub_zero,Array.getElem?_toList];exact hs.2 j hj
 ·rw[Array.getElem?_setIfInBounds_self_of_lt (by rw[f1];omega)]
theorem aiF {P:Program}{ops:Array Oper}{rest:List Oper}{o:Oper}{a:Act}{w:World}{Q:Exit->Act->World->Prop}(hgd:o.guard=none)(t:TypeId)(parts:Array (Nat × Operand))(ho:o.op=.build t parts)(cells:Array Value)
  (hc:P.built t (parts.map fun (i,x)=>(i,a.eval x)).toList=some cells)(h:wpList P ops Q rest (a.put o.dst (.agg cells)) w):wpList P ops Q (o::rest) a w:=
 wpList_plain hgd fun _ hK=>wp_build t parts ho (by rw[hc];rfl) (by rw[hc];exact hK _ _ h)
theorem ahy {P:Program}{ops:Array Oper}{rest:List Oper}{o:Oper}{a:Act}{w:World}{Q:Exit->Act->World->Prop}(hgd:o.guard=none)(t:TypeId)(x y:Operand)(ho:o.op=.build t #[(0,x),(1,y)])(u v:Value)(hx:a.eval x=u)(hy:a.eval y=v)(cells:Array Value)
  (hc:P.built t [(0,u),(1,v)]=some cells)(h:wpList P ops Q rest (a.put o.dst (.agg cells)) w):wpList P ops Q (o::rest) a w:=
 aiF hgd t #[(0,x),(1,y)] ho cells (by rw[<-hc,<-hx,<-hy];simp) h
theorem atQ (T T1:TypeId)(V V1:Value)(sz:Nat)(hsz:60<sz)(w:World) (hSim:Zr 111 #[.iface T V] (.iface T1 V1)) (hSz:Zr 84 #[.iface T1 V1] (.int .i64 (sz:Nat))) : Calls prog 85 #[.iface T V] w fun e w'=>e=.returned (.tuple #[.nilIface,.bool false])/\Zb w w':=by
 have H1:=qz hSim;have H0:=qz hSz;have hsz':(60:Int)<(sz:Int):=by omega
 clear hSim hSz
 go_enter func85,ntmps85
 go_wp2_with fail;with_reducible refine(H1.out _).mono ?_
 rintro e w1 ⟨rfl,b1⟩;go_wp2_with fail;with_reducible refine(H0.out _).mono ?_
 rintro e w0 ⟨rfl,b0⟩;replace b1:=aaa b1 b0;clear b0;go_wp2_with fail;go_ret2;exact⟨rfl,b1⟩
theorem atR (T T1 T2:TypeId)(V V1 V2:Value)(Fi:Int)(ls:List UInt8)(hls:ls.length<=30)(cnt sz:Nat)(hsz:¬60<sz)(hc:8<cnt)(w:World) (hSim:Zr 111 #[.iface T V] (.iface T1 V1)) (hSz:Zr 84 #[.iface T1 V1] (.int .i64 (sz:Nat))) (hFr:Zr 92 #[.iface T1 V1] (.int .u32 Fi)) (hOt:∀w,Calls prog 112 #[.int .u32 Fi] w fun e w'=>∃v,e=.returned v/\w'.ownsRow w.heap.size 5 1 v ls.length (ls.map ub)/\Zb w w') (hNu:Zr 113 #[.iface T1 V1] (.iface T2 V2)) (hCk:Zr 114 #[.iface T2 V2,.string ⟨#[35]⟩] (.int .i64 (cnt:Nat))) : Calls prog 85 #[.iface T V] w fun e w'=>e=.returned (.tuple #[.nilIface,.bool false])/\Zb w w':=by
 have H1:=qz hSim;have H0:=qz hSz;have hsz':¬(60:Int)<(sz:Int):=by omega
 have H2:=qz hFr;have H3:=qz hOt;have H4:=qz hNu;have H5:=qz hCk;have hc':(8:Int)<(cnt:Int):=by omega
 clear hSim hSz hFr hOt hNu hCk
 go_enter func85,ntmps85
 go_wp2_with fail;with_reducible refine(H1.out _).mono ?_
 rintro e w1 ⟨rfl,b1⟩;go_wp2_with fail;with_reducible refine(H0.out _).mono ?_
 rintro e w0 ⟨rfl,b0⟩;replace b1:=aaa b1 b0;clear b0;go_wp2_with fail;with_reducible refine(H2.out _).mono ?_
 rintro e w2 ⟨rfl,b2⟩;replace b1:=aaa b1 b2;clear b2;go_wp2_with fail;with_reducible refine(H3.out _).mono ?_
 rintro e w3 ⟨v,rfl,ho,b3⟩;have hg3:w.heap.size<=w2.heap.size:=b1.size;replace b1:=aaa b1 b3;obtain⟨p,c,rfl⟩:=aaD ho;have HO:=qz ho;clear b3 ho;go_wp2_with fail;with_reducible refine(H4.out _).mono ?_
 rintro e w4 ⟨rfl,b4⟩;have HO4:=qz (aal HO.out b4);replace b1:=aaa b1 b4;clear b4 HO;go_wp2_with fail;with_reducible refine(H5.out _).mono ?_
 rintro e w5 ⟨rfl,b5⟩;have HO5:=qz (aal HO4.out b5);replace b1:=aaa b1 b5;clear b5 HO4;go_wp2_with fail;go_ret2;exact⟨rfl,b1⟩
theorem atS (T T1 T2:TypeId)(V V1 V2:Value)(Fi:Int)(ls:List UInt8)(hls:ls.length<=30)(cnt sz:Nat)(hsz:¬60<sz)(hc:¬8<cnt)(w:World) (hSim:Zr 111 #[.iface T V] (.iface T1 V1)) (hSz:Zr 84 #[.iface T1 V1] (.int .i64 (sz:Nat))) (hFr:Zr 92 #[.iface T1 V1] (.int .u32 Fi)) (hOt:∀w,Calls prog 112 #[.int .u32 Fi] w fun e w'=>∃v,e=.returned v/\w'.ownsRow w.heap.size 5 1 v ls.length (ls.map ub)/\Zb w w') (hNu:Zr 113 #[.iface T1 V1] (.iface T2 V2)) (hCk:Zr 114 #[.iface T2 V2,.string ⟨#[35]⟩] (.int .i64 (cnt:Nat))) (hFi:Zr 115 #[.iface T2 V2,.int .i64 (ls.length:Int)] (.bool false)) : Calls prog 85 #[.iface T V] w fun e w'=>e=.returned (.tuple #[.nilIface,.bool false])/\Zb w w':=by
 have H1:=qz hSim;have H0:=qz hSz;have hsz':¬(60:Int)<(sz:Int):=by omega
 have H2:=qz hFr;have H3:=qz hOt;have H4:=qz hNu;have H5:=qz hCk;have H6:=qz hFi;have hc':¬(8:Int)<(cnt:Int):=by omega
 clear hSim hSz hFr hOt hNu hCk hFi
 go_enter func85,ntmps85
 go_wp2_with fail;with_reducible refine(H1.out _).mono ?_
 rintro e w1 ⟨rfl,b1⟩;go_wp2_with fail;with_reducible refine(H0.out _).mono ?_
 rintro e w0 ⟨rfl,b0⟩;replace b1:=aaa b1 b0;clear b0;go_wp2_with fail;with_reducible refine(H2.out _).mono ?_
 rintro e w2 ⟨rfl,b2⟩;replace b1:=aaa b1 b2;clear b2;go_wp2_with fail;with_reducible refine(H3.out _).mono ?_
 rintro e w3 ⟨v,rfl,ho,b3⟩;have hg3:w.heap.size<=w2.heap.size:=b1.size;replace b1:=aaa b1 b3;obtain⟨p,c,rfl⟩:=aaD ho;have HO:=qz ho;clear b3 ho;go_wp2_with fail;with_reducible refine(H4.out _).mono ?_
 rintro e w4 ⟨rfl,b4⟩;have HO4:=qz (aal HO.out b4);replace b1:=aaa b1 b4;clear b4 HO;go_wp2_with fail;with_reducible refine(H5.out _).mono ?_
 rintro e w5 ⟨rfl,b5⟩;have HO5:=qz (aal HO4.out b5);replace b1:=aaa b1 b5;clear b5 HO4;go_wp2_with fail;with_reducible refine(H6.out _).mono ?_
 rintro e w6 ⟨rfl,b6⟩;replace b1:=aaa b1 b6;go_wp2_with fail;go_ret2;exact⟨rfl,b1⟩
theorem aoZ (T T1 T2:TypeId)(V V1 V2:Value)(Fi:Int)(ls:List UInt8)(hls:ls.length<=30)(cnt sz:Nat)(hsz:¬60<sz)(hc:¬8<cnt)(X:ByteArray)(PV:Value)(PB:Bool)(w:World) (hSim:Zr 111 #[.iface T V] (.iface T1 V1)) (hSz:Zr 84 #[.iface T1 V1] (.int .i64 (sz:Nat))) (hFr:Zr 92 #[.iface T1 V1] (.int .u32 Fi)) (hOt:∀w,Calls prog 112 #[.int .u32 Fi] w fun e w'=>∃v,e=.returned v/\w'.ownsRow w.heap.size 5 1 v ls.length (ls.map ub)/\Zb w w') (hNu:Zr 113 #[.iface T1 V1] (.iface T2 V2)) (hCk:Zr 114 #[.iface T2 V2,.string ⟨#[35]⟩] (.int .i64 (cnt:Nat))) (hFi:Zr 115 #[.iface T2 V2,.int .i64 (ls.length:Int)] (.bool true)) (hSc:∀w,Calls prog 116 #[] w fun e w'=>∃C,e=.returned (.agg C)/\ScOf C id/\w.heap.size<w'.heap.size/\Zb w w') (hLe:∀D v g w,DrOf D id v->LfS w g v ls->g<w.heap.size->Calls prog 117 #[.agg D,.iface T2 V2] w (aeQ X w)) (hPa:Zr 50 #[.string X] (.tuple #[PV,.bool PB])) : Calls prog 85 #[.iface T V] w fun e w'=>e=.returned (.tuple #[PV,.bool PB])/\Zb w w':=by
 have H1:=qz hSim;have H0:=qz hSz;have hsz':¬(60:Int)<(sz:Int):=by omega
 have H2:=qz hFr;have H3:=qz hOt;have H4:=qz hNu;have H5:=qz hCk;have H6:=qz hFi;have H7:=qz hSc;have H8:=qz hLe;have H9:=qz hPa;have hc':¬(8:Int)<(cnt:Int):=by omega
 clear hSim hSz hFr hOt hNu hCk hFi hSc hLe hPa
 go_enter func85,ntmps85
 go_wp2_with fail;with_reducible refine(H1.out _).mono ?_
 rintro e w1 ⟨rfl,b1⟩;go_wp2_with fail;with_reducible refine(H0.out _).mono ?_
 rintro e w0 ⟨rfl,b0⟩;replace b1:=aaa b1 b0;clear b0;go_wp2_with fail;with_reducible refine(H2.out _).mono ?_
 rintro e w2 ⟨rfl,b2⟩;replace b1:=aaa b1 b2;clear b2;go_wp2_with fail;with_reducible refine(H3.out _).mono ?_
 rintro e w3 ⟨v,rfl,ho,b3⟩;have hg3:w.heap.size<=w2.heap.size:=b1.size;replace b1:=aaa b1 b3;obtain⟨p,c,rfl⟩:=aaD ho;have HO:=qz ho;clear b3 ho;go_wp2_with fail;with_reducible refine(H4.out _).mono ?_
 rintro e w4 ⟨rfl,b4⟩;have HO4:=qz (aal HO.out b4);replace b1:=aaa b1 b4;clear b4 HO;go_wp2_with fail;with_reducible refine(H5.out _).mono ?_
 rintro e w5 ⟨rfl,b5⟩;have HO5:=qz (aal HO4.out b5);replace b1:=aaa b1 b5;clear b5 HO4;go_wp2_with fail;with_reducible refine(H6.out _).mono ?_
 rintro e w6 ⟨rfl,b6⟩;have HO6:=qz (aal HO5.out b6);replace b1:=aaa b1 b6;clear b6 HO5;go_wp2_with fail;with_reducible refine(H7.out _).mono ?_
 rintro e w7 ⟨C,rfl,hsc,hgt,b7⟩;have HO7:=aal HO6.out b7;have bl:=qz (aaa b1 b7);obtain⟨D,hbt,hdr⟩:=alR C (.slice p ls.length c) hsc.1 rfl rfl id hsc
 have hlf:∃g,g<w7.heap.size/\LfS w7 g (.slice p ls.length c) ls:=by
  rcases HO7.2 with⟨e,e2⟩|⟨g,c',cur,e,hb1,hb3,hb4,hb5,_⟩
  ·exact⟨w6.heap.size,hgt,.inl ⟨e,List.length_eq_zero_iff.1 e2⟩⟩
  ·cases e
   refine⟨g,lt_of_block hb3,.inr ⟨0,c,rfl,hb4,hb5,fun j hj=>?_⟩⟩;have:=ab7 HO7 j (ub ls[j]) (by rw[List.getElem?_map,List.getElem?_eq_getElem hj];rfl);rw[aof]at this
   rw[Nat.zero_add];exact this
 obtain⟨g,hg,hlf⟩:=hlf;have HL:=qz (H8.out D _ g w7 hdr hlf hg);clear hsc hgt b1 b7 HO7 hg hlf HO6 hdr
 go_wp2_with (refine ahy rfl 127 (.tmp 25) (.tmp 26) rfl (.agg C) (.slice p ls.length c) rfl rfl D hbt ?_)
 with_reducible refine(HL.out).mono ?_
 rintro e w8 ⟨rfl,b8⟩;have bl8:=aaa bl.out b8;go_wp2_with fail;with_reducible refine(H9.out _).mono ?_
 rintro e w9 ⟨rfl,b9⟩;have bl9:=aaa bl8 b9;go_wp2_with fail;go_ret2;exact⟨rfl,bl9⟩
def wz (l:List Tm):Nat:=(l.map fun t=>t.size+1).sum
theorem ar0 (l m:List Tm):wz (l++m)=wz l+wz m:=by simp[wz]
theorem atT {l m:List Tm}(h:l.Perm m):wz l=wz m:=by unfold wz;exact(h.map _).sum_nat
theorem ar1 (l:List Tm):wz (srtT l)=wz l:=atT (List.mergeSort_perm _ _)
theorem ar2 {f:Tm->Tm}:∀l:List Tm,(∀t∈l,t.size<=(f t).size)->wz l<=wz (l.map f):=by
 intro l;induction l with
 | nil=>intro _;simp[wz]
 | cons a l ih=>
  intro h;have h1:=h a (by simp);have h2:=ih fun b hb=>h b (by simp[hb]);simp only[wz,List.map_cons,List.sum_cons]at h2 ⊢;omega
theorem aq8:∀l:List Tm,wz l<=(joinR .par l).size+1:=by
 intro l;induction l with
 | nil=>simp[wz]
 | cons a l ih=>
  cases l with
  | nil=>simp[wz,joinR]
  | cons b l=>simp only[joinR,Tm.size,wz,List.map_cons,List.sum_cons]at ih ⊢;omega
theorem aq9:∀l:List Tm,wz l<=(joinR .sum l).size+1:=by
 intro l;induction l with
 | nil=>simp[wz]
 | cons a l ih=>
  cases l with
  | nil=>simp[wz,joinR]
  | cons b l=>simp only[joinR,Tm.size,wz,List.map_cons,List.sum_cons]at ih ⊢;omega
theorem atU (t:Tm):∀ls:List UInt8,(wrapO ls t).size=ls.length+t.size:=by
 intro ls;induction ls with
 | nil=>simp[wrapO]
 | cons a ls ih=>
  have e:wrapO (a::ls) t=.own a (wrapO ls t):=rfl;rw[e,Tm.size,ih,List.length_cons];omega
theorem atV (s:Tm):s.size+1=wz (smds s):=by
 induction s with
 | sum p q ih ih2=>simp only[smds,ar0,Tm.size];omega
 | _=>simp[smds,wz]
theorem av3 (s:Tm)(h:Neat s)(hs:s≠.nil):s.size+1<=(lvl s).1.length+wz (lvl s).2:=by
 induction s with
 | nil=>exact absurd rfl hs
 | own x p ih=>have:=ih h.2 h.1;simp only[lvl,List.length_cons,Tm.size];omega
 | par p q ih ih2=>
  have h1:=ih h.2.1 h.1.1;have h2:=ih2 h.2.2 h.1.2;simp only[lvl,lla,ar0,Tm.size];omega
 | _=>simp[lvl,wz]
theorem aq_ (n:Nat):∀(once:Bool) (L:UInt8->UInt8) (left:List UInt8) (s:Tm),s.size<=n->Neat s->fl s left.length=true->s.size<=(mid n once L left s).size:=by
 induction n with
 | zero=>intro once L left s h;have:=aaq s;omega
 | succ n ih=>
  intro once L left s hn hc hf;obtain⟨f1,f2,f3⟩:=adk hf;unfold mid
  by_cases hU:(lvl s).2=[]
  ·have:s=.nil:=by
    cases s with
    | nil=>rfl
    | _=>exact absurd hU (acU _ (ada _ hc) (by simp))
   subst this;simp[lvl,Tm.size]
  ·have hU':(lvl s).2.isEmpty=false:=by simpa using hU
   have hsn:s≠.nil:=fun e=>by subst e;simp[lvl]at hU
   have hlv:=av3 s hc hsn;rw[hU'];simp only[Bool.false_eq_true,if_false];rw[atU,List.length_take,Nat.min_eq_left f2]
   have hm:=acr ((if once then (ords (lvl s).1.length).take 1 else ords (lvl s).1.length).map fun o=>
    joinR .par (srtT ((lvl s).2.map (thI (mid n once) (updL L (o.map fun i=>(lvl s).1.getD i 0) left) (left.drop (lvl s).1.length))))) (by simpa using ag6 f1)
   obtain⟨o,ho,e⟩:=List.mem_map.1 hm;rw[<-e];have hj:=aq8 (srtT ((lvl s).2.map (thI (mid n once) (updL L (o.map fun i=>(lvl s).1.getD i 0) left) (left.drop (lvl s).1.length))));rw[ar1]at hj
   have hmap:=ar2 (f:=thI (mid n once) (updL L (o.map fun i=>(lvl s).1.getD i 0) left) (left.drop (lvl s).1.length)) (lvl s).2 fun T hT=>by
    have hk:=abb s T hT;have hsz:=aa8 s T hT;have hcl:=aho s hc T hT;have htf:=f3 T hT;have hlen:(left.drop (lvl s).1.length).length=left.length - (lvl s).1.length:=List.length_drop;rw[<-hlen]at htf
    generalize left.drop (lvl s).1.length=lf at *
    generalize updL L (o.map fun i=>(lvl s).1.getD i 0) left=L'
    cases T with
    | nil=>exact absurd rfl hk.2.2
    | par p q=>exact absurd rfl (hk.1 p q)
    | own x p=>exact absurd rfl (hk.2.1 x p)
    | snd a b p=>simp only[Tm.size]at hsz;simp only[thI,Tm.size];have:=ih once L' lf p (by omega) hcl htf;omega
    | tau p=>simp only[Tm.size]at hsz;simp only[thI,Tm.size];have:=ih once L' lf p (by omega) hcl htf;omega
    | rep p=>simp only[Tm.size]at hsz;simp only[thI,Tm.size];have:=ih once L' lf p (by omega) hcl htf;omega
    | mat a b p=>simp only[Tm.size]at hsz;have:=ih once L' lf p (by omega) hcl htf;simp only[thI];split<;>simp only[Tm.size]<;>omega
    | rcv a x p=>
     simp only[Tm.size]at hsz
     cases lf with
     | nil=>simp[tf]at htf
     | cons c lf=>
      simp only[thI,Tm.size,List.headD_cons,List.tail_cons]
      have:=ih once (upd L' x c) lf p (by omega) hcl (by
       simp only[tf,List.length_cons,bae]at htf
       simpa [fl] using htf)
      omega
    | sum p q=>
     have hsm:=(adq (.sum p q) lf.length).1 (by rw[ags];exact htf);have e1:thI (mid n once) L' lf (.sum p q)=joinR .sum (srtT ((smds (.sum p q)).map (mid n once L' lf))):=rfl;rw[e1];have h1:=aq9 (srtT ((smds (.sum p q)).map (mid n once L' lf)));rw[ar1]at h1;have h2:=atV (.sum p q)
     have h3:=ar2 (f:=mid n once L' lf) (smds (.sum p q)) fun r hr=>by
      have hrs:r.size<(Tm.sum p q).size:=by
       simp only[smds,lma]at hr;simp only[Tm.size];rcases hr with hr|hr
       ·have:=aaG p r hr;omega
       ·have:=aaG q r hr;omega
      exact ih once L' lf r (by omega) (ain _ hcl r hr) (hsm r hr)
     omega
   omega
theorem ar3 (l:List UInt8):(othL l).length<=26:=by
 unfold othL;have:=List.length_filter_le (fun c=>decide (c∉l)) ((List.range 26).map fun i=>UInt8.ofNat (97+i));simpa using this
theorem av4 (t:Tm):t.bnd.length+1<=t.size:=by
 induction t with
 | nil=>simp[Tm.bnd,Tm.size]
 | _=>simp only[Tm.bnd,Tm.size,lla,List.length_cons]<;>omega
theorem ajo (t:Tm)(h:t.ok nmL=true):t.free.length<=26:=by
 have:=acz (srt_free t) agZ (fun z hz=>(ai4 z).2 (lets_free t h z hz));have h2:ap8.length=26:=by unfold ap8;simp
 omega
theorem ar4 (t:Tm)(h:t.ok nmL=true)(hs:t.size<=61):Fit t:=by
 have:=ajo t h;have:=av4 t;have:=anq t;unfold Fit;omega
theorem atW {t:Tm}(ho:t.ok nmL=true)(hs:t.size<=121)(h60:60<t.sim.size):nfI t=none:=by
 have hss:=abB t;have hnum:can t.sim id marksN=numb t:=rfl;have hsz:(numb t).size<=t.size:=by rw[<-hnum,acE];exact hss
 have hsz2:(numb t).size=t.sim.size:=by rw[<-hnum,acE]
 unfold nfI
 split
 ·rfl
 ·rename_i hcf
  have hfl:fl (numb t) (othL t.usd).length=true:=by
   cases h:fl (numb t) (othL t.usd).length
   ·exact absurd (.inr h) hcf
   ·rfl
  rw[if_neg];rintro⟨_,_,h6⟩;have hcl:Neat (numb t):=ahn _ _ _ (ahm t);have hlet:∀l∈othL t.usd,nmL l=true:=fun l hl=>(nmL_iff l).2 ((abL _ _).1 hl).1
  have hfr:∀v,v∈(numb t).free->nmL (id v)=true:=fun v hv=>by
   obtain⟨u,hu,e⟩:=aeM t.sim id marksN (by have:=acQ t.sim;rw[aaY];omega) v hv;rw[e];rw[sim_usd]at hu;exact(okL_names ho).1 _ (usd_free t _ hu)
  have hbp:(numb t).bnd.Pairwise (·<·):=by rw[adM hs];exact ac9.sublist (List.take_sublist _ _)
  rw[ag9 t.size id (othL t.usd) (numb t) hsz (ada _ hcl) hfl hbp hlet hfr]at h6;have:=aq_ t.size false id (othL t.usd) (numb t) hsz hcl hfl;omega
def nfV:Option Tm->Value
 | some r=>.iface (aaB r) (pay r)
 | none=>.nilIface
theorem acl (t:Tm)(ho:t.ok nmL=true)(hs:t.size<=121)(hl:t.pr.length<=900)(w:World) : Calls prog 85 #[.iface (aaB t) (pay t)] w fun e w'=>e=.returned (.tuple #[nfV (nfI t),.bool (nfI t).isSome])/\Zb w w':=by
 have hso:=aoj t ho;have hss:=abB t;have hnum:can t.sim id marksN=numb t:=rfl;have hsz:(numb t).size<=t.size:=by rw[<-hnum,acE];exact hss
 have hOt:=alw t.sim.free (lets_free t.sim hso);have hb133:t.sim.bnd.length<=133:=by have:=acQ t.sim;omega
 have hCk:=ahj (numb t) (by omega) ⟨#[35]⟩;rw[aq5]at hCk;rw[sim_usd]at hOt;have hFi:=aqs (numb t).size (numb t) (othL t.usd).length (nl _) (by omega) (by have:=ar3 t.usd;omega);have hol:=ar3 t.usd;have hFr:=abv t.sim hso;rw[sim_usd]at hFr;have hSzC:=fun w=>ajE t.sim (by omega) w
 by_cases h60:60<t.sim.size
 ·have e:nfI t=none:=atW ho hs h60;rw[e];exact atQ _ _ _ _ _ h60 w (abJ t ho) hSzC
 by_cases hc:8<ownc (numb t)
 ·have e:nfI t=none:=by unfold nfI;rw[if_pos (.inl hc)]
  rw[e];exact atR _ _ _ _ _ _ _ (othL t.usd) (by omega) _ _ h60 hc w (abJ t ho) hSzC hFr hOt (acj t.sim hso hb133) hCk
 ·cases hfl:fl (numb t) (othL t.usd).length with
  | false=>
   have e:nfI t=none:=by unfold nfI;rw[if_pos (.inr hfl)]
   rw[e];rw[hfl]at hFi;exact atS _ _ _ _ _ _ _ (othL t.usd) (by omega) _ _ h60 hc w (abJ t ho) hSzC hFr hOt (acj t.sim hso hb133) hCk hFi
  | true=>
   rw[hfl]at hFi;have hcl:Clean (numb t):=aic _ _ _ (aib t);have hlet:∀l∈othL t.usd,nmL l=true:=fun l hl=>(nmL_iff l).2 ((abL _ _).1 hl).1
   have hfr:∀v,v∈(numb t).free->nmL (id v)=true:=fun v hv=>by
    obtain⟨u,hu,e⟩:=aeM t.sim id marksN (by have:=acQ t.sim;rw[aaY];omega) v hv;rw[e];rw[sim_usd]at hu;exact(okL_names ho).1 _ (usd_free t _ hu)
   have hbp:(numb t).bnd.Pairwise (·<·):=by rw[adM hs];exact ac9.sublist (List.take_sublist _ _)
   have e3:=ag9 t.size id (othL t.usd) (numb t) hsz hcl hfl hbp hlet hfr;have hok:(levI t.size id (othL t.usd) (numb t)).ok nmL=true:=by rw[e3];exact aid t.size false id (othL t.usd) (numb t) hsz hfl hlet hfr
   have hlen:=abC t.size id (othL t.usd) (numb t);have hnl:=aq4 t
   have hLe:=fun (D:Array Value) (v:Value) (g:Nat) (w:World) (hd:DrOf D id v) (hlf:LfS w g v (othL t.usd)) (hg:g<w.heap.size)=>
    aoY t.size (numb t) D id v g (othL t.usd) w hsz hd hlf hg hfl (by omega) (by omega) hbp (by omega)
   have hnf:nfI t=if (levI t.size id (othL t.usd) (numb t)).ok nmL=true/\(levI t.size id (othL t.usd) (numb t)).pr.length<=300/\(levI t.size id (othL t.usd) (numb t)).size<=60 then some (levI t.size id (othL t.usd) (numb t)) else none:=by
    unfold nfI;rw[if_neg (by rw[hfl];simp;omega)]
   generalize levI t.size id (othL t.usd) (numb t)=r at *
   rw[hnf]
   by_cases hg:r.ok nmL=true/\r.pr.length<=300/\r.size<=60
   ·rw[if_pos hg];exact aoZ _ _ _ _ _ _ _ (othL t.usd) (by omega) _ _ h60 hc (S r) _ _ w (abJ t ho) hSzC hFr hOt (acj t.sim hso hb133) hCk hFi adW hLe (fun w=>ac5 (s:=S r) (by rw[aaN];exact aoT hg.1 hg.2.1 hg.2.2) w (by rw[aan];omega))
   ·rw[if_neg hg];exact aoZ _ _ _ _ _ _ _ (othL t.usd) (by omega) _ _ h60 hc (S r) _ _ w (abJ t ho) hSzC hFr hOt (acj t.sim hso hb133) hCk hFi adW hLe (fun w=>aec (s:=S r) (by rw[aaN];exact ako (ag_ r hok) hg) w (by rw[aan];omega))
end Go.Proofs.YtalegefnppbkdaaGreat.T1
