/- Texts of the proof. No conditions. -/
import Derived.Test.YtalegefnppbkdaaGreatQbv
namespace Go.Proofs.YtalegefnppbkdaaGreat.T1
open Go.Proofs.Tryz
set_option maxHeartbeats 16000000
set_option linter.unusedVariables false
set_option linter.unusedSimpArgs false
theorem akv {fr:List UInt8}{P A J:List (List Tm)}{us:List Tm}(T:Tm)(h:Part fr P us)(hp:(A++J).Perm P)(hA:∀B∈A,Apt fr B [T])(hJ:∀B∈J,¬Apt fr B [T]):Part fr (A++[[T]++J.flatten]) (us++[T]):=by
 have hap:(A++J).Pairwise (Apt fr):=(hp.pairwise_iff (fun h=>Apt.symm h)).2 h.apt;rw[List.pairwise_append]at hap
 have hjb:∀(l:List (List Tm)) (B:List Tm),(∀D∈l,D∈J)->Blk fr B->T∈B->Blk fr (B++l.flatten):=by
  intro l
  induction l with
  | nil=>intro B _ hB _;simpa using hB
  | cons D l ih=>
   intro B hl hB hT;rw[List.flatten_cons,<-List.append_assoc];refine ih (B++D) (fun E hE=>hl E (by simp[hE])) (akf hB (h.blk D (hp.mem_iff.1 (lma.2 (.inr (hl D (by simp)))))) ?_) (lma.2 (.inl hT));have hn:=hJ D (hl D (by simp));unfold Apt at hn;obtain⟨z,hz⟩:=Classical.not_forall.1 hn;obtain⟨z1,hz⟩:=Classical.not_imp.1 hz;obtain⟨z2,_⟩:=Classical.not_imp.1 hz;obtain⟨x,hx,hzx⟩:=z2;rw[List.mem_singleton]at hx;subst hx;exact⟨z,⟨x,hT,hzx⟩,z1⟩
 refine⟨?_,fun B hB=>?_,?_⟩
 ·rw[List.flatten_append];have h1:(A.flatten++J.flatten).Perm us:=by have:=hp.flatten.trans h.flat;rwa[List.flatten_append]at this
  have e:([[T]++J.flatten]:List (List Tm)).flatten=T::J.flatten:=by simp
  rw[e];exact(List.perm_middle.trans ((h1.cons T))).trans (List.perm_append_singleton T us).symm
 ·rcases lma.1 hB with hB|hB
  ·exact h.blk B (hp.mem_iff.1 (lma.2 (.inl hB)))
  ·rw[List.mem_singleton]at hB;subst hB;exact hjb J [T] (fun _ h=>h) (aem fr T) (by simp)
 ·rw[List.pairwise_append];refine⟨hap.1,by simp,fun B hB D hD z h1 h2=>?_⟩;rw[List.mem_singleton]at hD;subst hD;obtain⟨x,hx,hz⟩:=h2;rcases lma.1 hx with hx|hx
  ·exact hA B hB z h1 ⟨x,hx,hz⟩
  ·obtain⟨E,hE,hxE⟩:=List.mem_flatten.1 hx;exact hap.2.2 B hB E hE z h1 ⟨x,hxE,hz⟩
open Classical in
theorem ao3 (fr:List UInt8)(us:List Tm):∃P,Part fr P us:=by
 have:∀l:List Tm,∃P,Part fr P l.reverse:=by
  intro l
  induction l with
  | nil=>exact⟨[],⟨.refl _,by simp,.nil⟩⟩
  | cons T l ih=>
   obtain⟨P,hP⟩:=ih;rw[List.reverse_cons];refine⟨_,akv (A:=P.filter fun B=>decide (Apt fr B [T])) (J:=P.filter fun B=>!decide (Apt fr B [T])) T hP (List.filter_append_perm _ _) (fun B hB=>by simpa using (List.mem_filter.1 hB).2) (fun B hB=>by simpa using (List.mem_filter.1 hB).2)⟩
 have:=this us.reverse
 rwa[List.reverse_reverse]at this
structure CompIs (fr:List UInt8) (us rs:List Tm):Prop where
 ex:∃P,Part fr P us/\All2 (fun B r=>nfS (tS fr B)=some r) P rs
def CompNo (fr:List UInt8)(us:List Tm):Prop:=∃P,Part fr P us/\∃B∈P,nfS (tS fr B)=none
theorem All2.perm_left {α β:Type}{R:α->β->Prop}{P P':List α}(h:P.Perm P'):∀{rs:List β},All2 R P rs->∃rs',rs.Perm rs'/\All2 R P' rs':=by
 induction h with
 | nil=>intro rs h;exact⟨rs,.refl _,h⟩
 | cons a _ ih=>
  intro rs h
  cases h with
  | cons ha hl=>obtain⟨rs',h1,h2⟩:=ih hl;exact⟨_::rs',h1.cons _,.cons ha h2⟩
 | swap a b l=>
  intro rs h
  cases h with
  | cons h1 h=>
   cases h with
   | cons h2 h=>exact⟨_,List.Perm.swap _ _ _,.cons h2 (.cons h1 h)⟩
 | trans _ _ ih ih2=>
  intro rs h;obtain⟨r1,p1,h1⟩:=ih h;obtain⟨r2,p2,h2⟩:=ih2 h1;exact⟨r2,p1.trans p2,h2⟩
structure Lev (fr:List UInt8) (us:List Tm):Prop where
 frl:∀l∈fr,nmL l=true
 ok:∀T∈us,T.ok nmL=true
 sz:fr.length+(us.map Tm.size).sum+us.length<=61
 bn:fr.length+(us.map fun T=>T.bnd.length).sum<=60
 pl:3 * fr.length+(us.map fun T=>T.pr.length).sum+3 * us.length<=303
theorem ahA {α:Type}(f:α->Nat){B us:List α}:∀{R:List α},(B++R).Perm us->(B.map f).sum<=(us.map f).sum:=by
 intro R h;have:=(h.map f).sum_nat;rw[List.map_append,List.sum_append]at this
 omega
theorem alS:∀B:List Tm,(joinR .par B).size<=(B.map Tm.size).sum+B.length+1:=by
 intro B
 induction B with
 | nil=>simp[joinR,Tm.size]
 | cons a l ih=>
  cases l with
  | nil=>simp[joinR];omega
  | cons b l=>simp only[joinR,Tm.size,List.map_cons,List.sum_cons,List.length_cons]at ih ⊢;omega
theorem aiI:∀B:List Tm,(joinR .par B).bnd.length=(B.map fun T=>T.bnd.length).sum:=by
 intro B
 induction B with
 | nil=>simp[joinR,Tm.bnd]
 | cons a l ih=>
  cases l with
  | nil=>simp[joinR]
  | cons b l=>simp only[joinR,Tm.bnd,lla,List.map_cons,List.sum_cons]at ih ⊢;omega
theorem ao4 (B:List Tm):ahG B=B.reverse.foldr .par .nil:=by unfold ahG;rw[List.foldr_reverse]
theorem awa:∀B:List Tm,(B.foldr Tm.par Tm.nil).size<=(B.map Tm.size).sum+B.length+1/\(B.foldr Tm.par Tm.nil).bnd.length=(B.map fun T=>T.bnd.length).sum/\((∀T∈B,T.ok nmL=true)->(B.foldr Tm.par Tm.nil).ok nmL=true):=by
 intro B
 induction B with
 | nil=>exact⟨by simp[Tm.size],rfl,fun _=>rfl⟩
 | cons a l ih=>
  simp only[List.foldr_cons,Tm.size,Tm.bnd,lla,List.map_cons,List.sum_cons,List.length_cons,Tm.ok,bae];exact⟨by omega,by omega,fun h=>⟨h a (by simp),ih.2.2 fun T hT=>h T (by simp[hT])⟩⟩
theorem aer (t:Tm):∀ls:List UInt8,(wrapO ls t).size=ls.length+t.size/\(wrapO ls t).bnd.length=ls.length+t.bnd.length:=by
 intro ls
 induction ls with
 | nil=>simp[wrapO]
 | cons a l ih=>exact⟨by show (wrapO l t).size+1=_;rw[ih.1];simp;omega,by show (a::(wrapO l t).bnd).length=_;rw[List.length_cons,ih.2];simp;omega⟩
theorem ao5 (fr:List UInt8)(B:List Tm):(nB fr B).length<=fr.length:=List.length_filter_le _ _
theorem aw9 {t:Tm}(h:t.ok nmL=true)(hb:t.bnd.length<=60):Fit t:=by
 have h1:=acz (srt_free t) agZ (fun z hz=>(ai4 z).2 (lets_free t h z hz));have h2:ap8.length=26:=by unfold ap8;simp
 have h3:=anq t;unfold Fit;omega
theorem agE {fr:List UInt8}{P:List (List Tm)}{us:List Tm}(h:Part fr P us){B:List Tm}(hB:B∈P):∃R,(B++R).Perm us:=by
 obtain⟨P1,P2,rfl⟩:=List.append_of_mem hB;refine⟨(P1++P2).flatten,?_⟩;have:=(List.perm_middle (a:=B) (l₁:=P1) (l₂:=P2)).symm.flatten.trans h.flat;rwa[List.flatten_cons]at this
theorem aiJ:∀B:List Tm,(joinR .par B).pr.length<=(B.map fun T=>T.pr.length).sum+3 * B.length+1:=by
 intro B
 induction B with
 | nil=>simp[joinR,Tm.pr]
 | cons a l ih=>
  cases l with
  | nil=>simp[joinR];omega
  | cons b l=>simp only[joinR,Tm.pr,lla,List.map_cons,List.sum_cons,List.length_cons,List.length_nil]at ih ⊢;omega
theorem alT:∀B:List Tm,(B.foldr Tm.par Tm.nil).pr.length<=(B.map fun T=>T.pr.length).sum+3 * B.length+1:=by
 intro B
 induction B with
 | nil=>simp[Tm.pr]
 | cons a l ih=>simp only[List.foldr_cons,Tm.pr,lla,List.map_cons,List.sum_cons,List.length_cons,List.length_nil]at ih ⊢;omega
theorem adX (t:Tm):∀ls:List UInt8,(wrapO ls t).pr.length=3 * ls.length+t.pr.length:=by
 intro ls
 induction ls with
 | nil=>simp[wrapO]
 | cons a l ih=>show (Tm.own a (wrapO l t)).pr.length=_;simp only[Tm.pr,lla,List.length_cons,List.length_nil];rw[ih];omega
structure Fine (t:Tm):Prop where
 ok:t.ok nmL=true
 sz:t.size<=121
 ft:FitT t
 pl:t.pr.length<=400
theorem adY {fr:List UInt8}{us B R:List Tm}(hL:Lev fr us)(h:(B++R).Perm us):Fine (tS fr B)/\Fine (tI fr B):=by
 have h1:=ahA Tm.size h;have h2:=ahA (fun T:Tm=>T.bnd.length) h;have h9:=ahA (fun T:Tm=>T.pr.length) h;have h3:=ao5 fr B;have h4:=alS B;have h5:=aiI B;have h6:=aer (joinR .par B) (nB fr B).reverse;have h7:=adX (joinR .par B) (nB fr B).reverse;have h8:=aiJ B;have hbl:B.length<=us.length:=by have:=h.length_eq;rw[lla]at this;omega
 have hok:∀T∈B,T.ok nmL=true:=fun T hT=>hL.ok T (h.mem_iff.1 (lma.2 (.inl hT)));have hw:∀l∈(nB fr B).reverse,nmL l=true:=fun l hl=>hL.frl l (List.mem_filter.1 (List.mem_reverse.1 hl)).1;have ho:(tS fr B).ok nmL=true:=ag7 _ hw (ag8 B hok);have hz:=hL.sz;have hb:=hL.bn;have hp:=hL.pl;have hrp:=List.reverse_perm B;have k1:=(hrp.map Tm.size).sum_nat;have k2:=(hrp.map fun T:Tm=>T.bnd.length).sum_nat;have k3:=(hrp.map fun T:Tm=>T.pr.length).sum_nat;obtain⟨f1,f2,f3⟩:=awa B.reverse;have f4:=alT B.reverse;have g6:=aer (ahG B) (nB fr B).reverse;have g7:=adX (ahG B) (nB fr B).reverse;rw[<-ao4]at f1 f2 f3 f4;have hi:(tI fr B).ok nmL=true:=ag7 _ hw (f3 fun T hT=>hok T (List.mem_reverse.1 hT));rw[List.length_reverse]at h6 h7 g6 g7 f1 f4;have e1:(tS fr B).size=(wrapO (nB fr B).reverse (joinR .par B)).size:=rfl;have e2:(tI fr B).size=(wrapO (nB fr B).reverse (ahG B)).size:=rfl;have e3:(tS fr B).bnd.length=(wrapO (nB fr B).reverse (joinR .par B)).bnd.length:=rfl;have e4:(tI fr B).bnd.length=(wrapO (nB fr B).reverse (ahG B)).bnd.length:=rfl;have e5:(tS fr B).pr.length=(wrapO (nB fr B).reverse (joinR .par B)).pr.length:=rfl;have e6:(tI fr B).pr.length=(wrapO (nB fr B).reverse (ahG B)).pr.length:=rfl;exact⟨⟨ho,by omega,.inl (aw9 ho (by omega)),by omega⟩,⟨hi,by omega,.inl (aw9 hi (by omega)),by omega⟩⟩
theorem ahB {fr:List UInt8}{us B D R:List Tm}(hL:Lev fr us)(h:(B++R).Perm us)(hB:B≠[])(hp:B.Perm D):nfS (tS fr B)=nfI (tI fr D):=by
 have a:=(adY hL h).1;have b:=(adY hL ((hp.symm.append_right R).trans h)).2;rw[awC (aqB fr hB hp) a.ok b.ok a.sz b.sz a.ft b.ft];exact ai9 b.ok b.sz b.ft
theorem All2.comp {α β:Type}{P:List α}{Q:List α}{rs:List β}{R:α->β->Prop}{R':α->β->Prop}{E:α->α->Prop}(h:All2 E P Q)(k:All2 R P rs)(hm:∀a b r,a∈P->E a b->R a r->R' b r):All2 R' Q rs:=by
 induction h generalizing rs with
 | nil=>cases k;exact .nil
 | cons e _ ih=>
  cases k with
  | cons r k=>exact .cons (hm _ _ _ (by simp) e r) (ih k fun a b r ha=>hm a b r (by simp[ha]))
theorem afE {fr:List UInt8}{us rs:List Tm}(hL:Lev fr us)(h:CompIs fr us rs){Q:List (List Tm)}(hQ:Part fr Q us):∃rs',rs.Perm rs'/\All2 (fun D r=>nfI (tI fr D)=some r) Q rs':=by
 obtain⟨P,hP,ha⟩:=h.ex;obtain⟨Q',h1,h2⟩:=aip P Q us hP hQ
 have h3:All2 (fun D r=>nfI (tI fr D)=some r) Q' rs:=h2.comp ha fun B D r hB e hr=>by
  obtain⟨R,hR⟩:=agE hP hB;rw[<-ahB hL hR (hP.blk B hB).ne e];exact hr
 exact h3.perm_left h1
theorem atZ {fr:List UInt8}{us:List Tm}(hL:Lev fr us)(h:CompNo fr us){Q:List (List Tm)}(hQ:Part fr Q us):∃D∈Q,nfI (tI fr D)=none:=by
 obtain⟨P,hP,B,hB,hn⟩:=h;obtain⟨Q',h1,h2⟩:=aip P Q us hP hQ;obtain⟨D,hD,e⟩:=h2.ex' B hB;obtain⟨R,hR⟩:=agE hP hB;exact⟨D,h1.mem_iff.1 hD,by rw[<-ahB hL hR (hP.blk B hB).ne e];exact hn⟩
structure Pre (fr:List UInt8) (P:List (List Tm)) (L us:List Tm):Prop where
 flat:(P.flatten++L).Perm us
 blk:∀B∈P,Blk fr B
 apt:P.Pairwise (Apt fr)
 left:∀B∈P,∀T∈L,Apt fr B [T]
theorem at0 {fr:List UInt8}{P:List (List Tm)}{L us:List Tm}(h:Pre fr P L us):∃P',Part fr (P++P') us:=by
 obtain⟨P',h'⟩:=ao3 fr L;refine⟨P',⟨?_,fun B hB=>(lma.1 hB).elim (h.blk B) (h'.blk B),?_⟩⟩
 ·rw[List.flatten_append];exact(h'.flat.append_left _).trans h.flat
 ·rw[List.pairwise_append];refine⟨h.apt,h'.apt,fun B hB D hD z h1 h2=>?_⟩;obtain⟨x,hx,hz⟩:=h2;have hxL:x∈L:=h'.flat.mem_iff.1 (List.mem_flatten.2 ⟨D,hD,hx⟩);exact h.left B hB x hxL z h1 ⟨x,by simp,hz⟩
theorem arf {fr:List UInt8}{P:List (List Tm)}{L us B L':List Tm}(h:Pre fr P L us)(hB:Blk fr B)(hp:(B++L').Perm L)(hl:∀T∈L',Apt fr B [T]):Pre fr (P++[B]) L' us:=by
 refine⟨?_,fun D hD=>?_,?_,fun D hD T hT=>?_⟩
 ·rw[List.flatten_append,List.append_assoc];exact((show (([B]:List (List Tm)).flatten++L').Perm L by simpa using hp).append_left _).trans h.flat
 ·rcases lma.1 hD with hD|hD
  ·exact h.blk D hD
  ·rw[List.mem_singleton]at hD;subst hD;exact hB
 ·rw[List.pairwise_append];refine⟨h.apt,by simp,fun D hD E hE z h1 h2=>?_⟩;rw[List.mem_singleton]at hE;subst hE;obtain⟨x,hx,hz⟩:=h2;exact h.left D hD x (hp.mem_iff.1 (lma.2 (.inl hx))) z h1 ⟨x,by simp,hz⟩
 ·rcases lma.1 hD with hD|hD
  ·exact h.left D hD T (hp.mem_iff.1 (lma.2 (.inr hT)))
  ·rw[List.mem_singleton]at hD;subst hD;exact hl T hT
theorem arg {fr:List UInt8}{P:List (List Tm)}{us:List Tm}(h:Pre fr P [] us):Part fr P us:=⟨by simpa using h.flat,h.blk,h.apt⟩
theorem at1 (fr:List UInt8)(us:List Tm):Pre fr [] us us:=⟨by simp,by simp,.nil,by simp⟩
open Go.RowKit
set_option maxRecDepth 100000
def TxAt (W:World)(g off:Nat)(ls:List Tm):Prop:=∀j (h:j<ls.length),W.cell? ⟨g,off+j,none⟩=some (.string (S ls[j]))
theorem TxAt.below {W W':World}{g off:Nat}{ls:List Tm}(h:TxAt W g off ls)(k:Zb W W'):TxAt W' g off ls:=fun j hj=>(k.cell (p:=⟨g,off+j,none⟩) (aa1 (h j hj))).trans (h j hj)
theorem TxAt.tail {W:World}{g off:Nat}{T:Tm}{ls:List Tm}(h:TxAt W g off (T::ls)):TxAt W g (off+1) ls:=fun j hj=>by
 have:=h (j+1) (by simp;omega);rw[show off+1+j=off+(j+1) by omega];exact this
theorem ao6 (fr:List UInt8)(T:Tm):nB fr [T]=fnm fr T:=by unfold nB fnm;refine List.filter_congr fun z _=>?_;simp
theorem at2 {fr:List UInt8}(hs:Srt fr)(B:List Tm)(T:Tm):bothL (nB fr B) (fnm fr T)=nB fr (B++[T]):=by
 refine acP (aam _ (ab0 hs _)) (ab0 hs _) fun x=>?_;rw[mem_bothL,acZ,acZ];unfold as3;constructor
 ·rintro (⟨y,hy,hz⟩|hz)
  ·exact⟨y,lma.2 (.inl hy),hz⟩
  ·exact⟨T,by simp,hz⟩
 ·rintro⟨y,hy,hz⟩;rcases lma.1 hy with hy|hy
  ·exact .inl ⟨y,hy,hz⟩
  ·rw[List.mem_singleton]at hy;subst hy;exact .inr hz
theorem aiK {fr:List UInt8}{B:List Tm}{T:Tm}:((nB fr B).any fun z=>decide (z∈T.free))=false↔Apt fr B [T]:=by
 rw[Bool.eq_false_iff,ne_eq,List.any_eq_true];constructor
 ·intro h z h1 h2;obtain⟨x,hx,hz⟩:=h2;rw[List.mem_singleton]at hx;subst hx;exact h ⟨z,(acZ _ _ _).2 h1,decide_eq_true (by simpa using (List.mem_filter.1 hz).2)⟩
 ·rintro h ⟨z,hz,hf⟩;have h1:=(acZ _ _ _).1 hz;have hfr:z∈fr:=(List.mem_filter.1 hz).1;exact h z h1 ⟨T,by simp,List.mem_filter.2 ⟨hfr,hf⟩⟩
theorem abE {P:Program}{w:World}{ops:Array Oper}{o:Oper}{a:Act}{K:Act->World->Prop}{Q:Exit->Act->World->Prop}{E:Prop}(hgd:o.guard=none)(s x:Operand)(t:TypeId) (ho:o.op=.call { callee:=.builtin .append,args:=#[s,x],argTypes:=#[t,t] }) (base:Nat)(e:TypeId)(i:TypeInfo)(z:Value)(size bytes:Nat)(ht:P.underlying t=some (.slice e))(hi:P.info? e=some i)(hz:i.zero=some z) (hsize:i.size=size)(hby:i.bytes=bytes)(hzs:z.cells.size=size)(hsz:0<size) (v:Value)(n:Nat)(xs:List Value)(hs:a.eval s=v)(hown:w.ownsRow base e size v n xs) (ad:Addr)(m c:Nat)(news:List Value)(hx:a.eval x=.slice (some ad) m c)(hl:news.length=m * size)(hnews:∀j u,news[j]?=some u->w.cell? (ad.add j)=some u)(h1:∀u∈news,u.oneCell'=true) (h63:n+m<=maxLen)(hbytes:(n+m) * bytes<=140737488355328)(hbase:base<=w.heap.size) (h:∀v' w',w'.ownsRow base e size v' (n+m) (xs++news)->w.grownBy w' v.ownBlock->(v'.ownBlock=v.ownBlock\/v'.ownBlock=some w.heap.size)->K (a.put o.dst v') w') : if Region.wanted o (yielded ops a.tmps)=true then Oper.wp P o a w K Q else E:=by
 have hw:Region.wanted o (yielded ops a.tmps)=true:=by simp[Region.wanted,hgd]
 rw[if_pos hw];obtain⟨v',w',hr,h2,h3,h4,h5⟩:=run_append_own_at (P:=P) w base t o.type e i z size bytes ht hi hz hsize hby hzs hsz v n xs hown ad m c news hl hnews h1 h63 hbytes hbase;unfold Oper.wp execOp;simp only[ho,resolve,invoke,builtin,Sem.run_bind,Sem.run_pure,Result.andThen_ok,List.map_toArray,List.map_cons,List.map_nil,hs,hx,hr];exact h v' w' h2 h3 h5
theorem aes {B C:Nat}{u v w:World}(h:Below B u v)(k:Below C v w)(hc:B<=C):Below B u w:=h.trans ⟨k.os,k.tape,k.output,k.size,fun i hi=>k.block i (by omega)⟩
theorem TxAt.grown {W W':World}{g off:Nat}{ls:List Tm}{r:Option Nat}(h:TxAt W g off ls)(k:W.grownBy W' r)(hne:some g≠r):TxAt W' g off ls:=fun j hj=>k.cell (h j hj) hne
theorem ao7 {W:World}{base n k g:Nat}{e:TypeId}{v:Value}{xs:List Value}(h:W.ownsRow base e k v n xs)(hg:g<base):some g≠v.ownBlock:=fun e=>absurd (h.lt _ e.symm).1 (Nat.not_le.2 hg)
theorem agF {W:World}{base n:Nat}{e:TypeId}{v:Value}{xs:List Value}(h:W.ownsRow base e 1 v n xs)(hn:0<n):∃(g cap:Nat) (C:Array Value),v=.slice (some ⟨g,0,none⟩) n cap/\W.heap[g]?=some (.cells C e (0,0))/\∀(j:Nat) (u:Value),xs[j]?=some u->C[j]?=some u:=by
 rcases h.2 with⟨_,h2⟩|⟨g,cap,cur,h1,h2,h3,h4,h5,h6,h7⟩
 ·omega
 ·refine⟨g,cap,cur,h1,h3,fun j u hj=>?_⟩;have hx:=h.1
  have hjl:j<xs.length:=by
   rcases Nat.lt_or_ge j xs.length with c|c
   ·exact c
   ·rw[List.getElem?_eq_none c]at hj;cases hj
  rw[<-h7,List.getElem?_take,if_pos (by omega)]at hj;simpa using hj
theorem akw {α:Type}(f:α->Nat){a:α}:∀{l:List α},a∈l->f a<=(l.map f).sum:=by
 intro l
 induction l with
 | nil=>intro h;simp at h
 | cons b l ih=>
  intro h;rcases List.mem_cons.1 h with rfl|h
  ·simp
  ·have:=ih h;simp only[List.map_cons,List.sum_cons];omega
theorem akx (w:World)(T:TypeId)(base:Nat)(hb:base<=w.heap.size):(w.alloc (.cells #[] T)).ownsRow base T 1 (.slice (some ⟨w.heap.size,0,none⟩) 0 0) 0 []:=by
 refine⟨rfl,.inr ⟨w.heap.size,0,#[],rfl,hb,?_,nl _,by unfold maxLen;omega,by simp,by simp⟩⟩;show (w.heap.push _)[w.heap.size]?=_;simp
theorem TxAt.take {W:World}{g off:Nat}{ls:List Tm}(h:TxAt W g off ls)(i:Nat):∀j u,((ls.take i).map sv)[j]?=some u->W.cell? ((⟨g,off,none⟩:Addr).add j)=some u:=fun j u hj=>by
 rw[List.getElem?_map,List.getElem?_take]at hj
 split at hj
 ·by_cases hl:j<ls.length
  ·rw[List.getElem?_eq_getElem hl]at hj;have e2:(Addr.add ⟨g,off,none⟩ j)=⟨g,off+j,none⟩:=by cases j<;>simp[Addr.add]
   rw[e2,h j hl];exact hj
  ·rw[List.getElem?_eq_none (by omega)]at hj;cases hj
 ·cases hj
theorem TxAt.drop {W:World}{g off:Nat}{ls:List Tm}(h:TxAt W g off ls)(i:Nat):∀j u,((ls.drop i).map sv)[j]?=some u->W.cell? ((⟨g,off+i,none⟩:Addr).add j)=some u:=fun j u hj=>by
 rw[List.getElem?_map,List.getElem?_drop]at hj
 by_cases hl:i+j<ls.length
 ·rw[List.getElem?_eq_getElem hl]at hj;have e2:(Addr.add ⟨g,off+i,none⟩ j)=⟨g,off+(i+j),none⟩:=by cases j<;>simp[Addr.add]<;>omega
  rw[e2,h (i+j) hl];exact hj
 ·rw[List.getElem?_eq_none (by omega)]at hj;cases hj
theorem agG {α β:Type}{R:α->β->Prop}{a:α}{r:β}(k:R a r):∀{P:List α} {rs:List β},All2 R P rs->All2 R (P++[a]) (rs++[r]):=by
 intro P rs h
 induction h with
 | nil=>exact .cons k .nil
 | cons e _ ih=>exact .cons e ih
theorem at3 (p:Option Addr)(c:Nat)(w:World):Calls prog 66 #[.slice p 0 c] w fun e w'=>e=.returned (.slice none 0 0)/\w=w':=by
 go_enter func66,ntmps66
 go_wp2_with fail
 go_loopw [3,10] (fun v c wr=>v=.slice none 0 0/\c=.int .i64 (0:Int)/\wr=w) (fun _ c _=>0)
 case atStart=>exact⟨rfl,rfl,rfl⟩
 case round=>
  obtain⟨rfl,rfl,rfl⟩:=hrel;go_wp2_with fail;go_ret;exact⟨rfl,rfl⟩
theorem ajq (us:List Tm):∀u∈us.map sv,u.oneCell'=true:=fun u hu=>by obtain⟨t,_,rfl⟩:=List.mem_map.1 hu;rfl
theorem awb (s X Y:ByteArray)(fr:List UInt8)(hfr:fr.length<=5)(hsr:Srt fr)(us:List Tm)(hu:us.length<=61)(hL:Lev fr us)(n1:Zr 17 #[.string s] (.tuple #[.string X,.bool true]))(n2:Ze 52 #[.string X] (.tuple #[.string (B fr),.string Y]))(n3:∀w,Calls prog 55 #[.string X] w (TxP us us.length w)) (n4:∀T∈us,Zr 62 #[.string (S T)] (.string (B T.free)))(w:World) : Calls prog 40 #[.string s] w fun e w'=>(∃rs v,CompIs fr us rs/\e=.returned (.tuple #[v,.bool true])/\w'.ownsRow w.heap.size 9 1 v rs.length ((srtT rs).map sv)/\Zb w w')\/(CompNo fr us/\e=.returned (.tuple #[.slice none 0 0,.bool false])/\Zb w w'):=by
  obtain⟨i0,hi,hz0,hz1,hz2⟩:=info_parts Tryz.infoS;have G1:=qz n1;have G2:=qz n2;have G3:=qz n3;have G4:=qz n4;have GC:Hid (∀T∈us,Ze 61 #[.string (B fr),.string (B T.free)] (.string (B (fnm fr T)))):=fun T hT w=>ah0 fr T.free (by omega) (by have:=ajo T (hL.ok T hT);omega) w;have HL:=qz hL;have HSR:=qz hsr;obtain⟨FB,hFB⟩:∃FB,FB=B fr:=⟨_,rfl⟩;rw[<-hFB]at G2 GC;clear n1 n2 n3 n4 hFB hL hsr
  go_enter func40,ntmps40
  go_wp2_with fail;refine(G1.out _).mono ?_;rintro e w1 ⟨rfl,b1⟩;go_wp2_with fail;refine(G2.out _).mono ?_;rintro e w2 ⟨rfl,rfl⟩;go_wp2_with fail;refine(G3.out _).mono ?_;rintro e w3 ⟨v3,rfl,o3,b3⟩;obtain⟨p3,c3,rfl⟩:=aaD o3;have B3:=qz (aaa b1 b3)
  have h0:us≠[]->∃g,p3=some ⟨g,0,none⟩/\us.length<=c3/\TxAt w3 g 0 us:=fun hne=>by
    obtain⟨g,e1,e2,e3,e4,e5⟩:=act o3 (List.length_pos_iff.2 hne);exact⟨g,e1,e4,fun j hj=>by rw[Nat.zero_add];exact e5 j _ (by rw[List.getElem?_map,List.getElem?_eq_getElem hj];rfl)⟩
  have H0:=qz h0;clear o3 b1 b3 h0;go_wp2_with fail
  go_loopg [8,9] us.length (fun gk s8 s9 wr=>(∃(P:List (List Tm)) (L rs:List Tm) (p:Option Addr) (c:Nat),s8=.slice p L.length c/\L.length=gk/\rs.length+L.length<=61/\Hid (Pre fr P L us)/\Hid (All2 (fun B r=>nfS (tS fr B)=some r) P rs)/\Hid (wr.ownsRow w.heap.size 9 1 s9 rs.length (rs.map sv))/\Hid (L≠[]->∃g off,p=some ⟨g,off,none⟩/\L.length<=c/\TxAt wr g off L/\∀b,s9.ownBlock=some b->b≠g))/\Hid (Zb w wr))
  case atStart=>
    refine⟨⟨[],us,[],p3,c3,rfl,rfl,(by simpa using hu),at1 fr us,.nil,World.ownsRow_nil _ _ _ _,fun hne=>?_⟩,B3⟩;obtain⟨g,e1,e2,e3⟩:=H0.out hne;exact⟨g,0,e1,e2,e3,fun b hb=>by simp[Value.ownBlock]at hb⟩
  case round=>
    obtain⟨⟨P,L,rs,p,c,rfl,hLg,hrsl,hpre,hall,hown,hleft⟩,hbw⟩:=hrel;obtain⟨GO,hGO⟩:∃G,G=gk:=⟨_,rfl⟩;have hsz:=hbw.out.size
    cases L with
    | nil=>
      have hg0:gk=0:=hLg.symm;subst hg0;have HC:Hid (CompIs fr us rs):=⟨⟨P,arg hpre.out,hall.out⟩⟩;have hrl:rs.length<=61:=by simpa using hrsl
      obtain⟨n,hn⟩:∃n,n=rs.length:=⟨_,rfl⟩;have HN:=qz hn;rw[<-hn]at hown
      by_cases h0:n=0
      · subst h0
        obtain rfl:rs=[]:=List.length_eq_zero_iff.1 HN.out.symm;obtain⟨pz,cz,rfl⟩:=aaD hown.out;clear hn hown;have HSO:=fun w=>qz (at3 pz cz w);go_wp2_with fail;refine((HSO _).out).mono ?_;rintro e wz ⟨rfl,hwz⟩;subst hwz;go_wp2_with fail;go_ret2;have e0:srtT ([]:List Tm)=[]:=List.length_eq_zero_iff.1 (by have:=acG (([]:List Tm).map S);rw[agC,List.length_map]at this;exact this);exact .inl ⟨[],.slice none 0 0,HC.out,rfl,by rw[e0];exact World.ownsRow_nil _ _ _ _,hbw.out⟩
      · obtain⟨gB,cB,CB,hvB,hgB,hcB⟩:=agF hown.out (Nat.pos_of_ne_zero h0)
        subst hvB
        have HSO:=qz (ajl (rs.map S) gB n cB CB (by rw[List.length_map];exact HN.out) (by omega) (by omega) wr hgB (fun j hj=>by
          have hj':j<rs.length:=by simpa using hj
          have:=hcB j (.string (S rs[j])) (by rw[List.getElem?_map,List.getElem?_eq_getElem hj'];rfl)
          rw[this];simp))
        clear hn hgB hcB hown;go_wp2_with fail;refine(HSO.out).mono ?_;rintro e wz ⟨g7,c7,rfl,o7,b7⟩;rw[agC]at o7;rw[agC];go_wp2_with fail;go_ret2;refine .inl ⟨rs,.slice (some ⟨g7,0,none⟩) (srtT rs).length c7,HC.out,rfl,?_,aaa hbw.out b7⟩
        have hl7:(srtT rs).length=rs.length:=by
          have:=acG (rs.map S);rwa[agC,List.length_map,List.length_map]at this
        rw[List.length_map,hl7]at o7;have e7:((srtT rs).map S).map Value.string=(srtT rs).map sv:=by rw[List.map_map];rfl
        rw[e7]at o7;rw[hl7];exact akj o7 hbw.out.size
    | cons T0 Lr=>
      obtain⟨g,off,rfl,hcl,htx,hne⟩:=hleft.out (by simp);have hTu:T0∈us:=hpre.out.flat.mem_iff.1 (lma.2 (.inr (by simp)));have c0:wr.cell? ⟨g,off,none⟩=some (.string (S T0)):=htx 0 (by simp);have htl:=qz htx.tail;have HTF:=qz (G4.out T0 hTu);have HNC:=qz (GC.out T0 hTu);have hlen:(T0::Lr).length=Lr.length+1:=rfl;rw[hlen]at hcl hLg hrsl ⊢;have hgl:g<wr.heap.size:=aa1 c0;have HNE:=qz hne;clear htx hne hlen hleft;go_wp2_with fail;refine(HTF.out _).mono ?_;rintro e w4 ⟨rfl,b4⟩;have c0':=(b4.cell (p:=⟨g,off,none⟩) hgl).trans c0;clear c0;go_wp2_with fail;refine(HNC.out _).mono ?_;rintro e w5 ⟨rfl,hw5⟩;subst hw5;have B4:=qz (aaa hbw.out b4);have hsz4:=B4.out.size;have O9:=qz (aal hown.out b4);have TX4:=qz (htl.out.below b4);have hlt9:∀b,u9.ownBlock=some b->b<w4.heap.size:=fun b hb=>(O9.out.lt b hb).2;have hgl4:g<w4.heap.size:=Nat.lt_of_lt_of_le hgl b4.size;have HNB:=ao6 fr T0;rw[<-HNB];clear hbw hown htl b4 HNB;go_wp2_with fail
      all_goals
        go_loopg [8,10,11,12] ((Lr.length+1) * 1000) (fun gi s8 s10 s11 s12 wr=>(∃(Bk Lc:List Tm) (i:Nat) (p:Option Addr) (c:Nat),s12=.int .i64 (i:Int)/\i<=Lc.length/\Lc.length * 1000+1000=gi+i/\s8=.slice p Lc.length c/\s10=.string (B (nB fr Bk))/\Hid (Blk fr Bk)/\Hid ((Bk++Lc).Perm (T0::Lr))/\Hid (∀j (h:j<Lc.length),j<i->Apt fr Bk [Lc[j]])/\Hid (wr.ownsRow w4.heap.size 9 1 s11 Bk.length (Bk.map sv))/\Hid (Lc≠[]->∃g off,p=some ⟨g,off,none⟩/\Lc.length<=c/\TxAt wr g off Lc/\s11.ownBlock≠some g/\∀b,u9.ownBlock=some b->b≠g))/\Hid (Zb w4 wr))
        case atStart=>
          refine⟨⟨[T0],Lr,0,_,_,rfl,Nat.zero_le _,by omega,by rw[show gk - 1=Lr.length by omega],rfl,aem fr T0,.refl _,fun j _ h=>absurd h (Nat.not_lt_zero _),aa3 w4 (.string (S T0)) 9 w4.heap.size (nl _),fun hn=>?_⟩,bra⟩
          first
            | exact absurd (List.length_eq_zero_iff.1 (by omega)) hn
            | exact⟨g,off+1,rfl,by omega,TX4.out.below (bra),fun e=>by simp[Value.ownBlock]at e;omega,HNE.out⟩
        case round=>
          obtain⟨⟨Bk,Lc,i,p,c,rfl,hiL,hgi,rfl,rfl,hblk,hpm,hapt,hlst,hlv⟩,hbv⟩:=hrel;have hvz:=hbv.out.size;have hnBl:(nB fr Bk).length<=5:=Nat.le_trans (ao5 fr Bk) hfr
          have hLcl:Lc.length<=61:=by
            have e1:=hpm.out.length_eq;have e2:=hpre.out.flat.length_eq;simp only[lla,List.length_cons]at e1 e2;omega
          by_cases hlt:(i:Int)<(Lc.length:Int)
          · have hit:i<Lc.length:=by omega
            obtain⟨g2,off2,rfl,hcl2,htx2,hne2,hne9⟩:=hlv.out (fun e=>by rw[e]at hit;simp at hit);obtain⟨T,hT⟩:∃T,T=Lc[i]:=⟨_,rfl⟩
            have hTu2:T∈us:=by
              have h1:T∈T0::Lr:=hpm.out.mem_iff.1 (lma.2 (.inr (hT▸List.getElem_mem hit)));exact hpre.out.flat.mem_iff.1 (lma.2 (.inr h1))
            have c1:wr.cell? ⟨g2,off2+i,none⟩=some (.string (S T)):=by rw[hT];exact htx2 i hit
            have HTF2:=qz (G4.out T hTu2);have HNC2:=qz (GC.out T hTu2);have hfl:T.free.length<=26:=ajo T (HL.out.ok T hTu2);have HSH:=qz (fun w=>ai2 (nB fr Bk) T.free (by omega) (by omega) w);have hg2l:g2<wr.heap.size:=aa1 c1;have HNE2:=qz hne2;have HNE9:=qz hne9;have HTX2:=qz htx2;have hLp:0<Lc.length:=by omega
            clear htx2 hne2 hne9 hlv
            cases hsh:(nB fr Bk).any fun z=>decide (z∈T.free) with
            | false=>
              rw[hsh]at HSH
              have hA:Hid (∀j (h:j<Lc.length),j<i+1->Apt fr Bk [Lc[j]]):=fun j h hj=>by
                by_cases hji:j=i
                · subst hji;rw[<-hT];exact aiK.1 hsh
                · exact hapt.out j h (by omega)
              clear hsh hT;go_wp2_with fail;refine(HTF2.out _).mono ?_;rintro e w6 ⟨rfl,b6⟩;have hlv':Hid (Lc≠[]->∃g off,(some (⟨g2,off2,none⟩:Addr))=some ⟨g,off,none⟩/\Lc.length<=c/\TxAt w6 g off Lc/\u11.ownBlock≠some g/\∀b,u9.ownBlock=some b->b≠g):=fun _=>⟨g2,off2,rfl,hcl2,HTX2.out.below b6,HNE2.out,HNE9.out⟩;have O11:=qz (aal hlst.out b6);have B6:=qz (aaa hbv.out b6);clear c1 b6;go_wp2_with fail;refine(HSH.out _).mono ?_;rintro e w7 ⟨rfl,hw7⟩;subst hw7;go_wp2_with fail
              go_roundg (gk - 1)
              case rel=>exact⟨⟨Bk,Lc,i+1,_,_,by congr 1,by omega,by omega,rfl,rfl,hblk,hpm,hA,O11,hlv'⟩,B6⟩
              case measure=>omega
            | true=>
              rw[hsh]at HSH
              have HTB:Hid (∀w,Calls prog 64 #[.string (B (nB fr Bk)),.string (B (fnm fr T))] w fun e w'=>e=.returned (.string (B (nB fr (Bk++[T]))))/\Zb w w'):=fun w=>by
                have:=abA (nB fr Bk) (B (fnm fr T)) (ab0 HSR.out _) (by rw[asq];have:=List.length_filter_le (fun z=>decide (z∈T.free)) fr;unfold fnm;omega) w;rw[aaE,at2 HSR.out]at this;exact this
              have hshr:Hid (¬Apt fr Bk [T]):=fun h=>by rw[aiK.2 h]at hsh;cases hsh
              have HT:=qz hT;clear hsh hT;go_wp2_with fail;refine(HTF2.out _).mono ?_;rintro e w6 ⟨rfl,b6⟩;have C2:=qz ((b6.cell (p:=⟨g2,off2+i,none⟩) hg2l).trans c1);have TX6:=qz (HTX2.out.below b6);have O6:=qz (aal hlst.out b6);have B6:=qz (aaa hbv.out b6);clear c1 b6 hg2l;go_wp2_with fail;refine(HSH.out _).mono ?_;rintro e w7 ⟨rfl,hw7⟩;subst hw7;have c2:=C2.out;go_wp2_with fail;refine(HTF2.out _).mono ?_;rintro e w8 ⟨rfl,b8⟩;have C3:=qz ((b8.cell (p:=⟨g2,off2+i,none⟩) (aa1 c2)).trans c2);have TX8:=qz (TX6.out.below b8);have O8:=qz (aal O6.out b8);have B8:=qz (aaa B6.out b8);clear c2 b8;go_wp2_with fail;refine(HNC2.out _).mono ?_;rintro e w9 ⟨rfl,hw9⟩;subst hw9;go_wp2_with fail;refine(HTB.out _).mono ?_;rintro e w10 ⟨rfl,b10⟩;have c4:=(b10.cell (p:=⟨g2,off2+i,none⟩) (aa1 C3.out)).trans C3.out;have TX10:=qz (TX8.out.below b10);have O10:=qz (aal O8.out b10);have B10:=qz (aaa B8.out b10);have hz10:=B10.out.size;clear b10;have HSx:Hid ((Bk++[T]).map sv=Bk.map sv++[.string (S T)]):=by show _=_;rw[List.map_append];rfl
              have hBl:Bk.length<=61:=by
                have e1:=hpm.out.length_eq;have e2:=hpre.out.flat.length_eq;simp only[lla,List.length_cons]at e1 e2;omega
              go_wp2_with (at_builtin;refine aaw rfl (.tmp 68) (.tmp 73) 29 rfl w4.heap.size w4.heap.size 9 i0 (.string ⟨#[]⟩) 16 underlying29 hi hz0 hz1 hz2 rfl u11 Bk.length _ rfl (O10.out.alloc _) _ 1 [.string (S T)] rfl (aa3 w10 (.string (S T)) 9 w4.heap.size hz10) (fun u hu=>by simp at hu;subst hu;rfl) ?c2 ?c3 ?c4 ?_)
              case c2=>unfold maxLen;omega
              case c3=>omega
              case c4=>simp;omega
              intro v11 w11 hown11 hgrow11 hor11;have TX11:Hid (TxAt w11 g2 off2 Lc):=fun j hj=>hgrow11.cell ((TX10.out.below ((Below.refl w10.heap.size w10).alloc (nl _) _)) j hj) (fun e=>HNE2.out e.symm)
              have O11:Hid (w11.ownsRow w4.heap.size 9 1 v11 (Bk++[T]).length ((Bk++[T]).map sv)):=by
                show World.ownsRow _ _ _ _ _ _ _;rw[HSx.out,lla];exact hown11
              have B11:=qz (aas (B10.out.alloc hz10 _) hgrow11 (fun g e=>(O10.out.lt g e).1) (by simp;omega))
              have HN11:Hid (v11.ownBlock≠some g2):=fun e=>by
                have hg10:g2<w10.heap.size:=aa1 c4;rcases hor11 with h|h
                · exact HNE2.out (h▸e)
                · rw[h]at e;simp at e;omega
              have hz11:=B11.out.size;clear c4 hown11 hgrow11 hor11;have q1:(0:Int)<=(i:Int):=by omega
              have q2:(i:Int)<=(c:Int):=by omega
              have q3:(i:Int)+1<=(Lc.length:Int):=by omega
              have q4:(Lc.length:Int)<=(c:Int):=by omega
              have q5:(0:Int)<=(i:Int)+1:=by omega
              have q6:(i:Int)+1<=(c:Int):=by omega
              have hg11:Hid (g2<w11.heap.size):=aa1 (TX11.out i hit);have hel:Hid ((Lc.eraseIdx i).length+1=Lc.length):=by show _=_;rw[List.length_eraseIdx_of_lt hit];omega
              have LXN:Hid (∀(W:World) (v:Value),W.ownsRow w11.heap.size 9 1 v (0+i+(Lc.length - (i+1))) ([]++(Lc.take i).map sv++(Lc.drop (i+1)).map sv)->W.ownsRow w11.heap.size 9 1 v (Lc.eraseIdx i).length ((Lc.eraseIdx i).map sv)):=fun W v h=>by
                have e1:(Lc.eraseIdx i).length=0+i+(Lc.length - (i+1)):=by rw[List.length_eraseIdx_of_lt hit];omega
                have e2:(Lc.eraseIdx i).map sv=[]++(Lc.take i).map sv++(Lc.drop (i+1)).map sv:=by rw[List.eraseIdx_eq_take_drop_succ,List.map_append];rfl
                rw[e1,e2];exact h
              have hPM:Hid ((Bk++[T]++Lc.eraseIdx i).Perm (T0::Lr)):=by
                have e1:Lc.Perm (T::Lc.eraseIdx i):=by rw[HT.out];exact agv Lc i hit
                refine List.Perm.trans ?_ hpm.out;rw[List.append_assoc];exact(e1.symm.append_left Bk)
              have hBL:Hid (Blk fr (Bk++[T])):=by
                refine akf hblk.out (aem fr T) ?_;have hn:=hshr.out;unfold Apt at hn;obtain⟨z,hz⟩:=Classical.not_forall.1 hn;obtain⟨z1,hz⟩:=Classical.not_imp.1 hz;obtain⟨z2,_⟩:=Classical.not_imp.1 hz;exact⟨z,z1,z2⟩
              have hwr:IntKind.i64.wrap ((i:Int)+1)=(i:Int)+1:=by rw[IntKind.wrap_i64]<;>omega
              by_cases hci:c=i+1
              · subst hci
                have q2b:(i:Int)<=(i:Int)+1:=by omega
                have q4b:(Lc.length:Int)<=(i:Int)+1:=by omega
                clear q2 q4 q6;go_wp2_with fail
                go_region_held3 (fun w'=>TxAt w' g2 off2 Lc) (first|assumption|exact TX11.out|exact TX11.out.below (Below.drew (Below.refl _ _))|exact TX11.out.below (bra)|exact TX11.out.below (Below.drew (bra)))
                  ((first
                    | (refine abE (by rfl) (.tmp 75) (.tmp 78) _ (by rfl) (w11.heap.size) 9 i0 _ 1 16 underlying29 hi hz0 hz1 hz2 (by rfl) (by omega) _ 0 [] (by rfl) (akx _ _ _ (nl _)) ⟨g2,off2,none⟩ i _ ((Lc.take i).map sv) (by rfl) (by simp;omega) ((by assumption:TxAt _ g2 off2 Lc).take i) (ajq _) (by unfold maxLen;omega) (by omega) (by simp) ?_
                       intro v1 W1 hown1 hgrow1 hor1;have y1:TxAt W1 g2 off2 Lc:=(by assumption:TxAt _ g2 off2 Lc).grown hgrow1 (fun e=>Nat.ne_of_lt hg11.out (Option.some.inj e));have z1:=qz hown1;have bb1:=qz (aas (B:=w11.heap.size) (Below.drew ((Below.refl w11.heap.size w11).alloc (nl _) (.cells #[] 9))) hgrow1 (fun g e=>by simp[Value.ownBlock]at e;omega) (by simp));have zz1:=bb1.out.size
                       clear hown1 hgrow1 hor1)
                    | (refine abE (by rfl) (.tmp 79) (.tmp 83) _ (by rfl) (w11.heap.size) 9 i0 _ 1 16 underlying29 hi hz0 hz1 hz2 (by rfl) (by omega) _ (0+i) _ (by rfl) z1.out ⟨g2,off2,none⟩ 0 0 [] (by rfl) (by rfl) (fun j u hj=>by simp at hj) (fun u hu=>by simp at hu) (by unfold maxLen;omega) (by omega) zz1 ?_
                       intro v2 W2 hown2 hgrow2 hor2;have y2:TxAt W2 g2 off2 Lc:=y1.grown hgrow2 (ao7 z1.out hg11.out);have z2:=qz hown2;have bb2:=qz (aas bb1.out hgrow2 (fun g e=>(z1.out.lt g e).1) zz1)
                       clear hown2 hgrow2 hor2)
                    | fail))
                go_wp2_with fail;have zz:=LXN.out _ _ (by rw[show Lc.length - (i+1)=0 by omega,show Lc.drop (i+1)=[] from List.drop_eq_nil_of_le (by omega)];exact z2.out);obtain⟨p9,c9,rfl⟩:=aaD zz
                have hx9:Hid (Lc.eraseIdx i≠[]->∃g off,p9=some ⟨g,off,none⟩/\(Lc.eraseIdx i).length<=c9/\TxAt W2 g off (Lc.eraseIdx i)/\v11.ownBlock≠some g/\∀b,u9.ownBlock=some b->b≠g):=fun hne=>by
                  obtain⟨g9,e1,e2,e3,e4,e5⟩:=act zz (List.length_pos_iff.2 hne);exact⟨g9,0,e1,e4,fun j hj=>by rw[Nat.zero_add];exact e5 j _ (by rw[List.getElem?_map,List.getElem?_eq_getElem hj];rfl),fun e=>by have:=(O11.out.lt _ e).2;omega,fun b hb=>by have:=hlt9 b hb;omega⟩
                have O12:=qz (aeN O11.out fun g hg=>bb2.out.block g ((O11.out.lt g hg).2));have B12:Hid (Zb w4 W2):=aes B11.out bb2.out hz11
                go_roundg ((Lc.eraseIdx i).length * 1000+1000)
                case rel=>exact⟨⟨Bk++[T],Lc.eraseIdx i,0,_,_,rfl,Nat.zero_le _,by omega,rfl,rfl,hBL,hPM,fun j _ h=>absurd h (Nat.not_lt_zero _),O12,hx9⟩,B12⟩
                case measure=>have:=hel.out;omega
              · have q14:(i:Int)+1<(c:Int):=by omega
                go_wp2_with fail
                go_region_held3 (fun w'=>TxAt w' g2 off2 Lc) (first|assumption|exact TX11.out|exact TX11.out.below (Below.drew (Below.refl _ _))|exact TX11.out.below (bra)|exact TX11.out.below (Below.drew (bra)))
                  ((first
                    | (refine abE (by rfl) (.tmp 75) (.tmp 78) _ (by rfl) (w11.heap.size) 9 i0 _ 1 16 underlying29 hi hz0 hz1 hz2 (by rfl) (by omega) _ 0 [] (by rfl) (akx _ _ _ (nl _)) ⟨g2,off2,none⟩ i c ((Lc.take i).map sv) (by rfl) (by simp;omega) ((by assumption:TxAt _ g2 off2 Lc).take i) (ajq _) (by unfold maxLen;omega) (by omega) (by simp) ?_
                       intro v1 W1 hown1 hgrow1 hor1;have y1:TxAt W1 g2 off2 Lc:=(by assumption:TxAt _ g2 off2 Lc).grown hgrow1 (fun e=>Nat.ne_of_lt hg11.out (Option.some.inj e));have z1:=qz hown1;have bb1:=qz (aas (B:=w11.heap.size) (Below.drew ((Below.refl w11.heap.size w11).alloc (nl _) (.cells #[] 9))) hgrow1 (fun g e=>by simp[Value.ownBlock]at e;omega) (by simp));have zz1:=bb1.out.size
                       clear hown1 hgrow1 hor1)
                    | (refine abE (by rfl) (.tmp 79) (.tmp 83) _ (by rfl) (w11.heap.size) 9 i0 _ 1 16 underlying29 hi hz0 hz1 hz2 (by rfl) (by omega) _ (0+i) _ (by rfl) z1.out ⟨g2,off2+(i+1),none⟩ (Lc.length - (i+1)) (c - (i+1)) ((Lc.drop (i+1)).map sv) (by rfl) (by simp) (y1.drop (i+1)) (ajq _) (by unfold maxLen;omega) (by omega) zz1 ?_
                       intro v2 W2 hown2 hgrow2 hor2;have y2:TxAt W2 g2 off2 Lc:=y1.grown hgrow2 (ao7 z1.out hg11.out);have z2:=qz hown2;have bb2:=qz (aas bb1.out hgrow2 (fun g e=>(z1.out.lt g e).1) zz1)
                       clear hown2 hgrow2 hor2)
                    | fail))
                go_wp2_with fail;have zz:=LXN.out _ _ z2.out;obtain⟨p9,c9,rfl⟩:=aaD zz
                have hx9:Hid (Lc.eraseIdx i≠[]->∃g off,p9=some ⟨g,off,none⟩/\(Lc.eraseIdx i).length<=c9/\TxAt W2 g off (Lc.eraseIdx i)/\v11.ownBlock≠some g/\∀b,u9.ownBlock=some b->b≠g):=fun hne=>by
                  obtain⟨g9,e1,e2,e3,e4,e5⟩:=act zz (List.length_pos_iff.2 hne);exact⟨g9,0,e1,e4,fun j hj=>by rw[Nat.zero_add];exact e5 j _ (by rw[List.getElem?_map,List.getElem?_eq_getElem hj];rfl),fun e=>by have:=(O11.out.lt _ e).2;omega,fun b hb=>by have:=hlt9 b hb;omega⟩
                have O12:=qz (aeN O11.out fun g hg=>bb2.out.block g ((O11.out.lt g hg).2));have B12:Hid (Zb w4 W2):=aes B11.out bb2.out hz11
                go_roundg ((Lc.eraseIdx i).length * 1000+1000)
                case rel=>exact⟨⟨Bk++[T],Lc.eraseIdx i,0,_,_,rfl,Nat.zero_le _,by omega,rfl,rfl,hBL,hPM,fun j _ h=>absurd h (Nat.not_lt_zero _),O12,hx9⟩,B12⟩
                case measure=>have:=hel.out;omega
          · obtain rfl:i=Lc.length:=by omega
            have hBn:0<Bk.length:=List.length_pos_iff.2 hblk.out.ne
            have hBl:Bk.length<=61:=by
              have e1:=hpm.out.length_eq;have e2:=hpre.out.flat.length_eq;simp only[lla,List.length_cons]at e1 e2;omega
            obtain⟨gB,cB,CB,hvB,hgB,hcB⟩:=agF hlst.out hBn;subst hvB
            have hsub:∃R,(Bk++R).Perm us:=by
              have e1:=(hpm.out.append_left P.flatten).trans hpre.out.flat;refine⟨P.flatten++Lc,?_⟩;refine List.Perm.trans ?_ e1;rw[<-List.append_assoc,<-List.append_assoc];exact List.perm_append_comm.append_right _
            obtain⟨R,hR⟩:=hsub;obtain⟨fS,fI⟩:=adY HL.out hR;have HFS:=qz fS
            have hTs:∀T∈Bk,(S T).size<=1000:=fun T hT=>by
              have hTu3:T∈us:=hR.mem_iff.1 (lma.2 (.inl hT));have:=akw (fun T:Tm=>T.pr.length) hTu3;have:=HL.out.pl;rw[aan];omega
            have HNT:=aen wr gB Bk.length cB CB (Bk.map S) ⟨#[38]⟩ (by simp) hBn (by omega) (by decide) (fun x hx=>by obtain⟨T,hT,rfl⟩:=List.mem_map.1 hx;exact hTs T hT) (fun j hj=>by
              have hj':j<Bk.length:=by simpa using hj
              have:=hcB j (.string (S Bk[j])) (by rw[List.getElem?_map,List.getElem?_eq_getElem hj'];rfl)
              rw[this];simp) hgB
            rw[afx Bk hblk.out.ne]at HNT;have HNT2:=qz HNT;obtain⟨N,hN⟩:∃N,N=nB fr Bk:=⟨_,rfl⟩;have HN:=qz hN;rw[<-hN]at hnBl ⊢;obtain⟨XN,hXN⟩:∃XN,XN=B N:=⟨_,rfl⟩;have hxs:XN.size=N.length:=by rw[hXN,asq]
            have HXN:Hid (∀k (h:k<N.length),XN.extract k (k+1)=B [N[k]]):=fun k h=>by rw[hXN];exact auL N k h
            rw[<-hXN]
            have hts0:(S (joinR .par Bk)).size<=700:=by
              have h8:=aiJ Bk;have h9:=ahA (fun T:Tm=>T.pr.length) hR;have:=HL.out.pl;have:=hR.length_eq;rw[lla]at this
              rw[aan];omega
            have HW0:Hid (∀k,k<=N.length->(S (wrapO (N.take k).reverse (joinR .par Bk))).size<=720):=fun k hk=>by
              rw[aan,adX,List.length_reverse];have:=List.length_take_le k N;rw[aan]at hts0;omega
            clear hN hXN HNT hTs hgB hcB hts0;go_wp2_with fail;refine(HNT2.out).mono ?_;rintro e wz ⟨rfl,hwz⟩;subst hwz;go_wp2_with fail
            go_loopg [13,14] N.length (fun gm s13 s14 wz=>(∃k:Nat,s14=.int .i64 (k:Int)/\k+gm=N.length/\s13=.string (S (wrapO (N.take k).reverse (joinR .par Bk))))/\wz=wr)
            case atStart=>exact⟨⟨0,by congr 1,by omega,rfl⟩,rfl⟩
            case round=>
              obtain⟨⟨k,rfl,hkm,rfl⟩,rfl⟩:=hrel
              by_cases hltk:(k:Int)<(N.length:Int)
              · have hkN:k<N.length:=by omega
                obtain⟨a,ha⟩:∃a,a=N[k]:=⟨_,rfl⟩;have hex:XN.extract k (k+1)=B [a]:=by rw[ha];exact HXN.out k hkN
                have hws:=HW0.out k (by omega)
                have hnx:wrapO (N.take (k+1)).reverse (joinR .par Bk)=.own a (wrapO (N.take k).reverse (joinR .par Bk)):=by
                  rw[List.take_succ_eq_append_getElem hkN,List.reverse_append,<-ha];rfl
                obtain⟨t,ht⟩:∃t,t=wrapO (N.take k).reverse (joinR .par Bk):=⟨_,rfl⟩;rw[<-ht]at hnx hws ⊢
                have HNX:Hid (((⟨#[35]⟩:ByteArray)++XN.extract k (k+1))++⟨#[46]⟩++S t=S (wrapO (N.take (k+1)).reverse (joinR .par Bk))):=by
                  show _=_;rw[hnx,hex];exact B_S [35,a,46] t (.own a t) rfl
                have hexs:(XN.extract k (k+1)).size=1:=by rw[hex];rfl
                have q21:(0:Int)<=(k:Int):=by omega
                have q22:(k:Int)+1<=(XN.size:Int):=by omega
                have hd1:((⟨#[35]⟩:ByteArray)).size=1:=rfl;have hd2:((⟨#[46]⟩:ByteArray)).size=1:=rfl;clear ha hex hnx ht;go_wp2_with fail
                go_roundg (gk - 1)
                case rel=>exact⟨⟨k+1,by congr 1,by omega,by rw[<-HNX.out]⟩,rfl⟩
                case measure=>omega
              · obtain rfl:k=N.length:=by omega
                have htx:wrapO (N.take N.length).reverse (joinR .par Bk)=tS fr Bk:=by rw[List.take_length,HN.out];rfl
                rw[htx]
                have hAl:∀T∈Lc,Apt fr Bk [T]:=fun T hT=>by
                  obtain⟨j,hj,rfl⟩:=List.mem_iff_getElem.1 hT;exact hapt.out j hj hj
                have HP:=qz (arf hpre.out hblk.out hpm.out hAl)
                have hkl:Bk.length+Lc.length=Lr.length+1:=by
                  have e1:=hpm.out.length_eq;simpa using e1
                have O9c:=qz (aal O9.out hbv.out);have Bc:=qz (aaa B4.out hbv.out);clear htx hAl hltk
                cases hnf:nfS (tS fr Bk) with
                | none=>
                  have HNF:Hid (Zr 49 #[.string (S (tS fr Bk))] (.tuple #[.string ⟨#[]⟩,.bool false])):=fun w=>by
                    have:=aeR _ HFS.out.sz HFS.out.ft HFS.out.ok (by have:=HFS.out.pl;omega) w;rw[hnf]at this;exact this
                  have HCN:Hid (CompNo fr us):=by
                    obtain⟨P',hP'⟩:=at0 HP.out;exact⟨(P++[Bk])++P',hP',Bk,by simp,hnf⟩
                  clear hnf;go_wp2_with fail;refine(HNF.out _).mono ?_;rintro e w5 ⟨rfl,b5⟩;go_wp2_with fail;go_ret2;exact .inr ⟨HCN.out,rfl,aaa Bc.out b5⟩
                | some r=>
                  have HNF:Hid (Zr 49 #[.string (S (tS fr Bk))] (.tuple #[.string (S r),.bool true])):=fun w=>by
                    have:=aeR _ HFS.out.sz HFS.out.ft HFS.out.ok (by have:=HFS.out.pl;omega) w;rw[hnf]at this;exact this
                  have HALL:Hid (All2 (fun B r=>nfS (tS fr B)=some r) (P++[Bk]) (rs++[r])):=agG (R:=fun B r=>nfS (tS fr B)=some r) hnf hall.out;clear hnf;go_wp2_with fail;refine(HNF.out _).mono ?_;rintro e w5 ⟨rfl,b5⟩;have O95:=qz (aal O9c.out b5);have B5:=qz (aaa Bc.out b5)
                  have hlv5:Hid (Lc≠[]->∃g off,p=some ⟨g,off,none⟩/\Lc.length<=c/\TxAt w5 g off Lc/\∀b,u9.ownBlock=some b->b≠g):=fun hne=>by
                    obtain⟨g8,o8,e1,e2,e3,e4,e5⟩:=hlv.out hne;exact⟨g8,o8,e1,e2,e3.below b5,e5⟩
                  have hz5:=B5.out.size;have HSy:Hid ((rs++[r]).map sv=rs.map sv++[.string (S r)]):=by show _=_;rw[List.map_append];rfl
                  clear b5
                  go_wp2_with (at_builtin;refine aaw rfl (.tmp 109) (.tmp 111) 29 rfl w.heap.size w.heap.size 9 i0 (.string ⟨#[]⟩) 16 underlying29 hi hz0 hz1 hz2 rfl u9 rs.length _ rfl (O95.out.alloc _) _ 1 [.string (S r)] rfl (aa3 w5 (.string (S r)) 9 w.heap.size hz5) (fun u hu=>by simp at hu;subst hu;rfl) ?c2 ?c3 ?c4 ?_)
                  case c2=>unfold maxLen;omega
                  case c3=>omega
                  case c4=>simp;omega
                  intro v11 w11 hown11 hgrow11 hor11
                  have O11:Hid (w11.ownsRow w.heap.size 9 1 v11 (rs++[r]).length ((rs++[r]).map sv)):=by
                    show World.ownsRow _ _ _ _ _ _ _;rw[HSy.out,lla];exact hown11
                  have B11:=qz (aas (B5.out.alloc hz5 _) hgrow11 (fun g e=>(O95.out.lt g e).1) (by simp;omega))
                  have hlv11:Hid (Lc≠[]->∃g off,p=some ⟨g,off,none⟩/\Lc.length<=c/\TxAt w11 g off Lc/\∀b,v11.ownBlock=some b->b≠g):=fun hne=>by
                    obtain⟨g8,o8,e1,e2,e3,e5⟩:=hlv5.out hne;have hg8:g8<w5.heap.size:=aa1 (e3 0 (List.length_pos_iff.2 hne));refine⟨g8,o8,e1,e2,fun j hj=>hgrow11.cell ((e3.below ((Below.refl w5.heap.size w5).alloc (nl _) _)) j hj) (fun e=>e5 g8 e.symm rfl),fun b hb=>?_⟩;rcases hor11 with h|h
                    · exact e5 b (h▸hb)
                    · rw[hb]at h
                      have:=Option.some.inj h
                      have h3:w5.heap.size<=b:=by rw[this];first|exact nl _|(simp;done)|(simp;omega)
                      omega
                  clear hown11 hgrow11 hor11 hlv hlv5;go_wp2_with fail
                  go_roundg Lc.length
                  case rel=>exact⟨⟨P++[Bk],Lc,rs++[r],p,c,rfl,rfl,by rw[lla];simp;omega,HP,HALL,O11,hlv11⟩,B11⟩
                  case measure=>omega
theorem ao8 (B:List Tm)(k:Nat)(h:k<B.length):ahG (B.take (k+1))=.par B[k] (ahG (B.take k)):=by
 unfold ahG;rw[List.take_succ_eq_append_getElem h,List.foldl_append];rfl
theorem alU (N:List UInt8)(k:Nat)(h:k<N.length)(t:Tm):wrapO (N.take (k+1)).reverse t=.own N[k] (wrapO (N.take k).reverse t):=by
 rw[List.take_succ_eq_append_getElem h,List.reverse_append];rfl
theorem alV (N:List UInt8)(n:Nat)(hn:n<2 ^ 32)(hN:lets n 26=N)(hNl:N.length<=26)(Bk:List Tm)(hB:Bk.length<=300)(base:Nat)(v:Value)(w:World)(ho:w.ownsRow base 38 1 v Bk.length (Bk.map enc)) : Calls prog 69 #[.agg #[.int .u32 (n:Int),v]] w fun e w'=>e=.returned (enc (wrapO N.reverse (ahG Bk)))/\Zb w w':=by
 have HLE:=fun w=>qz (ado n hn w);rw[hN]at HLE;obtain⟨p,c,rfl⟩:=aaD ho
 have h0:Bk≠[]->∃g,p=some ⟨g,0,none⟩/\Bk.length<=c/\∀j (hj:j<Bk.length),w.cell? ⟨g,j,none⟩=some (enc Bk[j]):=fun hne=>by
  obtain⟨g,e1,e2,e3,e4,e5⟩:=act ho (List.length_pos_iff.2 hne);exact⟨g,e1,e4,fun j hj=>e5 j _ (by rw[List.getElem?_map,List.getElem?_eq_getElem hj];rfl)⟩
 have H0:=qz h0;clear ho h0 hn hN
 go_enter func69,ntmps69
 go_wp2_with fail
 go_loopg [3,13] Bk.length (fun gk s3 s13 wr=>(∃k:Nat,s13=.int .i64 (k:Int)/\k+gk=Bk.length/\s3=enc (ahG (Bk.take k)))/\Zb w wr/\wr.cell? ⟨w.heap.size,0,none⟩=some (.int .u32 (n:Int)))
 case atStart=>exact⟨⟨0,by congr 1,by omega,rfl⟩,bra,(cell_of_row _ _ _ _ _ _ (heap_alloc_new w _)).trans rfl⟩
 case round=>
  obtain⟨⟨k,rfl,hkg,rfl⟩,hbw,hcn⟩:=hrel
  by_cases hlt:(k:Int)<(Bk.length:Int)
  ·have hk:k<Bk.length:=by omega
   obtain⟨g,rfl,hcl,hc⟩:=H0.out (by intro e;subst e;simp at hk);obtain⟨T,hT⟩:∃T,T=Bk[k]:=⟨_,rfl⟩;have c0:wr.cell? ⟨g,k,none⟩=some (.iface (aaB T) (pay T)):=(hbw.cell (p:=⟨g,k,none⟩) (aa1 (hc k hk))).trans (by rw[hc k hk,hT];rfl);obtain⟨s,hs⟩:∃s,s=ahG (Bk.take k):=⟨_,rfl⟩;have HS:Hid (ahG (Bk.take (k+1))=.par T s):=by show _=_;rw[ao8 Bk k hk,hT,hs]
   rw[<-hs];have hes:enc s=.iface (aaB s) (pay s):=rfl;rw[hes];have BW:=qz hbw;have HCN:=qz hcn;clear hT hs hes hc hbw hcn;go_wp2_with fail
   go_roundg (gk - 1)
   case rel=>exact⟨⟨k+1,by congr 1,by omega,by rw[HS.out];rfl⟩,BW.out,HCN.out⟩
   case measure=>omega
  ·obtain rfl:k=Bk.length:=by omega
   rw[List.take_length];obtain⟨t,ht⟩:∃t,t=ahG Bk:=⟨_,rfl⟩;rw[<-ht];have BW:=qz hbw;have hes:enc t=.iface (aaB t) (pay t):=rfl;have HT:=qz ht;rw[hes];clear ht hbw hes;go_wp2_with fail;refine((HLE _).out).mono ?_;rintro e w2 ⟨vl,rfl,o2,b2⟩;obtain⟨pl,cl,rfl⟩:=aaD o2
   have h2:N≠[]->∃g,pl=some ⟨g,0,none⟩/\N.length<=cl/\∀j (hj:j<N.length),w2.cell? ⟨g,j,none⟩=some (ub N[j]):=fun hne=>by
    obtain⟨g,e1,e2,e3,e4,e5⟩:=act o2 (List.length_pos_iff.2 hne);exact⟨g,e1,e4,fun j hj=>e5 j _ (by rw[List.getElem?_map,List.getElem?_eq_getElem hj];rfl)⟩
   have H2:=qz h2;have B2:=qz (aaa BW.out b2);clear o2 h2 b2 hcn;go_wp2_with fail
   go_loopg [3,27] N.length (fun gk s3 s27 wz=>(∃k:Nat,s27=.int .i64 (k:Int)/\k+gk=N.length/\s3=enc (wrapO (N.take k).reverse t))/\wz=w2)
   case atStart=>exact⟨⟨0,by congr 1,by omega,rfl⟩,rfl⟩
   case round=>
    obtain⟨⟨k,rfl,hkm,rfl⟩,rfl⟩:=hrel
    by_cases hlt:(k:Int)<(N.length:Int)
    ·have hk:k<N.length:=by omega
     obtain⟨g,rfl,hcl,hc⟩:=H2.out (by intro e;subst e;simp at hk);obtain⟨a,ha⟩:∃a,a=N[k]:=⟨_,rfl⟩;have c0:wr.cell? ⟨g,k,none⟩=some (.int .u8 (a.toNat:Int)):=by rw[hc k hk,ha];rfl
     obtain⟨s,hs⟩:∃s,s=wrapO (N.take k).reverse t:=⟨_,rfl⟩;have HS:Hid (wrapO (N.take (k+1)).reverse t=.own a s):=by show _=_;rw[alU N k hk,ha,hs]
     rw[<-hs];have hes:enc s=.iface (aaB s) (pay s):=rfl;rw[hes];clear ha hs hes hc;go_wp2_with fail
     go_roundg (gk - 1)
     case rel=>exact⟨⟨k+1,by congr 1,by omega,by rw[HS.out];rfl⟩,rfl⟩
     case measure=>omega
    ·obtain rfl:k=N.length:=by omega
     rw[List.take_length];go_wp2_with fail;go_ret;exact⟨by rw[<-HT.out];rfl,B2.out⟩
structure Scan (fr:List UInt8) (T:Tm) (all:List (List Tm)) (k:Nat) (A:List (List Tm)) (D:List Tm):Prop where
 ex:∃J:List (List Tm),D=[T]++J.flatten/\(A++J).Perm (all.take k)/\(∀B∈A,Apt fr B [T])/\∀B∈J,¬Apt fr B [T]
theorem alW (fr:List UInt8)(T:Tm)(all:List (List Tm)):Scan fr T all 0 [] [T]:=⟨[],by simp,by simp,by simp,by simp⟩
theorem aky {fr:List UInt8}{T:Tm}{all J:List (List Tm)}{us:List Tm}{k:Nat}(h:Part fr all us)(hk:k<all.length)(hJ:∀B∈J,B∈all.take k):Apt fr all[k] ([T]++J.flatten)↔Apt fr all[k] [T]:=by
 constructor
 ·intro ha z h1 h2;obtain⟨x,hx,hz⟩:=h2;exact ha z h1 ⟨x,lma.2 (.inl hx),hz⟩
 ·intro ha z h1 h2;obtain⟨x,hx,hz⟩:=h2;rcases lma.1 hx with hx|hx
  ·exact ha z h1 ⟨x,hx,hz⟩
  ·obtain⟨B,hB,hxB⟩:=List.mem_flatten.1 hx;obtain⟨i,hi,rfl⟩:=List.mem_iff_getElem.1 (hJ B hB);have hik:i<k:=by rw[List.length_take]at hi;omega
   rw[List.getElem_take]at hxB;exact(List.pairwise_iff_getElem.1 h.apt i k (by omega) hk hik) z ⟨x,hxB,hz⟩ h1
theorem alX {fr:List UInt8}{T:Tm}{all A:List (List Tm)}{D us:List Tm}{k:Nat}(h:Part fr all us)(hk:k<all.length)(hs:Scan fr T all k A D)(ha:Apt fr all[k] D):Scan fr T all (k+1) (A++[all[k]]) D:=by
 obtain⟨J,e,hp,h1,h2⟩:=hs.ex;have hJ:∀B∈J,B∈all.take k:=fun B hB=>hp.mem_iff.1 (lma.2 (.inr hB));rw[e,aky h hk hJ]at ha;refine⟨J,e,?_,fun B hB=>?_,h2⟩
 ·rw[List.take_succ_eq_append_getElem hk]
  have:(A++[all[k]]++J).Perm (A++J++[all[k]]):=by
   rw[List.append_assoc,List.append_assoc];exact List.perm_append_comm.append_left A
  exact this.trans (hp.append_right _)
 ·rcases lma.1 hB with hB|hB
  ·exact h1 B hB
  ·rw[List.mem_singleton]at hB;subst hB;exact ha
theorem ao9 {fr:List UInt8}{T:Tm}{all A:List (List Tm)}{D us:List Tm}{k:Nat}(h:Part fr all us)(hk:k<all.length)(hs:Scan fr T all k A D)(ha:¬Apt fr all[k] D):Scan fr T all (k+1) A (D++all[k]):=by
 obtain⟨J,e,hp,h1,h2⟩:=hs.ex;have hJ:∀B∈J,B∈all.take k:=fun B hB=>hp.mem_iff.1 (lma.2 (.inr hB));rw[e,aky h hk hJ]at ha;refine⟨J++[all[k]],?_,?_,h1,fun B hB=>?_⟩
 ·rw[e,List.flatten_append,List.append_assoc];simp
 ·rw[List.take_succ_eq_append_getElem hk,<-List.append_assoc];exact hp.append_right _
 ·rcases lma.1 hB with hB|hB
  ·exact h2 B hB
  ·rw[List.mem_singleton]at hB;subst hB;exact ha
theorem ao_ {fr:List UInt8}{T:Tm}{all A:List (List Tm)}{D us:List Tm}(h:Part fr all us)(hs:Scan fr T all all.length A D):Part fr (A++[D]) (us++[T]):=by
 obtain⟨J,rfl,hp,h1,h2⟩:=hs.ex;rw[List.take_length]at hp;exact akv T h hp h1 h2
theorem awc {fr:List UInt8}{B D:List Tm}:Apt fr B D↔∀z,z∈nB fr B->z∉nB fr D:=
 ⟨fun h z h1 h2=>h z ((acZ fr B z).1 h1) ((acZ fr D z).1 h2),fun h z h1 h2=>h z ((acZ fr B z).2 h1) ((acZ fr D z).2 h2)⟩
theorem nB_both (fr:List UInt8)(B D:List Tm)(z:UInt8):z∈nB fr (B++D)↔z∈nB fr B\/z∈nB fr D:=by
 rw[acZ,acZ,acZ];constructor
 ·rintro⟨x,hx,hz⟩;exact(lma.1 hx).elim (fun h=>.inl ⟨x,h,hz⟩) fun h=>.inr ⟨x,h,hz⟩
 ·rintro (⟨x,hx,hz⟩|⟨x,hx,hz⟩)
  ·exact⟨x,lma.2 (.inl hx),hz⟩
  ·exact⟨x,lma.2 (.inr hx),hz⟩
theorem aiL {l:List UInt8}(h:Lets l){c:UInt8}(hc:97<=c.toNat):(setN l).testBit (c.toNat - 97)=true↔c∈l:=by
 rw[aaF l h];exact⟨fun ⟨x,hx,e⟩=>by rw[<-u8_ext (show x.toNat=c.toNat by omega)];exact hx,fun h=>⟨c,h,by omega⟩⟩
theorem apa (fr:List UInt8)(T:Tm):nB fr [T]=fr.filter fun z=>decide (z∈T.free):=by
 unfold nB;simp
theorem aca {fr:List UInt8}(B:List Tm)(h:∀c∈fr,97<=c.toNat/\c.toNat<=122):∀c∈nB fr B,97<=c.toNat/\c.toNat<=122:=fun c hc=>h c (List.mem_filter.1 hc).1
theorem awU {fr:List UInt8}(h:Lets fr)(B D:List Tm):setN (nB fr B) ||| setN (nB fr D)=setN (nB fr (B++D)):=by
 refine adx fun i=>?_;rw[Nat.testBit_or,Bool.or_eq_true,aaF _ (aca B h),aaF _ (aca D h),aaF _ (aca _ h)];constructor
 ·rintro (⟨c,hc,e⟩|⟨c,hc,e⟩)
  ·exact⟨c,(nB_both fr B D c).2 (.inl hc),e⟩
  ·exact⟨c,(nB_both fr B D c).2 (.inr hc),e⟩
 ·rintro⟨c,hc,e⟩;rcases (nB_both fr B D c).1 hc with hc|hc
  ·exact .inl ⟨c,hc,e⟩
  ·exact .inr ⟨c,hc,e⟩
theorem ar6 {fr:List UInt8}(h:Lets fr)(B D:List Tm):setN (nB fr B) &&& setN (nB fr D)=0↔Apt fr B D:=by
 rw[awc];constructor
 ·intro e z h1 h2;have hz:=aca B h z h1;have:=congrArg (fun n=>Nat.testBit n (z.toNat - 97)) e;simp only[Nat.testBit_and,Nat.zero_testBit]at this
  rw[(aiL (aca B h) hz.1).2 h1,(aiL (aca D h) hz.1).2 h2]at this
  cases this
 ·intro hd;refine Nat.eq_of_testBit_eq fun i=>?_;rw[Nat.zero_testBit,Nat.testBit_and,Bool.eq_false_iff];intro hb;rw[bae,aaF _ (aca B h),aaF _ (aca D h)]at hb;obtain⟨⟨c,hc,e1⟩,⟨d,hd',e2⟩⟩:=hb;obtain rfl:c=d:=u8_ext (by omega);exact hd c hc hd'
theorem arh {fr:List UInt8}(h:Lets fr)(T:Tm)(hT:Lets T.free):setN T.free &&& setN fr=setN (nB fr [T]):=by
 rw[apa,akh h hT,Nat.and_comm]
end Go.Proofs.YtalegefnppbkdaaGreat.T1
