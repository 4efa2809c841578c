/- Texts of the proof. No conditions. -/
import Derived.Test.YtalegefnppbkdaaGreatQay
import Derived.Laws.OwnMore
namespace Go.Proofs.YtalegefnppbkdaaGreat.T1
open Go.Proofs.Tryz
set_option maxHeartbeats 2000000
open Go.RowKit
set_option maxRecDepth 100000
set_option linter.unusedVariables false
set_option linter.unusedSimpArgs false
def aub (k a b:Int)(r:ByteArray)(st:Bool):List Value:=[.int .u8 k,.int .u8 a,.int .u8 b,.string r,.bool st]
def aqt (xs:List Value)(n:Nat)(w:World)(e:Ending)(w':World):Prop:=
 ∃g c,e=.returned (.slice (some ⟨g,0,none⟩) n c)/\w'.ownsRow w.heap.size 105 5 (.slice (some ⟨g,0,none⟩) n c) n xs/\Zb w w'
theorem aoo {w w':World}{base n k:Nat}{e:TypeId}{v:Value}{xs:List Value}(h:w.ownsRow base e k v n xs)(hk:∀g,v.ownBlock=some g->w'.heap[g]?=w.heap[g]?):w'.ownsRow base e k v n xs:=by
 refine⟨h.1,h.2.imp id ?_⟩;rintro⟨g,cap,cur,hv,h2,h3,h4⟩;exact⟨g,cap,cur,hv,h2,(hk g (by rw[hv];rfl)).trans h3,h4⟩
theorem ahl {w:World}{base b2 n k:Nat}{e:TypeId}{v:Value}{xs:List Value}(h:w.ownsRow base e k v n xs)(hb:b2<=base):w.ownsRow b2 e k v n xs:=by
 refine⟨h.1,h.2.imp id ?_⟩;rintro⟨g,cap,cur,hv,h2,h3⟩;exact⟨g,cap,cur,hv,Nat.le_trans hb h2,h3⟩
theorem alA {w w':World}{base n k:Nat}{e:TypeId}{v:Value}{xs:List Value}(h:w.ownsRow base e k v n xs)(k':Zb w w'):w'.ownsRow base e k v n xs:=
 aoo h fun g hg=>k'.block g (h.lt g hg).2
theorem ael {w:World}{base k:Nat}{e:TypeId}{g n cap:Nat}{xs:List Value}(h:w.ownsRow base e k (.slice (some ⟨g,0,none⟩) n cap) n xs):∀j u,xs[j]?=some u->w.cell? ((⟨g,0,none⟩:Addr).add j)=some u:=by
 intro j u hj;rcases h.2 with⟨h1,_⟩|⟨g',cap',cur,h1,_,h3,_,_,_,h7⟩
 ·cases h1
 ·cases h1
  have hjl:j<xs.length:=by
   rcases Nat.lt_or_ge j xs.length with c|c
   ·exact c
   ·rw[List.getElem?_eq_none c]at hj;cases hj
  have hx:=h.1;have:(cur.toList.take (n * k))[j]?=some u:=by rw[h7];exact hj
  rw[List.getElem?_take,if_pos (by omega)]at this
  show w.cell? (Addr.add ⟨g,0,none⟩ j)=some u;have e2:(Addr.add ⟨g,0,none⟩ j)=⟨g,j,none⟩:=by cases j<;>simp[Addr.add]
  rw[e2];simp only[World.cell?,h3];simpa using this
theorem aj6 (w:World)(xs:Array Value)(e:TypeId)(k base:Nat)(hk:xs.size=k)(hb:base<=w.heap.size):(w.alloc (.cells xs e)).ownsRow base e k (.slice (some ⟨w.heap.size,0,none⟩) 1 1) 1 xs.toList:=by
 refine⟨by simp[hk],.inr ⟨w.heap.size,1,xs,rfl,hb,?_,nl _,by unfold maxLen;omega,by omega,by rw[Nat.one_mul,<-hk,Array.size_eq_length_toList,List.take_length]⟩⟩;show (w.heap.push _)[w.heap.size]?=_;simp
theorem aop {w:World}{base n k:Nat}{e:TypeId}{v:Value}{xs:List Value}(h:w.ownsRow base e k v n xs):w.drew.ownsRow base e k v n xs:=h
theorem aj7 (X:ByteArray)(k:Int)(h0:0<X.size)(h2:2<X.size)(h4:4<=X.size)(hm:X.size<=700)(hk:(k==33)=true\/((k==33)=false/\(k==63)=true))(HK:Ze 71 #[.string X] (.int .u8 k))(w:World) : Calls prog 99 #[.string X] w (aqt (aub k ((X[0]'h0).toNat:Int) ((X[2]'h2).toNat:Int) (X.extract 4 X.size) false) 1 w):=by
 have G1:=qz HK;clear HK;have hb1:(4:Int)<=(X.size:Int):=by omega
 have hb2:(2:Int)<(X.size:Int):=by omega
 have hb3:(0:Int)<(X.size:Int):=by omega
 rcases hk with hk|⟨hk0,hk⟩
 all_goals
  go_enter func99,ntmps99
  go_wp2_with fail;refine(G1.out _).mono ?_;rintro e w1 ⟨rfl,rfl⟩;go_wp2_with fail
  go_region_held3 (fun _=>4<=X.size/\X.size<=700) (exact⟨h4,hm⟩)
   ((first
    | (go_at_call 71;(with_reducible refine(G1.out _).mono ?_);rintro e w1 ⟨rfl,rfl⟩)
    | fail))
  all_goals go_wp2_with fail
  all_goals go_ret
  all_goals exact⟨_,_,rfl,aop (aj6 w #[_,_,_,_,_] 105 5 _ rfl (nl _)),Below.drew (bra)⟩
theorem asX (X:ByteArray)(k:Int)(h4:2<=X.size)(hm:X.size<=700)(hk:(k==33)=false)(hk1:(k==63)=false)(hk2:(k==126)=true)(HK:Ze 71 #[.string X] (.int .u8 k))(w:World) : Calls prog 99 #[.string X] w (aqt (aub 126 0 0 (X.extract 2 X.size) false) 1 w):=by
 have G1:=qz HK;clear HK
 go_enter func99,ntmps99
 go_wp2_with fail;refine(G1.out _).mono ?_;rintro e w1 ⟨rfl,rfl⟩;go_wp2_with fail;go_ret;refine⟨_,_,rfl,aj6 w #[_,_,_,_,_] 105 5 _ rfl (nl _),bra⟩
theorem aeO (X:ByteArray)(k:Int)(hk:(k==33)=false)(hk1:(k==63)=false)(hk2:(k==126)=false)(hk3:(k==43)=false)(hk4:(k==42)=false)(HK:Ze 71 #[.string X] (.int .u8 k))(w:World) : Calls prog 99 #[.string X] w fun e w'=>e=.returned (.slice none 0 0)/\Zb w w':=by
 have G1:=qz HK;clear HK
 go_enter func99,ntmps99
 go_wp2_with fail;refine(G1.out _).mono ?_;rintro e w1 ⟨rfl,rfl⟩;go_wp2_with fail;go_ret;exact⟨rfl,Below.refl _ _⟩
theorem Tryz.infoOf:(prog.info? 105).map (fun i=>(i.zero,i.size,i.bytes))=some (some (.agg #[.int .u8 0,.int .u8 0,.int .u8 0,.string ⟨#[]⟩,.bool false]),5,32):=by kernel_rfl
theorem asY (X u v:ByteArray)(k:Int)(hk:(k==33)=false)(hk1:(k==63)=false)(hk2:(k==126)=false)(hk3:(k==43)=true)(HK:Ze 71 #[.string X] (.int .u8 k))(xs ys:List Value)(n m:Nat)(hn:n<=1000)(hm:m<=1000)(hm0:0<m)(h1:∀x∈ys,x.oneCell'=true) (HP:∀w,Calls prog 72 #[.string X] w fun e w'=>∃b,e=.returned (.slice (some ⟨b,0,none⟩) 2 2)/\w.heap.size<=b/\w'.heap[b]?=some (.cells #[.string u,.string v] 9 (0,0))/\Zb w w') (HU:∀w,Calls prog 99 #[.string u] w (aqt xs n w))(HV:∀w,Calls prog 99 #[.string v] w (aqt ys m w))(w:World) : Calls prog 99 #[.string X] w (aqt (xs++ys) (n+m) w):=by
  obtain⟨j0,hj,hy0,hy1,hy2⟩:=info_parts Tryz.infoOf;have G1:=qz HK;have G2:=qz HP;have GU:=qz HU;have GV:=qz HV;have H1:=qz h1;clear HK HP HU HV h1
  go_enter func99,ntmps99
  go_wp2_with fail;refine(G1.out _).mono ?_;rintro e w1 ⟨rfl,rfl⟩;go_wp2_with fail;refine(G2.out _).mono ?_;rintro e W ⟨b,rfl,hb,hh,bW⟩;have c0:=aai hh;have c1:=aak hh;have hbl:=World.block_lt_of_cell? W _ c0;have hbW:=bW.size;clear hh;go_wp2_with fail
  go_region_held3 (fun w'=>w'.cell? ⟨b,0,none⟩=some (.string u)/\w'.cell? ⟨b,1,none⟩=some (.string v)) (first|exact⟨c0,c1⟩|exact⟨y0,y1⟩|exact⟨z0,z1⟩|exact⟨r0,r1⟩)
    ((first
      | (go_at_call_of 99 u;(with_reducible refine(GU.out _).mono ?_);rintro e w1 ⟨g1,k1,rfl,o1,b1⟩;have r0:=(b1.cell (p:=⟨b,0,none⟩) hbl).trans c0;have r1:=(b1.cell (p:=⟨b,1,none⟩) hbl).trans c1;have O1:=qz (ahl (b2:=W.heap.size) o1 (nl _));have B1:=qz (aaa bW.drew b1);have hz1:W.heap.size<=w1.heap.size:=b1.size;clear o1 b1)
      | (go_at_call_of 99 v;(with_reducible refine(GV.out _).mono ?_);rintro e w2 ⟨g2,k2,rfl,o2,b2⟩;have z0:=(b2.cell (p:=⟨b,0,none⟩) (aa1 r0)).trans r0;have z1:=(b2.cell (p:=⟨b,1,none⟩) (aa1 r1)).trans r1;have O2:=qz (ahl (b2:=W.heap.size) o2 hz1);have Q1:=qz (alA O1.out b2);have B2:=qz (aaa B1.out b2);have hz2:W.heap.size<=w2.heap.size:=Nat.le_trans hz1 b2.size;clear o2 b2)
      | (refine step_append_lies _ (by rfl) (.tmp 34) (.tmp 38) _ (by rfl) W.heap.size 105 j0 _ 5 32 underlying102 hj hy0 hy1 hy2 (by rfl) (by omega) _ n xs (by rfl) Q1.out ⟨g2,0,none⟩ m k2 ys (by rfl) O2.out.1 (ael O2.out) H1.out hm0 (by unfold maxLen;omega) (by omega) hz2 _ rfl ?_
         intro g3 c3 w3 hown3 hgrow3 hat3 hlt3
         have hne3:(some b:Option Nat)≠(Value.slice (some ⟨g1,0,none⟩) n k1).ownBlock:=fun e=>by
           have:=(Q1.out.lt _ e.symm).1;have hbb:b<W.heap.size:=hbl;omega
         have y0:=hgrow3.cell z0 hne3;have y1:=hgrow3.cell z1 hne3;have O3:=qz hown3;have B3:=qz (aas B2.out hgrow3 (fun g e=>Nat.le_trans hbW (Q1.out.lt g e).1) (Nat.le_trans hbW hz2))
         clear hown3 hgrow3)
      | fail))
  go_wp2_with fail;go_ret;exact⟨g3,c3,rfl,ahl O3.out hbW,B3.out⟩
theorem aoq {w:World}{base k:Nat}{e:TypeId}{g n cap:Nat}{xs:List Value}(h:w.ownsRow base e k (.slice (some ⟨g,0,none⟩) n cap) n xs)(j:Nat):w.frozen? ⟨g,j,none⟩=false:=by
 rcases h.2 with⟨h1,_⟩|⟨g',cap',cur,h1,_,h3,_,_,_,h7⟩
 ·cases h1
 ·cases h1;simp[World.frozen?,h3]
theorem asZ (X:ByteArray)(k:Int)(h4:1<=X.size)(hm:X.size<=700)(hk:(k==33)=false)(hk1:(k==63)=false)(hk2:(k==126)=false)(hk3:(k==43)=false)(hk4:(k==42)=true)(HK:Ze 71 #[.string X] (.int .u8 k))(a1 a2 a3:Int)(R:ByteArray) (HU:∀w,Calls prog 99 #[.string (X.extract 1 X.size)] w (aqt (aub a1 a2 a3 R false) 1 w))(w:World) : Calls prog 99 #[.string X] w (aqt (aub a1 a2 a3 R true) 1 w):=by
 have G1:=qz HK;have GU:=qz HU;clear HK HU
 go_enter func99,ntmps99
 go_wp2_with fail;refine(G1.out _).mono ?_;rintro e w1 ⟨rfl,rfl⟩;go_wp2_with fail;refine(GU.out _).mono ?_;rintro e w2 ⟨g,c,rfl,o1,b1⟩;have c4:w2.cell? ⟨g,4,none⟩=some (.bool false):=ael o1 4 _ rfl;have f4:=aoq o1 4;have O1:=qz o1;have B1:=qz b1;clear o1 b1;go_wp2_with fail;refine wp_loop_rounds 2 ?_;rw[rounds_succ];go_wp2_with fail;clear c4 f4;rw[rounds_succ];go_wp2_with fail;go_ret;have hg:=(O1.out.lt g rfl);exact⟨g,c,rfl,(O1.out.stored 4 (.bool true)).1,B1.out.setCell hg.1 _⟩
end Go.Proofs.YtalegefnppbkdaaGreat.T1
