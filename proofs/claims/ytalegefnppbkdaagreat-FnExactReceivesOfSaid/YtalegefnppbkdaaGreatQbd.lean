/- Texts of the proof. No conditions. -/
import Derived.Test.YtalegefnppbkdaaGreatQbc
namespace Go.Proofs.YtalegefnppbkdaaGreat.T1
open Go.Proofs.Tryz
set_option maxHeartbeats 8000000
open Go.RowKit
set_option maxRecDepth 100000
set_option linter.unusedVariables false
set_option linter.unusedSimpArgs false
theorem awF {u v w:World}(h:Zb u v)(k:Zb v w):Zb u w:=aab h k h.size
def dgs:Nat->Nat->ByteArray->ByteArray
 | 0,_,acc=>acc
 | f+1,k,acc=>if k=0 then acc else dgs f (k / 10) (one (UInt8.ofNat (48+k % 10))++acc)
def mkT (k:Nat):ByteArray:=⟨#[109]⟩++dgs (k+1) k ⟨#[]⟩
theorem aqH (k:Nat)(w:World):(convert 44 9 (.slice (some ⟨w.heap.size,0,none⟩) 1 1)).run prog (w.alloc (.cells #[.int .u8 (48+(k:Int) % 10)] 5))=.ok (.string (one (UInt8.ofNat (48+k % 10)))) (w.alloc (.cells #[.int .u8 (48+(k:Int) % 10)] 5)):=by
 have h:=amT (UInt8.ofNat (48+k % 10)) w;rw[show (((UInt8.ofNat (48+k % 10)).toNat:Nat):Int)=48+(k:Int) % 10 by rw[UInt8.toNat_ofNat'];omega]at h;exact h
theorem aez (k:Nat)(h1:1<=k)(h2:k<=1000000)(w:World):Calls prog 57 #[.int .i64 (k:Int)] w fun e w'=>e=.returned (.string (mkT k))/\Zb w w':=by
 obtain⟨R,hR⟩:∃R,R=dgs (k+1) k ⟨#[]⟩:=⟨_,rfl⟩;have hm:Hid (mkT k=⟨#[109]⟩++R):=by rw[hR];rfl
 have HR:=qz hR;have k1:(0:Int)<(k:Int):=by omega
 clear hR
 go_enter func57,ntmps57
 go_wp2_with fail
 go_loopw [0,3] (fun v a wr=>∃(j f:Nat) (acc:ByteArray),v=.int .i64 (j:Int)/\a=.string acc/\Hid (dgs f j acc=R)/\j<f/\j<=1000000/\Hid (j * 10 ^ acc.size<=1000000)/\acc.size<=7/\Zb w wr) (fun v _ _=>(intOf v).toNat)
 case atStart=>exact⟨k,k+1,⟨#[]⟩,rfl,rfl,qz HR.out.symm,by omega,h2,by show k * 1<=_;omega,by decide,Below.refl _ _⟩
 case round=>
  obtain⟨j,f,acc,rfl,rfl,hd,hjf,hj,hp,ha,hbw⟩:=hrel
  by_cases hlt:(0:Int)<(j:Int)
  ·obtain⟨f',rfl⟩:∃f',f=f'+1:=⟨f - 1,by omega⟩
   have ha6:acc.size<=6:=by
    have hp':=hp.out
    have:10 ^ acc.size<=10 ^ 6:=by
     refine Nat.le_trans ?_ hp';exact Nat.le_mul_of_pos_left _ (by omega)
    exact(Nat.pow_le_pow_iff_right (by decide)).1 this
   have hcv:=aqH j;obtain⟨D,hD⟩:∃D,D=one (UInt8.ofNat (48+j % 10)):=⟨_,rfl⟩;rw[<-hD]at hcv;have hDs:D.size<=1:=by rw[hD];exact nl _
   have hn:Hid (dgs f' (j / 10) (D++acc)=R):=by
    have:=hd.out;rw[dgs,if_neg (by omega),<-hD]at this
    exact this
   have hp2:Hid (j / 10 * 10 ^ (D++acc).size<=1000000):=by
    show _<=_;have hsz:(D++acc).size=acc.size+1:=by rw[hD,ByteArray.size_append];show 1+_=_;omega
    rw[hsz,Nat.pow_succ];refine Nat.le_trans ?_ hp.out;rw[show j / 10 * (10 ^ acc.size * 10)=(j / 10 * 10) * 10 ^ acc.size by rw[Nat.mul_comm (10 ^ acc.size) 10,Nat.mul_assoc]];exact Nat.mul_le_mul_right _ (Nat.div_mul_le_self j 10)
   have hsz2:(D++acc).size<=7:=by rw[ByteArray.size_append];omega
   clear hd hp hD;go_wp2_with fail
   go_roundw
   case rel=>exact⟨j / 10,f',D++acc,by push_cast;rfl,rfl,hn,by omega,by omega,hp2,hsz2,hbw.alloc hbw.size _⟩
   case measure=>simp[intOf];omega
  ·obtain rfl:j=0:=by omega
   have hr:Hid (acc=R):=by
    have:=hd.out
    cases f with
    | zero=>exact this
    | succ f=>rw[dgs,if_pos rfl]at this;exact this
   have hx:Hid ((⟨#[109]⟩:ByteArray)++acc=mkT k):=by show _=_;rw[hm.out,hr.out]
   have o1:(⟨#[109]⟩:ByteArray).size=1:=rfl;obtain⟨O,hO⟩:∃O,O=(⟨#[109]⟩:ByteArray):=⟨_,rfl⟩;go_wp2_with fail;go_ret;exact⟨by rw[<-hx.out];rfl,hbw⟩
structure SRow (w:World) (v:Value) (g:Nat) (xs:List ByteArray):Prop where
 ex:∃a c,v=.slice a xs.length c/\(xs≠[]->a=some ⟨g,0,none⟩/\∃C,w.heap[g]?=some (.cells C 9 (0,0))/\∀j (h:j<xs.length),C[j]?=some (.string xs[j]))
theorem SRow.below {w w':World}{v:Value}{g:Nat}{xs:List ByteArray}(h:SRow w v g xs)(k:Zb w w'):SRow w' v g xs:=by
 obtain⟨a,c,h1,h2⟩:=h.ex;refine⟨a,c,h1,fun hne=>?_⟩;obtain⟨h3,C,h4,h5⟩:=h2 hne;exact⟨h3,C,(k.block g (lt_of_block h4)).trans h4,h5⟩
theorem SRow.only {w w':World}{v:Value}{g b:Nat}{xs:List ByteArray}(h:SRow w v g xs)(k:Only b w w')(hb:xs≠[]->g≠b):SRow w' v g xs:=by
 obtain⟨a,c,h1,h2⟩:=h.ex;refine⟨a,c,h1,fun hne=>?_⟩;obtain⟨h3,C,h4,h5⟩:=h2 hne;exact⟨h3,C,(k.block g (lt_of_block h4) (hb hne)).trans h4,h5⟩
theorem SRow.lt {w:World}{v:Value}{g:Nat}{xs:List ByteArray}(h:SRow w v g xs)(hne:xs≠[]):g<w.heap.size:=by
 obtain⟨a,c,h1,h2⟩:=h.ex;obtain⟨h3,C,h4,h5⟩:=h2 hne;exact lt_of_block h4
theorem aw8 (x:ByteArray):(x.toList != x.toList)=false:=by simp
theorem axq (a1 a2:Option Addr)(c1 c2:Nat)(w:World):Calls prog 27 #[.slice a1 0 c1,.slice a2 0 c2] w fun e w'=>e=.returned (.bool true)/\Zb w w':=by
 go_enter func27,ntmps27
 go_wp2_with fail;refine wp_loop_rounds 1 ?_;rw[rounds_succ];go_wp2_with fail;go_ret;exact⟨rfl,Below.refl _ _⟩
theorem axr (g1 g2 n c1 c2:Nat)(C1 C2:Array Value)(xs:List ByteArray)(hn:n=xs.length)(hnn:n<=100000)(hx1:∀j (h:j<xs.length),C1[j]?=some (.string xs[j]))(hx2:∀j (h:j<xs.length),C2[j]?=some (.string xs[j]))(w:World)(h1:w.heap[g1]?=some (.cells C1 9 (0,0)))(h2:w.heap[g2]?=some (.cells C2 9 (0,0))) : Calls prog 27 #[.slice (some ⟨g1,0,none⟩) n c1,.slice (some ⟨g2,0,none⟩) n c2] w fun e w'=>e=.returned (.bool true)/\Zb w w':=by
 have HX1:=qz hx1;have HX2:=qz hx2;have H1:=qz h1;have H2:=qz h2;have HN:=qz hn;clear hx1 hx2 h1 h2 hn
 go_enter func27,ntmps27
 go_wp2_with fail
 go_loopw [5] (fun v wr=>∃i:Nat,i<=n/\v=.int .i64 (i:Int)/\Zb w wr) (fun v _=>n - (intOf v).toNat)
 case atStart=>exact⟨0,Nat.zero_le _,rfl,Below.refl _ _⟩
 case round=>
  obtain⟨i,hi,rfl,hbw⟩:=hrel
  by_cases hlt:i<n
  ·have hlt2:i<xs.length:=by have:=HN.out;omega
   have r1:=(hbw.block g1 (lt_of_block H1.out)).trans H1.out;have r2:=(hbw.block g2 (lt_of_block H2.out)).trans H2.out;have c1:wr.cell? ⟨g1,i,none⟩=some (.string (xs[i]'hlt2)):=by rw[cell_of_row wr g1 i C1 _ _ r1];exact HX1.out i hlt2
   have c2:wr.cell? ⟨g2,i,none⟩=some (.string (xs[i]'hlt2)):=by rw[cell_of_row wr g2 i C2 _ _ r2];exact HX2.out i hlt2
   obtain⟨x,hx⟩:∃x,x=xs[i]'hlt2:=⟨_,rfl⟩;rw[<-hx]at c1 c2;have hw:=aw8 x;have hlti:(i:Int)<(n:Int):=by omega
   clear hx r1 r2;go_wp2_with fail
   go_quiet (fail)
   go_wp2_with fail
   go_roundw
   case rel=>exact⟨i+1,by omega,by go_num,aaj hbw _⟩
   case measure=>simp[intOf];omega
  ·obtain rfl:i=n:=by omega
   go_wp2_with fail;go_ret;exact⟨rfl,hbw⟩
theorem arP (w:World)(v1 v2:Value)(g1 g2:Nat)(xs:List ByteArray)(hl:xs.length<=100000)(h1:SRow w v1 g1 xs)(h2:SRow w v2 g2 xs):Calls prog 27 #[v1,v2] w fun e w'=>e=.returned (.bool true)/\Zb w w':=by
 obtain⟨a1,c1,rfl,h3⟩:=h1.ex;obtain⟨a2,c2,rfl,h4⟩:=h2.ex
 cases xs with
 | nil=>exact axq _ _ _ _ w
 | cons x xs=>
  obtain⟨rfl,C1,h5,h6⟩:=h3 (by simp);obtain⟨rfl,C2,h7,h8⟩:=h4 (by simp);exact axr g1 g2 _ _ _ C1 C2 (x::xs) rfl hl h6 h8 w h5 h7
def mks (k n:Nat):List ByteArray:=(List.range n).map fun i=>mkT (k+i)
theorem afs (k n:Nat):(mks k n).length=n:=by simp[mks]
theorem arQ (k n j:Nat)(h:j<(mks k n).length):(mks k n)[j]=mkT (k+j):=by simp[mks]
theorem axs (a:Option Addr)(c k:Nat)(w:World):Calls prog 28 #[.slice a 0 c,.int .i64 (k:Int)] w fun e w'=>e=.returned (.int .i64 (k:Int))/\w=w':=by
 go_enter func28,ntmps28
 go_wp2_with fail;refine wp_loop_rounds 1 ?_;rw[rounds_succ];go_wp2_with fail;go_ret;exact⟨rfl,rfl⟩
def avz (g k n:Nat)(w:World)(e:Ending)(w':World):Prop:=e=.returned (.int .i64 ((k+n:Nat):Int))/\(∃C,w'.heap[g]?=some (.cells C 9 (0,0))/\∀j,j<n->C[j]?=some (.string (mkT (k+j))))/\Only g w w'
theorem axt (g n c k:Nat)(C0:Array Value)(hs:n<=C0.size)(hnn:n<=100000)(hk1:1<=k)(hk:k<=100000)(w:World)(h1:w.heap[g]?=some (.cells C0 9 (0,0))) : Calls prog 28 #[.slice (some ⟨g,0,none⟩) n c,.int .i64 (k:Int)] w (avz g k n w):=by
 have H1:=qz h1;have hgw:=lt_of_block h1;clear h1
 go_enter func28,ntmps28
 go_wp2_with fail
 go_loopw [1,5] (fun vk v wr=>∃(i:Nat) (C:Array Value),i<=n/\v=.int .i64 (i:Int)/\vk=.int .i64 ((k+i:Nat):Int)/\Hid (C.size=C0.size)/\Hid (wr.heap[g]?=some (.cells C 9 (0,0)))/\Hid (∀j,j<i->C[j]?=some (.string (mkT (k+j))))/\Only g w wr) (fun _ v _=>n - (intOf v).toNat)
 case atStart=>exact⟨0,C0,Nat.zero_le _,rfl,rfl,rfl,H1,fun j h=>by omega,Only.refl _ _⟩
 case round=>
  obtain⟨i,C,hi,rfl,rfl,hC,hg,hj,ho⟩:=hrel
  by_cases hlt:i<n
  ·have hM:=aez (k+i) (by omega) (by omega);obtain⟨X,hX⟩:∃X,X=mkT (k+i):=⟨_,rfl⟩;rw[<-hX]at hM;have HM:Hid (Zr 57 #[.int .i64 ((k:Int)+(i:Int))] (.string X)):=fun w=>by have:=hM w;push_cast at this;exact this
   obtain⟨y,hy⟩:∃y,C[i]?=some y:=⟨_,Array.getElem?_eq_getElem (by have:=hC.out;omega)⟩;have hlti:(i:Int)<(n:Int):=by omega
   have Hy:=qz hy;clear hM hy;have HX:=qz hX;clear hX;go_wp2_with fail;refine(HM.out _).mono ?_;rintro e w1 ⟨rfl,b1⟩;have r1:=(b1.block g (lt_of_block hg.out)).trans hg.out;have c1:w1.cell? ⟨g,i,none⟩=some y:=by rw[cell_of_row w1 g i C _ _ r1];exact Hy.out
   have f1:=frozen_of_row w1 g i C _ r1;have G1:=qz (heap_setCell_same w1 g i C 9 (.string X) r1);have O1:=(ho.below b1).setCell i none (.string X);have HS:Hid ((C.setIfInBounds i (.string X)).size=C0.size):=by show _=_;rw[Array.size_setIfInBounds];exact hC.out
   have HJ:Hid (∀j,j<i+1->(C.setIfInBounds i (.string X))[j]?=some (.string (mkT (k+j)))):=fun j h=>by
    by_cases e:i=j
    ·subst e;rw[Array.getElem?_setIfInBounds_self_of_lt (by have:=hC.out;omega),HX.out]
    ·rw[Array.getElem?_setIfInBounds_ne e];exact hj.out j (by omega)
   clear r1;go_wp2_with fail
   go_roundw
   case rel=>exact⟨i+1,_,by omega,by go_num,by push_cast;rw[Int.add_assoc],HS,G1,HJ,O1⟩
   case measure=>simp[intOf];omega
  ·obtain rfl:i=n:=by omega
   go_wp2_with fail;go_ret;exact⟨by push_cast;rfl,⟨C,hg.out,hj.out⟩,ho⟩
theorem aqI (w:World)(v:Value)(g:Nat)(xs:List ByteArray)(hl:xs.length<=100000)(k:Nat)(hk1:1<=k)(hk:k<=100000)(h:SRow w v g xs):Calls prog 28 #[v,.int .i64 (k:Int)] w fun e w'=>e=.returned (.int .i64 ((k+xs.length:Nat):Int))/\SRow w' v g (mks k xs.length)/\Only g w w':=by
 obtain⟨a,c,rfl,h3⟩:=h.ex
 cases xs with
 | nil=>exact(axs a c k w).mono fun e w' ⟨h1,h2⟩=>by subst h2;exact⟨h1,⟨⟨a,c,rfl,fun h=>absurd rfl h⟩⟩,Only.refl _ _⟩
 | cons x xs=>
  obtain⟨rfl,C,h5,h6⟩:=h3 (by simp)
  have hs:(x::xs).length<=C.size:=by
   have:=h6 xs.length (by simp);rcases Nat.lt_or_ge xs.length C.size with h|h
   ·simp;omega
   ·rw[Array.getElem?_eq_none h]at this;cases this
  refine(axt g _ c k C hs hl hk1 hk w h5).mono fun e w' ⟨h1,⟨C',h7,h8⟩,h9⟩=>⟨h1,⟨⟨some ⟨g,0,none⟩,c,by rw[afs],fun _=>⟨rfl,C',h7,fun j hj=>?_⟩⟩⟩,h9⟩;rw[arQ];exact h8 j (by rw[afs]at hj;exact hj)
theorem axu (a:Option Addr)(c k:Nat)(w:World):Calls prog 29 #[.slice a 0 c,.int .i64 (k:Int)] w fun e w'=>e=.returned (.int .i64 (k:Int))/\w=w':=by
 go_enter func29,ntmps29
 go_wp2_with fail;refine wp_loop_rounds 1 ?_;rw[rounds_succ];go_wp2_with fail;go_ret;exact⟨rfl,rfl⟩
theorem axv (g n c k:Nat)(C:Array Value)(hnn:n<=100000)(hk1:1<=k)(hk:k<=100000)(w:World)(h1:w.heap[g]?=some (.cells C 9 (0,0)))(hj:∀j,j<n->C[j]?=some (.string (mkT (k+j)))) : Calls prog 29 #[.slice (some ⟨g,0,none⟩) n c,.int .i64 (k:Int)] w fun e w'=>e=.returned (.int .i64 ((k+n:Nat):Int))/\Zb w w':=by
 have H1:=qz h1;have HJ:=qz hj;clear h1 hj
 go_enter func29,ntmps29
 go_wp2_with fail
 go_loopw [1,5] (fun vk v wr=>∃i:Nat,i<=n/\v=.int .i64 (i:Int)/\vk=.int .i64 ((k+i:Nat):Int)/\Zb w wr) (fun _ v _=>n - (intOf v).toNat)
 case atStart=>exact⟨0,Nat.zero_le _,rfl,rfl,Below.refl _ _⟩
 case round=>
  obtain⟨i,hi,rfl,rfl,hbw⟩:=hrel
  by_cases hlt:i<n
  ·have hM:=aez (k+i) (by omega) (by omega);obtain⟨X,hX⟩:∃X,X=mkT (k+i):=⟨_,rfl⟩;rw[<-hX]at hM;have HM:Hid (Zr 57 #[.int .i64 ((k:Int)+(i:Int))] (.string X)):=fun w=>by have:=hM w;push_cast at this;exact this
   have r1:=(hbw.block g (lt_of_block H1.out)).trans H1.out;have c1:wr.cell? ⟨g,i,none⟩=some (.string X):=by rw[cell_of_row wr g i C _ _ r1,hX];exact HJ.out i hlt
   have cd:wr.drew.cell? ⟨g,i,none⟩=some (.string X):=c1;have hgr:=lt_of_block r1;have hlti:(i:Int)<(n:Int):=by omega
   have hw:=aw8 X;clear hM hX r1;go_wp2_with fail
   go_cut [18] (fun s18 wx=>s18=.bool false/\Zb w wx)
   case first=>
    go_region_with ((go_at_call 57;refine(HM.out _).mono ?_;rintro e w1 ⟨rfl,b1⟩;have q1:=(b1.cell (p:=⟨g,i,none⟩) hgr).trans c1;have k1:=awF hbw.drew b1))
    all_goals (go_wp2_with fail;go_meet;exact⟨rfl,k1⟩)
   case rest=>
    obtain⟨rfl,hbx⟩:=hcut;go_wp2_with fail
    go_roundw
    case rel=>exact⟨i+1,by omega,by go_num,by push_cast;rw[Int.add_assoc],hbx⟩
    case measure=>simp[intOf];omega
  ·obtain rfl:i=n:=by omega
   go_wp2_with fail;go_ret;exact⟨by push_cast;rfl,hbw⟩
theorem aki (w:World)(v:Value)(g n:Nat)(hl:n<=100000)(k:Nat)(hk1:1<=k)(hk:k<=100000)(h:SRow w v g (mks k n)):Calls prog 29 #[v,.int .i64 (k:Int)] w fun e w'=>e=.returned (.int .i64 ((k+n:Nat):Int))/\Zb w w':=by
 obtain⟨a,c,rfl,h3⟩:=h.ex;rw[afs]
 cases n with
 | zero=>exact(axu a c k w).mono fun e w' ⟨h1,h2⟩=>by subst h2;exact⟨h1,Below.refl _ _⟩
 | succ n=>
  obtain⟨rfl,C,h5,h6⟩:=h3 (by intro h;have:=congrArg List.length h;rw[afs]at this;simp at this);exact axv g _ c k C hl hk1 hk w h5 (fun j hj=>by have:=h6 j (by rw[afs];exact hj);rw[arQ]at this;exact this)
def aby (sg:ByteArray):List ByteArray->ByteArray
 | []=>⟨#[]⟩
 | [x]=>x
 | x::y::xs=>(⟨#[40]⟩:ByteArray)++x++sg++aby sg (y::xs)++(⟨#[41]⟩:ByteArray)
theorem agw (sg:ByteArray)(xs:List ByteArray)(j:Nat)(h:j+1<xs.length):aby sg (xs.drop j)=(⟨#[40]⟩:ByteArray)++xs[j]++sg++aby sg (xs.drop (j+1))++(⟨#[41]⟩:ByteArray):=by
 rw[List.drop_eq_getElem_cons (show j<xs.length by omega),List.drop_eq_getElem_cons h];rfl
theorem agx (sg:ByteArray)(xs:List ByteArray)(h:0<xs.length):aby sg (xs.drop (xs.length - 1))=xs[xs.length - 1]:=by
 rw[List.drop_eq_getElem_cons (show xs.length - 1<xs.length by omega),List.drop_of_length_le (by omega)];rfl
theorem agy (sg:ByteArray)(xs:List ByteArray)(M:Nat)(hs:sg.size<=1)(h:∀x∈xs,x.size<=M):(aby sg xs).size<=xs.length * (M+3):=by
 induction xs with
 | nil=>exact Nat.zero_le _
 | cons x xs ih=>
  cases xs with
  | nil=>have:=h x (by simp);simp[aby];omega
  | cons y xs=>
   have h1:=ih (fun z hz=>h z (by simp[hz]));have h2:=h x (by simp);simp only[aby,ByteArray.size_append,List.length_cons]at h1 ⊢;have e1:(⟨#[40]⟩:ByteArray).size=1:=rfl;have e2:(⟨#[41]⟩:ByteArray).size=1:=rfl;rw[e1,e2];have e3:(xs.length+1+1) * (M+3)=(xs.length+1) * (M+3)+(M+3):=by rw[Nat.succ_mul]
   omega
theorem aen (w:World)(g n c:Nat)(C:Array Value)(xs:List ByteArray)(sg:ByteArray)(hn:n=xs.length)(hn1:1<=n)(hn2:n<=100)(hsg:sg.size<=1)(hM:∀x∈xs,x.size<=1000)(hC:∀j (h:j<xs.length),C[j]?=some (.string xs[j]))(hg:w.heap[g]?=some (.cells C 9 (0,0))) : Calls prog 65 #[.slice (some ⟨g,0,none⟩) n c,.string sg] w fun e w'=>e=.returned (.string (aby sg xs))/\w=w':=by
 have HC:=qz hC;have HM:=qz hM;have HN:=qz hn;have HG:=qz hg;have hlast:n - 1<xs.length:=by omega
 have cl:w.cell? ⟨g,n - 1,none⟩=some (.string (xs[n - 1]'hlast)):=by rw[cell_of_row w g _ C _ _ hg];exact hC _ hlast
 obtain⟨m,rfl⟩:∃m,n=m+1:=⟨n - 1,by omega⟩
 have hl0:Hid (aby sg (xs.drop m)=xs[m]'(by omega)):=by
  have:=agx sg xs (by omega);simp only[show xs.length - 1=m by omega]at this
  exact this
 simp only[Nat.add_sub_cancel]at cl;obtain⟨x0,hx0⟩:∃x,x=xs[m]'(by omega):=⟨_,rfl⟩;rw[<-hx0]at cl;have HX0:Hid (x0=aby sg (xs.drop m)):=by show _=_;rw[hl0.out,hx0]
 clear hC hM hn hg hx0 hl0
 go_enter func65,ntmps65
 go_wp2_with fail
 have hsz:Hid (∀k,(aby sg (xs.drop k)).size<=200000):=fun k=>by
  have h1:=agy sg (xs.drop k) 1000 hsg (fun x hx=>HM.out x (List.mem_of_mem_drop hx));have h2:(xs.drop k).length<=100:=by rw[List.length_drop];have:=HN.out;omega
  have h3:=Nat.mul_le_mul_right (1000+3) h2;omega
 go_loop [5,6] (fun o v=>∃(k:Nat) (X:ByteArray),k<=m/\o=.string X/\v=.int .i64 ((k:Int) - 1)/\Hid (X=aby sg (xs.drop k))/\X.size<=200000) (fun _ v=>(intOf v+1).toNat)
 case atStart=>exact⟨m,x0,nl _,rfl,by congr 1;omega,HX0,by rw[HX0.out];exact hsz.out m⟩
 case round=>
  obtain⟨k,X,hk,rfl,rfl,hX,hXs⟩:=hrel
  cases k with
  | zero=>
   have hr:Hid (X=aby sg xs):=hX.out;rw[show (((0:Nat):Int) - 1)=-1 from rfl];go_wp2_with fail;go_ret;exact⟨by rw[<-hr.out];rfl,rfl⟩
  | succ j=>
   have hj:j+1<xs.length:=by have:=HN.out;omega
   have hcj:=HC.out j (by omega);have c1:w.cell? ⟨g,j,none⟩=some (.string (xs[j]'(by omega))):=by rw[cell_of_row w g _ C _ _ HG.out];exact hcj
   have hxj:(xs[j]'(by omega)).size<=1000:=HM.out _ (List.getElem_mem _);have hnew:Hid ((⟨#[40]⟩:ByteArray)++(xs[j]'(by omega))++sg++X++(⟨#[41]⟩:ByteArray)=aby sg (xs.drop j)):=by show _=_;rw[agw sg xs j hj,<-hX.out]
   obtain⟨x,hx⟩:∃x,x=xs[j]'(by omega):=⟨_,rfl⟩;rw[<-hx]at c1 hxj hnew;rw[show (((j+1:Nat):Int) - 1)=(j:Int) by omega];have hjm:(j:Int)<(m:Int)+1:=by omega
   have hns:((⟨#[40]⟩:ByteArray)++x++sg++X++(⟨#[41]⟩:ByteArray)).size<=200000:=by rw[hnew.out];exact hsz.out j
   have Hns:=qz hns;clear hcj hx hX hj hns;go_wp2_with fail
   go_round
   case rel=>exact⟨j,_,by omega,rfl,rfl,hnew,Hns.out⟩
   case measure=>simp[intOf]
theorem afU (w:World)(g n c:Nat)(C:Array Value)(xs:List ByteArray)(sg:ByteArray)(hn:n=xs.length)(hn1:1<=n)(hn2:n<=100)(hsg:sg.size<=1)(hM:∀x∈xs,x.size<=1000)(hC:∀j (h:j<xs.length),C[j]?=some (.string xs[j]))(hg:w.heap[g]?=some (.cells C 9 (0,0))) : Calls prog 156 #[.slice (some ⟨g,0,none⟩) n c,.string sg] w fun e w'=>e=.returned (.string (aby sg xs))/\w=w':=by
 have HC:=qz hC;have HM:=qz hM;have HN:=qz hn;have HG:=qz hg;have hlast:n - 1<xs.length:=by omega
 have cl:w.cell? ⟨g,n - 1,none⟩=some (.string (xs[n - 1]'hlast)):=by rw[cell_of_row w g _ C _ _ hg];exact hC _ hlast
 obtain⟨m,rfl⟩:∃m,n=m+1:=⟨n - 1,by omega⟩
 have hl0:Hid (aby sg (xs.drop m)=xs[m]'(by omega)):=by
  have:=agx sg xs (by omega);simp only[show xs.length - 1=m by omega]at this
  exact this
 simp only[Nat.add_sub_cancel]at cl;obtain⟨x0,hx0⟩:∃x,x=xs[m]'(by omega):=⟨_,rfl⟩;rw[<-hx0]at cl;have HX0:Hid (x0=aby sg (xs.drop m)):=by show _=_;rw[hl0.out,hx0]
 clear hC hM hn hg hx0 hl0
 go_enter func156,ntmps156
 go_wp2_with fail
 have hsz:Hid (∀k,(aby sg (xs.drop k)).size<=200000):=fun k=>by
  have h1:=agy sg (xs.drop k) 1000 hsg (fun x hx=>HM.out x (List.mem_of_mem_drop hx));have h2:(xs.drop k).length<=100:=by rw[List.length_drop];have:=HN.out;omega
  have h3:=Nat.mul_le_mul_right (1000+3) h2;omega
 go_loop [6,7] (fun o v=>∃(k:Nat) (X:ByteArray),k<=m/\o=.string X/\v=.int .i64 ((k:Int) - 1)/\Hid (X=aby sg (xs.drop k))/\X.size<=200000) (fun _ v=>(intOf v+1).toNat)
 case atStart=>exact⟨m,x0,nl _,rfl,by congr 1<;>omega,HX0,by rw[HX0.out];exact hsz.out m⟩
 case round=>
  obtain⟨k,X,hk,rfl,rfl,hX,hXs⟩:=hrel
  cases k with
  | zero=>
   have hr:Hid (X=aby sg xs):=hX.out;rw[show (((0:Nat):Int) - 1)=-1 from rfl];go_wp2_with fail;go_ret;exact⟨by rw[<-hr.out];rfl,rfl⟩
  | succ j=>
   have hj:j+1<xs.length:=by have:=HN.out;omega
   have hcj:=HC.out j (by omega);have c1:w.cell? ⟨g,j,none⟩=some (.string (xs[j]'(by omega))):=by rw[cell_of_row w g _ C _ _ HG.out];exact hcj
   have hxj:(xs[j]'(by omega)).size<=1000:=HM.out _ (List.getElem_mem _);have hnew:Hid ((⟨#[40]⟩:ByteArray)++(xs[j]'(by omega))++sg++X++(⟨#[41]⟩:ByteArray)=aby sg (xs.drop j)):=by show _=_;rw[agw sg xs j hj,<-hX.out]
   obtain⟨x,hx⟩:∃x,x=xs[j]'(by omega):=⟨_,rfl⟩;rw[<-hx]at c1 hxj hnew;rw[show (((j+1:Nat):Int) - 1)=(j:Int) by omega];have hjm:(j:Int)<(m:Int)+1:=by omega
   have hns:((⟨#[40]⟩:ByteArray)++x++sg++X++(⟨#[41]⟩:ByteArray)).size<=200000:=by rw[hnew.out];exact hsz.out j
   have Hns:=qz hns;clear hcj hx hX hj hns;go_wp2_with fail
   go_round
   case rel=>exact⟨j,_,by omega,rfl,rfl,hnew,Hns.out⟩
   case measure=>simp[intOf]
theorem afV (p:Option Addr)(c:Nat)(sg:ByteArray)(w:World):Calls prog 156 #[.slice p 0 c,.string sg] w fun e w'=>e=.returned (.string ⟨#[48]⟩)/\w=w':=by
 go_enter func156,ntmps156
 go_wp2_with fail;go_ret;exact⟨rfl,rfl⟩
def hdL:Tm->List UInt8
 | .snd a b _=>[a,33,b,46]
 | .rcv a b _=>[a,63,b,46]
 | .tau _=>[126,46]
 | .own a _=>[35,a,46]
 | .mat a b _=>[91,a,61,b,93]
 | .rep _=>[42]
 | _=>[]
theorem agz (t p:Tm)(h:t.parts=[p]):t.pr=hdL t++p.pr:=by
 cases t<;>simp only[Tm.parts,List.cons.injEq,and_true,List.nil_eq,reduceCtorEq,List.ne_cons_self,and_false]at h<;>first|(subst h;rfl)|cases h
theorem adu (T:TypeId)(V:Value)(l:List UInt8)(hl:0<l.length)(hl2:l.length<=10) (HW:∀w,Calls prog 160 #[.slice none 0 0,.iface T V] w (aaS w.heap.size 0 [] l w))(w:World) : Calls prog 158 #[.iface T V] w fun e w'=>e=.returned (.string (B l))/\Zb w w':=by
 have HV:Hid (∀(w1:World) (b:Nat) (v:Value),w1.ownsRow b 5 1 v (0+l.length) ([]++l.map ub)->(convert 44 9 v).run prog w1=.ok (.string (B l)) w1):=fun w1 b v h=>ahf l (by omega) hl h;have H:=qz HW;clear HW;obtain⟨X,hX⟩:∃X,X=B l:=⟨_,rfl⟩;rw[<-hX]at HV ⊢;clear hX
 go_enter func158,ntmps158
 go_wp2_with fail;refine(H.out _).mono ?_;rintro e w1 ⟨v1,rfl,ho,k1⟩;have hcv:=HV.out w1 _ v1 ho;clear ho;go_wp2_with fail;go_ret;exact⟨rfl,k1.below⟩
theorem ab1 (t p:Tm)(h:t.parts=[p])(w:World):Calls prog 158 #[.iface (aaB t) (pay t)] w fun e w'=>e=.returned (.string (B (hdL t)))/\Zb w w':=by
 cases t with
 | nil=>cases h
 | sum q u=>cases h
 | par q u=>cases h
 | snd a b q=>exact adu _ _ [a,33,b,46] (by simp) (by simp) (fun w=>anc a b _ _ w.heap.size 0 [] (.slice none 0 0) w (World.ownsRow_nil _ _ _ _) (by omega) (nl _)) w
 | rcv a b q=>exact adu _ _ [a,63,b,46] (by simp) (by simp) (fun w=>agj a b _ _ w.heap.size 0 [] (.slice none 0 0) w (World.ownsRow_nil _ _ _ _) (by omega) (nl _)) w
 | mat a b q=>exact adu _ _ [91,a,61,b,93] (by simp) (by simp) (fun w=>ajG a b _ _ w.heap.size 0 [] (.slice none 0 0) w (World.ownsRow_nil _ _ _ _) (by omega) (nl _)) w
 | own a q=>exact adu _ _ [35,a,46] (by simp) (by simp) (fun w=>arC a _ _ w.heap.size 0 [] (.slice none 0 0) w (World.ownsRow_nil _ _ _ _) (by omega) (nl _)) w
 | tau q=>exact adu _ _ [126,46] (by simp) (by simp) (fun w=>ahY _ _ w.heap.size 0 [] (.slice none 0 0) w (World.ownsRow_nil _ _ _ _) (by omega) (nl _)) w
 | rep q=>exact adu _ _ [42] (by simp) (by simp) (fun w=>ahZ _ _ w.heap.size 0 [] (.slice none 0 0) w (World.ownsRow_nil _ _ _ _) (by omega) (nl _)) w
theorem Tryz.infoDf:(prog.info? 127).map (·.size)=some 257:=by kernel_rfl
theorem avA:Hid ((Tryz.zeroCells127).size=257):=by show _=_;kernel_rfl
structure DrOf (D:Array Value) (L:UInt8->UInt8) (v:Value):Prop where
 sz:D.size=257
 at_:∀j,j<256->D[j]?=some (.int .u8 ((L (UInt8.ofNat j)).toNat:Int))
 lf:D[256]?=some v
 ones:v.oneCell'=true
theorem DrOf.set {D:Array Value}{L:UInt8->UInt8}{v:Value}(h:DrOf D L v)(x n0:UInt8):DrOf (D.setIfInBounds x.toNat (.int .u8 (n0.toNat:Int))) (upd L x n0) v:=by
 have hx:=x.toNat_lt;refine⟨by rw[Array.size_setIfInBounds];exact h.sz,fun j hj=>?_,?_,h.ones⟩
 ·by_cases e:x.toNat=j
  ·subst e;rw[Array.getElem?_setIfInBounds_self_of_lt (by rw[h.sz];omega)];have:UInt8.ofNat x.toNat=x:=by apply UInt8.toNat_inj.1;rw[UInt8.toNat_ofNat'];omega
   rw[this];unfold upd;rw[if_pos rfl]
  ·rw[Array.getElem?_setIfInBounds_ne e,h.at_ j hj];unfold upd;rw[if_neg];intro e2
   apply e
   rw[<-e2,UInt8.toNat_ofNat'];omega
 ·rw[Array.getElem?_setIfInBounds_ne (by omega)];exact h.lf
theorem DrOf.left {D:Array Value}{L:UInt8->UInt8}{v:Value}(h:DrOf D L v)(u:Value)(hu:u.oneCell'=true):DrOf (D.setIfInBounds 256 u) L u:=by
 refine⟨by rw[Array.size_setIfInBounds];exact h.sz,fun j hj=>?_,?_,hu⟩
 ·rw[Array.getElem?_setIfInBounds_ne (by omega)];exact h.at_ j hj
 ·rw[Array.getElem?_setIfInBounds_self_of_lt (by rw[h.sz];omega)]
theorem DrOf.all {D:Array Value}{L:UInt8->UInt8}{v:Value}(h:DrOf D L v):D.all (·.oneCell')=true:=by
 refine Array.all_eq_true.2 fun i hi=>?_;have hs:=h.sz
 by_cases c:i<256
 ·have:=h.at_ i c;rw[Array.getElem?_eq_getElem hi]at this
  simp only[Option.some.injEq]at this
  rw[this];rfl
 ·obtain rfl:i=256:=by omega
  have:=h.lf;rw[Array.getElem?_eq_getElem hi]at this
  simp only[Option.some.injEq]at this
  rw[this];exact h.ones
theorem aiw:∀(xs ls:List UInt8) (L:UInt8->UInt8) (k:Nat) (h1:k<xs.length) (h2:k<ls.length),updL L (xs.take (k+1)) ls=upd (updL L (xs.take k) ls) xs[k] ls[k]
 | x::xs,l::ls,L,0,_,_=>by simp[updL]
 | x::xs,l::ls,L,k+1,h1,h2=>by
  simp only[List.take_succ_cons,updL,List.getElem_cons_succ];exact aiw xs ls _ k (by simpa using h1) (by simpa using h2)
 | [],_,_,_,h,_=>by simp at h
 | _::_,[],_,_,_,h=>by simp at h
def LfS (w:World)(g:Nat)(v:Value)(ns:List UInt8):Prop:=
 (v=.slice none 0 0/\ns=[])\/∃off c,v=.slice (some ⟨g,off,none⟩) ns.length c/\ns.length<=c/\c<=maxLen/\∀j (h:j<ns.length),w.cell? ⟨g,off+j,none⟩=some (.int .u8 (ns[j].toNat:Int))
theorem LfS.below {w w':World}{g:Nat}{v:Value}{ns:List UInt8}(h:LfS w g v ns)(k:Zb w w'):LfS w' g v ns:=by
 rcases h with h|⟨off,c,h1,h2,h3,h4⟩
 ·exact .inl h
 ·exact .inr ⟨off,c,h1,h2,h3,fun j hj=>(k.cell (p:=⟨g,off+j,none⟩) (aa1 (h4 j hj))).trans (h4 j hj)⟩
theorem LfS.keep {w w':World}{g:Nat}{v:Value}{ns:List UInt8}(h:LfS w g v ns)(k:w'.heap[g]?=w.heap[g]?):LfS w' g v ns:=by
 rcases h with h|⟨off,c,h1,h2,h3,h4⟩
 ·exact .inl h
 ·exact .inr ⟨off,c,h1,h2,h3,fun j hj=>(World.cell?_of_block (a:=⟨g,off+j,none⟩) k).trans (h4 j hj)⟩
theorem LfS.one {w:World}{g:Nat}{v:Value}{ns:List UInt8}(h:LfS w g v ns):v.oneCell'=true:=by
 rcases h with⟨rfl,_⟩|⟨off,c,rfl,_⟩<;>rfl
def awG (L:UInt8->UInt8)(gL:Nat)(ns:List UInt8)(w:World)(e:Ending)(w':World):Prop:=
 ∃D' v',e=.returned (.agg D')/\DrOf D' L v'/\LfS w' gL v' ns/\Zb w w'
theorem aft (D:Array Value)(L:UInt8->UInt8)(vL:Value)(gL:Nat)(ns xs:List UInt8)(px:Option Addr)(gx cx:Nat)(hD:DrOf D L vL)(hn:xs.length<=1000)(hle:xs.length<=ns.length)(hns:ns.length<=1000)(w:World)(hL:LfS w gL vL ns)(hgL:gL<w.heap.size) (hx:xs≠[]->px=some ⟨gx,0,none⟩/\∀k (h:k<xs.length),w.cell? ⟨gx,k,none⟩=some (.int .u8 (xs[k].toNat:Int))) : Calls prog 153 #[.agg D,.slice px xs.length cx] w (awG (updL L xs ns) gL (ns.drop xs.length) w):=by
 have HX:=qz hx;have HD:=qz hD;have HL:=qz hL;have HVL:Hid (vL.oneCell'=true):=hL.one;obtain⟨Z,hZ⟩:∃Z,Z=Tryz.zeroCells127:=⟨_,rfl⟩;have hZs:Hid (Z.size=257):=by rw[hZ];exact avA
 clear hx hD hL
 go_enter func153,ntmps153
 go_wp2_with fail;rw[<-hZ];obtain⟨W,hW⟩:∃W,W=(w.alloc (.cells D 127)).alloc (.cells Z 127):=⟨_,rfl⟩;rw[<-hW];have r0:Hid (W.heap[w.heap.size]?=some (.cells D 127 (0,0))):=by rw[hW];exact ab4 _ _ _
 have r1:Hid (W.heap[w.heap.size+1]?=some (.cells Z 127 (0,0))):=by rw[hW];exact abj _ _ _
 have bl:Zb w W:=by rw[hW];exact aaM _ _ _
 clear hW hZ
 go_loopw [9] (fun i wr=>∃(k:Nat) (Dk:Array Value),k<=xs.length/\i=.int .i64 (k:Int)/\Hid (DrOf Dk (updL L (xs.take k) ns) vL)/\Hid (wr.heap[w.heap.size]?=some (.cells Dk 127 (0,0)))/\Hid (wr.heap[w.heap.size+1]?=some (.cells Z 127 (0,0)))/\Zb w wr) (fun i _=>xs.length - (intOf i).toNat)
 case atStart=>exact⟨0,D,Nat.zero_le _,rfl,by show DrOf _ _ _;have:=HD.out;simpa [updL] using this,r0,r1,bl⟩
 case round=>
  obtain⟨k,Dk,hk,rfl,hdk,h0,h1,hbw⟩:=hrel;have cL:wr.cell? ⟨w.heap.size,256,none⟩=some vL:=by rw[cell_of_row wr _ 256 Dk _ _ h0.out];exact hdk.out.lf
  have fL:=frozen_of_row wr w.heap.size 256 Dk _ h0.out
  by_cases hlt:k<xs.length
  ·have hxne:xs≠[]:=fun e=>by rw[e]at hlt;simp at hlt
   have hkn:k<ns.length:=by omega
   obtain⟨e1,hxc⟩:=HX.out hxne;rcases HL.out with⟨_,e⟩|⟨off,c,e2,hc1,hc3,hnc⟩
   ·rw[e]at hkn;simp at hkn
   subst e1 e2;obtain⟨x,hx⟩:∃x,x=xs[k]:=⟨_,rfl⟩;obtain⟨y,hy⟩:∃y,y=ns[k]:=⟨_,rfl⟩
   have c1:wr.cell? ⟨gx,k,none⟩=some (.int .u8 (x.toNat:Int)):=by
    rw[hx];exact(hbw.cell (p:=⟨gx,k,none⟩) (aa1 (hxc k hlt))).trans (hxc k hlt)
   have c2:wr.cell? ⟨gL,off+k,none⟩=some (.int .u8 (y.toNat:Int)):=by
    rw[hy];exact(hbw.cell (p:=⟨gL,off+k,none⟩) hgL).trans (hnc k hkn)
   have hxl:=x.toNat_lt;have hxi:((x.toNat:Nat):Int)<256:=by omega
   obtain⟨z,hz⟩:∃z,Dk[x.toNat]?=some z:=⟨_,Array.getElem?_eq_getElem (by rw[hdk.out.sz];omega)⟩;have c3:wr.cell? ⟨w.heap.size,x.toNat,none⟩=some z:=by rw[cell_of_row wr _ x.toNat Dk _ _ h0.out];exact hz
   have f3:=frozen_of_row wr w.heap.size x.toNat Dk _ h0.out;have H0:=qz (heap_setCell_same wr w.heap.size x.toNat Dk 127 (.int .u8 (y.toNat:Int)) h0.out);have H1:Hid ((wr.setCell ⟨w.heap.size,x.toNat,none⟩ (.int .u8 (y.toNat:Int))).heap[w.heap.size+1]?=some (.cells Z 127 (0,0))):=ac0 h1.out (by omega)
   have HDk:Hid (DrOf (Dk.setIfInBounds x.toNat (.int .u8 (y.toNat:Int))) (updL L (xs.take (k+1)) ns) (.slice (some ⟨gL,off,none⟩) ns.length c)):=by
    show DrOf _ _ _;rw[aiw xs ns L k hlt hkn,<-hx,<-hy];exact hdk.out.set x y
   have Hb:=qz hbw;clear hx hy hz hxc hnc hbw;go_wp2_with fail
   go_roundw
   case rel=>exact⟨k+1,_,by omega,by push_cast;rfl,HDk,H0,H1,Hb.out.setCell (p:=⟨w.heap.size,x.toNat,none⟩) (nl _) _⟩
   case measure=>simp[intOf]<;>omega
  ·obtain rfl:k=xs.length:=by omega
   have hi:Hid ((prog.info? 127).map (·.size)=some 257):=Tryz.infoDf;have hlt:xs.length<=ns.length:=hle;have q1:(xs.length:Int)<=(ns.length:Int):=by omega
   rcases HL.out with⟨e,e2⟩|⟨off,c,e,hc1,hc3,hnc⟩
   ·subst e;have hx0:xs=[]:=List.length_eq_zero_iff.1 (by rw[e2]at hle;simpa using hle);have hlf:Hid (LfS w gL (.slice none 0 0) (ns.drop xs.length)):=.inl ⟨rfl,by rw[e2];simp⟩;have E2:=qz e2;clear e2;subst hx0;obtain⟨V',hV'⟩:∃V',V'=(.slice none 0 0:Value):=⟨_,rfl⟩
    have hd':Hid (DrOf (Dk.setIfInBounds 256 V') (updL L [] ns) V'):=by
     have:=hdk.out.left V' (by rw[hV'];rfl);show DrOf _ _ _;simpa using this
    have hlf':Hid (LfS w gL V' (ns.drop ([]:List UInt8).length)):=by
     rw[hV'];exact hlf.out
    have h0':=qz (heap_setCell_same wr w.heap.size 256 Dk 127 V' h0.out);have h1':Hid ((wr.setCell ⟨w.heap.size,256,none⟩ V').heap[w.heap.size+1]?=some (.cells Z 127 (0,0))):=ac0 h1.out (by omega);obtain⟨D',hD'⟩:∃D',D'=Dk.setIfInBounds 256 V':=⟨_,rfl⟩;rw[<-hD']at hd' h0';have hi':Hid ((prog.info? 127).map (·.size)=some D'.size):=by show _=_;rw[Tryz.infoDf,hd'.out.sz]
    have hold:Hid (Z.size=D'.size):=by show _=_;rw[hZs.out,hd'.out.sz]
    have hone:Hid (D'.all (·.oneCell')=true):=hd'.out.all;have bl':=qz (hbw.setCell (p:=⟨w.heap.size,256,none⟩) (nl _) V');rw[hV']at h0' h1' bl';clear hD' hbw
    go_wp2_with (first
     | refine wpList_load_row rfl 127 (.tmp 2) rfl w.heap.size rfl 127 D' (0,0) _ h0'.out underlying127 rfl hi'.out ?_
     | refine wpList_store_row rfl 127 (.tmp 4) (.tmp 29) rfl (w.heap.size+1) D' rfl rfl 127 Z h1'.out hi'.out hold.out hone.out ?_)
    have bf:=abl (g:=w.heap.size+1) (cs:=D') bl'.out (by omega) bl'.out.size;exact bodyPost_ret (v:=.agg D') (results_cell_row (t:=127) (fr:=(0,0)) rfl _ _ (w.heap.size+1) _ _ rfl (setRow_heap _ (w.heap.size+1) Z D' 127 _ h1'.out) underlying127 rfl hi'.out) rfl ⟨D',V',rfl,hd'.out,hlf'.out.below bf,bf⟩
   ·subst e;have q2:(xs.length:Int)<=(c:Int):=by omega
    by_cases hcn:c=xs.length
    ·have hlf:Hid (LfS w gL (.slice (some ⟨gL,off,none⟩) 0 0) (ns.drop xs.length)):=by
      have hd0:ns.drop xs.length=[]:=List.drop_of_length_le (by omega);rw[hd0];exact .inr ⟨off,0,rfl,nl _,by omega,fun j hj=>by simp at hj⟩
     clear hnc;subst hcn;obtain⟨V',hV'⟩:∃V',V'=(.slice (some ⟨gL,off,none⟩) 0 0:Value):=⟨_,rfl⟩
     have hd':Hid (DrOf (Dk.setIfInBounds 256 V') (updL L xs ns) V'):=by
      have:=hdk.out.left V' (by rw[hV'];rfl);rw[List.take_of_length_le (nl _)]at this
      exact this
     have hlf':Hid (LfS w gL V' (ns.drop xs.length)):=by
      rw[hV'];exact hlf.out
     have h0':=qz (heap_setCell_same wr w.heap.size 256 Dk 127 V' h0.out);have h1':Hid ((wr.setCell ⟨w.heap.size,256,none⟩ V').heap[w.heap.size+1]?=some (.cells Z 127 (0,0))):=ac0 h1.out (by omega);obtain⟨D',hD'⟩:∃D',D'=Dk.setIfInBounds 256 V':=⟨_,rfl⟩;rw[<-hD']at hd' h0';have hi':Hid ((prog.info? 127).map (·.size)=some D'.size):=by show _=_;rw[Tryz.infoDf,hd'.out.sz]
     have hold:Hid (Z.size=D'.size):=by show _=_;rw[hZs.out,hd'.out.sz]
     have hone:Hid (D'.all (·.oneCell')=true):=hd'.out.all;have bl':=qz (hbw.setCell (p:=⟨w.heap.size,256,none⟩) (nl _) V');rw[hV']at h0' h1' bl';clear hD' hbw
     go_wp2_with (first
      | refine wpList_load_row rfl 127 (.tmp 2) rfl w.heap.size rfl 127 D' (0,0) _ h0'.out underlying127 rfl hi'.out ?_
      | refine wpList_store_row rfl 127 (.tmp 4) (.tmp 29) rfl (w.heap.size+1) D' rfl rfl 127 Z h1'.out hi'.out hold.out hone.out ?_)
     have bf:=abl (g:=w.heap.size+1) (cs:=D') bl'.out (by omega) bl'.out.size;exact bodyPost_ret (v:=.agg D') (results_cell_row (t:=127) (fr:=(0,0)) rfl _ _ (w.heap.size+1) _ _ rfl (setRow_heap _ (w.heap.size+1) Z D' 127 _ h1'.out) underlying127 rfl hi'.out) rfl ⟨D',V',rfl,hd'.out,hlf'.out.below bf,bf⟩
    ·have hlf:Hid (LfS w gL (.slice (some ⟨gL,off+xs.length,none⟩) (ns.length - xs.length) (c - xs.length)) (ns.drop xs.length)):=by
      refine .inr ⟨off+xs.length,c - xs.length,by rw[List.length_drop],by rw[List.length_drop];omega,by omega,fun j hj=>?_⟩;rw[List.length_drop]at hj;have:=hnc (xs.length+j) (by omega);rw[Nat.add_assoc,this,List.getElem_drop]
     clear hnc;obtain⟨V',hV'⟩:∃V',V'=(.slice (some ⟨gL,off+xs.length,none⟩) (ns.length - xs.length) (c - xs.length):Value):=⟨_,rfl⟩
     have hd':Hid (DrOf (Dk.setIfInBounds 256 V') (updL L xs ns) V'):=by
      have:=hdk.out.left V' (by rw[hV'];rfl);rw[List.take_of_length_le (nl _)]at this
      exact this
     have hlf':Hid (LfS w gL V' (ns.drop xs.length)):=by
      rw[hV'];exact hlf.out
     have h0':=qz (heap_setCell_same wr w.heap.size 256 Dk 127 V' h0.out);have h1':Hid ((wr.setCell ⟨w.heap.size,256,none⟩ V').heap[w.heap.size+1]?=some (.cells Z 127 (0,0))):=ac0 h1.out (by omega);obtain⟨D',hD'⟩:∃D',D'=Dk.setIfInBounds 256 V':=⟨_,rfl⟩;rw[<-hD']at hd' h0';have hi':Hid ((prog.info? 127).map (·.size)=some D'.size):=by show _=_;rw[Tryz.infoDf,hd'.out.sz]
     have hold:Hid (Z.size=D'.size):=by show _=_;rw[hZs.out,hd'.out.sz]
     have hone:Hid (D'.all (·.oneCell')=true):=hd'.out.all;have bl':=qz (hbw.setCell (p:=⟨w.heap.size,256,none⟩) (nl _) V');rw[hV']at h0' h1' bl';clear hD' hbw
     go_wp2_with (first
      | refine wpList_load_row rfl 127 (.tmp 2) rfl w.heap.size rfl 127 D' (0,0) _ h0'.out underlying127 rfl hi'.out ?_
      | refine wpList_store_row rfl 127 (.tmp 4) (.tmp 29) rfl (w.heap.size+1) D' rfl rfl 127 Z h1'.out hi'.out hold.out hone.out ?_)
     have bf:=abl (g:=w.heap.size+1) (cs:=D') bl'.out (by omega) bl'.out.size;exact bodyPost_ret (v:=.agg D') (results_cell_row (t:=127) (fr:=(0,0)) rfl _ _ (w.heap.size+1) _ _ rfl (setRow_heap _ (w.heap.size+1) Z D' 127 _ h1'.out) underlying127 rfl hi'.out) rfl ⟨D',V',rfl,hd'.out,hlf'.out.below bf,bf⟩
end Go.Proofs.YtalegefnppbkdaaGreat.T1
