/- Texts of the proof. No conditions. -/
import Derived.Test.YtalegefnppbkdaaGreatQak
import Derived.ChangeOld
import Derived.Laws.Bits64
import Derived.Laws.BitsAllLaws
import Derived.Laws.BitsLemmas
namespace Go.Proofs.YtalegefnppbkdaaGreat.T1
open Go.Proofs.Tryz
set_option maxHeartbeats 4000000
open Go.RowKit
set_option maxRecDepth 100000
def inB (s:ByteArray)(c:Int):Bool:=s.data.toList.any fun x=>(x.toNat:Int)==c
theorem asp (s:ByteArray)(c:Int)(k:Nat)(h:k<s.size)(h1:(s[k].toNat:Int)=c):inB s c=true:=by
 unfold inB;rw[List.any_eq_true];exact⟨s[k],by show s.data[k]∈_;simp,by simp[h1]⟩
theorem auK (s:ByteArray)(c:Int)(h:(s.data.toList.take s.size).any (fun x=>(x.toNat:Int)==c)=false):inB s c=false:=by
 rw[List.take_of_length_le (by simp)]at h;exact h
theorem abr (s:ByteArray)(c:Int)(w:World)(hs:s.size<=100000000) : Calls prog 88 #[.string s,.int .u8 c] w fun e w'=>e=.returned (.bool (inB s c))/\w=w':=by
 go_enter func88,ntmps88
 go_wp2_with fail
 go_loop [5] (fun i=>∃k:Nat,k<=s.size/\i=.int .i64 k/\Hid ((s.data.toList.take k).any (fun x=>(x.toNat:Int)==c)=false)) (fun i=>s.size - (intOf i).toNat)
 case atStart=>exact⟨0,Nat.zero_le _,rfl,by simp[Hid]⟩
 case round=>
  obtain⟨k,hk,rfl,H⟩:=hrel
  by_cases hlt:k<s.size
  ·by_cases hc:(s[k].toNat:Int)=c
   ·have hT:Hid (inB s c=true):=asp s c k hlt hc;have b1:((s[k].toNat:Int)==c)=true:=by simp[hc]
    clear hc;go_wp2_with fail;go_ret;exact⟨by rw[hT.out];rfl,rfl⟩
   ·have b1:((s[k].toNat:Int)==c)=false:=by simp[hc]
    have hT:Hid ((s.data.toList.take (k+1)).any (fun x=>(x.toNat:Int)==c)=false):=by
     have h0:=H.out;rw[ady s k hlt,List.any_append,h0];simp[Hid,hc]
    clear hc;go_wp2_with fail
    go_round
    case rel=>exact⟨k+1,by omega,by go_num,hT⟩
    case measure=>simp[intOf];omega
  ·have hT:Hid (inB s c=false):=auK s c (by have:=H.out;rw[show k=s.size by omega]at this;exact this);go_wp2_with fail;go_ret;exact⟨by rw[hT.out];rfl,rfl⟩
set_option linter.unusedVariables false
set_option linter.unusedSimpArgs false
theorem ajH (l:List UInt8)(a:UInt8):inB (B l) (a.toNat:Int)=decide (a∈l):=by
 rw[Bool.eq_iff_iff,decide_eq_true_eq];unfold inB;rw[aaE,List.any_eq_true];constructor
 ·rintro⟨x,hx,e⟩;have:x=a:=UInt8.toNat_inj.1 (by have:=beq_iff_eq.1 e;omega);exact this▸hx
 ·intro h;exact⟨a,h,by simp⟩
theorem awZ (l:List UInt8)(i:Nat)(h:i<(B l).size)(h':i<l.length):(B l)[i]'h=l[i]:=by
 show (B l).data[i]'_=_;simp[B]
theorem asq (l:List UInt8):(B l).size=l.length:=by show l.toArray.size=_;simp
theorem auL (l:List UInt8)(i:Nat)(h:i<l.length):(B l).extract i (i+1)=B [l[i]]:=by
 apply apw
 rw[ByteArray.data_extract,Array.toList_extract,aaE,List.extract_eq_take_drop,List.drop_eq_getElem_cons h,show i+1 - i=1 by omega];rfl
theorem auM (l m:List UInt8):B l++B m=B (l++m):=by apply apw;simp[B]
theorem ah0 (l m:List UInt8)(hl:l.length<=1000)(hm:m.length<=100000)(w:World):Calls prog 61 #[.string (B l),.string (B m)] w fun e w'=>e=.returned (.string (B (l.filter fun z=>decide (z∈m))))/\w=w':=by
 have HIN:Hid (∀(a:UInt8) w,Calls prog 88 #[.string (B m),.int .u8 (a.toNat:Int)] w fun e w'=>e=.returned (.bool (decide (a∈m)))/\w=w'):=fun a w=>by
  have:=abr (B m) (a.toNat:Int) w (by rw[asq];omega);rw[ajH]at this;exact this
 obtain⟨X,hX⟩:∃X,X=B l:=⟨_,rfl⟩;obtain⟨Y,hY⟩:∃Y,Y=B m:=⟨_,rfl⟩;have hsz:X.size=l.length:=by rw[hX,asq]
 rw[<-hX,<-hY];rw[<-hY]at HIN;have HX:=qz hX;have hX7:X.size<=1000:=by omega
 clear hX hY hm
 go_enter func61,ntmps61
 go_wp2_with fail
 go_loopg [5,6] l.length (fun gk s5 s6 wr=>(∃i:Nat,s6=.int .i64 (i:Int)/\i+gk=l.length/\s5=.string (B ((l.take i).filter fun z=>decide (z∈m))))/\wr=w)
 case atStart=>exact⟨⟨0,by congr 1,by omega,rfl⟩,rfl⟩
 case round=>
  obtain⟨⟨i,rfl,hik,rfl⟩,rfl⟩:=hrel
  by_cases hlt:(i:Int)<(X.size:Int)
  ·have hit:i<l.length:=by omega
   have hiX:i<X.size:=by omega
   have hat:X[i]'hiX=l[i]:=by
    have:=HX.out;subst this
    exact awZ l i _ hit
   obtain⟨a,ha⟩:∃a,a=l[i]:=⟨_,rfl⟩;have hex:X.extract i (i+1)=B [a]:=by rw[HX.out,ha];exact auL l i hit
   have htk:(l.take (i+1)).filter (fun z=>decide (z∈m))=(l.take i).filter (fun z=>decide (z∈m))++(if a∈m then [a] else []):=by
    rw[List.take_succ_eq_append_getElem hit,List.filter_append,<-ha];congr 1
    by_cases h:a∈m<;>simp[h]
   have HA:Hid (Ze 88 #[.string Y,.int .u8 ((X[i]).toNat:Int)] (.bool (decide (a∈m)))):=fun w=>by rw[hat,<-ha];exact HIN.out a w
   obtain⟨Q,hQ⟩:∃Q,Q=(l.take i).filter fun z=>decide (z∈m):=⟨_,rfl⟩
   have hQl:Q.length<=1000:=by
    have:=List.length_filter_le (fun z=>decide (z∈m)) (l.take i);have:=List.length_take_le i l;rw[hQ];omega
   have hQs:(B Q).size<=1000:=by rw[asq];omega
   rw[<-hQ]at htk ⊢;have hexs:(X.extract i (i+1)).size=1:=by rw[hex];rfl
   by_cases hin:a∈m
   ·rw[if_pos hin]at htk;have hi:decide (a∈m)=true:=decide_eq_true hin;rw[hi]at HA;have HT:=qz htk;have HEX:Hid (B Q++X.extract i (i+1)=B (Q++[a])):=by show _=_;rw[hex,auM]
    clear hat ha htk hin hi hQ hex;go_wp2_with fail;refine(HA.out _).mono ?_;rintro e w5 ⟨rfl,rfl⟩;go_wp2_with fail
    go_roundg (gk - 1)
    case rel=>exact⟨⟨i+1,by congr 1,by omega,by rw[HT.out,<-HEX.out]⟩,rfl⟩
    case measure=>omega
   ·rw[if_neg hin,List.append_nil]at htk;have hi:decide (a∈m)=false:=decide_eq_false hin;rw[hi]at HA;have HT:=qz htk;clear hat ha htk hin hi hQ hex hexs;go_wp2_with fail;refine(HA.out _).mono ?_;rintro e w5 ⟨rfl,rfl⟩;go_wp2_with fail
    go_roundg (gk - 1)
    case rel=>exact⟨⟨i+1,by congr 1,by omega,by rw[HT.out]⟩,rfl⟩
    case measure=>omega
  ·obtain rfl:i=l.length:=by omega
   have htk:l.take l.length=l:=List.take_of_length_le (nl _);rw[htk];clear htk;go_wp2_with fail;go_ret;exact⟨rfl,rfl⟩
theorem ai2 (l m:List UInt8)(hl:l.length<=1000)(hm:m.length<=100000)(w:World):Calls prog 63 #[.string (B l),.string (B m)] w fun e w'=>e=.returned (.bool (l.any fun z=>decide (z∈m)))/\w=w':=by
 have HIN:Hid (∀(a:UInt8) w,Calls prog 88 #[.string (B m),.int .u8 (a.toNat:Int)] w fun e w'=>e=.returned (.bool (decide (a∈m)))/\w=w'):=fun a w=>by
  have:=abr (B m) (a.toNat:Int) w (by rw[asq];omega);rw[ajH]at this;exact this
 obtain⟨X,hX⟩:∃X,X=B l:=⟨_,rfl⟩;obtain⟨Y,hY⟩:∃Y,Y=B m:=⟨_,rfl⟩;have hsz:X.size=l.length:=by rw[hX,asq]
 rw[<-hX,<-hY];rw[<-hY]at HIN;have HX:=qz hX;have hX7:X.size<=1000:=by omega
 clear hX hY hm
 go_enter func63,ntmps63
 go_wp2_with fail
 go_loopg [5] l.length (fun gk s5 wr=>(∃i:Nat,s5=.int .i64 (i:Int)/\i+gk=l.length/\Hid (((l.take i).any fun z=>decide (z∈m))=false))/\wr=w)
 case atStart=>exact⟨⟨0,by congr 1,by omega,rfl⟩,rfl⟩
 case round=>
  obtain⟨⟨i,rfl,hik,hno⟩,rfl⟩:=hrel
  by_cases hlt:(i:Int)<(X.size:Int)
  ·have hit:i<l.length:=by omega
   have hiX:i<X.size:=by omega
   have hat:X[i]'hiX=l[i]:=by
    have:=HX.out;subst this
    exact awZ l i _ hit
   obtain⟨a,ha⟩:∃a,a=l[i]:=⟨_,rfl⟩;have HA:Hid (Ze 88 #[.string Y,.int .u8 ((X[i]).toNat:Int)] (.bool (decide (a∈m)))):=fun w=>by rw[hat,<-ha];exact HIN.out a w
   by_cases hin:a∈m
   ·have hi:decide (a∈m)=true:=decide_eq_true hin;rw[hi]at HA
    have HR:Hid ((l.any fun z=>decide (z∈m))=true):=by
     show _=_;rw[List.any_eq_true];exact⟨a,ha▸List.getElem_mem hit,hi⟩
    clear hat ha hin hi hno;go_wp2_with fail;refine(HA.out _).mono ?_;rintro e w5 ⟨rfl,rfl⟩;go_wp2_with fail;go_ret;exact⟨by rw[HR.out];rfl,rfl⟩
   ·have hi:decide (a∈m)=false:=decide_eq_false hin;rw[hi]at HA
    have HT:Hid (((l.take (i+1)).any fun z=>decide (z∈m))=false):=by
     show _=_;rw[List.take_succ_eq_append_getElem hit,List.any_append,hno.out,<-ha];simp[hin]
    clear hat ha hin hi hno;go_wp2_with fail;refine(HA.out _).mono ?_;rintro e w5 ⟨rfl,rfl⟩;go_wp2_with fail
    go_roundg (gk - 1)
    case rel=>exact⟨⟨i+1,by congr 1,by omega,HT⟩,rfl⟩
    case measure=>omega
  ·obtain rfl:i=l.length:=by omega
   have htk:l.take l.length=l:=List.take_of_length_le (nl _);rw[htk]at hno;clear htk;go_wp2_with fail;go_ret;exact⟨by rw[hno.out];rfl,rfl⟩
theorem ajI:∀n:Int,0<=n->n<2 ^ 32->IntKind.u32.wrap n=n:=by
 intro n h0 h1;rw[IntKind.wrap_u32];omega
theorem ajJ (a b:Nat)(ha:a<2 ^ 32)(hb:b<2 ^ 32):bits .or .u32 (a:Int) (b:Int)=((a ||| b:Nat):Int):=(bits_nat .u32 32 (by decide) ajI a b ha hb).2
theorem anj (a b:Nat)(ha:a<2 ^ 32)(hb:b<2 ^ 32):bits .and .u32 (a:Int) (b:Int)=((a &&& b:Nat):Int):=(bits_nat .u32 32 (by decide) ajI a b ha hb).1
theorem aws (c:Nat)(h2:c<=122):((2:Int) ^ (c - 97) % 4294967296)=((2 ^ (c - 97):Nat):Int):=by
 have h:2 ^ (c - 97)<4294967296:=by
  have:2 ^ (c - 97)<=2 ^ 25:=Nat.pow_le_pow_right (by decide) (by omega);omega
 have e:(2:Int) ^ (c - 97)=((2 ^ (c - 97):Nat):Int):=by rw[Int.natCast_pow];rfl
 rw[e]
 generalize 2 ^ (c - 97)=m at h ⊢
 omega
theorem ac6 (c:Nat)(h2:c<=122):2 ^ (c - 97)<2 ^ 32:=Nat.pow_lt_pow_right (by decide) (by omega)
theorem abQ (n c:Nat)(hn:n<2 ^ 32)(h1:97<=c)(h2:c<=122)(w:World) : Calls prog 93 #[.int .u32 (n:Int),.int .u8 (c:Int)] w fun e w'=>e=.returned (.int .u32 ((n ||| 2 ^ (c - 97):Nat):Int))/\w=w':=by
 have HB:Hid (bits .or .u32 (n:Int) ((2:Int) ^ (c - 97) % 4294967296)=((n ||| 2 ^ (c - 97):Nat):Int)):=by
  show _=_;rw[aws c h2,ajJ n _ hn (ac6 c h2)]
 have b1:(97:Int)<=(c:Int):=by omega
 have b2:(c:Int)<=122:=by omega
 clear hn
 go_enter func93,ntmps93
 go_wp2_with fail;go_ret;exact⟨aaK HB.out,rfl⟩
theorem asr (n k:Nat):(((n &&& 2 ^ k:Nat):Int) != 0)=n.testBit k:=by
 cases h:n.testBit k with
 | false=>
  have:n &&& 2 ^ k=0:=by
   apply Nat.eq_of_testBit_eq
   intro i;rw[Nat.testBit_and,Nat.testBit_two_pow,Nat.zero_testBit]
   by_cases hi:k=i
   ·subst hi;rw[h];rfl
   ·simp[hi]
  rw[this];rfl
 | true=>
  have:n &&& 2 ^ k≠0:=by
   intro h0;have h1:=congrArg (fun x=>Nat.testBit x k) h0;simp[Nat.testBit_and,h]at h1
  simp;omega
theorem ank (n c:Nat)(hn:n<2 ^ 32)(h1:97<=c)(h2:c<=122)(w:World) : Calls prog 122 #[.int .u32 (n:Int),.int .u8 (c:Int)] w fun e w'=>e=.returned (.bool (n.testBit (c - 97)))/\w=w':=by
 have HW:=abQ 0 c (by decide) h1 h2;rw[Nat.zero_or]at HW;have HW2:Hid (∀w,Calls prog 93 #[.int .u32 0,.int .u8 (c:Int)] w fun e w'=>e=.returned (.int .u32 ((2 ^ (c - 97):Nat):Int))/\w=w'):=HW
 have HB:Hid ((bits .and .u32 (n:Int) ((2 ^ (c - 97):Nat):Int) != 0)=n.testBit (c - 97)):=by
  show _=_;rw[anj n _ hn (ac6 c h2),asr]
 obtain⟨m,hm⟩:∃m,m=2 ^ (c - 97):=⟨_,rfl⟩;rw[<-hm]at HW2 HB;clear hn HW hm
 go_enter func122,ntmps122
 go_wp2_with fail;refine(HW2.out _).mono ?_;rintro e w' ⟨rfl,rfl⟩;go_wp2_with fail;go_ret;exact⟨by rw[<-HB.out];rfl,rfl⟩
def lets (n k:Nat):List UInt8:=((List.range k).filter fun i=>n.testBit i).map fun i=>UInt8.ofNat (97+i)
theorem ah1 (n k:Nat):lets n (k+1)=lets n k++(if n.testBit k then [UInt8.ofNat (97+k)] else []):=by
 unfold lets;rw[List.range_succ,List.filter_append,List.map_append]
 cases h:n.testBit k<;>simp[h]
theorem ajK (n k:Nat):(lets n k).length<=k:=by
 unfold lets;rw[List.length_map];have:=List.length_filter_le (fun i=>n.testBit i) (List.range k);simpa using this
theorem ado (n:Nat)(hn:n<2 ^ 32)(w:World) : Calls prog 94 #[.int .u32 (n:Int)] w fun e w'=>∃v,e=.returned v/\w'.ownsRow w.heap.size 5 1 v (lets n 26).length ((lets n 26).map ub)/\Zb w w':=by
 have HH:Hid (∀(c:Nat) (_:97<=c) (_:c<=122) (w:World),Calls prog 122 #[.int .u32 (n:Int),.int .u8 (c:Int)] w fun e w'=>e=.returned (.bool (n.testBit (c - 97)))/\w=w'):=fun c h1 h2 w=>ank n c hn h1 h2 w;clear hn;obtain⟨i0,hi,hz0,hz1,hz2⟩:=info_parts Tryz.infoU8
 go_enter func94,ntmps94
 go_wp2_with fail
 go_loopw [3,4] (fun v c wr=>∃k:Nat,k<=26/\c=.int .u8 ((97+k:Nat):Int)/\Hid (wr.ownsRow w.heap.size 5 1 v (lets n k).length ((lets n k).map ub))/\Zb w wr) (fun _ c _=>200 - (intOf c).toNat)
 case atStart=>exact⟨0,Nat.zero_le _,rfl,World.ownsRow_nil _ _ _ _,Below.refl _ _⟩
 case round=>
  obtain⟨k,hk,rfl,hown,hbw⟩:=hrel
  by_cases hlt:k<26
  ·have HC:=HH.out (97+k) (by omega) (by omega);have hll:=ajK n k;have hsz:=hbw.size
   cases hb:n.testBit k with
   | true=>
    rw[show 97+k - 97=k by omega,hb]at HC
    have HC2:Hid (Ze 122 #[.int .u32 (n:Int),.int .u8 (97+(k:Int))] (.bool true)):=fun w=>by
     have:=HC w;push_cast at this;exact this
    have hls:Hid (lets n (k+1)=lets n k++[UInt8.ofNat (97+k)]):=by show _=_;rw[ah1,hb];rfl
    have hc8:Hid (((UInt8.ofNat (97+k)).toNat:Int)=97+(k:Int)):=by
     show _=_;rw[UInt8.toNat_ofNat'];omega
    clear HC hb;go_wp2_with fail;refine(HC2.out _).mono ?_;rintro e w' ⟨rfl,rfl⟩
    go_wp2_with (at_builtin;refine wpList_append_own _ rfl (.tmp 12) (.tmp 14) 44 rfl w.heap.size 5 i0 (.int .u8 0) 1 1 underlying44 hi hz0 hz1 hz2 rfl (by decide) _ _ _ rfl (hown.out.alloc _) ⟨wr.heap.size,0,none⟩ 1 1 [.int .u8 (97+(k:Int))] rfl rfl (abp wr [.int .u8 (97+(k:Int))] 5) (fun u hu=>by simp at hu;subst hu;rfl) ?c2 ?c3 ?c4 ?_)
    case c2=>unfold maxLen;omega
    case c3=>omega
    case c4=>simp;omega
    intro v1 w1 hown1 hgrow1 _
    have hbw1:Zb w w1:=Below.grown (hbw.alloc hsz _) hgrow1 (by simp;omega) (fun j hj=>by
     rcases hown.out.2 with⟨rfl,_⟩|⟨g,cap,cur,rfl,h1,_⟩
     ·simp[Value.ownBlock]at hj
     ·simp[Value.ownBlock]at hj;omega)
    have HO:Hid (w1.ownsRow w.heap.size 5 1 v1 (lets n (k+1)).length ((lets n (k+1)).map ub)):=by
     rw[hls.out,List.map_append,lla];show w1.ownsRow w.heap.size 5 1 v1 ((lets n k).length+1) ((lets n k).map ub++[ub (UInt8.ofNat (97+k))]);rw[show ub (UInt8.ofNat (97+k))=.int .u8 (97+(k:Int)) from by unfold ub;rw[hc8.out]];exact hown1
    clear hown1 hgrow1;go_wp2_with fail
    go_roundw
    case rel=>exact⟨k+1,by omega,by push_cast;rfl,HO,hbw1⟩
    case measure=>simp[intOf];omega
   | false=>
    rw[show 97+k - 97=k by omega,hb]at HC
    have HC2:Hid (Ze 122 #[.int .u32 (n:Int),.int .u8 (97+(k:Int))] (.bool false)):=fun w=>by
     have:=HC w;push_cast at this;exact this
    have hls:Hid (lets n (k+1)=lets n k):=by show _=_;rw[ah1,hb];simp
    clear HC hb;go_wp2_with fail;refine(HC2.out _).mono ?_;rintro e w' ⟨rfl,rfl⟩;go_wp2_with fail
    go_roundw
    case rel=>exact⟨k+1,by omega,by push_cast;rfl,by rw[hls.out];exact hown,hbw⟩
    case measure=>simp[intOf];omega
  ·obtain rfl:k=26:=by omega
   go_wp2_with fail;go_ret;exact⟨_,rfl,hown.out,hbw⟩
theorem awt (a b:Nat)(ha:a<2 ^ 32)(hb:b<2 ^ 32):bits .xor .u32 (a:Int) (b:Int)=((a ^^^ b:Nat):Int):=by
 have hx:a ^^^ b<2 ^ 32:=Nat.xor_lt_two_pow ha hb
 have h1:(BitVec.ofInt 32 (a:Int)).toNat=a:=by
  rw[BitVec.ofInt_natCast,BitVec.toNat_ofNat];exact Nat.mod_eq_of_lt ha
 have h2:(BitVec.ofInt 32 (b:Int)).toNat=b:=by
  rw[BitVec.ofInt_natCast,BitVec.toNat_ofNat];exact Nat.mod_eq_of_lt hb
 show IntKind.u32.wrap ((BitVec.ofInt 32 (a:Int) ^^^ BitVec.ofInt 32 (b:Int)).toNat:Int)=_;rw[BitVec.toNat_xor,h1,h2,IntKind.wrap_u32];omega
def flip32 (n:Nat):Nat:=(2 ^ 32 - 1) ^^^ n
theorem flip_lt (n:Nat)(hn:n<2 ^ 32):flip32 n<2 ^ 32:=Nat.xor_lt_two_pow (by decide) hn
theorem ap3 (n k:Nat)(hk:k<32):(flip32 n).testBit k=!n.testBit k:=by
 unfold flip32;rw[Nat.testBit_xor,Nat.testBit_two_pow_sub_one];simp[hk]
theorem ak_ (n:Nat)(hn:n<2 ^ 32)(w:World) : Calls prog 112 #[.int .u32 (n:Int)] w fun e w'=>∃v,e=.returned v/\w'.ownsRow w.heap.size 5 1 v (lets (flip32 n) 26).length ((lets (flip32 n) 26).map ub)/\Zb w w':=by
 have HL:=ado (flip32 n) (flip_lt n hn);rw[show ((flip32 n:Nat):Int)=bits .xor .u32 IntKind.u32.max (n:Int) from (awt (2 ^ 32 - 1) n (by decide) hn).symm]at HL;obtain⟨L,hL⟩:∃L,L=lets (flip32 n) 26:=⟨_,rfl⟩;rw[<-hL]at HL ⊢;have H:=qz HL;clear HL hL hn
 go_enter func112,ntmps112
 go_wp2_with fail;refine(H.out _).mono ?_;rintro e w1 ⟨v,rfl,ho,bl⟩;have HO:=qz ho;clear ho;go_wp2_with fail;go_ret;exact⟨_,rfl,HO.out,bl⟩
def inL (s:ByteArray)(i:Nat):Bool:=inB s ((97+i:Nat):Int)
def ass (s:ByteArray)(k:Nat):Prop:=k<26/\(∀i,i<k->inL s i=true)/\inL s k=false
theorem ae0 (s:ByteArray)(c:UInt8):inB s (c.toNat:Int)=decide (c∈s.data.toList):=by
 rw[Bool.eq_iff_iff,decide_eq_true_iff];unfold inB;rw[List.any_eq_true];constructor
 ·rintro⟨x,hx,h⟩;have:x=c:=u8_ext (by have:=eq_of_beq h;omega);rw[<-this];exact hx
 ·intro h;exact⟨c,h,by simp⟩
theorem adp (s:ByteArray)(n:Nat)(h:n<256):inB s ((n:Nat):Int)=decide (UInt8.ofNat n∈s.data.toList):=by
 have:=ae0 s (UInt8.ofNat n);rw[UInt8.toNat_ofNat',Nat.mod_eq_of_lt (by omega)]at this
 exact this
theorem ah2 (n:Nat)(h:n<256):((UInt8.ofNat n).toNat:Int)=(n:Int):=by rw[UInt8.toNat_ofNat',Nat.mod_eq_of_lt (by omega)]
theorem abR (s:ByteArray)(hs:s.size<=100000000)(w:World):Calls prog 138 #[.string s] w fun e w'=>e=.returned (.int .u8 ((fresh s.data.toList).toNat:Int))/\w=w':=by
 have HI:=qz (fun c w=>abr s c w hs)
 go_enter func138,ntmps138
 go_wp2_with fail
 go_loop [3] (fun c=>∃k:Nat,k<=26/\c=.int .u8 ((97+k:Nat):Int)/\Hid (∀i,i<k->inL s i=true)) (fun c=>200 - (intOf c).toNat)
 case atStart=>exact⟨0,Nat.zero_le _,rfl,fun i h=>by omega⟩
 case round=>
  obtain⟨k,hk,rfl,H⟩:=hrel
  by_cases hlt:k<26
  ·cases hb:inL s k with
   | true=>
    have HC:Hid (Ze 88 #[.string s,.int .u8 (97+(k:Int))] (.bool true)):=fun w=>by
     have:=HI.out ((97+k:Nat):Int) w;rw[show inB s ((97+k:Nat):Int)=true from hb]at this
     push_cast at this;exact this
    have H':Hid (∀i,i<k+1->inL s i=true):=fun i hi=>by
     rcases Nat.lt_or_ge i k with h'|h'
     ·exact H.out i h'
     ·rw[show i=k by omega];exact hb
    clear hb;go_wp2_with fail;refine(HC.out _).mono ?_;rintro e w' ⟨rfl,rfl⟩;go_wp2_with fail
    go_round
    case rel=>exact⟨k+1,by omega,by push_cast;rfl,H'⟩
    case measure=>simp[intOf];omega
   | false=>
    have HC:Hid (Ze 88 #[.string s,.int .u8 (97+(k:Int))] (.bool false)):=fun w=>by
     have:=HI.out ((97+k:Nat):Int) w;rw[show inB s ((97+k:Nat):Int)=false from hb]at this
     push_cast at this;exact this
    have HF:Hid (ass s k):=⟨hlt,H.out,hb⟩;clear hb;go_wp2_with fail;refine(HC.out _).mono ?_;rintro e w' ⟨rfl,rfl⟩;go_wp2_with fail;go_ret;exact⟨aaK (by rw[ahI s.data.toList k HF.out.1 (fun i hi=>by have:=HF.out.2.1 i hi;rw[inL,adp s _ (by have:=HF.out.1;omega),decide_eq_true_iff]at this;exact this) (by have:=HF.out.2.2;rw[inL,adp s _ (by have:=HF.out.1;omega),decide_eq_false_iff_not]at this;exact this),ah2 _ (by have:=HF.out.1;omega)];push_cast;rfl),rfl⟩
  ·obtain rfl:k=26:=by omega
   go_wp2_with fail
   go_loop [4] (fun c=>∃j:Nat,j<=63/\c=.int .u8 ((128+j:Nat):Int)/\Hid (∀i,i<j->inB s ((128+i:Nat):Int)=true)) (fun c=>200 - (intOf c).toNat)
   case atStart=>exact⟨0,Nat.zero_le _,rfl,fun i h=>by omega⟩
   case round=>
    obtain⟨j,hj,rfl,HJ⟩:=hrel
    by_cases hlt2:j<63
    ·have HC:Hid (∀w,Calls prog 88 #[.string s,.int .u8 (128+(j:Int))] w fun e w'=>e=.returned (.bool (inB s ((128+j:Nat):Int)))/\w=w'):=fun w=>by
      have:=HI.out ((128+j:Nat):Int) w
      push_cast at this ⊢;exact this
     cases hb:inB s ((128+j:Nat):Int) with
     | true=>
      have HJ':Hid (∀i,i<j+1->inB s ((128+i:Nat):Int)=true):=fun i hi=>by
       rcases Nat.lt_or_ge i j with h'|h'
       ·exact HJ.out i h'
       ·rw[show i=j by omega];exact hb
      rw[hb]at HC;clear hb;go_wp2_with fail;refine(HC.out _).mono ?_;rintro e w' ⟨rfl,rfl⟩;go_wp2_with fail
      go_round
      case rel=>exact⟨j+1,by omega,by push_cast;rfl,HJ'⟩
      case measure=>simp[intOf];omega
     | false=>
      have HB:=qz hb;rw[hb]at HC;clear hb;go_wp2_with fail;refine(HC.out _).mono ?_;rintro e w' ⟨rfl,rfl⟩;go_wp2_with fail;go_ret;exact⟨aaK (by rw[af8 s.data.toList j hlt2 (fun i hi=>by have:=H.out i hi;rw[inL,adp s _ (by omega),decide_eq_true_iff]at this;exact this) (fun i hi=>by have:=HJ.out i hi;rw[adp s _ (by omega),decide_eq_true_iff]at this;exact this) (by have:=HB.out;rw[adp s _ (by omega),decide_eq_false_iff_not]at this;exact this),ah2 _ (by omega)];push_cast;rfl),rfl⟩
    ·obtain rfl:j=63:=by omega
     go_wp2_with fail;go_ret;exact⟨aaK (by rw[af9 s.data.toList (fun i hi=>by have:=H.out i hi;rw[inL,adp s _ (by omega),decide_eq_true_iff]at this;exact this) (fun i hi=>by have:=HJ.out i hi;rw[adp s _ (by omega),decide_eq_true_iff]at this;exact this)];rfl),rfl⟩
def gd (t:Tm):Bool:=inB ⟨#[33,63,126,43,48]⟩ (t.kind.toNat:Int)
def Tm.grd:Tm->Bool
 | .nil=>true
 | .snd _ _ p=>p.grd
 | .rcv _ _ p=>p.grd
 | .tau p=>p.grd
 | .sum p q=>gd p && p.grd && (gd q && q.grd)
 | .par p q=>p.grd && q.grd
 | .own _ p=>p.grd
 | .mat _ _ p=>p.grd
 | .rep p=>p.grd
def opn:Tm->Bool
 | .sum p q=>!(gd p && gd q)
 | _=>false
theorem ae1 (g:Tm->Bool)(t:Tm)(l:List Tm):(t::l).countP g=cond (g t) 1 0+l.countP g:=by
 cases h:g t
 ·simp[h]
 ·simp[h];omega
theorem ast (t:Tm):((t.subs.countP opn:Nat):Int)=0↔t.grd=true:=by
 induction t with
 | nil=>simp[Tm.subs,opn,Tm.grd]
 | sum p q ih ih2=>
  simp only[Tm.subs,Tm.grd,ae1,List.countP_append,bae];rw[<-ih,<-ih2,show opn (.sum p q)=!(gd p && gd q) from rfl]
  generalize p.subs.countP opn=A
  generalize q.subs.countP opn=B
  cases gd p<;>cases gd q<;>simp<;>omega
 | par p q ih ih2=>
  simp only[Tm.subs,Tm.grd,ae1,List.countP_append,bae];rw[<-ih,<-ih2,show opn (.par p q)=false from rfl]
  generalize p.subs.countP opn=A
  generalize q.subs.countP opn=B
  simp;omega
 | _=>simp_all [Tm.subs,opn,Tm.grd]
theorem auN (t:Tm):(((t.subs.countP opn:Nat):Int)==0)=t.grd:=by
 rw[Bool.eq_iff_iff,beq_iff_eq];exact ast t
theorem axc (s:ByteArray)(HP:∀w,Calls prog 72 #[.string s] w (PartsS [] w))(w:World) : Calls prog 167 #[.string s] w fun e w'=>e=.returned (.bool true)/\Zb w w':=by
 have H:=qz HP;clear HP
 go_enter func167,ntmps167
 go_wp2_with fail;refine(H.out _).mono ?_;rintro e w1 ⟨rfl,bl⟩;go_wp2_with fail;refine wp_loop_rounds 1 ?_;rw[rounds_succ];go_wp2_with fail;go_ret;exact⟨rfl,bl⟩
theorem aua (s u:ByteArray)(kd:Int)(hk:(kd==43)=false)(r:Bool)(HK:Ze 71 #[.string s] (.int .u8 kd))(HP:∀w,Calls prog 72 #[.string s] w fun e w'=>∃b,e=.returned (.slice (some ⟨b,0,none⟩) 1 1)/\w.heap.size<=b/\w'.heap[b]?=some (.cells #[.string u] 9 (0,0))/\Zb w w') (ih:Zr 167 #[.string u] (.bool r))(w:World) : Calls prog 167 #[.string s] w fun e w'=>e=.returned (.bool r)/\Zb w w':=by
 have H:=qz HP;have HK2:=qz HK;have IH:=qz ih;clear HP ih HK
 cases r
 ·go_enter func167,ntmps167
  go_wp2_with fail;refine(H.out _).mono ?_;rintro e w1 ⟨b,rfl,hb,hh,bl⟩;have c0:=aah hh;have Hh:=qz hh;clear hh;go_wp2_with fail;refine wp_loop_rounds 2 ?_;rw[rounds_succ];go_wp2_with fail;refine(HK2.out _).mono ?_;rintro e w' ⟨rfl,rfl⟩;go_wp2_with fail;refine(IH.out _).mono ?_;rintro e w2 ⟨rfl,bl2⟩;clear c0;go_wp2_with fail;go_ret;exact⟨rfl,(aab bl bl2 bl.size)⟩
 ·go_enter func167,ntmps167
  go_wp2_with fail;refine(H.out _).mono ?_;rintro e w1 ⟨b,rfl,hb,hh,bl⟩;have c0:=aah hh;have Hh:=qz hh;clear hh;go_wp2_with fail;refine wp_loop_rounds 2 ?_;rw[rounds_succ];go_wp2_with fail;refine(HK2.out _).mono ?_;rintro e w' ⟨rfl,rfl⟩;go_wp2_with fail;refine(IH.out _).mono ?_;rintro e w2 ⟨rfl,bl2⟩;clear c0;go_wp2_with fail;rw[rounds_succ];go_wp2_with fail;go_ret;exact⟨rfl,(aab bl bl2 bl.size)⟩
theorem axd (s u v:ByteArray)(kd:Int)(hk:(kd==43)=false)(r1 r2:Bool)(HK:Ze 71 #[.string s] (.int .u8 kd))(HP:∀w,Calls prog 72 #[.string s] w fun e w'=>∃b,e=.returned (.slice (some ⟨b,0,none⟩) 2 2)/\w.heap.size<=b/\w'.heap[b]?=some (.cells #[.string u,.string v] 9 (0,0))/\Zb w w') (ih:Zr 167 #[.string u] (.bool r1))(ih2:Zr 167 #[.string v] (.bool r2))(w:World) : Calls prog 167 #[.string s] w fun e w'=>e=.returned (.bool (r1 && r2))/\Zb w w':=by
 have H:=qz HP;have HK2:=qz HK;have IH:=qz ih;have IH2:=qz ih2;clear HP ih ih2 HK
 cases r1
 ·go_enter func167,ntmps167
  go_wp2_with fail;refine(H.out _).mono ?_;rintro e w1 ⟨b,rfl,hb,hh,bl⟩;have c0:=aai hh;have Hh:=qz hh;clear hh;go_wp2_with fail;refine wp_loop_rounds 3 ?_;rw[rounds_succ];go_wp2_with fail;refine(HK2.out _).mono ?_;rintro e w' ⟨rfl,rfl⟩;go_wp2_with fail;refine(IH.out _).mono ?_;rintro e w2 ⟨rfl,bl2⟩;clear c0;go_wp2_with fail;go_ret;exact⟨rfl,(aab bl bl2 bl.size)⟩
 ·cases r2
  ·go_enter func167,ntmps167
   go_wp2_with fail;refine(H.out _).mono ?_;rintro e w1 ⟨b,rfl,hb,hh,bl⟩;have c0:=aai hh;have Hh:=qz hh;clear hh;go_wp2_with fail;refine wp_loop_rounds 3 ?_;rw[rounds_succ];go_wp2_with fail;refine(HK2.out _).mono ?_;rintro e w' ⟨rfl,rfl⟩;go_wp2_with fail;refine(IH.out _).mono ?_;rintro e w2 ⟨rfl,bl2⟩;have h2:=(bl2.block b (lt_of_block Hh.out)).trans Hh.out;clear c0;have c1:=aak h2;clear h2;go_wp2_with fail;rw[rounds_succ];go_wp2_with fail;refine(HK2.out _).mono ?_;rintro e w' ⟨rfl,rfl⟩;go_wp2_with fail;refine(IH2.out _).mono ?_;rintro e w3 ⟨rfl,bl3⟩;clear c1;go_wp2_with fail;go_ret;exact⟨rfl,(aab (aab bl bl2 bl.size) bl3 (Nat.le_trans bl.size bl2.size))⟩
  ·go_enter func167,ntmps167
   go_wp2_with fail;refine(H.out _).mono ?_;rintro e w1 ⟨b,rfl,hb,hh,bl⟩;have c0:=aai hh;have Hh:=qz hh;clear hh;go_wp2_with fail;refine wp_loop_rounds 3 ?_;rw[rounds_succ];go_wp2_with fail;refine(HK2.out _).mono ?_;rintro e w' ⟨rfl,rfl⟩;go_wp2_with fail;refine(IH.out _).mono ?_;rintro e w2 ⟨rfl,bl2⟩;have h2:=(bl2.block b (lt_of_block Hh.out)).trans Hh.out;clear c0;have c1:=aak h2;clear h2;go_wp2_with fail;rw[rounds_succ];go_wp2_with fail;refine(HK2.out _).mono ?_;rintro e w' ⟨rfl,rfl⟩;go_wp2_with fail;refine(IH2.out _).mono ?_;rintro e w3 ⟨rfl,bl3⟩;clear c1;go_wp2_with fail;rw[rounds_succ];go_wp2_with fail;go_ret;exact⟨rfl,(aab (aab bl bl2 bl.size) bl3 (Nat.le_trans bl.size bl2.size))⟩
theorem axe (s u v:ByteArray)(k1 k2:Int)(g1 r1 g2 r2:Bool)(HK:Ze 71 #[.string s] (.int .u8 43))(HK1:Ze 71 #[.string u] (.int .u8 k1))(HK2':Ze 71 #[.string v] (.int .u8 k2))(HT1:Ze 88 #[.string ⟨#[33,63,126,43,48]⟩,.int .u8 k1] (.bool g1))(HT2:Ze 88 #[.string ⟨#[33,63,126,43,48]⟩,.int .u8 k2] (.bool g2))(HP:∀w,Calls prog 72 #[.string s] w fun e w'=>∃b,e=.returned (.slice (some ⟨b,0,none⟩) 2 2)/\w.heap.size<=b/\w'.heap[b]?=some (.cells #[.string u,.string v] 9 (0,0))/\Zb w w') (ih:Zr 167 #[.string u] (.bool r1))(ih2:Zr 167 #[.string v] (.bool r2))(w:World) : Calls prog 167 #[.string s] w fun e w'=>e=.returned (.bool (g1 && r1 && (g2 && r2)))/\Zb w w':=by
 have H:=qz HP;have HK2:=qz HK;have HU1:=qz HK1;have HU2:=qz HK2';have HI1:=qz HT1;have HI2:=qz HT2;have IH:=qz ih;have IH2:=qz ih2;clear HP ih ih2 HK HK1 HK2' HT1 HT2
 cases g1
 ·go_enter func167,ntmps167
  go_wp2_with fail;refine(H.out _).mono ?_;rintro e w1 ⟨b,rfl,hb,hh,bl⟩;have c0:=aai hh;have Hh:=qz hh;clear hh;go_wp2_with fail;refine wp_loop_rounds 3 ?_;rw[rounds_succ];go_wp2_with fail;refine(HK2.out _).mono ?_;rintro e w' ⟨rfl,rfl⟩;go_wp2_with fail;refine(HU1.out _).mono ?_;rintro e w' ⟨rfl,rfl⟩;go_wp2_with fail;refine(HI1.out _).mono ?_;rintro e w' ⟨rfl,rfl⟩;clear c0;go_wp2_with fail;go_ret;exact⟨rfl,bl⟩
 ·cases r1
  ·go_enter func167,ntmps167
   go_wp2_with fail;refine(H.out _).mono ?_;rintro e w1 ⟨b,rfl,hb,hh,bl⟩;have c0:=aai hh;have Hh:=qz hh;clear hh;go_wp2_with fail;refine wp_loop_rounds 3 ?_;rw[rounds_succ];go_wp2_with fail;refine(HK2.out _).mono ?_;rintro e w' ⟨rfl,rfl⟩;go_wp2_with fail;refine(HU1.out _).mono ?_;rintro e w' ⟨rfl,rfl⟩;go_wp2_with fail;refine(HI1.out _).mono ?_;rintro e w' ⟨rfl,rfl⟩;go_wp2_with fail;refine(IH.out _).mono ?_;rintro e w2 ⟨rfl,bl2⟩;clear c0;go_wp2_with fail;go_ret;exact⟨rfl,(aab bl bl2 bl.size)⟩
  ·cases g2
   ·go_enter func167,ntmps167
    go_wp2_with fail;refine(H.out _).mono ?_;rintro e w1 ⟨b,rfl,hb,hh,bl⟩;have c0:=aai hh;have Hh:=qz hh;clear hh;go_wp2_with fail;refine wp_loop_rounds 3 ?_;rw[rounds_succ];go_wp2_with fail;refine(HK2.out _).mono ?_;rintro e w' ⟨rfl,rfl⟩;go_wp2_with fail;refine(HU1.out _).mono ?_;rintro e w' ⟨rfl,rfl⟩;go_wp2_with fail;refine(HI1.out _).mono ?_;rintro e w' ⟨rfl,rfl⟩;go_wp2_with fail;refine(IH.out _).mono ?_;rintro e w2 ⟨rfl,bl2⟩;have h2:=(bl2.block b (lt_of_block Hh.out)).trans Hh.out;clear c0;have c1:=aak h2;clear h2;go_wp2_with fail;rw[rounds_succ];go_wp2_with fail;refine(HK2.out _).mono ?_;rintro e w' ⟨rfl,rfl⟩;go_wp2_with fail;refine(HU2.out _).mono ?_;rintro e w' ⟨rfl,rfl⟩;go_wp2_with fail;refine(HI2.out _).mono ?_;rintro e w' ⟨rfl,rfl⟩;clear c1;go_wp2_with fail;go_ret;exact⟨rfl,(aab bl bl2 bl.size)⟩
   ·cases r2
    ·go_enter func167,ntmps167
     go_wp2_with fail;refine(H.out _).mono ?_;rintro e w1 ⟨b,rfl,hb,hh,bl⟩;have c0:=aai hh;have Hh:=qz hh;clear hh;go_wp2_with fail;refine wp_loop_rounds 3 ?_;rw[rounds_succ];go_wp2_with fail;refine(HK2.out _).mono ?_;rintro e w' ⟨rfl,rfl⟩;go_wp2_with fail;refine(HU1.out _).mono ?_;rintro e w' ⟨rfl,rfl⟩;go_wp2_with fail;refine(HI1.out _).mono ?_;rintro e w' ⟨rfl,rfl⟩;go_wp2_with fail;refine(IH.out _).mono ?_;rintro e w2 ⟨rfl,bl2⟩;have h2:=(bl2.block b (lt_of_block Hh.out)).trans Hh.out;clear c0;have c1:=aak h2;clear h2;go_wp2_with fail;rw[rounds_succ];go_wp2_with fail;refine(HK2.out _).mono ?_;rintro e w' ⟨rfl,rfl⟩;go_wp2_with fail;refine(HU2.out _).mono ?_;rintro e w' ⟨rfl,rfl⟩;go_wp2_with fail;refine(HI2.out _).mono ?_;rintro e w' ⟨rfl,rfl⟩;go_wp2_with fail;refine(IH2.out _).mono ?_;rintro e w3 ⟨rfl,bl3⟩;clear c1;go_wp2_with fail;go_ret;exact⟨rfl,(aab (aab bl bl2 bl.size) bl3 (Nat.le_trans bl.size bl2.size))⟩
    ·go_enter func167,ntmps167
     go_wp2_with fail;refine(H.out _).mono ?_;rintro e w1 ⟨b,rfl,hb,hh,bl⟩;have c0:=aai hh;have Hh:=qz hh;clear hh;go_wp2_with fail;refine wp_loop_rounds 3 ?_;rw[rounds_succ];go_wp2_with fail;refine(HK2.out _).mono ?_;rintro e w' ⟨rfl,rfl⟩;go_wp2_with fail;refine(HU1.out _).mono ?_;rintro e w' ⟨rfl,rfl⟩;go_wp2_with fail;refine(HI1.out _).mono ?_;rintro e w' ⟨rfl,rfl⟩;go_wp2_with fail;refine(IH.out _).mono ?_;rintro e w2 ⟨rfl,bl2⟩;have h2:=(bl2.block b (lt_of_block Hh.out)).trans Hh.out;clear c0;have c1:=aak h2;clear h2;go_wp2_with fail;rw[rounds_succ];go_wp2_with fail;refine(HK2.out _).mono ?_;rintro e w' ⟨rfl,rfl⟩;go_wp2_with fail;refine(HU2.out _).mono ?_;rintro e w' ⟨rfl,rfl⟩;go_wp2_with fail;refine(HI2.out _).mono ?_;rintro e w' ⟨rfl,rfl⟩;go_wp2_with fail;refine(IH2.out _).mono ?_;rintro e w3 ⟨rfl,bl3⟩;clear c1;go_wp2_with fail;rw[rounds_succ];go_wp2_with fail;go_ret;exact⟨rfl,(aab (aab bl bl2 bl.size) bl3 (Nat.le_trans bl.size bl2.size))⟩
theorem asu (t:Tm):t.ok nmE=true->t.pr.length<=700->∀(w:World),Calls prog 167 #[.string (S t)] w fun e w'=>e=.returned (.bool t.grd)/\Zb w w':=by
 induction t with
 | nil=>exact fun ho hl=>axc _ (aaf .nil ho hl)
 | snd a b p ih=>
  intro ho hl;have ho':=ho;simp only[Tm.ok,bae]at ho';have hl':=hl;simp only[Tm.pr,List.length_cons]at hl';exact aua _ _ _ (by simp only[Tm.kind];decide) p.grd (aad (.snd a b p) ho hl) (aaf (.snd a b p) ho hl) (ih ho'.2 (by omega))
 | rcv a b p ih=>
  intro ho hl;have ho':=ho;simp only[Tm.ok,bae]at ho';have hl':=hl;simp only[Tm.pr,List.length_cons]at hl';exact aua _ _ _ (by simp only[Tm.kind];decide) p.grd (aad (.rcv a b p) ho hl) (aaf (.rcv a b p) ho hl) (ih ho'.2 (by omega))
 | mat a b p ih=>
  intro ho hl;have ho':=ho;simp only[Tm.ok,bae]at ho';have hl':=hl;simp only[Tm.pr,List.length_cons]at hl';exact aua _ _ _ (by simp only[Tm.kind];decide) p.grd (aad (.mat a b p) ho hl) (aaf (.mat a b p) ho hl) (ih ho'.2 (by omega))
 | own x p ih=>
  intro ho hl;have ho':=ho;simp only[Tm.ok,bae]at ho';have hl':=hl;simp only[Tm.pr,List.length_cons]at hl';exact aua _ _ _ (by simp only[Tm.kind];decide) p.grd (aad (.own x p) ho hl) (aaf (.own x p) ho hl) (ih ho'.2 (by omega))
 | tau p ih=>
  intro ho hl;have ho':=ho;simp only[Tm.ok]at ho';have hl':=hl;simp only[Tm.pr,List.length_cons]at hl';exact aua _ _ _ (by simp only[Tm.kind];decide) p.grd (aad (.tau p) ho hl) (aaf (.tau p) ho hl) (ih ho (by omega))
 | rep p ih=>
  intro ho hl;have ho':=ho;simp only[Tm.ok]at ho';have hl':=hl;simp only[Tm.pr,List.length_cons]at hl';exact aua _ _ _ (by simp only[Tm.kind];decide) p.grd (aad (.rep p) ho hl) (aaf (.rep p) ho hl) (ih ho (by omega))
 | sum p q ih ih2=>
  intro ho hl;have ho':=ho;simp only[Tm.ok,bae]at ho';have hl':=hl;simp only[Tm.pr,List.length_cons,lla]at hl';exact axe _ _ _ _ _ (gd p) p.grd (gd q) q.grd (aad (.sum p q) ho hl) (aad p ho'.1 (by omega)) (aad q ho'.2 (by omega)) (fun w=>abr _ _ w (by decide)) (fun w=>abr _ _ w (by decide)) (aaf (.sum p q) ho hl) (ih ho'.1 (by omega)) (ih2 ho'.2 (by omega))
 | par p q ih ih2=>
  intro ho hl;have ho':=ho;simp only[Tm.ok,bae]at ho';have hl':=hl;simp only[Tm.pr,List.length_cons,lla]at hl';exact axd _ _ _ _ (by simp only[Tm.kind];decide) p.grd q.grd (aad (.par p q) ho hl) (aaf (.par p q) ho hl) (ih ho'.1 (by omega)) (ih2 ho'.2 (by omega))
theorem ala (V:Value)(w:World):Calls prog 184 #[.iface 90 V] w fun e w'=>e=.returned (.bool true)/\w=w':=by
 go_enter func184,ntmps184
 go_wp2_with fail;go_ret;exact⟨rfl,rfl⟩
theorem asv (V:Value)(w:World):Calls prog 184 #[.iface 108 V] w fun e w'=>e=.returned (.bool true)/\w=w':=by
 go_enter func184,ntmps184
 go_wp2_with fail;go_ret;exact⟨rfl,rfl⟩
theorem alb (V:Value)(w:World):Calls prog 184 #[.iface 111 V] w fun e w'=>e=.returned (.bool true)/\w=w':=by
 go_enter func184,ntmps184
 go_wp2_with fail;go_ret;exact⟨rfl,rfl⟩
theorem anl (V:Value)(w:World):Calls prog 184 #[.iface 146 V] w fun e w'=>e=.returned (.bool true)/\w=w':=by
 go_enter func184,ntmps184
 go_wp2_with fail;go_ret;exact⟨rfl,rfl⟩
theorem anm (V:Value)(w:World):Calls prog 184 #[.iface 62 V] w fun e w'=>e=.returned (.bool true)/\w=w':=by
 go_enter func184,ntmps184
 go_wp2_with fail;go_ret;exact⟨rfl,rfl⟩
theorem ann (V:Value)(w:World):Calls prog 184 #[.iface 55 V] w fun e w'=>e=.returned (.bool false)/\w=w':=by
 go_enter func184,ntmps184
 go_wp2_with fail;go_ret;exact⟨rfl,rfl⟩
theorem auO (V:Value)(w:World):Calls prog 184 #[.iface 61 V] w fun e w'=>e=.returned (.bool false)/\w=w':=by
 go_enter func184,ntmps184
 go_wp2_with fail;go_ret;exact⟨rfl,rfl⟩
theorem ap4 (V:Value)(w:World):Calls prog 184 #[.iface 150 V] w fun e w'=>e=.returned (.bool false)/\w=w':=by
 go_enter func184,ntmps184
 go_wp2_with fail;go_ret;exact⟨rfl,rfl⟩
theorem ano (V:Value)(w:World):Calls prog 184 #[.iface 147 V] w fun e w'=>e=.returned (.bool false)/\w=w':=by
 go_enter func184,ntmps184
 go_wp2_with fail;go_ret;exact⟨rfl,rfl⟩
theorem ae2 (t:Tm)(w:World):Calls prog 184 #[.iface (aaB t) (pay t)] w fun e w'=>e=.returned (.bool (gd t))/\w=w':=by
 cases t with
 | nil=>exact ala _ w
 | snd a b p=>exact asv _ w
 | rcv a b p=>exact alb _ w
 | tau p=>exact anl _ w
 | sum p q=>exact anm _ w
 | par p q=>exact ann _ w
 | own x p=>exact auO _ w
 | mat a b p=>exact ap4 _ w
 | rep p=>exact ano _ w
theorem awu (args:Array Value)(w:World):(callFunc 183 args).run prog w=.ok (.enter 183 args) w:=by kernel_rfl
theorem acd (T:TypeId)(V:Value)(w:World)(h:∀w,(Instr.typeAssert (.iface T V) 38 62 true).run prog w=.ok (.tuple #[.agg #[.nilIface,.nilIface],.bool false]) w) : Calls prog 183 (#[.iface T V]++#[]) w fun e w'=>e=.returned (.bool false)/\Zb w w':=by
 show Calls prog 183 #[.iface T V] w _
 go_enter func183,ntmps183
 go_wp2_with fail;go_ret;exact⟨rfl,bra⟩
theorem auP (tp:TypeId)(vp:Value)(tq:TypeId)(vq:Value)(a b:Bool)(H1:Ze 184 #[.iface tp vp] (.bool a))(H2:Ze 184 #[.iface tq vq] (.bool b))(w:World) : Calls prog 183 (#[.iface 62 (.agg #[.iface tp vp,.iface tq vq])]++#[]) w fun e w'=>e=.returned (.bool (!(a && b)))/\Zb w w':=by
 show Calls prog 183 #[.iface 62 (.agg #[.iface tp vp,.iface tq vq])] w _;have HA:=qz H1;have HB:=qz H2;clear H1 H2
 cases a
 ·go_enter func183,ntmps183
  go_wp2_with fail;refine(HA.out _).mono ?_;rintro e w' ⟨rfl,rfl⟩;go_wp2_with fail;go_ret;exact⟨rfl,bra⟩
 ·go_enter func183,ntmps183
  go_wp2_with fail;refine(HA.out _).mono ?_;rintro e w' ⟨rfl,rfl⟩;go_wp2_with fail;refine(HB.out _).mono ?_;rintro e w' ⟨rfl,rfl⟩;go_wp2_with fail;go_ret;exact⟨by cases b<;>rfl,bra⟩
theorem auQ (t:Tm)(w:World):Calls prog 183 (#[.iface (aaB t) (pay t)]++#[]) w fun e w'=>e=.returned (.bool (opn t))/\Zb w w':=by
 cases t with
 | nil=>exact acd _ _ w (ad5 _)
 | snd a b p=>exact acd _ _ w (afN _)
 | rcv a b p=>exact acd _ _ w (ad6 _)
 | tau p=>exact acd _ _ w (aeC _)
 | sum p q=>exact auP _ _ _ _ _ _ (ae2 p) (ae2 q) w
 | par p q=>exact acd _ _ w (aeD _)
 | own x p=>exact acd _ _ w (agL _)
 | mat a b p=>exact acd _ _ w (aeY _)
 | rep p=>exact acd _ _ w (aeF _)
theorem agQ (t:Tm)(ht:t.size<=1000)(w:World):Calls prog 170 #[.iface (aaB t) (pay t)] w fun e w'=>e=.returned (.bool t.grd)/\Zb w w':=by
 have HC:=acw 183 #[] opn (fun _=>True) awu (fun t w _=>auQ t w) t ht w (fun _ _ _ _=>trivial) trivial;rw[<-auN];obtain⟨T,hT⟩:∃T,T=aaB t:=⟨_,rfl⟩;obtain⟨V,hV⟩:∃V,V=pay t:=⟨_,rfl⟩;obtain⟨N,hN⟩:∃N,N=t.subs.countP opn:=⟨_,rfl⟩;rw[<-hT,<-hV,<-hN]at HC;rw[<-hT,<-hV,<-hN];have H:=qz HC;clear hT hV hN HC
 go_enter func170,ntmps170
 go_wp2_with fail;refine(H.out).mono ?_;rintro e w1 ⟨rfl,bl⟩;go_wp2_with fail;go_ret;exact⟨rfl,bl⟩
def Tm.inp:Tm->Bool
 | .nil=>true
 | .snd _ _ p=>p.inp
 | .rcv _ _ p=>p.inp
 | .tau p=>p.inp
 | .sum p q=>p.inp && q.inp
 | .par p q=>p.inp && q.inp
 | .own _ p=>p.inp
 | .mat _ _ p=>p.inp
 | .rep p=>(p.kind==63) && p.inp
def rpt:Tm->Bool
 | .rep p=>!(p.kind==63)
 | _=>false
theorem asw (t:Tm):((t.subs.countP rpt:Nat):Int)=0↔t.inp=true:=by
 induction t with
 | nil=>simp[Tm.subs,rpt,Tm.inp]
 | sum p q ih ih2=>
  simp only[Tm.subs,Tm.inp,ae1,List.countP_append,bae];rw[<-ih,<-ih2,show rpt (.sum p q)=false from rfl]
  generalize p.subs.countP rpt=A
  generalize q.subs.countP rpt=B
  simp;omega
 | par p q ih ih2=>
  simp only[Tm.subs,Tm.inp,ae1,List.countP_append,bae];rw[<-ih,<-ih2,show rpt (.par p q)=false from rfl]
  generalize p.subs.countP rpt=A
  generalize q.subs.countP rpt=B
  simp;omega
 | rep p ih=>
  simp only[Tm.subs,Tm.inp,ae1,bae];rw[<-ih,show rpt (.rep p)=!(p.kind==63) from rfl]
  generalize p.subs.countP rpt=A
  cases (p.kind==63)<;>simp;omega
 | _=>simp_all [Tm.subs,rpt,Tm.inp]
theorem auR (t:Tm):(((t.subs.countP rpt:Nat):Int)==0)=t.inp:=by
 rw[Bool.eq_iff_iff,beq_iff_eq];exact asw t
theorem ap5 (p:Tm):((p.kind.toNat:Int) != 63)=!(p.kind==63):=by
 rw[Bool.eq_iff_iff];simp only[bne_iff_ne,Bool.not_eq_true',beq_eq_false_iff_ne,ne_eq];rw[<-UInt8.toNat_inj];simp;omega
theorem axf (s:ByteArray)(HP:∀w,Calls prog 72 #[.string s] w (PartsS [] w))(w:World) : Calls prog 168 #[.string s] w fun e w'=>e=.returned (.bool true)/\Zb w w':=by
 have H:=qz HP;clear HP
 go_enter func168,ntmps168
 go_wp2_with fail;refine(H.out _).mono ?_;rintro e w1 ⟨rfl,bl⟩;go_wp2_with fail;refine wp_loop_rounds 1 ?_;rw[rounds_succ];go_wp2_with fail;go_ret;exact⟨rfl,bl⟩
theorem auS (s u:ByteArray)(kd:Int)(hk:(kd==42)=false)(r:Bool)(HK:Ze 71 #[.string s] (.int .u8 kd))(HP:∀w,Calls prog 72 #[.string s] w fun e w'=>∃b,e=.returned (.slice (some ⟨b,0,none⟩) 1 1)/\w.heap.size<=b/\w'.heap[b]?=some (.cells #[.string u] 9 (0,0))/\Zb w w') (ih:Zr 168 #[.string u] (.bool r))(w:World) : Calls prog 168 #[.string s] w fun e w'=>e=.returned (.bool r)/\Zb w w':=by
 have H:=qz HP;have HK2:=qz HK;have IH:=qz ih;clear HP ih HK
 cases r
 ·go_enter func168,ntmps168
  go_wp2_with fail;refine(H.out _).mono ?_;rintro e w1 ⟨b,rfl,hb,hh,bl⟩;have c0:=aah hh;have Hh:=qz hh;clear hh;go_wp2_with fail;refine wp_loop_rounds 2 ?_;rw[rounds_succ];go_wp2_with fail;refine(HK2.out _).mono ?_;rintro e w' ⟨rfl,rfl⟩;go_wp2_with fail;refine(IH.out _).mono ?_;rintro e w2 ⟨rfl,bl2⟩;clear c0;go_wp2_with fail;go_ret;exact⟨rfl,(aab bl bl2 bl.size)⟩
 ·go_enter func168,ntmps168
  go_wp2_with fail;refine(H.out _).mono ?_;rintro e w1 ⟨b,rfl,hb,hh,bl⟩;have c0:=aah hh;have Hh:=qz hh;clear hh;go_wp2_with fail;refine wp_loop_rounds 2 ?_;rw[rounds_succ];go_wp2_with fail;refine(HK2.out _).mono ?_;rintro e w' ⟨rfl,rfl⟩;go_wp2_with fail;refine(IH.out _).mono ?_;rintro e w2 ⟨rfl,bl2⟩;clear c0;go_wp2_with fail;rw[rounds_succ];go_wp2_with fail;go_ret;exact⟨rfl,(aab bl bl2 bl.size)⟩
theorem aw0 (s u v:ByteArray)(kd:Int)(hk:(kd==42)=false)(r1 r2:Bool)(HK:Ze 71 #[.string s] (.int .u8 kd))(HP:∀w,Calls prog 72 #[.string s] w fun e w'=>∃b,e=.returned (.slice (some ⟨b,0,none⟩) 2 2)/\w.heap.size<=b/\w'.heap[b]?=some (.cells #[.string u,.string v] 9 (0,0))/\Zb w w') (ih:Zr 168 #[.string u] (.bool r1))(ih2:Zr 168 #[.string v] (.bool r2))(w:World) : Calls prog 168 #[.string s] w fun e w'=>e=.returned (.bool (r1 && r2))/\Zb w w':=by
 have H:=qz HP;have HK2:=qz HK;have IH:=qz ih;have IH2:=qz ih2;clear HP ih ih2 HK
 cases r1
 ·go_enter func168,ntmps168
  go_wp2_with fail;refine(H.out _).mono ?_;rintro e w1 ⟨b,rfl,hb,hh,bl⟩;have c0:=aai hh;have Hh:=qz hh;clear hh;go_wp2_with fail;refine wp_loop_rounds 3 ?_;rw[rounds_succ];go_wp2_with fail;refine(HK2.out _).mono ?_;rintro e w' ⟨rfl,rfl⟩;go_wp2_with fail;refine(IH.out _).mono ?_;rintro e w2 ⟨rfl,bl2⟩;clear c0;go_wp2_with fail;go_ret;exact⟨rfl,(aab bl bl2 bl.size)⟩
 ·cases r2
  ·go_enter func168,ntmps168
   go_wp2_with fail;refine(H.out _).mono ?_;rintro e w1 ⟨b,rfl,hb,hh,bl⟩;have c0:=aai hh;have Hh:=qz hh;clear hh;go_wp2_with fail;refine wp_loop_rounds 3 ?_;rw[rounds_succ];go_wp2_with fail;refine(HK2.out _).mono ?_;rintro e w' ⟨rfl,rfl⟩;go_wp2_with fail;refine(IH.out _).mono ?_;rintro e w2 ⟨rfl,bl2⟩;have h2:=(bl2.block b (lt_of_block Hh.out)).trans Hh.out;clear c0;have c1:=aak h2;clear h2;go_wp2_with fail;rw[rounds_succ];go_wp2_with fail;refine(HK2.out _).mono ?_;rintro e w' ⟨rfl,rfl⟩;go_wp2_with fail;refine(IH2.out _).mono ?_;rintro e w3 ⟨rfl,bl3⟩;clear c1;go_wp2_with fail;go_ret;exact⟨rfl,(aab (aab bl bl2 bl.size) bl3 (Nat.le_trans bl.size bl2.size))⟩
  ·go_enter func168,ntmps168
   go_wp2_with fail;refine(H.out _).mono ?_;rintro e w1 ⟨b,rfl,hb,hh,bl⟩;have c0:=aai hh;have Hh:=qz hh;clear hh;go_wp2_with fail;refine wp_loop_rounds 3 ?_;rw[rounds_succ];go_wp2_with fail;refine(HK2.out _).mono ?_;rintro e w' ⟨rfl,rfl⟩;go_wp2_with fail;refine(IH.out _).mono ?_;rintro e w2 ⟨rfl,bl2⟩;have h2:=(bl2.block b (lt_of_block Hh.out)).trans Hh.out;clear c0;have c1:=aak h2;clear h2;go_wp2_with fail;rw[rounds_succ];go_wp2_with fail;refine(HK2.out _).mono ?_;rintro e w' ⟨rfl,rfl⟩;go_wp2_with fail;refine(IH2.out _).mono ?_;rintro e w3 ⟨rfl,bl3⟩;clear c1;go_wp2_with fail;rw[rounds_succ];go_wp2_with fail;go_ret;exact⟨rfl,(aab (aab bl bl2 bl.size) bl3 (Nat.le_trans bl.size bl2.size))⟩
theorem axg (s u:ByteArray)(k1:Int)(g r:Bool)(hg:(k1 != 63)=!g)(HK:Ze 71 #[.string s] (.int .u8 42))(HK1:Ze 71 #[.string u] (.int .u8 k1))(HP:∀w,Calls prog 72 #[.string s] w fun e w'=>∃b,e=.returned (.slice (some ⟨b,0,none⟩) 1 1)/\w.heap.size<=b/\w'.heap[b]?=some (.cells #[.string u] 9 (0,0))/\Zb w w') (ih:Zr 168 #[.string u] (.bool r))(w:World) : Calls prog 168 #[.string s] w fun e w'=>e=.returned (.bool (g && r))/\Zb w w':=by
 have H:=qz HP;have HK2:=qz HK;have HU1:=qz HK1;have IH:=qz ih;clear HP ih HK HK1
 cases g
 ·go_enter func168,ntmps168
  go_wp2_with fail;refine(H.out _).mono ?_;rintro e w1 ⟨b,rfl,hb,hh,bl⟩;have c0:=aah hh;have Hh:=qz hh;clear hh;go_wp2_with fail;refine wp_loop_rounds 2 ?_;rw[rounds_succ];go_wp2_with fail;refine(HK2.out _).mono ?_;rintro e w' ⟨rfl,rfl⟩;go_wp2_with fail;refine(HU1.out _).mono ?_;rintro e w' ⟨rfl,rfl⟩;clear c0;go_wp2_with fail;go_ret;exact⟨rfl,bl⟩
 ·cases r
  ·go_enter func168,ntmps168
   go_wp2_with fail;refine(H.out _).mono ?_;rintro e w1 ⟨b,rfl,hb,hh,bl⟩;have c0:=aah hh;have Hh:=qz hh;clear hh;go_wp2_with fail;refine wp_loop_rounds 2 ?_;rw[rounds_succ];go_wp2_with fail;refine(HK2.out _).mono ?_;rintro e w' ⟨rfl,rfl⟩;go_wp2_with fail;refine(HU1.out _).mono ?_;rintro e w' ⟨rfl,rfl⟩;go_wp2_with fail;refine(IH.out _).mono ?_;rintro e w2 ⟨rfl,bl2⟩;clear c0;go_wp2_with fail;go_ret;exact⟨rfl,(aab bl bl2 bl.size)⟩
  ·go_enter func168,ntmps168
   go_wp2_with fail;refine(H.out _).mono ?_;rintro e w1 ⟨b,rfl,hb,hh,bl⟩;have c0:=aah hh;have Hh:=qz hh;clear hh;go_wp2_with fail;refine wp_loop_rounds 2 ?_;rw[rounds_succ];go_wp2_with fail;refine(HK2.out _).mono ?_;rintro e w' ⟨rfl,rfl⟩;go_wp2_with fail;refine(HU1.out _).mono ?_;rintro e w' ⟨rfl,rfl⟩;go_wp2_with fail;refine(IH.out _).mono ?_;rintro e w2 ⟨rfl,bl2⟩;clear c0;go_wp2_with fail;rw[rounds_succ];go_wp2_with fail;go_ret;exact⟨rfl,(aab bl bl2 bl.size)⟩
theorem asx (t:Tm):t.ok nmE=true->t.pr.length<=700->∀(w:World),Calls prog 168 #[.string (S t)] w fun e w'=>e=.returned (.bool t.inp)/\Zb w w':=by
 induction t with
 | nil=>exact fun ho hl=>axf _ (aaf .nil ho hl)
 | snd a b p ih=>
  intro ho hl;have ho':=ho;simp only[Tm.ok,bae]at ho';have hl':=hl;simp only[Tm.pr,List.length_cons]at hl';exact auS _ _ _ (by simp only[Tm.kind];decide) p.inp (aad (.snd a b p) ho hl) (aaf (.snd a b p) ho hl) (ih ho'.2 (by omega))
 | rcv a b p ih=>
  intro ho hl;have ho':=ho;simp only[Tm.ok,bae]at ho';have hl':=hl;simp only[Tm.pr,List.length_cons]at hl';exact auS _ _ _ (by simp only[Tm.kind];decide) p.inp (aad (.rcv a b p) ho hl) (aaf (.rcv a b p) ho hl) (ih ho'.2 (by omega))
 | mat a b p ih=>
  intro ho hl;have ho':=ho;simp only[Tm.ok,bae]at ho';have hl':=hl;simp only[Tm.pr,List.length_cons]at hl';exact auS _ _ _ (by simp only[Tm.kind];decide) p.inp (aad (.mat a b p) ho hl) (aaf (.mat a b p) ho hl) (ih ho'.2 (by omega))
 | own x p ih=>
  intro ho hl;have ho':=ho;simp only[Tm.ok,bae]at ho';have hl':=hl;simp only[Tm.pr,List.length_cons]at hl';exact auS _ _ _ (by simp only[Tm.kind];decide) p.inp (aad (.own x p) ho hl) (aaf (.own x p) ho hl) (ih ho'.2 (by omega))
 | tau p ih=>
  intro ho hl;have ho':=ho;simp only[Tm.ok]at ho';have hl':=hl;simp only[Tm.pr,List.length_cons]at hl';exact auS _ _ _ (by simp only[Tm.kind];decide) p.inp (aad (.tau p) ho hl) (aaf (.tau p) ho hl) (ih ho (by omega))
 | rep p ih=>
  intro ho hl;have ho':=ho;simp only[Tm.ok]at ho';have hl':=hl;simp only[Tm.pr,List.length_cons]at hl';exact axg _ _ _ (p.kind==63) p.inp (ap5 p) (aad (.rep p) ho hl) (aad p ho (by omega)) (aaf (.rep p) ho hl) (ih ho (by omega))
 | sum p q ih ih2=>
  intro ho hl;have ho':=ho;simp only[Tm.ok,bae]at ho';have hl':=hl;simp only[Tm.pr,List.length_cons,lla]at hl';exact aw0 _ _ _ _ (by simp only[Tm.kind];decide) p.inp q.inp (aad (.sum p q) ho hl) (aaf (.sum p q) ho hl) (ih ho'.1 (by omega)) (ih2 ho'.2 (by omega))
 | par p q ih ih2=>
  intro ho hl;have ho':=ho;simp only[Tm.ok,bae]at ho';have hl':=hl;simp only[Tm.pr,List.length_cons,lla]at hl';exact aw0 _ _ _ _ (by simp only[Tm.kind];decide) p.inp q.inp (aad (.par p q) ho hl) (aaf (.par p q) ho hl) (ih ho'.1 (by omega)) (ih2 ho'.2 (by omega))
theorem auT (args:Array Value)(w:World):(callFunc 169 args).run prog w=.ok (.enter 169 args) w:=by kernel_rfl
theorem ace (T:TypeId)(V:Value)(w:World)(h:∀w,(Instr.typeAssert (.iface T V) 38 147 true).run prog w=.ok (.tuple #[.agg #[.nilIface],.bool false]) w) : Calls prog 169 (#[.iface T V]++#[]) w fun e w'=>e=.returned (.bool false)/\Zb w w':=by
 show Calls prog 169 #[.iface T V] w _
 go_enter func169,ntmps169
 go_wp2_with fail;go_ret;exact⟨rfl,bra⟩
theorem auU (tp:TypeId)(vp:Value)(k:UInt8)(hk:KindFact tp vp (one k))(w:World) : Calls prog 169 (#[.iface 147 (.agg #[.iface tp vp])]++#[]) w fun e w'=>e=.returned (.bool (!(k==63)))/\Zb w w':=by
 show Calls prog 169 #[.iface 147 (.agg #[.iface tp vp])] w _;obtain⟨F,R,hm1,hn1,hc1,hp⟩:=hk
 have HE:Hid (((one k).toList==[63])=(k==63)):=by
  have h:∀c,(one c).toList=[c]:=fun c=>by rw[ByteArray.toList_eq];rfl
  show _=_;rw[h];simp
 obtain⟨o,ho⟩:∃o,o=one k:=⟨_,rfl⟩;rw[<-ho]at hp HE;have H:=qz hp;clear hp ho
 go_enter func169,ntmps169
 go_wp2_with fail;refine(H.out _).mono ?_;rintro e w' ⟨rfl,bl⟩;go_wp2_with fail;go_ret;refine⟨?_,aab (bra) bl (by simp)⟩;rw[<-HE.out];rfl
theorem auV (t:Tm)(w:World):Calls prog 169 (#[.iface (aaB t) (pay t)]++#[]) w fun e w'=>e=.returned (.bool (rpt t))/\Zb w w':=by
 cases t with
 | nil=>exact ace _ _ w (aco _)
 | snd a b p=>exact ace _ _ w (adj _)
 | rcv a b p=>exact ace _ _ w (acp _)
 | tau p=>exact ace _ _ w (acK _)
 | sum p q=>exact ace _ _ w (acL _)
 | par p q=>exact ace _ _ w (acM _)
 | own x p=>exact ace _ _ w (adA _)
 | mat a b p=>exact ace _ _ w (acR _)
 | rep p=>exact auU _ _ p.kind (abf p) w
theorem ah3 (t:Tm)(ht:t.size<=1000)(w:World):Calls prog 135 #[.iface (aaB t) (pay t)] w fun e w'=>e=.returned (.bool (t.grd && t.inp))/\Zb w w':=by
 have HC:=acw 169 #[] rpt (fun _=>True) auT (fun t w _=>auV t w) t ht w (fun _ _ _ _=>trivial) trivial;have HG:=fun w=>agQ t ht w;rw[<-auR];obtain⟨T,hT⟩:∃T,T=aaB t:=⟨_,rfl⟩;obtain⟨V,hV⟩:∃V,V=pay t:=⟨_,rfl⟩;obtain⟨N,hN⟩:∃N,N=t.subs.countP rpt:=⟨_,rfl⟩;obtain⟨G,hG⟩:∃G,G=t.grd:=⟨_,rfl⟩;rw[<-hT,<-hV,<-hN]at HC;rw[<-hT,<-hV,<-hG]at HG;rw[<-hT,<-hV,<-hN,<-hG];have H:=qz HC;have H2:=qz HG;clear hT hV hN hG HC HG
 cases hz:((N:Int)==0) with
 | true=>
  go_enter func135,ntmps135
  go_wp2_with fail;refine(H.out).mono ?_;rintro e w1 ⟨rfl,bl⟩;go_wp2_with fail;refine(H2.out _).mono ?_;rintro e w2 ⟨rfl,bl2⟩;go_wp2_with fail;go_ret;exact⟨abP (by simp),aab bl bl2 bl.size⟩
 | false=>
  go_enter func135,ntmps135
  go_wp2_with fail;refine(H.out).mono ?_;rintro e w1 ⟨rfl,bl⟩;go_wp2_with fail;go_ret;exact⟨abP (by simp),bl⟩
theorem ah4 (t:Tm)(ho:t.ok nmE=true)(hl:t.pr.length<=700)(w:World):Calls prog 134 #[.string (S t)] w fun e w'=>e=.returned (.bool (t.grd && t.inp))/\Zb w w':=by
 have HG:=asu t ho hl;have HI:=asx t ho hl;obtain⟨s,hs⟩:∃s,s=S t:=⟨_,rfl⟩;obtain⟨G,hG⟩:∃G,G=t.grd:=⟨_,rfl⟩;obtain⟨I,hI⟩:∃I,I=t.inp:=⟨_,rfl⟩;rw[<-hs,<-hG]at HG;rw[<-hs,<-hI]at HI;rw[<-hs,<-hG,<-hI];have H:=qz HG;have H2:=qz HI;clear hs hG hI HG HI
 cases G with
 | true=>
  go_enter func134,ntmps134
  go_wp2_with fail;refine(H.out _).mono ?_;rintro e w1 ⟨rfl,bl⟩;go_wp2_with fail;refine(H2.out _).mono ?_;rintro e w2 ⟨rfl,bl2⟩;go_wp2_with fail;go_ret;exact⟨abP (by simp),aab bl bl2 bl.size⟩
 | false=>
  go_enter func134,ntmps134
  go_wp2_with fail;refine(H.out _).mono ?_;rintro e w1 ⟨rfl,bl⟩;go_wp2_with fail;go_ret;exact⟨abP (by simp),bl⟩
end Go.Proofs.YtalegefnppbkdaaGreat.T1
