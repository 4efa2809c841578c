/- Texts of the proof. No conditions. -/
import Derived.Test.YtalegefnppbkdaaGreatQai
import Derived.Lib.OthersKept
import Derived.Deep.LoopGhost
import Derived.Laws.IdiomStrings
import Derived.Laws.RangeAny
namespace Go.Proofs.YtalegefnppbkdaaGreat.T1
open Go.Proofs.Tryz
set_option maxHeartbeats 2000000
open Go.RowKit
theorem ac5 {s:ByteArray}{t:Tm}(hg:good s.data.toList=some t)(w:World)(hm:s.size<=9223372036854775807) : Calls prog 50 #[.string s] w fun e w'=>e=.returned (.tuple #[.iface (aaB t) (pay t),.bool true])/\Zb w w':=by
 refine(ahV s w hm).mono ?_;rintro e w' ⟨⟨t',h1,h2⟩|⟨h1,_⟩,bl⟩
 ·rw[hg]at h1;cases h1;exact⟨h2,bl⟩
 ·rw[hg]at h1;cases h1
theorem aec {s:ByteArray}(hg:good s.data.toList=none)(w:World)(hm:s.size<=9223372036854775807) : Calls prog 50 #[.string s] w fun e w'=>e=.returned (.tuple #[.nilIface,.bool false])/\Zb w w':=by
 refine(ahV s w hm).mono ?_;rintro e w' ⟨⟨t',h1,h2⟩|⟨_,h2⟩,bl⟩
 ·rw[hg]at h1;cases h1
 ·exact⟨h2,bl⟩
theorem acx {s:ByteArray}{t:Tm}(hg:good s.data.toList=some t)(w:World)(hm:s.size<=9223372036854775807) : Calls prog 48 #[.string s] w fun e w'=>e=.returned (.bool true)/\Zb w w':=by
 have:=agi s w hm;rw[ahW hg]at this
 exact this
theorem adn {s:ByteArray}(hg:good s.data.toList=none)(w:World)(hm:s.size<=9223372036854775807) : Calls prog 48 #[.string s] w fun e w'=>e=.returned (.bool false)/\Zb w w':=by
 have:=agi s w hm;rw[show aeb s=false from by unfold aeb;rw[hg];rfl]at this
 exact this
theorem ajF {s:ByteArray}{t:Tm}(hg:good s.data.toList=some t):s=S t/\t.ok nmL=true/\t.ok nmE=true/\t.pr.length<=300/\t.size<=60:=by
 obtain⟨h1,h2,h3,h4⟩:=aeJ hg;exact⟨awm h2,h3,asj t h3,by rw[<-h2];exact h1,h4⟩
set_option maxRecDepth 100000
def B (l:List UInt8):ByteArray:=⟨l.toArray⟩
theorem aaE (l:List UInt8):(B l).data.toList=l:=rfl
theorem axb (s:ByteArray):B s.data.toList=s:=by apply ByteArray.ext;simp[B]
theorem apw {s:ByteArray}{l:List UInt8}(h:s.data.toList=l):s=B l:=by rw[<-h,axb]
theorem aaR (l:List UInt8):(B l).size=l.length:=by simp[B,ByteArray.size]
set_option linter.unusedVariables false
theorem acy (s:ByteArray)(k:Nat)(h:k<s.size):s.data.toList[k]'(by simpa using h)=s[k]'h:=by simp[ByteArray.getElem_eq_getElem_data]
theorem amT (k:UInt8)(w:World):(convert 44 9 (.slice (some ⟨w.heap.size,0,none⟩) 1 1)).run prog (w.alloc (.cells #[.int .u8 (k.toNat:Int)] 5))=.ok (.string (one k)) (w.alloc (.cells #[.int .u8 (k.toNat:Int)] 5)):=
 run_convert_bytes_back _ 44 9 5 _ 1 [k] underlying44 underlying5 underlying9 (fun j hj=>by
  have:j=0:=by simp at hj;omega
  subst this
  rw[show (⟨w.heap.size,0,none⟩:Addr).add 0=⟨w.heap.size,0,none⟩ from rfl,World.cell?_alloc_new];rfl)
theorem amU (k:UInt8)(w:World):(convert 44 9 (.slice (some ⟨w.heap.size,0,none⟩) 1 1)).run prog (w.alloc (.cells #[.int .u8 (k.toNat:Int)] 5)).drew=.ok (.string (one k)) (w.alloc (.cells #[.int .u8 (k.toNat:Int)] 5)).drew:=
 run_convert_bytes_back _ 44 9 5 _ 1 [k] underlying44 underlying5 underlying9 (fun j hj=>by
  have:j=0:=by simp at hj;omega
  subst this
  show (w.alloc (.cells #[.int .u8 (k.toNat:Int)] 5)).cell? _=_
  rw[show (⟨w.heap.size,0,none⟩:Addr).add 0=⟨w.heap.size,0,none⟩ from rfl,World.cell?_alloc_new];rfl)
theorem amV (s:ByteArray)(c:UInt8)(k:Nat)(hk:k<=s.size)(h1:∀i (hi:i<s.size),i<k->s[i]<c)(h2:∀hk:k<s.size,¬s[k]<c/\s[k]≠c) : s.extract 0 k++one c++s.extract k s.size=B (addL s.data.toList c):=by
 apply apw
 have hl:s.data.toList.length=s.size:=by simp
 rw[amm c s.data.toList k (by omega) (fun i hi hik=>by rw[acy s i (by omega)];exact h1 i (by omega) hik) (fun hk'=>by rw[acy s k (by omega)];exact(h2 (by omega)).1)];rw[ByteArray.data_append,ByteArray.data_append,Array.toList_append,Array.toList_append,ByteArray.data_extract,ByteArray.data_extract,Array.toList_extract,Array.toList_extract]
 by_cases hlt:k<s.data.toList.length
 ·rw[dif_pos hlt,if_neg (by rw[acy s k (by omega)];exact(h2 (by omega)).2)];simp[one,List.extract_eq_take_drop];exact List.take_of_length_le (by simp)
 ·have:k=s.size:=by omega
  subst this
  rw[dif_neg hlt];simp[one,List.extract_eq_take_drop];exact List.take_of_length_le (by simp)
theorem apX (s:ByteArray)(c:UInt8)(k:Nat)(hk:k<s.size)(h1:∀i (hi:i<s.size),i<k->s[i]<c)(h2:s[k]=c):s=B (addL s.data.toList c):=by
 apply apw
 have hl:s.data.toList.length=s.size:=by simp
 rw[amm c s.data.toList k (by omega) (fun i hi hik=>by rw[acy s i (by omega)];exact h1 i (by omega) hik) (fun hk'=>by rw[acy s k (by omega),h2,abO];omega)];rw[dif_pos (by omega),if_pos (by rw[acy s k (by omega)];exact h2)]
theorem adD (s:ByteArray)(c:UInt8)(hs:s.size<=100000)(w:World):Calls prog 91 #[.string s,.int .u8 (c.toNat:Int)] w fun e w'=>e=.returned (.string (B (addL s.data.toList c)))/\Zb w w':=by
 obtain⟨cc,hcc⟩:∃cc,cc=(c.toNat:Int):=⟨_,rfl⟩;have HCC:=qz hcc;have c0:0<=cc:=by omega
 have c1:cc<256:=by have:=c.toNat_lt;omega
 have hcv:=amT c;have hcd:=amU c;rw[<-hcc]at hcv hcd ⊢;obtain⟨O,hO⟩:∃O,O=one c:=⟨_,rfl⟩;have hO1:O.size=1:=by rw[hO];rfl
 rw[<-hO]at hcv hcd;have HO:=qz hO;clear hcc hO
 go_enter func91,ntmps91
 go_wp2_with fail
 go_loop [5] (fun v=>∃k:Nat,k<=s.size/\v=.int .i64 (k:Int)/\Hid (∀i (hi:i<s.size),i<k->s[i]<c)) (fun v=>s.size - (intOf v).toNat)
 case atStart=>exact⟨0,Nat.zero_le _,rfl,fun i hi h=>by omega⟩
 case round=>
  obtain⟨k,hk,rfl,H⟩:=hrel
  by_cases hlt:k<s.size
  ·have hby:(s[k]'hlt).toNat<256:=(s[k]'hlt).toNat_lt
   by_cases hc:((s[k]'hlt).toNat:Int)<cc
   ·have H':Hid (∀i (hi:i<s.size),i<k+1->s[i]<c):=fun i hi h=>by
     rcases Nat.lt_or_ge i k with h'|h'
     ·exact H.out i hi h'
     ·obtain rfl:i=k:=by omega
      rw[abO];have:=HCC.out;omega
    go_wp2_with fail
    go_round
    case rel=>exact⟨k+1,by omega,by go_num,H'⟩
    case measure=>simp[intOf];omega
   ·by_cases he:((s[k]'hlt).toNat:Int)=cc
    ·have HE:Hid (s=B (addL s.data.toList c)):=apX s c k hlt H.out (u8_ext (by have:=HCC.out;omega));have b1:(((s[k]'hlt).toNat:Int)==cc)=true:=by simp[he]
     clear he;go_wp2_with fail;go_ret;exact⟨by rw[<-HE.out];rfl,Below.refl _ _⟩
    ·have HE:Hid (s.extract 0 k++O++s.extract k s.size=B (addL s.data.toList c)):=HO.out▸amV s c k hk H.out (fun _=>⟨by rw[abO];have:=HCC.out;omega,fun e=>he (by rw[e];exact HCC.out.symm)⟩);have b1:(((s[k]'hlt).toNat:Int)==cc)=false:=by simp[he]
     clear he;go_wp2_with fail
     go_region
     all_goals go_wp2_with fail
     all_goals go_ret
     all_goals exact⟨by rw[<-HE.out];rfl,(bra).drew⟩
  ·have HE:Hid (s.extract 0 k++O++s.extract k s.size=B (addL s.data.toList c)):=HO.out▸amV s c k hk H.out (fun h=>absurd h hlt);go_wp2_with fail
   go_region
   all_goals go_wp2_with fail
   all_goals go_ret
   all_goals exact⟨by rw[<-HE.out];rfl,(bra).drew⟩
theorem ahX (s:ByteArray)(c:UInt8)(k:Nat)(h:k<s.size):abx (s.data.toList.take (k+1)) c=abx (s.data.toList.take k) c++(if s[k]=c then [] else [s[k]]):=by
 rw[ady s k h];unfold abx;rw[List.filter_append]
 by_cases hc:s[k]=c
 ·simp[hc]
 ·simp[hc]
theorem auE (l:List UInt8)(s:ByteArray)(k:Nat)(h:k<s.size):B l++s.extract k (k+1)=B (l++[s[k]]):=by
 apply apw
 rw[ByteArray.data_append,Array.toList_append,ByteArray.data_extract,Array.toList_extract,aaE,List.extract_eq_take_drop,List.drop_eq_getElem_cons (by simpa using h),acy s k h];simp
theorem aed (s:ByteArray)(c:UInt8)(hs:s.size<=100000)(w:World):Calls prog 90 #[.string s,.int .u8 (c.toNat:Int)] w fun e w'=>e=.returned (.string (B (abx s.data.toList c)))/\w=w':=by
 obtain⟨cc,hcc⟩:∃cc,cc=(c.toNat:Int):=⟨_,rfl⟩;have HCC:=qz hcc;rw[<-hcc];clear hcc
 go_enter func90,ntmps90
 go_wp2_with fail
 go_loop [5,6] (fun o v=>∃(X:ByteArray) (k:Nat),k<=s.size/\o=.string X/\X.size<=k/\v=.int .i64 (k:Int)/\Hid (X=B (abx (s.data.toList.take k) c))) (fun _ v=>s.size - (intOf v).toNat)
 case atStart=>exact⟨⟨#[]⟩,0,Nat.zero_le _,rfl,nl _,rfl,rfl⟩
 case round=>
  obtain⟨X,k,hk,rfl,hX,rfl,H⟩:=hrel
  by_cases hlt:k<s.size
  ·have hw1:IntKind.i64.wrap ((k:Int)+1)=(k:Int)+1:=IntWalk.i64_in _ (by omega)
   by_cases hc:((s[k]'hlt).toNat:Int)=cc
   ·have H':Hid (X=B (abx (s.data.toList.take (k+1)) c)):=by
     show _=_;rw[ahX s c k hlt,if_pos (u8_ext (by have:=HCC.out;omega)),List.append_nil];exact H.out
    have b1:(((s[k]'hlt).toNat:Int) != cc)=false:=by simp[hc]
    clear hc;go_wp2_with fail
    go_round
    case rel=>exact⟨X,k+1,by omega,rfl,by omega,by go_num,H'⟩
    case measure=>simp[intOf];omega
   ·have H':Hid (X++s.extract k (k+1)=B (abx (s.data.toList.take (k+1)) c)):=by
     show _=_;rw[ahX s c k hlt,if_neg (fun e=>hc (by rw[e];exact HCC.out.symm)),H.out,auE _ s k hlt]
    have b1:(((s[k]'hlt).toNat:Int) != cc)=true:=by simp[hc]
    clear hc;go_wp2_with fail
    go_round
    case rel=>exact⟨_,k+1,by omega,rfl,by simp;omega,by go_num,H'⟩
    case measure=>simp[intOf];omega
  ·have HE:Hid (X=B (abx s.data.toList c)):=by
    have:=H.out;rw[List.take_of_length_le (by simp;omega)]at this
    exact this
   go_wp2_with fail;go_ret;exact⟨by rw[<-HE.out];rfl,rfl⟩
theorem amW (a:List UInt8)(s:ByteArray)(k:Nat)(h:k<s.size):bothL a (s.data.toList.take (k+1))=addL (bothL a (s.data.toList.take k)) s[k]:=by
 rw[ady s k h];unfold bothL;rw[List.foldl_append];rfl
theorem abA (a:List UInt8)(s:ByteArray)(ha:Srt a)(hs:s.size<=100000)(w:World):Calls prog 64 #[.string (B a),.string s] w fun e w'=>e=.returned (.string (B (bothL a s.data.toList)))/\Zb w w':=by
 have HA:=qz ha;obtain⟨X0,hX0⟩:∃X0,X0=B a:=⟨_,rfl⟩;rw[<-hX0];have HX0:=qz hX0;clear hX0 ha
 go_enter func64,ntmps64
 go_wp2_with fail
 go_loopw [0,5] (fun o v wr=>∃(X:ByteArray) (k:Nat),k<=s.size/\o=.string X/\v=.int .i64 (k:Int)/\Hid (X=B (bothL a (s.data.toList.take k)))/\Zb w wr) (fun _ v _=>s.size - (intOf v).toNat)
 case atStart=>exact⟨X0,0,Nat.zero_le _,rfl,rfl,HX0,Below.refl _ _⟩
 case round=>
  obtain⟨X,k,hk,rfl,rfl,H,hbw⟩:=hrel
  by_cases hlt:k<s.size
  ·have HC:Hid (∀w,Calls prog 91 #[.string X,.int .u8 ((s[k]'hlt).toNat:Int)] w fun e w'=>e=.returned (.string (B (bothL a (s.data.toList.take (k+1)))))/\Zb w w'):=fun w=>by
    rw[amW a s k hlt];have:=adD X (s[k]'hlt) (by rw[H.out,aaR];exact Nat.le_trans (abm (aam _ HA.out)) (by omega)) w;rw[show X.data.toList=bothL a (s.data.toList.take k) by rw[H.out];rfl]at this
    exact this
   obtain⟨Y,hY⟩:∃Y,Y=B (bothL a (s.data.toList.take (k+1))):=⟨_,rfl⟩;rw[<-hY]at HC;have HY:=qz hY;clear hY;go_wp2_with fail;refine(HC.out _).mono ?_;rintro e w1 ⟨rfl,b1⟩;have hbw1:=aab hbw b1 hbw.size;go_wp2_with fail
   go_roundw
   case rel=>exact⟨Y,k+1,by omega,rfl,by go_num,HY,hbw1⟩
   case measure=>simp[intOf];omega
  ·have HE:Hid (X=B (bothL a s.data.toList)):=by
    have:=H.out;rw[List.take_of_length_le (by simp;omega)]at this
    exact this
   go_wp2_with fail;go_ret;exact⟨by rw[<-HE.out];rfl,hbw⟩
structure KindFact (T:TypeId) (V:Value) (k:ByteArray):Prop where
 pf:∃(F:FuncId) (R:Value),(∀n w,(method (n+1) T V "loop.example/g01175/impl.kind").run prog w=.ok (F,R) w)/\(∀n w,(nilAhead (n+1) T V "loop.example/g01175/impl.kind").run prog w=.ok (some false) w)/\(∀args w,(callFunc F args).run prog w=.ok (.enter F args) w)/\∀w,Calls prog F #[R] w fun e w'=>e=.returned (.string k)/\Zb w w'
theorem ak0 (n:Nat)(w:World):(method (n+1) 90 (.agg #[]) "loop.example/g01175/impl.kind").run prog w=.ok (225,.agg #[]) w:=by kernel_rfl
theorem ak1 (n:Nat)(w:World):(nilAhead (n+1) 90 (.agg #[]) "loop.example/g01175/impl.kind").run prog w=.ok (some false) w:=by kernel_rfl
theorem ak2 (args:Array Value)(w:World):(callFunc 225 args).run prog w=.ok (.enter 225 args) w:=by kernel_rfl
theorem ak3 (w:World):Calls prog 225 #[.agg #[]] w fun e w'=>e=.returned (.string (one 48))/\Zb w w':=by
 go_enter func225,ntmps225
 go_wp2_with fail;go_ret;exact⟨rfl,by first|exact Below.refl _ _|exact bra⟩
theorem ask (n0:Int)(n1:Int)(t2:TypeId)(v2:Value)(n:Nat)(w:World):(method (n+1) 108 (.agg #[.int .u8 n0,.int .u8 n1,.iface t2 v2]) "loop.example/g01175/impl.kind").run prog w=.ok (227,.agg #[.int .u8 n0,.int .u8 n1,.iface t2 v2]) w:=by kernel_rfl
theorem asl (n0:Int)(n1:Int)(t2:TypeId)(v2:Value)(n:Nat)(w:World):(nilAhead (n+1) 108 (.agg #[.int .u8 n0,.int .u8 n1,.iface t2 v2]) "loop.example/g01175/impl.kind").run prog w=.ok (some false) w:=by kernel_rfl
theorem asm (args:Array Value)(w:World):(callFunc 227 args).run prog w=.ok (.enter 227 args) w:=by kernel_rfl
theorem asn (n0:Int)(n1:Int)(t2:TypeId)(v2:Value)(w:World):Calls prog 227 #[.agg #[.int .u8 n0,.int .u8 n1,.iface t2 v2]] w fun e w'=>e=.returned (.string (one 33))/\Zb w w':=by
 go_enter func227,ntmps227
 go_wp2_with fail;go_ret;exact⟨rfl,by first|exact Below.refl _ _|exact bra⟩
theorem ak4 (n0:Int)(n1:Int)(t2:TypeId)(v2:Value)(n:Nat)(w:World):(method (n+1) 111 (.agg #[.int .u8 n0,.int .u8 n1,.iface t2 v2]) "loop.example/g01175/impl.kind").run prog w=.ok (228,.agg #[.int .u8 n0,.int .u8 n1,.iface t2 v2]) w:=by kernel_rfl
theorem ak5 (n0:Int)(n1:Int)(t2:TypeId)(v2:Value)(n:Nat)(w:World):(nilAhead (n+1) 111 (.agg #[.int .u8 n0,.int .u8 n1,.iface t2 v2]) "loop.example/g01175/impl.kind").run prog w=.ok (some false) w:=by kernel_rfl
theorem ak6 (args:Array Value)(w:World):(callFunc 228 args).run prog w=.ok (.enter 228 args) w:=by kernel_rfl
theorem ak7 (n0:Int)(n1:Int)(t2:TypeId)(v2:Value)(w:World):Calls prog 228 #[.agg #[.int .u8 n0,.int .u8 n1,.iface t2 v2]] w fun e w'=>e=.returned (.string (one 63))/\Zb w w':=by
 go_enter func228,ntmps228
 go_wp2_with fail;go_ret;exact⟨rfl,by first|exact Below.refl _ _|exact bra⟩
theorem apY (n0:Int)(n1:Int)(t2:TypeId)(v2:Value)(n:Nat)(w:World):(method (n+1) 150 (.agg #[.int .u8 n0,.int .u8 n1,.iface t2 v2]) "loop.example/g01175/impl.kind").run prog w=.ok (231,.agg #[.int .u8 n0,.int .u8 n1,.iface t2 v2]) w:=by kernel_rfl
theorem apZ (n0:Int)(n1:Int)(t2:TypeId)(v2:Value)(n:Nat)(w:World):(nilAhead (n+1) 150 (.agg #[.int .u8 n0,.int .u8 n1,.iface t2 v2]) "loop.example/g01175/impl.kind").run prog w=.ok (some false) w:=by kernel_rfl
theorem ap0 (args:Array Value)(w:World):(callFunc 231 args).run prog w=.ok (.enter 231 args) w:=by kernel_rfl
theorem ap1 (n0:Int)(n1:Int)(t2:TypeId)(v2:Value)(w:World):Calls prog 231 #[.agg #[.int .u8 n0,.int .u8 n1,.iface t2 v2]] w fun e w'=>e=.returned (.string (one 61))/\Zb w w':=by
 go_enter func231,ntmps231
 go_wp2_with fail;go_ret;exact⟨rfl,by first|exact Below.refl _ _|exact bra⟩
theorem auF (n0:Int)(t1:TypeId)(v1:Value)(n:Nat)(w:World):(method (n+1) 61 (.agg #[.int .u8 n0,.iface t1 v1]) "loop.example/g01175/impl.kind").run prog w=.ok (222,.agg #[.int .u8 n0,.iface t1 v1]) w:=by kernel_rfl
theorem auG (n0:Int)(t1:TypeId)(v1:Value)(n:Nat)(w:World):(nilAhead (n+1) 61 (.agg #[.int .u8 n0,.iface t1 v1]) "loop.example/g01175/impl.kind").run prog w=.ok (some false) w:=by kernel_rfl
theorem auH (args:Array Value)(w:World):(callFunc 222 args).run prog w=.ok (.enter 222 args) w:=by kernel_rfl
theorem auI (n0:Int)(t1:TypeId)(v1:Value)(w:World):Calls prog 222 #[.agg #[.int .u8 n0,.iface t1 v1]] w fun e w'=>e=.returned (.string (one 35))/\Zb w w':=by
 go_enter func222,ntmps222
 go_wp2_with fail;go_ret;exact⟨rfl,by first|exact Below.refl _ _|exact bra⟩
theorem amX (t0:TypeId)(v0:Value)(n:Nat)(w:World):(method (n+1) 146 (.agg #[.iface t0 v0]) "loop.example/g01175/impl.kind").run prog w=.ok (229,.agg #[.iface t0 v0]) w:=by kernel_rfl
theorem amY (t0:TypeId)(v0:Value)(n:Nat)(w:World):(nilAhead (n+1) 146 (.agg #[.iface t0 v0]) "loop.example/g01175/impl.kind").run prog w=.ok (some false) w:=by kernel_rfl
theorem amZ (args:Array Value)(w:World):(callFunc 229 args).run prog w=.ok (.enter 229 args) w:=by kernel_rfl
theorem am0 (t0:TypeId)(v0:Value)(w:World):Calls prog 229 #[.agg #[.iface t0 v0]] w fun e w'=>e=.returned (.string (one 126))/\Zb w w':=by
 go_enter func229,ntmps229
 go_wp2_with fail;go_ret;exact⟨rfl,by first|exact Below.refl _ _|exact bra⟩
theorem am1 (t0:TypeId)(v0:Value)(n:Nat)(w:World):(method (n+1) 147 (.agg #[.iface t0 v0]) "loop.example/g01175/impl.kind").run prog w=.ok (230,.agg #[.iface t0 v0]) w:=by kernel_rfl
theorem am2 (t0:TypeId)(v0:Value)(n:Nat)(w:World):(nilAhead (n+1) 147 (.agg #[.iface t0 v0]) "loop.example/g01175/impl.kind").run prog w=.ok (some false) w:=by kernel_rfl
theorem am3 (args:Array Value)(w:World):(callFunc 230 args).run prog w=.ok (.enter 230 args) w:=by kernel_rfl
theorem am4 (t0:TypeId)(v0:Value)(w:World):Calls prog 230 #[.agg #[.iface t0 v0]] w fun e w'=>e=.returned (.string (one 42))/\Zb w w':=by
 go_enter func230,ntmps230
 go_wp2_with fail;go_ret;exact⟨rfl,by first|exact Below.refl _ _|exact bra⟩
theorem am5 (t0:TypeId)(v0:Value)(t1:TypeId)(v1:Value)(n:Nat)(w:World):(method (n+1) 62 (.agg #[.iface t0 v0,.iface t1 v1]) "loop.example/g01175/impl.kind").run prog w=.ok (223,.agg #[.iface t0 v0,.iface t1 v1]) w:=by kernel_rfl
theorem am6 (t0:TypeId)(v0:Value)(t1:TypeId)(v1:Value)(n:Nat)(w:World):(nilAhead (n+1) 62 (.agg #[.iface t0 v0,.iface t1 v1]) "loop.example/g01175/impl.kind").run prog w=.ok (some false) w:=by kernel_rfl
theorem am7 (args:Array Value)(w:World):(callFunc 223 args).run prog w=.ok (.enter 223 args) w:=by kernel_rfl
theorem am8 (t0:TypeId)(v0:Value)(t1:TypeId)(v1:Value)(w:World):Calls prog 223 #[.agg #[.iface t0 v0,.iface t1 v1]] w fun e w'=>e=.returned (.string (one 43))/\Zb w w':=by
 go_enter func223,ntmps223
 go_wp2_with fail;go_ret;exact⟨rfl,by first|exact Below.refl _ _|exact bra⟩
theorem am9 (t0:TypeId)(v0:Value)(t1:TypeId)(v1:Value)(n:Nat)(w:World):(method (n+1) 55 (.agg #[.iface t0 v0,.iface t1 v1]) "loop.example/g01175/impl.kind").run prog w=.ok (220,.agg #[.iface t0 v0,.iface t1 v1]) w:=by kernel_rfl
theorem am_ (t0:TypeId)(v0:Value)(t1:TypeId)(v1:Value)(n:Nat)(w:World):(nilAhead (n+1) 55 (.agg #[.iface t0 v0,.iface t1 v1]) "loop.example/g01175/impl.kind").run prog w=.ok (some false) w:=by kernel_rfl
theorem ana (args:Array Value)(w:World):(callFunc 220 args).run prog w=.ok (.enter 220 args) w:=by kernel_rfl
theorem anb (t0:TypeId)(v0:Value)(t1:TypeId)(v1:Value)(w:World):Calls prog 220 #[.agg #[.iface t0 v0,.iface t1 v1]] w fun e w'=>e=.returned (.string (one 38))/\Zb w w':=by
 go_enter func220,ntmps220
 go_wp2_with fail;go_ret;exact⟨rfl,by first|exact Below.refl _ _|exact bra⟩
theorem abf (t:Tm):KindFact (aaB t) (pay t) (one t.kind):=by
 cases t with
 | nil=>exact⟨_,_,ak0,ak1,ak2,ak3⟩
 | snd a b p=>exact⟨_,_,ask _ _ _ _,asl _ _ _ _,asm,asn _ _ _ _⟩
 | rcv a b p=>exact⟨_,_,ak4 _ _ _ _,ak5 _ _ _ _,ak6,ak7 _ _ _ _⟩
 | tau p=>exact⟨_,_,amX _ _,amY _ _,amZ,am0 _ _⟩
 | sum p q=>exact⟨_,_,am5 _ _ _ _,am6 _ _ _ _,am7,am8 _ _ _ _⟩
 | par p q=>exact⟨_,_,am9 _ _ _ _,am_ _ _ _ _,ana,anb _ _ _ _⟩
 | own x p=>exact⟨_,_,auF _ _ _,auG _ _ _,auH,auI _ _ _⟩
 | mat a b p=>exact⟨_,_,apY _ _ _ _,apZ _ _ _ _,ap0,ap1 _ _ _ _⟩
 | rep p=>exact⟨_,_,am1 _ _,am2 _ _,am3,am4 _ _⟩
end Go.Proofs.YtalegefnppbkdaaGreat.T1
