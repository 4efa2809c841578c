/- Texts of the proof. No conditions. -/
import Derived.Test.YtihmcgcgjmbmhaaGreatQad
import Derived.Lib.OthersKept
import Derived.Deep.LoopGhost
import Derived.Laws.IdiomStrings
import Derived.Laws.RangeAny
import Derived.Deep.RegionHeld3
namespace Go.Proofs.YtihmcgcgjmbmhaaGreat.T1
open Go.Proofs.Tryz
set_option maxHeartbeats 2000000
open Go.RowKit
theorem aer {s:ByteArray}{t:Tm}(hg:good s.data.toList=some t)(w:World)(hm:s.size<=9223372036854775807) : Calls prog 58 #[.string s] w fun e w'=>e=.returned (.tuple #[.iface (aau t) (pay t),.bool true])/\Zb w w':=by
 refine(aig s w hm).mono ?_;rintro e w' ⟨⟨t',h1,h2⟩|⟨h1,_⟩,bl⟩
 ·rw[hg]at h1;cases h1;exact⟨h2,bl⟩
 ·rw[hg]at h1;cases h1
theorem agN {s:ByteArray}(hg:good s.data.toList=none)(w:World)(hm:s.size<=9223372036854775807) : Calls prog 58 #[.string s] w fun e w'=>e=.returned (.tuple #[.nilIface,.bool false])/\Zb w w':=by
 refine(aig s w hm).mono ?_;rintro e w' ⟨⟨t',h1,h2⟩|⟨_,h2⟩,bl⟩
 ·rw[hg]at h1;cases h1
 ·exact⟨h2,bl⟩
theorem adr {s:ByteArray}{t:Tm}(hg:good s.data.toList=some t)(w:World)(hm:s.size<=9223372036854775807) : Calls prog 69 #[.string s] w fun e w'=>e=.returned (.bool true)/\Zb w w':=by
 have:=agM s w hm;rw[aih hg]at this
 exact this
theorem afs {s:ByteArray}(hg:good s.data.toList=none)(w:World)(hm:s.size<=9223372036854775807) : Calls prog 69 #[.string s] w fun e w'=>e=.returned (.bool false)/\Zb w w':=by
 have:=agM s w hm;rw[show aeq s=false from by unfold aeq;rw[hg];rfl]at this
 exact this
theorem asC {s:ByteArray}{t:Tm}(hg:good s.data.toList=some t):s=S t/\t.ok nmL=true/\t.ok nmE=true/\t.pr.length<=300/\t.size<=60:=by
 obtain⟨h1,h2,h3,h4⟩:=adE hg;exact⟨axS h2,h3,atl t h3,by rw[<-h2];exact h1,h4⟩
set_option maxRecDepth 100000
def B (l:List UInt8):ByteArray:=⟨l.toArray⟩
theorem aaQ (l:List UInt8):(B l).data.toList=l:=rfl
theorem ayF (s:ByteArray):B s.data.toList=s:=by apply ByteArray.ext;simp[B]
theorem asD {s:ByteArray}{l:List UInt8}(h:s.data.toList=l):s=B l:=by rw[<-h,ayF]
theorem aa1 (l:List UInt8):(B l).size=l.length:=by simp[B,ByteArray.size]
set_option linter.unusedVariables false
theorem acE (s:ByteArray)(k:Nat)(h:k<s.size):s.data.toList[k]'(by simpa using h)=s[k]'h:=by simp[ByteArray.getElem_eq_getElem_data]
theorem anp (k:UInt8)(w:World):(convert 73 9 (.slice (some ⟨w.heap.size,0,none⟩) 1 1)).run prog (w.alloc (.cells #[.int .u8 (k.toNat:Int)] 5))=.ok (.string (one k)) (w.alloc (.cells #[.int .u8 (k.toNat:Int)] 5)):=
 run_convert_bytes_back _ 73 9 5 _ 1 [k] underlying73 underlying5 underlying9 (fun j hj=>by
  have:j=0:=by simp at hj;omega
  subst this
  rw[show (⟨w.heap.size,0,none⟩:Addr).add 0=⟨w.heap.size,0,none⟩ from rfl,World.cell?_alloc_new];rfl)
theorem anq (k:UInt8)(w:World):(convert 73 9 (.slice (some ⟨w.heap.size,0,none⟩) 1 1)).run prog (w.alloc (.cells #[.int .u8 (k.toNat:Int)] 5)).drew=.ok (.string (one k)) (w.alloc (.cells #[.int .u8 (k.toNat:Int)] 5)).drew:=
 run_convert_bytes_back _ 73 9 5 _ 1 [k] underlying73 underlying5 underlying9 (fun j hj=>by
  have:j=0:=by simp at hj;omega
  subst this
  show (w.alloc (.cells #[.int .u8 (k.toNat:Int)] 5)).cell? _=_
  rw[show (⟨w.heap.size,0,none⟩:Addr).add 0=⟨w.heap.size,0,none⟩ from rfl,World.cell?_alloc_new];rfl)
theorem anr (s:ByteArray)(c:UInt8)(k:Nat)(hk:k<=s.size)(h1:∀i (hi:i<s.size),i<k->s[i]<c)(h2:∀hk:k<s.size,¬s[k]<c/\s[k]≠c) : s.extract 0 k++one c++s.extract k s.size=B (addL s.data.toList c):=by
 apply asD
 have hl:s.data.toList.length=s.size:=by simp
 rw[amW c s.data.toList k (by omega) (fun i hi hik=>by rw[acE s i (by omega)];exact h1 i (by omega) hik) (fun hk'=>by rw[acE s k (by omega)];exact(h2 (by omega)).1)];rw[ByteArray.data_append,ByteArray.data_append,Array.toList_append,Array.toList_append,ByteArray.data_extract,ByteArray.data_extract,Array.toList_extract,Array.toList_extract]
 by_cases hlt:k<s.data.toList.length
 ·rw[dif_pos hlt,if_neg (by rw[acE s k (by omega)];exact(h2 (by omega)).2)];simp[one,List.extract_eq_take_drop];exact List.take_of_length_le (by simp)
 ·have:k=s.size:=by omega
  subst this
  rw[dif_neg hlt];simp[one,List.extract_eq_take_drop];exact List.take_of_length_le (by simp)
theorem aqM (s:ByteArray)(c:UInt8)(k:Nat)(hk:k<s.size)(h1:∀i (hi:i<s.size),i<k->s[i]<c)(h2:s[k]=c):s=B (addL s.data.toList c):=by
 apply asD
 have hl:s.data.toList.length=s.size:=by simp
 rw[amW c s.data.toList k (by omega) (fun i hi hik=>by rw[acE s i (by omega)];exact h1 i (by omega) hik) (fun hk'=>by rw[acE s k (by omega),h2,abT];omega)];rw[dif_pos (by omega),if_pos (by rw[acE s k (by omega)];exact h2)]
theorem aft (s:ByteArray)(c:UInt8)(hs:s.size<=100000)(w:World):Calls prog 169 #[.string s,.int .u8 (c.toNat:Int)] w fun e w'=>e=.returned (.string (B (addL s.data.toList c)))/\Zb w w':=by
 obtain⟨cc,hcc⟩:∃cc,cc=(c.toNat:Int):=⟨_,rfl⟩;have HCC:=qz hcc;have c0:0<=cc:=by omega
 have c1:cc<256:=by have:=c.toNat_lt;omega
 have hcv:=anp c;have hcd:=anq c;rw[<-hcc]at hcv hcd ⊢;obtain⟨O,hO⟩:∃O,O=one c:=⟨_,rfl⟩;have hO1:O.size=1:=by rw[hO];rfl
 rw[<-hO]at hcv hcd;have HO:=qz hO;clear hcc hO
 go_enter func169,ntmps169
 go_wp2_with fail
 go_loop [5] (fun v=>∃k:Nat,k<=s.size/\v=.int .i64 (k:Int)/\Hid (∀i (hi:i<s.size),i<k->s[i]<c)) (fun v=>s.size - (intOf v).toNat)
 case atStart=>exact⟨0,Nat.zero_le _,rfl,fun i hi h=>by omega⟩
 case round=>
  obtain⟨k,hk,rfl,H⟩:=hrel
  by_cases hlt:k<s.size
  ·have hby:(s[k]'hlt).toNat<256:=(s[k]'hlt).toNat_lt
   by_cases hc:((s[k]'hlt).toNat:Int)<cc
   ·have H':Hid (∀i (hi:i<s.size),i<k+1->s[i]<c):=fun i hi h=>by
     rcases Nat.lt_or_ge i k with h'|h'
     ·exact H.out i hi h'
     ·obtain rfl:i=k:=by omega
      rw[abT];have:=HCC.out;omega
    go_wp2_with fail
    go_round
    case rel=>exact⟨k+1,by omega,by go_num,H'⟩
    case measure=>simp[intOf];omega
   ·by_cases he:((s[k]'hlt).toNat:Int)=cc
    ·have HE:Hid (s=B (addL s.data.toList c)):=aqM s c k hlt H.out (u8_ext (by have:=HCC.out;omega));have b1:(((s[k]'hlt).toNat:Int)==cc)=true:=by simp[he]
     clear he;go_wp2_with fail;go_ret;exact⟨by rw[<-HE.out];rfl,Below.refl _ _⟩
    ·have HE:Hid (s.extract 0 k++O++s.extract k s.size=B (addL s.data.toList c)):=HO.out▸anr s c k hk H.out (fun _=>⟨by rw[abT];have:=HCC.out;omega,fun e=>he (by rw[e];exact HCC.out.symm)⟩);have b1:(((s[k]'hlt).toNat:Int)==cc)=false:=by simp[he]
     clear he;go_wp2_with fail
     go_region
     all_goals go_wp2_with fail
     all_goals go_ret
     all_goals exact⟨by rw[<-HE.out];rfl,(bra).drew⟩
  ·have HE:Hid (s.extract 0 k++O++s.extract k s.size=B (addL s.data.toList c)):=HO.out▸anr s c k hk H.out (fun h=>absurd h hlt);go_wp2_with fail
   go_region
   all_goals go_wp2_with fail
   all_goals go_ret
   all_goals exact⟨by rw[<-HE.out];rfl,(bra).drew⟩
theorem aii (s:ByteArray)(c:UInt8)(k:Nat)(h:k<s.size):abI (s.data.toList.take (k+1)) c=abI (s.data.toList.take k) c++(if s[k]=c then [] else [s[k]]):=by
 rw[adA s k h];unfold abI;rw[List.filter_append]
 by_cases hc:s[k]=c
 ·simp[hc]
 ·simp[hc]
theorem av1 (l:List UInt8)(s:ByteArray)(k:Nat)(h:k<s.size):B l++s.extract k (k+1)=B (l++[s[k]]):=by
 apply asD
 rw[ByteArray.data_append,Array.toList_append,ByteArray.data_extract,Array.toList_extract,aaQ,List.extract_eq_take_drop,List.drop_eq_getElem_cons (by simpa using h),acE s k h];simp
theorem aes (s:ByteArray)(c:UInt8)(hs:s.size<=100000)(w:World):Calls prog 168 #[.string s,.int .u8 (c.toNat:Int)] w fun e w'=>e=.returned (.string (B (abI s.data.toList c)))/\w=w':=by
 obtain⟨cc,hcc⟩:∃cc,cc=(c.toNat:Int):=⟨_,rfl⟩;have HCC:=qz hcc;rw[<-hcc];clear hcc
 go_enter func168,ntmps168
 go_wp2_with fail
 go_loop [5,6] (fun o v=>∃(X:ByteArray) (k:Nat),k<=s.size/\o=.string X/\X.size<=k/\v=.int .i64 (k:Int)/\Hid (X=B (abI (s.data.toList.take k) c))) (fun _ v=>s.size - (intOf v).toNat)
 case atStart=>exact⟨⟨#[]⟩,0,Nat.zero_le _,rfl,nl _,rfl,rfl⟩
 case round=>
  obtain⟨X,k,hk,rfl,hX,rfl,H⟩:=hrel
  by_cases hlt:k<s.size
  ·have hw1:IntKind.i64.wrap ((k:Int)+1)=(k:Int)+1:=IntWalk.i64_in _ (by omega)
   by_cases hc:((s[k]'hlt).toNat:Int)=cc
   ·have H':Hid (X=B (abI (s.data.toList.take (k+1)) c)):=by
     show _=_;rw[aii s c k hlt,if_pos (u8_ext (by have:=HCC.out;omega)),List.append_nil];exact H.out
    have b1:(((s[k]'hlt).toNat:Int) != cc)=false:=by simp[hc]
    clear hc;go_wp2_with fail
    go_round
    case rel=>exact⟨X,k+1,by omega,rfl,by omega,by go_num,H'⟩
    case measure=>simp[intOf];omega
   ·have H':Hid (X++s.extract k (k+1)=B (abI (s.data.toList.take (k+1)) c)):=by
     show _=_;rw[aii s c k hlt,if_neg (fun e=>hc (by rw[e];exact HCC.out.symm)),H.out,av1 _ s k hlt]
    have b1:(((s[k]'hlt).toNat:Int) != cc)=true:=by simp[hc]
    clear hc;go_wp2_with fail
    go_round
    case rel=>exact⟨_,k+1,by omega,rfl,by simp;omega,by go_num,H'⟩
    case measure=>simp[intOf];omega
  ·have HE:Hid (X=B (abI s.data.toList c)):=by
    have:=H.out;rw[List.take_of_length_le (by simp;omega)]at this
    exact this
   go_wp2_with fail;go_ret;exact⟨by rw[<-HE.out];rfl,rfl⟩
theorem ans (a:List UInt8)(s:ByteArray)(k:Nat)(h:k<s.size):bothL a (s.data.toList.take (k+1))=addL (bothL a (s.data.toList.take k)) s[k]:=by
 rw[adA s k h];unfold bothL;rw[List.foldl_append];rfl
theorem ab2 (a:List UInt8)(s:ByteArray)(ha:Srt a)(hs:s.size<=100000)(w:World):Calls prog 124 #[.string (B a),.string s] w fun e w'=>e=.returned (.string (B (bothL a s.data.toList)))/\Zb w w':=by
 have HA:=qz ha;obtain⟨X0,hX0⟩:∃X0,X0=B a:=⟨_,rfl⟩;rw[<-hX0];have HX0:=qz hX0;clear hX0 ha
 go_enter func124,ntmps124
 go_wp2_with fail
 go_loopw [0,5] (fun o v wr=>∃(X:ByteArray) (k:Nat),k<=s.size/\o=.string X/\v=.int .i64 (k:Int)/\Hid (X=B (bothL a (s.data.toList.take k)))/\Zb w wr) (fun _ v _=>s.size - (intOf v).toNat)
 case atStart=>exact⟨X0,0,Nat.zero_le _,rfl,rfl,HX0,Below.refl _ _⟩
 case round=>
  obtain⟨X,k,hk,rfl,rfl,H,hbw⟩:=hrel
  by_cases hlt:k<s.size
  ·have HC:Hid (∀w,Calls prog 169 #[.string X,.int .u8 ((s[k]'hlt).toNat:Int)] w fun e w'=>e=.returned (.string (B (bothL a (s.data.toList.take (k+1)))))/\Zb w w'):=fun w=>by
    rw[ans a s k hlt];have:=aft X (s[k]'hlt) (by rw[H.out,aa1];exact Nat.le_trans (abz (aap _ HA.out)) (by omega)) w;rw[show X.data.toList=bothL a (s.data.toList.take k) by rw[H.out];rfl]at this
    exact this
   obtain⟨Y,hY⟩:∃Y,Y=B (bothL a (s.data.toList.take (k+1))):=⟨_,rfl⟩;rw[<-hY]at HC;have HY:=qz hY;clear hY;go_wp2_with fail;refine(HC.out _).mono ?_;rintro e w1 ⟨rfl,b1⟩;have hbw1:=aab hbw b1 hbw.size;go_wp2_with fail
   go_roundw
   case rel=>exact⟨Y,k+1,by omega,rfl,by go_num,HY,hbw1⟩
   case measure=>simp[intOf];omega
  ·have HE:Hid (X=B (bothL a s.data.toList)):=by
    have:=H.out;rw[List.take_of_length_le (by simp;omega)]at this
    exact this
   go_wp2_with fail;go_ret;exact⟨by rw[<-HE.out];rfl,hbw⟩
theorem aj8 (t:Tm)(i:Nat)(h:i<(S t).size):(S t)[i]'h=t.pr[i]'(by rw[<-aaq];exact h):=abu (aaW t) i h (by rw[<-aaq];exact h)
def av2:Option UInt8->Value
 | some x=>.tuple #[.int .u8 (x.toNat:Int),.bool true]
 | none=>.tuple #[.int .u8 0,.bool false]
theorem av3 (s:ByteArray)(hs:s.size<=700)(hz:2<s.size)(HK:Ze 116 #[.string s] (.int .u8 63))(w:World):Calls prog 122 #[.string s] w fun e w'=>e=.returned (.tuple #[.int .u8 ((s[2]'hz).toNat:Int),.bool true])/\w=w':=by
 have H:=qz HK;clear HK
 go_enter func122,ntmps122
 go_wp2_with fail;refine(H.out _).mono ?_;rintro e w1 ⟨rfl,rfl⟩;go_wp2_with fail;go_ret2;exact⟨rfl,rfl⟩
theorem av4 (s:ByteArray)(hs:s.size<=700)(hz:1<s.size)(HK:Ze 116 #[.string s] (.int .u8 35))(w:World):Calls prog 122 #[.string s] w fun e w'=>e=.returned (.tuple #[.int .u8 ((s[1]'hz).toNat:Int),.bool true])/\w=w':=by
 have H:=qz HK;clear HK
 go_enter func122,ntmps122
 go_wp2_with fail;refine(H.out _).mono ?_;rintro e w1 ⟨rfl,rfl⟩;go_wp2_with fail;go_ret2;exact⟨rfl,rfl⟩
theorem ajj (s:ByteArray)(kd:Int)(b1:(kd==63)=false)(b2:(kd==35)=false)(HK:Ze 116 #[.string s] (.int .u8 kd))(w:World):Calls prog 122 #[.string s] w fun e w'=>e=.returned (.tuple #[.int .u8 0,.bool false])/\w=w':=by
 have H:=qz HK;clear HK
 go_enter func122,ntmps122
 go_wp2_with fail;refine(H.out _).mono ?_;rintro e w1 ⟨rfl,rfl⟩;go_wp2_with fail;go_ret2;exact⟨rfl,rfl⟩
theorem aa2 (t:Tm)(ho:t.ok nmE=true)(hl:t.pr.length<=700)(w:World):Calls prog 122 #[.string (S t)] w fun e w'=>e=.returned (av2 t.binds)/\w=w':=by
 have hs:(S t).size<=700:=by rw[aaq];exact hl
 have HK:=aah t ho hl
 cases t with
 | rcv a x p=>
  have hz:2<(S (.rcv a x p)).size:=by rw[aaq];simp[Tm.pr]
  have h:=av3 _ hs hz HK w;rw[show (S (.rcv a x p))[2]'hz=x from aj8 _ 2 hz]at h;exact h
 | own x p=>
  have hz:1<(S (.own x p)).size:=by rw[aaq];simp[Tm.pr]
  have h:=av4 _ hs hz HK w;rw[show (S (.own x p))[1]'hz=x from aj8 _ 1 hz]at h;exact h
 | nil=>exact ajj _ 48 (by decide) (by decide) HK w
 | snd a b p=>exact ajj _ 33 (by decide) (by decide) HK w
 | tau p=>exact ajj _ 126 (by decide) (by decide) HK w
 | sum p q=>exact ajj _ 43 (by decide) (by decide) HK w
 | par p q=>exact ajj _ 38 (by decide) (by decide) HK w
 | mat a b p=>exact ajj _ 61 (by decide) (by decide) HK w
 | rep p=>exact ajj _ 42 (by decide) (by decide) HK w
theorem av5 (s:ByteArray)(HK:Ze 116 #[.string s] (.int .u8 48))(HB:Ze 122 #[.string s] (.tuple #[.int .u8 0,.bool false]))(HP:∀w,Calls prog 117 #[.string s] w (PartsS [] w))(w:World) : Calls prog 120 #[.string s] w fun e w'=>e=.returned (.string ⟨#[]⟩)/\Zb w w':=by
 have H:=qz HP;have HK':=qz HK;have HB':=qz HB;clear HP HK HB
 go_enter func120,ntmps120
 go_wp2_with fail;refine(H.out _).mono ?_;rintro e w1 ⟨rfl,bl⟩;go_wp2_with fail;refine wp_loop_rounds 1 ?_;rw[rounds_succ];go_wp2_with fail;refine(HB'.out _).mono ?_;rintro e w2 ⟨rfl,rfl⟩;go_wp2_with fail;refine(HK'.out _).mono ?_;rintro e w3 ⟨rfl,rfl⟩;go_wp2_with fail;go_ret;exact⟨rfl,bl⟩
theorem av6 (s u U X0:ByteArray)(hs:s.size<=700)(hz:2<s.size)(X1 X2:ByteArray)(HK:Ze 116 #[.string s] (.int .u8 33))(HB:Ze 122 #[.string s] (.tuple #[.int .u8 0,.bool false]))(HP:∀w,Calls prog 117 #[.string s] w fun e w'=>∃b,e=.returned (.slice (some ⟨b,0,none⟩) 1 1)/\w.heap.size<=b/\w'.heap[b]?=some (.cells #[.string u] 9 (0,0))/\Zb w w') (IH:Zr 120 #[.string u] (.string U))(H0:Zr 124 #[.string ⟨#[]⟩,.string U] (.string X0))(H1:Zr 169 #[.string X0,.int .u8 ((s[0]'(by omega)).toNat:Int)] (.string X1))(H2:Zr 169 #[.string X1,.int .u8 ((s[2]'(by omega)).toNat:Int)] (.string X2))(w:World) : Calls prog 120 #[.string s] w fun e w'=>e=.returned (.string X2)/\Zb w w':=by
 have HP':=qz HP;have HK':=qz HK;have HB':=qz HB;have IH':=qz IH;have H0':=qz H0;have H1':=qz H1;have H2':=qz H2;clear HP HK HB IH H0 H1 H2
 go_enter func120,ntmps120
 go_wp2_with fail;refine(HP'.out _).mono ?_;rintro e w1 ⟨b,rfl,hb,hh,bl⟩;have c0:=aac hh;clear hh;go_wp2_with fail;refine wp_loop_rounds 2 ?_;rw[rounds_succ];go_wp2_with fail;refine(IH'.out _).mono ?_;rintro e w2 ⟨rfl,b2⟩;have bl2:=aab bl b2 bl.size;clear c0 bl;go_wp2_with fail;refine(H0'.out _).mono ?_;rintro e w3 ⟨rfl,b3⟩;have bl3:=aab bl2 b3 bl2.size;go_wp2_with fail;rw[rounds_succ];go_wp2_with fail;refine(HB'.out _).mono ?_;rintro e w4 ⟨rfl,rfl⟩;go_wp2_with fail;refine(HK'.out _).mono ?_;rintro e w5 ⟨rfl,rfl⟩;go_wp2_with fail
 go_region_held3 (fun w'=>Zb w w') (first|assumption|exact bl3.drew|exact aab (by assumption) d1 (Below.size (by assumption))|exact aab (by assumption) d2 (Below.size (by assumption)))
  (first|(go_at_call_of 169 X0;refine(H1'.out _).mono ?_;rintro e v1 ⟨rfl,d1⟩)|(go_at_call_of 169 X1;refine(H2'.out _).mono ?_;rintro e v2 ⟨rfl,d2⟩))
 all_goals
  go_wp2_with fail;go_ret;exact⟨rfl,by assumption⟩
theorem av7 (s u U X0:ByteArray)(hs:s.size<=700)(hz:0<s.size)(X1 X2:ByteArray)(x:Int)(HK:Ze 116 #[.string s] (.int .u8 63))(HB:Ze 122 #[.string s] (.tuple #[.int .u8 x,.bool true]))(HP:∀w,Calls prog 117 #[.string s] w fun e w'=>∃b,e=.returned (.slice (some ⟨b,0,none⟩) 1 1)/\w.heap.size<=b/\w'.heap[b]?=some (.cells #[.string u] 9 (0,0))/\Zb w w') (IH:Zr 120 #[.string u] (.string U))(H0:Zr 124 #[.string ⟨#[]⟩,.string U] (.string X0))(H1:Ze 168 #[.string X0,.int .u8 x] (.string X1))(H2:Zr 169 #[.string X1,.int .u8 ((s[0]'(by omega)).toNat:Int)] (.string X2))(w:World) : Calls prog 120 #[.string s] w fun e w'=>e=.returned (.string X2)/\Zb w w':=by
 have HP':=qz HP;have HK':=qz HK;have HB':=qz HB;have IH':=qz IH;have H0':=qz H0;have H1':=qz H1;have H2':=qz H2;clear HP HK HB IH H0 H1 H2
 go_enter func120,ntmps120
 go_wp2_with fail;refine(HP'.out _).mono ?_;rintro e w1 ⟨b,rfl,hb,hh,bl⟩;have c0:=aac hh;clear hh;go_wp2_with fail;refine wp_loop_rounds 2 ?_;rw[rounds_succ];go_wp2_with fail;refine(IH'.out _).mono ?_;rintro e w2 ⟨rfl,b2⟩;have bl2:=aab bl b2 bl.size;clear c0 bl;go_wp2_with fail;refine(H0'.out _).mono ?_;rintro e w3 ⟨rfl,b3⟩;have bl3:=aab bl2 b3 bl2.size;go_wp2_with fail;rw[rounds_succ];go_wp2_with fail;refine(HB'.out _).mono ?_;rintro e w4 ⟨rfl,rfl⟩;go_wp2_with fail;refine(H1'.out _).mono ?_;rintro e w5 ⟨rfl,rfl⟩;go_wp2_with fail;refine(HK'.out _).mono ?_;rintro e w6 ⟨rfl,rfl⟩;go_wp2_with fail;refine(H2'.out _).mono ?_;rintro e w7 ⟨rfl,b7⟩;have bl7:=aab bl3 b7 bl3.size;go_wp2_with fail;go_ret;exact⟨rfl,bl7⟩
theorem av8 (s u U X0:ByteArray)(hs:s.size<=700)(X1:ByteArray)(x:Int)(HK:Ze 116 #[.string s] (.int .u8 35))(HB:Ze 122 #[.string s] (.tuple #[.int .u8 x,.bool true]))(HP:∀w,Calls prog 117 #[.string s] w fun e w'=>∃b,e=.returned (.slice (some ⟨b,0,none⟩) 1 1)/\w.heap.size<=b/\w'.heap[b]?=some (.cells #[.string u] 9 (0,0))/\Zb w w') (IH:Zr 120 #[.string u] (.string U))(H0:Zr 124 #[.string ⟨#[]⟩,.string U] (.string X0))(H1:Ze 168 #[.string X0,.int .u8 x] (.string X1))(w:World) : Calls prog 120 #[.string s] w fun e w'=>e=.returned (.string X1)/\Zb w w':=by
 have HP':=qz HP;have HK':=qz HK;have HB':=qz HB;have IH':=qz IH;have H0':=qz H0;have H1':=qz H1;clear HP HK HB IH H0 H1
 go_enter func120,ntmps120
 go_wp2_with fail;refine(HP'.out _).mono ?_;rintro e w1 ⟨b,rfl,hb,hh,bl⟩;have c0:=aac hh;clear hh;go_wp2_with fail;refine wp_loop_rounds 2 ?_;rw[rounds_succ];go_wp2_with fail;refine(IH'.out _).mono ?_;rintro e w2 ⟨rfl,b2⟩;have bl2:=aab bl b2 bl.size;clear c0 bl;go_wp2_with fail;refine(H0'.out _).mono ?_;rintro e w3 ⟨rfl,b3⟩;have bl3:=aab bl2 b3 bl2.size;go_wp2_with fail;rw[rounds_succ];go_wp2_with fail;refine(HB'.out _).mono ?_;rintro e w4 ⟨rfl,rfl⟩;go_wp2_with fail;refine(H1'.out _).mono ?_;rintro e w5 ⟨rfl,rfl⟩;go_wp2_with fail;refine(HK'.out _).mono ?_;rintro e w6 ⟨rfl,rfl⟩;go_wp2_with fail;go_ret;exact⟨rfl,bl3⟩
theorem av9 (s u U X0:ByteArray)(hs:s.size<=700)(hz:3<s.size)(X1 X2:ByteArray)(HK:Ze 116 #[.string s] (.int .u8 61))(HB:Ze 122 #[.string s] (.tuple #[.int .u8 0,.bool false]))(HP:∀w,Calls prog 117 #[.string s] w fun e w'=>∃b,e=.returned (.slice (some ⟨b,0,none⟩) 1 1)/\w.heap.size<=b/\w'.heap[b]?=some (.cells #[.string u] 9 (0,0))/\Zb w w') (IH:Zr 120 #[.string u] (.string U))(H0:Zr 124 #[.string ⟨#[]⟩,.string U] (.string X0))(H1:Zr 169 #[.string X0,.int .u8 ((s[1]'(by omega)).toNat:Int)] (.string X1))(H2:Zr 169 #[.string X1,.int .u8 ((s[3]'(by omega)).toNat:Int)] (.string X2))(w:World) : Calls prog 120 #[.string s] w fun e w'=>e=.returned (.string X2)/\Zb w w':=by
 have HP':=qz HP;have HK':=qz HK;have HB':=qz HB;have IH':=qz IH;have H0':=qz H0;have H1':=qz H1;have H2':=qz H2;clear HP HK HB IH H0 H1 H2
 go_enter func120,ntmps120
 go_wp2_with fail;refine(HP'.out _).mono ?_;rintro e w1 ⟨b,rfl,hb,hh,bl⟩;have c0:=aac hh;clear hh;go_wp2_with fail;refine wp_loop_rounds 2 ?_;rw[rounds_succ];go_wp2_with fail;refine(IH'.out _).mono ?_;rintro e w2 ⟨rfl,b2⟩;have bl2:=aab bl b2 bl.size;clear c0 bl;go_wp2_with fail;refine(H0'.out _).mono ?_;rintro e w3 ⟨rfl,b3⟩;have bl3:=aab bl2 b3 bl2.size;go_wp2_with fail;rw[rounds_succ];go_wp2_with fail;refine(HB'.out _).mono ?_;rintro e w4 ⟨rfl,rfl⟩;go_wp2_with fail;refine(HK'.out _).mono ?_;rintro e w5 ⟨rfl,rfl⟩;go_wp2_with fail
 go_region_held3 (fun w'=>Zb w w') (first|assumption|exact bl3.drew|exact aab (by assumption) d1 (Below.size (by assumption))|exact aab (by assumption) d2 (Below.size (by assumption)))
  (first|(go_at_call_of 169 X0;refine(H1'.out _).mono ?_;rintro e v1 ⟨rfl,d1⟩)|(go_at_call_of 169 X1;refine(H2'.out _).mono ?_;rintro e v2 ⟨rfl,d2⟩))
 all_goals
  go_wp2_with fail;go_ret;exact⟨rfl,by assumption⟩
theorem asE (s u U X0:ByteArray)(hs:s.size<=700)(kd:Int)(b1:(kd==33)=false)(b2:(kd==63)=false)(b3:(kd==61)=false)(HK:Ze 116 #[.string s] (.int .u8 kd))(HB:Ze 122 #[.string s] (.tuple #[.int .u8 0,.bool false]))(HP:∀w,Calls prog 117 #[.string s] w fun e w'=>∃b,e=.returned (.slice (some ⟨b,0,none⟩) 1 1)/\w.heap.size<=b/\w'.heap[b]?=some (.cells #[.string u] 9 (0,0))/\Zb w w') (IH:Zr 120 #[.string u] (.string U))(H0:Zr 124 #[.string ⟨#[]⟩,.string U] (.string X0))(w:World) : Calls prog 120 #[.string s] w fun e w'=>e=.returned (.string X0)/\Zb w w':=by
 have HP':=qz HP;have HK':=qz HK;have HB':=qz HB;have IH':=qz IH;have H0':=qz H0;clear HP HK HB IH H0
 go_enter func120,ntmps120
 go_wp2_with fail;refine(HP'.out _).mono ?_;rintro e w1 ⟨b,rfl,hb,hh,bl⟩;have c0:=aac hh;clear hh;go_wp2_with fail;refine wp_loop_rounds 2 ?_;rw[rounds_succ];go_wp2_with fail;refine(IH'.out _).mono ?_;rintro e w2 ⟨rfl,b2⟩;have bl2:=aab bl b2 bl.size;clear c0 bl;go_wp2_with fail;refine(H0'.out _).mono ?_;rintro e w3 ⟨rfl,b3⟩;have bl3:=aab bl2 b3 bl2.size;go_wp2_with fail;rw[rounds_succ];go_wp2_with fail;refine(HB'.out _).mono ?_;rintro e w4 ⟨rfl,rfl⟩;go_wp2_with fail;refine(HK'.out _).mono ?_;rintro e w5 ⟨rfl,rfl⟩;go_wp2_with fail;go_ret;exact⟨rfl,bl3⟩
theorem asF (s u v U V X0 X1:ByteArray)(kd:Int)(b1:(kd==33)=false)(b2:(kd==63)=false)(b3:(kd==61)=false)(HK:Ze 116 #[.string s] (.int .u8 kd))(HB:Ze 122 #[.string s] (.tuple #[.int .u8 0,.bool false]))(HP:∀w,Calls prog 117 #[.string s] w fun e w'=>∃b,e=.returned (.slice (some ⟨b,0,none⟩) 2 2)/\w.heap.size<=b/\w'.heap[b]?=some (.cells #[.string u,.string v] 9 (0,0))/\Zb w w') (IH:Zr 120 #[.string u] (.string U))(IH2:Zr 120 #[.string v] (.string V))(H0:Zr 124 #[.string ⟨#[]⟩,.string U] (.string X0))(H1:Zr 124 #[.string X0,.string V] (.string X1))(w:World) : Calls prog 120 #[.string s] w fun e w'=>e=.returned (.string X1)/\Zb w w':=by
 have HP':=qz HP;have HK':=qz HK;have HB':=qz HB;have IH':=qz IH;have IH2':=qz IH2;have H0':=qz H0;have H1':=qz H1;clear HP HK HB IH IH2 H0 H1
 go_enter func120,ntmps120
 go_wp2_with fail;refine(HP'.out _).mono ?_;rintro e w1 ⟨b,rfl,hb,hh,bl⟩;have c0:=aaf hh;have Hh:=qz hh;clear hh;go_wp2_with fail;refine wp_loop_rounds 3 ?_;rw[rounds_succ];go_wp2_with fail;refine(IH'.out _).mono ?_;rintro e w2 ⟨rfl,b2'⟩;have h2:=(b2'.block b (lt_of_block Hh.out)).trans Hh.out;have bl2:=aab bl b2' bl.size;clear c0;have Hh2:=qz h2;clear h2;go_wp2_with fail;refine(H0'.out _).mono ?_;rintro e w3 ⟨rfl,b3'⟩;have h3:=(b3'.block b (lt_of_block Hh2.out)).trans Hh2.out;have bl3:=aab bl2 b3' bl2.size;have c1:=aak h3;clear h3;go_wp2_with fail;rw[rounds_succ];go_wp2_with fail;refine(IH2'.out _).mono ?_;rintro e w4 ⟨rfl,b4⟩;have bl4:=aab bl3 b4 bl3.size;clear c1;go_wp2_with fail;refine(H1'.out _).mono ?_;rintro e w5 ⟨rfl,b5⟩;have bl5:=aab bl4 b5 bl4.size;go_wp2_with fail;rw[rounds_succ];go_wp2_with fail;refine(HB'.out _).mono ?_;rintro e w6 ⟨rfl,rfl⟩;go_wp2_with fail;refine(HK'.out _).mono ?_;rintro e w7 ⟨rfl,rfl⟩;go_wp2_with fail;go_ret;exact⟨rfl,bl5⟩
theorem bsz (t:Tm):(B t.free).size<=100000:=by rw[aa1];exact Nat.le_trans (abz (aav t)) (by omega)
theorem ax0 {l:List UInt8}(h:Srt l):(B l).size<=100000:=by rw[aa1];exact Nat.le_trans (abz h) (by omega)
theorem aij {l:List UInt8}(h:Srt l){c d:UInt8}(e:d=c):Zr 169 #[.string (B l),.int .u8 (d.toNat:Int)] (.string (B (addL l c))):=by
 subst e;exact aft (B l) _ (ax0 h)
theorem ac7 (t:Tm):t.ok nmE=true->t.pr.length<=700->Zr 120 #[.string (S t)] (.string (B t.free)):=by
 have h0:∀p:Tm,Zr 124 #[.string ⟨#[]⟩,.string (B p.free)] (.string (B (bothL [] p.free))):=fun p=>ab2 [] (B p.free) aay (bsz p);have s0:∀p:Tm,Srt (bothL [] p.free):=fun p=>aap _ aay
 induction t with
 | nil=>exact fun ho hl=>av5 _ (aah .nil ho hl) (aa2 .nil ho hl) (aaj .nil ho hl)
 | snd a b p ih=>
  intro ho hl;have ho':=ho;simp only[Tm.ok,bae]at ho';have hl':=hl;simp only[Tm.pr,List.length_cons]at hl';have hs:(S (.snd a b p)).size<=700:=by rw[aaq];exact hl
  have hz:2<(S (.snd a b p)).size:=by rw[aaq];have:=pr_pos p;simp[Tm.pr];try omega
  exact av6 _ _ _ _ hs hz _ _ (aah (.snd a b p) ho hl) (aa2 (.snd a b p) ho hl) (aaj (.snd a b p) ho hl) (ih ho'.2 (by omega)) (h0 p) (aij (s0 p) (aj8 _ 0 _)) (aij (srt_addL (s0 p) a) (aj8 _ 2 _))
 | rcv a x p ih=>
  intro ho hl;have ho':=ho;simp only[Tm.ok,bae]at ho';have hl':=hl;simp only[Tm.pr,List.length_cons]at hl';have hs:(S (.rcv a x p)).size<=700:=by rw[aaq];exact hl
  have hz:0<(S (.rcv a x p)).size:=by rw[aaq];have:=pr_pos p;simp[Tm.pr];try omega
  exact av7 _ _ _ _ hs hz _ _ _ (aah (.rcv a x p) ho hl) (aa2 (.rcv a x p) ho hl) (aaj (.rcv a x p) ho hl) (ih ho'.2 (by omega)) (h0 p) (aes _ x (ax0 (s0 p))) (aij (ab7 (s0 p) x) (aj8 _ 0 _))
 | own x p ih=>
  intro ho hl;have ho':=ho;simp only[Tm.ok,bae]at ho';have hl':=hl;simp only[Tm.pr,List.length_cons]at hl';have hs:(S (.own x p)).size<=700:=by rw[aaq];exact hl
  exact av8 _ _ _ _ hs _ _ (aah (.own x p) ho hl) (aa2 (.own x p) ho hl) (aaj (.own x p) ho hl) (ih ho'.2 (by omega)) (h0 p) (aes _ x (ax0 (s0 p)))
 | mat a b p ih=>
  intro ho hl;have ho':=ho;simp only[Tm.ok,bae]at ho';have hl':=hl;simp only[Tm.pr,List.length_cons]at hl';have hs:(S (.mat a b p)).size<=700:=by rw[aaq];exact hl
  have hz:3<(S (.mat a b p)).size:=by rw[aaq];have:=pr_pos p;simp[Tm.pr];try omega
  exact av9 _ _ _ _ hs hz _ _ (aah (.mat a b p) ho hl) (aa2 (.mat a b p) ho hl) (aaj (.mat a b p) ho hl) (ih ho'.2 (by omega)) (h0 p) (aij (s0 p) (aj8 _ 1 _)) (aij (srt_addL (s0 p) a) (aj8 _ 3 _))
 | tau p ih=>
  intro ho hl;have ho':=ho;simp only[Tm.ok]at ho';have hl':=hl;simp only[Tm.pr,List.length_cons]at hl';have hs:(S (.tau p)).size<=700:=by rw[aaq];exact hl
  exact asE _ _ _ _ hs 126 (by decide) (by decide) (by decide) (aah (.tau p) ho hl) (aa2 (.tau p) ho hl) (aaj (.tau p) ho hl) (ih ho' (by omega)) (h0 p)
 | rep p ih=>
  intro ho hl;have ho':=ho;simp only[Tm.ok]at ho';have hl':=hl;simp only[Tm.pr,List.length_cons]at hl';have hs:(S (.rep p)).size<=700:=by rw[aaq];exact hl
  exact asE _ _ _ _ hs 42 (by decide) (by decide) (by decide) (aah (.rep p) ho hl) (aa2 (.rep p) ho hl) (aaj (.rep p) ho hl) (ih ho' (by omega)) (h0 p)
 | sum p q ih ih2=>
  intro ho hl;have ho':=ho;simp only[Tm.ok,bae]at ho';have hl':=hl;simp only[Tm.pr,List.length_cons,lla]at hl';exact asF _ _ _ _ _ _ _ 43 (by decide) (by decide) (by decide) (aah (.sum p q) ho hl) (aa2 (.sum p q) ho hl) (aaj (.sum p q) ho hl) (ih ho'.1 (by omega)) (ih2 ho'.2 (by omega)) (h0 p) (ab2 _ (B q.free) (s0 p) (bsz q))
 | par p q ih ih2=>
  intro ho hl;have ho':=ho;simp only[Tm.ok,bae]at ho';have hl':=hl;simp only[Tm.pr,List.length_cons,lla]at hl';exact asF _ _ _ _ _ _ _ 38 (by decide) (by decide) (by decide) (aah (.par p q) ho hl) (aa2 (.par p q) ho hl) (aaj (.par p q) ho hl) (ih ho'.1 (by omega)) (ih2 ho'.2 (by omega)) (h0 p) (ab2 _ (B q.free) (s0 p) (bsz q))
structure KindFact (T:TypeId) (V:Value) (k:ByteArray):Prop where
 pf:∃(F:FuncId) (R:Value),(∀n w,(method (n+1) T V "loop.example/g01175/impl.kind").run prog w=.ok (F,R) w)/\(∀n w,(nilAhead (n+1) T V "loop.example/g01175/impl.kind").run prog w=.ok (some false) w)/\(∀args w,(callFunc F args).run prog w=.ok (.enter F args) w)/\∀w,Calls prog F #[R] w fun e w'=>e=.returned (.string k)/\Zb w w'
theorem aly (n:Nat)(w:World):(method (n+1) 134 (.agg #[]) "loop.example/g01175/impl.kind").run prog w=.ok (243,.agg #[]) w:=by kernel_rfl
theorem alz (n:Nat)(w:World):(nilAhead (n+1) 134 (.agg #[]) "loop.example/g01175/impl.kind").run prog w=.ok (some false) w:=by kernel_rfl
theorem alA (args:Array Value)(w:World):(callFunc 243 args).run prog w=.ok (.enter 243 args) w:=by kernel_rfl
theorem alB (w:World):Calls prog 243 #[.agg #[]] w fun e w'=>e=.returned (.string (one 48))/\Zb w w':=by
 go_enter func243,ntmps243
 go_wp2_with fail;go_ret;exact⟨rfl,by first|exact Below.refl _ _|exact bra⟩
theorem atm (n0:Int)(n1:Int)(t2:TypeId)(v2:Value)(n:Nat)(w:World):(method (n+1) 148 (.agg #[.int .u8 n0,.int .u8 n1,.iface t2 v2]) "loop.example/g01175/impl.kind").run prog w=.ok (249,.agg #[.int .u8 n0,.int .u8 n1,.iface t2 v2]) w:=by kernel_rfl
theorem atn (n0:Int)(n1:Int)(t2:TypeId)(v2:Value)(n:Nat)(w:World):(nilAhead (n+1) 148 (.agg #[.int .u8 n0,.int .u8 n1,.iface t2 v2]) "loop.example/g01175/impl.kind").run prog w=.ok (some false) w:=by kernel_rfl
theorem ato (args:Array Value)(w:World):(callFunc 249 args).run prog w=.ok (.enter 249 args) w:=by kernel_rfl
theorem atp (n0:Int)(n1:Int)(t2:TypeId)(v2:Value)(w:World):Calls prog 249 #[.agg #[.int .u8 n0,.int .u8 n1,.iface t2 v2]] w fun e w'=>e=.returned (.string (one 33))/\Zb w w':=by
 go_enter func249,ntmps249
 go_wp2_with fail;go_ret;exact⟨rfl,by first|exact Below.refl _ _|exact bra⟩
theorem alC (n0:Int)(n1:Int)(t2:TypeId)(v2:Value)(n:Nat)(w:World):(method (n+1) 189 (.agg #[.int .u8 n0,.int .u8 n1,.iface t2 v2]) "loop.example/g01175/impl.kind").run prog w=.ok (252,.agg #[.int .u8 n0,.int .u8 n1,.iface t2 v2]) w:=by kernel_rfl
theorem alD (n0:Int)(n1:Int)(t2:TypeId)(v2:Value)(n:Nat)(w:World):(nilAhead (n+1) 189 (.agg #[.int .u8 n0,.int .u8 n1,.iface t2 v2]) "loop.example/g01175/impl.kind").run prog w=.ok (some false) w:=by kernel_rfl
theorem alE (args:Array Value)(w:World):(callFunc 252 args).run prog w=.ok (.enter 252 args) w:=by kernel_rfl
theorem alF (n0:Int)(n1:Int)(t2:TypeId)(v2:Value)(w:World):Calls prog 252 #[.agg #[.int .u8 n0,.int .u8 n1,.iface t2 v2]] w fun e w'=>e=.returned (.string (one 63))/\Zb w w':=by
 go_enter func252,ntmps252
 go_wp2_with fail;go_ret;exact⟨rfl,by first|exact Below.refl _ _|exact bra⟩
theorem aqN (n0:Int)(n1:Int)(t2:TypeId)(v2:Value)(n:Nat)(w:World):(method (n+1) 177 (.agg #[.int .u8 n0,.int .u8 n1,.iface t2 v2]) "loop.example/g01175/impl.kind").run prog w=.ok (251,.agg #[.int .u8 n0,.int .u8 n1,.iface t2 v2]) w:=by kernel_rfl
theorem aqO (n0:Int)(n1:Int)(t2:TypeId)(v2:Value)(n:Nat)(w:World):(nilAhead (n+1) 177 (.agg #[.int .u8 n0,.int .u8 n1,.iface t2 v2]) "loop.example/g01175/impl.kind").run prog w=.ok (some false) w:=by kernel_rfl
theorem aqP (args:Array Value)(w:World):(callFunc 251 args).run prog w=.ok (.enter 251 args) w:=by kernel_rfl
theorem aqQ (n0:Int)(n1:Int)(t2:TypeId)(v2:Value)(w:World):Calls prog 251 #[.agg #[.int .u8 n0,.int .u8 n1,.iface t2 v2]] w fun e w'=>e=.returned (.string (one 61))/\Zb w w':=by
 go_enter func251,ntmps251
 go_wp2_with fail;go_ret;exact⟨rfl,by first|exact Below.refl _ _|exact bra⟩
theorem av_ (n0:Int)(t1:TypeId)(v1:Value)(n:Nat)(w:World):(method (n+1) 136 (.agg #[.int .u8 n0,.iface t1 v1]) "loop.example/g01175/impl.kind").run prog w=.ok (245,.agg #[.int .u8 n0,.iface t1 v1]) w:=by kernel_rfl
theorem awa (n0:Int)(t1:TypeId)(v1:Value)(n:Nat)(w:World):(nilAhead (n+1) 136 (.agg #[.int .u8 n0,.iface t1 v1]) "loop.example/g01175/impl.kind").run prog w=.ok (some false) w:=by kernel_rfl
theorem awb (args:Array Value)(w:World):(callFunc 245 args).run prog w=.ok (.enter 245 args) w:=by kernel_rfl
theorem awc (n0:Int)(t1:TypeId)(v1:Value)(w:World):Calls prog 245 #[.agg #[.int .u8 n0,.iface t1 v1]] w fun e w'=>e=.returned (.string (one 35))/\Zb w w':=by
 go_enter func245,ntmps245
 go_wp2_with fail;go_ret;exact⟨rfl,by first|exact Below.refl _ _|exact bra⟩
theorem ant (t0:TypeId)(v0:Value)(n:Nat)(w:World):(method (n+1) 143 (.agg #[.iface t0 v0]) "loop.example/g01175/impl.kind").run prog w=.ok (248,.agg #[.iface t0 v0]) w:=by kernel_rfl
theorem anu (t0:TypeId)(v0:Value)(n:Nat)(w:World):(nilAhead (n+1) 143 (.agg #[.iface t0 v0]) "loop.example/g01175/impl.kind").run prog w=.ok (some false) w:=by kernel_rfl
theorem anv (args:Array Value)(w:World):(callFunc 248 args).run prog w=.ok (.enter 248 args) w:=by kernel_rfl
theorem anw (t0:TypeId)(v0:Value)(w:World):Calls prog 248 #[.agg #[.iface t0 v0]] w fun e w'=>e=.returned (.string (one 126))/\Zb w w':=by
 go_enter func248,ntmps248
 go_wp2_with fail;go_ret;exact⟨rfl,by first|exact Below.refl _ _|exact bra⟩
theorem anx (t0:TypeId)(v0:Value)(n:Nat)(w:World):(method (n+1) 120 (.agg #[.iface t0 v0]) "loop.example/g01175/impl.kind").run prog w=.ok (242,.agg #[.iface t0 v0]) w:=by kernel_rfl
theorem anz (t0:TypeId)(v0:Value)(n:Nat)(w:World):(nilAhead (n+1) 120 (.agg #[.iface t0 v0]) "loop.example/g01175/impl.kind").run prog w=.ok (some false) w:=by kernel_rfl
theorem anA (args:Array Value)(w:World):(callFunc 242 args).run prog w=.ok (.enter 242 args) w:=by kernel_rfl
theorem anB (t0:TypeId)(v0:Value)(w:World):Calls prog 242 #[.agg #[.iface t0 v0]] w fun e w'=>e=.returned (.string (one 42))/\Zb w w':=by
 go_enter func242,ntmps242
 go_wp2_with fail;go_ret;exact⟨rfl,by first|exact Below.refl _ _|exact bra⟩
theorem anC (t0:TypeId)(v0:Value)(t1:TypeId)(v1:Value)(n:Nat)(w:World):(method (n+1) 165 (.agg #[.iface t0 v0,.iface t1 v1]) "loop.example/g01175/impl.kind").run prog w=.ok (250,.agg #[.iface t0 v0,.iface t1 v1]) w:=by kernel_rfl
theorem anD (t0:TypeId)(v0:Value)(t1:TypeId)(v1:Value)(n:Nat)(w:World):(nilAhead (n+1) 165 (.agg #[.iface t0 v0,.iface t1 v1]) "loop.example/g01175/impl.kind").run prog w=.ok (some false) w:=by kernel_rfl
theorem anE (args:Array Value)(w:World):(callFunc 250 args).run prog w=.ok (.enter 250 args) w:=by kernel_rfl
theorem anF (t0:TypeId)(v0:Value)(t1:TypeId)(v1:Value)(w:World):Calls prog 250 #[.agg #[.iface t0 v0,.iface t1 v1]] w fun e w'=>e=.returned (.string (one 43))/\Zb w w':=by
 go_enter func250,ntmps250
 go_wp2_with fail;go_ret;exact⟨rfl,by first|exact Below.refl _ _|exact bra⟩
theorem anG (t0:TypeId)(v0:Value)(t1:TypeId)(v1:Value)(n:Nat)(w:World):(method (n+1) 140 (.agg #[.iface t0 v0,.iface t1 v1]) "loop.example/g01175/impl.kind").run prog w=.ok (247,.agg #[.iface t0 v0,.iface t1 v1]) w:=by kernel_rfl
theorem anH (t0:TypeId)(v0:Value)(t1:TypeId)(v1:Value)(n:Nat)(w:World):(nilAhead (n+1) 140 (.agg #[.iface t0 v0,.iface t1 v1]) "loop.example/g01175/impl.kind").run prog w=.ok (some false) w:=by kernel_rfl
theorem anI (args:Array Value)(w:World):(callFunc 247 args).run prog w=.ok (.enter 247 args) w:=by kernel_rfl
theorem anJ (t0:TypeId)(v0:Value)(t1:TypeId)(v1:Value)(w:World):Calls prog 247 #[.agg #[.iface t0 v0,.iface t1 v1]] w fun e w'=>e=.returned (.string (one 38))/\Zb w w':=by
 go_enter func247,ntmps247
 go_wp2_with fail;go_ret;exact⟨rfl,by first|exact Below.refl _ _|exact bra⟩
theorem abj (t:Tm):KindFact (aau t) (pay t) (one t.kind):=by
 cases t with
 | nil=>exact⟨_,_,aly,alz,alA,alB⟩
 | snd a b p=>exact⟨_,_,atm _ _ _ _,atn _ _ _ _,ato,atp _ _ _ _⟩
 | rcv a b p=>exact⟨_,_,alC _ _ _ _,alD _ _ _ _,alE,alF _ _ _ _⟩
 | tau p=>exact⟨_,_,ant _ _,anu _ _,anv,anw _ _⟩
 | sum p q=>exact⟨_,_,anC _ _ _ _,anD _ _ _ _,anE,anF _ _ _ _⟩
 | par p q=>exact⟨_,_,anG _ _ _ _,anH _ _ _ _,anI,anJ _ _ _ _⟩
 | own x p=>exact⟨_,_,av_ _ _ _,awa _ _ _,awb,awc _ _ _⟩
 | mat a b p=>exact⟨_,_,aqN _ _ _ _,aqO _ _ _ _,aqP,aqQ _ _ _ _⟩
 | rep p=>exact⟨_,_,anx _ _,anz _ _,anA,anB _ _⟩
end Go.Proofs.YtihmcgcgjmbmhaaGreat.T1
