/- Texts of the proof. No conditions. -/
import Derived.Test.YtihmcgcgjmbmhaaGreatQab
import Derived.Test.YtihmcgcgjmbmhaaGreatQac
import Derived.LoopN
namespace Go.Proofs.YtihmcgcgjmbmhaaGreat.T1
open Go.Proofs.Tryz
set_option maxHeartbeats 1000000
open Go.RowKit
set_option maxRecDepth 100000
def S (t:Tm):ByteArray:=⟨t.pr.toArray⟩
theorem aaW (t:Tm):(S t).data.toList=t.pr:=rfl
theorem aaq (t:Tm):(S t).size=t.pr.length:=by simp[S,ByteArray.size]
theorem abu {s:ByteArray}{l:List UInt8}(h:s.data.toList=l)(i:Nat)(hi:i<s.size)(hl:i<l.length):s[i]=l[i]:=by
 subst h;rfl
theorem abB {s:ByteArray}{l:List UInt8}(h:s.data.toList=l):s.size=l.length:=by subst h;simp
theorem am6 {s:ByteArray}{p:Tm}{m:UInt8}{r:List UInt8}(h:s.data.toList=40::(p.pr++m::r))(ho:p.ok nmE=true):abc nmE s 1=((p.pr.length+1:Nat):Int):=by
 have he:E nmE (s.data.toList.drop 1)=some (p,m::r):=(abi nmE_nm).2 ⟨by rw[h];simp,ho⟩;unfold abc;rw[he];have:=abB h;simp at this
 simp only[List.length_cons];omega
theorem avT {s:ByteArray}{p:Tm}{m:UInt8}{r:List UInt8}(h:s.data.toList=40::(p.pr++m::r))(hi:p.pr.length+1<s.size):s[p.pr.length+1]=m:=by
 rw[abu h _ hi (by rw[abB h]at hi;exact hi)];simp
theorem aqD (s:ByteArray)(w:World)(hs:s.size<=700)(h:s.data.toList=[48]) : Calls prog 116 #[.string s] w fun e w'=>e=.returned (.int .u8 48)/\w=w':=by
 have z:=abB h;simp only[List.length_cons]at z;have hz:0<s.size:=by omega
 have c0:(s[0].toNat:Int)=48:=by rw[abu h 0 hz (by simp)];rfl
 have Hc:=qz c0;have b48:((s[0].toNat:Int)==48)=true:=by rw[c0];rfl
 clear c0
 go_enter func116,ntmps116
 go_wp2_with fail;go_ret;exact⟨aaU Hc.out,rfl⟩
theorem aqE (r:List UInt8)(s:ByteArray)(w:World)(hs:s.size<=700)(h:s.data.toList=42::r) : Calls prog 116 #[.string s] w fun e w'=>e=.returned (.int .u8 42)/\w=w':=by
 have z:=abB h;simp only[List.length_cons]at z;have hz:0<s.size:=by omega
 have c0:(s[0].toNat:Int)=42:=by rw[abu h 0 hz (by simp)];rfl
 have Hc:=qz c0;have b48:((s[0].toNat:Int)==48)=false:=by rw[c0];rfl
 have b42:((s[0].toNat:Int)==42)=true:=by rw[c0];rfl
 clear c0
 go_enter func116,ntmps116
 go_wp2_with fail;go_ret;exact⟨aaU Hc.out,rfl⟩
theorem aqF (r:List UInt8)(s:ByteArray)(w:World)(hs:s.size<=700)(h:s.data.toList=126::r) : Calls prog 116 #[.string s] w fun e w'=>e=.returned (.int .u8 126)/\w=w':=by
 have z:=abB h;simp only[List.length_cons]at z;have hz:0<s.size:=by omega
 have c0:(s[0].toNat:Int)=126:=by rw[abu h 0 hz (by simp)];rfl
 have Hc:=qz c0;have b48:((s[0].toNat:Int)==48)=false:=by rw[c0];rfl
 have b42:((s[0].toNat:Int)==42)=false:=by rw[c0];rfl
 have b126:((s[0].toNat:Int)==126)=true:=by rw[c0];rfl
 clear c0
 go_enter func116,ntmps116
 go_wp2_with fail;go_ret;exact⟨aaU Hc.out,rfl⟩
theorem aqG (r:List UInt8)(s:ByteArray)(w:World)(hs:s.size<=700)(h:s.data.toList=35::r) : Calls prog 116 #[.string s] w fun e w'=>e=.returned (.int .u8 35)/\w=w':=by
 have z:=abB h;simp only[List.length_cons]at z;have hz:0<s.size:=by omega
 have c0:(s[0].toNat:Int)=35:=by rw[abu h 0 hz (by simp)];rfl
 have Hc:=qz c0;have b48:((s[0].toNat:Int)==48)=false:=by rw[c0];rfl
 have b42:((s[0].toNat:Int)==42)=false:=by rw[c0];rfl
 have b126:((s[0].toNat:Int)==126)=false:=by rw[c0];rfl
 have b35:((s[0].toNat:Int)==35)=true:=by rw[c0];rfl
 clear c0
 go_enter func116,ntmps116
 go_wp2_with fail;go_ret;exact⟨aaU Hc.out,rfl⟩
theorem aqH (r:List UInt8)(s:ByteArray)(w:World)(hs:s.size<=700)(h:s.data.toList=91::r) : Calls prog 116 #[.string s] w fun e w'=>e=.returned (.int .u8 61)/\w=w':=by
 have z:=abB h;simp only[List.length_cons]at z;have hz:0<s.size:=by omega
 have c0:(s[0].toNat:Int)=91:=by rw[abu h 0 hz (by simp)];rfl
 have b48:((s[0].toNat:Int)==48)=false:=by rw[c0];rfl
 have b42:((s[0].toNat:Int)==42)=false:=by rw[c0];rfl
 have b126:((s[0].toNat:Int)==126)=false:=by rw[c0];rfl
 have b35:((s[0].toNat:Int)==35)=false:=by rw[c0];rfl
 have b91:((s[0].toNat:Int)==91)=true:=by rw[c0];rfl
 clear c0
 go_enter func116,ntmps116
 go_wp2_with fail;go_ret;exact⟨rfl,rfl⟩
theorem aj4 (a m:UInt8)(r:List UInt8)(s:ByteArray)(w:World)(hs:s.size<=700)(h:s.data.toList=a::m::r)(ha:nmE a=true) : Calls prog 116 #[.string s] w fun e w'=>e=.returned (.int .u8 (m.toNat:Int))/\w=w':=by
 have z:=abB h;simp only[List.length_cons]at z;have hz:1<s.size:=by omega
 have hq:=nmE_nm a ha;have hk:(s[1].toNat:Int)=(m.toNat:Int):=by rw[abu h 1 hz (by simp)];rfl
 have e0:s[0]=a:=by rw[abu h 0 (by omega) (by simp)];rfl
 have b48:((s[0].toNat:Int)==48)=false:=by rw[beq_eq_false_iff_ne,e0];intro h';exact hq.1 (by rw[<-UInt8.toNat_inj];simp;omega)
 have b42:((s[0].toNat:Int)==42)=false:=by rw[beq_eq_false_iff_ne,e0];intro h';exact hq.2.1 (by rw[<-UInt8.toNat_inj];simp;omega)
 have b126:((s[0].toNat:Int)==126)=false:=by rw[beq_eq_false_iff_ne,e0];intro h';exact hq.2.2.1 (by rw[<-UInt8.toNat_inj];simp;omega)
 have b35:((s[0].toNat:Int)==35)=false:=by rw[beq_eq_false_iff_ne,e0];intro h';exact hq.2.2.2.1 (by rw[<-UInt8.toNat_inj];simp;omega)
 have b91:((s[0].toNat:Int)==91)=false:=by rw[beq_eq_false_iff_ne,e0];intro h';exact hq.2.2.2.2.1 (by rw[<-UInt8.toNat_inj];simp;omega)
 have b40:((s[0].toNat:Int)==40)=false:=by rw[beq_eq_false_iff_ne,e0];intro h';exact hq.2.2.2.2.2 (by rw[<-UInt8.toNat_inj];simp;omega)
 have Hk:=qz hk;clear hq e0 hk
 go_enter func116,ntmps116
 go_wp2_with fail;go_ret;exact⟨aaU Hk.out,rfl⟩
theorem aid (p:Tm)(m:UInt8)(r:List UInt8)(s:ByteArray)(w:World)(hs:s.size<=700)(h:s.data.toList=40::(p.pr++m::r))(ho:p.ok nmE=true) : Calls prog 116 #[.string s] w fun e w'=>e=.returned (.int .u8 (m.toNat:Int))/\w=w':=by
 have z:=abB h;simp only[List.length_cons,lla]at z;have hz:0<s.size:=by omega
 have hm:p.pr.length+1<s.size:=by omega
 have c0:(s[0].toNat:Int)=40:=by rw[abu h 0 hz (by simp)];rfl
 have b48:((s[0].toNat:Int)==48)=false:=by rw[c0];rfl
 have b42:((s[0].toNat:Int)==42)=false:=by rw[c0];rfl
 have b126:((s[0].toNat:Int)==126)=false:=by rw[c0];rfl
 have b35:((s[0].toNat:Int)==35)=false:=by rw[c0];rfl
 have b91:((s[0].toNat:Int)==91)=false:=by rw[c0];rfl
 have b40:((s[0].toNat:Int)==40)=true:=by rw[c0];rfl
 have hc:=afk s hs 710 1 w (by omega) (by omega);rw[am6 h ho]at hc;obtain⟨k,hk'⟩:∃k,k=p.pr.length:=⟨_,rfl⟩;rw[<-hk']at hc;have hm':k+1<s.size:=by omega
 have hk:(s[k+1].toNat:Int)=(m.toNat:Int):=by subst hk';rw[avT h hm']
 have HC:Hid (Calls prog 110 #[.string s,.int .i64 1] w fun e w'=>e=.returned (.int .i64 ((k:Int)+1))/\w=w'):=hc;have Hk:=qz hk;clear c0 hk hc hm z hk' h
 go_enter func116,ntmps116
 go_wp2_with fail;refine(HC.out).mono ?_;rintro e w' ⟨rfl,rfl⟩;go_wp2_with fail;go_ret;exact⟨aaU Hk.out,rfl⟩
theorem aah (t:Tm)(ho:t.ok nmE=true)(hl:t.pr.length<=700)(w:World):Calls prog 116 #[.string (S t)] w fun e w'=>e=.returned (.int .u8 (t.kind.toNat:Int))/\w=w':=by
 have hs:(S t).size<=700:=by rw[aaq];exact hl
 cases t with
 | nil=>exact aqD _ w hs rfl
 | snd a b p=>simp only[Tm.ok,bae]at ho;exact aj4 a 33 _ _ w hs rfl ho.1.1
 | rcv a b p=>simp only[Tm.ok,bae]at ho;exact aj4 a 63 _ _ w hs rfl ho.1.1
 | tau p=>exact aqF _ _ w hs rfl
 | sum p q=>simp only[Tm.ok,bae]at ho;exact aid p 43 _ _ w hs rfl ho.1
 | par p q=>simp only[Tm.ok,bae]at ho;exact aid p 38 _ _ w hs rfl ho.1
 | own x p=>exact aqG _ _ w hs rfl
 | mat a b p=>exact aqH _ _ w hs rfl
 | rep p=>exact aqE _ _ w hs rfl
def Tm.hd:Tm->Nat
 | .rep _=>1
 | .sum _ _=>1
 | .par _ _=>1
 | .tau _=>2
 | .own _ _=>3
 | .mat _ _ _=>5
 | _=>4
theorem aai (w:World)(o:Obj):(w.alloc o).heap[w.heap.size]?=some o:=by
 show (w.heap.push o)[w.heap.size]?=_;rw[Array.getElem?_push,if_pos rfl]
theorem aeo (t:Tm)(ho:t.ok nmE=true)(hl:t.pr.length<=700)(w:World):Calls prog 121 #[.string (S t)] w fun e w'=>e=.returned (.int .i64 (t.hd:Nat))/\w=w':=by
 have HK:=aah t ho hl w;obtain⟨s,hs⟩:∃s,s=S t:=⟨_,rfl⟩;rw[<-hs]at HK ⊢;clear hs hl ho
 cases t
 all_goals
  simp only[Tm.kind,Tm.hd]at HK ⊢;have H:=qz HK;clear HK
  go_enter func121,ntmps121
  go_wp2_with fail;refine(H.out).mono ?_;rintro e w' ⟨rfl,rfl⟩;go_wp2_with fail;go_ret;exact⟨rfl,rfl⟩
def PartsS (ps:List Tm)(w:World)(e:Ending)(w':World):Prop:=
 match ps with
 | []=>e=.returned (.slice none 0 0)/\Zb w w'
 | [p]=>∃b,e=.returned (.slice (some ⟨b,0,none⟩) 1 1)/\w.heap.size<=b/\w'.heap[b]?=some (.cells #[.string (S p)] 9 (0,0))/\Zb w w'
 | [p,q]=>∃b,e=.returned (.slice (some ⟨b,0,none⟩) 2 2)/\w.heap.size<=b/\w'.heap[b]?=some (.cells #[.string (S p),.string (S q)] 9 (0,0))/\Zb w w'
 | _=>False
theorem am7 {s:ByteArray}{l:List UInt8}(h:s.data.toList=l)(i j:Nat)(t:Tm)(ht:(l.drop i).take (j - i)=t.pr):s.extract i j=S t:=by
 apply ByteArray.ext
 apply Array.ext'
 show (s.extract i j).data.toList=t.pr;rw[<-ht,<-h];simp[ByteArray.data_extract,Array.toList_extract]
theorem acs (t p:Tm)(w:World)(_hs:(S t).size<=700)(hd:t.hd<(S t).size)(hx:(S t).extract t.hd (S t).size=S p)(hk:t.kind≠48/\t.kind≠43/\t.kind≠38) (HK:Ze 116 #[.string (S t)] (.int .u8 (t.kind.toNat:Int)))(HH:Ze 121 #[.string (S t)] (.int .i64 (t.hd:Nat))) : Calls prog 117 #[.string (S t)] w (PartsS [p] w):=by
 have b1:((t.kind.toNat:Int)==48)=false:=by rw[beq_eq_false_iff_ne];intro h';exact hk.1 (by rw[<-UInt8.toNat_inj];simp;omega)
 have b2:((t.kind.toNat:Int)==43)=false:=by rw[beq_eq_false_iff_ne];intro h';exact hk.2.1 (by rw[<-UInt8.toNat_inj];simp;omega)
 have b3:((t.kind.toNat:Int)==38)=false:=by rw[beq_eq_false_iff_ne];intro h';exact hk.2.2 (by rw[<-UInt8.toNat_inj];simp;omega)
 obtain⟨s,es⟩:∃s,s=S t:=⟨_,rfl⟩;obtain⟨v,ev⟩:∃v,v=S p:=⟨_,rfl⟩;obtain⟨n,en⟩:∃n,n=t.hd:=⟨_,rfl⟩;obtain⟨k,ek⟩:∃k,k=(t.kind.toNat:Int):=⟨_,rfl⟩;rw[<-es,<-en]at hd;rw[<-es]at _hs;rw[<-es,<-en,<-ev]at hx;rw[<-ek]at b1 b2 b3;have HK2:Hid (Ze 116 #[.string s] (.int .u8 k)):=by rw[es,ek];exact HK
 have HH2:Hid (Ze 121 #[.string s] (.int .i64 (n:Nat))):=by rw[es,en];exact HH
 have EV:=qz ev;rw[<-es];clear es ev en ek HK HH hk
 go_enter func117,ntmps117
 go_wp2_with fail;refine(HK2.out _).mono ?_;rintro e w' ⟨rfl,rfl⟩;go_wp2_with fail;refine(HH2.out _).mono ?_;rintro e w' ⟨rfl,rfl⟩;go_wp2_with fail;go_ret;exact⟨_,rfl,nl _,by rw[<-EV.out];exact aai _ _,bra⟩
theorem alr (w:World):Calls prog 117 #[.string (S .nil)] w (PartsS [] w):=by
 have HK:=aah .nil rfl (by simp[Tm.pr]);obtain⟨s,es⟩:∃s,s=S .nil:=⟨_,rfl⟩;have HK2:Hid (Ze 116 #[.string s] (.int .u8 48)):=by rw[es];exact HK
 rw[<-es];clear es HK
 go_enter func117,ntmps117
 go_wp2_with fail;refine(HK2.out _).mono ?_;rintro e w' ⟨rfl,rfl⟩;go_wp2_with fail;go_ret;exact⟨rfl,Below.refl _ _⟩
theorem aie (t p q:Tm)(m:Int)(w:World)(hs:(S t).size<=700)(hm:m=43\/m=38)(hsz:(S t).size=p.pr.length+q.pr.length+3)(hx:(S t).extract 1 (p.pr.length+1)=S p)(hy:(S t).extract (p.pr.length+1+1) ((S t).size - 1)=S q) (HK:Ze 116 #[.string (S t)] (.int .u8 m))(HE:Ze 110 #[.string (S t),.int .i64 1] (.int .i64 ((p.pr.length+1:Nat):Int))) : Calls prog 117 #[.string (S t)] w (PartsS [p,q] w):=by
 have T:((m==43)=true/\(m==48)=false)\/((m==43)=false/\(m==48)=false/\(m==38)=true):=by rcases hm with rfl|rfl<;>decide
 obtain⟨s,es⟩:∃s,s=S t:=⟨_,rfl⟩;obtain⟨v,ev⟩:∃v,v=S p:=⟨_,rfl⟩;obtain⟨u,eu⟩:∃u,u=S q:=⟨_,rfl⟩;obtain⟨k,ek⟩:∃k,k=p.pr.length:=⟨_,rfl⟩;rw[<-es]at hs hsz;rw[<-es,<-ev,<-ek]at hx;rw[<-es,<-eu,<-ek]at hy;have h1:k+2<=s.size - 1:=by omega
 have h2:3<=s.size:=by omega
 have HK2:Hid (Ze 116 #[.string s] (.int .u8 m)):=by rw[es];exact HK
 have HE2:Hid (Ze 110 #[.string s,.int .i64 1] (.int .i64 ((k:Int)+1))):=by rw[es,ek];exact HE
 have EV:=qz ev;have EU:=qz eu;rw[<-es];clear es ev eu ek HK HE hm hsz;have w1:IntKind.i64.wrap ((k:Int)+1+1)=(k:Int)+1+1:=IntWalk.i64_in _ (by omega);have w2:IntKind.i64.wrap ((s.size:Int) - 1)=(s.size:Int) - 1:=IntWalk.i64_in _ (by omega);rcases T with⟨T1,T2⟩|⟨T1,T2,T3⟩
 all_goals
  go_enter func117,ntmps117
  go_wp2_with fail;refine(HK2.out _).mono ?_;rintro e w' ⟨rfl,rfl⟩;go_wp2_with fail;refine(HE2.out _).mono ?_;rintro e w' ⟨rfl,rfl⟩;go_wp2_with fail
  go_region
  all_goals go_wp2_with fail
  all_goals go_ret
  all_goals exact⟨_,rfl,nl _,by rw[<-EV.out,<-EU.out];exact aai _ _,(bra).drew⟩
theorem ath (l:List UInt8)(n:Nat)(h:l.length<=n):l.take n=l:=List.take_of_length_le h
theorem abK {t p:Tm}{pre:List UInt8}(h:t.pr=pre++p.pr):(S t).extract pre.length (S t).size=S p:=
 am7 (aaW t) _ _ p (by rw[h,List.drop_left,aaq,h,lla];exact ath _ _ (by omega))
theorem avU {t p:Tm}{m:UInt8}{r:List UInt8}(h:t.pr=40::(p.pr++m::r)):(S t).extract 1 (p.pr.length+1)=S p:=
 am7 (aaW t) _ _ p (by rw[h,List.drop_succ_cons,List.drop_zero,Nat.add_sub_cancel,List.take_left])
theorem avV {t p q:Tm}{m:UInt8}(h:t.pr=40::(p.pr++m::(q.pr++[41]))):(S t).extract (p.pr.length+1+1) ((S t).size - 1)=S q:=
 am7 (aaW t) _ _ q (by
  have e:t.pr=(40::p.pr++[m])++(q.pr++[41]):=by rw[h];simp
  have l1:(40::p.pr++[m]).length=p.pr.length+1+1:=by simp
  rw[aaq,e,<-l1,List.drop_left,lla];have:(40::p.pr++[m]).length+(q.pr++[41]).length - 1 - (40::p.pr++[m]).length=q.pr.length:=by simp
  rw[this,List.take_left])
theorem aj5 {t p:Tm}{m:UInt8}{r:List UInt8}(h:t.pr=40::(p.pr++m::r))(ho:p.ok nmE=true)(hl:t.pr.length<=700)(w:World) : Calls prog 110 #[.string (S t),.int .i64 1] w fun e w'=>e=.returned (.int .i64 ((p.pr.length+1:Nat):Int))/\w=w':=by
 have hc:=afk (S t) (by rw[aaq];exact hl) 710 1 w (by omega) (by omega);rw[am6 (s:=S t) h ho]at hc;exact hc
theorem aaj (t:Tm)(ho:t.ok nmE=true)(hl:t.pr.length<=700)(w:World):Calls prog 117 #[.string (S t)] w (PartsS t.parts w):=by
 have hs:(S t).size<=700:=by rw[aaq];exact hl
 have HK:=aah t ho hl;have HH:=aeo t ho hl;have hz:=aaq t
 cases t with
 | nil=>exact alr w
 | snd a b p=>exact acs _ p w hs (by rw[hz];have:=pr_pos p;simp[Tm.pr,Tm.hd];omega) (abK (pre:=[a,33,b,46]) rfl) (by simp only[Tm.kind];decide) HK HH
 | rcv a b p=>exact acs _ p w hs (by rw[hz];have:=pr_pos p;simp[Tm.pr,Tm.hd];omega) (abK (pre:=[a,63,b,46]) rfl) (by simp only[Tm.kind];decide) HK HH
 | tau p=>exact acs _ p w hs (by rw[hz];have:=pr_pos p;simp[Tm.pr,Tm.hd];omega) (abK (pre:=[126,46]) rfl) (by simp only[Tm.kind];decide) HK HH
 | sum p q=>
  simp only[Tm.ok,bae]at ho;exact aie _ p q 43 w hs (.inl rfl) (by rw[hz];simp[Tm.pr];omega) (avU rfl) (avV rfl) HK (aj5 rfl ho.1 hl)
 | par p q=>
  simp only[Tm.ok,bae]at ho;exact aie _ p q 38 w hs (.inr rfl) (by rw[hz];simp[Tm.pr];omega) (avU rfl) (avV rfl) HK (aj5 rfl ho.1 hl)
 | own x p=>exact acs _ p w hs (by rw[hz];have:=pr_pos p;simp[Tm.pr,Tm.hd];omega) (abK (pre:=[35,x,46]) rfl) (by simp only[Tm.kind];decide) HK HH
 | mat a b p=>exact acs _ p w hs (by rw[hz];have:=pr_pos p;simp[Tm.pr,Tm.hd];omega) (abK (pre:=[91,a,61,b,93]) rfl) (by simp only[Tm.kind];decide) HK HH
 | rep p=>exact acs _ p w hs (by rw[hz];have:=pr_pos p;simp[Tm.pr,Tm.hd];omega) (abK (pre:=[42]) rfl) (by simp only[Tm.kind];decide) HK HH
def acT (ps:List Tm)(w:World)(e:Ending)(w':World):Prop:=
 match ps with
 | []=>e=.returned (.slice none 0 0)/\Zb w w'
 | [p]=>∃b,e=.returned (.slice (some ⟨b,0,none⟩) 1 1)/\w.heap.size<=b/\w'.heap[b]?=some (.cells #[.iface (aau p) (pay p)] 41 (0,0))/\Zb w w'
 | [p,q]=>∃b,e=.returned (.slice (some ⟨b,0,none⟩) 2 2)/\w.heap.size<=b/\w'.heap[b]?=some (.cells #[.iface (aau p) (pay p),.iface (aau q) (pay q)] 41 (0,0))/\Zb w w'
 | _=>False
structure PartsFact (T:TypeId) (V:Value) (ps:List Tm):Prop where
 pf:∃(F:FuncId) (R:Value),(∀n w,(method (n+1) T V "loop.example/g01175/impl.parts").run prog w=.ok (F,R) w)/\(∀n w,(nilAhead (n+1) T V "loop.example/g01175/impl.parts").run prog w=.ok (some false) w)/\(∀args w,(callFunc F args).run prog w=.ok (.enter F args) w)/\∀w,Calls prog F #[R] w (acT ps w)
theorem aaK (w:World)(o o':Obj):((w.alloc o).alloc o').heap[w.heap.size+1]?=some o':=by
 show ((w.heap.push o).push o')[w.heap.size+1]?=_;rw[Array.getElem?_push,if_pos (by simp)]
theorem ahh (w:World):Calls prog 244 #[.agg #[]] w (acT [] w):=by
 go_enter func244,ntmps244
 go_wp2_with fail;go_ret;exact⟨rfl,by first|exact Below.refl _ _|exact bra⟩
theorem ahi (tz:TypeId)(vz:Value)(w:World):Calls prog 241 #[.agg #[.iface tz vz]] w fun e w'=>e=.returned (.slice (some ⟨w.heap.size+1,0,none⟩) 1 1)/\(w.alloc (.cells #[.iface tz vz] 118)).alloc (.cells #[.iface tz vz] 41)=w':=by
 go_enter func241,ntmps241
 go_wp2_with fail;go_ret;exact⟨rfl,rfl⟩
theorem ajh (tz:TypeId)(vz:Value)(ty:TypeId)(vy:Value)(w:World):Calls prog 246 #[.agg #[.iface tz vz,.iface ty vy]] w fun e w'=>e=.returned (.slice (some ⟨w.heap.size+1,0,none⟩) 2 2)/\(w.alloc (.cells #[.iface tz vz,.iface ty vy] 138)).alloc (.cells #[.iface tz vz,.iface ty vy] 41)=w':=by
 go_enter func246,ntmps246
 go_wp2_with fail;go_ret;exact⟨rfl,rfl⟩
theorem aaw (w:World)(o o':Obj):Zb w ((w.alloc o).alloc o'):=((Below.refl _ _).alloc (nl _) o).alloc (by simp) o'
theorem abx (p:Tm)(w:World):Calls prog 241 #[.agg #[.iface (aau p) (pay p)]] w (acT [p] w):=by
 refine(ahi _ _ w).mono ?_;rintro e w' ⟨rfl,rfl⟩;exact⟨_,rfl,by omega,aaK _ _ _,aaw _ _ _⟩
theorem agJ (p q:Tm)(w:World):Calls prog 246 #[.agg #[.iface (aau p) (pay p),.iface (aau q) (pay q)]] w (acT [p,q] w):=by
 refine(ajh _ _ _ _ w).mono ?_;rintro e w' ⟨rfl,rfl⟩;exact⟨_,rfl,by omega,aaK _ _ _,aaw _ _ _⟩
theorem als (n:Nat)(w:World):(method (n+1) 134 (.agg #[]) "loop.example/g01175/impl.parts").run prog w=.ok (244,.agg #[]) w:=by kernel_rfl
theorem alt (n:Nat)(w:World):(nilAhead (n+1) 134 (.agg #[]) "loop.example/g01175/impl.parts").run prog w=.ok (some false) w:=by kernel_rfl
theorem ati (x y z:Value)(n:Nat)(w:World):(method (n+1) 148 (.agg #[x,y,z]) "loop.example/g01175/impl.parts").run prog w=.ok (241,.agg #[z]) w:=by kernel_rfl
theorem atj (x y z:Value)(n:Nat)(w:World):(nilAhead (n+1) 148 (.agg #[x,y,z]) "loop.example/g01175/impl.parts").run prog w=.ok (some false) w:=by kernel_rfl
theorem alu (x y z:Value)(n:Nat)(w:World):(method (n+1) 189 (.agg #[x,y,z]) "loop.example/g01175/impl.parts").run prog w=.ok (241,.agg #[z]) w:=by kernel_rfl
theorem alv (x y z:Value)(n:Nat)(w:World):(nilAhead (n+1) 189 (.agg #[x,y,z]) "loop.example/g01175/impl.parts").run prog w=.ok (some false) w:=by kernel_rfl
theorem aqI (x y z:Value)(n:Nat)(w:World):(method (n+1) 177 (.agg #[x,y,z]) "loop.example/g01175/impl.parts").run prog w=.ok (241,.agg #[z]) w:=by kernel_rfl
theorem aqJ (x y z:Value)(n:Nat)(w:World):(nilAhead (n+1) 177 (.agg #[x,y,z]) "loop.example/g01175/impl.parts").run prog w=.ok (some false) w:=by kernel_rfl
theorem avW (x z:Value)(n:Nat)(w:World):(method (n+1) 136 (.agg #[x,z]) "loop.example/g01175/impl.parts").run prog w=.ok (241,.agg #[z]) w:=by kernel_rfl
theorem avX (x z:Value)(n:Nat)(w:World):(nilAhead (n+1) 136 (.agg #[x,z]) "loop.example/g01175/impl.parts").run prog w=.ok (some false) w:=by kernel_rfl
theorem am8 (z:Value)(n:Nat)(w:World):(method (n+1) 143 (.agg #[z]) "loop.example/g01175/impl.parts").run prog w=.ok (241,.agg #[z]) w:=by kernel_rfl
theorem am9 (z:Value)(n:Nat)(w:World):(nilAhead (n+1) 143 (.agg #[z]) "loop.example/g01175/impl.parts").run prog w=.ok (some false) w:=by kernel_rfl
theorem am_ (z:Value)(n:Nat)(w:World):(method (n+1) 120 (.agg #[z]) "loop.example/g01175/impl.parts").run prog w=.ok (241,.agg #[z]) w:=by kernel_rfl
theorem ana (z:Value)(n:Nat)(w:World):(nilAhead (n+1) 120 (.agg #[z]) "loop.example/g01175/impl.parts").run prog w=.ok (some false) w:=by kernel_rfl
theorem anb (z y:Value)(n:Nat)(w:World):(method (n+1) 165 (.agg #[z,y]) "loop.example/g01175/impl.parts").run prog w=.ok (246,.agg #[z,y]) w:=by kernel_rfl
theorem anc (z y:Value)(n:Nat)(w:World):(nilAhead (n+1) 165 (.agg #[z,y]) "loop.example/g01175/impl.parts").run prog w=.ok (some false) w:=by kernel_rfl
theorem ane (z y:Value)(n:Nat)(w:World):(method (n+1) 140 (.agg #[z,y]) "loop.example/g01175/impl.parts").run prog w=.ok (246,.agg #[z,y]) w:=by kernel_rfl
theorem anf (z y:Value)(n:Nat)(w:World):(nilAhead (n+1) 140 (.agg #[z,y]) "loop.example/g01175/impl.parts").run prog w=.ok (some false) w:=by kernel_rfl
theorem axY (args:Array Value)(w:World):(callFunc 244 args).run prog w=.ok (.enter 244 args) w:=by kernel_rfl
theorem alw (args:Array Value)(w:World):(callFunc 241 args).run prog w=.ok (.enter 241 args) w:=by kernel_rfl
theorem avY (args:Array Value)(w:World):(callFunc 246 args).run prog w=.ok (.enter 246 args) w:=by kernel_rfl
theorem parts_fact (t:Tm):PartsFact (aau t) (pay t) t.parts:=by
 cases t with
 | nil=>exact⟨_,_,als,alt,axY,ahh⟩
 | snd a b p=>exact⟨_,_,ati _ _ _,atj _ _ _,alw,abx p⟩
 | rcv a b p=>exact⟨_,_,alu _ _ _,alv _ _ _,alw,abx p⟩
 | tau p=>exact⟨_,_,am8 _,am9 _,alw,abx p⟩
 | sum p q=>exact⟨_,_,anb _ _,anc _ _,avY,agJ p q⟩
 | par p q=>exact⟨_,_,ane _ _,anf _ _,avY,agJ p q⟩
 | own x p=>exact⟨_,_,avW _ _,avX _ _,alw,abx p⟩
 | mat a b p=>exact⟨_,_,aqI _ _ _,aqJ _ _ _,alw,abx p⟩
 | rep p=>exact⟨_,_,am_ _,ana _,alw,abx p⟩
def Tm.subs:Tm->List Tm
 | .nil=>[.nil]
 | .snd a b p=>.snd a b p::p.subs
 | .rcv a b p=>.rcv a b p::p.subs
 | .tau p=>.tau p::p.subs
 | .sum p q=>.sum p q::(p.subs++q.subs)
 | .par p q=>.par p q::(p.subs++q.subs)
 | .own x p=>.own x p::p.subs
 | .mat a b p=>.mat a b p::p.subs
 | .rep p=>.rep p::p.subs
def VisPost (bn:Nat)(I:List Tm->World->Prop)(acc:List Tm)(w:World)(e:Ending)(w':World):Prop:=e=.returned (.tuple #[])/\I acc w'/\Only bn w w'
theorem aac {w:World}{b:Nat}{x:Value}{T:TypeId}(h:w.heap[b]?=some (.cells #[x] T (0,0))):w.cell? ⟨b,0,none⟩=some x:=by simp[World.cell?,h]
theorem aaf {w:World}{b:Nat}{x y:Value}{T:TypeId}(h:w.heap[b]?=some (.cells #[x,y] T (0,0))):w.cell? ⟨b,0,none⟩=some x:=by simp[World.cell?,h]
theorem aak {w:World}{b:Nat}{x y:Value}{T:TypeId}(h:w.heap[b]?=some (.cells #[x,y] T (0,0))):w.cell? ⟨b,1,none⟩=some y:=by simp[World.cell?,h]
theorem avZ (CF:FuncId)(caps:Array Value)(bn:Nat)(I:List Tm->World->Prop)(hF:∀args w,(callFunc CF args).run prog w=.ok (.enter CF args) w) (hI:∀acc w w',I acc w->Zb w w'->I acc w')(hB:∀acc w,I acc w->bn<w.heap.size) (T:TypeId)(V:Value)(t:Tm)(hP:PartsFact T V []) (hv:∀acc w,I acc w->Calls prog CF (#[.iface T V]++caps) w (VisPost bn I (acc++[t]) w))(acc:List Tm)(w:World)(h0:I acc w) : Calls prog 137 #[.iface T V,.func (.func CF) #[] caps] w (VisPost bn I (acc++[t]) w):=by
 obtain⟨F,R,hm,hn,hc,hp⟩:=hP;have HV:=qz hv;have HI:=qz hI;have HB:=qz hB;have HP:=qz hp;clear hv hI hB hp
 go_enter func137,ntmps137
 go_wp2_with fail;refine(HV.out acc w h0).mono ?_;rintro e w1 ⟨rfl,i1,o1⟩;go_wp2_with fail;refine(HP.out w1).mono ?_;rintro e w2 ⟨rfl,bl⟩;go_wp2_with fail;refine wp_loop_rounds 1 ?_;rw[rounds_succ];go_wp2_with fail;go_end0;exact⟨rfl,HI.out _ _ _ i1 bl,o1.below bl⟩
theorem agK (CF:FuncId)(caps:Array Value)(bn:Nat)(I:List Tm->World->Prop)(hF:∀args w,(callFunc CF args).run prog w=.ok (.enter CF args) w) (hI:∀acc w w',I acc w->Zb w w'->I acc w')(hB:∀acc w,I acc w->bn<w.heap.size) (T:TypeId)(V:Value)(tp:TypeId)(vp:Value)(t:Tm)(ts:List Tm) (hP:∃(F:FuncId) (R:Value),(∀n w,(method (n+1) T V "loop.example/g01175/impl.parts").run prog w=.ok (F,R) w)/\(∀n w,(nilAhead (n+1) T V "loop.example/g01175/impl.parts").run prog w=.ok (some false) w)/\(∀args w,(callFunc F args).run prog w=.ok (.enter F args) w)/\∀w,Calls prog F #[R] w fun e w'=>∃b,e=.returned (.slice (some ⟨b,0,none⟩) 1 1)/\w.heap.size<=b/\w'.heap[b]?=some (.cells #[.iface tp vp] 41 (0,0))/\Zb w w') (hv:∀acc w,I acc w->Calls prog CF (#[.iface T V]++caps) w (VisPost bn I (acc++[t]) w)) (ih:∀acc w,I acc w->Calls prog 137 #[.iface tp vp,.func (.func CF) #[] caps] w (VisPost bn I (acc++ts) w))(acc:List Tm)(w:World)(h0:I acc w) : Calls prog 137 #[.iface T V,.func (.func CF) #[] caps] w (VisPost bn I (acc++t::ts) w):=by
 obtain⟨F,R,hm,hn,hc,hp⟩:=hP;have HV:=qz hv;have HI:=qz hI;have HB:=qz hB;have HP:=qz hp;have IH:=qz ih;clear hv hI hB hp ih
 go_enter func137,ntmps137
 go_wp2_with fail;refine(HV.out acc w h0).mono ?_;rintro e w1 ⟨rfl,i1,o1⟩;go_wp2_with fail;refine(HP.out w1).mono ?_;rintro e w2 ⟨b,rfl,hb,hh,bl⟩;have c0:=aac hh;have H:=qz hh;clear hh;go_wp2_with fail;refine wp_loop_rounds 2 ?_;rw[rounds_succ];go_wp2_with fail;refine(IH.out _ _ (HI.out _ _ _ i1 bl)).mono ?_;rintro e w3 ⟨rfl,i3,o3⟩;clear c0;go_wp2_with fail;rw[rounds_succ];go_wp2_with fail;go_end0;exact⟨rfl,by rw[List.append_assoc]at i3;exact i3,(o1.below bl).trans o3⟩
theorem asB (CF:FuncId)(caps:Array Value)(bn:Nat)(I:List Tm->World->Prop)(hF:∀args w,(callFunc CF args).run prog w=.ok (.enter CF args) w) (hI:∀acc w w',I acc w->Zb w w'->I acc w')(hB:∀acc w,I acc w->bn<w.heap.size) (T:TypeId)(V:Value)(tp:TypeId)(vp:Value)(tq:TypeId)(vq:Value)(t:Tm)(ts us:List Tm) (hP:∃(F:FuncId) (R:Value),(∀n w,(method (n+1) T V "loop.example/g01175/impl.parts").run prog w=.ok (F,R) w)/\(∀n w,(nilAhead (n+1) T V "loop.example/g01175/impl.parts").run prog w=.ok (some false) w)/\(∀args w,(callFunc F args).run prog w=.ok (.enter F args) w)/\∀w,Calls prog F #[R] w fun e w'=>∃b,e=.returned (.slice (some ⟨b,0,none⟩) 2 2)/\w.heap.size<=b/\w'.heap[b]?=some (.cells #[.iface tp vp,.iface tq vq] 41 (0,0))/\Zb w w') (hv:∀acc w,I acc w->Calls prog CF (#[.iface T V]++caps) w (VisPost bn I (acc++[t]) w)) (ih:∀acc w,I acc w->Calls prog 137 #[.iface tp vp,.func (.func CF) #[] caps] w (VisPost bn I (acc++ts) w)) (ih2:∀acc w,I acc w->Calls prog 137 #[.iface tq vq,.func (.func CF) #[] caps] w (VisPost bn I (acc++us) w))(acc:List Tm)(w:World)(h0:I acc w) : Calls prog 137 #[.iface T V,.func (.func CF) #[] caps] w (VisPost bn I (acc++t::(ts++us)) w):=by
 obtain⟨F,R,hm,hn,hc,hp⟩:=hP;have HV:=qz hv;have HI:=qz hI;have HB:=qz hB;have HP:=qz hp;have IH:=qz ih;have IH2:=qz ih2;clear hv hI hB hp ih ih2
 go_enter func137,ntmps137
 go_wp2_with fail;refine(HV.out acc w h0).mono ?_;rintro e w1 ⟨rfl,i1,o1⟩;go_wp2_with fail;refine(HP.out w1).mono ?_;rintro e w2 ⟨b,rfl,hb,hh,bl⟩;have c0:=aaf hh;have H:=qz hh;clear hh;have bb:=HB.out _ _ i1;go_wp2_with fail;refine wp_loop_rounds 3 ?_;rw[rounds_succ];go_wp2_with fail;refine(IH.out _ _ (HI.out _ _ _ i1 bl)).mono ?_;rintro e w3 ⟨rfl,i3,o3⟩;have h3:w3.heap[b]?=some (.cells #[.iface tp vp,.iface tq vq] 41 (0,0)):=(o3.block b (lt_of_block H.out) (by omega)).trans H.out;clear c0;have c1:=aak h3;clear h3;go_wp2_with fail;rw[rounds_succ];go_wp2_with fail;refine(IH2.out _ _ i3).mono ?_;rintro e w4 ⟨rfl,i4,o4⟩;clear c1;go_wp2_with fail;rw[rounds_succ];go_wp2_with fail;go_end0;exact⟨rfl,by rw[List.append_assoc,List.append_assoc]at i4;exact i4,((o1.below bl).trans o3).trans o4⟩
theorem aif (CF:FuncId)(caps:Array Value)(bn:Nat)(I:List Tm->World->Prop)(hF:∀args w,(callFunc CF args).run prog w=.ok (.enter CF args) w) (hI:∀acc w w',I acc w->Zb w w'->I acc w')(hB:∀acc w,I acc w->bn<w.heap.size) (hv:∀t acc w,I acc w->Calls prog CF (#[.iface (aau t) (pay t)]++caps) w (VisPost bn I (acc++[t]) w))(t:Tm):∀(acc:List Tm) (w:World),I acc w-> Calls prog 137 #[.iface (aau t) (pay t),.func (.func CF) #[] caps] w (VisPost bn I (acc++t.subs) w):=by
 induction t with
 | nil=>exact avZ CF caps bn I hF hI hB _ _ .nil (parts_fact .nil) (hv .nil)
 | snd a b p ih=>exact agK CF caps bn I hF hI hB _ _ _ _ (.snd a b p) p.subs (parts_fact (.snd a b p)).pf (hv _) ih
 | rcv a b p ih=>exact agK CF caps bn I hF hI hB _ _ _ _ (.rcv a b p) p.subs (parts_fact (.rcv a b p)).pf (hv _) ih
 | tau p ih=>exact agK CF caps bn I hF hI hB _ _ _ _ (.tau p) p.subs (parts_fact (.tau p)).pf (hv _) ih
 | sum p q ih ih2=>exact asB CF caps bn I hF hI hB _ _ _ _ _ _ (.sum p q) p.subs q.subs (parts_fact (.sum p q)).pf (hv _) ih ih2
 | par p q ih ih2=>exact asB CF caps bn I hF hI hB _ _ _ _ _ _ (.par p q) p.subs q.subs (parts_fact (.par p q)).pf (hv _) ih ih2
 | own x p ih=>exact agK CF caps bn I hF hI hB _ _ _ _ (.own x p) p.subs (parts_fact (.own x p)).pf (hv _) ih
 | mat a b p ih=>exact agK CF caps bn I hF hI hB _ _ _ _ (.mat a b p) p.subs (parts_fact (.mat a b p)).pf (hv _) ih
 | rep p ih=>exact agK CF caps bn I hF hI hB _ _ _ _ (.rep p) p.subs (parts_fact (.rep p)).pf (hv _) ih
def CntI (bf bn:Nat)(fv:Value)(hp:Tm->Bool)(J:World->Prop)(acc:List Tm)(w:World):Prop:=
 (∃Tf,w.heap[bf]?=some (.cells #[fv] Tf (0,0)))/\(∃Tn,w.heap[bn]?=some (.cells #[.int .i64 (wrap64 (acc.countP hp:Nat))] Tn (0,0)))/\J w
theorem ang (x:Int):-9223372036854775808<=wrap64 x/\wrap64 x<=9223372036854775807:=by unfold wrap64;omega
theorem aji (c:Nat):wrap64 (wrap64 (c:Int)+1)=wrap64 ((c+1:Nat):Int):=by unfold wrap64;omega
theorem av0 (bf bn:Nat)(HF:FuncId)(hcaps:Array Value)(hp:Tm->Bool)(J:World->Prop)(B:Nat)(hne:bf≠bn)(hB:B<=bn) (hFH:∀args w,(callFunc HF args).run prog w=.ok (.enter HF args) w)(hJ:∀w w',J w->Below B w w'->J w') (T:TypeId)(V:Value)(t:Tm)(hH:∀w,J w->Calls prog HF (#[.iface T V]++hcaps) w fun e w'=>e=.returned (.bool (hp t))/\Zb w w') (acc:List Tm)(w:World)(h0:CntI bf bn (.func (.func HF) #[] hcaps) hp J acc w)(hBw:B<=w.heap.size) : Calls prog 138 #[.iface T V,.pointer (some ⟨bf,0,none⟩),.pointer (some ⟨bn,0,none⟩)] w (VisPost bn (CntI bf bn (.func (.func HF) #[] hcaps) hp J) (acc++[t]) w):=by
 obtain⟨⟨Tf,hf⟩,⟨Tn,hn⟩,j0⟩:=h0;have cf:=aac hf;have Hf:=qz hf;have Hn:=qz hn;have HH:=qz hH;have HJ:=qz hJ;clear hf hn hH hJ
 cases hq:hp t with
 | true=>
  have Hq:Hid ((acc++[t]).countP hp=acc.countP hp+1):=by simp[Hid,hq]
  have HH2:Hid (Calls prog HF (#[.iface T V]++hcaps) w fun e w'=>e=.returned (.bool true)/\Zb w w'):=by have:=HH.out w j0;rw[hq]at this;exact this
  clear HH hq
  go_enter func138,ntmps138
  go_wp2_with fail;refine(HH2.out).mono ?_;rintro e w1 ⟨rfl,bl⟩;have hn1:=(bl.block bn (lt_of_block Hn.out)).trans Hn.out;have hf1:=(bl.block bf (lt_of_block Hf.out)).trans Hf.out;obtain⟨x,hx⟩:∃x,x=wrap64 (acc.countP hp:Nat):=⟨_,rfl⟩;rw[<-hx]at hn1;have cn:=aac hn1;have fn:=free_of_one hn1;have Hn1:=qz hn1;have Hf1:=qz hf1;have xb:=ang (acc.countP hp:Nat);rw[<-hx]at xb;have Hx:=qz hx;have HJ1:Hid (J w1):=HJ.out _ _ j0 (bl.mono hBw);clear hn1 hf1 hx cf j0;go_wp2_with fail;go_end0;refine⟨rfl,⟨⟨Tf,?_⟩,⟨Tn,?_⟩,?_⟩,?_⟩
  ·rw[Below.heap_setCell _ _ _ _ hne];exact Hf1.out
  ·rw[one_setCell Hn1.out,Hq.out,<-aji,<-Hx.out]
  ·exact HJ.out _ _ HJ1.out ((Below.refl _ _).setCell hB _)
  ·exact((Only.refl bn w).below bl).setCell _ _ _
 | false=>
  have Hq:Hid ((acc++[t]).countP hp=acc.countP hp):=by simp[Hid,hq]
  have HH2:Hid (Calls prog HF (#[.iface T V]++hcaps) w fun e w'=>e=.returned (.bool false)/\Zb w w'):=by have:=HH.out w j0;rw[hq]at this;exact this
  clear HH hq
  go_enter func138,ntmps138
  go_wp2_with fail;refine(HH2.out).mono ?_;rintro e w1 ⟨rfl,bl⟩;have HJ1:Hid (J w1):=HJ.out _ _ j0 (bl.mono hBw);clear cf j0;go_wp2_with fail;go_end0;refine⟨rfl,⟨⟨Tf,(bl.block bf (lt_of_block Hf.out)).trans Hf.out⟩,⟨Tn,?_⟩,HJ1.out⟩,(Only.refl bn w).below bl⟩;rw[Hq.out];exact(bl.block bn (lt_of_block Hn.out)).trans Hn.out
theorem cf_c1 (args:Array Value)(w:World):(callFunc 138 args).run prog w=.ok (.enter 138 args) w:=by kernel_rfl
theorem aj6 (t:Tm):t.subs.length=t.size:=by
 induction t<;>simp_all [Tm.subs,Tm.size]<;>omega
theorem aaJ (w:World)(o o':Obj):((w.alloc o).alloc o').heap[w.heap.size]?=some o:=by
 show ((w.heap.push o).push o')[w.heap.size]?=_;rw[Array.getElem?_push,if_neg (by simp),Array.getElem?_push,if_pos rfl]
theorem acD (HF:FuncId)(hcaps:Array Value)(hp:Tm->Bool)(J:World->Prop) (hFH:∀args w,(callFunc HF args).run prog w=.ok (.enter HF args) w) (hH:∀t w,J w->Calls prog HF (#[.iface (aau t) (pay t)]++hcaps) w fun e w'=>e=.returned (.bool (hp t))/\Zb w w') (t:Tm)(ht:t.size<=1000)(w:World)(hJ:∀w1 w',J w1->Below w.heap.size w1 w'->J w')(j0:J w) : Calls prog 89 #[.iface (aau t) (pay t),.func (.func HF) #[] hcaps] w fun e w'=>e=.returned (.int .i64 (t.subs.countP hp:Nat))/\Zb w w':=by
 have HV:=qz (aif 138 #[.pointer (some ⟨w.heap.size,0,none⟩),.pointer (some ⟨w.heap.size+1,0,none⟩)] (w.heap.size+1)
  (fun acc w1=>CntI w.heap.size (w.heap.size+1) (.func (.func HF) #[] hcaps) hp J acc w1) cf_c1
  (fun acc w1 w' h bl=>by
   obtain⟨⟨Tf,hf⟩,⟨Tn,hn⟩,j⟩:=h
   exact⟨⟨Tf,(bl.block _ (lt_of_block hf)).trans hf⟩,⟨Tn,(bl.block _ (lt_of_block hn)).trans hn⟩,hJ _ _ j (bl.mono (Nat.le_of_lt (lt_of_block hf)))⟩)
  (fun acc w1 h=>by obtain⟨_,⟨Tn,hn⟩,_⟩:=h;exact lt_of_block hn)
  (fun t acc w1 h=>av0 _ _ HF hcaps hp J w.heap.size (by omega) (by omega) hFH hJ _ _ t (fun w2 j=>hH t w2 j) acc w1 h (by obtain⟨⟨Tf,hf⟩,_⟩:=h;exact Nat.le_of_lt (lt_of_block hf))) t)
 have HJ:=qz hJ;have J0:=qz j0
 have hc:Hid (wrap64 ((t.subs.countP hp:Nat):Int)=((t.subs.countP hp:Nat):Int)):=by
  have h1:t.subs.countP hp<=t.subs.length:=List.countP_le_length;rw[aj6]at h1;exact IntWalk.wrap64_in _ (by omega)
 have H0:Hid (∀T1 T2,CntI w.heap.size (w.heap.size+1) (.func (.func HF) #[] hcaps) hp J [] ((w.alloc (.cells #[.func (.func HF) #[] hcaps] T1)).alloc (.cells #[.int .i64 0] T2))):=
  fun T1 T2=>⟨⟨T1,aaJ _ _ _⟩,⟨T2,(aaK _ _ _).trans (by simp[wrap64])⟩,hJ _ _ j0 (aaw _ _ _)⟩
 clear hJ hH j0;obtain⟨T,hT⟩:∃T,T=aau t:=⟨_,rfl⟩;obtain⟨V,hV⟩:∃V,V=pay t:=⟨_,rfl⟩;obtain⟨N,hN⟩:∃N,N=t.subs.countP hp:=⟨_,rfl⟩;rw[<-hT,<-hV]at HV ⊢;rw[<-hN]at hc ⊢;have HN:=qz hN;clear hT hV hN
 go_enter func89,ntmps89
 go_wp2_with fail;refine((HV.out) [] _ (H0.out _ _)).mono ?_;rintro e w1 ⟨rfl,⟨_,⟨Tn,hn⟩,_⟩,o1⟩;rw[List.nil_append,<-HN.out,hc.out]at hn;have cn:=aac hn;go_wp2_with fail;go_ret;exact⟨rfl,Below.only (aaw _ _ _) o1 (by omega) (by simp;omega)⟩
theorem anh (T:TypeId)(V:Value)(w:World):Calls prog 136 (#[.iface T V]++#[]) w fun e w'=>e=.returned (.bool true)/\Zb w w':=by
 show Calls prog 136 #[.iface T V] w _
 go_enter func136,ntmps136
 go_wp2_with fail;go_ret;exact⟨rfl,Below.refl _ _⟩
theorem axZ (args:Array Value)(w:World):(callFunc 136 args).run prog w=.ok (.enter 136 args) w:=by kernel_rfl
theorem aj7 (t:Tm)(ht:t.size<=1000)(w:World):Calls prog 88 #[.iface (aau t) (pay t)] w fun e w'=>e=.returned (.int .i64 (t.size:Nat))/\Zb w w':=by
 have HC:=acD 136 #[] (fun _=>true) (fun _=>True) axZ (fun t w _=>anh _ _ w) t ht w (fun _ _ _ _=>trivial) trivial;rw[List.countP_true,aj6]at HC;obtain⟨T,hT⟩:∃T,T=aau t:=⟨_,rfl⟩;obtain⟨V,hV⟩:∃V,V=pay t:=⟨_,rfl⟩;obtain⟨N,hN⟩:∃N,N=t.size:=⟨_,rfl⟩;rw[<-hT,<-hV]at HC ⊢;rw[<-hN]at HC ⊢;have H:=qz HC;clear hT hV hN HC
 go_enter func88,ntmps88
 go_wp2_with fail;refine(H.out).mono ?_;rintro e w1 ⟨rfl,bl⟩;go_wp2_with fail;go_ret;exact⟨rfl,bl⟩
noncomputable def good (l:List UInt8):Option Tm:=
 if l.length<=300 then
  match E nmL l with
  | some (t,[])=>if t.size<=60 then some t else none
  | _=>none
 else none
theorem ani {l:List UInt8}(h:300<l.length):good l=none:=by rw[good,if_neg (by omega)]
theorem anj {l:List UInt8}(h:E nmL l=none):good l=none:=by unfold good;rw[h];split<;>rfl
theorem ank {l r:List UInt8}{t:Tm}(h:E nmL l=some (t,r))(hr:r≠[]):good l=none:=by
 unfold good;rw[h]
 cases r with
 | nil=>exact absurd rfl hr
 | cons c r=>split<;>rfl
theorem agL {l:List UInt8}{t:Tm}(h:E nmL l=some (t,[]))(ht:60<t.size):good l=none:=by
 unfold good;rw[h]
 split
 ·simp only[];rw[if_neg (by omega)]
 ·rfl
theorem ahj {l:List UInt8}{t:Tm}(hl:l.length<=300)(h:E nmL l=some (t,[]))(ht:t.size<=60):good l=some t:=by
 unfold good;rw[h,if_pos hl];simp only[];rw[if_pos ht]
theorem adE {l:List UInt8}{t:Tm}(h:good l=some t):l.length<=300/\l=t.pr/\t.ok nmL=true/\t.size<=60:=by
 unfold good at h
 split at h
 ·rename_i hl
  split at h
  ·rename_i t' he
   split at h
   ·rename_i ht
    cases h;have:=(abi aa5).1 he;exact⟨hl,by have h2:=this.1;rw[List.append_nil]at h2;exact h2,this.2,ht⟩
   ·cases h
  ·cases h
 ·cases h
def anl (s:ByteArray)(w:World)(e:Ending)(w':World):Prop:=
 ((∃t,good s.data.toList=some t/\e=.returned (.tuple #[.iface (aau t) (pay t),.bool true]))\/(good s.data.toList=none/\e=.returned (.tuple #[.nilIface,.bool false])))/\Zb w w'
theorem anm (w:World)(o:Obj):(w.alloc o).heap[w.heap.size]?=some o:=by
 show (w.heap.push o)[w.heap.size]?=_;rw[Array.getElem?_push,if_pos rfl]
theorem aig (s:ByteArray)(w:World)(hm:s.size<=9223372036854775807):Calls prog 58 #[.string s] w (anl s w):=by
 by_cases hs:s.size<=300
 ·have HR:Hid (∀T,RdAt (w.alloc (.cells #[.string s,.int .i64 0] T)) w.heap.size s 0):=fun T=>⟨T,anm _ _⟩;have HL:Hid (s.data.toList.length=s.size):=by simp[Hid]
  go_enter func58,ntmps58
  go_wp2_with fail;refine(ajg w.heap.size s hs 0 _ (Nat.zero_le _) (HR.out _)).mono ?_;rintro e w1 (⟨t,m,rfl,r1,o1,h1,h2,e1⟩|⟨v,rfl,o1,e1⟩)
  ·have HE:Hid (E nmL s.data.toList=some (t,s.data.toList.drop m)):=e1
   have hsz:t.size<=300:=by
    have h3:=(abi aa5).1 HE.out;have h4:=aaX t;have h5:s.data.toList.length=t.pr.length+(s.data.toList.drop m).length:=by rw[<-lla,<-h3.1]
    rw[HL.out]at h5;omega
   have HS:=fun w=>aj7 t (by omega) w;clear e1;have hB:Zb w w1:=Below.only (bra) o1 (nl _) (by simp);have c1:=r1.c1
   by_cases hme:m=s.size
   ·have t1:((m:Int) != (s.size:Int))=false:=by rw[hme];simp
    have HE2:Hid (E nmL s.data.toList=some (t,[])):=by have:=HE.out;rw[List.drop_of_length_le (by rw[HL.out];omega)]at this;exact this
    by_cases ht:t.size<=60
    ·have HG:Hid (good s.data.toList=some t):=ahj (by rw[HL.out];exact hs) HE2.out ht;obtain⟨T,hT⟩:∃T,T=aau t:=⟨_,rfl⟩;obtain⟨V,hV⟩:∃V,V=pay t:=⟨_,rfl⟩;obtain⟨N,hN⟩:∃N,N=t.size:=⟨_,rfl⟩;rw[<-hT,<-hV,<-hN]at HS;rw[<-hT,<-hV];rw[<-hN]at ht;have HTV:Hid (T=aau t/\V=pay t):=⟨hT,hV⟩;have HS2:=qz HS;clear hme hT hV hN HS;go_wp2_with fail;refine(HS2.out _).mono ?_;rintro e w2 ⟨rfl,bl⟩;go_wp2_with fail;go_ret2;exact⟨.inl ⟨t,HG.out,by rw[<-HTV.out.1,<-HTV.out.2];rfl⟩,aab hB bl hB.size⟩
    ·have HG:Hid (good s.data.toList=none):=agL HE2.out (by omega);obtain⟨T,hT⟩:∃T,T=aau t:=⟨_,rfl⟩;obtain⟨V,hV⟩:∃V,V=pay t:=⟨_,rfl⟩;obtain⟨N,hN⟩:∃N,N=t.size:=⟨_,rfl⟩;rw[<-hT,<-hV,<-hN]at HS;rw[<-hT,<-hV];rw[<-hN]at ht;have HS2:=qz HS;clear hme hT hV hN HS;go_wp2_with fail;refine(HS2.out _).mono ?_;rintro e w2 ⟨rfl,bl⟩;go_wp2_with fail;go_ret2;exact⟨.inr ⟨HG.out,rfl⟩,aab hB bl hB.size⟩
   ·have t1:((m:Int) != (s.size:Int))=true:=by simp;omega
    have HG:Hid (good s.data.toList=none):=ank HE.out (by intro h;have:=congrArg List.length h;rw[List.length_drop,HL.out]at this;simp at this;omega);obtain⟨T,hT⟩:∃T,T=aau t:=⟨_,rfl⟩;obtain⟨V,hV⟩:∃V,V=pay t:=⟨_,rfl⟩;rw[<-hT,<-hV];clear hme hT hV HS;go_wp2_with fail;go_ret2;exact⟨.inr ⟨HG.out,rfl⟩,hB⟩
  ·have HG:Hid (good s.data.toList=none):=anj e1;have hB:Zb w w1:=Below.only (bra) o1 (nl _) (by simp);clear e1;go_wp2_with fail;go_ret2;exact⟨.inr ⟨HG.out,rfl⟩,hB⟩
 ·have HG:Hid (good s.data.toList=none):=ani (by simp;omega)
  go_enter func58,ntmps58
  go_wp2_with fail;go_ret2;exact⟨.inr ⟨HG.out,rfl⟩,Below.refl _ _⟩
theorem atk (s:ByteArray)(HP:∀w,Calls prog 117 #[.string s] w (PartsS [] w))(w:World) : Calls prog 111 #[.string s] w fun e w'=>e=.returned (.int .i64 1)/\Zb w w':=by
 have H:=qz HP;clear HP
 go_enter func111,ntmps111
 go_wp2_with fail;refine(H.out _).mono ?_;rintro e w1 ⟨rfl,bl⟩;go_wp2_with fail;refine wp_loop_rounds 1 ?_;rw[rounds_succ];go_wp2_with fail;go_ret;exact⟨rfl,bl⟩
theorem aep (s u:ByteArray)(n:Nat)(hn:n<=1000)(HP:∀w,Calls prog 117 #[.string s] w fun e w'=>∃b,e=.returned (.slice (some ⟨b,0,none⟩) 1 1)/\w.heap.size<=b/\w'.heap[b]?=some (.cells #[.string u] 9 (0,0))/\Zb w w') (ih:Zr 111 #[.string u] (.int .i64 (n:Int)))(w:World) : Calls prog 111 #[.string s] w fun e w'=>e=.returned (.int .i64 (1+(n:Int)))/\Zb w w':=by
 have H:=qz HP;have IH:=qz ih;clear HP ih
 go_enter func111,ntmps111
 go_wp2_with fail;refine(H.out _).mono ?_;rintro e w1 ⟨b,rfl,hb,hh,bl⟩;have c0:=aac hh;clear hh;go_wp2_with fail;refine wp_loop_rounds 2 ?_;rw[rounds_succ];go_wp2_with fail;refine(IH.out _).mono ?_;rintro e w2 ⟨rfl,bl2⟩;clear c0;go_wp2_with fail;rw[rounds_succ];go_wp2_with fail;go_ret;exact⟨rfl,aab bl bl2 bl.size⟩
theorem ann (s u v:ByteArray)(n m:Nat)(hn:n<=1000)(hm:m<=1000)(HP:∀w,Calls prog 117 #[.string s] w fun e w'=>∃b,e=.returned (.slice (some ⟨b,0,none⟩) 2 2)/\w.heap.size<=b/\w'.heap[b]?=some (.cells #[.string u,.string v] 9 (0,0))/\Zb w w') (ih:Zr 111 #[.string u] (.int .i64 (n:Int)))(ih2:Zr 111 #[.string v] (.int .i64 (m:Int)))(w:World) : Calls prog 111 #[.string s] w fun e w'=>e=.returned (.int .i64 (1+(n:Int)+(m:Int)))/\Zb w w':=by
 have H:=qz HP;have IH:=qz ih;have IH2:=qz ih2;clear HP ih ih2
 go_enter func111,ntmps111
 go_wp2_with fail;refine(H.out _).mono ?_;rintro e w1 ⟨b,rfl,hb,hh,bl⟩;have c0:=aaf hh;have Hh:=qz hh;clear hh;go_wp2_with fail;refine wp_loop_rounds 3 ?_;rw[rounds_succ];go_wp2_with fail;refine(IH.out _).mono ?_;rintro e w2 ⟨rfl,bl2⟩;have h2:=(bl2.block b (lt_of_block Hh.out)).trans Hh.out;clear c0;have c1:=aak h2;clear h2;go_wp2_with fail;rw[rounds_succ];go_wp2_with fail;refine(IH2.out _).mono ?_;rintro e w3 ⟨rfl,bl3⟩;clear c1;go_wp2_with fail;rw[rounds_succ];go_wp2_with fail;go_ret;exact⟨rfl,aab (aab bl bl2 bl.size) bl3 (Nat.le_trans bl.size bl2.size)⟩
theorem alx (t:Tm):t.ok nmE=true->t.pr.length<=700->∀(w:World),Calls prog 111 #[.string (S t)] w fun e w'=>e=.returned (.int .i64 (t.size:Nat))/\Zb w w':=by
 have conv:∀(t:Tm) (n:Int),n=(t.size:Nat)->(Zr 111 #[.string (S t)] (.int .i64 n))->Zr 111 #[.string (S t)] (.int .i64 (t.size:Nat)):=by
  intro t n h hc;rw[h]at hc;exact hc
 induction t with
 | nil=>exact fun ho hl=>atk _ (aaj .nil ho hl)
 | snd a b p ih=>
  intro ho hl;have hq:=aaX p;have ho':=ho;simp only[Tm.ok,bae]at ho';have hl':=hl;simp only[Tm.pr,List.length_cons]at hl';exact conv _ _ (by simp only[Tm.size];omega) (aep _ _ p.size (by omega) (aaj (.snd a b p) ho hl) (ih ho'.2 (by omega)))
 | rcv a b p ih=>
  intro ho hl;have hq:=aaX p;have ho':=ho;simp only[Tm.ok,bae]at ho';have hl':=hl;simp only[Tm.pr,List.length_cons]at hl';exact conv _ _ (by simp only[Tm.size];omega) (aep _ _ p.size (by omega) (aaj (.rcv a b p) ho hl) (ih ho'.2 (by omega)))
 | mat a b p ih=>
  intro ho hl;have hq:=aaX p;have ho':=ho;simp only[Tm.ok,bae]at ho';have hl':=hl;simp only[Tm.pr,List.length_cons]at hl';exact conv _ _ (by simp only[Tm.size];omega) (aep _ _ p.size (by omega) (aaj (.mat a b p) ho hl) (ih ho'.2 (by omega)))
 | own x p ih=>
  intro ho hl;have hq:=aaX p;have ho':=ho;simp only[Tm.ok,bae]at ho';have hl':=hl;simp only[Tm.pr,List.length_cons]at hl';exact conv _ _ (by simp only[Tm.size];omega) (aep _ _ p.size (by omega) (aaj (.own x p) ho hl) (ih ho'.2 (by omega)))
 | tau p ih=>
  intro ho hl;have hq:=aaX p;have hl':=hl;simp only[Tm.pr,List.length_cons]at hl';exact conv _ _ (by simp only[Tm.size];omega) (aep _ _ p.size (by omega) (aaj (.tau p) ho hl) (ih ho (by omega)))
 | rep p ih=>
  intro ho hl;have hq:=aaX p;have hl':=hl;simp only[Tm.pr,List.length_cons]at hl';exact conv _ _ (by simp only[Tm.size];omega) (aep _ _ p.size (by omega) (aaj (.rep p) ho hl) (ih ho (by omega)))
 | sum p q ih ih2=>
  intro ho hl;have hq:=aaX p;have hq2:=aaX q;have ho':=ho;simp only[Tm.ok,bae]at ho';have hl':=hl;simp only[Tm.pr,List.length_cons,lla]at hl';exact conv _ _ (by simp only[Tm.size];omega) (ann _ _ _ p.size q.size (by omega) (by omega) (aaj (.sum p q) ho hl) (ih ho'.1 (by omega)) (ih2 ho'.2 (by omega)))
 | par p q ih ih2=>
  intro ho hl;have hq:=aaX p;have hq2:=aaX q;have ho':=ho;simp only[Tm.ok,bae]at ho';have hl':=hl;simp only[Tm.pr,List.length_cons,lla]at hl';exact conv _ _ (by simp only[Tm.size];omega) (ann _ _ _ p.size q.size (by omega) (by omega) (aaj (.par p q) ho hl) (ih ho'.1 (by omega)) (ih2 ho'.2 (by omega)))
theorem atl (t:Tm)(h:t.ok nmL=true):t.ok nmE=true:=by
 have k:∀c,nmL c=true->nmE c=true:=fun c h=>by simp[nmL,nmE]at h ⊢;omega
 induction t<;>simp_all [Tm.ok]
theorem aqK (t:Tm)(h:t.ok nmE=true)(hs:t.pr.all smB=true):t.ok nmL=true:=by
 have k:∀c,nmE c=true->smB c=true->nmL c=true:=fun c h h2=>by simp[nmL,nmE,smB]at h h2 ⊢;omega
 induction t<;>simp_all [Tm.ok,Tm.pr]
theorem aqL (t:Tm)(h:t.ok nmL=true):t.pr.all smB=true:=by
 have k:∀c,nmL c=true->smB c=true:=fun c h=>by simp[nmL,smB]at h ⊢;omega
 induction t<;>simp_all [Tm.ok,Tm.pr,smB]
noncomputable def aeq (s:ByteArray):Bool:=(good s.data.toList).isSome
theorem ano {l:List UInt8}{t:Tm}(h:good l=some t):E nmE l=some (t,[])/\l.all smB=true:=by
 obtain⟨_,h2,h3,_⟩:=adE h;exact⟨(abi nmE_nm).2 ⟨by rw[h2,List.append_nil],atl t h3⟩,by rw[h2];exact aqL t h3⟩
theorem adF {s:ByteArray}(h:∀t,good s.data.toList≠some t):aeq s=false:=by
 unfold aeq
 cases hg:good s.data.toList with
 | none=>rfl
 | some t=>exact absurd hg (h t)
theorem aih {s:ByteArray}{t:Tm}(h:good s.data.toList=some t):aeq s=true:=by unfold aeq;rw[h];rfl
theorem axS {s:ByteArray}{t:Tm}(h:s.data.toList=t.pr):s=S t:=by
 apply ByteArray.ext
 apply Array.ext'
 exact h
theorem agM (s:ByteArray)(w:World)(hmax:s.size<=9223372036854775807):Calls prog 69 #[.string s] w fun e w'=>e=.returned (.bool (aeq s))/\Zb w w':=by
 have HL:Hid (s.data.toList.length=s.size):=by simp[Hid]
 by_cases hs:s.size<=300
 ·have HSM:=fun w=>ajd s w hs
  cases hsm:amX s with
  | false=>
   have HG:Hid (aeq s=false):=adF (fun t h=>by have:=(ano h).2;rw[show s.data.toList.all smB=amX s from rfl,hsm]at this;cases this);rw[hsm]at HSM;have H1:=qz HSM;clear HSM hsm
   go_enter func69,ntmps69
   go_wp2_with fail;refine(H1.out _).mono ?_;rintro e w1 ⟨rfl,rfl⟩;go_wp2_with fail;go_ret;exact⟨by rw[HG.out];rfl,Below.refl _ _⟩
  | true=>
   rw[hsm]at HSM;have H1:=qz HSM;have HS:Hid (s.data.toList.all smB=true):=hsm;clear HSM hsm;have HEN:=fun w=>afk s (by omega) 710 0 w (by omega) (by omega);rcases endOf_cases nmE nmE_nm s 0 with⟨e1,E1⟩|⟨t,m,hm1,hm2,e1,E1⟩
   ·have HG:Hid (aeq s=false):=adF (fun t h=>by have:=(ano h).1;rw[List.drop_zero]at E1;rw[E1]at this;cases this);rw[e1]at HEN;have H2:Hid (Ze 110 #[.string s,.int .i64 0] (.int .i64 (-1))):=HEN;have t1:((-1:Int)==(s.size:Int))=false:=by rw[beq_eq_false_iff_ne];omega
    clear HEN e1 E1
    go_enter func69,ntmps69
    go_wp2_with fail;refine(H1.out _).mono ?_;rintro e w1 ⟨rfl,rfl⟩;go_wp2_with fail;refine(H2.out _).mono ?_;rintro e w1 ⟨rfl,rfl⟩;go_wp2_with fail;go_ret;exact⟨by rw[HG.out];rfl,Below.refl _ _⟩
   ·rw[e1]at HEN;have H2:Hid (Ze 110 #[.string s,.int .i64 0] (.int .i64 (m:Int))):=HEN;rw[List.drop_zero]at E1;clear HEN e1
    by_cases hms:m=s.size
    ·rw[List.drop_of_length_le (by rw[HL.out];omega)]at E1;have hr:=(abi nmE_nm).1 E1;have hl:s.data.toList=t.pr:=by have:=hr.1;rw[List.append_nil]at this;exact this
     have hokL:=aqK t hr.2 (by rw[<-hl];exact HS.out);have hlen:t.pr.length<=300:=by rw[<-hl,HL.out];exact hs
     have H3:=alx t hr.2 (by omega);rw[<-axS hl]at H3;have EL:E nmL s.data.toList=some (t,[]):=(abi aa5).2 ⟨by rw[hl,List.append_nil],hokL⟩;have t1:((m:Int)==(s.size:Int))=true:=by rw[hms];simp
     by_cases hts:t.size<=60
     ·have HG:Hid (aeq s=true):=aih (ahj (by rw[HL.out];exact hs) EL hts);obtain⟨N,hN⟩:∃N,N=t.size:=⟨_,rfl⟩;rw[<-hN]at H3 hts;have H3':=qz H3;clear E1 hr hl hokL hlen H3 EL hms hN
      go_enter func69,ntmps69
      go_wp2_with fail;refine(H1.out _).mono ?_;rintro e w1 ⟨rfl,rfl⟩;go_wp2_with fail;refine(H2.out _).mono ?_;rintro e w1 ⟨rfl,rfl⟩;go_wp2_with fail;refine(H3'.out _).mono ?_;rintro e w1 ⟨rfl,bl⟩;go_wp2_with fail;go_ret;exact⟨by rw[HG.out];exact abU (a:=decide ((N:Int)<=60)) (by simp;omega),bl⟩
     ·have HG:Hid (aeq s=false):=adF (fun t' h=>by rw[agL EL (by omega)]at h;cases h);obtain⟨N,hN⟩:∃N,N=t.size:=⟨_,rfl⟩;rw[<-hN]at H3 hts;have H3':=qz H3;clear E1 hr hl hokL hlen H3 EL hms hN
      go_enter func69,ntmps69
      go_wp2_with fail;refine(H1.out _).mono ?_;rintro e w1 ⟨rfl,rfl⟩;go_wp2_with fail;refine(H2.out _).mono ?_;rintro e w1 ⟨rfl,rfl⟩;go_wp2_with fail;refine(H3'.out _).mono ?_;rintro e w1 ⟨rfl,bl⟩;go_wp2_with fail;go_ret;exact⟨by rw[HG.out];exact abU (a:=decide ((N:Int)<=60)) (by simp;omega),bl⟩
    ·have HG:Hid (aeq s=false):=adF (fun t' h=>by
      have:=(ano h).1;rw[E1]at this
      have h5:=congrArg (Option.map (fun x:Tm × List UInt8=>x.2.length)) this
      simp at h5
      omega)
     have t1:((m:Int)==(s.size:Int))=false:=by rw[beq_eq_false_iff_ne];omega
     clear E1 hms
     go_enter func69,ntmps69
     go_wp2_with fail;refine(H1.out _).mono ?_;rintro e w1 ⟨rfl,rfl⟩;go_wp2_with fail;refine(H2.out _).mono ?_;rintro e w1 ⟨rfl,rfl⟩;go_wp2_with fail;go_ret;exact⟨by rw[HG.out];rfl,Below.refl _ _⟩
 ·have HG:Hid (aeq s=false):=adF (fun t h=>by have:=(adE h).1;rw[HL.out]at this;omega)
  go_enter func69,ntmps69
  go_wp2_with fail;go_ret;exact⟨by rw[HG.out];rfl,Below.refl _ _⟩
end Go.Proofs.YtihmcgcgjmbmhaaGreat.T1
