/- Texts of the proof. No conditions. -/
import Derived.Test.YtalegefnppbkdaaGreatQab
import Derived.RegionTactic
import Derived.BigRegion
import Derived.IntWalk
namespace Go.Proofs.YtalegefnppbkdaaGreat.T1
open Go.Proofs.Tryz
set_option maxHeartbeats 1000000
open Go.RowKit
set_option maxRecDepth 100000
def S (t:Tm):ByteArray:=⟨t.pr.toArray⟩
theorem aaN (t:Tm):(S t).data.toList=t.pr:=rfl
theorem aan (t:Tm):(S t).size=t.pr.length:=by simp[S,ByteArray.size]
theorem abh {s:ByteArray}{l:List UInt8}(h:s.data.toList=l)(i:Nat)(hi:i<s.size)(hl:i<l.length):s[i]=l[i]:=by
 subst h;rfl
theorem abo {s:ByteArray}{l:List UInt8}(h:s.data.toList=l):s.size=l.length:=by subst h;simp
theorem amp {s:ByteArray}{p:Tm}{m:UInt8}{r:List UInt8}(h:s.data.toList=40::(p.pr++m::r))(ho:p.ok nmE=true):aa5 nmE s 1=((p.pr.length+1:Nat):Int):=by
 have he:E nmE (s.data.toList.drop 1)=some (p,m::r):=(aa9 nmE_nm).2 ⟨by rw[h];simp,ho⟩;unfold aa5;rw[he];have:=abo h;simp at this
 simp only[List.length_cons];omega
theorem auo {s:ByteArray}{p:Tm}{m:UInt8}{r:List UInt8}(h:s.data.toList=40::(p.pr++m::r))(hi:p.pr.length+1<s.size):s[p.pr.length+1]=m:=by
 rw[abh h _ hi (by rw[abo h]at hi;exact hi)];simp
theorem apB (s:ByteArray)(w:World)(hs:s.size<=700)(h:s.data.toList=[48]) : Calls prog 71 #[.string s] w fun e w'=>e=.returned (.int .u8 48)/\w=w':=by
 have z:=abo h;simp only[List.length_cons]at z;have hz:0<s.size:=by omega
 have c0:(s[0].toNat:Int)=48:=by rw[abh h 0 hz (by simp)];rfl
 have Hc:=qz c0;have b48:((s[0].toNat:Int)==48)=true:=by rw[c0];rfl
 clear c0
 go_enter func71,ntmps71
 go_wp2_with fail;go_ret;exact⟨aaK Hc.out,rfl⟩
theorem apC (r:List UInt8)(s:ByteArray)(w:World)(hs:s.size<=700)(h:s.data.toList=42::r) : Calls prog 71 #[.string s] w fun e w'=>e=.returned (.int .u8 42)/\w=w':=by
 have z:=abo h;simp only[List.length_cons]at z;have hz:0<s.size:=by omega
 have c0:(s[0].toNat:Int)=42:=by rw[abh h 0 hz (by simp)];rfl
 have Hc:=qz c0;have b48:((s[0].toNat:Int)==48)=false:=by rw[c0];rfl
 have b42:((s[0].toNat:Int)==42)=true:=by rw[c0];rfl
 clear c0
 go_enter func71,ntmps71
 go_wp2_with fail;go_ret;exact⟨aaK Hc.out,rfl⟩
theorem apD (r:List UInt8)(s:ByteArray)(w:World)(hs:s.size<=700)(h:s.data.toList=126::r) : Calls prog 71 #[.string s] w fun e w'=>e=.returned (.int .u8 126)/\w=w':=by
 have z:=abo h;simp only[List.length_cons]at z;have hz:0<s.size:=by omega
 have c0:(s[0].toNat:Int)=126:=by rw[abh h 0 hz (by simp)];rfl
 have Hc:=qz c0;have b48:((s[0].toNat:Int)==48)=false:=by rw[c0];rfl
 have b42:((s[0].toNat:Int)==42)=false:=by rw[c0];rfl
 have b126:((s[0].toNat:Int)==126)=true:=by rw[c0];rfl
 clear c0
 go_enter func71,ntmps71
 go_wp2_with fail;go_ret;exact⟨aaK Hc.out,rfl⟩
theorem apE (r:List UInt8)(s:ByteArray)(w:World)(hs:s.size<=700)(h:s.data.toList=35::r) : Calls prog 71 #[.string s] w fun e w'=>e=.returned (.int .u8 35)/\w=w':=by
 have z:=abo h;simp only[List.length_cons]at z;have hz:0<s.size:=by omega
 have c0:(s[0].toNat:Int)=35:=by rw[abh h 0 hz (by simp)];rfl
 have Hc:=qz c0;have b48:((s[0].toNat:Int)==48)=false:=by rw[c0];rfl
 have b42:((s[0].toNat:Int)==42)=false:=by rw[c0];rfl
 have b126:((s[0].toNat:Int)==126)=false:=by rw[c0];rfl
 have b35:((s[0].toNat:Int)==35)=true:=by rw[c0];rfl
 clear c0
 go_enter func71,ntmps71
 go_wp2_with fail;go_ret;exact⟨aaK Hc.out,rfl⟩
theorem apF (r:List UInt8)(s:ByteArray)(w:World)(hs:s.size<=700)(h:s.data.toList=91::r) : Calls prog 71 #[.string s] w fun e w'=>e=.returned (.int .u8 61)/\w=w':=by
 have z:=abo h;simp only[List.length_cons]at z;have hz:0<s.size:=by omega
 have c0:(s[0].toNat:Int)=91:=by rw[abh h 0 hz (by simp)];rfl
 have b48:((s[0].toNat:Int)==48)=false:=by rw[c0];rfl
 have b42:((s[0].toNat:Int)==42)=false:=by rw[c0];rfl
 have b126:((s[0].toNat:Int)==126)=false:=by rw[c0];rfl
 have b35:((s[0].toNat:Int)==35)=false:=by rw[c0];rfl
 have b91:((s[0].toNat:Int)==91)=true:=by rw[c0];rfl
 clear c0
 go_enter func71,ntmps71
 go_wp2_with fail;go_ret;exact⟨rfl,rfl⟩
theorem ajw (a m:UInt8)(r:List UInt8)(s:ByteArray)(w:World)(hs:s.size<=700)(h:s.data.toList=a::m::r)(ha:nmE a=true) : Calls prog 71 #[.string s] w fun e w'=>e=.returned (.int .u8 (m.toNat:Int))/\w=w':=by
 have z:=abo h;simp only[List.length_cons]at z;have hz:1<s.size:=by omega
 have hq:=nmE_nm a ha;have hk:(s[1].toNat:Int)=(m.toNat:Int):=by rw[abh h 1 hz (by simp)];rfl
 have e0:s[0]=a:=by rw[abh h 0 (by omega) (by simp)];rfl
 have b48:((s[0].toNat:Int)==48)=false:=by rw[beq_eq_false_iff_ne,e0];intro h';exact hq.1 (by rw[<-UInt8.toNat_inj];simp;omega)
 have b42:((s[0].toNat:Int)==42)=false:=by rw[beq_eq_false_iff_ne,e0];intro h';exact hq.2.1 (by rw[<-UInt8.toNat_inj];simp;omega)
 have b126:((s[0].toNat:Int)==126)=false:=by rw[beq_eq_false_iff_ne,e0];intro h';exact hq.2.2.1 (by rw[<-UInt8.toNat_inj];simp;omega)
 have b35:((s[0].toNat:Int)==35)=false:=by rw[beq_eq_false_iff_ne,e0];intro h';exact hq.2.2.2.1 (by rw[<-UInt8.toNat_inj];simp;omega)
 have b91:((s[0].toNat:Int)==91)=false:=by rw[beq_eq_false_iff_ne,e0];intro h';exact hq.2.2.2.2.1 (by rw[<-UInt8.toNat_inj];simp;omega)
 have b40:((s[0].toNat:Int)==40)=false:=by rw[beq_eq_false_iff_ne,e0];intro h';exact hq.2.2.2.2.2 (by rw[<-UInt8.toNat_inj];simp;omega)
 have Hk:=qz hk;clear hq e0 hk
 go_enter func71,ntmps71
 go_wp2_with fail;go_ret;exact⟨aaK Hk.out,rfl⟩
theorem ahJ (p:Tm)(m:UInt8)(r:List UInt8)(s:ByteArray)(w:World)(hs:s.size<=700)(h:s.data.toList=40::(p.pr++m::r))(ho:p.ok nmE=true) : Calls prog 71 #[.string s] w fun e w'=>e=.returned (.int .u8 (m.toNat:Int))/\w=w':=by
 have z:=abo h;simp only[List.length_cons,lla]at z;have hz:0<s.size:=by omega
 have hm:p.pr.length+1<s.size:=by omega
 have c0:(s[0].toNat:Int)=40:=by rw[abh h 0 hz (by simp)];rfl
 have b48:((s[0].toNat:Int)==48)=false:=by rw[c0];rfl
 have b42:((s[0].toNat:Int)==42)=false:=by rw[c0];rfl
 have b126:((s[0].toNat:Int)==126)=false:=by rw[c0];rfl
 have b35:((s[0].toNat:Int)==35)=false:=by rw[c0];rfl
 have b91:((s[0].toNat:Int)==91)=false:=by rw[c0];rfl
 have b40:((s[0].toNat:Int)==40)=true:=by rw[c0];rfl
 have hc:=aeT s hs 710 1 w (by omega) (by omega);rw[amp h ho]at hc;obtain⟨k,hk'⟩:∃k,k=p.pr.length:=⟨_,rfl⟩;rw[<-hk']at hc;have hm':k+1<s.size:=by omega
 have hk:(s[k+1].toNat:Int)=(m.toNat:Int):=by subst hk';rw[auo h hm']
 have HC:Hid (Calls prog 79 #[.string s,.int .i64 1] w fun e w'=>e=.returned (.int .i64 ((k:Int)+1))/\w=w'):=hc;have Hk:=qz hk;clear c0 hk hc hm z hk' h
 go_enter func71,ntmps71
 go_wp2_with fail;refine(HC.out).mono ?_;rintro e w' ⟨rfl,rfl⟩;go_wp2_with fail;go_ret;exact⟨aaK Hk.out,rfl⟩
theorem aad (t:Tm)(ho:t.ok nmE=true)(hl:t.pr.length<=700)(w:World):Calls prog 71 #[.string (S t)] w fun e w'=>e=.returned (.int .u8 (t.kind.toNat:Int))/\w=w':=by
 have hs:(S t).size<=700:=by rw[aan];exact hl
 cases t with
 | nil=>exact apB _ w hs rfl
 | snd a b p=>simp only[Tm.ok,bae]at ho;exact ajw a 33 _ _ w hs rfl ho.1.1
 | rcv a b p=>simp only[Tm.ok,bae]at ho;exact ajw a 63 _ _ w hs rfl ho.1.1
 | tau p=>exact apD _ _ w hs rfl
 | sum p q=>simp only[Tm.ok,bae]at ho;exact ahJ p 43 _ _ w hs rfl ho.1
 | par p q=>simp only[Tm.ok,bae]at ho;exact ahJ p 38 _ _ w hs rfl ho.1
 | own x p=>exact apE _ _ w hs rfl
 | mat a b p=>exact apF _ _ w hs rfl
 | rep p=>exact apC _ _ w hs rfl
def Tm.hd:Tm->Nat
 | .rep _=>1
 | .sum _ _=>1
 | .par _ _=>1
 | .tau _=>2
 | .own _ _=>3
 | .mat _ _ _=>5
 | _=>4
theorem aag (w:World)(o:Obj):(w.alloc o).heap[w.heap.size]?=some o:=by
 show (w.heap.push o)[w.heap.size]?=_;rw[Array.getElem?_push,if_pos rfl]
theorem ad4 (t:Tm)(ho:t.ok nmE=true)(hl:t.pr.length<=700)(w:World):Calls prog 97 #[.string (S t)] w fun e w'=>e=.returned (.int .i64 (t.hd:Nat))/\w=w':=by
 have HK:=aad t ho hl w;obtain⟨s,hs⟩:∃s,s=S t:=⟨_,rfl⟩;rw[<-hs]at HK ⊢;clear hs hl ho
 cases t
 all_goals
  simp only[Tm.kind,Tm.hd]at HK ⊢;have H:=qz HK;clear HK
  go_enter func97,ntmps97
  go_wp2_with fail;refine(H.out).mono ?_;rintro e w' ⟨rfl,rfl⟩;go_wp2_with fail;go_ret;exact⟨rfl,rfl⟩
def PartsS (ps:List Tm)(w:World)(e:Ending)(w':World):Prop:=
 match ps with
 | []=>e=.returned (.slice none 0 0)/\Zb w w'
 | [p]=>∃b,e=.returned (.slice (some ⟨b,0,none⟩) 1 1)/\w.heap.size<=b/\w'.heap[b]?=some (.cells #[.string (S p)] 9 (0,0))/\Zb w w'
 | [p,q]=>∃b,e=.returned (.slice (some ⟨b,0,none⟩) 2 2)/\w.heap.size<=b/\w'.heap[b]?=some (.cells #[.string (S p),.string (S q)] 9 (0,0))/\Zb w w'
 | _=>False
theorem amq {s:ByteArray}{l:List UInt8}(h:s.data.toList=l)(i j:Nat)(t:Tm)(ht:(l.drop i).take (j - i)=t.pr):s.extract i j=S t:=by
 apply ByteArray.ext
 apply Array.ext'
 show (s.extract i j).data.toList=t.pr;rw[<-ht,<-h];simp[ByteArray.data_extract,Array.toList_extract]
theorem acn (t p:Tm)(w:World)(_hs:(S t).size<=700)(hd:t.hd<(S t).size)(hx:(S t).extract t.hd (S t).size=S p)(hk:t.kind≠48/\t.kind≠43/\t.kind≠38) (HK:Ze 71 #[.string (S t)] (.int .u8 (t.kind.toNat:Int)))(HH:Ze 97 #[.string (S t)] (.int .i64 (t.hd:Nat))) : Calls prog 72 #[.string (S t)] w (PartsS [p] w):=by
 have b1:((t.kind.toNat:Int)==48)=false:=by rw[beq_eq_false_iff_ne];intro h';exact hk.1 (by rw[<-UInt8.toNat_inj];simp;omega)
 have b2:((t.kind.toNat:Int)==43)=false:=by rw[beq_eq_false_iff_ne];intro h';exact hk.2.1 (by rw[<-UInt8.toNat_inj];simp;omega)
 have b3:((t.kind.toNat:Int)==38)=false:=by rw[beq_eq_false_iff_ne];intro h';exact hk.2.2 (by rw[<-UInt8.toNat_inj];simp;omega)
 obtain⟨s,es⟩:∃s,s=S t:=⟨_,rfl⟩;obtain⟨v,ev⟩:∃v,v=S p:=⟨_,rfl⟩;obtain⟨n,en⟩:∃n,n=t.hd:=⟨_,rfl⟩;obtain⟨k,ek⟩:∃k,k=(t.kind.toNat:Int):=⟨_,rfl⟩;rw[<-es,<-en]at hd;rw[<-es]at _hs;rw[<-es,<-en,<-ev]at hx;rw[<-ek]at b1 b2 b3;have HK2:Hid (Ze 71 #[.string s] (.int .u8 k)):=by rw[es,ek];exact HK
 have HH2:Hid (Ze 97 #[.string s] (.int .i64 (n:Nat))):=by rw[es,en];exact HH
 have EV:=qz ev;rw[<-es];clear es ev en ek HK HH hk
 go_enter func72,ntmps72
 go_wp2_with fail;refine(HK2.out _).mono ?_;rintro e w' ⟨rfl,rfl⟩;go_wp2_with fail;refine(HH2.out _).mono ?_;rintro e w' ⟨rfl,rfl⟩;go_wp2_with fail;go_ret;exact⟨_,rfl,nl _,by rw[<-EV.out];exact aag _ _,bra⟩
theorem akK (w:World):Calls prog 72 #[.string (S .nil)] w (PartsS [] w):=by
 have HK:=aad .nil rfl (by simp[Tm.pr]);obtain⟨s,es⟩:∃s,s=S .nil:=⟨_,rfl⟩;have HK2:Hid (Ze 71 #[.string s] (.int .u8 48)):=by rw[es];exact HK
 rw[<-es];clear es HK
 go_enter func72,ntmps72
 go_wp2_with fail;refine(HK2.out _).mono ?_;rintro e w' ⟨rfl,rfl⟩;go_wp2_with fail;go_ret;exact⟨rfl,Below.refl _ _⟩
theorem ahK (t p q:Tm)(m:Int)(w:World)(hs:(S t).size<=700)(hm:m=43\/m=38)(hsz:(S t).size=p.pr.length+q.pr.length+3)(hx:(S t).extract 1 (p.pr.length+1)=S p)(hy:(S t).extract (p.pr.length+1+1) ((S t).size - 1)=S q) (HK:Ze 71 #[.string (S t)] (.int .u8 m))(HE:Ze 79 #[.string (S t),.int .i64 1] (.int .i64 ((p.pr.length+1:Nat):Int))) : Calls prog 72 #[.string (S t)] w (PartsS [p,q] w):=by
 have T:((m==43)=true/\(m==48)=false)\/((m==43)=false/\(m==48)=false/\(m==38)=true):=by rcases hm with rfl|rfl<;>decide
 obtain⟨s,es⟩:∃s,s=S t:=⟨_,rfl⟩;obtain⟨v,ev⟩:∃v,v=S p:=⟨_,rfl⟩;obtain⟨u,eu⟩:∃u,u=S q:=⟨_,rfl⟩;obtain⟨k,ek⟩:∃k,k=p.pr.length:=⟨_,rfl⟩;rw[<-es]at hs hsz;rw[<-es,<-ev,<-ek]at hx;rw[<-es,<-eu,<-ek]at hy;have h1:k+2<=s.size - 1:=by omega
 have h2:3<=s.size:=by omega
 have HK2:Hid (Ze 71 #[.string s] (.int .u8 m)):=by rw[es];exact HK
 have HE2:Hid (Ze 79 #[.string s,.int .i64 1] (.int .i64 ((k:Int)+1))):=by rw[es,ek];exact HE
 have EV:=qz ev;have EU:=qz eu;rw[<-es];clear es ev eu ek HK HE hm hsz;have w1:IntKind.i64.wrap ((k:Int)+1+1)=(k:Int)+1+1:=IntWalk.i64_in _ (by omega);have w2:IntKind.i64.wrap ((s.size:Int) - 1)=(s.size:Int) - 1:=IntWalk.i64_in _ (by omega);rcases T with⟨T1,T2⟩|⟨T1,T2,T3⟩
 all_goals
  go_enter func72,ntmps72
  go_wp2_with fail;refine(HK2.out _).mono ?_;rintro e w' ⟨rfl,rfl⟩;go_wp2_with fail;refine(HE2.out _).mono ?_;rintro e w' ⟨rfl,rfl⟩;go_wp2_with fail
  go_region
  all_goals go_wp2_with fail
  all_goals go_ret
  all_goals exact⟨_,rfl,nl _,by rw[<-EV.out,<-EU.out];exact aag _ _,(bra).drew⟩
theorem asd (l:List UInt8)(n:Nat)(h:l.length<=n):l.take n=l:=List.take_of_length_le h
theorem abz {t p:Tm}{pre:List UInt8}(h:t.pr=pre++p.pr):(S t).extract pre.length (S t).size=S p:=
 amq (aaN t) _ _ p (by rw[h,List.drop_left,aan,h,lla];exact asd _ _ (by omega))
theorem aup {t p:Tm}{m:UInt8}{r:List UInt8}(h:t.pr=40::(p.pr++m::r)):(S t).extract 1 (p.pr.length+1)=S p:=
 amq (aaN t) _ _ p (by rw[h,List.drop_succ_cons,List.drop_zero,Nat.add_sub_cancel,List.take_left])
theorem auq {t p q:Tm}{m:UInt8}(h:t.pr=40::(p.pr++m::(q.pr++[41]))):(S t).extract (p.pr.length+1+1) ((S t).size - 1)=S q:=
 amq (aaN t) _ _ q (by
  have e:t.pr=(40::p.pr++[m])++(q.pr++[41]):=by rw[h];simp
  have l1:(40::p.pr++[m]).length=p.pr.length+1+1:=by simp
  rw[aan,e,<-l1,List.drop_left,lla];have:(40::p.pr++[m]).length+(q.pr++[41]).length - 1 - (40::p.pr++[m]).length=q.pr.length:=by simp
  rw[this,List.take_left])
theorem ajx {t p:Tm}{m:UInt8}{r:List UInt8}(h:t.pr=40::(p.pr++m::r))(ho:p.ok nmE=true)(hl:t.pr.length<=700)(w:World) : Calls prog 79 #[.string (S t),.int .i64 1] w fun e w'=>e=.returned (.int .i64 ((p.pr.length+1:Nat):Int))/\w=w':=by
 have hc:=aeT (S t) (by rw[aan];exact hl) 710 1 w (by omega) (by omega);rw[amp (s:=S t) h ho]at hc;exact hc
theorem aaf (t:Tm)(ho:t.ok nmE=true)(hl:t.pr.length<=700)(w:World):Calls prog 72 #[.string (S t)] w (PartsS t.parts w):=by
 have hs:(S t).size<=700:=by rw[aan];exact hl
 have HK:=aad t ho hl;have HH:=ad4 t ho hl;have hz:=aan t
 cases t with
 | nil=>exact akK w
 | snd a b p=>exact acn _ p w hs (by rw[hz];have:=pr_pos p;simp[Tm.pr,Tm.hd];omega) (abz (pre:=[a,33,b,46]) rfl) (by simp only[Tm.kind];decide) HK HH
 | rcv a b p=>exact acn _ p w hs (by rw[hz];have:=pr_pos p;simp[Tm.pr,Tm.hd];omega) (abz (pre:=[a,63,b,46]) rfl) (by simp only[Tm.kind];decide) HK HH
 | tau p=>exact acn _ p w hs (by rw[hz];have:=pr_pos p;simp[Tm.pr,Tm.hd];omega) (abz (pre:=[126,46]) rfl) (by simp only[Tm.kind];decide) HK HH
 | sum p q=>
  simp only[Tm.ok,bae]at ho;exact ahK _ p q 43 w hs (.inl rfl) (by rw[hz];simp[Tm.pr];omega) (aup rfl) (auq rfl) HK (ajx rfl ho.1 hl)
 | par p q=>
  simp only[Tm.ok,bae]at ho;exact ahK _ p q 38 w hs (.inr rfl) (by rw[hz];simp[Tm.pr];omega) (aup rfl) (auq rfl) HK (ajx rfl ho.1 hl)
 | own x p=>exact acn _ p w hs (by rw[hz];have:=pr_pos p;simp[Tm.pr,Tm.hd];omega) (abz (pre:=[35,x,46]) rfl) (by simp only[Tm.kind];decide) HK HH
 | mat a b p=>exact acn _ p w hs (by rw[hz];have:=pr_pos p;simp[Tm.pr,Tm.hd];omega) (abz (pre:=[91,a,61,b,93]) rfl) (by simp only[Tm.kind];decide) HK HH
 | rep p=>exact acn _ p w hs (by rw[hz];have:=pr_pos p;simp[Tm.pr,Tm.hd];omega) (abz (pre:=[42]) rfl) (by simp only[Tm.kind];decide) HK HH
end Go.Proofs.YtalegefnppbkdaaGreat.T1
