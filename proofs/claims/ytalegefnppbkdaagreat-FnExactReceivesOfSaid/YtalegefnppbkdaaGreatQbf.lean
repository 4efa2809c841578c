/- Texts of the proof. No conditions. -/
import Derived.Test.YtalegefnppbkdaaGreatQav
namespace Go.Proofs.YtalegefnppbkdaaGreat.T1
open Go.Proofs.Tryz
set_option maxHeartbeats 4000000
open Go.RowKit
set_option maxRecDepth 100000
set_option linter.unusedVariables false
set_option linter.unusedSimpArgs false
theorem aqL (s:ByteArray)(hs:4<=s.size)(hs3:s.size<=700)(HK:Ze 71 #[.string s] (.int .u8 33))(w:World):Calls prog 143 #[.string s] w fun e w'=>e=.returned (.string (s.extract 0 1++s.extract 2 3))/\Zb w w':=by
 have H:=qz HK;clear HK
 go_enter func143,ntmps143
 go_wp2_with fail;refine(H.out _).mono ?_;rintro e w1 ⟨rfl,rfl⟩;go_wp2_with fail
 go_quiet (fail)
 go_wp2_with fail;go_ret;exact⟨rfl,aaj (Below.refl _ _) _⟩
theorem aqM (s:ByteArray)(hs:4<=s.size)(hs3:s.size<=700)(HK:Ze 71 #[.string s] (.int .u8 61))(w:World):Calls prog 143 #[.string s] w fun e w'=>e=.returned (.string (s.extract 1 2++s.extract 3 4))/\Zb w w':=by
 have H:=qz HK;clear HK
 go_enter func143,ntmps143
 go_wp2_with fail;refine(H.out _).mono ?_;rintro e w1 ⟨rfl,rfl⟩;go_wp2_with fail
 go_quiet (fail)
 go_wp2_with fail;go_ret;exact⟨rfl,aaj (Below.refl _ _) _⟩
theorem avB (s:ByteArray)(hs:4<=s.size)(hs3:s.size<=700)(HK:Ze 71 #[.string s] (.int .u8 63))(w:World):Calls prog 143 #[.string s] w fun e w'=>e=.returned (.string (s.extract 0 1))/\Zb w w':=by
 have H:=qz HK;clear HK
 go_enter func143,ntmps143
 go_wp2_with fail;refine(H.out _).mono ?_;rintro e w1 ⟨rfl,rfl⟩;go_wp2_with fail;go_ret;exact⟨rfl,Below.refl _ _⟩
theorem alE (s:ByteArray)(kd:Int)(b0:(kd==33)=false)(b1:(kd==63)=false)(b2:(kd==61)=false)(HK:Ze 71 #[.string s] (.int .u8 kd))(w:World):Calls prog 143 #[.string s] w fun e w'=>e=.returned (.string ⟨#[]⟩)/\Zb w w':=by
 have H:=qz HK;clear HK
 go_enter func143,ntmps143
 go_wp2_with fail;refine(H.out _).mono ?_;rintro e w1 ⟨rfl,rfl⟩;go_wp2_with fail;go_ret;exact⟨rfl,Below.refl _ _⟩
theorem afv (t:Tm)(i:Nat)(h:i<t.pr.length):(S t).extract i (i+1)=B [t.pr[i]]:=by
 apply apw
 rw[ByteArray.data_extract,Array.toList_extract,aaN,List.extract_eq_take_drop,show i+1 - i=1 by omega,List.drop_eq_getElem_cons h];rfl
theorem avC (l m:List UInt8):B l++B m=B (l++m):=by
 apply apw
 rw[ByteArray.data_append,Array.toList_append,aaE,aaE]
theorem aji (t:Tm)(ho:t.ok nmE=true)(hl:t.pr.length<=700)(w:World):Calls prog 143 #[.string (S t)] w fun e w'=>e=.returned (.string (B t.used))/\Zb w w':=by
 have HK:=aad t ho hl;have hs3:(S t).size<=700:=by rw[aan];exact hl
 cases t with
 | snd a b p=>
  have h:=aqL _ (by rw[aan];simp[Tm.pr]) hs3 HK w;rw[afv _ 0 (by simp[Tm.pr]),afv _ 2 (by simp[Tm.pr]),avC]at h;exact h
 | mat a b p=>
  have h:=aqM _ (by rw[aan];simp[Tm.pr]) hs3 HK w;rw[afv _ 1 (by simp[Tm.pr]),afv _ 3 (by simp[Tm.pr]),avC]at h;exact h
 | rcv a x p=>
  have h:=avB _ (by rw[aan];simp[Tm.pr]) hs3 HK w;rw[afv _ 0 (by simp[Tm.pr])]at h;exact h
 | nil=>exact alE _ 48 (by decide) (by decide) (by decide) HK w
 | tau p=>exact alE _ 126 (by decide) (by decide) (by decide) HK w
 | sum p q=>exact alE _ 43 (by decide) (by decide) (by decide) HK w
 | par p q=>exact alE _ 38 (by decide) (by decide) (by decide) HK w
 | own x p=>exact alE _ 35 (by decide) (by decide) (by decide) HK w
 | rep p=>exact alE _ 42 (by decide) (by decide) (by decide) HK w
theorem aat {u v w:World}(h:Zb u v)(k:Zb v w):Zb u w:=aab h k h.size
def aix:Value->ByteArray
 | .string s=>s
 | _=>⟨#[]⟩
theorem atk (c:UInt8)(n:Nat)(hn:n<256)(h:c≠UInt8.ofNat n):(((c.toNat:Nat):Int)==(n:Int))=false:=by
 rw[beq_eq_false_iff_ne];intro e;exact h (u8_ext (by rw[UInt8.toNat_ofNat'];omega))
theorem ajj (t:Tm)(h:t.kind=61):∃a b p,t=.mat a b p:=by
 cases t<;>simp[Tm.kind]at h
 exact⟨_,_,_,rfl⟩
theorem aoJ (t:Tm)(h:t.kind≠61):t.strip=t:=by cases t<;>first|rfl|(exact absurd rfl h)
theorem avD (t p:Tm)(k:Nat)(h:t.parts=[p])(hk:t.hd=k):(S t).extract k (S t).size=S p:=by
 subst hk;refine amq (aaN t) _ _ p ?_;rw[aan]
 cases t<;>simp[Tm.parts]at h<;>subst h<;>simp[Tm.pr,Tm.hd]
theorem adv (t:Tm)(ho:t.ok nmE=true)(hl:t.pr.length<=700)(w:World):Calls prog 141 #[.string (S t)] w fun e w'=>e=.returned (.string (S t.strip))/\Zb w w':=by
 obtain⟨X0,hX0⟩:∃X,X=S t:=⟨_,rfl⟩;rw[<-hX0];have HX0:=qz hX0;have HO:=qz ho;have HL:=qz hl;clear hX0 ho hl
 go_enter func141,ntmps141
 go_wp2_with fail
 go_loopw [0] (fun v wr=>∃(u:Tm) (X:ByteArray),v=.string X/\Hid (X=S u)/\Hid (u.ok nmE=true)/\Hid (u.pr.length<=700)/\Hid (u.strip=t.strip)/\Zb w wr) (fun v _=>(aix v).size)
 case atStart=>exact⟨t,X0,rfl,HX0,HO,HL,rfl,Below.refl _ _⟩
 case round=>
  obtain⟨u,X,rfl,hX,hu,hul,hs,hbw⟩:=hrel;have hK:Ze 71 #[.string X] (.int .u8 (u.kind.toNat:Int)):=by rw[hX.out];exact aad u hu.out hul.out
  have hx3:X.size<=700:=by rw[hX.out,aan];exact hul.out
  by_cases hk:u.kind=61
  ·obtain⟨a,b,p,rfl⟩:=ajj u hk;have HK:Hid (Ze 71 #[.string X] (.int .u8 61)):=hK;have hsz:5<X.size:=by rw[hX.out,aan];have:=pr_pos p;simp[Tm.pr];omega
   have h1:1<X.size:=by omega
   have h3:3<X.size:=by omega
   have e1:X[1]'h1=a:=by
    have:=ajZ (.mat a b p) 1 (by rw[<-hX.out];exact h1);simp only[hX.out];exact this
   have e3:X[3]'h3=b:=by
    have:=ajZ (.mat a b p) 3 (by rw[<-hX.out];exact h3);simp only[hX.out];exact this
   have hi1:(1:Int)<(X.size:Int):=by omega
   have hi3:(3:Int)<(X.size:Int):=by omega
   have hi5:(5:Int)<=(X.size:Int):=by omega
   have q:(((X[1]'h1).toNat:Int)==((X[3]'h3).toNat:Int))=decide (a=b):=by rw[e1,e3,b8_beq]
   by_cases hab:a=b
   ·rw[decide_eq_true hab]at q;have hP:Hid (X.extract 5 X.size=S p):=by show _=_;rw[hX.out];exact avD (.mat a b p) p 5 rfl rfl
    have hs2:Hid (p.strip=t.strip):=by have:=hs.out;simp only[Tm.strip]at this;rw[if_pos hab]at this;exact this
    have ho2:Hid (p.ok nmE=true):=by have:=hu.out;simp only[Tm.ok,bae]at this;exact this.2
    have hl2:Hid (p.pr.length<=700):=by have:=hul.out;simp only[Tm.pr,List.length_cons]at this;show _<=_;omega
    have hms:(X.extract 5 X.size).size<X.size:=by simp;omega
    clear hK hk e1 e3 hab hs hul hu;go_wp2_with fail
    go_quiet ((go_at_call 71;exact Calls.quiet_of_same ((HK.out _).mono fun _ _ hh=>⟨hh.1,hh.2.symm⟩)))
    go_wp2_with fail
    go_roundw
    case rel=>exact⟨p,_,rfl,hP,ho2,hl2,hs2,aaj hbw _⟩
    case measure=>simp[aix];omega
   ·rw[decide_eq_false hab]at q
    have hs2:Hid (X=S t.strip):=by
     have:=hs.out;simp only[Tm.strip]at this;rw[if_neg hab]at this
     show _=_;rw[<-this];exact hX.out
    clear hK hk e1 e3 hab hs hul hu;go_wp2_with fail
    go_quiet ((go_at_call 71;exact Calls.quiet_of_same ((HK.out _).mono fun _ _ hh=>⟨hh.1,hh.2.symm⟩)))
    go_wp2_with fail;go_ret;exact⟨by rw[<-hs2.out];rfl,aaj hbw _⟩
  ·have hs2:Hid (X=S t.strip):=by
    have:=hs.out;rw[aoJ u hk]at this
    show _=_;rw[<-this];exact hX.out
   obtain⟨kd,hkd⟩:∃kd,kd=((u.kind.toNat:Nat):Int):=⟨_,rfl⟩;have b1:(kd==61)=false:=by rw[hkd];exact atk _ 61 (by decide) hk
   rw[<-hkd]at hK;have HK:=qz hK;clear hK hk hkd hs hul hu;go_wp2_with fail
   go_quiet ((go_at_call 71;exact Calls.quiet_of_same ((HK.out _).mono fun _ _ hh=>⟨hh.1,hh.2.symm⟩)))
   go_wp2_with fail;go_ret;exact⟨by rw[<-hs2.out];rfl,aaj hbw _⟩
theorem axw (s0 s:ByteArray)  (HS:Zr 141 #[.string s0] (.string s))(HK:Ze 71 #[.string s] (.int .u8 48))(w:World):Calls prog 142 #[.string s0] w fun e w'=>e=.returned (.bool true)/\Zb w w':=by
 have HS':=qz HS;have HK':=qz HK;clear HS HK
 go_enter func142,ntmps142
 go_wp2_with fail;refine(HS'.out _).mono ?_;rintro e w1 ⟨rfl,b1⟩;go_wp2_with fail;refine(HK'.out _).mono ?_;rintro e w2 ⟨rfl,rfl⟩;go_wp2_with fail;go_ret;exact⟨rfl,b1⟩
theorem avE (s0 s:ByteArray)  (HS:Zr 141 #[.string s0] (.string s))(HK:Ze 71 #[.string s] (.int .u8 33))(w:World):Calls prog 142 #[.string s0] w fun e w'=>e=.returned (.bool false)/\Zb w w':=by
 have HS':=qz HS;have HK':=qz HK;clear HS HK
 go_enter func142,ntmps142
 go_wp2_with fail;refine(HS'.out _).mono ?_;rintro e w1 ⟨rfl,b1⟩;go_wp2_with fail;refine(HK'.out _).mono ?_;rintro e w2 ⟨rfl,rfl⟩;go_wp2_with fail;go_ret;exact⟨rfl,b1⟩
theorem avF (s0 s:ByteArray)  (HS:Zr 141 #[.string s0] (.string s))(HK:Ze 71 #[.string s] (.int .u8 63))(w:World):Calls prog 142 #[.string s0] w fun e w'=>e=.returned (.bool false)/\Zb w w':=by
 have HS':=qz HS;have HK':=qz HK;clear HS HK
 go_enter func142,ntmps142
 go_wp2_with fail;refine(HS'.out _).mono ?_;rintro e w1 ⟨rfl,b1⟩;go_wp2_with fail;refine(HK'.out _).mono ?_;rintro e w2 ⟨rfl,rfl⟩;go_wp2_with fail;go_ret;exact⟨rfl,b1⟩
theorem atl (s0 s:ByteArray)  (HS:Zr 141 #[.string s0] (.string s))(HK:Ze 71 #[.string s] (.int .u8 126))(w:World):Calls prog 142 #[.string s0] w fun e w'=>e=.returned (.bool false)/\Zb w w':=by
 have HS':=qz HS;have HK':=qz HK;clear HS HK
 go_enter func142,ntmps142
 go_wp2_with fail;refine(HS'.out _).mono ?_;rintro e w1 ⟨rfl,b1⟩;go_wp2_with fail;refine(HK'.out _).mono ?_;rintro e w2 ⟨rfl,rfl⟩;go_wp2_with fail;go_ret;exact⟨rfl,b1⟩
theorem atm (s0 s:ByteArray)(kd:Int)(k0:(kd==48)=false)(k1:(kd==33)=false)(k2:(kd==63)=false)(k3:(kd==126)=false)(u:ByteArray)(HS:Zr 141 #[.string s0] (.string s))(HK:Ze 71 #[.string s] (.int .u8 kd))(HP:∀w,Calls prog 72 #[.string s] w fun e w'=>∃b,e=.returned (.slice (some ⟨b,0,none⟩) 1 1)/\w.heap.size<=b/\w'.heap[b]?=some (.cells #[.string u] 9 (0,0))/\Zb w w')(H0:Zr 142 #[.string u] (.bool true))(w:World):Calls prog 142 #[.string s0] w fun e w'=>e=.returned (.bool true)/\Zb w w':=by
 have HS':=qz HS;have HK':=qz HK;have HP':=qz HP;have H0':=qz H0;clear HS HK HP H0
 go_enter func142,ntmps142
 go_wp2_with fail;refine(HS'.out _).mono ?_;rintro e w1 ⟨rfl,b1⟩;go_wp2_with fail;refine(HK'.out _).mono ?_;rintro e w2 ⟨rfl,rfl⟩;go_wp2_with fail;refine(HP'.out _).mono ?_;rintro e w3 ⟨b,rfl,hb,hh,b3⟩;have bl:=aat b1 b3;have c0:=aah hh;have Hh:=qz hh;clear hh hb b3;go_wp2_with fail;refine wp_loop_rounds 2 ?_;rw[rounds_succ];go_wp2_with fail;refine(H0'.out _).mono ?_;rintro e w4 ⟨rfl,b4⟩;replace bl:=aat bl b4;go_wp2_with fail;rw[rounds_succ];go_wp2_with fail;go_ret;exact⟨rfl,bl⟩
theorem atn (s0 s:ByteArray)(kd:Int)(k0:(kd==48)=false)(k1:(kd==33)=false)(k2:(kd==63)=false)(k3:(kd==126)=false)(u:ByteArray)(HS:Zr 141 #[.string s0] (.string s))(HK:Ze 71 #[.string s] (.int .u8 kd))(HP:∀w,Calls prog 72 #[.string s] w fun e w'=>∃b,e=.returned (.slice (some ⟨b,0,none⟩) 1 1)/\w.heap.size<=b/\w'.heap[b]?=some (.cells #[.string u] 9 (0,0))/\Zb w w')(H0:Zr 142 #[.string u] (.bool false))(w:World):Calls prog 142 #[.string s0] w fun e w'=>e=.returned (.bool false)/\Zb w w':=by
 have HS':=qz HS;have HK':=qz HK;have HP':=qz HP;have H0':=qz H0;clear HS HK HP H0
 go_enter func142,ntmps142
 go_wp2_with fail;refine(HS'.out _).mono ?_;rintro e w1 ⟨rfl,b1⟩;go_wp2_with fail;refine(HK'.out _).mono ?_;rintro e w2 ⟨rfl,rfl⟩;go_wp2_with fail;refine(HP'.out _).mono ?_;rintro e w3 ⟨b,rfl,hb,hh,b3⟩;have bl:=aat b1 b3;have c0:=aah hh;have Hh:=qz hh;clear hh hb b3;go_wp2_with fail;refine wp_loop_rounds 2 ?_;rw[rounds_succ];go_wp2_with fail;refine(H0'.out _).mono ?_;rintro e w4 ⟨rfl,b4⟩;replace bl:=aat bl b4;go_wp2_with fail;go_ret;exact⟨rfl,bl⟩
theorem avG (s0 s:ByteArray)(kd:Int)(k0:(kd==48)=false)(k1:(kd==33)=false)(k2:(kd==63)=false)(k3:(kd==126)=false)(u v:ByteArray)(HS:Zr 141 #[.string s0] (.string s))(HK:Ze 71 #[.string s] (.int .u8 kd))(HP:∀w,Calls prog 72 #[.string s] w fun e w'=>∃b,e=.returned (.slice (some ⟨b,0,none⟩) 2 2)/\w.heap.size<=b/\w'.heap[b]?=some (.cells #[.string u,.string v] 9 (0,0))/\Zb w w')(H0:Zr 142 #[.string u] (.bool false))(w:World):Calls prog 142 #[.string s0] w fun e w'=>e=.returned (.bool false)/\Zb w w':=by
 have HS':=qz HS;have HK':=qz HK;have HP':=qz HP;have H0':=qz H0;clear HS HK HP H0
 go_enter func142,ntmps142
 go_wp2_with fail;refine(HS'.out _).mono ?_;rintro e w1 ⟨rfl,b1⟩;go_wp2_with fail;refine(HK'.out _).mono ?_;rintro e w2 ⟨rfl,rfl⟩;go_wp2_with fail;refine(HP'.out _).mono ?_;rintro e w3 ⟨b,rfl,hb,hh,b3⟩;have bl:=aat b1 b3;have c0:=aai hh;have Hh:=qz hh;clear hh hb b3;go_wp2_with fail;refine wp_loop_rounds 3 ?_;rw[rounds_succ];go_wp2_with fail;refine(H0'.out _).mono ?_;rintro e w4 ⟨rfl,b4⟩;replace bl:=aat bl b4;go_wp2_with fail;go_ret;exact⟨rfl,bl⟩
theorem arR (s0 s:ByteArray)(kd:Int)(k0:(kd==48)=false)(k1:(kd==33)=false)(k2:(kd==63)=false)(k3:(kd==126)=false)(u v:ByteArray)(HS:Zr 141 #[.string s0] (.string s))(HK:Ze 71 #[.string s] (.int .u8 kd))(HP:∀w,Calls prog 72 #[.string s] w fun e w'=>∃b,e=.returned (.slice (some ⟨b,0,none⟩) 2 2)/\w.heap.size<=b/\w'.heap[b]?=some (.cells #[.string u,.string v] 9 (0,0))/\Zb w w')(H0:Zr 142 #[.string u] (.bool true))(H1:Zr 142 #[.string v] (.bool true))(w:World):Calls prog 142 #[.string s0] w fun e w'=>e=.returned (.bool true)/\Zb w w':=by
 have HS':=qz HS;have HK':=qz HK;have HP':=qz HP;have H0':=qz H0;have H1':=qz H1;clear HS HK HP H0 H1
 go_enter func142,ntmps142
 go_wp2_with fail;refine(HS'.out _).mono ?_;rintro e w1 ⟨rfl,b1⟩;go_wp2_with fail;refine(HK'.out _).mono ?_;rintro e w2 ⟨rfl,rfl⟩;go_wp2_with fail;refine(HP'.out _).mono ?_;rintro e w3 ⟨b,rfl,hb,hh,b3⟩;have bl:=aat b1 b3;have c0:=aai hh;have Hh:=qz hh;clear hh hb b3;go_wp2_with fail;refine wp_loop_rounds 3 ?_;rw[rounds_succ];go_wp2_with fail;refine(H0'.out _).mono ?_;rintro e w4 ⟨rfl,b4⟩;replace bl:=aat bl b4;have h4:=(b4.block b (lt_of_block Hh.out)).trans Hh.out;clear c0;have c1:=aak h4;clear h4 b4;go_wp2_with fail;rw[rounds_succ];go_wp2_with fail;refine(H1'.out _).mono ?_;rintro e w5 ⟨rfl,b5⟩;replace bl:=aat bl b5;go_wp2_with fail;rw[rounds_succ];go_wp2_with fail;go_ret;exact⟨rfl,bl⟩
theorem arS (s0 s:ByteArray)(kd:Int)(k0:(kd==48)=false)(k1:(kd==33)=false)(k2:(kd==63)=false)(k3:(kd==126)=false)(u v:ByteArray)(HS:Zr 141 #[.string s0] (.string s))(HK:Ze 71 #[.string s] (.int .u8 kd))(HP:∀w,Calls prog 72 #[.string s] w fun e w'=>∃b,e=.returned (.slice (some ⟨b,0,none⟩) 2 2)/\w.heap.size<=b/\w'.heap[b]?=some (.cells #[.string u,.string v] 9 (0,0))/\Zb w w')(H0:Zr 142 #[.string u] (.bool true))(H1:Zr 142 #[.string v] (.bool false))(w:World):Calls prog 142 #[.string s0] w fun e w'=>e=.returned (.bool false)/\Zb w w':=by
 have HS':=qz HS;have HK':=qz HK;have HP':=qz HP;have H0':=qz H0;have H1':=qz H1;clear HS HK HP H0 H1
 go_enter func142,ntmps142
 go_wp2_with fail;refine(HS'.out _).mono ?_;rintro e w1 ⟨rfl,b1⟩;go_wp2_with fail;refine(HK'.out _).mono ?_;rintro e w2 ⟨rfl,rfl⟩;go_wp2_with fail;refine(HP'.out _).mono ?_;rintro e w3 ⟨b,rfl,hb,hh,b3⟩;have bl:=aat b1 b3;have c0:=aai hh;have Hh:=qz hh;clear hh hb b3;go_wp2_with fail;refine wp_loop_rounds 3 ?_;rw[rounds_succ];go_wp2_with fail;refine(H0'.out _).mono ?_;rintro e w4 ⟨rfl,b4⟩;replace bl:=aat bl b4;have h4:=(b4.block b (lt_of_block Hh.out)).trans Hh.out;clear c0;have c1:=aak h4;clear h4 b4;go_wp2_with fail;rw[rounds_succ];go_wp2_with fail;refine(H1'.out _).mono ?_;rintro e w5 ⟨rfl,b5⟩;replace bl:=aat bl b5;go_wp2_with fail;go_ret;exact⟨rfl,bl⟩
theorem ade (n:Nat):∀(t:Tm),t.size<=n->t.ok nmE=true->t.pr.length<=700->Zr 142 #[.string (S t)] (.bool t.dead):=by
 induction n with
 | zero=>intro t h;have:=aaq t;omega
 | succ n ih=>
  intro t hn ho hl w;obtain⟨s1,s2,s3,_,_⟩:=ae4 t;have hS:=adv t ho hl;have hne:=agX t;rw[<-agk t];have ho2:=s1 nmE ho;obtain⟨u,hu⟩:∃u,u=t.strip:=⟨_,rfl⟩;rw[<-hu]at hS ho2 s2 s3 hne ⊢;have hl2:u.pr.length<=700:=by omega
  have hK:=aad u ho2 hl2;have hP:=aaf u ho2 hl2;clear hu s1
  cases u with
  | nil=>exact axw _ _ hS hK w
  | snd a b p=>exact avE _ _ hS hK w
  | rcv a x p=>exact avF _ _ hS hK w
  | tau p=>exact atl _ _ hS hK w
  | own x p=>
   simp only[Tm.ok,bae]at ho2;simp only[Tm.pr,List.length_cons]at hl2;simp only[Tm.size]at s3;have hI:=ih p (by omega) ho2.2 (by omega);simp only[Tm.dead]
   cases hd:p.dead with
   | true=>rw[hd]at hI;exact atm _ _ 35 (by decide) (by decide) (by decide) (by decide) _ hS hK hP hI w
   | false=>rw[hd]at hI;exact atn _ _ 35 (by decide) (by decide) (by decide) (by decide) _ hS hK hP hI w
  | mat a b p=>
   simp only[Tm.ok,bae]at ho2;simp only[Tm.pr,List.length_cons]at hl2;simp only[Tm.size]at s3;have hI:=ih p (by omega) ho2.2 (by omega);simp only[Tm.dead]
   cases hd:p.dead with
   | true=>rw[hd]at hI;exact atm _ _ 61 (by decide) (by decide) (by decide) (by decide) _ hS hK hP hI w
   | false=>rw[hd]at hI;exact atn _ _ 61 (by decide) (by decide) (by decide) (by decide) _ hS hK hP hI w
  | rep p=>
   simp only[Tm.ok,bae]at ho2;simp only[Tm.pr,List.length_cons]at hl2;simp only[Tm.size]at s3;have hI:=ih p (by omega) ho2 (by omega);simp only[Tm.dead]
   cases hd:p.dead with
   | true=>rw[hd]at hI;exact atm _ _ 42 (by decide) (by decide) (by decide) (by decide) _ hS hK hP hI w
   | false=>rw[hd]at hI;exact atn _ _ 42 (by decide) (by decide) (by decide) (by decide) _ hS hK hP hI w
  | sum p q=>
   simp only[Tm.ok,bae]at ho2;simp only[Tm.pr,List.length_cons,lla]at hl2;simp only[Tm.size]at s3;have hI:=ih p (by omega) ho2.1 (by omega);have hI2:=ih q (by omega) ho2.2 (by omega);simp only[Tm.dead]
   cases hd:p.dead with
   | false=>rw[hd]at hI;exact avG _ _ 43 (by decide) (by decide) (by decide) (by decide) _ _ hS hK hP hI w
   | true=>
    rw[hd]at hI;simp only[Bool.true_and]
    cases hd2:q.dead with
    | true=>rw[hd2]at hI2;exact arR _ _ 43 (by decide) (by decide) (by decide) (by decide) _ _ hS hK hP hI hI2 w
    | false=>rw[hd2]at hI2;exact arS _ _ 43 (by decide) (by decide) (by decide) (by decide) _ _ hS hK hP hI hI2 w
  | par p q=>
   simp only[Tm.ok,bae]at ho2;simp only[Tm.pr,List.length_cons,lla]at hl2;simp only[Tm.size]at s3;have hI:=ih p (by omega) ho2.1 (by omega);have hI2:=ih q (by omega) ho2.2 (by omega);simp only[Tm.dead]
   cases hd:p.dead with
   | false=>rw[hd]at hI;exact avG _ _ 38 (by decide) (by decide) (by decide) (by decide) _ _ hS hK hP hI w
   | true=>
    rw[hd]at hI;simp only[Bool.true_and]
    cases hd2:q.dead with
    | true=>rw[hd2]at hI2;exact arR _ _ 38 (by decide) (by decide) (by decide) (by decide) _ _ hS hK hP hI hI2 w
    | false=>rw[hd2]at hI2;exact arS _ _ 38 (by decide) (by decide) (by decide) (by decide) _ _ hS hK hP hI hI2 w
theorem ato (s0 s:ByteArray)  (HS:Zr 141 #[.string s0] (.string s))(HD:Zr 142 #[.string s] (.bool true))(w:World):Calls prog 104 #[.string s0] w fun e w'=>e=.returned (.string ⟨#[]⟩)/\Zb w w':=by
 have HS':=qz HS;have HD':=qz HD;clear HS HD
 go_enter func104,ntmps104
 go_wp2_with fail;refine(HS'.out _).mono ?_;rintro e w1 ⟨rfl,b1⟩;have bl:=b1;clear b1;go_wp2_with fail;refine(HD'.out _).mono ?_;rintro e w2 ⟨rfl,b2⟩;replace bl:=aat bl b2;go_wp2_with fail;go_ret;exact⟨rfl,bl⟩
theorem arT (s0 s:ByteArray)(u U1 X1:ByteArray)(A:ByteArray)(a b:UInt8)(hA:A.data.toList=[a,b])(Z0:ByteArray)(Z1:ByteArray)(HS:Zr 141 #[.string s0] (.string s))(HD:Zr 142 #[.string s] (.bool false))(HP:∀w,Calls prog 72 #[.string s] w fun e w'=>∃b,e=.returned (.slice (some ⟨b,0,none⟩) 1 1)/\w.heap.size<=b/\w'.heap[b]?=some (.cells #[.string u] 9 (0,0))/\Zb w w')(HU0:Zr 104 #[.string u] (.string U1))(HX0:Zr 64 #[.string ⟨#[]⟩,.string U1] (.string X1))(HB:Ze 89 #[.string s] (.tuple #[.int .u8 0,.bool false]))(HN:Zr 143 #[.string s] (.string A))(HA0:Zr 91 #[.string X1,.int .u8 (a.toNat:Int)] (.string Z0))(HA1:Zr 91 #[.string Z0,.int .u8 (b.toNat:Int)] (.string Z1))(w:World):Calls prog 104 #[.string s0] w fun e w'=>e=.returned (.string Z1)/\Zb w w':=by
 have HS':=qz HS;have HD':=qz HD;have HP':=qz HP;have HU0':=qz HU0;have HX0':=qz HX0;have HB':=qz HB;have HN':=qz HN;have HA0':=qz HA0;have HA1':=qz HA1;have HAA:=qz hA;clear hA HS HD HP HU0 HX0 HB HN HA0 HA1
 go_enter func104,ntmps104
 go_wp2_with fail;refine(HS'.out _).mono ?_;rintro e w1 ⟨rfl,b1⟩;have bl:=b1;clear b1;go_wp2_with fail;refine(HD'.out _).mono ?_;rintro e w2 ⟨rfl,b2⟩;replace bl:=aat bl b2;go_wp2_with fail;refine(HP'.out _).mono ?_;rintro e w3 ⟨b,rfl,hb,hh,b3⟩;replace bl:=aat bl b3;have c0:=aah hh;have Hh:=qz hh;clear hh hb b3;go_wp2_with fail;refine wp_loop_rounds 2 ?_;rw[rounds_succ];go_wp2_with fail;refine(HU0'.out _).mono ?_;rintro e w4 ⟨rfl,b4⟩;replace bl:=aat bl b4;clear c0;go_wp2_with fail;refine(HX0'.out _).mono ?_;rintro e w5 ⟨rfl,b5⟩;replace bl:=aat bl b5;go_wp2_with fail;rw[rounds_succ];go_wp2_with fail;refine(HB'.out _).mono ?_;rintro e w8 ⟨rfl,rfl⟩;go_wp2_with fail;refine(HN'.out _).mono ?_;rintro e w10 ⟨rfl,b10⟩;replace bl:=aat bl b10;obtain⟨cap,W,hcv,bW,hr⟩:=aaz A _ 2 HAA.out rfl w10;replace bl:=aat bl bW;have Hr:=qz hr;obtain⟨g,hg⟩:∃g,g=w10.heap.size:=⟨_,rfl⟩;rw[<-hg]at hcv Hr;clear hr bW hg;go_wp2_with fail;clear hcv;refine wp_loop_rounds 3 ?_;rw[rounds_succ];have q0:=Hr.out.cell 0 (by simp);simp only[List.getElem_cons_zero,List.getElem_cons_succ]at q0;go_wp2_with fail;refine(HA0'.out _).mono ?_;rintro e w11 ⟨rfl,b11⟩;replace bl:=aat bl b11;replace Hr:=qz (Hr.out.below b11);clear q0;go_wp2_with fail;rw[rounds_succ];have q1:=Hr.out.cell 1 (by simp);simp only[List.getElem_cons_zero,List.getElem_cons_succ]at q1;go_wp2_with fail;refine(HA1'.out _).mono ?_;rintro e w12 ⟨rfl,b12⟩;replace bl:=aat bl b12;replace Hr:=qz (Hr.out.below b12);clear q1;go_wp2_with fail;rw[rounds_succ];go_wp2_with fail;go_ret;exact⟨rfl,bl⟩
theorem avH (s0 s:ByteArray)(u U1 X1:ByteArray)(Y:ByteArray)(x:Int)(A:ByteArray)(a:UInt8)(hA:A.data.toList=[a])(Z0:ByteArray)(HS:Zr 141 #[.string s0] (.string s))(HD:Zr 142 #[.string s] (.bool false))(HP:∀w,Calls prog 72 #[.string s] w fun e w'=>∃b,e=.returned (.slice (some ⟨b,0,none⟩) 1 1)/\w.heap.size<=b/\w'.heap[b]?=some (.cells #[.string u] 9 (0,0))/\Zb w w')(HU0:Zr 104 #[.string u] (.string U1))(HX0:Zr 64 #[.string ⟨#[]⟩,.string U1] (.string X1))(HB:Ze 89 #[.string s] (.tuple #[.int .u8 x,.bool true]))(HL:Ze 90 #[.string X1,.int .u8 x] (.string Y))(HN:Zr 143 #[.string s] (.string A))(HA0:Zr 91 #[.string Y,.int .u8 (a.toNat:Int)] (.string Z0))(w:World):Calls prog 104 #[.string s0] w fun e w'=>e=.returned (.string Z0)/\Zb w w':=by
 have HS':=qz HS;have HD':=qz HD;have HP':=qz HP;have HU0':=qz HU0;have HX0':=qz HX0;have HB':=qz HB;have HL':=qz HL;have HN':=qz HN;have HA0':=qz HA0;have HAA:=qz hA;clear hA HS HD HP HU0 HX0 HB HL HN HA0
 go_enter func104,ntmps104
 go_wp2_with fail;refine(HS'.out _).mono ?_;rintro e w1 ⟨rfl,b1⟩;have bl:=b1;clear b1;go_wp2_with fail;refine(HD'.out _).mono ?_;rintro e w2 ⟨rfl,b2⟩;replace bl:=aat bl b2;go_wp2_with fail;refine(HP'.out _).mono ?_;rintro e w3 ⟨b,rfl,hb,hh,b3⟩;replace bl:=aat bl b3;have c0:=aah hh;have Hh:=qz hh;clear hh hb b3;go_wp2_with fail;refine wp_loop_rounds 2 ?_;rw[rounds_succ];go_wp2_with fail;refine(HU0'.out _).mono ?_;rintro e w4 ⟨rfl,b4⟩;replace bl:=aat bl b4;clear c0;go_wp2_with fail;refine(HX0'.out _).mono ?_;rintro e w5 ⟨rfl,b5⟩;replace bl:=aat bl b5;go_wp2_with fail;rw[rounds_succ];go_wp2_with fail;refine(HB'.out _).mono ?_;rintro e w8 ⟨rfl,rfl⟩;go_wp2_with fail;refine(HL'.out _).mono ?_;rintro e w9 ⟨rfl,rfl⟩;go_wp2_with fail;refine(HN'.out _).mono ?_;rintro e w10 ⟨rfl,b10⟩;replace bl:=aat bl b10;obtain⟨cap,W,hcv,bW,hr⟩:=aaz A _ 1 HAA.out rfl w10;replace bl:=aat bl bW;have Hr:=qz hr;obtain⟨g,hg⟩:∃g,g=w10.heap.size:=⟨_,rfl⟩;rw[<-hg]at hcv Hr;clear hr bW hg;go_wp2_with fail;clear hcv;refine wp_loop_rounds 2 ?_;rw[rounds_succ];have q0:=Hr.out.cell 0 (by simp);simp only[List.getElem_cons_zero,List.getElem_cons_succ]at q0;go_wp2_with fail;refine(HA0'.out _).mono ?_;rintro e w11 ⟨rfl,b11⟩;replace bl:=aat bl b11;replace Hr:=qz (Hr.out.below b11);clear q0;go_wp2_with fail;rw[rounds_succ];go_wp2_with fail;go_ret;exact⟨rfl,bl⟩
theorem avI (s0 s:ByteArray)(u U1 X1:ByteArray)(Y:ByteArray)(x:Int)(A:ByteArray)(a:UInt8)(hA:A.data.toList=[])(HS:Zr 141 #[.string s0] (.string s))(HD:Zr 142 #[.string s] (.bool false))(HP:∀w,Calls prog 72 #[.string s] w fun e w'=>∃b,e=.returned (.slice (some ⟨b,0,none⟩) 1 1)/\w.heap.size<=b/\w'.heap[b]?=some (.cells #[.string u] 9 (0,0))/\Zb w w')(HU0:Zr 104 #[.string u] (.string U1))(HX0:Zr 64 #[.string ⟨#[]⟩,.string U1] (.string X1))(HB:Ze 89 #[.string s] (.tuple #[.int .u8 x,.bool true]))(HL:Ze 90 #[.string X1,.int .u8 x] (.string Y))(HN:Zr 143 #[.string s] (.string A))(w:World):Calls prog 104 #[.string s0] w fun e w'=>e=.returned (.string Y)/\Zb w w':=by
 have HS':=qz HS;have HD':=qz HD;have HP':=qz HP;have HU0':=qz HU0;have HX0':=qz HX0;have HB':=qz HB;have HL':=qz HL;have HN':=qz HN;have HAA:=qz hA;clear hA HS HD HP HU0 HX0 HB HL HN
 go_enter func104,ntmps104
 go_wp2_with fail;refine(HS'.out _).mono ?_;rintro e w1 ⟨rfl,b1⟩;have bl:=b1;clear b1;go_wp2_with fail;refine(HD'.out _).mono ?_;rintro e w2 ⟨rfl,b2⟩;replace bl:=aat bl b2;go_wp2_with fail;refine(HP'.out _).mono ?_;rintro e w3 ⟨b,rfl,hb,hh,b3⟩;replace bl:=aat bl b3;have c0:=aah hh;have Hh:=qz hh;clear hh hb b3;go_wp2_with fail;refine wp_loop_rounds 2 ?_;rw[rounds_succ];go_wp2_with fail;refine(HU0'.out _).mono ?_;rintro e w4 ⟨rfl,b4⟩;replace bl:=aat bl b4;clear c0;go_wp2_with fail;refine(HX0'.out _).mono ?_;rintro e w5 ⟨rfl,b5⟩;replace bl:=aat bl b5;go_wp2_with fail;rw[rounds_succ];go_wp2_with fail;refine(HB'.out _).mono ?_;rintro e w8 ⟨rfl,rfl⟩;go_wp2_with fail;refine(HL'.out _).mono ?_;rintro e w9 ⟨rfl,rfl⟩;go_wp2_with fail;refine(HN'.out _).mono ?_;rintro e w10 ⟨rfl,b10⟩;replace bl:=aat bl b10;obtain⟨cap,W,hcv,bW,hr⟩:=aaz A _ 0 HAA.out rfl w10;replace bl:=aat bl bW;have Hr:=qz hr;obtain⟨g,hg⟩:∃g,g=w10.heap.size:=⟨_,rfl⟩;rw[<-hg]at hcv Hr;clear hr bW hg;go_wp2_with fail;clear hcv;refine wp_loop_rounds 1 ?_;rw[rounds_succ];go_wp2_with fail;go_ret;exact⟨rfl,bl⟩
theorem arU (s0 s:ByteArray)(u U1 X1:ByteArray)(A:ByteArray)(a:UInt8)(hA:A.data.toList=[])(HS:Zr 141 #[.string s0] (.string s))(HD:Zr 142 #[.string s] (.bool false))(HP:∀w,Calls prog 72 #[.string s] w fun e w'=>∃b,e=.returned (.slice (some ⟨b,0,none⟩) 1 1)/\w.heap.size<=b/\w'.heap[b]?=some (.cells #[.string u] 9 (0,0))/\Zb w w')(HU0:Zr 104 #[.string u] (.string U1))(HX0:Zr 64 #[.string ⟨#[]⟩,.string U1] (.string X1))(HB:Ze 89 #[.string s] (.tuple #[.int .u8 0,.bool false]))(HN:Zr 143 #[.string s] (.string A))(w:World):Calls prog 104 #[.string s0] w fun e w'=>e=.returned (.string X1)/\Zb w w':=by
 have HS':=qz HS;have HD':=qz HD;have HP':=qz HP;have HU0':=qz HU0;have HX0':=qz HX0;have HB':=qz HB;have HN':=qz HN;have HAA:=qz hA;clear hA HS HD HP HU0 HX0 HB HN
 go_enter func104,ntmps104
 go_wp2_with fail;refine(HS'.out _).mono ?_;rintro e w1 ⟨rfl,b1⟩;have bl:=b1;clear b1;go_wp2_with fail;refine(HD'.out _).mono ?_;rintro e w2 ⟨rfl,b2⟩;replace bl:=aat bl b2;go_wp2_with fail;refine(HP'.out _).mono ?_;rintro e w3 ⟨b,rfl,hb,hh,b3⟩;replace bl:=aat bl b3;have c0:=aah hh;have Hh:=qz hh;clear hh hb b3;go_wp2_with fail;refine wp_loop_rounds 2 ?_;rw[rounds_succ];go_wp2_with fail;refine(HU0'.out _).mono ?_;rintro e w4 ⟨rfl,b4⟩;replace bl:=aat bl b4;clear c0;go_wp2_with fail;refine(HX0'.out _).mono ?_;rintro e w5 ⟨rfl,b5⟩;replace bl:=aat bl b5;go_wp2_with fail;rw[rounds_succ];go_wp2_with fail;refine(HB'.out _).mono ?_;rintro e w8 ⟨rfl,rfl⟩;go_wp2_with fail;refine(HN'.out _).mono ?_;rintro e w10 ⟨rfl,b10⟩;replace bl:=aat bl b10;obtain⟨cap,W,hcv,bW,hr⟩:=aaz A _ 0 HAA.out rfl w10;replace bl:=aat bl bW;have Hr:=qz hr;obtain⟨g,hg⟩:∃g,g=w10.heap.size:=⟨_,rfl⟩;rw[<-hg]at hcv Hr;clear hr bW hg;go_wp2_with fail;clear hcv;refine wp_loop_rounds 1 ?_;rw[rounds_succ];go_wp2_with fail;go_ret;exact⟨rfl,bl⟩
theorem arV (s0 s:ByteArray)(u v U1 U2 X1 X2:ByteArray)(A:ByteArray)(a:UInt8)(hA:A.data.toList=[])(HS:Zr 141 #[.string s0] (.string s))(HD:Zr 142 #[.string s] (.bool false))(HP:∀w,Calls prog 72 #[.string s] w fun e w'=>∃b,e=.returned (.slice (some ⟨b,0,none⟩) 2 2)/\w.heap.size<=b/\w'.heap[b]?=some (.cells #[.string u,.string v] 9 (0,0))/\Zb w w')(HU0:Zr 104 #[.string u] (.string U1))(HX0:Zr 64 #[.string ⟨#[]⟩,.string U1] (.string X1))(HU1:Zr 104 #[.string v] (.string U2))(HX1:Zr 64 #[.string X1,.string U2] (.string X2))(HB:Ze 89 #[.string s] (.tuple #[.int .u8 0,.bool false]))(HN:Zr 143 #[.string s] (.string A))(w:World):Calls prog 104 #[.string s0] w fun e w'=>e=.returned (.string X2)/\Zb w w':=by
 have HS':=qz HS;have HD':=qz HD;have HP':=qz HP;have HU0':=qz HU0;have HX0':=qz HX0;have HU1':=qz HU1;have HX1':=qz HX1;have HB':=qz HB;have HN':=qz HN;have HAA:=qz hA;clear hA HS HD HP HU0 HX0 HU1 HX1 HB HN
 go_enter func104,ntmps104
 go_wp2_with fail;refine(HS'.out _).mono ?_;rintro e w1 ⟨rfl,b1⟩;have bl:=b1;clear b1;go_wp2_with fail;refine(HD'.out _).mono ?_;rintro e w2 ⟨rfl,b2⟩;replace bl:=aat bl b2;go_wp2_with fail;refine(HP'.out _).mono ?_;rintro e w3 ⟨b,rfl,hb,hh,b3⟩;replace bl:=aat bl b3;have c0:=aai hh;have Hh:=qz hh;clear hh hb b3;go_wp2_with fail;refine wp_loop_rounds 3 ?_;rw[rounds_succ];go_wp2_with fail;refine(HU0'.out _).mono ?_;rintro e w4 ⟨rfl,b4⟩;replace bl:=aat bl b4;have h4:=(b4.block b (lt_of_block Hh.out)).trans Hh.out;clear c0;have H4:=qz h4;clear h4;go_wp2_with fail;refine(HX0'.out _).mono ?_;rintro e w5 ⟨rfl,b5⟩;replace bl:=aat bl b5;have h5:=(b5.block b (lt_of_block H4.out)).trans H4.out;have c1:=aak h5;clear h5;go_wp2_with fail;rw[rounds_succ];go_wp2_with fail;refine(HU1'.out _).mono ?_;rintro e w6 ⟨rfl,b6⟩;replace bl:=aat bl b6;clear c1;go_wp2_with fail;refine(HX1'.out _).mono ?_;rintro e w7 ⟨rfl,b7⟩;replace bl:=aat bl b7;go_wp2_with fail;rw[rounds_succ];go_wp2_with fail;refine(HB'.out _).mono ?_;rintro e w8 ⟨rfl,rfl⟩;go_wp2_with fail;refine(HN'.out _).mono ?_;rintro e w10 ⟨rfl,b10⟩;replace bl:=aat bl b10;obtain⟨cap,W,hcv,bW,hr⟩:=aaz A _ 0 HAA.out rfl w10;replace bl:=aat bl bW;have Hr:=qz hr;obtain⟨g,hg⟩:∃g,g=w10.heap.size:=⟨_,rfl⟩;rw[<-hg]at hcv Hr;clear hr bW hg;go_wp2_with fail;clear hcv;refine wp_loop_rounds 1 ?_;rw[rounds_succ];go_wp2_with fail;go_ret;exact⟨rfl,bl⟩
theorem aqN (t:Tm)(h:t.dead=true):t.strip.usd=[]:=by
 rw[ae5]
 induction t with
 | nil=>rfl
 | snd a b p ih=>cases h
 | rcv a x p ih=>cases h
 | tau p ih=>cases h
 | sum p q ih ih2=>simp only[Tm.dead]at h;simp only[Tm.usd];rw[if_pos h]
 | par p q ih ih2=>simp only[Tm.dead]at h;simp only[Tm.usd];rw[if_pos h]
 | own x p ih=>simp only[Tm.dead]at h;simp only[Tm.usd];rw[if_pos h]
 | mat a b p ih=>simp only[Tm.dead]at h;simp only[Tm.usd];split;exact ih h;first|rfl|rw[if_pos h]
 | rep p ih=>simp only[Tm.dead]at h;simp only[Tm.usd];rw[if_pos h]
theorem ac1 (l m:List UInt8)(hl:Srt l)(hm:Srt m)(w:World):Calls prog 64 #[.string (B l),.string (B m)] w fun e w'=>e=.returned (.string (B (bothL l m)))/\Zb w w':=by
 have:=abA l (B m) hl (by rw[aaR];have:=abm hm;omega) w;rw[aaE]at this
 exact this
theorem afw (l:List UInt8)(c:UInt8)(hl:Srt l)(w:World):Calls prog 91 #[.string (B l),.int .u8 (c.toNat:Int)] w fun e w'=>e=.returned (.string (B (addL l c)))/\Zb w w':=by
 have:=adD (B l) c (by rw[aaR];have:=abm hl;omega) w;rw[aaE]at this
 exact this
theorem arW (l:List UInt8)(c:UInt8)(hl:Srt l)(w:World):Calls prog 90 #[.string (B l),.int .u8 (c.toNat:Int)] w fun e w'=>e=.returned (.string (B (abx l c)))/\w=w':=by
 have:=aed (B l) c (by rw[aaR];have:=abm hl;omega) w;rw[aaE]at this
 exact this
theorem aeo (n:Nat):∀(t:Tm),t.size<=n->t.ok nmE=true->t.pr.length<=700->Zr 104 #[.string (S t)] (.string (B t.usd)):=by
 induction n with
 | zero=>intro t h;have:=aaq t;omega
 | succ n ih=>
  intro t hn ho hl w;obtain⟨s1,s2,s3,_,_⟩:=ae4 t;have hS:=adv t ho hl;have hne:=agX t;rw[<-ae5 t];have ho2:=s1 nmE ho;have hdd:=aqN t;rw[<-agk t]at hdd;obtain⟨u,hu⟩:∃u,u=t.strip:=⟨_,rfl⟩;rw[<-hu]at hS ho2 s2 s3 hne hdd ⊢;have hl2:u.pr.length<=700:=by omega
  have hD:=ade u.size u (nl _) ho2 hl2;have hP:=aaf u ho2 hl2;have hB:=aaT u ho2 hl2;have hN:=aji u ho2 hl2;have e0:=srt_nil;clear hu s1
  cases hdu:u.dead with
  | true=>
   rw[hdu]at hD;rw[hdd hdu];exact ato _ _ hS hD w
  | false=>
   rw[hdu]at hD
   cases u with
   | nil=>cases hdu
   | snd a b p=>
    simp only[Tm.ok,bae]at ho2;simp only[Tm.pr,List.length_cons]at hl2;simp only[Tm.size]at s3;have hI:=ih p (by omega) ho2.2 (by omega);have hsb:=aam p.usd srt_nil;exact arT _ _ _ _ _ _ _ _ (aaE _) _ _ hS hD hP hI (ac1 [] p.usd srt_nil (abe p)) hB hN (afw _ a hsb) (afw _ b (srt_addL hsb a)) w
   | mat a b p=>
    simp only[Tm.ok,bae]at ho2;simp only[Tm.pr,List.length_cons]at hl2;simp only[Tm.size]at s3;have hI:=ih p (by omega) ho2.2 (by omega);have hsb:=aam p.usd srt_nil;have hab:¬a=b:=fun e=>hne a p (by rw[e]);simp only[Tm.dead]at hdu;simp only[Tm.usd];rw[if_neg hab,hdu];exact arT _ _ _ _ _ _ _ _ (aaE _) _ _ hS hD hP hI (ac1 [] p.usd srt_nil (abe p)) hB hN (afw _ a hsb) (afw _ b (srt_addL hsb a)) w
   | rcv a x p=>
    simp only[Tm.ok,bae]at ho2;simp only[Tm.pr,List.length_cons]at hl2;simp only[Tm.size]at s3;have hI:=ih p (by omega) ho2.2 (by omega);have hsb:=aam p.usd srt_nil;exact avH _ _ _ _ _ _ _ _ _ (aaE _) _ hS hD hP hI (ac1 [] p.usd srt_nil (abe p)) hB (arW _ x hsb) hN (afw _ a (ab3 hsb x)) w
   | own x p=>
    simp only[Tm.ok,bae]at ho2;simp only[Tm.pr,List.length_cons]at hl2;simp only[Tm.size]at s3;have hI:=ih p (by omega) ho2.2 (by omega);have hsb:=aam p.usd srt_nil;simp only[Tm.dead]at hdu;simp only[Tm.usd];rw[hdu];exact avI _ _ _ _ _ _ _ _ 0 (aaE _) hS hD hP hI (ac1 [] p.usd srt_nil (abe p)) hB (arW _ x hsb) hN w
   | tau p=>
    simp only[Tm.ok,bae]at ho2;simp only[Tm.pr,List.length_cons]at hl2;simp only[Tm.size]at s3;have hI:=ih p (by omega) ho2 (by omega);have hsb:=aam p.usd srt_nil;exact arU _ _ _ _ _ _ 0 (aaE _) hS hD hP hI (ac1 [] p.usd srt_nil (abe p)) hB hN w
   | rep p=>
    simp only[Tm.ok,bae]at ho2;simp only[Tm.pr,List.length_cons]at hl2;simp only[Tm.size]at s3;have hI:=ih p (by omega) ho2 (by omega);have hsb:=aam p.usd srt_nil;simp only[Tm.dead]at hdu;simp only[Tm.usd];rw[hdu];exact arU _ _ _ _ _ _ 0 (aaE _) hS hD hP hI (ac1 [] p.usd srt_nil (abe p)) hB hN w
   | sum p q=>
    simp only[Tm.ok,bae]at ho2;simp only[Tm.pr,List.length_cons,lla]at hl2;simp only[Tm.size]at s3;have hI:=ih p (by omega) ho2.1 (by omega);have hI2:=ih q (by omega) ho2.2 (by omega);simp only[Tm.dead]at hdu;simp only[Tm.usd];rw[hdu];exact arV _ _ _ _ _ _ _ _ _ 0 (aaE _) hS hD hP hI (ac1 [] p.usd srt_nil (abe p)) hI2 (ac1 _ q.usd (aam _ srt_nil) (abe q)) hB hN w
   | par p q=>
    simp only[Tm.ok,bae]at ho2;simp only[Tm.pr,List.length_cons,lla]at hl2;simp only[Tm.size]at s3;have hI:=ih p (by omega) ho2.1 (by omega);have hI2:=ih q (by omega) ho2.2 (by omega);simp only[Tm.dead]at hdu;simp only[Tm.usd];rw[hdu];exact arV _ _ _ _ _ _ _ _ _ 0 (aaE _) hS hD hP hI (ac1 [] p.usd srt_nil (abe p)) hI2 (ac1 _ q.usd (aam _ srt_nil) (abe q)) hB hN w
end Go.Proofs.YtalegefnppbkdaaGreat.T1
