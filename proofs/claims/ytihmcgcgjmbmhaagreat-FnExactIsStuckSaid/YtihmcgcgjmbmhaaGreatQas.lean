/- Texts of the proof. No conditions. -/
import Derived.Test.YtihmcgcgjmbmhaaGreatQal
namespace Go.Proofs.YtihmcgcgjmbmhaaGreat.T1
open Go.Proofs.Tryz
set_option maxHeartbeats 4000000
open Go.RowKit
set_option maxRecDepth 100000
set_option linter.unusedVariables false
set_option linter.unusedSimpArgs false
theorem arO (s:ByteArray)(hs:4<=s.size)(hs3:s.size<=700)(HK:Ze 116 #[.string s] (.int .u8 33))(w:World):Calls prog 197 #[.string s] w fun e w'=>e=.returned (.string (s.extract 0 1++s.extract 2 3))/\Zb w w':=by
 have H:=qz HK;clear HK
 go_enter func197,ntmps197
 go_wp2_with fail;refine(H.out _).mono ?_;rintro e w1 ⟨rfl,rfl⟩;go_wp2_with fail
 go_quiet (fail)
 go_wp2_with fail;go_ret;exact⟨rfl,aal (Below.refl _ _) _⟩
theorem arP (s:ByteArray)(hs:4<=s.size)(hs3:s.size<=700)(HK:Ze 116 #[.string s] (.int .u8 61))(w:World):Calls prog 197 #[.string s] w fun e w'=>e=.returned (.string (s.extract 1 2++s.extract 3 4))/\Zb w w':=by
 have H:=qz HK;clear HK
 go_enter func197,ntmps197
 go_wp2_with fail;refine(H.out _).mono ?_;rintro e w1 ⟨rfl,rfl⟩;go_wp2_with fail
 go_quiet (fail)
 go_wp2_with fail;go_ret;exact⟨rfl,aal (Below.refl _ _) _⟩
theorem aw3 (s:ByteArray)(hs:4<=s.size)(hs3:s.size<=700)(HK:Ze 116 #[.string s] (.int .u8 63))(w:World):Calls prog 197 #[.string s] w fun e w'=>e=.returned (.string (s.extract 0 1))/\Zb w w':=by
 have H:=qz HK;clear HK
 go_enter func197,ntmps197
 go_wp2_with fail;refine(H.out _).mono ?_;rintro e w1 ⟨rfl,rfl⟩;go_wp2_with fail;go_ret;exact⟨rfl,Below.refl _ _⟩
theorem amf (s:ByteArray)(kd:Int)(b0:(kd==33)=false)(b1:(kd==63)=false)(b2:(kd==61)=false)(HK:Ze 116 #[.string s] (.int .u8 kd))(w:World):Calls prog 197 #[.string s] w fun e w'=>e=.returned (.string ⟨#[]⟩)/\Zb w w':=by
 have H:=qz HK;clear HK
 go_enter func197,ntmps197
 go_wp2_with fail;refine(H.out _).mono ?_;rintro e w1 ⟨rfl,rfl⟩;go_wp2_with fail;go_ret;exact⟨rfl,Below.refl _ _⟩
theorem af2 (t:Tm)(i:Nat)(h:i<t.pr.length):(S t).extract i (i+1)=B [t.pr[i]]:=by
 apply asD
 rw[ByteArray.data_extract,Array.toList_extract,aaW,List.extract_eq_take_drop,show i+1 - i=1 by omega,List.drop_eq_getElem_cons h];rfl
theorem aw4 (l m:List UInt8):B l++B m=B (l++m):=by
 apply asD
 rw[ByteArray.data_append,Array.toList_append,aaQ,aaQ]
theorem ajJ (t:Tm)(ho:t.ok nmE=true)(hl:t.pr.length<=700)(w:World):Calls prog 197 #[.string (S t)] w fun e w'=>e=.returned (.string (B t.used))/\Zb w w':=by
 have HK:=aah t ho hl;have hs3:(S t).size<=700:=by rw[aaq];exact hl
 cases t with
 | snd a b p=>
  have h:=arO _ (by rw[aaq];simp[Tm.pr]) hs3 HK w;rw[af2 _ 0 (by simp[Tm.pr]),af2 _ 2 (by simp[Tm.pr]),aw4]at h;exact h
 | mat a b p=>
  have h:=arP _ (by rw[aaq];simp[Tm.pr]) hs3 HK w;rw[af2 _ 1 (by simp[Tm.pr]),af2 _ 3 (by simp[Tm.pr]),aw4]at h;exact h
 | rcv a x p=>
  have h:=aw3 _ (by rw[aaq];simp[Tm.pr]) hs3 HK w;rw[af2 _ 0 (by simp[Tm.pr])]at h;exact h
 | nil=>exact amf _ 48 (by decide) (by decide) (by decide) HK w
 | tau p=>exact amf _ 126 (by decide) (by decide) (by decide) HK w
 | sum p q=>exact amf _ 43 (by decide) (by decide) (by decide) HK w
 | par p q=>exact amf _ 38 (by decide) (by decide) (by decide) HK w
 | own x p=>exact amf _ 35 (by decide) (by decide) (by decide) HK w
 | rep p=>exact amf _ 42 (by decide) (by decide) (by decide) HK w
theorem aax {u v w:World}(h:Zb u v)(k:Zb v w):Zb u w:=aab h k h.size
def af3:Value->ByteArray
 | .string s=>s
 | _=>⟨#[]⟩
theorem auA (c:UInt8)(n:Nat)(hn:n<256)(h:c≠UInt8.ofNat n):(((c.toNat:Nat):Int)==(n:Int))=false:=by
 rw[beq_eq_false_iff_ne];intro e;exact h (u8_ext (by rw[UInt8.toNat_ofNat'];omega))
theorem ajK (t:Tm)(h:t.kind=61):∃a b p,t=.mat a b p:=by
 cases t<;>simp[Tm.kind]at h
 exact⟨_,_,_,rfl⟩
theorem apF (t:Tm)(h:t.kind≠61):t.strip=t:=by cases t<;>first|rfl|(exact absurd rfl h)
theorem aw5 (t p:Tm)(k:Nat)(h:t.parts=[p])(hk:t.hd=k):(S t).extract k (S t).size=S p:=by
 subst hk;refine am7 (aaW t) _ _ p ?_;rw[aaq]
 cases t<;>simp[Tm.parts]at h<;>subst h<;>simp[Tm.pr,Tm.hd]
theorem ady (t:Tm)(ho:t.ok nmE=true)(hl:t.pr.length<=700)(w:World):Calls prog 195 #[.string (S t)] w fun e w'=>e=.returned (.string (S t.strip))/\Zb w w':=by
 obtain⟨X0,hX0⟩:∃X,X=S t:=⟨_,rfl⟩;rw[<-hX0];have HX0:=qz hX0;have HO:=qz ho;have HL:=qz hl;clear hX0 ho hl
 go_enter func195,ntmps195
 go_wp2_with fail
 go_loopw [0] (fun v wr=>∃(u:Tm) (X:ByteArray),v=.string X/\Hid (X=S u)/\Hid (u.ok nmE=true)/\Hid (u.pr.length<=700)/\Hid (u.strip=t.strip)/\Zb w wr) (fun v _=>(af3 v).size)
 case atStart=>exact⟨t,X0,rfl,HX0,HO,HL,rfl,Below.refl _ _⟩
 case round=>
  obtain⟨u,X,rfl,hX,hu,hul,hs,hbw⟩:=hrel;have hK:Ze 116 #[.string X] (.int .u8 (u.kind.toNat:Int)):=by rw[hX.out];exact aah u hu.out hul.out
  have hx3:X.size<=700:=by rw[hX.out,aaq];exact hul.out
  by_cases hk:u.kind=61
  ·obtain⟨a,b,p,rfl⟩:=ajK u hk;have HK:Hid (Ze 116 #[.string X] (.int .u8 61)):=hK;have hsz:5<X.size:=by rw[hX.out,aaq];have:=pr_pos p;simp[Tm.pr];omega
   have h1:1<X.size:=by omega
   have h3:3<X.size:=by omega
   have e1:X[1]'h1=a:=by
    have:=aj8 (.mat a b p) 1 (by rw[<-hX.out];exact h1);simp only[hX.out];exact this
   have e3:X[3]'h3=b:=by
    have:=aj8 (.mat a b p) 3 (by rw[<-hX.out];exact h3);simp only[hX.out];exact this
   have hi1:(1:Int)<(X.size:Int):=by omega
   have hi3:(3:Int)<(X.size:Int):=by omega
   have hi5:(5:Int)<=(X.size:Int):=by omega
   have q:(((X[1]'h1).toNat:Int)==((X[3]'h3).toNat:Int))=decide (a=b):=by rw[e1,e3,b8_beq]
   by_cases hab:a=b
   ·rw[decide_eq_true hab]at q;have hP:Hid (X.extract 5 X.size=S p):=by show _=_;rw[hX.out];exact aw5 (.mat a b p) p 5 rfl rfl
    have hs2:Hid (p.strip=t.strip):=by have:=hs.out;simp only[Tm.strip]at this;rw[if_pos hab]at this;exact this
    have ho2:Hid (p.ok nmE=true):=by have:=hu.out;simp only[Tm.ok,bae]at this;exact this.2
    have hl2:Hid (p.pr.length<=700):=by have:=hul.out;simp only[Tm.pr,List.length_cons]at this;show _<=_;omega
    have hms:(X.extract 5 X.size).size<X.size:=by simp;omega
    clear hK hk e1 e3 hab hs hul hu;go_wp2_with fail
    go_quiet ((go_at_call 116;exact Calls.quiet_of_same ((HK.out _).mono fun _ _ hh=>⟨hh.1,hh.2.symm⟩)))
    go_wp2_with fail
    go_roundw
    case rel=>exact⟨p,_,rfl,hP,ho2,hl2,hs2,aal hbw _⟩
    case measure=>simp[af3];omega
   ·rw[decide_eq_false hab]at q
    have hs2:Hid (X=S t.strip):=by
     have:=hs.out;simp only[Tm.strip]at this;rw[if_neg hab]at this
     show _=_;rw[<-this];exact hX.out
    clear hK hk e1 e3 hab hs hul hu;go_wp2_with fail
    go_quiet ((go_at_call 116;exact Calls.quiet_of_same ((HK.out _).mono fun _ _ hh=>⟨hh.1,hh.2.symm⟩)))
    go_wp2_with fail;go_ret;exact⟨by rw[<-hs2.out];rfl,aal hbw _⟩
  ·have hs2:Hid (X=S t.strip):=by
    have:=hs.out;rw[apF u hk]at this
    show _=_;rw[<-this];exact hX.out
   obtain⟨kd,hkd⟩:∃kd,kd=((u.kind.toNat:Nat):Int):=⟨_,rfl⟩;have b1:(kd==61)=false:=by rw[hkd];exact auA _ 61 (by decide) hk
   rw[<-hkd]at hK;have HK:=qz hK;clear hK hk hkd hs hul hu;go_wp2_with fail
   go_quiet ((go_at_call 116;exact Calls.quiet_of_same ((HK.out _).mono fun _ _ hh=>⟨hh.1,hh.2.symm⟩)))
   go_wp2_with fail;go_ret;exact⟨by rw[<-hs2.out];rfl,aal hbw _⟩
theorem ayX (s0 s:ByteArray)  (HS:Zr 195 #[.string s0] (.string s))(HK:Ze 116 #[.string s] (.int .u8 48))(w:World):Calls prog 196 #[.string s0] w fun e w'=>e=.returned (.bool true)/\Zb w w':=by
 have HS':=qz HS;have HK':=qz HK;clear HS HK
 go_enter func196,ntmps196
 go_wp2_with fail;refine(HS'.out _).mono ?_;rintro e w1 ⟨rfl,b1⟩;go_wp2_with fail;refine(HK'.out _).mono ?_;rintro e w2 ⟨rfl,rfl⟩;go_wp2_with fail;go_ret;exact⟨rfl,b1⟩
theorem aw6 (s0 s:ByteArray)  (HS:Zr 195 #[.string s0] (.string s))(HK:Ze 116 #[.string s] (.int .u8 33))(w:World):Calls prog 196 #[.string s0] w fun e w'=>e=.returned (.bool false)/\Zb w w':=by
 have HS':=qz HS;have HK':=qz HK;clear HS HK
 go_enter func196,ntmps196
 go_wp2_with fail;refine(HS'.out _).mono ?_;rintro e w1 ⟨rfl,b1⟩;go_wp2_with fail;refine(HK'.out _).mono ?_;rintro e w2 ⟨rfl,rfl⟩;go_wp2_with fail;go_ret;exact⟨rfl,b1⟩
theorem aw7 (s0 s:ByteArray)  (HS:Zr 195 #[.string s0] (.string s))(HK:Ze 116 #[.string s] (.int .u8 63))(w:World):Calls prog 196 #[.string s0] w fun e w'=>e=.returned (.bool false)/\Zb w w':=by
 have HS':=qz HS;have HK':=qz HK;clear HS HK
 go_enter func196,ntmps196
 go_wp2_with fail;refine(HS'.out _).mono ?_;rintro e w1 ⟨rfl,b1⟩;go_wp2_with fail;refine(HK'.out _).mono ?_;rintro e w2 ⟨rfl,rfl⟩;go_wp2_with fail;go_ret;exact⟨rfl,b1⟩
theorem auB (s0 s:ByteArray)  (HS:Zr 195 #[.string s0] (.string s))(HK:Ze 116 #[.string s] (.int .u8 126))(w:World):Calls prog 196 #[.string s0] w fun e w'=>e=.returned (.bool false)/\Zb w w':=by
 have HS':=qz HS;have HK':=qz HK;clear HS HK
 go_enter func196,ntmps196
 go_wp2_with fail;refine(HS'.out _).mono ?_;rintro e w1 ⟨rfl,b1⟩;go_wp2_with fail;refine(HK'.out _).mono ?_;rintro e w2 ⟨rfl,rfl⟩;go_wp2_with fail;go_ret;exact⟨rfl,b1⟩
theorem auC (s0 s:ByteArray)(kd:Int)(k0:(kd==48)=false)(k1:(kd==33)=false)(k2:(kd==63)=false)(k3:(kd==126)=false)(u:ByteArray)(HS:Zr 195 #[.string s0] (.string s))(HK:Ze 116 #[.string s] (.int .u8 kd))(HP:∀w,Calls prog 117 #[.string s] w fun e w'=>∃b,e=.returned (.slice (some ⟨b,0,none⟩) 1 1)/\w.heap.size<=b/\w'.heap[b]?=some (.cells #[.string u] 9 (0,0))/\Zb w w')(H0:Zr 196 #[.string u] (.bool true))(w:World):Calls prog 196 #[.string s0] w fun e w'=>e=.returned (.bool true)/\Zb w w':=by
 have HS':=qz HS;have HK':=qz HK;have HP':=qz HP;have H0':=qz H0;clear HS HK HP H0
 go_enter func196,ntmps196
 go_wp2_with fail;refine(HS'.out _).mono ?_;rintro e w1 ⟨rfl,b1⟩;go_wp2_with fail;refine(HK'.out _).mono ?_;rintro e w2 ⟨rfl,rfl⟩;go_wp2_with fail;refine(HP'.out _).mono ?_;rintro e w3 ⟨b,rfl,hb,hh,b3⟩;have bl:=aax b1 b3;have c0:=aac hh;have Hh:=qz hh;clear hh hb b3;go_wp2_with fail;refine wp_loop_rounds 2 ?_;rw[rounds_succ];go_wp2_with fail;refine(H0'.out _).mono ?_;rintro e w4 ⟨rfl,b4⟩;replace bl:=aax bl b4;go_wp2_with fail;rw[rounds_succ];go_wp2_with fail;go_ret;exact⟨rfl,bl⟩
theorem auD (s0 s:ByteArray)(kd:Int)(k0:(kd==48)=false)(k1:(kd==33)=false)(k2:(kd==63)=false)(k3:(kd==126)=false)(u:ByteArray)(HS:Zr 195 #[.string s0] (.string s))(HK:Ze 116 #[.string s] (.int .u8 kd))(HP:∀w,Calls prog 117 #[.string s] w fun e w'=>∃b,e=.returned (.slice (some ⟨b,0,none⟩) 1 1)/\w.heap.size<=b/\w'.heap[b]?=some (.cells #[.string u] 9 (0,0))/\Zb w w')(H0:Zr 196 #[.string u] (.bool false))(w:World):Calls prog 196 #[.string s0] w fun e w'=>e=.returned (.bool false)/\Zb w w':=by
 have HS':=qz HS;have HK':=qz HK;have HP':=qz HP;have H0':=qz H0;clear HS HK HP H0
 go_enter func196,ntmps196
 go_wp2_with fail;refine(HS'.out _).mono ?_;rintro e w1 ⟨rfl,b1⟩;go_wp2_with fail;refine(HK'.out _).mono ?_;rintro e w2 ⟨rfl,rfl⟩;go_wp2_with fail;refine(HP'.out _).mono ?_;rintro e w3 ⟨b,rfl,hb,hh,b3⟩;have bl:=aax b1 b3;have c0:=aac hh;have Hh:=qz hh;clear hh hb b3;go_wp2_with fail;refine wp_loop_rounds 2 ?_;rw[rounds_succ];go_wp2_with fail;refine(H0'.out _).mono ?_;rintro e w4 ⟨rfl,b4⟩;replace bl:=aax bl b4;go_wp2_with fail;go_ret;exact⟨rfl,bl⟩
theorem aw8 (s0 s:ByteArray)(kd:Int)(k0:(kd==48)=false)(k1:(kd==33)=false)(k2:(kd==63)=false)(k3:(kd==126)=false)(u v:ByteArray)(HS:Zr 195 #[.string s0] (.string s))(HK:Ze 116 #[.string s] (.int .u8 kd))(HP:∀w,Calls prog 117 #[.string s] w fun e w'=>∃b,e=.returned (.slice (some ⟨b,0,none⟩) 2 2)/\w.heap.size<=b/\w'.heap[b]?=some (.cells #[.string u,.string v] 9 (0,0))/\Zb w w')(H0:Zr 196 #[.string u] (.bool false))(w:World):Calls prog 196 #[.string s0] w fun e w'=>e=.returned (.bool false)/\Zb w w':=by
 have HS':=qz HS;have HK':=qz HK;have HP':=qz HP;have H0':=qz H0;clear HS HK HP H0
 go_enter func196,ntmps196
 go_wp2_with fail;refine(HS'.out _).mono ?_;rintro e w1 ⟨rfl,b1⟩;go_wp2_with fail;refine(HK'.out _).mono ?_;rintro e w2 ⟨rfl,rfl⟩;go_wp2_with fail;refine(HP'.out _).mono ?_;rintro e w3 ⟨b,rfl,hb,hh,b3⟩;have bl:=aax b1 b3;have c0:=aaf hh;have Hh:=qz hh;clear hh hb b3;go_wp2_with fail;refine wp_loop_rounds 3 ?_;rw[rounds_succ];go_wp2_with fail;refine(H0'.out _).mono ?_;rintro e w4 ⟨rfl,b4⟩;replace bl:=aax bl b4;go_wp2_with fail;go_ret;exact⟨rfl,bl⟩
theorem asZ (s0 s:ByteArray)(kd:Int)(k0:(kd==48)=false)(k1:(kd==33)=false)(k2:(kd==63)=false)(k3:(kd==126)=false)(u v:ByteArray)(HS:Zr 195 #[.string s0] (.string s))(HK:Ze 116 #[.string s] (.int .u8 kd))(HP:∀w,Calls prog 117 #[.string s] w fun e w'=>∃b,e=.returned (.slice (some ⟨b,0,none⟩) 2 2)/\w.heap.size<=b/\w'.heap[b]?=some (.cells #[.string u,.string v] 9 (0,0))/\Zb w w')(H0:Zr 196 #[.string u] (.bool true))(H1:Zr 196 #[.string v] (.bool true))(w:World):Calls prog 196 #[.string s0] w fun e w'=>e=.returned (.bool true)/\Zb w w':=by
 have HS':=qz HS;have HK':=qz HK;have HP':=qz HP;have H0':=qz H0;have H1':=qz H1;clear HS HK HP H0 H1
 go_enter func196,ntmps196
 go_wp2_with fail;refine(HS'.out _).mono ?_;rintro e w1 ⟨rfl,b1⟩;go_wp2_with fail;refine(HK'.out _).mono ?_;rintro e w2 ⟨rfl,rfl⟩;go_wp2_with fail;refine(HP'.out _).mono ?_;rintro e w3 ⟨b,rfl,hb,hh,b3⟩;have bl:=aax b1 b3;have c0:=aaf hh;have Hh:=qz hh;clear hh hb b3;go_wp2_with fail;refine wp_loop_rounds 3 ?_;rw[rounds_succ];go_wp2_with fail;refine(H0'.out _).mono ?_;rintro e w4 ⟨rfl,b4⟩;replace bl:=aax bl b4;have h4:=(b4.block b (lt_of_block Hh.out)).trans Hh.out;clear c0;have c1:=aak h4;clear h4 b4;go_wp2_with fail;rw[rounds_succ];go_wp2_with fail;refine(H1'.out _).mono ?_;rintro e w5 ⟨rfl,b5⟩;replace bl:=aax bl b5;go_wp2_with fail;rw[rounds_succ];go_wp2_with fail;go_ret;exact⟨rfl,bl⟩
theorem as0 (s0 s:ByteArray)(kd:Int)(k0:(kd==48)=false)(k1:(kd==33)=false)(k2:(kd==63)=false)(k3:(kd==126)=false)(u v:ByteArray)(HS:Zr 195 #[.string s0] (.string s))(HK:Ze 116 #[.string s] (.int .u8 kd))(HP:∀w,Calls prog 117 #[.string s] w fun e w'=>∃b,e=.returned (.slice (some ⟨b,0,none⟩) 2 2)/\w.heap.size<=b/\w'.heap[b]?=some (.cells #[.string u,.string v] 9 (0,0))/\Zb w w')(H0:Zr 196 #[.string u] (.bool true))(H1:Zr 196 #[.string v] (.bool false))(w:World):Calls prog 196 #[.string s0] w fun e w'=>e=.returned (.bool false)/\Zb w w':=by
 have HS':=qz HS;have HK':=qz HK;have HP':=qz HP;have H0':=qz H0;have H1':=qz H1;clear HS HK HP H0 H1
 go_enter func196,ntmps196
 go_wp2_with fail;refine(HS'.out _).mono ?_;rintro e w1 ⟨rfl,b1⟩;go_wp2_with fail;refine(HK'.out _).mono ?_;rintro e w2 ⟨rfl,rfl⟩;go_wp2_with fail;refine(HP'.out _).mono ?_;rintro e w3 ⟨b,rfl,hb,hh,b3⟩;have bl:=aax b1 b3;have c0:=aaf hh;have Hh:=qz hh;clear hh hb b3;go_wp2_with fail;refine wp_loop_rounds 3 ?_;rw[rounds_succ];go_wp2_with fail;refine(H0'.out _).mono ?_;rintro e w4 ⟨rfl,b4⟩;replace bl:=aax bl b4;have h4:=(b4.block b (lt_of_block Hh.out)).trans Hh.out;clear c0;have c1:=aak h4;clear h4 b4;go_wp2_with fail;rw[rounds_succ];go_wp2_with fail;refine(H1'.out _).mono ?_;rintro e w5 ⟨rfl,b5⟩;replace bl:=aax bl b5;go_wp2_with fail;go_ret;exact⟨rfl,bl⟩
theorem adi (n:Nat):∀(t:Tm),t.size<=n->t.ok nmE=true->t.pr.length<=700->Zr 196 #[.string (S t)] (.bool t.dead):=by
 induction n with
 | zero=>intro t h;have:=aao t;omega
 | succ n ih=>
  intro t hn ho hl w;obtain⟨s1,s2,s3,_,_⟩:=afz t;have hS:=ady t ho hl;have hne:=ahl t;rw[<-agP t];have ho2:=s1 nmE ho;obtain⟨u,hu⟩:∃u,u=t.strip:=⟨_,rfl⟩;rw[<-hu]at hS ho2 s2 s3 hne ⊢;have hl2:u.pr.length<=700:=by omega
  have hK:=aah u ho2 hl2;have hP:=aaj u ho2 hl2;clear hu s1
  cases u with
  | nil=>exact ayX _ _ hS hK w
  | snd a b p=>exact aw6 _ _ hS hK w
  | rcv a x p=>exact aw7 _ _ hS hK w
  | tau p=>exact auB _ _ hS hK w
  | own x p=>
   simp only[Tm.ok,bae]at ho2;simp only[Tm.pr,List.length_cons]at hl2;simp only[Tm.size]at s3;have hI:=ih p (by omega) ho2.2 (by omega);simp only[Tm.dead]
   cases hd:p.dead with
   | true=>rw[hd]at hI;exact auC _ _ 35 (by decide) (by decide) (by decide) (by decide) _ hS hK hP hI w
   | false=>rw[hd]at hI;exact auD _ _ 35 (by decide) (by decide) (by decide) (by decide) _ hS hK hP hI w
  | mat a b p=>
   simp only[Tm.ok,bae]at ho2;simp only[Tm.pr,List.length_cons]at hl2;simp only[Tm.size]at s3;have hI:=ih p (by omega) ho2.2 (by omega);simp only[Tm.dead]
   cases hd:p.dead with
   | true=>rw[hd]at hI;exact auC _ _ 61 (by decide) (by decide) (by decide) (by decide) _ hS hK hP hI w
   | false=>rw[hd]at hI;exact auD _ _ 61 (by decide) (by decide) (by decide) (by decide) _ hS hK hP hI w
  | rep p=>
   simp only[Tm.ok,bae]at ho2;simp only[Tm.pr,List.length_cons]at hl2;simp only[Tm.size]at s3;have hI:=ih p (by omega) ho2 (by omega);simp only[Tm.dead]
   cases hd:p.dead with
   | true=>rw[hd]at hI;exact auC _ _ 42 (by decide) (by decide) (by decide) (by decide) _ hS hK hP hI w
   | false=>rw[hd]at hI;exact auD _ _ 42 (by decide) (by decide) (by decide) (by decide) _ hS hK hP hI w
  | sum p q=>
   simp only[Tm.ok,bae]at ho2;simp only[Tm.pr,List.length_cons,lla]at hl2;simp only[Tm.size]at s3;have hI:=ih p (by omega) ho2.1 (by omega);have hI2:=ih q (by omega) ho2.2 (by omega);simp only[Tm.dead]
   cases hd:p.dead with
   | false=>rw[hd]at hI;exact aw8 _ _ 43 (by decide) (by decide) (by decide) (by decide) _ _ hS hK hP hI w
   | true=>
    rw[hd]at hI;simp only[Bool.true_and]
    cases hd2:q.dead with
    | true=>rw[hd2]at hI2;exact asZ _ _ 43 (by decide) (by decide) (by decide) (by decide) _ _ hS hK hP hI hI2 w
    | false=>rw[hd2]at hI2;exact as0 _ _ 43 (by decide) (by decide) (by decide) (by decide) _ _ hS hK hP hI hI2 w
  | par p q=>
   simp only[Tm.ok,bae]at ho2;simp only[Tm.pr,List.length_cons,lla]at hl2;simp only[Tm.size]at s3;have hI:=ih p (by omega) ho2.1 (by omega);have hI2:=ih q (by omega) ho2.2 (by omega);simp only[Tm.dead]
   cases hd:p.dead with
   | false=>rw[hd]at hI;exact aw8 _ _ 38 (by decide) (by decide) (by decide) (by decide) _ _ hS hK hP hI w
   | true=>
    rw[hd]at hI;simp only[Bool.true_and]
    cases hd2:q.dead with
    | true=>rw[hd2]at hI2;exact asZ _ _ 38 (by decide) (by decide) (by decide) (by decide) _ _ hS hK hP hI hI2 w
    | false=>rw[hd2]at hI2;exact as0 _ _ 38 (by decide) (by decide) (by decide) (by decide) _ _ hS hK hP hI hI2 w
theorem auE (s0 s:ByteArray)  (HS:Zr 195 #[.string s0] (.string s))(HD:Zr 196 #[.string s] (.bool true))(w:World):Calls prog 167 #[.string s0] w fun e w'=>e=.returned (.string ⟨#[]⟩)/\Zb w w':=by
 have HS':=qz HS;have HD':=qz HD;clear HS HD
 go_enter func167,ntmps167
 go_wp2_with fail;refine(HS'.out _).mono ?_;rintro e w1 ⟨rfl,b1⟩;have bl:=b1;clear b1;go_wp2_with fail;refine(HD'.out _).mono ?_;rintro e w2 ⟨rfl,b2⟩;replace bl:=aax bl b2;go_wp2_with fail;go_ret;exact⟨rfl,bl⟩
theorem as1 (s0 s:ByteArray)(u U1 X1:ByteArray)(A:ByteArray)(a b:UInt8)(hA:A.data.toList=[a,b])(Z0:ByteArray)(Z1:ByteArray)(HS:Zr 195 #[.string s0] (.string s))(HD:Zr 196 #[.string s] (.bool false))(HP:∀w,Calls prog 117 #[.string s] w fun e w'=>∃b,e=.returned (.slice (some ⟨b,0,none⟩) 1 1)/\w.heap.size<=b/\w'.heap[b]?=some (.cells #[.string u] 9 (0,0))/\Zb w w')(HU0:Zr 167 #[.string u] (.string U1))(HX0:Zr 124 #[.string ⟨#[]⟩,.string U1] (.string X1))(HB:Ze 122 #[.string s] (.tuple #[.int .u8 0,.bool false]))(HN:Zr 197 #[.string s] (.string A))(HA0:Zr 169 #[.string X1,.int .u8 (a.toNat:Int)] (.string Z0))(HA1:Zr 169 #[.string Z0,.int .u8 (b.toNat:Int)] (.string Z1))(w:World):Calls prog 167 #[.string s0] w fun e w'=>e=.returned (.string Z1)/\Zb w w':=by
 have HS':=qz HS;have HD':=qz HD;have HP':=qz HP;have HU0':=qz HU0;have HX0':=qz HX0;have HB':=qz HB;have HN':=qz HN;have HA0':=qz HA0;have HA1':=qz HA1;have HAA:=qz hA;clear hA HS HD HP HU0 HX0 HB HN HA0 HA1
 go_enter func167,ntmps167
 go_wp2_with fail;refine(HS'.out _).mono ?_;rintro e w1 ⟨rfl,b1⟩;have bl:=b1;clear b1;go_wp2_with fail;refine(HD'.out _).mono ?_;rintro e w2 ⟨rfl,b2⟩;replace bl:=aax bl b2;go_wp2_with fail;refine(HP'.out _).mono ?_;rintro e w3 ⟨b,rfl,hb,hh,b3⟩;replace bl:=aax bl b3;have c0:=aac hh;have Hh:=qz hh;clear hh hb b3;go_wp2_with fail;refine wp_loop_rounds 2 ?_;rw[rounds_succ];go_wp2_with fail;refine(HU0'.out _).mono ?_;rintro e w4 ⟨rfl,b4⟩;replace bl:=aax bl b4;clear c0;go_wp2_with fail;refine(HX0'.out _).mono ?_;rintro e w5 ⟨rfl,b5⟩;replace bl:=aax bl b5;go_wp2_with fail;rw[rounds_succ];go_wp2_with fail;refine(HB'.out _).mono ?_;rintro e w8 ⟨rfl,rfl⟩;go_wp2_with fail;refine(HN'.out _).mono ?_;rintro e w10 ⟨rfl,b10⟩;replace bl:=aax bl b10;obtain⟨cap,W,hcv,bW,hr⟩:=aaF A _ 2 HAA.out rfl w10;replace bl:=aax bl bW;have Hr:=qz hr;obtain⟨g,hg⟩:∃g,g=w10.heap.size:=⟨_,rfl⟩;rw[<-hg]at hcv Hr;clear hr bW hg;go_wp2_with fail;clear hcv;refine wp_loop_rounds 3 ?_;rw[rounds_succ];have q0:=Hr.out.cell 0 (by simp);simp only[List.getElem_cons_zero,List.getElem_cons_succ]at q0;go_wp2_with fail;refine(HA0'.out _).mono ?_;rintro e w11 ⟨rfl,b11⟩;replace bl:=aax bl b11;replace Hr:=qz (Hr.out.below b11);clear q0;go_wp2_with fail;rw[rounds_succ];have q1:=Hr.out.cell 1 (by simp);simp only[List.getElem_cons_zero,List.getElem_cons_succ]at q1;go_wp2_with fail;refine(HA1'.out _).mono ?_;rintro e w12 ⟨rfl,b12⟩;replace bl:=aax bl b12;replace Hr:=qz (Hr.out.below b12);clear q1;go_wp2_with fail;rw[rounds_succ];go_wp2_with fail;go_ret;exact⟨rfl,bl⟩
theorem aw9 (s0 s:ByteArray)(u U1 X1:ByteArray)(Y:ByteArray)(x:Int)(A:ByteArray)(a:UInt8)(hA:A.data.toList=[a])(Z0:ByteArray)(HS:Zr 195 #[.string s0] (.string s))(HD:Zr 196 #[.string s] (.bool false))(HP:∀w,Calls prog 117 #[.string s] w fun e w'=>∃b,e=.returned (.slice (some ⟨b,0,none⟩) 1 1)/\w.heap.size<=b/\w'.heap[b]?=some (.cells #[.string u] 9 (0,0))/\Zb w w')(HU0:Zr 167 #[.string u] (.string U1))(HX0:Zr 124 #[.string ⟨#[]⟩,.string U1] (.string X1))(HB:Ze 122 #[.string s] (.tuple #[.int .u8 x,.bool true]))(HL:Ze 168 #[.string X1,.int .u8 x] (.string Y))(HN:Zr 197 #[.string s] (.string A))(HA0:Zr 169 #[.string Y,.int .u8 (a.toNat:Int)] (.string Z0))(w:World):Calls prog 167 #[.string s0] w fun e w'=>e=.returned (.string Z0)/\Zb w w':=by
 have HS':=qz HS;have HD':=qz HD;have HP':=qz HP;have HU0':=qz HU0;have HX0':=qz HX0;have HB':=qz HB;have HL':=qz HL;have HN':=qz HN;have HA0':=qz HA0;have HAA:=qz hA;clear hA HS HD HP HU0 HX0 HB HL HN HA0
 go_enter func167,ntmps167
 go_wp2_with fail;refine(HS'.out _).mono ?_;rintro e w1 ⟨rfl,b1⟩;have bl:=b1;clear b1;go_wp2_with fail;refine(HD'.out _).mono ?_;rintro e w2 ⟨rfl,b2⟩;replace bl:=aax bl b2;go_wp2_with fail;refine(HP'.out _).mono ?_;rintro e w3 ⟨b,rfl,hb,hh,b3⟩;replace bl:=aax bl b3;have c0:=aac hh;have Hh:=qz hh;clear hh hb b3;go_wp2_with fail;refine wp_loop_rounds 2 ?_;rw[rounds_succ];go_wp2_with fail;refine(HU0'.out _).mono ?_;rintro e w4 ⟨rfl,b4⟩;replace bl:=aax bl b4;clear c0;go_wp2_with fail;refine(HX0'.out _).mono ?_;rintro e w5 ⟨rfl,b5⟩;replace bl:=aax bl b5;go_wp2_with fail;rw[rounds_succ];go_wp2_with fail;refine(HB'.out _).mono ?_;rintro e w8 ⟨rfl,rfl⟩;go_wp2_with fail;refine(HL'.out _).mono ?_;rintro e w9 ⟨rfl,rfl⟩;go_wp2_with fail;refine(HN'.out _).mono ?_;rintro e w10 ⟨rfl,b10⟩;replace bl:=aax bl b10;obtain⟨cap,W,hcv,bW,hr⟩:=aaF A _ 1 HAA.out rfl w10;replace bl:=aax bl bW;have Hr:=qz hr;obtain⟨g,hg⟩:∃g,g=w10.heap.size:=⟨_,rfl⟩;rw[<-hg]at hcv Hr;clear hr bW hg;go_wp2_with fail;clear hcv;refine wp_loop_rounds 2 ?_;rw[rounds_succ];have q0:=Hr.out.cell 0 (by simp);simp only[List.getElem_cons_zero,List.getElem_cons_succ]at q0;go_wp2_with fail;refine(HA0'.out _).mono ?_;rintro e w11 ⟨rfl,b11⟩;replace bl:=aax bl b11;replace Hr:=qz (Hr.out.below b11);clear q0;go_wp2_with fail;rw[rounds_succ];go_wp2_with fail;go_ret;exact⟨rfl,bl⟩
theorem aw_ (s0 s:ByteArray)(u U1 X1:ByteArray)(Y:ByteArray)(x:Int)(A:ByteArray)(a:UInt8)(hA:A.data.toList=[])(HS:Zr 195 #[.string s0] (.string s))(HD:Zr 196 #[.string s] (.bool false))(HP:∀w,Calls prog 117 #[.string s] w fun e w'=>∃b,e=.returned (.slice (some ⟨b,0,none⟩) 1 1)/\w.heap.size<=b/\w'.heap[b]?=some (.cells #[.string u] 9 (0,0))/\Zb w w')(HU0:Zr 167 #[.string u] (.string U1))(HX0:Zr 124 #[.string ⟨#[]⟩,.string U1] (.string X1))(HB:Ze 122 #[.string s] (.tuple #[.int .u8 x,.bool true]))(HL:Ze 168 #[.string X1,.int .u8 x] (.string Y))(HN:Zr 197 #[.string s] (.string A))(w:World):Calls prog 167 #[.string s0] w fun e w'=>e=.returned (.string Y)/\Zb w w':=by
 have HS':=qz HS;have HD':=qz HD;have HP':=qz HP;have HU0':=qz HU0;have HX0':=qz HX0;have HB':=qz HB;have HL':=qz HL;have HN':=qz HN;have HAA:=qz hA;clear hA HS HD HP HU0 HX0 HB HL HN
 go_enter func167,ntmps167
 go_wp2_with fail;refine(HS'.out _).mono ?_;rintro e w1 ⟨rfl,b1⟩;have bl:=b1;clear b1;go_wp2_with fail;refine(HD'.out _).mono ?_;rintro e w2 ⟨rfl,b2⟩;replace bl:=aax bl b2;go_wp2_with fail;refine(HP'.out _).mono ?_;rintro e w3 ⟨b,rfl,hb,hh,b3⟩;replace bl:=aax bl b3;have c0:=aac hh;have Hh:=qz hh;clear hh hb b3;go_wp2_with fail;refine wp_loop_rounds 2 ?_;rw[rounds_succ];go_wp2_with fail;refine(HU0'.out _).mono ?_;rintro e w4 ⟨rfl,b4⟩;replace bl:=aax bl b4;clear c0;go_wp2_with fail;refine(HX0'.out _).mono ?_;rintro e w5 ⟨rfl,b5⟩;replace bl:=aax bl b5;go_wp2_with fail;rw[rounds_succ];go_wp2_with fail;refine(HB'.out _).mono ?_;rintro e w8 ⟨rfl,rfl⟩;go_wp2_with fail;refine(HL'.out _).mono ?_;rintro e w9 ⟨rfl,rfl⟩;go_wp2_with fail;refine(HN'.out _).mono ?_;rintro e w10 ⟨rfl,b10⟩;replace bl:=aax bl b10;obtain⟨cap,W,hcv,bW,hr⟩:=aaF A _ 0 HAA.out rfl w10;replace bl:=aax bl bW;have Hr:=qz hr;obtain⟨g,hg⟩:∃g,g=w10.heap.size:=⟨_,rfl⟩;rw[<-hg]at hcv Hr;clear hr bW hg;go_wp2_with fail;clear hcv;refine wp_loop_rounds 1 ?_;rw[rounds_succ];go_wp2_with fail;go_ret;exact⟨rfl,bl⟩
theorem as2 (s0 s:ByteArray)(u U1 X1:ByteArray)(A:ByteArray)(a:UInt8)(hA:A.data.toList=[])(HS:Zr 195 #[.string s0] (.string s))(HD:Zr 196 #[.string s] (.bool false))(HP:∀w,Calls prog 117 #[.string s] w fun e w'=>∃b,e=.returned (.slice (some ⟨b,0,none⟩) 1 1)/\w.heap.size<=b/\w'.heap[b]?=some (.cells #[.string u] 9 (0,0))/\Zb w w')(HU0:Zr 167 #[.string u] (.string U1))(HX0:Zr 124 #[.string ⟨#[]⟩,.string U1] (.string X1))(HB:Ze 122 #[.string s] (.tuple #[.int .u8 0,.bool false]))(HN:Zr 197 #[.string s] (.string A))(w:World):Calls prog 167 #[.string s0] w fun e w'=>e=.returned (.string X1)/\Zb w w':=by
 have HS':=qz HS;have HD':=qz HD;have HP':=qz HP;have HU0':=qz HU0;have HX0':=qz HX0;have HB':=qz HB;have HN':=qz HN;have HAA:=qz hA;clear hA HS HD HP HU0 HX0 HB HN
 go_enter func167,ntmps167
 go_wp2_with fail;refine(HS'.out _).mono ?_;rintro e w1 ⟨rfl,b1⟩;have bl:=b1;clear b1;go_wp2_with fail;refine(HD'.out _).mono ?_;rintro e w2 ⟨rfl,b2⟩;replace bl:=aax bl b2;go_wp2_with fail;refine(HP'.out _).mono ?_;rintro e w3 ⟨b,rfl,hb,hh,b3⟩;replace bl:=aax bl b3;have c0:=aac hh;have Hh:=qz hh;clear hh hb b3;go_wp2_with fail;refine wp_loop_rounds 2 ?_;rw[rounds_succ];go_wp2_with fail;refine(HU0'.out _).mono ?_;rintro e w4 ⟨rfl,b4⟩;replace bl:=aax bl b4;clear c0;go_wp2_with fail;refine(HX0'.out _).mono ?_;rintro e w5 ⟨rfl,b5⟩;replace bl:=aax bl b5;go_wp2_with fail;rw[rounds_succ];go_wp2_with fail;refine(HB'.out _).mono ?_;rintro e w8 ⟨rfl,rfl⟩;go_wp2_with fail;refine(HN'.out _).mono ?_;rintro e w10 ⟨rfl,b10⟩;replace bl:=aax bl b10;obtain⟨cap,W,hcv,bW,hr⟩:=aaF A _ 0 HAA.out rfl w10;replace bl:=aax bl bW;have Hr:=qz hr;obtain⟨g,hg⟩:∃g,g=w10.heap.size:=⟨_,rfl⟩;rw[<-hg]at hcv Hr;clear hr bW hg;go_wp2_with fail;clear hcv;refine wp_loop_rounds 1 ?_;rw[rounds_succ];go_wp2_with fail;go_ret;exact⟨rfl,bl⟩
theorem as3 (s0 s:ByteArray)(u v U1 U2 X1 X2:ByteArray)(A:ByteArray)(a:UInt8)(hA:A.data.toList=[])(HS:Zr 195 #[.string s0] (.string s))(HD:Zr 196 #[.string s] (.bool false))(HP:∀w,Calls prog 117 #[.string s] w fun e w'=>∃b,e=.returned (.slice (some ⟨b,0,none⟩) 2 2)/\w.heap.size<=b/\w'.heap[b]?=some (.cells #[.string u,.string v] 9 (0,0))/\Zb w w')(HU0:Zr 167 #[.string u] (.string U1))(HX0:Zr 124 #[.string ⟨#[]⟩,.string U1] (.string X1))(HU1:Zr 167 #[.string v] (.string U2))(HX1:Zr 124 #[.string X1,.string U2] (.string X2))(HB:Ze 122 #[.string s] (.tuple #[.int .u8 0,.bool false]))(HN:Zr 197 #[.string s] (.string A))(w:World):Calls prog 167 #[.string s0] w fun e w'=>e=.returned (.string X2)/\Zb w w':=by
 have HS':=qz HS;have HD':=qz HD;have HP':=qz HP;have HU0':=qz HU0;have HX0':=qz HX0;have HU1':=qz HU1;have HX1':=qz HX1;have HB':=qz HB;have HN':=qz HN;have HAA:=qz hA;clear hA HS HD HP HU0 HX0 HU1 HX1 HB HN
 go_enter func167,ntmps167
 go_wp2_with fail;refine(HS'.out _).mono ?_;rintro e w1 ⟨rfl,b1⟩;have bl:=b1;clear b1;go_wp2_with fail;refine(HD'.out _).mono ?_;rintro e w2 ⟨rfl,b2⟩;replace bl:=aax bl b2;go_wp2_with fail;refine(HP'.out _).mono ?_;rintro e w3 ⟨b,rfl,hb,hh,b3⟩;replace bl:=aax bl b3;have c0:=aaf hh;have Hh:=qz hh;clear hh hb b3;go_wp2_with fail;refine wp_loop_rounds 3 ?_;rw[rounds_succ];go_wp2_with fail;refine(HU0'.out _).mono ?_;rintro e w4 ⟨rfl,b4⟩;replace bl:=aax bl b4;have h4:=(b4.block b (lt_of_block Hh.out)).trans Hh.out;clear c0;have H4:=qz h4;clear h4;go_wp2_with fail;refine(HX0'.out _).mono ?_;rintro e w5 ⟨rfl,b5⟩;replace bl:=aax bl b5;have h5:=(b5.block b (lt_of_block H4.out)).trans H4.out;have c1:=aak h5;clear h5;go_wp2_with fail;rw[rounds_succ];go_wp2_with fail;refine(HU1'.out _).mono ?_;rintro e w6 ⟨rfl,b6⟩;replace bl:=aax bl b6;clear c1;go_wp2_with fail;refine(HX1'.out _).mono ?_;rintro e w7 ⟨rfl,b7⟩;replace bl:=aax bl b7;go_wp2_with fail;rw[rounds_succ];go_wp2_with fail;refine(HB'.out _).mono ?_;rintro e w8 ⟨rfl,rfl⟩;go_wp2_with fail;refine(HN'.out _).mono ?_;rintro e w10 ⟨rfl,b10⟩;replace bl:=aax bl b10;obtain⟨cap,W,hcv,bW,hr⟩:=aaF A _ 0 HAA.out rfl w10;replace bl:=aax bl bW;have Hr:=qz hr;obtain⟨g,hg⟩:∃g,g=w10.heap.size:=⟨_,rfl⟩;rw[<-hg]at hcv Hr;clear hr bW hg;go_wp2_with fail;clear hcv;refine wp_loop_rounds 1 ?_;rw[rounds_succ];go_wp2_with fail;go_ret;exact⟨rfl,bl⟩
theorem arQ (t:Tm)(h:t.dead=true):t.strip.usd=[]:=by
 rw[afA]
 induction t with
 | nil=>rfl
 | snd a b p ih=>cases h
 | rcv a x p ih=>cases h
 | tau p ih=>cases h
 | sum p q ih ih2=>simp only[Tm.dead]at h;simp only[Tm.usd];rw[if_pos h]
 | par p q ih ih2=>simp only[Tm.dead]at h;simp only[Tm.usd];rw[if_pos h]
 | own x p ih=>simp only[Tm.dead]at h;simp only[Tm.usd];rw[if_pos h]
 | mat a b p ih=>simp only[Tm.dead]at h;simp only[Tm.usd];split;exact ih h;first|rfl|rw[if_pos h]
 | rep p ih=>simp only[Tm.dead]at h;simp only[Tm.usd];rw[if_pos h]
theorem ac3 (l m:List UInt8)(hl:Srt l)(hm:Srt m)(w:World):Calls prog 124 #[.string (B l),.string (B m)] w fun e w'=>e=.returned (.string (B (bothL l m)))/\Zb w w':=by
 have:=ab2 l (B m) hl (by rw[aa1];have:=abz hm;omega) w;rw[aaQ]at this
 exact this
theorem af4 (l:List UInt8)(c:UInt8)(hl:Srt l)(w:World):Calls prog 169 #[.string (B l),.int .u8 (c.toNat:Int)] w fun e w'=>e=.returned (.string (B (addL l c)))/\Zb w w':=by
 have:=aft (B l) c (by rw[aa1];have:=abz hl;omega) w;rw[aaQ]at this
 exact this
theorem as4 (l:List UInt8)(c:UInt8)(hl:Srt l)(w:World):Calls prog 168 #[.string (B l),.int .u8 (c.toNat:Int)] w fun e w'=>e=.returned (.string (B (abI l c)))/\w=w':=by
 have:=aes (B l) c (by rw[aa1];have:=abz hl;omega) w;rw[aaQ]at this
 exact this
theorem aeM (n:Nat):∀(t:Tm),t.size<=n->t.ok nmE=true->t.pr.length<=700->Zr 167 #[.string (S t)] (.string (B t.usd)):=by
 induction n with
 | zero=>intro t h;have:=aao t;omega
 | succ n ih=>
  intro t hn ho hl w;obtain⟨s1,s2,s3,_,_⟩:=afz t;have hS:=ady t ho hl;have hne:=ahl t;rw[<-afA t];have ho2:=s1 nmE ho;have hdd:=arQ t;rw[<-agP t]at hdd;obtain⟨u,hu⟩:∃u,u=t.strip:=⟨_,rfl⟩;rw[<-hu]at hS ho2 s2 s3 hne hdd ⊢;have hl2:u.pr.length<=700:=by omega
  have hD:=adi u.size u (nl _) ho2 hl2;have hP:=aaj u ho2 hl2;have hB:=aa2 u ho2 hl2;have hN:=ajJ u ho2 hl2;have e0:=aay;clear hu s1
  cases hdu:u.dead with
  | true=>
   rw[hdu]at hD;rw[hdd hdu];exact auE _ _ hS hD w
  | false=>
   rw[hdu]at hD
   cases u with
   | nil=>cases hdu
   | snd a b p=>
    simp only[Tm.ok,bae]at ho2;simp only[Tm.pr,List.length_cons]at hl2;simp only[Tm.size]at s3;have hI:=ih p (by omega) ho2.2 (by omega);have hsb:=aap p.usd aay;exact as1 _ _ _ _ _ _ _ _ (aaQ _) _ _ hS hD hP hI (ac3 [] p.usd aay (abo p)) hB hN (af4 _ a hsb) (af4 _ b (srt_addL hsb a)) w
   | mat a b p=>
    simp only[Tm.ok,bae]at ho2;simp only[Tm.pr,List.length_cons]at hl2;simp only[Tm.size]at s3;have hI:=ih p (by omega) ho2.2 (by omega);have hsb:=aap p.usd aay;have hab:¬a=b:=fun e=>hne a p (by rw[e]);simp only[Tm.dead]at hdu;simp only[Tm.usd];rw[if_neg hab,hdu];exact as1 _ _ _ _ _ _ _ _ (aaQ _) _ _ hS hD hP hI (ac3 [] p.usd aay (abo p)) hB hN (af4 _ a hsb) (af4 _ b (srt_addL hsb a)) w
   | rcv a x p=>
    simp only[Tm.ok,bae]at ho2;simp only[Tm.pr,List.length_cons]at hl2;simp only[Tm.size]at s3;have hI:=ih p (by omega) ho2.2 (by omega);have hsb:=aap p.usd aay;exact aw9 _ _ _ _ _ _ _ _ _ (aaQ _) _ hS hD hP hI (ac3 [] p.usd aay (abo p)) hB (as4 _ x hsb) hN (af4 _ a (ab7 hsb x)) w
   | own x p=>
    simp only[Tm.ok,bae]at ho2;simp only[Tm.pr,List.length_cons]at hl2;simp only[Tm.size]at s3;have hI:=ih p (by omega) ho2.2 (by omega);have hsb:=aap p.usd aay;simp only[Tm.dead]at hdu;simp only[Tm.usd];rw[hdu];exact aw_ _ _ _ _ _ _ _ _ 0 (aaQ _) hS hD hP hI (ac3 [] p.usd aay (abo p)) hB (as4 _ x hsb) hN w
   | tau p=>
    simp only[Tm.ok,bae]at ho2;simp only[Tm.pr,List.length_cons]at hl2;simp only[Tm.size]at s3;have hI:=ih p (by omega) ho2 (by omega);have hsb:=aap p.usd aay;exact as2 _ _ _ _ _ _ 0 (aaQ _) hS hD hP hI (ac3 [] p.usd aay (abo p)) hB hN w
   | rep p=>
    simp only[Tm.ok,bae]at ho2;simp only[Tm.pr,List.length_cons]at hl2;simp only[Tm.size]at s3;have hI:=ih p (by omega) ho2 (by omega);have hsb:=aap p.usd aay;simp only[Tm.dead]at hdu;simp only[Tm.usd];rw[hdu];exact as2 _ _ _ _ _ _ 0 (aaQ _) hS hD hP hI (ac3 [] p.usd aay (abo p)) hB hN w
   | sum p q=>
    simp only[Tm.ok,bae]at ho2;simp only[Tm.pr,List.length_cons,lla]at hl2;simp only[Tm.size]at s3;have hI:=ih p (by omega) ho2.1 (by omega);have hI2:=ih q (by omega) ho2.2 (by omega);simp only[Tm.dead]at hdu;simp only[Tm.usd];rw[hdu];exact as3 _ _ _ _ _ _ _ _ _ 0 (aaQ _) hS hD hP hI (ac3 [] p.usd aay (abo p)) hI2 (ac3 _ q.usd (aap _ aay) (abo q)) hB hN w
   | par p q=>
    simp only[Tm.ok,bae]at ho2;simp only[Tm.pr,List.length_cons,lla]at hl2;simp only[Tm.size]at s3;have hI:=ih p (by omega) ho2.1 (by omega);have hI2:=ih q (by omega) ho2.2 (by omega);simp only[Tm.dead]at hdu;simp only[Tm.usd];rw[hdu];exact as3 _ _ _ _ _ _ _ _ _ 0 (aaQ _) hS hD hP hI (ac3 [] p.usd aay (abo p)) hI2 (ac3 _ q.usd (aap _ aay) (abo q)) hB hN w
end Go.Proofs.YtihmcgcgjmbmhaaGreat.T1
