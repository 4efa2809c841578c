/- Texts of the proof. No conditions. -/
import Derived.Test.YtalegefnppbkdaaGreatQbf
namespace Go.Proofs.YtalegefnppbkdaaGreat.T1
open Go.Proofs.Tryz
set_option maxHeartbeats 8000000
open Go.RowKit
set_option maxRecDepth 100000
set_option linter.unusedVariables false
set_option linter.unusedSimpArgs false
theorem ab2 (ps:List Tm)(w:World)(e:Ending)(w':World)(h:PartsS ps w e w'):∃v,e=.returned v/\Zb w w':=by
 match ps,h with
 | [],h=>exact⟨_,h.1,h.2⟩
 | [p],⟨b,h1,_,_,h2⟩=>exact⟨_,h1,h2⟩
 | [p,q],⟨b,h1,_,_,h2⟩=>exact⟨_,h1,h2⟩
theorem agA (t:Tm)(ho:t.ok nmE=true)(hl:t.pr.length<=700)(w:World):Calls prog 172 #[.string (S t)] w fun e w'=>e=.returned (.string (S t.peel))/\Zb w w':=by
 obtain⟨X0,hX0⟩:∃X,X=S t:=⟨_,rfl⟩;rw[<-hX0];have HX0:=qz hX0;have HO:=qz ho;have HL:=qz hl;clear hX0 ho hl
 go_enter func172,ntmps172
 go_wp2_with fail
 go_loopw [0] (fun v wr=>∃(u:Tm) (X:ByteArray),v=.string X/\Hid (X=S u)/\Hid (u.ok nmE=true)/\Hid (u.pr.length<=700)/\Hid (u.peel=t.peel)/\Zb w wr) (fun v _=>(aix v).size)
 case atStart=>exact⟨t,X0,rfl,HX0,HO,HL,rfl,Below.refl _ _⟩
 case round=>
  obtain⟨u0,X,rfl,hX,hu0,hul0,hs0,hbw⟩:=hrel;have hS:Zr 141 #[.string X] (.string (S u0.strip)):=by rw[hX.out];exact adv u0 hu0.out hul0.out
  have hXs:X.size=u0.pr.length:=by rw[hX.out,aan]
  obtain⟨g1,g2,_,_,_⟩:=ae4 u0;have hno:=agX u0;have hpe:u0.strip.peel=t.peel:=by rw[ald];exact hs0.out
  have hu:=g1 nmE hu0.out;have hul:=Nat.le_trans g2 hul0.out;have hd0:=ae5 u0;obtain⟨u,hue⟩:∃u,u=u0.strip:=⟨_,rfl⟩;rw[<-hue]at hS hno hpe hu hul g2;have hP:=aaf u hu hul;have hK:=aad u hu hul;have hDn:=fun p (h1:p.ok nmE=true) (h2:p.pr.length<=700)=>ade p.size p (nl _) h1 h2;have hUn:=fun p (h1:p.ok nmE=true) (h2:p.pr.length<=700)=>aeo p.size p (nl _) h1 h2;obtain⟨Y,hY⟩:∃Y,Y=S u:=⟨_,rfl⟩;rw[<-hY]at hS hP hK;clear hue hd0 g1 hs0 hu0 hul0 hX;have HS:=qz hS;have HXs:=qz hXs;clear hS hXs
  cases u with
  | nil =>
   have hres:Hid (Y=S t.peel):=by show _=_;rw[<-hpe,hY];rfl
   have HP:Hid (∀w,Calls prog 72 #[.string Y] w fun e w'=>∃v,e=.returned v/\Zb w w'):=fun w=>(hP w).mono fun e w' h=>ab2 _ _ _ _ h;have HK:Hid (Ze 71 #[.string Y] (.int .u8 48)):=hK;clear hP hK hDn hUn hpe hno hu hul hY g2;go_wp2_with fail;refine(HS.out _).mono ?_;rintro e w1 ⟨rfl,b1⟩;have bl1:=aat hbw b1;go_wp2_with fail;refine(HP.out _).mono ?_;rintro e w2 ⟨v2,rfl,b2⟩;have bl2:=aat bl1 b2;go_wp2_with fail;refine(HK.out _).mono ?_;rintro e w3 ⟨rfl,rfl⟩;go_wp2_with fail
   go_quiet (fail)
   go_wp2_with fail;go_ret;exact⟨by rw[<-hres.out];rfl,aaj bl2 _⟩
  | snd a b p=>
   have hres:Hid (Y=S t.peel):=by show _=_;rw[<-hpe,hY];rfl
   have HP:Hid (∀w,Calls prog 72 #[.string Y] w fun e w'=>∃v,e=.returned v/\Zb w w'):=fun w=>(hP w).mono fun e w' h=>ab2 _ _ _ _ h;have HK:Hid (Ze 71 #[.string Y] (.int .u8 33)):=hK;clear hP hK hDn hUn hpe hno hu hul hY g2;go_wp2_with fail;refine(HS.out _).mono ?_;rintro e w1 ⟨rfl,b1⟩;have bl1:=aat hbw b1;go_wp2_with fail;refine(HP.out _).mono ?_;rintro e w2 ⟨v2,rfl,b2⟩;have bl2:=aat bl1 b2;go_wp2_with fail;refine(HK.out _).mono ?_;rintro e w3 ⟨rfl,rfl⟩;go_wp2_with fail
   go_quiet (fail)
   go_wp2_with fail;go_ret;exact⟨by rw[<-hres.out];rfl,aaj bl2 _⟩
  | rcv a x p=>
   have hres:Hid (Y=S t.peel):=by show _=_;rw[<-hpe,hY];rfl
   have HP:Hid (∀w,Calls prog 72 #[.string Y] w fun e w'=>∃v,e=.returned v/\Zb w w'):=fun w=>(hP w).mono fun e w' h=>ab2 _ _ _ _ h;have HK:Hid (Ze 71 #[.string Y] (.int .u8 63)):=hK;clear hP hK hDn hUn hpe hno hu hul hY g2;go_wp2_with fail;refine(HS.out _).mono ?_;rintro e w1 ⟨rfl,b1⟩;have bl1:=aat hbw b1;go_wp2_with fail;refine(HP.out _).mono ?_;rintro e w2 ⟨v2,rfl,b2⟩;have bl2:=aat bl1 b2;go_wp2_with fail;refine(HK.out _).mono ?_;rintro e w3 ⟨rfl,rfl⟩;go_wp2_with fail
   go_quiet (fail)
   go_wp2_with fail;go_ret;exact⟨by rw[<-hres.out];rfl,aaj bl2 _⟩
  | tau p=>
   have hres:Hid (Y=S t.peel):=by show _=_;rw[<-hpe,hY];rfl
   have HP:Hid (∀w,Calls prog 72 #[.string Y] w fun e w'=>∃v,e=.returned v/\Zb w w'):=fun w=>(hP w).mono fun e w' h=>ab2 _ _ _ _ h;have HK:Hid (Ze 71 #[.string Y] (.int .u8 126)):=hK;clear hP hK hDn hUn hpe hno hu hul hY g2;go_wp2_with fail;refine(HS.out _).mono ?_;rintro e w1 ⟨rfl,b1⟩;have bl1:=aat hbw b1;go_wp2_with fail;refine(HP.out _).mono ?_;rintro e w2 ⟨v2,rfl,b2⟩;have bl2:=aat bl1 b2;go_wp2_with fail;refine(HK.out _).mono ?_;rintro e w3 ⟨rfl,rfl⟩;go_wp2_with fail
   go_quiet (fail)
   go_wp2_with fail;go_ret;exact⟨by rw[<-hres.out];rfl,aaj bl2 _⟩
  | mat a b p=>
   have hab:¬a=b:=fun e=>hno a p (by rw[e]);have hres:Hid (Y=S t.peel):=by show _=_;rw[<-hpe,hY];simp only[Tm.peel];rw[if_neg hab]
   have HP:Hid (∀w,Calls prog 72 #[.string Y] w fun e w'=>∃v,e=.returned v/\Zb w w'):=fun w=>(hP w).mono fun e w' h=>ab2 _ _ _ _ h;have HK:Hid (Ze 71 #[.string Y] (.int .u8 61)):=hK;clear hP hK hDn hUn hpe hno hu hul hY g2;go_wp2_with fail;refine(HS.out _).mono ?_;rintro e w1 ⟨rfl,b1⟩;have bl1:=aat hbw b1;go_wp2_with fail;refine(HP.out _).mono ?_;rintro e w2 ⟨v2,rfl,b2⟩;have bl2:=aat bl1 b2;go_wp2_with fail;refine(HK.out _).mono ?_;rintro e w3 ⟨rfl,rfl⟩;go_wp2_with fail
   go_quiet (fail)
   go_wp2_with fail;go_ret;exact⟨by rw[<-hres.out];rfl,aaj bl2 _⟩
  | rep p=>
   have hres:Hid (Y=S t.peel):=by show _=_;rw[<-hpe,hY];rfl
   have HP:Hid (∀w,Calls prog 72 #[.string Y] w fun e w'=>∃v,e=.returned v/\Zb w w'):=fun w=>(hP w).mono fun e w' h=>ab2 _ _ _ _ h;have HK:Hid (Ze 71 #[.string Y] (.int .u8 42)):=hK;clear hP hK hDn hUn hpe hno hu hul hY g2;go_wp2_with fail;refine(HS.out _).mono ?_;rintro e w1 ⟨rfl,b1⟩;have bl1:=aat hbw b1;go_wp2_with fail;refine(HP.out _).mono ?_;rintro e w2 ⟨v2,rfl,b2⟩;have bl2:=aat bl1 b2;go_wp2_with fail;refine(HK.out _).mono ?_;rintro e w3 ⟨rfl,rfl⟩;go_wp2_with fail
   go_quiet (fail)
   go_wp2_with fail;go_ret;exact⟨by rw[<-hres.out];rfl,aaj bl2 _⟩
  | own x p=>
   have hu':=hu;simp only[Tm.ok,bae]at hu';have hlp:p.pr.length+3=(Tm.own x p).pr.length:=by simp[Tm.pr]
   have hop:=qz hu'.2;have hlp2:Hid (p.pr.length<=700):=by show _<=_;omega
   have HP:Hid (∀w,Calls prog 72 #[.string Y] w fun e w'=>∃b,e=.returned (.slice (some ⟨b,0,none⟩) 1 1)/\w.heap.size<=b/\w'.heap[b]?=some (.cells #[.string (S p)] 9 (0,0))/\Zb w w'):=hP;have HK:Hid (Ze 71 #[.string Y] (.int .u8 35)):=hK;have hsz:1<Y.size:=by rw[hY,aan];omega
   have hx1:Y[1]'hsz=x:=by
    have:=ajZ (.own x p) 1 (by rw[<-hY];exact hsz);simp only[hY];exact this
   have HU:=qz (hUn p hu'.2 hlp2.out)
   have hIn:Ze 88 #[.string (B p.usd),.int .u8 ((Y[1]'hsz).toNat:Int)] (.bool (decide (x∈p.usd))):=fun w=>by
    rw[hx1];have h:=abr (B p.usd) ((x.toNat:Nat):Int) w (by rw[aaR];have:=abm (abe p);omega);rw[ae0,aaE]at h;exact h
   obtain⟨U,hU⟩:∃U,U=B p.usd:=⟨_,rfl⟩;rw[<-hU]at HU hIn;have hpm:Hid ((S p).size<X.size):=by show _<_;rw[aan,HXs.out];omega
   by_cases hxu:x∈p.usd
   ·rw[decide_eq_true hxu]at hIn;have HI:=qz hIn;have hres:Hid (Y=S t.peel):=by show _=_;rw[<-hpe,hY];simp only[Tm.peel];rw[if_pos hxu]
    clear hP hK hDn hUn hpe hno hu hul hY g2 hu' hlp hxu hU hIn hx1;have hi1:(1:Int)<(Y.size:Int):=by omega
    go_wp2_with fail;refine(HS.out _).mono ?_;rintro e w1 ⟨rfl,b1⟩;have bl1:=aat hbw b1;go_wp2_with fail;refine(HP.out _).mono ?_;rintro e w2 ⟨b,rfl,hb,hh,b2⟩;have bl2:=aat bl1 b2;have c0:=aah hh;have Hh:=qz hh;clear hh hb b1 b2 bl1;go_wp2_with fail;refine(HK.out _).mono ?_;rintro e w3 ⟨rfl,rfl⟩;go_wp2_with fail
    go_cut [44] (fun s44 wx=>s44=.bool false/\Zb w wx/\wx.heap[b]?=some (.cells #[.string (S p)] 9 (0,0)))
    case first=>
     have hbl:=lt_of_block Hh.out
     go_region_with (first|(go_at_call 104;refine(HU.out _).mono ?_;rintro e v1 ⟨rfl,d1⟩;have k1:=aat bl2.drew d1;have h1:=(d1.block b (by simpa using hbl)).trans Hh.out)|(go_at_call 88;refine(HI.out _).mono ?_;rintro e v2 ⟨rfl,rfl⟩))
     all_goals (go_wp2_with fail;go_meet;exact⟨rfl,k1,h1⟩)
    case rest=>
     obtain⟨rfl,blx,hhx⟩:=hcut;have c0x:=aah hhx;clear hhx bl2 c0;go_wp2_with fail;go_ret;exact⟨by rw[<-hres.out];rfl,blx⟩
   ·rw[decide_eq_false hxu]at hIn;have HI:=qz hIn;have hsp:Hid (p.peel=t.peel):=by show _=_;rw[<-hpe];simp only[Tm.peel];rw[if_neg hxu]
    clear hP hK hDn hUn hpe hno hu hul hY g2 hu' hlp hxu hU hIn hx1;have hi1:(1:Int)<(Y.size:Int):=by omega
    obtain⟨Z,hZ⟩:∃Z,Z=S p:=⟨_,rfl⟩;rw[<-hZ]at HP HU hpm;have HZ:=qz hZ;clear hZ;go_wp2_with fail;refine(HS.out _).mono ?_;rintro e w1 ⟨rfl,b1⟩;have bl1:=aat hbw b1;go_wp2_with fail;refine(HP.out _).mono ?_;rintro e w2 ⟨b,rfl,hb,hh,b2⟩;have bl2:=aat bl1 b2;have c0:=aah hh;have Hh:=qz hh;clear hh hb b1 b2 bl1;go_wp2_with fail;refine(HK.out _).mono ?_;rintro e w3 ⟨rfl,rfl⟩;go_wp2_with fail
    go_cut [44] (fun s44 wx=>s44=.bool true/\Zb w wx/\wx.heap[b]?=some (.cells #[.string Z] 9 (0,0)))
    case first=>
     have hbl:=lt_of_block Hh.out
     go_region_with (first|(go_at_call 104;refine(HU.out _).mono ?_;rintro e v1 ⟨rfl,d1⟩;have k1:=aat bl2.drew d1;have h1:=(d1.block b (by simpa using hbl)).trans Hh.out)|(go_at_call 88;refine(HI.out _).mono ?_;rintro e v2 ⟨rfl,rfl⟩))
     all_goals (go_wp2_with fail;go_meet;exact⟨rfl,k1,h1⟩)
    case rest=>
     obtain⟨rfl,blx,hhx⟩:=hcut;have c0x:=aah hhx;clear hhx bl2 c0;go_wp2_with fail
     go_roundw
     case rel=>exact⟨p,_,rfl,HZ,hop,hlp2,hsp,blx⟩
     case measure=>simp only[aix];exact hpm.out
  | sum p q=>
   have hu':=hu;simp only[Tm.ok,bae]at hu';have hlp:p.pr.length+q.pr.length+3=(Tm.sum p q).pr.length:=by simp[Tm.pr];omega
   have hop:=qz hu'.1;have hoq:=qz hu'.2;have hlp2:Hid (p.pr.length<=700):=by show _<=_;omega
   have hlq2:Hid (q.pr.length<=700):=by show _<=_;omega
   have HP:Hid (∀w,Calls prog 72 #[.string Y] w fun e w'=>∃b,e=.returned (.slice (some ⟨b,0,none⟩) 2 2)/\w.heap.size<=b/\w'.heap[b]?=some (.cells #[.string (S p),.string (S q)] 9 (0,0))/\Zb w w'):=hP;have HK:Hid (Ze 71 #[.string Y] (.int .u8 43)):=hK;have hDp:=hDn p hu'.1 hlp2.out;have hDq:=hDn q hu'.2 hlq2.out;have hpm:Hid ((S p).size<X.size):=by show _<_;rw[aan,HXs.out];omega
   have hqm:Hid ((S q).size<X.size):=by show _<_;rw[aan,HXs.out];omega
   obtain⟨Zp,hZp⟩:∃Z,Z=S p:=⟨_,rfl⟩;obtain⟨Zq,hZq⟩:∃Z,Z=S q:=⟨_,rfl⟩;rw[<-hZp,<-hZq]at HP;rw[<-hZp]at hDp hpm;rw[<-hZq]at hDq hqm;have HZp:=qz hZp;have HZq:=qz hZq;clear hZp hZq
   cases hp:p.dead with
   | true=>
    rw[hp]at hDp;have HD:=qz hDp;have hsp:Hid (q.peel=t.peel):=by show _=_;rw[<-hpe];simp only[Tm.peel];rw[if_pos hp]
    clear hP hK hDn hUn hpe hno hu hul hY g2 hu' hlp hp hDp hDq;go_wp2_with fail;refine(HS.out _).mono ?_;rintro e w1 ⟨rfl,b1⟩;have bl1:=aat hbw b1;go_wp2_with fail;refine(HP.out _).mono ?_;rintro e w2 ⟨b,rfl,hb,hh,b2⟩;have bl2:=aat bl1 b2;have c0:=aai hh;have Hh:=qz hh;clear hh hb b1 b2 bl1;go_wp2_with fail;refine(HK.out _).mono ?_;rintro e w3 ⟨rfl,rfl⟩;go_wp2_with fail;refine(HD.out _).mono ?_;rintro e w4 ⟨rfl,b4⟩;have bl4:=aat bl2 b4;have h4:=(b4.block b (lt_of_block Hh.out)).trans Hh.out;clear c0 bl2;have c1:=aak h4;clear h4;go_wp2_with fail
    go_roundw
    case rel=>exact⟨q,_,rfl,HZq,hoq,hlq2,hsp,bl4⟩
    case measure=>simp only[aix];exact hqm.out
   | false=>
    rw[hp]at hDp;have HD:=qz hDp
    cases hq:q.dead with
    | true=>
     rw[hq]at hDq;have HD2:=qz hDq;have hsp:Hid (p.peel=t.peel):=by show _=_;rw[<-hpe];simp only[Tm.peel];rw[hp,hq];rfl
     clear hP hK hDn hUn hpe hno hu hul hY g2 hu' hlp hp hq hDp hDq;go_wp2_with fail;refine(HS.out _).mono ?_;rintro e w1 ⟨rfl,b1⟩;have bl1:=aat hbw b1;go_wp2_with fail;refine(HP.out _).mono ?_;rintro e w2 ⟨b,rfl,hb,hh,b2⟩;have bl2:=aat bl1 b2;have c0:=aai hh;have Hh:=qz hh;clear hh hb b1 b2 bl1;go_wp2_with fail;refine(HK.out _).mono ?_;rintro e w3 ⟨rfl,rfl⟩;go_wp2_with fail;refine(HD.out _).mono ?_;rintro e w4 ⟨rfl,b4⟩;have bl4:=aat bl2 b4;have h4:=(b4.block b (lt_of_block Hh.out)).trans Hh.out;clear c0 bl2;have c1:=aak h4;have H4:=qz h4;clear h4;go_wp2_with fail;refine(HD2.out _).mono ?_;rintro e w5 ⟨rfl,b5⟩;have bl5:=aat bl4 b5;have h5:=(b5.block b (lt_of_block H4.out)).trans H4.out;clear c1 bl4;have c5:=aai h5;clear h5;go_wp2_with fail
     go_roundw
     case rel=>exact⟨p,_,rfl,HZp,hop,hlp2,hsp,bl5⟩
     case measure=>simp only[aix];exact hpm.out
    | false=>
     rw[hq]at hDq;have HD2:=qz hDq;have hres:Hid (Y=S t.peel):=by show _=_;rw[<-hpe,hY];simp only[Tm.peel];rw[hp,hq];rfl
     clear hP hK hDn hUn hpe hno hu hul hY g2 hu' hlp hp hq hDp hDq;go_wp2_with fail;refine(HS.out _).mono ?_;rintro e w1 ⟨rfl,b1⟩;have bl1:=aat hbw b1;go_wp2_with fail;refine(HP.out _).mono ?_;rintro e w2 ⟨b,rfl,hb,hh,b2⟩;have bl2:=aat bl1 b2;have c0:=aai hh;have Hh:=qz hh;clear hh hb b1 b2 bl1;go_wp2_with fail;refine(HK.out _).mono ?_;rintro e w3 ⟨rfl,rfl⟩;go_wp2_with fail;refine(HD.out _).mono ?_;rintro e w4 ⟨rfl,b4⟩;have bl4:=aat bl2 b4;have h4:=(b4.block b (lt_of_block Hh.out)).trans Hh.out;clear c0 bl2;have c1:=aak h4;clear h4;go_wp2_with fail;refine(HD2.out _).mono ?_;rintro e w5 ⟨rfl,b5⟩;have bl5:=aat bl4 b5;clear c1 bl4;go_wp2_with fail
     go_quiet (fail)
     go_wp2_with fail;go_ret;exact⟨by rw[<-hres.out];rfl,aaj bl5 _⟩
  | par p q=>
   have hu':=hu;simp only[Tm.ok,bae]at hu';have hlp:p.pr.length+q.pr.length+3=(Tm.par p q).pr.length:=by simp[Tm.pr];omega
   have hop:=qz hu'.1;have hoq:=qz hu'.2;have hlp2:Hid (p.pr.length<=700):=by show _<=_;omega
   have hlq2:Hid (q.pr.length<=700):=by show _<=_;omega
   have HP:Hid (∀w,Calls prog 72 #[.string Y] w fun e w'=>∃b,e=.returned (.slice (some ⟨b,0,none⟩) 2 2)/\w.heap.size<=b/\w'.heap[b]?=some (.cells #[.string (S p),.string (S q)] 9 (0,0))/\Zb w w'):=hP;have HK:Hid (Ze 71 #[.string Y] (.int .u8 38)):=hK;have hDp:=hDn p hu'.1 hlp2.out;have hDq:=hDn q hu'.2 hlq2.out;have hpm:Hid ((S p).size<X.size):=by show _<_;rw[aan,HXs.out];omega
   have hqm:Hid ((S q).size<X.size):=by show _<_;rw[aan,HXs.out];omega
   obtain⟨Zp,hZp⟩:∃Z,Z=S p:=⟨_,rfl⟩;obtain⟨Zq,hZq⟩:∃Z,Z=S q:=⟨_,rfl⟩;rw[<-hZp,<-hZq]at HP;rw[<-hZp]at hDp hpm;rw[<-hZq]at hDq hqm;have HZp:=qz hZp;have HZq:=qz hZq;clear hZp hZq
   cases hp:p.dead with
   | true=>
    rw[hp]at hDp;have HD:=qz hDp;have hsp:Hid (q.peel=t.peel):=by show _=_;rw[<-hpe];simp only[Tm.peel];rw[if_pos hp]
    clear hP hK hDn hUn hpe hno hu hul hY g2 hu' hlp hp hDp hDq;go_wp2_with fail;refine(HS.out _).mono ?_;rintro e w1 ⟨rfl,b1⟩;have bl1:=aat hbw b1;go_wp2_with fail;refine(HP.out _).mono ?_;rintro e w2 ⟨b,rfl,hb,hh,b2⟩;have bl2:=aat bl1 b2;have c0:=aai hh;have Hh:=qz hh;clear hh hb b1 b2 bl1;go_wp2_with fail;refine(HK.out _).mono ?_;rintro e w3 ⟨rfl,rfl⟩;go_wp2_with fail;refine(HD.out _).mono ?_;rintro e w4 ⟨rfl,b4⟩;have bl4:=aat bl2 b4;have h4:=(b4.block b (lt_of_block Hh.out)).trans Hh.out;clear c0 bl2;have c1:=aak h4;clear h4;go_wp2_with fail
    go_roundw
    case rel=>exact⟨q,_,rfl,HZq,hoq,hlq2,hsp,bl4⟩
    case measure=>simp only[aix];exact hqm.out
   | false=>
    rw[hp]at hDp;have HD:=qz hDp
    cases hq:q.dead with
    | true=>
     rw[hq]at hDq;have HD2:=qz hDq;have hsp:Hid (p.peel=t.peel):=by show _=_;rw[<-hpe];simp only[Tm.peel];rw[hp,hq];rfl
     clear hP hK hDn hUn hpe hno hu hul hY g2 hu' hlp hp hq hDp hDq;go_wp2_with fail;refine(HS.out _).mono ?_;rintro e w1 ⟨rfl,b1⟩;have bl1:=aat hbw b1;go_wp2_with fail;refine(HP.out _).mono ?_;rintro e w2 ⟨b,rfl,hb,hh,b2⟩;have bl2:=aat bl1 b2;have c0:=aai hh;have Hh:=qz hh;clear hh hb b1 b2 bl1;go_wp2_with fail;refine(HK.out _).mono ?_;rintro e w3 ⟨rfl,rfl⟩;go_wp2_with fail;refine(HD.out _).mono ?_;rintro e w4 ⟨rfl,b4⟩;have bl4:=aat bl2 b4;have h4:=(b4.block b (lt_of_block Hh.out)).trans Hh.out;clear c0 bl2;have c1:=aak h4;have H4:=qz h4;clear h4;go_wp2_with fail;refine(HD2.out _).mono ?_;rintro e w5 ⟨rfl,b5⟩;have bl5:=aat bl4 b5;have h5:=(b5.block b (lt_of_block H4.out)).trans H4.out;clear c1 bl4;have c5:=aai h5;clear h5;go_wp2_with fail
     go_roundw
     case rel=>exact⟨p,_,rfl,HZp,hop,hlp2,hsp,bl5⟩
     case measure=>simp only[aix];exact hpm.out
    | false=>
     rw[hq]at hDq;have HD2:=qz hDq;have hres:Hid (Y=S t.peel):=by show _=_;rw[<-hpe,hY];simp only[Tm.peel];rw[hp,hq];rfl
     clear hP hK hDn hUn hpe hno hu hul hY g2 hu' hlp hp hq hDp hDq;go_wp2_with fail;refine(HS.out _).mono ?_;rintro e w1 ⟨rfl,b1⟩;have bl1:=aat hbw b1;go_wp2_with fail;refine(HP.out _).mono ?_;rintro e w2 ⟨b,rfl,hb,hh,b2⟩;have bl2:=aat bl1 b2;have c0:=aai hh;have Hh:=qz hh;clear hh hb b1 b2 bl1;go_wp2_with fail;refine(HK.out _).mono ?_;rintro e w3 ⟨rfl,rfl⟩;go_wp2_with fail;refine(HD.out _).mono ?_;rintro e w4 ⟨rfl,b4⟩;have bl4:=aat bl2 b4;have h4:=(b4.block b (lt_of_block Hh.out)).trans Hh.out;clear c0 bl2;have c1:=aak h4;clear h4;go_wp2_with fail;refine(HD2.out _).mono ?_;rintro e w5 ⟨rfl,b5⟩;have bl5:=aat bl4 b5;clear c1 bl4;go_wp2_with fail
     go_quiet (fail)
     go_wp2_with fail;go_ret;exact⟨by rw[<-hres.out];rfl,aaj bl5 _⟩
end Go.Proofs.YtalegefnppbkdaaGreat.T1
