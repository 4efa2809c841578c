/- Texts of the proof. No conditions. -/
import Derived.Test.YtalegefnppbkdaaGreatQbx
namespace Go.Proofs.YtalegefnppbkdaaGreat.T1
open Go.Proofs.Tryz
set_option maxHeartbeats 4000000
open Go.RowKit
set_option maxRecDepth 100000
set_option linter.unusedVariables false
set_option linter.unusedSimpArgs false
theorem awg (tp:TypeId)(vp:Value)(w:World):Calls prog 171 #[.iface 147 (.agg #[.iface tp vp])] w (ahF [.iface tp vp] w):=by
 go_enter func171,ntmps171
 go_wp2_with fail;go_ret;exact⟨_,_,rfl,abX _ _ _ _ _ (by omega),(bra).alloc (Below.size ((Below.refl w.heap.size w).alloc (nl _) _)) _⟩
theorem aeA (T:TypeId)(V:Value)(ts:List Value)(hta:∀w,(Instr.typeAssert (.iface T V) 38 147 true).run prog w=.ok (.tuple #[.agg #[.nilIface],.bool false]) w)(n1:∀w,Calls prog 73 #[.iface T V] w (ahF ts w))(w:World):Calls prog 171 #[.iface T V] w (ahF ts w):=by
 have G1:=qz n1;clear n1
 go_enter func171,ntmps171
 go_wp2_with fail;refine(G1.out _).mono ?_;rintro e w2 ⟨g,c,rfl,o1,b1⟩;have O1:=qz o1;have B1:=qz b1;clear o1 b1;go_wp2_with fail;go_ret;have hz:w.heap.size<=(w.alloc (.cells #[.nilIface] 147)).heap.size:=by simp
 exact⟨g,c,rfl,aaW O1.out hz,aab ((Below.refl w.heap.size w).alloc (nl _) _) B1.out hz⟩
theorem aiM (t:Tm)(hs:t.size<=1000)(w:World):Calls prog 171 #[enc t] w (ahF ((offT t).map enc) w):=by
 cases t with
 | nil=>exact aeA _ _ _ (aco _) (aaI (.nil) hs) w
 | snd a b p=>exact aeA _ _ _ (adj _) (aaI (.snd a b p) hs) w
 | rcv a b p=>exact aeA _ _ _ (acp _) (aaI (.rcv a b p) hs) w
 | tau p=>exact aeA _ _ _ (acK _) (aaI (.tau p) hs) w
 | sum p q=>exact aeA _ _ _ (acL _) (aaI (.sum p q) hs) w
 | par p q=>exact aeA _ _ _ (acM _) (aaI (.par p q) hs) w
 | own a p=>exact aeA _ _ _ (adA _) (aaI (.own a p) hs) w
 | mat a b p=>exact aeA _ _ _ (acR _) (aaI (.mat a b p) hs) w
 | rep p=>exact awg _ _ w
theorem aiN (a b:Int)(tp:TypeId)(vp:Value)(w:World):Calls prog 76 #[.iface 108 (.agg #[.int .u8 a,.int .u8 b,.iface tp vp])] w fun e w'=>e=.returned (.tuple #[.int .u8 a,.bool true])/\Zb w w':=by
 go_enter func76,ntmps76
 go_wp2_with fail;go_ret2;exact⟨rfl,bra⟩
theorem aa_ (T:TypeId)(V:Value)(hta:∀w,(Instr.typeAssert (.iface T V) 38 108 true).run prog w=.ok (.tuple #[.agg #[.int .u8 0,.int .u8 0,.nilIface],.bool false]) w)(w:World):Calls prog 76 #[.iface T V] w fun e w'=>e=.returned (.tuple #[.int .u8 0,.bool false])/\Zb w w':=by
 go_enter func76,ntmps76
 go_wp2_with fail;go_ret2;exact⟨rfl,bra⟩
theorem aeH (a b:Int)(tp:TypeId)(vp:Value)(w:World):Calls prog 77 #[.iface 111 (.agg #[.int .u8 a,.int .u8 b,.iface tp vp])] w fun e w'=>e=.returned (.tuple #[.int .u8 a,.bool true])/\Zb w w':=by
 go_enter func77,ntmps77
 go_wp2_with fail;go_ret2;exact⟨rfl,bra⟩
theorem aaJ (T:TypeId)(V:Value)(hta:∀w,(Instr.typeAssert (.iface T V) 38 111 true).run prog w=.ok (.tuple #[.agg #[.int .u8 0,.int .u8 0,.nilIface],.bool false]) w)(w:World):Calls prog 77 #[.iface T V] w fun e w'=>e=.returned (.tuple #[.int .u8 0,.bool false])/\Zb w w':=by
 go_enter func77,ntmps77
 go_wp2_with fail;go_ret2;exact⟨rfl,bra⟩
def OverP (g:Tm->Option UInt8)(F:FuncId):Prop:=∀(t:Tm) (w:World),Calls prog F #[enc t] w fun e w'=>e=.returned (.tuple #[.int .u8 (((g t).getD 0).toNat:Int),.bool (g t).isSome])/\Zb w w'
theorem aiO:OverP alB 76:=by
 intro t w
 cases t with
 | nil=>exact aa_ _ _ (aeU _) w
 | snd a b p=>exact aiN _ _ _ _ w
 | rcv a b p=>exact aa_ _ _ (aeW _) w
 | tau p=>exact aa_ _ _ (afO _) w
 | sum p q=>exact aa_ _ _ (afP _) w
 | par p q=>exact aa_ _ _ (afQ _) w
 | own a p=>exact aa_ _ _ (aiX _) w
 | mat a b p=>exact aa_ _ _ (agM _) w
 | rep p=>exact aa_ _ _ (afS _) w
theorem aeI:OverP alC 77:=by
 intro t w
 cases t with
 | nil=>exact aaJ _ _ (adz _) w
 | snd a b p=>exact aaJ _ _ (aeV _) w
 | rcv a b p=>exact aeH _ _ _ _ w
 | tau p=>exact aaJ _ _ (ad7 _) w
 | sum p q=>exact aaJ _ _ (ad8 _) w
 | par p q=>exact aaJ _ _ (ad9 _) w
 | own a p=>exact aaJ _ _ (afR _) w
 | mat a b p=>exact aaJ _ _ (aeE _) w
 | rep p=>exact aaJ _ _ (ad_ _) w
theorem awh (s:ByteArray)(F:FuncId)(n1:Zr 100 #[.string s] (.tuple #[.nilIface,.bool false]))(w:World):Calls prog 75 #[.string s,.func (.func F) #[] #[]] w fun e w'=>e=.returned (.tuple #[.string ⟨#[]⟩,.bool false])/\Zb w w':=by
 have G1:=qz n1;clear n1
 go_enter func75,ntmps75
 go_wp2_with fail;refine(G1.out _).mono ?_;rintro e w1 ⟨rfl,b1⟩;go_wp2_with fail;go_ret2;exact⟨rfl,b1⟩
theorem apb (w:World):(convert 44 9 (.slice none 0 0)).run prog w=.ok (.string ⟨#[]⟩) w:=by kernel_rfl
theorem apc {w:World}{base n:Nat}{v:Value}(l:List UInt8)(hn:n=l.length)(h:w.ownsRow base 5 1 v n (l.map ub)):(convert 44 9 v).run prog w=.ok (.string (B l)) w:=by
 cases l with
 | nil=>
  subst hn;rcases h.2 with⟨rfl,_⟩|⟨g,cap,cur,rfl,_⟩
  ·exact apb w
  ·exact run_convert_bytes_back w 44 9 5 ⟨g,0,none⟩ cap [] underlying44 underlying5 underlying9 fun j hj=>by simp at hj
 | cons c l=>exact ahf (c::l) hn (by simp) h
theorem at5 (g:Tm->Option UInt8)(o:Tm):[o].filterMap g=(g o).toList:=by cases h:g o<;>simp[h]
theorem at6 (X:List UInt8):∀A,Lets A->(∀c∈X,nmL c=true)->setN (addsL A X)=setN A ||| setN (addsL [] X):=by
 induction X with
 | nil=>intro A _ _;show setN A=setN A ||| setN [];simp[setN]
 | cons a X ih=>
  intro A hA hX;have ha:=(nmL_iff a).1 (hX a (by simp));have h1:Lets (addL A a):=lets_addL hA ha;have h2:Lets (addL [] a):=lets_addL lets_nil0 ha
  show setN (addsL (addL A a) X)=setN A ||| setN (addsL (addL [] a) X)
  rw[ih _ h1 (fun c hc=>hX c (by simp[hc])),ih _ h2 (fun c hc=>hX c (by simp[hc])),abH hA ha,abH lets_nil0 ha];simp[setN,Nat.or_assoc]
theorem awi (F:FuncId)(hF:∀args w,(callFunc F args).run prog w=.ok (.enter F args) w)(g:Tm->Option UInt8)(hg:OverP g F)(T:Tm)(hol:(offT T).length<=1000)(hnm:∀q∈offT T,∀a,g q=some a->nmL a=true)(hts:T.size<=1000)(w:World) : Calls prog 136 #[.iface (aaB T) (pay T),.func (.func F) #[] #[]] w fun e w'=>e=.returned (.int .u32 (setN (addsL [] ((offT T).filterMap g)):Nat))/\Zb w w':=by
 have GG:=qz hg;have HNM:=qz hnm;have HRO:=qz (fun w=>aiM T hts w);obtain⟨TT,hTT⟩:∃TT,TT=aaB T:=⟨_,rfl⟩;obtain⟨TV,hTV⟩:∃TV,TV=pay T:=⟨_,rfl⟩;have HRO2:Hid (∀w,Calls prog 171 #[.iface TT TV] w (ahF ((offT T).map enc) w)):=by rw[hTT,hTV];exact HRO.out
 rw[<-hTT,<-hTV];clear hnm hg HRO hTT hTV hts
 go_enter func136,ntmps136
 go_wp2_with fail;refine(HRO2.out _).mono ?_;rintro e w4 ⟨g4,c4,rfl,o4,b4⟩;rw[List.length_map]at o4 ⊢;have O4:=qz o4;have B4:=qz b4;clear o4 b4;go_wp2_with fail
 go_loopg [5,13] (offT T).length (fun gj s5 s13 wr=>(∃j:Nat,s13=.int .i64 (j:Int)/\j+gj=(offT T).length/\s5=.int .u32 (setN (addsL [] (([]:List UInt8)++((offT T).take j).filterMap g)):Nat))/\Hid (Zb w4 wr))
 case atStart=>exact⟨⟨0,by congr 1,by omega,rfl⟩,Below.refl _ _⟩
 case round=>
  obtain⟨⟨j,rfl,hjk,rfl⟩,hbv⟩:=hrel;have hvz:=hbv.out.size
  by_cases hlt2:(j:Int)<((offT T).length:Int)
  ·have hjt:j<(offT T).length:=by omega
   obtain⟨g5,hp4,hh1,hh2,hh3,hcells⟩:=act O4.out (by omega);cases hp4;obtain⟨q,hq⟩:∃q,q=(offT T)[j]:=⟨_,rfl⟩
   have k0:wr.cell? ⟨g4,j,none⟩=some (.iface (aaB q) (pay q)):=
    (hbv.out.cell (p:=⟨g4,j,none⟩) hh2).trans (hcells j (enc q) (by rw[hq,List.getElem?_map,List.getElem?_eq_getElem hjt];rfl))
   have htk:((offT T).take (j+1)).filterMap g=((offT T).take j).filterMap g++(g q).toList:=by
    rw[List.take_succ_eq_append_getElem hjt,List.filterMap_append,<-hq,at5]
   have hqa:=HNM.out q (hq▸List.getElem_mem hjt);obtain⟨Q,hQ⟩:∃Q,Q=([]:List UInt8)++((offT T).take j).filterMap g:=⟨_,rfl⟩
   have HQ:Hid (([]:List UInt8)++((offT T).take (j+1)).filterMap g=Q++(g q).toList):=by
    show _=_;rw[htk,hQ,List.append_assoc]
   have hQn:∀c∈Q,nmL c=true:=by
    intro c hc;rw[hQ]at hc;rcases lma.1 hc with hc|hc
    ·cases hc
    ·obtain⟨q',hq',e⟩:=List.mem_filterMap.1 hc;exact HNM.out q' (List.mem_of_mem_take hq') c e
   have hQl:=abZ Q [] lets_nil0 hQn;rw[<-hQ];have HOV:=qz (fun w=>GG.out q w);obtain⟨TQ,hTQ⟩:∃TQ,TQ=aaB q:=⟨_,rfl⟩;obtain⟨VQ,hVQ⟩:∃VQ,VQ=pay q:=⟨_,rfl⟩
   cases hgq:g q with
   | none=>
    have HO2:Hid (∀w,Calls prog F #[.iface TQ VQ] w fun e w'=>e=.returned (.tuple #[.int .u8 0,.bool false])/\Zb w w'):=by
     rw[hTQ,hVQ];have:=HOV.out;rw[hgq]at this;exact this
    have HR:Hid (([]:List UInt8)++((offT T).take (j+1)).filterMap g=Q):=by
     show _=_;rw[HQ.out,hgq];simp
    rw[<-hTQ,<-hVQ]at k0;clear hcells htk hQ hq hTQ hVQ HOV hgq hqa;go_wp2_with fail;refine(HO2.out _).mono ?_;rintro e w5 ⟨rfl,b5⟩;have B5:=qz (aaa hbv.out b5);clear k0 b5;go_wp2_with fail
    go_roundg (gk - 1)
    case rel=>exact⟨⟨j+1,by congr 1,by omega,by rw[HR.out]⟩,B5⟩
    case measure=>omega
   | some a=>
    have hna:=(nmL_iff a).1 (hqa a hgq)
    have HO2:Hid (∀w,Calls prog F #[.iface TQ VQ] w fun e w'=>e=.returned (.tuple #[.int .u8 (a.toNat:Int),.bool true])/\Zb w w'):=by
     rw[hTQ,hVQ];have:=HOV.out;rw[hgq]at this;exact this
    have HW:Hid (∀w,Calls prog 93 #[.int .u32 (setN (addsL [] Q):Nat),.int .u8 (a.toNat:Int)] w fun e w'=>e=.returned (.int .u32 (setN (addsL [] (([]:List UInt8)++((offT T).take (j+1)).filterMap g)):Nat))/\w=w'):=fun w=>by
     have:=abQ (setN (addsL [] Q)) a.toNat (setN_lt32 _ hQl) hna.1 hna.2 w;rw[HQ.out,hgq];show Calls _ _ _ _ _;rw[show Q++(some a).toList=Q++[a] from rfl,air,abH hQl hna];exact this
    rw[<-hTQ,<-hVQ]at k0;clear hcells htk hQ hq hTQ hVQ HOV hgq hqa HQ;go_wp2_with fail;refine(HO2.out _).mono ?_;rintro e w5 ⟨rfl,b5⟩;have B5:=qz (aaa hbv.out b5);clear k0 b5;go_wp2_with fail;refine(HW.out _).mono ?_;rintro e w6 ⟨rfl,rfl⟩;go_wp2_with fail
    go_roundg (gk - 1)
    case rel=>exact⟨⟨j+1,by congr 1,by omega,rfl⟩,B5⟩
    case measure=>omega
  ·obtain rfl:j=(offT T).length:=by omega
   have htk:([]:List UInt8)++((offT T).take (offT T).length).filterMap g=(offT T).filterMap g:=by
    rw[List.take_of_length_le (nl _)];rfl
   rw[htk];have B7:=qz (aaa B4.out hbv.out);clear htk;go_wp2_with fail;go_ret;exact⟨rfl,B7.out⟩
theorem awj (F:FuncId)(hF:∀args w,(callFunc F args).run prog w=.ok (.enter F args) w)(g:Tm->Option UInt8)(hg:OverP g F)(TS:TypeId)(VS:Value)(fs:List UInt8)(us:List Tm)(hu:us.length<=300)(fn:List UInt8)(hfn:Lets fn)(n2:∀w,Calls prog 54 #[.iface TS VS] w (agu fs (us.map enc) w)) (n3:∀T∈us,(offT T).length<=1000/\(∀q∈offT T,∀a,g q=some a->nmL a=true)/\T.size<=1000)(n4:Zr 92 #[.iface TS VS] (.int .u32 (setN fn:Nat)))(w:World) : Calls prog 101 #[.iface TS VS,.func (.func F) #[] #[]] w fun e w'=>e=.returned (.int .u32 (setN ((addsL [] (us.flatMap fun T=>(offT T).filterMap g)).filter fun x=>decide (x∈fn)):Nat))/\Zb w w':=by
 have G2:=qz n2;have G3:=qz n3;have G4:=qz n4;have GN:=qz (fun T h1 h2 h3 w=>awi F hF g hg T h1 h2 h3 w);have HFN:=qz hfn;clear n2 n3 n4 hg hfn
 go_enter func101,ntmps101
 go_wp2_with fail;refine(G2.out _).mono ?_;rintro e w3 ⟨v2,v3,rfl,_,o3,b3⟩;rw[List.length_map]at o3;obtain⟨p3,c3,rfl⟩:=aaD o3;have O3:=qz o3;have B3:=qz b3;clear o3 b3;go_wp2_with fail
 go_loopg [5,17] us.length (fun gk s5 s17 wr=>(∃i:Nat,s17=.int .i64 (i:Int)/\i+gk=us.length/\s5=.int .u32 (setN (addsL [] ((us.take i).flatMap fun T=>(offT T).filterMap g)):Nat))/\Hid (Zb w3 wr))
 case atStart=>exact⟨⟨0,by congr 1,by omega,rfl⟩,Below.refl _ _⟩
 case round=>
  obtain⟨⟨i,rfl,hik,rfl⟩,hbw⟩:=hrel;have hsz:=hbw.out.size
  by_cases hlt:(i:Int)<(us.length:Int)
  ·have hit:i<us.length:=by omega
   obtain⟨g3,hpg,hg1,hg2,hg3,hcells⟩:=act O3.out (by omega);subst hpg;obtain⟨hol,hnm,hts⟩:=G3.out us[i] (List.getElem_mem hit);obtain⟨T,hT⟩:∃T,T=us[i]:=⟨_,rfl⟩
   have c1:wr.cell? ⟨g3,i,none⟩=some (.iface (aaB T) (pay T)):=
    (hbw.out.cell (p:=⟨g3,i,none⟩) hg2).trans (hcells i (enc T) (by rw[hT,List.getElem?_map,List.getElem?_eq_getElem hit];rfl))
   rw[<-hT]at hol hnm hts;obtain⟨P,hP⟩:∃P,P=(us.take i).flatMap fun T=>(offT T).filterMap g:=⟨_,rfl⟩
   have hPn:∀c∈P,nmL c=true:=by
    intro c hc;rw[hP]at hc;obtain⟨T',hT',hc'⟩:=List.mem_flatMap.1 hc;obtain⟨q,hq,e⟩:=List.mem_filterMap.1 hc';exact(G3.out T' (List.mem_of_mem_take hT')).2.1 q hq c e
   have hXn:∀c∈(offT T).filterMap g,nmL c=true:=by
    intro c hc;obtain⟨q,hq,e⟩:=List.mem_filterMap.1 hc;exact hnm q hq c e
   have HPs:Hid (((us.take (i+1)).flatMap fun T=>(offT T).filterMap g)=P++(offT T).filterMap g):=by
    show _=_;rw[List.take_succ_eq_append_getElem hit,List.flatMap_append,<-hP,hT];simp
   rw[<-hP];have HN:=GN.out T hol hnm hts;obtain⟨X,hX⟩:∃X,X=(offT T).filterMap g:=⟨_,rfl⟩;rw[<-hX]at HN hXn HPs;have lP:=abZ P [] lets_nil0 hPn;have lX:=abZ X [] lets_nil0 hXn
   have hor:Hid (bits .or .u32 ((setN (addsL [] P):Nat):Int) ((setN (addsL [] X):Nat):Int)=((setN (addsL [] (P++X)):Nat):Int)):=by
    show _=_;rw[ajJ _ _ (setN_lt32 _ lP) (setN_lt32 _ lX),show addsL [] (P++X)=addsL (addsL [] P) X by simp[addsL,List.foldl_append],at6 X _ lP hXn]
   obtain⟨TT,hTT⟩:∃TT,TT=aaB T:=⟨_,rfl⟩;obtain⟨TV,hTV⟩:∃TV,TV=pay T:=⟨_,rfl⟩;rw[<-hTT,<-hTV]at c1 HN;have HN2:=qz HN;clear hcells hnm hP hT hTT hTV hts hol hPn hXn lP lX hX HN;go_wp2_with fail;with_reducible refine(HN2.out _).mono ?_
   rintro e w4 ⟨rfl,b4⟩;have B7:=qz (aaa hbw.out b4);clear b4 c1;go_wp2_with fail
   go_roundg (gk - 1)
   case rel=>exact⟨⟨i+1,by congr 1,by omega,by rw[HPs.out,<-hor.out]⟩,B7⟩
   case measure=>omega
  ·obtain rfl:i=us.length:=by omega
   have htk:us.take us.length=us:=List.take_of_length_le (nl _);rw[htk];have B7:=qz (aaa B3.out hbw.out);obtain⟨A,hA⟩:∃A,A=addsL [] (us.flatMap fun T=>(offT T).filterMap g):=⟨_,rfl⟩
   have hAn:∀c∈us.flatMap fun T=>(offT T).filterMap g,nmL c=true:=by
    intro c hc;obtain⟨T',hT',hc'⟩:=List.mem_flatMap.1 hc;obtain⟨q,hq,e⟩:=List.mem_filterMap.1 hc';exact(G3.out T' hT').2.1 q hq c e
   have hAl:Lets A:=hA▸abZ _ [] lets_nil0 hAn
   have hand:Hid (bits .and .u32 ((setN A:Nat):Int) ((setN fn:Nat):Int)=((setN (A.filter fun x=>decide (x∈fn)):Nat):Int)):=by
    show _=_;rw[anj _ _ (setN_lt32 _ hAl) (setN_lt32 _ HFN.out),akh hAl HFN.out]
   rw[<-hA];have HAe:=qz hA;clear htk hA hAn hAl;go_wp2_with fail;with_reducible refine(G4.out _).mono ?_
   rintro e w5 ⟨rfl,b5⟩;have B8:=qz (aaa B7.out b5);clear b5;go_wp2_with fail;go_ret;exact⟨by rw[<-HAe.out,<-hand.out]<;>rfl,B8.out⟩
theorem ar8 (s:ByteArray)(F:FuncId)(hF:∀args w,(callFunc F args).run prog w=.ok (.enter F args) w)(g:Tm->Option UInt8)(hg:OverP g F)(TS:TypeId)(VS:Value)(fs:List UInt8)(us:List Tm)(hu:us.length<=300)(fn:List UInt8)(hfn:Lets fn)(hfs:Srt fn)(n1:Zr 100 #[.string s] (.tuple #[.iface TS VS,.bool true]))(n2:∀w,Calls prog 54 #[.iface TS VS] w (agu fs (us.map enc) w)) (n3:∀T∈us,(offT T).length<=1000/\(∀q∈offT T,∀a,g q=some a->nmL a=true)/\T.size<=1000)(n4:Zr 92 #[.iface TS VS] (.int .u32 (setN fn:Nat)))(w:World) : Calls prog 75 #[.string s,.func (.func F) #[] #[]] w fun e w'=>e=.returned (.tuple #[.string (B ((addsL [] (us.flatMap fun T=>(offT T).filterMap g)).filter fun x=>decide (x∈fn))),.bool true])/\Zb w w':=by
 have G1:=qz n1;have G2:=qz (fun w=>awj F hF g hg TS VS fs us hu fn hfn n2 n3 n4 w);obtain⟨A,hA⟩:∃A,A=addsL [] (us.flatMap fun T=>(offT T).filterMap g):=⟨_,rfl⟩
 have hAn:∀c∈us.flatMap fun T=>(offT T).filterMap g,nmL c=true:=by
  intro c hc;obtain⟨T',hT',hc'⟩:=List.mem_flatMap.1 hc;obtain⟨q,hq,e⟩:=List.mem_filterMap.1 hc';exact(n3 T' hT').2.1 q hq c e
 have hAl:Lets A:=hA▸abZ _ [] lets_nil0 hAn;have hAs:Srt A:=hA▸srt_addsL _ _ srt_nil;have hfl:Lets (A.filter fun x=>decide (x∈fn)):=fun c hc=>hAl c (List.mem_filter.1 hc).1;rw[<-hA]at G2 ⊢;obtain⟨Y,hY⟩:∃Y,Y=A.filter fun x=>decide (x∈fn):=⟨_,rfl⟩;have hYs:Srt Y:=hY▸ab0 hAs _;rw[<-hY]at G2 hfl ⊢
 have HL:Hid (∀w,Calls prog 94 #[.int .u32 (setN Y:Nat)] w (fun e w'=>∃v,e=.returned v/\w'.ownsRow w.heap.size 5 1 v Y.length (Y.map ub)/\Zb w w')):=fun w=>by
  have:=ado (setN Y) (setN_lt32 _ hfl) w;rw[agH _ hYs hfl]at this
  exact this
 clear n1 n2 n3 n4 hg hfn hfs hA hAn hAl hAs hfl hY hYs
 go_enter func75,ntmps75
 go_wp2_with fail;with_reducible refine(G1.out _).mono ?_
 rintro e w1 ⟨rfl,b1⟩;go_wp2_with fail;with_reducible refine(G2.out _).mono ?_
 rintro e w5 ⟨rfl,b5⟩;have B8:=qz (aaa b1 b5);clear b1 b5;go_wp2_with fail;with_reducible refine(HL.out _).mono ?_
 rintro e w6 ⟨v6,rfl,o6,b6⟩;have hcv:=apc _ rfl o6;have B9:=qz (aaa B8.out b6);clear o6 b6;go_wp2_with fail;go_ret2;exact⟨rfl,B9.out⟩
end Go.Proofs.YtalegefnppbkdaaGreat.T1
