/- Texts of the proof. No conditions. -/
import Derived.Test.YtihmcgcgjmbmhaaGreatQaf
import Derived.Laws.Bits64
import Derived.Laws.BitsAllLaws
import Derived.Laws.BitsLemmas
import Derived.Deep.RegionWith
import Derived.ChangeOld
namespace Go.Proofs.YtihmcgcgjmbmhaaGreat.T1
open Go.Proofs.Tryz
set_option maxHeartbeats 2000000
open Go.RowKit
set_option maxRecDepth 100000
theorem aj_:∀n:Int,0<=n->n<2 ^ 32->IntKind.u32.wrap n=n:=by
 intro n h0 h1;rw[IntKind.wrap_u32];omega
theorem amK (a b:Nat)(ha:a<2 ^ 32)(hb:b<2 ^ 32):bits .or .u32 (a:Int) (b:Int)=((a ||| b:Nat):Int):=(bits_nat .u32 32 (by decide) aj_ a b ha hb).2
theorem ax1 (a b:Nat)(ha:a<2 ^ 32)(hb:b<2 ^ 32):bits .and .u32 (a:Int) (b:Int)=((a &&& b:Nat):Int):=(bits_nat .u32 32 (by decide) aj_ a b ha hb).1
theorem ax2 (c:Nat)(h2:c<=122):((2:Int) ^ (c - 97) % 4294967296)=((2 ^ (c - 97):Nat):Int):=by
 have h:2 ^ (c - 97)<4294967296:=by
  have:2 ^ (c - 97)<=2 ^ 25:=Nat.pow_le_pow_right (by decide) (by omega);omega
 have e:(2:Int) ^ (c - 97)=((2 ^ (c - 97):Nat):Int):=by rw[Int.natCast_pow];rfl
 rw[e]
 generalize 2 ^ (c - 97)=m at h ⊢
 omega
theorem ac8 (c:Nat)(h2:c<=122):2 ^ (c - 97)<2 ^ 32:=Nat.pow_lt_pow_right (by decide) (by omega)
theorem abV (n c:Nat)(hn:n<2 ^ 32)(h1:97<=c)(h2:c<=122)(w:World) : Calls prog 100 #[.int .u32 (n:Int),.int .u8 (c:Int)] w fun e w'=>e=.returned (.int .u32 ((n ||| 2 ^ (c - 97):Nat):Int))/\w=w':=by
 have HB:Hid (bits .or .u32 (n:Int) ((2:Int) ^ (c - 97) % 4294967296)=((n ||| 2 ^ (c - 97):Nat):Int)):=by
  show _=_;rw[ax2 c h2,amK n _ hn (ac8 c h2)]
 have b1:(97:Int)<=(c:Int):=by omega
 have b2:(c:Int)<=122:=by omega
 clear hn
 go_enter func100,ntmps100
 go_wp2_with fail;go_ret;exact⟨aaU HB.out,rfl⟩
theorem atr (n k:Nat):(((n &&& 2 ^ k:Nat):Int) != 0)=n.testBit k:=by
 cases h:n.testBit k with
 | false=>
  have:n &&& 2 ^ k=0:=by
   apply Nat.eq_of_testBit_eq
   intro i;rw[Nat.testBit_and,Nat.testBit_two_pow,Nat.zero_testBit]
   by_cases hi:k=i
   ·subst hi;rw[h];rfl
   ·simp[hi]
  rw[this];rfl
 | true=>
  have:n &&& 2 ^ k≠0:=by
   intro h0;have h1:=congrArg (fun x=>Nat.testBit x k) h0;simp[Nat.testBit_and,h]at h1
  simp;omega
theorem ajk (n c:Nat)(hn:n<2 ^ 32)(h1:97<=c)(h2:c<=122)(w:World) : Calls prog 142 #[.int .u32 (n:Int),.int .u8 (c:Int)] w fun e w'=>e=.returned (.bool (n.testBit (c - 97)))/\w=w':=by
 have HW:=abV 0 c (by decide) h1 h2;rw[Nat.zero_or]at HW;have HW2:Hid (∀w,Calls prog 100 #[.int .u32 0,.int .u8 (c:Int)] w fun e w'=>e=.returned (.int .u32 ((2 ^ (c - 97):Nat):Int))/\w=w'):=HW
 have HB:Hid ((bits .and .u32 (n:Int) ((2 ^ (c - 97):Nat):Int) != 0)=n.testBit (c - 97)):=by
  show _=_;rw[ax1 n _ hn (ac8 c h2),atr]
 obtain⟨m,hm⟩:∃m,m=2 ^ (c - 97):=⟨_,rfl⟩;rw[<-hm]at HW2 HB;clear hn HW hm
 go_enter func142,ntmps142
 go_wp2_with fail;refine(HW2.out _).mono ?_;rintro e w' ⟨rfl,rfl⟩;go_wp2_with fail;go_ret;exact⟨by rw[<-HB.out];rfl,rfl⟩
def lets (n k:Nat):List UInt8:=((List.range k).filter fun i=>n.testBit i).map fun i=>UInt8.ofNat (97+i)
theorem aim (n k:Nat):lets n (k+1)=lets n k++(if n.testBit k then [UInt8.ofNat (97+k)] else []):=by
 unfold lets;rw[List.range_succ,List.filter_append,List.map_append]
 cases h:n.testBit k<;>simp[h]
theorem aka (n k:Nat):(lets n k).length<=k:=by
 unfold lets;rw[List.length_map];have:=List.length_filter_le (fun i=>n.testBit i) (List.range k);simpa using this
theorem afu (n:Nat)(hn:n<2 ^ 32)(w:World) : Calls prog 147 #[.int .u32 (n:Int)] w fun e w'=>∃v,e=.returned v/\w'.ownsRow w.heap.size 5 1 v (lets n 26).length ((lets n 26).map ub)/\Zb w w':=by
 have HH:Hid (∀(c:Nat) (_:97<=c) (_:c<=122) (w:World),Calls prog 142 #[.int .u32 (n:Int),.int .u8 (c:Int)] w fun e w'=>e=.returned (.bool (n.testBit (c - 97)))/\w=w'):=fun c h1 h2 w=>ajk n c hn h1 h2 w;clear hn;obtain⟨i0,hi,hz0,hz1,hz2⟩:=info_parts Tryz.infoU8
 go_enter func147,ntmps147
 go_wp2_with fail
 go_loopw [3,4] (fun v c wr=>∃k:Nat,k<=26/\c=.int .u8 ((97+k:Nat):Int)/\Hid (wr.ownsRow w.heap.size 5 1 v (lets n k).length ((lets n k).map ub))/\Zb w wr) (fun _ c _=>200 - (intOf c).toNat)
 case atStart=>exact⟨0,Nat.zero_le _,rfl,World.ownsRow_nil _ _ _ _,Below.refl _ _⟩
 case round=>
  obtain⟨k,hk,rfl,hown,hbw⟩:=hrel
  by_cases hlt:k<26
  ·have HC:=HH.out (97+k) (by omega) (by omega);have hll:=aka n k;have hsz:=hbw.size
   cases hb:n.testBit k with
   | true=>
    rw[show 97+k - 97=k by omega,hb]at HC
    have HC2:Hid (Ze 142 #[.int .u32 (n:Int),.int .u8 (97+(k:Int))] (.bool true)):=fun w=>by
     have:=HC w;push_cast at this;exact this
    have hls:Hid (lets n (k+1)=lets n k++[UInt8.ofNat (97+k)]):=by show _=_;rw[aim,hb];rfl
    have hc8:Hid (((UInt8.ofNat (97+k)).toNat:Int)=97+(k:Int)):=by
     show _=_;rw[UInt8.toNat_ofNat'];omega
    clear HC hb;go_wp2_with fail;refine(HC2.out _).mono ?_;rintro e w' ⟨rfl,rfl⟩
    go_wp2_with (at_builtin;refine wpList_append_own _ rfl (.tmp 12) (.tmp 14) 73 rfl w.heap.size 5 i0 (.int .u8 0) 1 1 underlying73 hi hz0 hz1 hz2 rfl (by decide) _ _ _ rfl (hown.out.alloc _) ⟨wr.heap.size,0,none⟩ 1 1 [.int .u8 (97+(k:Int))] rfl rfl (aaR wr [.int .u8 (97+(k:Int))] 5) (fun u hu=>by simp at hu;subst hu;rfl) ?c2 ?c3 ?c4 ?_)
    case c2=>unfold maxLen;omega
    case c3=>omega
    case c4=>simp;omega
    intro v1 w1 hown1 hgrow1 _
    have hbw1:Zb w w1:=Below.grown (hbw.alloc hsz _) hgrow1 (by simp;omega) (fun j hj=>by
     rcases hown.out.2 with⟨rfl,_⟩|⟨g,cap,cur,rfl,h1,_⟩
     ·simp[Value.ownBlock]at hj
     ·simp[Value.ownBlock]at hj;omega)
    have HO:Hid (w1.ownsRow w.heap.size 5 1 v1 (lets n (k+1)).length ((lets n (k+1)).map ub)):=by
     rw[hls.out,List.map_append,lla];show w1.ownsRow w.heap.size 5 1 v1 ((lets n k).length+1) ((lets n k).map ub++[ub (UInt8.ofNat (97+k))]);rw[show ub (UInt8.ofNat (97+k))=.int .u8 (97+(k:Int)) from by unfold ub;rw[hc8.out]];exact hown1
    clear hown1 hgrow1;go_wp2_with fail
    go_roundw
    case rel=>exact⟨k+1,by omega,by push_cast;rfl,HO,hbw1⟩
    case measure=>simp[intOf];omega
   | false=>
    rw[show 97+k - 97=k by omega,hb]at HC
    have HC2:Hid (Ze 142 #[.int .u32 (n:Int),.int .u8 (97+(k:Int))] (.bool false)):=fun w=>by
     have:=HC w;push_cast at this;exact this
    have hls:Hid (lets n (k+1)=lets n k):=by show _=_;rw[aim,hb];simp
    clear HC hb;go_wp2_with fail;refine(HC2.out _).mono ?_;rintro e w' ⟨rfl,rfl⟩;go_wp2_with fail
    go_roundw
    case rel=>exact⟨k+1,by omega,by push_cast;rfl,by rw[hls.out];exact hown,hbw⟩
    case measure=>simp[intOf];omega
  ·obtain rfl:k=26:=by omega
   go_wp2_with fail;go_ret;exact⟨_,rfl,hown.out,hbw⟩
theorem ax3 (a b:Nat)(ha:a<2 ^ 32)(hb:b<2 ^ 32):bits .xor .u32 (a:Int) (b:Int)=((a ^^^ b:Nat):Int):=by
 have hx:a ^^^ b<2 ^ 32:=Nat.xor_lt_two_pow ha hb
 have h1:(BitVec.ofInt 32 (a:Int)).toNat=a:=by
  rw[BitVec.ofInt_natCast,BitVec.toNat_ofNat];exact Nat.mod_eq_of_lt ha
 have h2:(BitVec.ofInt 32 (b:Int)).toNat=b:=by
  rw[BitVec.ofInt_natCast,BitVec.toNat_ofNat];exact Nat.mod_eq_of_lt hb
 show IntKind.u32.wrap ((BitVec.ofInt 32 (a:Int) ^^^ BitVec.ofInt 32 (b:Int)).toNat:Int)=_;rw[BitVec.toNat_xor,h1,h2,IntKind.wrap_u32];omega
def flip32 (n:Nat):Nat:=(2 ^ 32 - 1) ^^^ n
theorem flip_lt (n:Nat)(hn:n<2 ^ 32):flip32 n<2 ^ 32:=Nat.xor_lt_two_pow (by decide) hn
theorem aqS (n k:Nat)(hk:k<32):(flip32 n).testBit k=!n.testBit k:=by
 unfold flip32;rw[Nat.testBit_xor,Nat.testBit_two_pow_sub_one];simp[hk]
theorem alI (n:Nat)(hn:n<2 ^ 32)(w:World) : Calls prog 94 #[.int .u32 (n:Int)] w fun e w'=>∃v,e=.returned v/\w'.ownsRow w.heap.size 5 1 v (lets (flip32 n) 26).length ((lets (flip32 n) 26).map ub)/\Zb w w':=by
 have HL:=afu (flip32 n) (flip_lt n hn);rw[show ((flip32 n:Nat):Int)=bits .xor .u32 IntKind.u32.max (n:Int) from (ax3 (2 ^ 32 - 1) n (by decide) hn).symm]at HL;obtain⟨L,hL⟩:∃L,L=lets (flip32 n) 26:=⟨_,rfl⟩;rw[<-hL]at HL ⊢;have H:=qz HL;clear HL hL hn
 go_enter func94,ntmps94
 go_wp2_with fail;refine(H.out _).mono ?_;rintro e w1 ⟨v,rfl,ho,bl⟩;have HO:=qz ho;clear ho;go_wp2_with fail;go_ret;exact⟨_,rfl,HO.out,bl⟩
set_option linter.unusedVariables false
theorem aqT (a b:Nat)(ha:a<2 ^ 32)(hb:b<2 ^ 32):bits .andNot .u32 (a:Int) (b:Int)=((a &&& (4294967295 - b):Nat):Int):=u32_andNot_nat a b ha hb
theorem afv (n c:Nat)(hn:n<2 ^ 32)(h1:97<=c)(h2:c<=122)(w:World) : Calls prog 145 #[.int .u32 (n:Int),.int .u8 (c:Int)] w fun e w'=>e=.returned (.int .u32 ((n &&& (4294967295 - 2 ^ (c - 97)):Nat):Int))/\w=w':=by
 have HW:=abV 0 c (by decide) h1 h2;rw[Nat.zero_or]at HW;have HW2:Hid (∀w,Calls prog 100 #[.int .u32 0,.int .u8 (c:Int)] w fun e w'=>e=.returned (.int .u32 ((2 ^ (c - 97):Nat):Int))/\w=w'):=HW;have HB:Hid (bits .andNot .u32 (n:Int) ((2 ^ (c - 97):Nat):Int)=((n &&& (4294967295 - 2 ^ (c - 97)):Nat):Int)):=aqT n _ hn (ac8 c h2);obtain⟨m,hm⟩:∃m,m=2 ^ (c - 97):=⟨_,rfl⟩;obtain⟨r,hr⟩:∃r,r=n &&& (4294967295 - m):=⟨_,rfl⟩;rw[<-hm]at HW2 HB ⊢;rw[<-hr]at HB ⊢;clear hn HW hm hr
 go_enter func145,ntmps145
 go_wp2_with fail;refine(HW2.out _).mono ?_;rintro e w' ⟨rfl,rfl⟩;go_wp2_with fail;go_ret;exact⟨aaU HB.out,rfl⟩
theorem alJ  (w:World):Calls prog 144 #[.iface 134 (.agg #[])] w fun e w'=>e=.returned (.tuple #[.int .u8 0,.bool false])/\Zb w w':=by
 go_enter func144,ntmps144
 go_wp2_with fail;go_ret2
 first|exact⟨rfl,aal (bra) _⟩|exact⟨rfl,Below.refl _ _⟩|exact⟨rfl,bra⟩|exact⟨rfl,(bra).drew⟩
theorem ats (n0 n1:Int)(tz:TypeId)(vz:Value)(w:World):Calls prog 144 #[.iface 148 (.agg #[.int .u8 n0,.int .u8 n1,.iface tz vz])] w fun e w'=>e=.returned (.tuple #[.int .u8 0,.bool false])/\Zb w w':=by
 go_enter func144,ntmps144
 go_wp2_with fail;go_ret2
 first|exact⟨rfl,aal (bra) _⟩|exact⟨rfl,Below.refl _ _⟩|exact⟨rfl,bra⟩|exact⟨rfl,(bra).drew⟩
theorem alK (n0 n1:Int)(tz:TypeId)(vz:Value)(w:World):Calls prog 144 #[.iface 189 (.agg #[.int .u8 n0,.int .u8 n1,.iface tz vz])] w fun e w'=>e=.returned (.tuple #[.int .u8 n1,.bool true])/\Zb w w':=by
 go_enter func144,ntmps144
 go_wp2_with fail;go_ret2
 first|exact⟨rfl,aal (bra) _⟩|exact⟨rfl,Below.refl _ _⟩|exact⟨rfl,bra⟩|exact⟨rfl,(bra).drew⟩
theorem anQ (tz:TypeId)(vz:Value)(w:World):Calls prog 144 #[.iface 143 (.agg #[.iface tz vz])] w fun e w'=>e=.returned (.tuple #[.int .u8 0,.bool false])/\Zb w w':=by
 go_enter func144,ntmps144
 go_wp2_with fail;go_ret2
 first|exact⟨rfl,aal (bra) _⟩|exact⟨rfl,Below.refl _ _⟩|exact⟨rfl,bra⟩|exact⟨rfl,(bra).drew⟩
theorem anR (tz ty:TypeId)(vz vy:Value)(w:World):Calls prog 144 #[.iface 165 (.agg #[.iface tz vz,.iface ty vy])] w fun e w'=>e=.returned (.tuple #[.int .u8 0,.bool false])/\Zb w w':=by
 go_enter func144,ntmps144
 go_wp2_with fail;go_ret2
 first|exact⟨rfl,aal (bra) _⟩|exact⟨rfl,Below.refl _ _⟩|exact⟨rfl,bra⟩|exact⟨rfl,(bra).drew⟩
theorem anS (tz ty:TypeId)(vz vy:Value)(w:World):Calls prog 144 #[.iface 140 (.agg #[.iface tz vz,.iface ty vy])] w fun e w'=>e=.returned (.tuple #[.int .u8 0,.bool false])/\Zb w w':=by
 go_enter func144,ntmps144
 go_wp2_with fail;go_ret2
 first|exact⟨rfl,aal (bra) _⟩|exact⟨rfl,Below.refl _ _⟩|exact⟨rfl,bra⟩|exact⟨rfl,(bra).drew⟩
theorem awe (n0:Int)(tz:TypeId)(vz:Value)(w:World):Calls prog 144 #[.iface 136 (.agg #[.int .u8 n0,.iface tz vz])] w fun e w'=>e=.returned (.tuple #[.int .u8 n0,.bool true])/\Zb w w':=by
 go_enter func144,ntmps144
 go_wp2_with fail;go_ret2
 first|exact⟨rfl,aal (bra) _⟩|exact⟨rfl,Below.refl _ _⟩|exact⟨rfl,bra⟩|exact⟨rfl,(bra).drew⟩
theorem aqU (n0 n1:Int)(tz:TypeId)(vz:Value)(w:World):Calls prog 144 #[.iface 177 (.agg #[.int .u8 n0,.int .u8 n1,.iface tz vz])] w fun e w'=>e=.returned (.tuple #[.int .u8 0,.bool false])/\Zb w w':=by
 go_enter func144,ntmps144
 go_wp2_with fail;go_ret2
 first|exact⟨rfl,aal (bra) _⟩|exact⟨rfl,Below.refl _ _⟩|exact⟨rfl,bra⟩|exact⟨rfl,(bra).drew⟩
theorem anT (tz:TypeId)(vz:Value)(w:World):Calls prog 144 #[.iface 120 (.agg #[.iface tz vz])] w fun e w'=>e=.returned (.tuple #[.int .u8 0,.bool false])/\Zb w w':=by
 go_enter func144,ntmps144
 go_wp2_with fail;go_ret2
 first|exact⟨rfl,aal (bra) _⟩|exact⟨rfl,Below.refl _ _⟩|exact⟨rfl,bra⟩|exact⟨rfl,(bra).drew⟩
theorem aam (t:Tm):Zr 144 #[.iface (aau t) (pay t)] (av2 t.binds):=by
 cases t with
 | nil =>exact alJ
 | snd a b p=>exact ats _ _ _ _
 | rcv a x p=>exact alK _ _ _ _
 | tau p=>exact anQ _ _
 | sum p q=>exact anR _ _ _ _
 | par p q=>exact anS _ _ _ _
 | own x p=>exact awe _ _ _
 | mat a b p=>exact aqU _ _ _ _
 | rep p=>exact anT _ _
def usedN:Tm->Nat
 | .snd a b _=>(0 ||| 2 ^ (a.toNat - 97)) ||| 2 ^ (b.toNat - 97)
 | .rcv a _ _=>0 ||| 2 ^ (a.toNat - 97)
 | .mat a b _=>(0 ||| 2 ^ (a.toNat - 97)) ||| 2 ^ (b.toNat - 97)
 | _=>0
theorem akb (a b:UInt8)(ha:nmL a=true)(hb:nmL b=true):0 ||| 2 ^ (a.toNat - 97)<2 ^ 32/\(0 ||| 2 ^ (a.toNat - 97)) ||| 2 ^ (b.toNat - 97)<2 ^ 32:=by
 rw[nmL_iff]at ha hb;have h1:=ac8 a.toNat ha.2;have h2:=ac8 b.toNat hb.2;exact⟨Nat.or_lt_two_pow (by decide) h1,Nat.or_lt_two_pow (Nat.or_lt_two_pow (by decide) h1) h2⟩
theorem alL  (w:World):Calls prog 146 #[.iface 134 (.agg #[])] w fun e w'=>e=.returned (.int .u32 0)/\Zb w w':=by
 go_enter func146,ntmps146
 go_wp2_with fail;go_ret
 first|exact⟨rfl,aal (bra) _⟩|exact⟨rfl,Below.refl _ _⟩|exact⟨rfl,bra⟩|exact⟨rfl,(bra).drew⟩
theorem att (n0 n1:Int)(tz:TypeId)(vz:Value)(u1 u2:Int)(H1:Ze 100 #[.int .u32 0,.int .u8 n0] (.int .u32 u1))(H2:Ze 100 #[.int .u32 u1,.int .u8 n1] (.int .u32 u2))(w:World):Calls prog 146 #[.iface 148 (.agg #[.int .u8 n0,.int .u8 n1,.iface tz vz])] w fun e w'=>e=.returned (.int .u32 u2)/\Zb w w':=by
 have H1':=qz H1;have H2':=qz H2;clear H1 H2
 go_enter func146,ntmps146
 go_wp2_with fail
 go_quiet (first|(go_at_call_of 100 n0;exact Calls.quiet_of_same ((H1'.out _).mono fun _ _ hh=>⟨hh.1,hh.2.symm⟩))|(go_at_call_of 100 n1;exact Calls.quiet_of_same ((H2'.out _).mono fun _ _ hh=>⟨hh.1,hh.2.symm⟩)))
 go_wp2_with fail;go_ret
 first|exact⟨rfl,aal (bra) _⟩|exact⟨rfl,Below.refl _ _⟩|exact⟨rfl,bra⟩|exact⟨rfl,(bra).drew⟩
theorem alM (n0 n1:Int)(tz:TypeId)(vz:Value)(u1:Int)(H1:Ze 100 #[.int .u32 0,.int .u8 n0] (.int .u32 u1))(w:World):Calls prog 146 #[.iface 189 (.agg #[.int .u8 n0,.int .u8 n1,.iface tz vz])] w fun e w'=>e=.returned (.int .u32 u1)/\Zb w w':=by
 have H1':=qz H1;clear H1
 go_enter func146,ntmps146
 go_wp2_with fail;refine(H1'.out _).mono ?_;rintro e w1 ⟨rfl,rfl⟩;go_wp2_with fail;go_ret
 first|exact⟨rfl,aal (bra) _⟩|exact⟨rfl,Below.refl _ _⟩|exact⟨rfl,bra⟩|exact⟨rfl,(bra).drew⟩
theorem anU (tz:TypeId)(vz:Value)(w:World):Calls prog 146 #[.iface 143 (.agg #[.iface tz vz])] w fun e w'=>e=.returned (.int .u32 0)/\Zb w w':=by
 go_enter func146,ntmps146
 go_wp2_with fail;go_ret
 first|exact⟨rfl,aal (bra) _⟩|exact⟨rfl,Below.refl _ _⟩|exact⟨rfl,bra⟩|exact⟨rfl,(bra).drew⟩
theorem anV (tz ty:TypeId)(vz vy:Value)(w:World):Calls prog 146 #[.iface 165 (.agg #[.iface tz vz,.iface ty vy])] w fun e w'=>e=.returned (.int .u32 0)/\Zb w w':=by
 go_enter func146,ntmps146
 go_wp2_with fail;go_ret
 first|exact⟨rfl,aal (bra) _⟩|exact⟨rfl,Below.refl _ _⟩|exact⟨rfl,bra⟩|exact⟨rfl,(bra).drew⟩
theorem anW (tz ty:TypeId)(vz vy:Value)(w:World):Calls prog 146 #[.iface 140 (.agg #[.iface tz vz,.iface ty vy])] w fun e w'=>e=.returned (.int .u32 0)/\Zb w w':=by
 go_enter func146,ntmps146
 go_wp2_with fail;go_ret
 first|exact⟨rfl,aal (bra) _⟩|exact⟨rfl,Below.refl _ _⟩|exact⟨rfl,bra⟩|exact⟨rfl,(bra).drew⟩
theorem awf (n0:Int)(tz:TypeId)(vz:Value)(w:World):Calls prog 146 #[.iface 136 (.agg #[.int .u8 n0,.iface tz vz])] w fun e w'=>e=.returned (.int .u32 0)/\Zb w w':=by
 go_enter func146,ntmps146
 go_wp2_with fail;go_ret
 first|exact⟨rfl,aal (bra) _⟩|exact⟨rfl,Below.refl _ _⟩|exact⟨rfl,bra⟩|exact⟨rfl,(bra).drew⟩
theorem aqV (n0 n1:Int)(tz:TypeId)(vz:Value)(u1 u2:Int)(H1:Ze 100 #[.int .u32 0,.int .u8 n0] (.int .u32 u1))(H2:Ze 100 #[.int .u32 u1,.int .u8 n1] (.int .u32 u2))(w:World):Calls prog 146 #[.iface 177 (.agg #[.int .u8 n0,.int .u8 n1,.iface tz vz])] w fun e w'=>e=.returned (.int .u32 u2)/\Zb w w':=by
 have H1':=qz H1;have H2':=qz H2;clear H1 H2
 go_enter func146,ntmps146
 go_wp2_with fail
 go_quiet (first|(go_at_call_of 100 n0;exact Calls.quiet_of_same ((H1'.out _).mono fun _ _ hh=>⟨hh.1,hh.2.symm⟩))|(go_at_call_of 100 n1;exact Calls.quiet_of_same ((H2'.out _).mono fun _ _ hh=>⟨hh.1,hh.2.symm⟩)))
 go_wp2_with fail;go_ret
 first|exact⟨rfl,aal (bra) _⟩|exact⟨rfl,Below.refl _ _⟩|exact⟨rfl,bra⟩|exact⟨rfl,(bra).drew⟩
theorem anX (tz:TypeId)(vz:Value)(w:World):Calls prog 146 #[.iface 120 (.agg #[.iface tz vz])] w fun e w'=>e=.returned (.int .u32 0)/\Zb w w':=by
 go_enter func146,ntmps146
 go_wp2_with fail;go_ret
 first|exact⟨rfl,aal (bra) _⟩|exact⟨rfl,Below.refl _ _⟩|exact⟨rfl,bra⟩|exact⟨rfl,(bra).drew⟩
theorem abl (t:Tm)(ho:t.ok nmL=true):Zr 146 #[.iface (aau t) (pay t)] (.int .u32 (usedN t:Nat)):=by
 cases t with
 | nil =>exact alL
 | snd a b p=>
  simp only[Tm.ok,bae]at ho;have h1:=(nmL_iff a).1 ho.1.1;have h2:=(nmL_iff b).1 ho.1.2;exact att _ _ _ _ _ _ (abV 0 a.toNat (by decide) h1.1 h1.2) (abV _ b.toNat (akb a b ho.1.1 ho.1.2).1 h2.1 h2.2)
 | rcv a x p=>
  simp only[Tm.ok,bae]at ho;have h1:=(nmL_iff a).1 ho.1.1;exact alM _ _ _ _ _ (abV 0 a.toNat (by decide) h1.1 h1.2)
 | tau p=>exact anU _ _
 | sum p q=>exact anV _ _ _ _
 | par p q=>exact anW _ _ _ _
 | own x p=>exact awf _ _ _
 | mat a b p=>
  simp only[Tm.ok,bae]at ho;have h1:=(nmL_iff a).1 ho.1.1;have h2:=(nmL_iff b).1 ho.1.2;exact aqV _ _ _ _ _ _ (abV 0 a.toNat (by decide) h1.1 h1.2) (abV _ b.toNat (akb a b ho.1.1 ho.1.2).1 h2.1 h2.2)
 | rep p=>exact anX _ _
theorem ayG (T:TypeId)(V:Value)(U:Int)(hP:PartsFact T V []) (HB:Zr 144 #[.iface T V] (.tuple #[.int .u8 0,.bool false]))(HU:Zr 146 #[.iface T V] (.int .u32 U))(w:World) : Calls prog 93 #[.iface T V] w fun e w'=>e=.returned (.int .u32 (bits .or .u32 0 U))/\Zb w w':=by
 obtain⟨F,RR,hm,hn,hc,hp⟩:=hP;have HP:=qz hp;have HB':=qz HB;have HU':=qz HU;clear hp HB HU
 go_enter func93,ntmps93
 go_wp2_with fail;refine(HP.out _).mono ?_;rintro e w1 ⟨rfl,bl⟩;go_wp2_with fail;refine wp_loop_rounds 1 ?_;rw[rounds_succ];go_wp2_with fail;refine(HB'.out _).mono ?_;rintro e w4 ⟨rfl,b4⟩;have bl4:=aab bl b4 bl.size;go_wp2_with fail;refine(HU'.out _).mono ?_;rintro e w6 ⟨rfl,b6⟩;have bl6:=aab bl4 b6 bl4.size;go_wp2_with fail;go_ret;exact⟨rfl,bl6⟩
theorem axT (T:TypeId)(V:Value)(tp:TypeId)(vp:Value)(N:Int)(U:Int)(hP:∃(F:FuncId) (R:Value),(∀n w,(method (n+1) T V "loop.example/g01175/impl.parts").run prog w=.ok (F,R) w)/\(∀n w,(nilAhead (n+1) T V "loop.example/g01175/impl.parts").run prog w=.ok (some false) w)/\(∀args w,(callFunc F args).run prog w=.ok (.enter F args) w)/\∀w,Calls prog F #[R] w fun e w'=>∃b,e=.returned (.slice (some ⟨b,0,none⟩) 1 1)/\w.heap.size<=b/\w'.heap[b]?=some (.cells #[.iface tp vp] 41 (0,0))/\Zb w w') (IH:Zr 93 #[.iface tp vp] (.int .u32 N))(HB:Zr 144 #[.iface T V] (.tuple #[.int .u8 0,.bool false]))(HU:Zr 146 #[.iface T V] (.int .u32 U))(w:World) : Calls prog 93 #[.iface T V] w fun e w'=>e=.returned (.int .u32 (bits .or .u32 (bits .or .u32 0 N) U))/\Zb w w':=by
 obtain⟨F,RR,hm,hn,hc,hp⟩:=hP;have HP:=qz hp;have IH':=qz IH;have HB':=qz HB;have HU':=qz HU;clear hp IH HB HU
 go_enter func93,ntmps93
 go_wp2_with fail;refine(HP.out _).mono ?_;rintro e w1 ⟨b,rfl,hb,hh,bl⟩;have c0:=aac hh;have Hh:=qz hh;clear hh;go_wp2_with fail;refine wp_loop_rounds 2 ?_;rw[rounds_succ];go_wp2_with fail;refine(IH'.out _).mono ?_;rintro e w2 ⟨rfl,b2⟩;have bl2:=aab bl b2 bl.size;have h2:=(b2.block b (lt_of_block Hh.out)).trans Hh.out;clear c0 bl;clear h2;go_wp2_with fail;rw[rounds_succ];go_wp2_with fail;refine(HB'.out _).mono ?_;rintro e w4 ⟨rfl,b4⟩;have bl4:=aab bl2 b4 bl2.size;go_wp2_with fail;refine(HU'.out _).mono ?_;rintro e w6 ⟨rfl,b6⟩;have bl6:=aab bl4 b6 bl4.size;go_wp2_with fail;go_ret;exact⟨rfl,bl6⟩
theorem awg (T:TypeId)(V:Value)(tp:TypeId)(vp:Value)(N:Int)(U:Int)(x R:Int)(hP:∃(F:FuncId) (R:Value),(∀n w,(method (n+1) T V "loop.example/g01175/impl.parts").run prog w=.ok (F,R) w)/\(∀n w,(nilAhead (n+1) T V "loop.example/g01175/impl.parts").run prog w=.ok (some false) w)/\(∀args w,(callFunc F args).run prog w=.ok (.enter F args) w)/\∀w,Calls prog F #[R] w fun e w'=>∃b,e=.returned (.slice (some ⟨b,0,none⟩) 1 1)/\w.heap.size<=b/\w'.heap[b]?=some (.cells #[.iface tp vp] 41 (0,0))/\Zb w w') (IH:Zr 93 #[.iface tp vp] (.int .u32 N))(HB:Zr 144 #[.iface T V] (.tuple #[.int .u8 x,.bool true]))(HW:Ze 145 #[.int .u32 (bits .or .u32 0 N),.int .u8 x] (.int .u32 R))(HU:Zr 146 #[.iface T V] (.int .u32 U))(w:World) : Calls prog 93 #[.iface T V] w fun e w'=>e=.returned (.int .u32 (bits .or .u32 R U))/\Zb w w':=by
 obtain⟨F,RR,hm,hn,hc,hp⟩:=hP;have HP:=qz hp;have IH':=qz IH;have HB':=qz HB;have HW':=qz HW;have HU':=qz HU;clear hp IH HB HW HU
 go_enter func93,ntmps93
 go_wp2_with fail;refine(HP.out _).mono ?_;rintro e w1 ⟨b,rfl,hb,hh,bl⟩;have c0:=aac hh;have Hh:=qz hh;clear hh;go_wp2_with fail;refine wp_loop_rounds 2 ?_;rw[rounds_succ];go_wp2_with fail;refine(IH'.out _).mono ?_;rintro e w2 ⟨rfl,b2⟩;have bl2:=aab bl b2 bl.size;have h2:=(b2.block b (lt_of_block Hh.out)).trans Hh.out;clear c0 bl;clear h2;go_wp2_with fail;rw[rounds_succ];go_wp2_with fail;refine(HB'.out _).mono ?_;rintro e w4 ⟨rfl,b4⟩;have bl4:=aab bl2 b4 bl2.size;go_wp2_with fail;refine(HW'.out _).mono ?_;rintro e w5 ⟨rfl,rfl⟩;go_wp2_with fail;refine(HU'.out _).mono ?_;rintro e w6 ⟨rfl,b6⟩;have bl6:=aab bl4 b6 bl4.size;go_wp2_with fail;go_ret;exact⟨rfl,bl6⟩
theorem ayr (T:TypeId)(V:Value)(tp:TypeId)(vp:Value)(N:Int)(tq:TypeId)(vq:Value)(M:Int)(U:Int)(hP:∃(F:FuncId) (R:Value),(∀n w,(method (n+1) T V "loop.example/g01175/impl.parts").run prog w=.ok (F,R) w)/\(∀n w,(nilAhead (n+1) T V "loop.example/g01175/impl.parts").run prog w=.ok (some false) w)/\(∀args w,(callFunc F args).run prog w=.ok (.enter F args) w)/\∀w,Calls prog F #[R] w fun e w'=>∃b,e=.returned (.slice (some ⟨b,0,none⟩) 2 2)/\w.heap.size<=b/\w'.heap[b]?=some (.cells #[.iface tp vp,.iface tq vq] 41 (0,0))/\Zb w w') (IH:Zr 93 #[.iface tp vp] (.int .u32 N))(IH2:Zr 93 #[.iface tq vq] (.int .u32 M))(HB:Zr 144 #[.iface T V] (.tuple #[.int .u8 0,.bool false]))(HU:Zr 146 #[.iface T V] (.int .u32 U))(w:World) : Calls prog 93 #[.iface T V] w fun e w'=>e=.returned (.int .u32 (bits .or .u32 (bits .or .u32 (bits .or .u32 0 N) M) U))/\Zb w w':=by
 obtain⟨F,RR,hm,hn,hc,hp⟩:=hP;have HP:=qz hp;have IH':=qz IH;have IH2':=qz IH2;have HB':=qz HB;have HU':=qz HU;clear hp IH IH2 HB HU
 go_enter func93,ntmps93
 go_wp2_with fail;refine(HP.out _).mono ?_;rintro e w1 ⟨b,rfl,hb,hh,bl⟩;have c0:=aaf hh;have Hh:=qz hh;clear hh;go_wp2_with fail;refine wp_loop_rounds 3 ?_;rw[rounds_succ];go_wp2_with fail;refine(IH'.out _).mono ?_;rintro e w2 ⟨rfl,b2⟩;have bl2:=aab bl b2 bl.size;have h2:=(b2.block b (lt_of_block Hh.out)).trans Hh.out;clear c0 bl;have c1:=aak h2;clear h2;go_wp2_with fail;rw[rounds_succ];go_wp2_with fail;refine(IH2'.out _).mono ?_;rintro e w3 ⟨rfl,b3⟩;have bl3:=aab bl2 b3 bl2.size;clear c1;go_wp2_with fail;rw[rounds_succ];go_wp2_with fail;refine(HB'.out _).mono ?_;rintro e w4 ⟨rfl,b4⟩;have bl4:=aab bl3 b4 bl3.size;go_wp2_with fail;refine(HU'.out _).mono ?_;rintro e w6 ⟨rfl,b6⟩;have bl6:=aab bl4 b6 bl4.size;go_wp2_with fail;go_ret;exact⟨rfl,bl6⟩
theorem lets_b (p:Tm)(ho:p.ok nmL=true):Lets (bothL [] p.free):=lets_bothL lets_nil0 (lets_free p ho)
theorem ain (p:Tm)(ho:p.ok nmL=true):setN (bothL [] p.free)=setN p.free:=by rw[abA (aav p)]
theorem or0 (n:Nat)(hn:n<2 ^ 32):bits .or .u32 0 (n:Int)=(n:Int):=by
 have:=amK 0 n (by decide) hn;rw[Nat.zero_or]at this
 exact this
theorem adH {T:TypeId}{V:Value}{n:Int}{m:Nat}(h:n=(m:Int))(hc:Zr 93 #[.iface T V] (.int .u32 n)):Zr 93 #[.iface T V] (.int .u32 (m:Int)):=by rw[<-h];exact hc
theorem abD (t:Tm):t.ok nmL=true->Zr 93 #[.iface (aau t) (pay t)] (.int .u32 (setN t.free:Nat)):=by
 have lt:=fun (p:Tm) (ho:p.ok nmL=true)=>ab8 _ (lets_free p ho)
 induction t with
 | nil=>exact fun _=>adH (by decide) (ayG _ _ 0 (parts_fact .nil) (aam .nil) (abl .nil rfl))
 | snd a b p ih=>
  intro ho;have ho':=ho;simp only[Tm.ok,bae]at ho';have h1:=(nmL_iff a).1 ho'.1.1;have h2:=(nmL_iff b).1 ho'.1.2;refine adH ?_ (axT _ _ _ _ _ _ (parts_fact (.snd a b p)).pf (ih ho'.2) (aam (.snd a b p)) (abl (.snd a b p) ho));rw[or0 _ (lt p ho'.2),usedN,amK _ _ (lt p ho'.2) (akb a b ho'.1.1 ho'.1.2).2,Tm.free,acp (lets_addL (lets_b p ho'.2) h1) h2,acp (lets_b p ho'.2) h1,ain p ho'.2,Nat.zero_or,Nat.or_assoc]
 | mat a b p ih=>
  intro ho;have ho':=ho;simp only[Tm.ok,bae]at ho';have h1:=(nmL_iff a).1 ho'.1.1;have h2:=(nmL_iff b).1 ho'.1.2;refine adH ?_ (axT _ _ _ _ _ _ (parts_fact (.mat a b p)).pf (ih ho'.2) (aam (.mat a b p)) (abl (.mat a b p) ho));rw[or0 _ (lt p ho'.2),usedN,amK _ _ (lt p ho'.2) (akb a b ho'.1.1 ho'.1.2).2,Tm.free,acp (lets_addL (lets_b p ho'.2) h1) h2,acp (lets_b p ho'.2) h1,ain p ho'.2,Nat.zero_or,Nat.or_assoc]
 | rcv a x p ih=>
  intro ho;have ho':=ho;simp only[Tm.ok,bae]at ho';have h1:=(nmL_iff a).1 ho'.1.1;have h2:=(nmL_iff x).1 ho'.1.2;have hl:setN p.free &&& (4294967295 - 2 ^ (x.toNat - 97))<2 ^ 32:=Nat.lt_of_le_of_lt Nat.and_le_left (lt p ho'.2);refine adH ?_ (awg _ _ _ _ _ _ _ _ (parts_fact (.rcv a x p)).pf (ih ho'.2) (aam (.rcv a x p)) (by rw[or0 _ (lt p ho'.2)];exact afv _ x.toNat (lt p ho'.2) h2.1 h2.2) (abl (.rcv a x p) ho));rw[usedN,amK _ _ hl (by rw[Nat.zero_or];exact ac8 _ h1.2),Tm.free,acp (lets_lessL (lets_b p ho'.2) x) h1,agB (lets_b p ho'.2) h2,ain p ho'.2,Nat.zero_or]
 | own x p ih=>
  intro ho;have ho':=ho;simp only[Tm.ok,bae]at ho';have h2:=(nmL_iff x).1 ho'.1;have hl:setN p.free &&& (4294967295 - 2 ^ (x.toNat - 97))<2 ^ 32:=Nat.lt_of_le_of_lt Nat.and_le_left (lt p ho'.2);refine adH ?_ (awg _ _ _ _ _ _ _ _ (parts_fact (.own x p)).pf (ih ho'.2) (aam (.own x p)) (by rw[or0 _ (lt p ho'.2)];exact afv _ x.toNat (lt p ho'.2) h2.1 h2.2) (abl (.own x p) ho));rw[show usedN (.own x p)=0 from rfl,amK _ _ hl (by decide),Tm.free,agB (lets_b p ho'.2) h2,ain p ho'.2,Nat.or_zero]
 | tau p ih=>
  intro ho;have ho':=ho;simp only[Tm.ok]at ho';refine adH ?_ (axT _ _ _ _ _ _ (parts_fact (.tau p)).pf (ih ho') (aam (.tau p)) (abl (.tau p) ho));rw[or0 _ (lt p ho'),show usedN (.tau p)=0 from rfl,amK _ _ (lt p ho') (by decide),Tm.free,ain p ho',Nat.or_zero]
 | rep p ih=>
  intro ho;have ho':=ho;simp only[Tm.ok]at ho';refine adH ?_ (axT _ _ _ _ _ _ (parts_fact (.rep p)).pf (ih ho') (aam (.rep p)) (abl (.rep p) ho));rw[or0 _ (lt p ho'),show usedN (.rep p)=0 from rfl,amK _ _ (lt p ho') (by decide),Tm.free,ain p ho',Nat.or_zero]
 | sum p q ih ih2=>
  intro ho;have ho':=ho;simp only[Tm.ok,bae]at ho'
  have hl:setN p.free ||| setN q.free<2 ^ 32:=Nat.or_lt_two_pow (lt p ho'.1) (lt q ho'.2)
  refine adH ?_ (ayr _ _ _ _ _ _ _ _ _ (parts_fact (.sum p q)).pf (ih ho'.1) (ih2 ho'.2) (aam (.sum p q)) (abl (.sum p q) ho));rw[or0 _ (lt p ho'.1),show usedN (.sum p q)=0 from rfl,amK _ _ (lt p ho'.1) (lt q ho'.2),amK _ _ hl (by decide),Tm.free,agA (lets_b p ho'.1) (lets_free q ho'.2),ain p ho'.1,Nat.or_zero]
 | par p q ih ih2=>
  intro ho;have ho':=ho;simp only[Tm.ok,bae]at ho'
  have hl:setN p.free ||| setN q.free<2 ^ 32:=Nat.or_lt_two_pow (lt p ho'.1) (lt q ho'.2)
  refine adH ?_ (ayr _ _ _ _ _ _ _ _ _ (parts_fact (.par p q)).pf (ih ho'.1) (ih2 ho'.2) (aam (.par p q)) (abl (.par p q) ho));rw[or0 _ (lt p ho'.1),show usedN (.par p q)=0 from rfl,amK _ _ (lt p ho'.1) (lt q ho'.2),amK _ _ hl (by decide),Tm.free,agA (lets_b p ho'.1) (lets_free q ho'.2),ain p ho'.1,Nat.or_zero]
set_option linter.unusedSimpArgs false
theorem anY (t:Tm)(ho:t.ok nmL=true)(o:UInt8)(hn:nmL o=true):Ze 142 #[.int .u32 (setN t.free:Nat),.int .u8 (o.toNat:Int)] (.bool (decide (o∈t.free))):=by
 intro w;have h:=(nmL_iff o).1 hn;have h1:=ajk (setN t.free) o.toNat (ab8 _ (lets_free t ho)) h.1 h.2 w
 have e:(setN t.free).testBit (o.toNat - 97)=decide (o∈t.free):=by
  rw[Bool.eq_iff_iff,decide_eq_true_iff,abp _ (lets_free t ho)];exact⟨fun ⟨c,hc,e⟩=>by rw[<-u8_ext (show c.toNat=o.toNat by omega)];exact hc,fun hc=>⟨o,hc,by omega⟩⟩
 rw[e]at h1;exact h1
theorem ax4 (args:Array Value)(w:World):(callFunc 149 args).run prog w=.ok (.enter 149 args) w:=by kernel_rfl
theorem ck1 (T:TypeId)(V:Value)(ks kt:ByteArray)(hk:KindFact T V kt)(bk:Nat)(w:World)(hc:w.cell? ⟨bk,0,none⟩=some (.string ks)) : Calls prog 149 (#[.iface T V]++#[.pointer (some ⟨bk,0,none⟩)]) w fun e w'=>e=.returned (.bool (kt.toList==ks.toList))/\Zb w w':=by
 show Calls prog 149 #[.iface T V,.pointer (some ⟨bk,0,none⟩)] w _;obtain⟨F,R,hm1,hn1,hc1,hp⟩:=hk;have hlt:bk<w.heap.size:=World.block_lt_of_cell? w _ hc;have H:=qz hp;clear hp
 go_enter func149,ntmps149
 go_wp2_with fail
 go_region_with (refine(H.out _).mono ?_;rintro e w' ⟨rfl,bl⟩;have c2:=(bl.cell (p:=⟨bk,0,none⟩) hlt).trans hc)
 all_goals
  go_wp2_with fail;go_ret;refine⟨rfl,?_⟩
  first
   | exact bl
   | exact((Below.refl w.heap.size w).drew).trans bl
   | exact bl.drew
   | exact(((Below.refl w.heap.size w).drew).trans bl).drew
   | exact(((Below.refl w.heap.size w).drew).drew).trans bl
   | trace_state
def ax5 (bk:Nat)(ks:ByteArray)(w:World):Prop:=w.cell? ⟨bk,0,none⟩=some (.string ks)
theorem ahk (t:Tm)(ht:t.size<=1000)(ks:ByteArray)(w:World) : Calls prog 96 #[.iface (aau t) (pay t),.string ks] w fun e w'=>e=.returned (.int .i64 (t.subs.countP (fun u=>(one u.kind).toList==ks.toList):Nat))/\Zb w w':=by
 have HC:=acD 149 #[.pointer (some ⟨w.heap.size,0,none⟩)] (fun u=>(one u.kind).toList==ks.toList) (ax5 w.heap.size ks) ax4
  (fun u w1 j=>ck1 _ _ ks (one u.kind) (abj u) w.heap.size w1 j) t ht
 have HC2:Hid (∀T,Calls prog 89 #[.iface (aau t) (pay t),.func (.func 149) #[] #[.pointer (some ⟨w.heap.size,0,none⟩)]] (w.alloc (.cells #[.string ks] T)) fun e w'=>e=.returned (.int .i64 (t.subs.countP (fun u=>(one u.kind).toList==ks.toList):Nat))/\Below (w.alloc (.cells #[.string ks] T)).heap.size (w.alloc (.cells #[.string ks] T)) w'):=fun T=>
  HC (w.alloc (.cells #[.string ks] T)) (fun w1 w' j bl=>by unfold ax5 at j ⊢;rw[bl.cell (p:=⟨w.heap.size,0,none⟩) (by simp)];exact j) (by unfold ax5;rw[World.cell?_alloc_new];rfl)
 clear HC;obtain⟨T,hT⟩:∃T,T=aau t:=⟨_,rfl⟩;obtain⟨V,hV⟩:∃V,V=pay t:=⟨_,rfl⟩;obtain⟨N,hN⟩:∃N,N=t.subs.countP (fun u=>(one u.kind).toList==ks.toList):=⟨_,rfl⟩;rw[<-hT,<-hV,<-hN]at HC2;rw[<-hT,<-hV,<-hN];clear hT hV hN
 go_enter func96,ntmps96
 go_wp2_with fail;refine(HC2.out _).mono ?_;rintro e w1 ⟨rfl,bl⟩;go_wp2_with fail;go_ret;exact⟨rfl,aab (bra) bl (by simp)⟩
theorem awh (a b:UInt8):((one a).toList==(one b).toList)=(a==b):=by
 have h:∀c,(one c).toList=[c]:=fun c=>by rw[ByteArray.toList_eq];rfl
 rw[h,h];simp
def isN:Tm->Bool
 | .nil=>true
 | _=>false
theorem aqW (t:Tm):((one t.kind).toList==[48])=isN t:=by
 rw[show ([48]:List UInt8)=(one 48).toList from by rw[ByteArray.toList_eq];rfl];rw[awh]
 cases t<;>first|rfl|skip
theorem acU (t:Tm):isN t=true↔t=.nil:=by cases t<;>simp[isN]
theorem alN (T:TypeId)(V:Value)(kt:ByteArray)(z:Bool)(hz:(kt.toList==[48])=z)(hk:KindFact T V kt)(w:World):Calls prog 143 #[.iface T V] w fun e w'=>e=.returned (.bool z)/\Zb w w':=by
 obtain⟨F,R,hm1,hn1,hc1,hp⟩:=hk;have HZ:=qz hz;have H:=qz hp;clear hp hz
 go_enter func143,ntmps143
 go_wp2_with fail;refine(H.out _).mono ?_;rintro e w' ⟨rfl,bl⟩;go_wp2_with fail;go_ret;exact⟨by rw[<-HZ.out];rfl,bl⟩
theorem abW (t:Tm)(w:World):Calls prog 143 #[.iface (aau t) (pay t)] w fun e w'=>e=.returned (.bool (isN t))/\Zb w w':=
 alN _ _ _ _ (aqW t) (abj t) w
def inB (s:ByteArray)(c:Int):Bool:=s.data.toList.any fun x=>(x.toNat:Int)==c
theorem atu (s:ByteArray)(c:Int)(k:Nat)(h:k<s.size)(h1:(s[k].toNat:Int)=c):inB s c=true:=by
 unfold inB;rw[List.any_eq_true];exact⟨s[k],by show s.data[k]∈_;simp,by simp[h1]⟩
theorem awi (s:ByteArray)(c:Int)(h:(s.data.toList.take s.size).any (fun x=>(x.toNat:Int)==c)=false):inB s c=false:=by
 rw[List.take_of_length_le (by simp)]at h;exact h
theorem acd (s:ByteArray)(c:Int)(w:World)(hs:s.size<=100000000) : Calls prog 119 #[.string s,.int .u8 c] w fun e w'=>e=.returned (.bool (inB s c))/\w=w':=by
 go_enter func119,ntmps119
 go_wp2_with fail
 go_loop [5] (fun i=>∃k:Nat,k<=s.size/\i=.int .i64 k/\Hid ((s.data.toList.take k).any (fun x=>(x.toNat:Int)==c)=false)) (fun i=>s.size - (intOf i).toNat)
 case atStart=>exact⟨0,Nat.zero_le _,rfl,by simp[Hid]⟩
 case round=>
  obtain⟨k,hk,rfl,H⟩:=hrel
  by_cases hlt:k<s.size
  ·by_cases hc:(s[k].toNat:Int)=c
   ·have hT:Hid (inB s c=true):=atu s c k hlt hc;have b1:((s[k].toNat:Int)==c)=true:=by simp[hc]
    clear hc;go_wp2_with fail;go_ret;exact⟨by rw[hT.out];rfl,rfl⟩
   ·have b1:((s[k].toNat:Int)==c)=false:=by simp[hc]
    have hT:Hid ((s.data.toList.take (k+1)).any (fun x=>(x.toNat:Int)==c)=false):=by
     have h0:=H.out;rw[adA s k hlt,List.any_append,h0];simp[Hid,hc]
    clear hc;go_wp2_with fail
    go_round
    case rel=>exact⟨k+1,by omega,by go_num,hT⟩
    case measure=>simp[intOf];omega
  ·have hT:Hid (inB s c=false):=awi s c (by have:=H.out;rw[show k=s.size by omega]at this;exact this);go_wp2_with fail;go_ret;exact⟨by rw[hT.out];rfl,rfl⟩
def inL (s:ByteArray)(i:Nat):Bool:=inB s ((97+i:Nat):Int)
def atv (s:ByteArray)(k:Nat):Prop:=k<26/\(∀i,i<k->inL s i=true)/\inL s k=false
theorem afw (s:ByteArray)(c:UInt8):inB s (c.toNat:Int)=decide (c∈s.data.toList):=by
 rw[Bool.eq_iff_iff,decide_eq_true_iff];unfold inB;rw[List.any_eq_true];constructor
 ·rintro⟨x,hx,h⟩;have:x=c:=u8_ext (by have:=eq_of_beq h;omega);rw[<-this];exact hx
 ·intro h;exact⟨c,h,by simp⟩
theorem ads (s:ByteArray)(n:Nat)(h:n<256):inB s ((n:Nat):Int)=decide (UInt8.ofNat n∈s.data.toList):=by
 have:=afw s (UInt8.ofNat n);rw[UInt8.toNat_ofNat',Nat.mod_eq_of_lt (by omega)]at this
 exact this
theorem aio (n:Nat)(h:n<256):((UInt8.ofNat n).toNat:Int)=(n:Int):=by rw[UInt8.toNat_ofNat',Nat.mod_eq_of_lt (by omega)]
theorem abX (s:ByteArray)(hs:s.size<=100000000)(w:World):Calls prog 123 #[.string s] w fun e w'=>e=.returned (.int .u8 ((fresh s.data.toList).toNat:Int))/\w=w':=by
 have HI:=qz (fun c w=>acd s c w hs)
 go_enter func123,ntmps123
 go_wp2_with fail
 go_loop [3] (fun c=>∃k:Nat,k<=26/\c=.int .u8 ((97+k:Nat):Int)/\Hid (∀i,i<k->inL s i=true)) (fun c=>200 - (intOf c).toNat)
 case atStart=>exact⟨0,Nat.zero_le _,rfl,fun i h=>by omega⟩
 case round=>
  obtain⟨k,hk,rfl,H⟩:=hrel
  by_cases hlt:k<26
  ·cases hb:inL s k with
   | true=>
    have HC:Hid (Ze 119 #[.string s,.int .u8 (97+(k:Int))] (.bool true)):=fun w=>by
     have:=HI.out ((97+k:Nat):Int) w;rw[show inB s ((97+k:Nat):Int)=true from hb]at this
     push_cast at this;exact this
    have H':Hid (∀i,i<k+1->inL s i=true):=fun i hi=>by
     rcases Nat.lt_or_ge i k with h'|h'
     ·exact H.out i h'
     ·rw[show i=k by omega];exact hb
    clear hb;go_wp2_with fail;refine(HC.out _).mono ?_;rintro e w' ⟨rfl,rfl⟩;go_wp2_with fail
    go_round
    case rel=>exact⟨k+1,by omega,by push_cast;rfl,H'⟩
    case measure=>simp[intOf];omega
   | false=>
    have HC:Hid (Ze 119 #[.string s,.int .u8 (97+(k:Int))] (.bool false)):=fun w=>by
     have:=HI.out ((97+k:Nat):Int) w;rw[show inB s ((97+k:Nat):Int)=false from hb]at this
     push_cast at this;exact this
    have HF:Hid (atv s k):=⟨hlt,H.out,hb⟩;clear hb;go_wp2_with fail;refine(HC.out _).mono ?_;rintro e w' ⟨rfl,rfl⟩;go_wp2_with fail;go_ret;exact⟨aaU (by rw[ah5 s.data.toList k HF.out.1 (fun i hi=>by have:=HF.out.2.1 i hi;rw[inL,ads s _ (by have:=HF.out.1;omega),decide_eq_true_iff]at this;exact this) (by have:=HF.out.2.2;rw[inL,ads s _ (by have:=HF.out.1;omega),decide_eq_false_iff_not]at this;exact this),aio _ (by have:=HF.out.1;omega)];push_cast;rfl),rfl⟩
  ·obtain rfl:k=26:=by omega
   go_wp2_with fail
   go_loop [4] (fun c=>∃j:Nat,j<=63/\c=.int .u8 ((128+j:Nat):Int)/\Hid (∀i,i<j->inB s ((128+i:Nat):Int)=true)) (fun c=>200 - (intOf c).toNat)
   case atStart=>exact⟨0,Nat.zero_le _,rfl,fun i h=>by omega⟩
   case round=>
    obtain⟨j,hj,rfl,HJ⟩:=hrel
    by_cases hlt2:j<63
    ·have HC:Hid (∀w,Calls prog 119 #[.string s,.int .u8 (128+(j:Int))] w fun e w'=>e=.returned (.bool (inB s ((128+j:Nat):Int)))/\w=w'):=fun w=>by
      have:=HI.out ((128+j:Nat):Int) w
      push_cast at this ⊢;exact this
     cases hb:inB s ((128+j:Nat):Int) with
     | true=>
      have HJ':Hid (∀i,i<j+1->inB s ((128+i:Nat):Int)=true):=fun i hi=>by
       rcases Nat.lt_or_ge i j with h'|h'
       ·exact HJ.out i h'
       ·rw[show i=j by omega];exact hb
      rw[hb]at HC;clear hb;go_wp2_with fail;refine(HC.out _).mono ?_;rintro e w' ⟨rfl,rfl⟩;go_wp2_with fail
      go_round
      case rel=>exact⟨j+1,by omega,by push_cast;rfl,HJ'⟩
      case measure=>simp[intOf];omega
     | false=>
      have HB:=qz hb;rw[hb]at HC;clear hb;go_wp2_with fail;refine(HC.out _).mono ?_;rintro e w' ⟨rfl,rfl⟩;go_wp2_with fail;go_ret;exact⟨aaU (by rw[agD s.data.toList j hlt2 (fun i hi=>by have:=H.out i hi;rw[inL,ads s _ (by omega),decide_eq_true_iff]at this;exact this) (fun i hi=>by have:=HJ.out i hi;rw[ads s _ (by omega),decide_eq_true_iff]at this;exact this) (by have:=HB.out;rw[ads s _ (by omega),decide_eq_false_iff_not]at this;exact this),aio _ (by omega)];push_cast;rfl),rfl⟩
    ·obtain rfl:j=63:=by omega
     go_wp2_with fail;go_ret;exact⟨aaU (by rw[agE s.data.toList (fun i hi=>by have:=H.out i hi;rw[inL,ads s _ (by omega),decide_eq_true_iff]at this;exact this) (fun i hi=>by have:=HJ.out i hi;rw[ads s _ (by omega),decide_eq_true_iff]at this;exact this)];rfl),rfl⟩
end Go.Proofs.YtihmcgcgjmbmhaaGreat.T1
