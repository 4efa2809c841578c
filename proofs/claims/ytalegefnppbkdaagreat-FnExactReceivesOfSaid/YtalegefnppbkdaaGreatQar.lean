/- Texts of the proof. No conditions. -/
import Derived.Test.YtalegefnppbkdaaGreatQal
import Derived.Test.YtalegefnppbkdaaGreatQaq
namespace Go.Proofs.YtalegefnppbkdaaGreat.T1
open Go.Proofs.Tryz
set_option maxHeartbeats 2000000
open Go.RowKit
set_option maxRecDepth 100000
set_option linter.unusedVariables false
theorem aqf (a b:Nat)(ha:a<2 ^ 32)(hb:b<2 ^ 32):bits .andNot .u32 (a:Int) (b:Int)=((a &&& (4294967295 - b):Nat):Int):=u32_andNot_nat a b ha hb
theorem afh (n c:Nat)(hn:n<2 ^ 32)(h1:97<=c)(h2:c<=122)(w:World) : Calls prog 120 #[.int .u32 (n:Int),.int .u8 (c:Int)] w fun e w'=>e=.returned (.int .u32 ((n &&& (4294967295 - 2 ^ (c - 97)):Nat):Int))/\w=w':=by
 have HW:=abQ 0 c (by decide) h1 h2;rw[Nat.zero_or]at HW;have HW2:Hid (∀w,Calls prog 93 #[.int .u32 0,.int .u8 (c:Int)] w fun e w'=>e=.returned (.int .u32 ((2 ^ (c - 97):Nat):Int))/\w=w'):=HW;have HB:Hid (bits .andNot .u32 (n:Int) ((2 ^ (c - 97):Nat):Int)=((n &&& (4294967295 - 2 ^ (c - 97)):Nat):Int)):=aqf n _ hn (ac6 c h2);obtain⟨m,hm⟩:∃m,m=2 ^ (c - 97):=⟨_,rfl⟩;obtain⟨r,hr⟩:∃r,r=n &&& (4294967295 - m):=⟨_,rfl⟩;rw[<-hm]at HW2 HB ⊢;rw[<-hr]at HB ⊢;clear hn HW hm hr
 go_enter func120,ntmps120
 go_wp2_with fail;refine(HW2.out _).mono ?_;rintro e w' ⟨rfl,rfl⟩;go_wp2_with fail;go_ret;exact⟨aaK HB.out,rfl⟩
theorem alo  (w:World):Calls prog 119 #[.iface 90 (.agg #[])] w fun e w'=>e=.returned (.tuple #[.int .u8 0,.bool false])/\Zb w w':=by
 go_enter func119,ntmps119
 go_wp2_with fail;go_ret2
 first|exact⟨rfl,aaj (bra) _⟩|exact⟨rfl,Below.refl _ _⟩|exact⟨rfl,bra⟩|exact⟨rfl,(bra).drew⟩
theorem asE (n0 n1:Int)(tz:TypeId)(vz:Value)(w:World):Calls prog 119 #[.iface 108 (.agg #[.int .u8 n0,.int .u8 n1,.iface tz vz])] w fun e w'=>e=.returned (.tuple #[.int .u8 0,.bool false])/\Zb w w':=by
 go_enter func119,ntmps119
 go_wp2_with fail;go_ret2
 first|exact⟨rfl,aaj (bra) _⟩|exact⟨rfl,Below.refl _ _⟩|exact⟨rfl,bra⟩|exact⟨rfl,(bra).drew⟩
theorem alp (n0 n1:Int)(tz:TypeId)(vz:Value)(w:World):Calls prog 119 #[.iface 111 (.agg #[.int .u8 n0,.int .u8 n1,.iface tz vz])] w fun e w'=>e=.returned (.tuple #[.int .u8 n1,.bool true])/\Zb w w':=by
 go_enter func119,ntmps119
 go_wp2_with fail;go_ret2
 first|exact⟨rfl,aaj (bra) _⟩|exact⟨rfl,Below.refl _ _⟩|exact⟨rfl,bra⟩|exact⟨rfl,(bra).drew⟩
theorem an4 (tz:TypeId)(vz:Value)(w:World):Calls prog 119 #[.iface 146 (.agg #[.iface tz vz])] w fun e w'=>e=.returned (.tuple #[.int .u8 0,.bool false])/\Zb w w':=by
 go_enter func119,ntmps119
 go_wp2_with fail;go_ret2
 first|exact⟨rfl,aaj (bra) _⟩|exact⟨rfl,Below.refl _ _⟩|exact⟨rfl,bra⟩|exact⟨rfl,(bra).drew⟩
theorem an5 (tz ty:TypeId)(vz vy:Value)(w:World):Calls prog 119 #[.iface 62 (.agg #[.iface tz vz,.iface ty vy])] w fun e w'=>e=.returned (.tuple #[.int .u8 0,.bool false])/\Zb w w':=by
 go_enter func119,ntmps119
 go_wp2_with fail;go_ret2
 first|exact⟨rfl,aaj (bra) _⟩|exact⟨rfl,Below.refl _ _⟩|exact⟨rfl,bra⟩|exact⟨rfl,(bra).drew⟩
theorem an6 (tz ty:TypeId)(vz vy:Value)(w:World):Calls prog 119 #[.iface 55 (.agg #[.iface tz vz,.iface ty vy])] w fun e w'=>e=.returned (.tuple #[.int .u8 0,.bool false])/\Zb w w':=by
 go_enter func119,ntmps119
 go_wp2_with fail;go_ret2
 first|exact⟨rfl,aaj (bra) _⟩|exact⟨rfl,Below.refl _ _⟩|exact⟨rfl,bra⟩|exact⟨rfl,(bra).drew⟩
theorem ave (n0:Int)(tz:TypeId)(vz:Value)(w:World):Calls prog 119 #[.iface 61 (.agg #[.int .u8 n0,.iface tz vz])] w fun e w'=>e=.returned (.tuple #[.int .u8 n0,.bool true])/\Zb w w':=by
 go_enter func119,ntmps119
 go_wp2_with fail;go_ret2
 first|exact⟨rfl,aaj (bra) _⟩|exact⟨rfl,Below.refl _ _⟩|exact⟨rfl,bra⟩|exact⟨rfl,(bra).drew⟩
theorem aqg (n0 n1:Int)(tz:TypeId)(vz:Value)(w:World):Calls prog 119 #[.iface 150 (.agg #[.int .u8 n0,.int .u8 n1,.iface tz vz])] w fun e w'=>e=.returned (.tuple #[.int .u8 0,.bool false])/\Zb w w':=by
 go_enter func119,ntmps119
 go_wp2_with fail;go_ret2
 first|exact⟨rfl,aaj (bra) _⟩|exact⟨rfl,Below.refl _ _⟩|exact⟨rfl,bra⟩|exact⟨rfl,(bra).drew⟩
theorem an7 (tz:TypeId)(vz:Value)(w:World):Calls prog 119 #[.iface 147 (.agg #[.iface tz vz])] w fun e w'=>e=.returned (.tuple #[.int .u8 0,.bool false])/\Zb w w':=by
 go_enter func119,ntmps119
 go_wp2_with fail;go_ret2
 first|exact⟨rfl,aaj (bra) _⟩|exact⟨rfl,Below.refl _ _⟩|exact⟨rfl,bra⟩|exact⟨rfl,(bra).drew⟩
theorem aap (t:Tm):Zr 119 #[.iface (aaB t) (pay t)] (au7 t.binds):=by
 cases t with
 | nil =>exact alo
 | snd a b p=>exact asE _ _ _ _
 | rcv a x p=>exact alp _ _ _ _
 | tau p=>exact an4 _ _
 | sum p q=>exact an5 _ _ _ _
 | par p q=>exact an6 _ _ _ _
 | own x p=>exact ave _ _ _
 | mat a b p=>exact aqg _ _ _ _
 | rep p=>exact an7 _ _
def usedN:Tm->Nat
 | .snd a b _=>(0 ||| 2 ^ (a.toNat - 97)) ||| 2 ^ (b.toNat - 97)
 | .rcv a _ _=>0 ||| 2 ^ (a.toNat - 97)
 | .mat a b _=>(0 ||| 2 ^ (a.toNat - 97)) ||| 2 ^ (b.toNat - 97)
 | _=>0
theorem aj0 (a b:UInt8)(ha:nmL a=true)(hb:nmL b=true):0 ||| 2 ^ (a.toNat - 97)<2 ^ 32/\(0 ||| 2 ^ (a.toNat - 97)) ||| 2 ^ (b.toNat - 97)<2 ^ 32:=by
 rw[nmL_iff]at ha hb;have h1:=ac6 a.toNat ha.2;have h2:=ac6 b.toNat hb.2;exact⟨Nat.or_lt_two_pow (by decide) h1,Nat.or_lt_two_pow (Nat.or_lt_two_pow (by decide) h1) h2⟩
theorem alq  (w:World):Calls prog 121 #[.iface 90 (.agg #[])] w fun e w'=>e=.returned (.int .u32 0)/\Zb w w':=by
 go_enter func121,ntmps121
 go_wp2_with fail;go_ret
 first|exact⟨rfl,aaj (bra) _⟩|exact⟨rfl,Below.refl _ _⟩|exact⟨rfl,bra⟩|exact⟨rfl,(bra).drew⟩
theorem asF (n0 n1:Int)(tz:TypeId)(vz:Value)(u1 u2:Int)(H1:Ze 93 #[.int .u32 0,.int .u8 n0] (.int .u32 u1))(H2:Ze 93 #[.int .u32 u1,.int .u8 n1] (.int .u32 u2))(w:World):Calls prog 121 #[.iface 108 (.agg #[.int .u8 n0,.int .u8 n1,.iface tz vz])] w fun e w'=>e=.returned (.int .u32 u2)/\Zb w w':=by
 have H1':=qz H1;have H2':=qz H2;clear H1 H2
 go_enter func121,ntmps121
 go_wp2_with fail
 go_quiet (first|(go_at_call_of 93 n0;exact Calls.quiet_of_same ((H1'.out _).mono fun _ _ hh=>⟨hh.1,hh.2.symm⟩))|(go_at_call_of 93 n1;exact Calls.quiet_of_same ((H2'.out _).mono fun _ _ hh=>⟨hh.1,hh.2.symm⟩)))
 go_wp2_with fail;go_ret
 first|exact⟨rfl,aaj (bra) _⟩|exact⟨rfl,Below.refl _ _⟩|exact⟨rfl,bra⟩|exact⟨rfl,(bra).drew⟩
theorem alr (n0 n1:Int)(tz:TypeId)(vz:Value)(u1:Int)(H1:Ze 93 #[.int .u32 0,.int .u8 n0] (.int .u32 u1))(w:World):Calls prog 121 #[.iface 111 (.agg #[.int .u8 n0,.int .u8 n1,.iface tz vz])] w fun e w'=>e=.returned (.int .u32 u1)/\Zb w w':=by
 have H1':=qz H1;clear H1
 go_enter func121,ntmps121
 go_wp2_with fail;refine(H1'.out _).mono ?_;rintro e w1 ⟨rfl,rfl⟩;go_wp2_with fail;go_ret
 first|exact⟨rfl,aaj (bra) _⟩|exact⟨rfl,Below.refl _ _⟩|exact⟨rfl,bra⟩|exact⟨rfl,(bra).drew⟩
theorem an8 (tz:TypeId)(vz:Value)(w:World):Calls prog 121 #[.iface 146 (.agg #[.iface tz vz])] w fun e w'=>e=.returned (.int .u32 0)/\Zb w w':=by
 go_enter func121,ntmps121
 go_wp2_with fail;go_ret
 first|exact⟨rfl,aaj (bra) _⟩|exact⟨rfl,Below.refl _ _⟩|exact⟨rfl,bra⟩|exact⟨rfl,(bra).drew⟩
theorem an9 (tz ty:TypeId)(vz vy:Value)(w:World):Calls prog 121 #[.iface 62 (.agg #[.iface tz vz,.iface ty vy])] w fun e w'=>e=.returned (.int .u32 0)/\Zb w w':=by
 go_enter func121,ntmps121
 go_wp2_with fail;go_ret
 first|exact⟨rfl,aaj (bra) _⟩|exact⟨rfl,Below.refl _ _⟩|exact⟨rfl,bra⟩|exact⟨rfl,(bra).drew⟩
theorem an_ (tz ty:TypeId)(vz vy:Value)(w:World):Calls prog 121 #[.iface 55 (.agg #[.iface tz vz,.iface ty vy])] w fun e w'=>e=.returned (.int .u32 0)/\Zb w w':=by
 go_enter func121,ntmps121
 go_wp2_with fail;go_ret
 first|exact⟨rfl,aaj (bra) _⟩|exact⟨rfl,Below.refl _ _⟩|exact⟨rfl,bra⟩|exact⟨rfl,(bra).drew⟩
theorem avf (n0:Int)(tz:TypeId)(vz:Value)(w:World):Calls prog 121 #[.iface 61 (.agg #[.int .u8 n0,.iface tz vz])] w fun e w'=>e=.returned (.int .u32 0)/\Zb w w':=by
 go_enter func121,ntmps121
 go_wp2_with fail;go_ret
 first|exact⟨rfl,aaj (bra) _⟩|exact⟨rfl,Below.refl _ _⟩|exact⟨rfl,bra⟩|exact⟨rfl,(bra).drew⟩
theorem aqh (n0 n1:Int)(tz:TypeId)(vz:Value)(u1 u2:Int)(H1:Ze 93 #[.int .u32 0,.int .u8 n0] (.int .u32 u1))(H2:Ze 93 #[.int .u32 u1,.int .u8 n1] (.int .u32 u2))(w:World):Calls prog 121 #[.iface 150 (.agg #[.int .u8 n0,.int .u8 n1,.iface tz vz])] w fun e w'=>e=.returned (.int .u32 u2)/\Zb w w':=by
 have H1':=qz H1;have H2':=qz H2;clear H1 H2
 go_enter func121,ntmps121
 go_wp2_with fail
 go_quiet (first|(go_at_call_of 93 n0;exact Calls.quiet_of_same ((H1'.out _).mono fun _ _ hh=>⟨hh.1,hh.2.symm⟩))|(go_at_call_of 93 n1;exact Calls.quiet_of_same ((H2'.out _).mono fun _ _ hh=>⟨hh.1,hh.2.symm⟩)))
 go_wp2_with fail;go_ret
 first|exact⟨rfl,aaj (bra) _⟩|exact⟨rfl,Below.refl _ _⟩|exact⟨rfl,bra⟩|exact⟨rfl,(bra).drew⟩
theorem aoa (tz:TypeId)(vz:Value)(w:World):Calls prog 121 #[.iface 147 (.agg #[.iface tz vz])] w fun e w'=>e=.returned (.int .u32 0)/\Zb w w':=by
 go_enter func121,ntmps121
 go_wp2_with fail;go_ret
 first|exact⟨rfl,aaj (bra) _⟩|exact⟨rfl,Below.refl _ _⟩|exact⟨rfl,bra⟩|exact⟨rfl,(bra).drew⟩
theorem abc (t:Tm)(ho:t.ok nmL=true):Zr 121 #[.iface (aaB t) (pay t)] (.int .u32 (usedN t:Nat)):=by
 cases t with
 | nil =>exact alq
 | snd a b p=>
  simp only[Tm.ok,bae]at ho;have h1:=(nmL_iff a).1 ho.1.1;have h2:=(nmL_iff b).1 ho.1.2;exact asF _ _ _ _ _ _ (abQ 0 a.toNat (by decide) h1.1 h1.2) (abQ _ b.toNat (aj0 a b ho.1.1 ho.1.2).1 h2.1 h2.2)
 | rcv a x p=>
  simp only[Tm.ok,bae]at ho;have h1:=(nmL_iff a).1 ho.1.1;exact alr _ _ _ _ _ (abQ 0 a.toNat (by decide) h1.1 h1.2)
 | tau p=>exact an8 _ _
 | sum p q=>exact an9 _ _ _ _
 | par p q=>exact an_ _ _ _ _
 | own x p=>exact avf _ _ _
 | mat a b p=>
  simp only[Tm.ok,bae]at ho;have h1:=(nmL_iff a).1 ho.1.1;have h2:=(nmL_iff b).1 ho.1.2;exact aqh _ _ _ _ _ _ (abQ 0 a.toNat (by decide) h1.1 h1.2) (abQ _ b.toNat (aj0 a b ho.1.1 ho.1.2).1 h2.1 h2.2)
 | rep p=>exact aoa _ _
theorem axi (T:TypeId)(V:Value)(U:Int)(hP:PartsFact T V []) (HB:Zr 119 #[.iface T V] (.tuple #[.int .u8 0,.bool false]))(HU:Zr 121 #[.iface T V] (.int .u32 U))(w:World) : Calls prog 92 #[.iface T V] w fun e w'=>e=.returned (.int .u32 (bits .or .u32 0 U))/\Zb w w':=by
 obtain⟨F,RR,hm,hn,hc,hp⟩:=hP;have HP:=qz hp;have HB':=qz HB;have HU':=qz HU;clear hp HB HU
 go_enter func92,ntmps92
 go_wp2_with fail;refine(HP.out _).mono ?_;rintro e w1 ⟨rfl,bl⟩;go_wp2_with fail;refine wp_loop_rounds 1 ?_;rw[rounds_succ];go_wp2_with fail;refine(HB'.out _).mono ?_;rintro e w4 ⟨rfl,b4⟩;have bl4:=aab bl b4 bl.size;go_wp2_with fail;refine(HU'.out _).mono ?_;rintro e w6 ⟨rfl,b6⟩;have bl6:=aab bl4 b6 bl4.size;go_wp2_with fail;go_ret;exact⟨rfl,bl6⟩
theorem awn (T:TypeId)(V:Value)(tp:TypeId)(vp:Value)(N:Int)(U:Int)(hP:∃(F:FuncId) (R:Value),(∀n w,(method (n+1) T V "loop.example/g01175/impl.parts").run prog w=.ok (F,R) w)/\(∀n w,(nilAhead (n+1) T V "loop.example/g01175/impl.parts").run prog w=.ok (some false) w)/\(∀args w,(callFunc F args).run prog w=.ok (.enter F args) w)/\∀w,Calls prog F #[R] w fun e w'=>∃b,e=.returned (.slice (some ⟨b,0,none⟩) 1 1)/\w.heap.size<=b/\w'.heap[b]?=some (.cells #[.iface tp vp] 38 (0,0))/\Zb w w') (IH:Zr 92 #[.iface tp vp] (.int .u32 N))(HB:Zr 119 #[.iface T V] (.tuple #[.int .u8 0,.bool false]))(HU:Zr 121 #[.iface T V] (.int .u32 U))(w:World) : Calls prog 92 #[.iface T V] w fun e w'=>e=.returned (.int .u32 (bits .or .u32 (bits .or .u32 0 N) U))/\Zb w w':=by
 obtain⟨F,RR,hm,hn,hc,hp⟩:=hP;have HP:=qz hp;have IH':=qz IH;have HB':=qz HB;have HU':=qz HU;clear hp IH HB HU
 go_enter func92,ntmps92
 go_wp2_with fail;refine(HP.out _).mono ?_;rintro e w1 ⟨b,rfl,hb,hh,bl⟩;have c0:=aah hh;have Hh:=qz hh;clear hh;go_wp2_with fail;refine wp_loop_rounds 2 ?_;rw[rounds_succ];go_wp2_with fail;refine(IH'.out _).mono ?_;rintro e w2 ⟨rfl,b2⟩;have bl2:=aab bl b2 bl.size;have h2:=(b2.block b (lt_of_block Hh.out)).trans Hh.out;clear c0 bl;clear h2;go_wp2_with fail;rw[rounds_succ];go_wp2_with fail;refine(HB'.out _).mono ?_;rintro e w4 ⟨rfl,b4⟩;have bl4:=aab bl2 b4 bl2.size;go_wp2_with fail;refine(HU'.out _).mono ?_;rintro e w6 ⟨rfl,b6⟩;have bl6:=aab bl4 b6 bl4.size;go_wp2_with fail;go_ret;exact⟨rfl,bl6⟩
theorem avg (T:TypeId)(V:Value)(tp:TypeId)(vp:Value)(N:Int)(U:Int)(x R:Int)(hP:∃(F:FuncId) (R:Value),(∀n w,(method (n+1) T V "loop.example/g01175/impl.parts").run prog w=.ok (F,R) w)/\(∀n w,(nilAhead (n+1) T V "loop.example/g01175/impl.parts").run prog w=.ok (some false) w)/\(∀args w,(callFunc F args).run prog w=.ok (.enter F args) w)/\∀w,Calls prog F #[R] w fun e w'=>∃b,e=.returned (.slice (some ⟨b,0,none⟩) 1 1)/\w.heap.size<=b/\w'.heap[b]?=some (.cells #[.iface tp vp] 38 (0,0))/\Zb w w') (IH:Zr 92 #[.iface tp vp] (.int .u32 N))(HB:Zr 119 #[.iface T V] (.tuple #[.int .u8 x,.bool true]))(HW:Ze 120 #[.int .u32 (bits .or .u32 0 N),.int .u8 x] (.int .u32 R))(HU:Zr 121 #[.iface T V] (.int .u32 U))(w:World) : Calls prog 92 #[.iface T V] w fun e w'=>e=.returned (.int .u32 (bits .or .u32 R U))/\Zb w w':=by
 obtain⟨F,RR,hm,hn,hc,hp⟩:=hP;have HP:=qz hp;have IH':=qz IH;have HB':=qz HB;have HW':=qz HW;have HU':=qz HU;clear hp IH HB HW HU
 go_enter func92,ntmps92
 go_wp2_with fail;refine(HP.out _).mono ?_;rintro e w1 ⟨b,rfl,hb,hh,bl⟩;have c0:=aah hh;have Hh:=qz hh;clear hh;go_wp2_with fail;refine wp_loop_rounds 2 ?_;rw[rounds_succ];go_wp2_with fail;refine(IH'.out _).mono ?_;rintro e w2 ⟨rfl,b2⟩;have bl2:=aab bl b2 bl.size;have h2:=(b2.block b (lt_of_block Hh.out)).trans Hh.out;clear c0 bl;clear h2;go_wp2_with fail;rw[rounds_succ];go_wp2_with fail;refine(HB'.out _).mono ?_;rintro e w4 ⟨rfl,b4⟩;have bl4:=aab bl2 b4 bl2.size;go_wp2_with fail;refine(HW'.out _).mono ?_;rintro e w5 ⟨rfl,rfl⟩;go_wp2_with fail;refine(HU'.out _).mono ?_;rintro e w6 ⟨rfl,b6⟩;have bl6:=aab bl4 b6 bl4.size;go_wp2_with fail;go_ret;exact⟨rfl,bl6⟩
theorem aw2 (T:TypeId)(V:Value)(tp:TypeId)(vp:Value)(N:Int)(tq:TypeId)(vq:Value)(M:Int)(U:Int)(hP:∃(F:FuncId) (R:Value),(∀n w,(method (n+1) T V "loop.example/g01175/impl.parts").run prog w=.ok (F,R) w)/\(∀n w,(nilAhead (n+1) T V "loop.example/g01175/impl.parts").run prog w=.ok (some false) w)/\(∀args w,(callFunc F args).run prog w=.ok (.enter F args) w)/\∀w,Calls prog F #[R] w fun e w'=>∃b,e=.returned (.slice (some ⟨b,0,none⟩) 2 2)/\w.heap.size<=b/\w'.heap[b]?=some (.cells #[.iface tp vp,.iface tq vq] 38 (0,0))/\Zb w w') (IH:Zr 92 #[.iface tp vp] (.int .u32 N))(IH2:Zr 92 #[.iface tq vq] (.int .u32 M))(HB:Zr 119 #[.iface T V] (.tuple #[.int .u8 0,.bool false]))(HU:Zr 121 #[.iface T V] (.int .u32 U))(w:World) : Calls prog 92 #[.iface T V] w fun e w'=>e=.returned (.int .u32 (bits .or .u32 (bits .or .u32 (bits .or .u32 0 N) M) U))/\Zb w w':=by
 obtain⟨F,RR,hm,hn,hc,hp⟩:=hP;have HP:=qz hp;have IH':=qz IH;have IH2':=qz IH2;have HB':=qz HB;have HU':=qz HU;clear hp IH IH2 HB HU
 go_enter func92,ntmps92
 go_wp2_with fail;refine(HP.out _).mono ?_;rintro e w1 ⟨b,rfl,hb,hh,bl⟩;have c0:=aai hh;have Hh:=qz hh;clear hh;go_wp2_with fail;refine wp_loop_rounds 3 ?_;rw[rounds_succ];go_wp2_with fail;refine(IH'.out _).mono ?_;rintro e w2 ⟨rfl,b2⟩;have bl2:=aab bl b2 bl.size;have h2:=(b2.block b (lt_of_block Hh.out)).trans Hh.out;clear c0 bl;have c1:=aak h2;clear h2;go_wp2_with fail;rw[rounds_succ];go_wp2_with fail;refine(IH2'.out _).mono ?_;rintro e w3 ⟨rfl,b3⟩;have bl3:=aab bl2 b3 bl2.size;clear c1;go_wp2_with fail;rw[rounds_succ];go_wp2_with fail;refine(HB'.out _).mono ?_;rintro e w4 ⟨rfl,b4⟩;have bl4:=aab bl3 b4 bl3.size;go_wp2_with fail;refine(HU'.out _).mono ?_;rintro e w6 ⟨rfl,b6⟩;have bl6:=aab bl4 b6 bl4.size;go_wp2_with fail;go_ret;exact⟨rfl,bl6⟩
theorem lets_b (p:Tm)(ho:p.ok nmL=true):Lets (bothL [] p.free):=lets_bothL lets_nil0 (lets_free p ho)
theorem aii (p:Tm)(ho:p.ok nmL=true):setN (bothL [] p.free)=setN p.free:=by rw[abn (srt_free p)]
theorem or0 (n:Nat)(hn:n<2 ^ 32):bits .or .u32 0 (n:Int)=(n:Int):=by
 have:=ajJ 0 n (by decide) hn;rw[Nat.zero_or]at this
 exact this
theorem adO {T:TypeId}{V:Value}{n:Int}{m:Nat}(h:n=(m:Int))(hc:Zr 92 #[.iface T V] (.int .u32 n)):Zr 92 #[.iface T V] (.int .u32 (m:Int)):=by rw[<-h];exact hc
theorem abv (t:Tm):t.ok nmL=true->Zr 92 #[.iface (aaB t) (pay t)] (.int .u32 (setN t.free:Nat)):=by
 have lt:=fun (p:Tm) (ho:p.ok nmL=true)=>setN_lt32 _ (lets_free p ho)
 induction t with
 | nil=>exact fun _=>adO (by decide) (axi _ _ 0 (parts_fact .nil) (aap .nil) (abc .nil rfl))
 | snd a b p ih=>
  intro ho;have ho':=ho;simp only[Tm.ok,bae]at ho';have h1:=(nmL_iff a).1 ho'.1.1;have h2:=(nmL_iff b).1 ho'.1.2;refine adO ?_ (awn _ _ _ _ _ _ (parts_fact (.snd a b p)).pf (ih ho'.2) (aap (.snd a b p)) (abc (.snd a b p) ho));rw[or0 _ (lt p ho'.2),usedN,ajJ _ _ (lt p ho'.2) (aj0 a b ho'.1.1 ho'.1.2).2,Tm.free,abH (lets_addL (lets_b p ho'.2) h1) h2,abH (lets_b p ho'.2) h1,aii p ho'.2,Nat.zero_or,Nat.or_assoc]
 | mat a b p ih=>
  intro ho;have ho':=ho;simp only[Tm.ok,bae]at ho';have h1:=(nmL_iff a).1 ho'.1.1;have h2:=(nmL_iff b).1 ho'.1.2;refine adO ?_ (awn _ _ _ _ _ _ (parts_fact (.mat a b p)).pf (ih ho'.2) (aap (.mat a b p)) (abc (.mat a b p) ho));rw[or0 _ (lt p ho'.2),usedN,ajJ _ _ (lt p ho'.2) (aj0 a b ho'.1.1 ho'.1.2).2,Tm.free,abH (lets_addL (lets_b p ho'.2) h1) h2,abH (lets_b p ho'.2) h1,aii p ho'.2,Nat.zero_or,Nat.or_assoc]
 | rcv a x p ih=>
  intro ho;have ho':=ho;simp only[Tm.ok,bae]at ho';have h1:=(nmL_iff a).1 ho'.1.1;have h2:=(nmL_iff x).1 ho'.1.2;have hl:setN p.free &&& (4294967295 - 2 ^ (x.toNat - 97))<2 ^ 32:=Nat.lt_of_le_of_lt Nat.and_le_left (lt p ho'.2);refine adO ?_ (avg _ _ _ _ _ _ _ _ (parts_fact (.rcv a x p)).pf (ih ho'.2) (aap (.rcv a x p)) (by rw[or0 _ (lt p ho'.2)];exact afh _ x.toNat (lt p ho'.2) h2.1 h2.2) (abc (.rcv a x p) ho));rw[usedN,ajJ _ _ hl (by rw[Nat.zero_or];exact ac6 _ h1.2),Tm.free,abH (lets_lessL (lets_b p ho'.2) x) h1,af6 (lets_b p ho'.2) h2,aii p ho'.2,Nat.zero_or]
 | own x p ih=>
  intro ho;have ho':=ho;simp only[Tm.ok,bae]at ho';have h2:=(nmL_iff x).1 ho'.1;have hl:setN p.free &&& (4294967295 - 2 ^ (x.toNat - 97))<2 ^ 32:=Nat.lt_of_le_of_lt Nat.and_le_left (lt p ho'.2);refine adO ?_ (avg _ _ _ _ _ _ _ _ (parts_fact (.own x p)).pf (ih ho'.2) (aap (.own x p)) (by rw[or0 _ (lt p ho'.2)];exact afh _ x.toNat (lt p ho'.2) h2.1 h2.2) (abc (.own x p) ho));rw[show usedN (.own x p)=0 from rfl,ajJ _ _ hl (by decide),Tm.free,af6 (lets_b p ho'.2) h2,aii p ho'.2,Nat.or_zero]
 | tau p ih=>
  intro ho;have ho':=ho;simp only[Tm.ok]at ho';refine adO ?_ (awn _ _ _ _ _ _ (parts_fact (.tau p)).pf (ih ho') (aap (.tau p)) (abc (.tau p) ho));rw[or0 _ (lt p ho'),show usedN (.tau p)=0 from rfl,ajJ _ _ (lt p ho') (by decide),Tm.free,aii p ho',Nat.or_zero]
 | rep p ih=>
  intro ho;have ho':=ho;simp only[Tm.ok]at ho';refine adO ?_ (awn _ _ _ _ _ _ (parts_fact (.rep p)).pf (ih ho') (aap (.rep p)) (abc (.rep p) ho));rw[or0 _ (lt p ho'),show usedN (.rep p)=0 from rfl,ajJ _ _ (lt p ho') (by decide),Tm.free,aii p ho',Nat.or_zero]
 | sum p q ih ih2=>
  intro ho;have ho':=ho;simp only[Tm.ok,bae]at ho'
  have hl:setN p.free ||| setN q.free<2 ^ 32:=Nat.or_lt_two_pow (lt p ho'.1) (lt q ho'.2)
  refine adO ?_ (aw2 _ _ _ _ _ _ _ _ _ (parts_fact (.sum p q)).pf (ih ho'.1) (ih2 ho'.2) (aap (.sum p q)) (abc (.sum p q) ho));rw[or0 _ (lt p ho'.1),show usedN (.sum p q)=0 from rfl,ajJ _ _ (lt p ho'.1) (lt q ho'.2),ajJ _ _ hl (by decide),Tm.free,af5 (lets_b p ho'.1) (lets_free q ho'.2),aii p ho'.1,Nat.or_zero]
 | par p q ih ih2=>
  intro ho;have ho':=ho;simp only[Tm.ok,bae]at ho'
  have hl:setN p.free ||| setN q.free<2 ^ 32:=Nat.or_lt_two_pow (lt p ho'.1) (lt q ho'.2)
  refine adO ?_ (aw2 _ _ _ _ _ _ _ _ _ (parts_fact (.par p q)).pf (ih ho'.1) (ih2 ho'.2) (aap (.par p q)) (abc (.par p q) ho));rw[or0 _ (lt p ho'.1),show usedN (.par p q)=0 from rfl,ajJ _ _ (lt p ho'.1) (lt q ho'.2),ajJ _ _ hl (by decide),Tm.free,af5 (lets_b p ho'.1) (lets_free q ho'.2),aii p ho'.1,Nat.or_zero]
end Go.Proofs.YtalegefnppbkdaaGreat.T1
