/- Texts of the proof. No conditions. -/
import Derived.Test.YtalegefnppbkdaaGreatQaj
import Derived.Deep.RegionHeld3
namespace Go.Proofs.YtalegefnppbkdaaGreat.T1
open Go.Proofs.Tryz
set_option maxHeartbeats 2000000
open Go.RowKit
set_option maxRecDepth 100000
set_option linter.unusedVariables false
theorem ajZ (t:Tm)(i:Nat)(h:i<(S t).size):(S t)[i]'h=t.pr[i]'(by rw[<-aan];exact h):=abh (aaN t) i h (by rw[<-aan];exact h)
def au7:Option UInt8->Value
 | some x=>.tuple #[.int .u8 (x.toNat:Int),.bool true]
 | none=>.tuple #[.int .u8 0,.bool false]
theorem au8 (s:ByteArray)(hs:s.size<=700)(hz:2<s.size)(HK:Ze 71 #[.string s] (.int .u8 63))(w:World):Calls prog 89 #[.string s] w fun e w'=>e=.returned (.tuple #[.int .u8 ((s[2]'hz).toNat:Int),.bool true])/\w=w':=by
 have H:=qz HK;clear HK
 go_enter func89,ntmps89
 go_wp2_with fail;refine(H.out _).mono ?_;rintro e w1 ⟨rfl,rfl⟩;go_wp2_with fail;go_ret2;exact⟨rfl,rfl⟩
theorem au9 (s:ByteArray)(hs:s.size<=700)(hz:1<s.size)(HK:Ze 71 #[.string s] (.int .u8 35))(w:World):Calls prog 89 #[.string s] w fun e w'=>e=.returned (.tuple #[.int .u8 ((s[1]'hz).toNat:Int),.bool true])/\w=w':=by
 have H:=qz HK;clear HK
 go_enter func89,ntmps89
 go_wp2_with fail;refine(H.out _).mono ?_;rintro e w1 ⟨rfl,rfl⟩;go_wp2_with fail;go_ret2;exact⟨rfl,rfl⟩
theorem ai_ (s:ByteArray)(kd:Int)(b1:(kd==63)=false)(b2:(kd==35)=false)(HK:Ze 71 #[.string s] (.int .u8 kd))(w:World):Calls prog 89 #[.string s] w fun e w'=>e=.returned (.tuple #[.int .u8 0,.bool false])/\w=w':=by
 have H:=qz HK;clear HK
 go_enter func89,ntmps89
 go_wp2_with fail;refine(H.out _).mono ?_;rintro e w1 ⟨rfl,rfl⟩;go_wp2_with fail;go_ret2;exact⟨rfl,rfl⟩
theorem aaT (t:Tm)(ho:t.ok nmE=true)(hl:t.pr.length<=700)(w:World):Calls prog 89 #[.string (S t)] w fun e w'=>e=.returned (au7 t.binds)/\w=w':=by
 have hs:(S t).size<=700:=by rw[aan];exact hl
 have HK:=aad t ho hl
 cases t with
 | rcv a x p=>
  have hz:2<(S (.rcv a x p)).size:=by rw[aan];simp[Tm.pr]
  have h:=au8 _ hs hz HK w;rw[show (S (.rcv a x p))[2]'hz=x from ajZ _ 2 hz]at h;exact h
 | own x p=>
  have hz:1<(S (.own x p)).size:=by rw[aan];simp[Tm.pr]
  have h:=au9 _ hs hz HK w;rw[show (S (.own x p))[1]'hz=x from ajZ _ 1 hz]at h;exact h
 | nil=>exact ai_ _ 48 (by decide) (by decide) HK w
 | snd a b p=>exact ai_ _ 33 (by decide) (by decide) HK w
 | tau p=>exact ai_ _ 126 (by decide) (by decide) HK w
 | sum p q=>exact ai_ _ 43 (by decide) (by decide) HK w
 | par p q=>exact ai_ _ 38 (by decide) (by decide) HK w
 | mat a b p=>exact ai_ _ 61 (by decide) (by decide) HK w
 | rep p=>exact ai_ _ 42 (by decide) (by decide) HK w
theorem au_ (s:ByteArray)(HK:Ze 71 #[.string s] (.int .u8 48))(HB:Ze 89 #[.string s] (.tuple #[.int .u8 0,.bool false]))(HP:∀w,Calls prog 72 #[.string s] w (PartsS [] w))(w:World) : Calls prog 62 #[.string s] w fun e w'=>e=.returned (.string ⟨#[]⟩)/\Zb w w':=by
 have H:=qz HP;have HK':=qz HK;have HB':=qz HB;clear HP HK HB
 go_enter func62,ntmps62
 go_wp2_with fail;refine(H.out _).mono ?_;rintro e w1 ⟨rfl,bl⟩;go_wp2_with fail;refine wp_loop_rounds 1 ?_;rw[rounds_succ];go_wp2_with fail;refine(HB'.out _).mono ?_;rintro e w2 ⟨rfl,rfl⟩;go_wp2_with fail;refine(HK'.out _).mono ?_;rintro e w3 ⟨rfl,rfl⟩;go_wp2_with fail;go_ret;exact⟨rfl,bl⟩
theorem ava (s u U X0:ByteArray)(hs:s.size<=700)(hz:2<s.size)(X1 X2:ByteArray)(HK:Ze 71 #[.string s] (.int .u8 33))(HB:Ze 89 #[.string s] (.tuple #[.int .u8 0,.bool false]))(HP:∀w,Calls prog 72 #[.string s] w fun e w'=>∃b,e=.returned (.slice (some ⟨b,0,none⟩) 1 1)/\w.heap.size<=b/\w'.heap[b]?=some (.cells #[.string u] 9 (0,0))/\Zb w w') (IH:Zr 62 #[.string u] (.string U))(H0:Zr 64 #[.string ⟨#[]⟩,.string U] (.string X0))(H1:Zr 91 #[.string X0,.int .u8 ((s[0]'(by omega)).toNat:Int)] (.string X1))(H2:Zr 91 #[.string X1,.int .u8 ((s[2]'(by omega)).toNat:Int)] (.string X2))(w:World) : Calls prog 62 #[.string s] w fun e w'=>e=.returned (.string X2)/\Zb w w':=by
 have HP':=qz HP;have HK':=qz HK;have HB':=qz HB;have IH':=qz IH;have H0':=qz H0;have H1':=qz H1;have H2':=qz H2;clear HP HK HB IH H0 H1 H2
 go_enter func62,ntmps62
 go_wp2_with fail;refine(HP'.out _).mono ?_;rintro e w1 ⟨b,rfl,hb,hh,bl⟩;have c0:=aah hh;clear hh;go_wp2_with fail;refine wp_loop_rounds 2 ?_;rw[rounds_succ];go_wp2_with fail;refine(IH'.out _).mono ?_;rintro e w2 ⟨rfl,b2⟩;have bl2:=aab bl b2 bl.size;clear c0 bl;go_wp2_with fail;refine(H0'.out _).mono ?_;rintro e w3 ⟨rfl,b3⟩;have bl3:=aab bl2 b3 bl2.size;go_wp2_with fail;rw[rounds_succ];go_wp2_with fail;refine(HB'.out _).mono ?_;rintro e w4 ⟨rfl,rfl⟩;go_wp2_with fail;refine(HK'.out _).mono ?_;rintro e w5 ⟨rfl,rfl⟩;go_wp2_with fail
 go_region_held3 (fun w'=>Zb w w') (first|assumption|exact bl3.drew|exact aab (by assumption) d1 (Below.size (by assumption))|exact aab (by assumption) d2 (Below.size (by assumption)))
  (first|(go_at_call_of 91 X0;refine(H1'.out _).mono ?_;rintro e v1 ⟨rfl,d1⟩)|(go_at_call_of 91 X1;refine(H2'.out _).mono ?_;rintro e v2 ⟨rfl,d2⟩))
 all_goals
  go_wp2_with fail;go_ret;exact⟨rfl,by assumption⟩
theorem avb (s u U X0:ByteArray)(hs:s.size<=700)(hz:0<s.size)(X1 X2:ByteArray)(x:Int)(HK:Ze 71 #[.string s] (.int .u8 63))(HB:Ze 89 #[.string s] (.tuple #[.int .u8 x,.bool true]))(HP:∀w,Calls prog 72 #[.string s] w fun e w'=>∃b,e=.returned (.slice (some ⟨b,0,none⟩) 1 1)/\w.heap.size<=b/\w'.heap[b]?=some (.cells #[.string u] 9 (0,0))/\Zb w w') (IH:Zr 62 #[.string u] (.string U))(H0:Zr 64 #[.string ⟨#[]⟩,.string U] (.string X0))(H1:Ze 90 #[.string X0,.int .u8 x] (.string X1))(H2:Zr 91 #[.string X1,.int .u8 ((s[0]'(by omega)).toNat:Int)] (.string X2))(w:World) : Calls prog 62 #[.string s] w fun e w'=>e=.returned (.string X2)/\Zb w w':=by
 have HP':=qz HP;have HK':=qz HK;have HB':=qz HB;have IH':=qz IH;have H0':=qz H0;have H1':=qz H1;have H2':=qz H2;clear HP HK HB IH H0 H1 H2
 go_enter func62,ntmps62
 go_wp2_with fail;refine(HP'.out _).mono ?_;rintro e w1 ⟨b,rfl,hb,hh,bl⟩;have c0:=aah hh;clear hh;go_wp2_with fail;refine wp_loop_rounds 2 ?_;rw[rounds_succ];go_wp2_with fail;refine(IH'.out _).mono ?_;rintro e w2 ⟨rfl,b2⟩;have bl2:=aab bl b2 bl.size;clear c0 bl;go_wp2_with fail;refine(H0'.out _).mono ?_;rintro e w3 ⟨rfl,b3⟩;have bl3:=aab bl2 b3 bl2.size;go_wp2_with fail;rw[rounds_succ];go_wp2_with fail;refine(HB'.out _).mono ?_;rintro e w4 ⟨rfl,rfl⟩;go_wp2_with fail;refine(H1'.out _).mono ?_;rintro e w5 ⟨rfl,rfl⟩;go_wp2_with fail;refine(HK'.out _).mono ?_;rintro e w6 ⟨rfl,rfl⟩;go_wp2_with fail;refine(H2'.out _).mono ?_;rintro e w7 ⟨rfl,b7⟩;have bl7:=aab bl3 b7 bl3.size;go_wp2_with fail;go_ret;exact⟨rfl,bl7⟩
theorem avc (s u U X0:ByteArray)(hs:s.size<=700)(X1:ByteArray)(x:Int)(HK:Ze 71 #[.string s] (.int .u8 35))(HB:Ze 89 #[.string s] (.tuple #[.int .u8 x,.bool true]))(HP:∀w,Calls prog 72 #[.string s] w fun e w'=>∃b,e=.returned (.slice (some ⟨b,0,none⟩) 1 1)/\w.heap.size<=b/\w'.heap[b]?=some (.cells #[.string u] 9 (0,0))/\Zb w w') (IH:Zr 62 #[.string u] (.string U))(H0:Zr 64 #[.string ⟨#[]⟩,.string U] (.string X0))(H1:Ze 90 #[.string X0,.int .u8 x] (.string X1))(w:World) : Calls prog 62 #[.string s] w fun e w'=>e=.returned (.string X1)/\Zb w w':=by
 have HP':=qz HP;have HK':=qz HK;have HB':=qz HB;have IH':=qz IH;have H0':=qz H0;have H1':=qz H1;clear HP HK HB IH H0 H1
 go_enter func62,ntmps62
 go_wp2_with fail;refine(HP'.out _).mono ?_;rintro e w1 ⟨b,rfl,hb,hh,bl⟩;have c0:=aah hh;clear hh;go_wp2_with fail;refine wp_loop_rounds 2 ?_;rw[rounds_succ];go_wp2_with fail;refine(IH'.out _).mono ?_;rintro e w2 ⟨rfl,b2⟩;have bl2:=aab bl b2 bl.size;clear c0 bl;go_wp2_with fail;refine(H0'.out _).mono ?_;rintro e w3 ⟨rfl,b3⟩;have bl3:=aab bl2 b3 bl2.size;go_wp2_with fail;rw[rounds_succ];go_wp2_with fail;refine(HB'.out _).mono ?_;rintro e w4 ⟨rfl,rfl⟩;go_wp2_with fail;refine(H1'.out _).mono ?_;rintro e w5 ⟨rfl,rfl⟩;go_wp2_with fail;refine(HK'.out _).mono ?_;rintro e w6 ⟨rfl,rfl⟩;go_wp2_with fail;go_ret;exact⟨rfl,bl3⟩
theorem avd (s u U X0:ByteArray)(hs:s.size<=700)(hz:3<s.size)(X1 X2:ByteArray)(HK:Ze 71 #[.string s] (.int .u8 61))(HB:Ze 89 #[.string s] (.tuple #[.int .u8 0,.bool false]))(HP:∀w,Calls prog 72 #[.string s] w fun e w'=>∃b,e=.returned (.slice (some ⟨b,0,none⟩) 1 1)/\w.heap.size<=b/\w'.heap[b]?=some (.cells #[.string u] 9 (0,0))/\Zb w w') (IH:Zr 62 #[.string u] (.string U))(H0:Zr 64 #[.string ⟨#[]⟩,.string U] (.string X0))(H1:Zr 91 #[.string X0,.int .u8 ((s[1]'(by omega)).toNat:Int)] (.string X1))(H2:Zr 91 #[.string X1,.int .u8 ((s[3]'(by omega)).toNat:Int)] (.string X2))(w:World) : Calls prog 62 #[.string s] w fun e w'=>e=.returned (.string X2)/\Zb w w':=by
 have HP':=qz HP;have HK':=qz HK;have HB':=qz HB;have IH':=qz IH;have H0':=qz H0;have H1':=qz H1;have H2':=qz H2;clear HP HK HB IH H0 H1 H2
 go_enter func62,ntmps62
 go_wp2_with fail;refine(HP'.out _).mono ?_;rintro e w1 ⟨b,rfl,hb,hh,bl⟩;have c0:=aah hh;clear hh;go_wp2_with fail;refine wp_loop_rounds 2 ?_;rw[rounds_succ];go_wp2_with fail;refine(IH'.out _).mono ?_;rintro e w2 ⟨rfl,b2⟩;have bl2:=aab bl b2 bl.size;clear c0 bl;go_wp2_with fail;refine(H0'.out _).mono ?_;rintro e w3 ⟨rfl,b3⟩;have bl3:=aab bl2 b3 bl2.size;go_wp2_with fail;rw[rounds_succ];go_wp2_with fail;refine(HB'.out _).mono ?_;rintro e w4 ⟨rfl,rfl⟩;go_wp2_with fail;refine(HK'.out _).mono ?_;rintro e w5 ⟨rfl,rfl⟩;go_wp2_with fail
 go_region_held3 (fun w'=>Zb w w') (first|assumption|exact bl3.drew|exact aab (by assumption) d1 (Below.size (by assumption))|exact aab (by assumption) d2 (Below.size (by assumption)))
  (first|(go_at_call_of 91 X0;refine(H1'.out _).mono ?_;rintro e v1 ⟨rfl,d1⟩)|(go_at_call_of 91 X1;refine(H2'.out _).mono ?_;rintro e v2 ⟨rfl,d2⟩))
 all_goals
  go_wp2_with fail;go_ret;exact⟨rfl,by assumption⟩
theorem arH (s u U X0:ByteArray)(hs:s.size<=700)(kd:Int)(b1:(kd==33)=false)(b2:(kd==63)=false)(b3:(kd==61)=false)(HK:Ze 71 #[.string s] (.int .u8 kd))(HB:Ze 89 #[.string s] (.tuple #[.int .u8 0,.bool false]))(HP:∀w,Calls prog 72 #[.string s] w fun e w'=>∃b,e=.returned (.slice (some ⟨b,0,none⟩) 1 1)/\w.heap.size<=b/\w'.heap[b]?=some (.cells #[.string u] 9 (0,0))/\Zb w w') (IH:Zr 62 #[.string u] (.string U))(H0:Zr 64 #[.string ⟨#[]⟩,.string U] (.string X0))(w:World) : Calls prog 62 #[.string s] w fun e w'=>e=.returned (.string X0)/\Zb w w':=by
 have HP':=qz HP;have HK':=qz HK;have HB':=qz HB;have IH':=qz IH;have H0':=qz H0;clear HP HK HB IH H0
 go_enter func62,ntmps62
 go_wp2_with fail;refine(HP'.out _).mono ?_;rintro e w1 ⟨b,rfl,hb,hh,bl⟩;have c0:=aah hh;clear hh;go_wp2_with fail;refine wp_loop_rounds 2 ?_;rw[rounds_succ];go_wp2_with fail;refine(IH'.out _).mono ?_;rintro e w2 ⟨rfl,b2⟩;have bl2:=aab bl b2 bl.size;clear c0 bl;go_wp2_with fail;refine(H0'.out _).mono ?_;rintro e w3 ⟨rfl,b3⟩;have bl3:=aab bl2 b3 bl2.size;go_wp2_with fail;rw[rounds_succ];go_wp2_with fail;refine(HB'.out _).mono ?_;rintro e w4 ⟨rfl,rfl⟩;go_wp2_with fail;refine(HK'.out _).mono ?_;rintro e w5 ⟨rfl,rfl⟩;go_wp2_with fail;go_ret;exact⟨rfl,bl3⟩
theorem arI (s u v U V X0 X1:ByteArray)(kd:Int)(b1:(kd==33)=false)(b2:(kd==63)=false)(b3:(kd==61)=false)(HK:Ze 71 #[.string s] (.int .u8 kd))(HB:Ze 89 #[.string s] (.tuple #[.int .u8 0,.bool false]))(HP:∀w,Calls prog 72 #[.string s] w fun e w'=>∃b,e=.returned (.slice (some ⟨b,0,none⟩) 2 2)/\w.heap.size<=b/\w'.heap[b]?=some (.cells #[.string u,.string v] 9 (0,0))/\Zb w w') (IH:Zr 62 #[.string u] (.string U))(IH2:Zr 62 #[.string v] (.string V))(H0:Zr 64 #[.string ⟨#[]⟩,.string U] (.string X0))(H1:Zr 64 #[.string X0,.string V] (.string X1))(w:World) : Calls prog 62 #[.string s] w fun e w'=>e=.returned (.string X1)/\Zb w w':=by
 have HP':=qz HP;have HK':=qz HK;have HB':=qz HB;have IH':=qz IH;have IH2':=qz IH2;have H0':=qz H0;have H1':=qz H1;clear HP HK HB IH IH2 H0 H1
 go_enter func62,ntmps62
 go_wp2_with fail;refine(HP'.out _).mono ?_;rintro e w1 ⟨b,rfl,hb,hh,bl⟩;have c0:=aai hh;have Hh:=qz hh;clear hh;go_wp2_with fail;refine wp_loop_rounds 3 ?_;rw[rounds_succ];go_wp2_with fail;refine(IH'.out _).mono ?_;rintro e w2 ⟨rfl,b2'⟩;have h2:=(b2'.block b (lt_of_block Hh.out)).trans Hh.out;have bl2:=aab bl b2' bl.size;clear c0;have Hh2:=qz h2;clear h2;go_wp2_with fail;refine(H0'.out _).mono ?_;rintro e w3 ⟨rfl,b3'⟩;have h3:=(b3'.block b (lt_of_block Hh2.out)).trans Hh2.out;have bl3:=aab bl2 b3' bl2.size;have c1:=aak h3;clear h3;go_wp2_with fail;rw[rounds_succ];go_wp2_with fail;refine(IH2'.out _).mono ?_;rintro e w4 ⟨rfl,b4⟩;have bl4:=aab bl3 b4 bl3.size;clear c1;go_wp2_with fail;refine(H1'.out _).mono ?_;rintro e w5 ⟨rfl,b5⟩;have bl5:=aab bl4 b5 bl4.size;go_wp2_with fail;rw[rounds_succ];go_wp2_with fail;refine(HB'.out _).mono ?_;rintro e w6 ⟨rfl,rfl⟩;go_wp2_with fail;refine(HK'.out _).mono ?_;rintro e w7 ⟨rfl,rfl⟩;go_wp2_with fail;go_ret;exact⟨rfl,bl5⟩
theorem bsz (t:Tm):(B t.free).size<=100000:=by rw[aaR];exact Nat.le_trans (abm (srt_free t)) (by omega)
theorem awy {l:List UInt8}(h:Srt l):(B l).size<=100000:=by rw[aaR];exact Nat.le_trans (abm h) (by omega)
theorem aih {l:List UInt8}(h:Srt l){c d:UInt8}(e:d=c):Zr 91 #[.string (B l),.int .u8 (d.toNat:Int)] (.string (B (addL l c))):=by
 subst e;exact adD (B l) _ (awy h)
theorem acs (t:Tm):t.ok nmE=true->t.pr.length<=700->Zr 62 #[.string (S t)] (.string (B t.free)):=by
 have h0:∀p:Tm,Zr 64 #[.string ⟨#[]⟩,.string (B p.free)] (.string (B (bothL [] p.free))):=fun p=>abA [] (B p.free) srt_nil (bsz p);have s0:∀p:Tm,Srt (bothL [] p.free):=fun p=>aam _ srt_nil
 induction t with
 | nil=>exact fun ho hl=>au_ _ (aad .nil ho hl) (aaT .nil ho hl) (aaf .nil ho hl)
 | snd a b p ih=>
  intro ho hl;have ho':=ho;simp only[Tm.ok,bae]at ho';have hl':=hl;simp only[Tm.pr,List.length_cons]at hl';have hs:(S (.snd a b p)).size<=700:=by rw[aan];exact hl
  have hz:2<(S (.snd a b p)).size:=by rw[aan];have:=pr_pos p;simp[Tm.pr];try omega
  exact ava _ _ _ _ hs hz _ _ (aad (.snd a b p) ho hl) (aaT (.snd a b p) ho hl) (aaf (.snd a b p) ho hl) (ih ho'.2 (by omega)) (h0 p) (aih (s0 p) (ajZ _ 0 _)) (aih (srt_addL (s0 p) a) (ajZ _ 2 _))
 | rcv a x p ih=>
  intro ho hl;have ho':=ho;simp only[Tm.ok,bae]at ho';have hl':=hl;simp only[Tm.pr,List.length_cons]at hl';have hs:(S (.rcv a x p)).size<=700:=by rw[aan];exact hl
  have hz:0<(S (.rcv a x p)).size:=by rw[aan];have:=pr_pos p;simp[Tm.pr];try omega
  exact avb _ _ _ _ hs hz _ _ _ (aad (.rcv a x p) ho hl) (aaT (.rcv a x p) ho hl) (aaf (.rcv a x p) ho hl) (ih ho'.2 (by omega)) (h0 p) (aed _ x (awy (s0 p))) (aih (ab3 (s0 p) x) (ajZ _ 0 _))
 | own x p ih=>
  intro ho hl;have ho':=ho;simp only[Tm.ok,bae]at ho';have hl':=hl;simp only[Tm.pr,List.length_cons]at hl';have hs:(S (.own x p)).size<=700:=by rw[aan];exact hl
  exact avc _ _ _ _ hs _ _ (aad (.own x p) ho hl) (aaT (.own x p) ho hl) (aaf (.own x p) ho hl) (ih ho'.2 (by omega)) (h0 p) (aed _ x (awy (s0 p)))
 | mat a b p ih=>
  intro ho hl;have ho':=ho;simp only[Tm.ok,bae]at ho';have hl':=hl;simp only[Tm.pr,List.length_cons]at hl';have hs:(S (.mat a b p)).size<=700:=by rw[aan];exact hl
  have hz:3<(S (.mat a b p)).size:=by rw[aan];have:=pr_pos p;simp[Tm.pr];try omega
  exact avd _ _ _ _ hs hz _ _ (aad (.mat a b p) ho hl) (aaT (.mat a b p) ho hl) (aaf (.mat a b p) ho hl) (ih ho'.2 (by omega)) (h0 p) (aih (s0 p) (ajZ _ 1 _)) (aih (srt_addL (s0 p) a) (ajZ _ 3 _))
 | tau p ih=>
  intro ho hl;have ho':=ho;simp only[Tm.ok]at ho';have hl':=hl;simp only[Tm.pr,List.length_cons]at hl';have hs:(S (.tau p)).size<=700:=by rw[aan];exact hl
  exact arH _ _ _ _ hs 126 (by decide) (by decide) (by decide) (aad (.tau p) ho hl) (aaT (.tau p) ho hl) (aaf (.tau p) ho hl) (ih ho' (by omega)) (h0 p)
 | rep p ih=>
  intro ho hl;have ho':=ho;simp only[Tm.ok]at ho';have hl':=hl;simp only[Tm.pr,List.length_cons]at hl';have hs:(S (.rep p)).size<=700:=by rw[aan];exact hl
  exact arH _ _ _ _ hs 42 (by decide) (by decide) (by decide) (aad (.rep p) ho hl) (aaT (.rep p) ho hl) (aaf (.rep p) ho hl) (ih ho' (by omega)) (h0 p)
 | sum p q ih ih2=>
  intro ho hl;have ho':=ho;simp only[Tm.ok,bae]at ho';have hl':=hl;simp only[Tm.pr,List.length_cons,lla]at hl';exact arI _ _ _ _ _ _ _ 43 (by decide) (by decide) (by decide) (aad (.sum p q) ho hl) (aaT (.sum p q) ho hl) (aaf (.sum p q) ho hl) (ih ho'.1 (by omega)) (ih2 ho'.2 (by omega)) (h0 p) (abA _ (B q.free) (s0 p) (bsz q))
 | par p q ih ih2=>
  intro ho hl;have ho':=ho;simp only[Tm.ok,bae]at ho';have hl':=hl;simp only[Tm.pr,List.length_cons,lla]at hl';exact arI _ _ _ _ _ _ _ 38 (by decide) (by decide) (by decide) (aad (.par p q) ho hl) (aaT (.par p q) ho hl) (aaf (.par p q) ho hl) (ih ho'.1 (by omega)) (ih2 ho'.2 (by omega)) (h0 p) (abA _ (B q.free) (s0 p) (bsz q))
end Go.Proofs.YtalegefnppbkdaaGreat.T1
