/- Texts of the proof. No conditions. -/
import Derived.Test.YtalegefnppbkdaaGreatQbk
import Derived.Test.YtalegefnppbkdaaGreatQbl
namespace Go.Proofs.YtalegefnppbkdaaGreat.T1
open Go.Proofs.Tryz
set_option maxHeartbeats 4000000
open Go.RowKit
set_option maxRecDepth 100000
set_option linter.unusedVariables false
theorem atC (t p q r s:Tm)(m:UInt8)(h:t.parts=[p,q])(hm:t.kind=m):one 40++S r++one m++S s++one 41=S ((t.withP 0 r).withP 1 s):=by
 subst hm
 apply awm
 simp only[ByteArray.data_append,Array.toList_append,aaN]
 cases t<;>simp[Tm.parts]at h<;>simp[Tm.pr,Tm.withP,one,Tm.kind]
theorem kd_two (t p q:Tm)(h:t.parts=[p,q]):t.kind=43\/t.kind=38:=by cases t<;>simp[Tm.parts]at h<;>simp[Tm.kind]
theorem akn (t p q r s:Tm)(h:t.parts=[p,q])(ho:t.ok nmE=true)(hl:t.pr.length<=700)(hr:r.pr.length<=1000)(hs:s.pr.length<=1000)(g n cap:Nat)(w:World)(hn:2<=n)(c0:w.cell? ⟨g,0,none⟩=some (.string (S r)))(c1:w.cell? ⟨g,1,none⟩=some (.string (S s))) : Calls prog 186 #[.string (S t),.slice (some ⟨g,0,none⟩) n cap] w fun e w'=>e=.returned (.string (S ((t.withP 0 r).withP 1 s)))/\Zb w w':=by
 have hm:(((t.kind.toNat:Nat):Int)=43/\t.kind=43)\/(((t.kind.toNat:Nat):Int)=38/\t.kind=38):=by
  rcases kd_two t p q h with e|e<;>rw[e]
  ·exact .inl ⟨rfl,rfl⟩
  ·exact .inr ⟨rfl,rfl⟩
 have:=avj (S t) (S r) (S s) t.kind.toNat t.kind (by rw[aan];exact hr) (by rw[aan];exact hs) hm (aad t ho hl) g n cap hn w c0 c1;rw[atC t p q r s t.kind h rfl]at this
 exact this
theorem aoT {t:Tm}(h1:t.ok nmL=true)(h2:t.pr.length<=300)(h3:t.size<=60):good t.pr=some t:=
 agP h2 ((aa9 aa2).2 ⟨by rw[List.append_nil],h1⟩) h3
theorem ako {t:Tm}(hE:t.ok nmE=true)(h:¬(t.ok nmL=true/\t.pr.length<=300/\t.size<=60)):good t.pr=none:=by
 cases hg:good t.pr with
 | none=>rfl
 | some t'=>
  obtain⟨g1,g2,g3,g4⟩:=aeJ hg;have:=(acb nmE_nm t t' [] [] hE (asj t' g3) (by rw[g2])).1;subst this
  exact absurd ⟨g3,g1,g4⟩ h
theorem avR (s:ByteArray)(HG:Zr 48 #[.string s] (.bool true))(w:World):Calls prog 82 #[.string s] w fun e w'=>e=.returned (.tuple #[.string s,.bool true])/\Zb w w':=by
 have H:=qz HG;clear HG
 go_enter func82,ntmps82
 go_wp2_with fail;refine(H.out _).mono ?_;rintro e w1 ⟨rfl,bl⟩;go_wp2_with fail;go_ret2;exact⟨rfl,bl⟩
theorem awI (s:ByteArray)(HG:Zr 48 #[.string s] (.bool false))(w:World):Calls prog 82 #[.string s] w fun e w'=>e=.returned (.tuple #[.string ⟨#[]⟩,.bool false])/\Zb w w':=by
 have H:=qz HG;clear HG
 go_enter func82,ntmps82
 go_wp2_with fail;refine(H.out _).mono ?_;rintro e w1 ⟨rfl,bl⟩;go_wp2_with fail;go_ret2;exact⟨rfl,bl⟩
def okT (t:Tm):Bool:=t.ok nmL && decide (t.pr.length<=300) && decide (t.size<=60)
theorem aht (t:Tm):okT t=true↔t.ok nmL=true/\t.pr.length<=300/\t.size<=60:=by simp[okT,and_assoc]
theorem aqV (t:Tm)(hE:t.ok nmE=true)(hl:t.pr.length<=100000)(w:World):Calls prog 82 #[.string (S t)] w fun e w'=>e=.returned (if okT t then .tuple #[.string (S t),.bool true] else .tuple #[.string ⟨#[]⟩,.bool false])/\Zb w w':=by
 have hs:(S t).size<=9223372036854775807:=by rw[aan];omega
 by_cases h:okT t=true
 ·rw[if_pos h];have h':=(aht t).1 h;exact avR _ (fun w=>acx (t:=t) (by rw[aaN];exact aoT h'.1 h'.2.1 h'.2.2) w hs) w
 ·rw[if_neg h];exact awI _ (fun w=>adn (by rw[aaN];exact ako hE (fun h'=>h ((aht t).2 h'))) w hs) w
theorem aqW (s U HD:ByteArray)(m:Int)(a a2 x:UInt8)(hxm:((x.toNat:Int)==m)=false)(hxo:((x.toNat:Int) != (x.toNat:Int))=false)(hs:4<=s.size)(hs3:s.size<=700)(hq:((x.toNat:Int)==m)=false)(hl:(s.extract 0 4).data.toList=[a,63,x,46])(hHB:HD=B [a2,63,x,46]) (HF:Zr 62 #[.string s] (.string U))(HI:Ze 88 #[.string U,.int .u8 (x.toNat:Int)] (.bool true))(HH:Ze 97 #[.string s] (.int .i64 4))(HB:Ze 89 #[.string s] (.tuple #[.int .u8 (x.toNat:Int),.bool true]))(HK:Ze 71 #[.string s] (.int .u8 63))(HS:Ze 185 #[.int .u8 (a.toNat:Int),.int .u8 (x.toNat:Int),.int .u8 m] (.int .u8 (a2.toNat:Int)))(w:World) : Calls prog 173 #[.string s,.int .u8 (x.toNat:Int),.int .u8 m] w fun e w'=>e=.returned (.string (HD++(s.extract 4 s.size)))/\Zb w w':=by
 have Hl:=qz hl;have HHB:=qz hHB;clear hl hHB;have HF':=qz HF;have HI':=qz HI;have HH':=qz HH;have HB':=qz HB;have HK':=qz HK;have HS':=qz HS;clear HF HI HH HB HK HS
 go_enter func173,ntmps173
 go_wp2_with fail;refine(HF'.out _).mono ?_;rintro e w1 ⟨rfl,b1⟩;go_wp2_with fail;refine(HI'.out _).mono ?_;rintro e w2 ⟨rfl,rfl⟩;go_wp2_with fail;refine(HH'.out _).mono ?_;rintro e w3 ⟨rfl,rfl⟩;obtain⟨cap,W,hcv,bW,hr⟩:=aaz (s.extract 0 4) _ 4 Hl.out rfl w1;have bl:=aao b1 bW;have hgw:w.heap.size<=w1.heap.size:=b1.size;obtain⟨g,hg⟩:∃g,g=w1.heap.size:=⟨_,rfl⟩;rw[<-hg]at hcv hr hgw;clear b1 bW hg;have Hr:=qz hr;clear hr;go_wp2_with fail;clear hcv;refine(HB'.out _).mono ?_;rintro e w4 ⟨rfl,rfl⟩;go_wp2_with fail;obtain⟨W0,hW0⟩:∃W0,W0=W:=⟨_,rfl⟩;rw[<-hW0]at Hr bl ⊢;clear hW0;go_wp2_with fail;refine(HK'.out _).mono ?_;rintro e w70 ⟨rfl,rfl⟩;have x0:=Hr.out.cell 0 (by simp);have y0:=Hr.out.free 0 (by simp);have x2:=Hr.out.cell 2 (by simp);have y2:=Hr.out.free 2 (by simp);simp only[List.getElem_cons_zero,List.getElem_cons_succ]at x0 x2;go_wp2_with fail;refine(HS'.out _).mono ?_;rintro e w71 ⟨rfl,rfl⟩
 have HC:(convert 44 9 (.slice (some ⟨g,0,none⟩) 4 cap)).run prog ((W0.setCell ⟨g,0,none⟩ (.int .u8 (a2.toNat:Int))).setCell ⟨g,2,none⟩ (.int .u8 (x.toNat:Int)))=.ok (.string HD) ((W0.setCell ⟨g,0,none⟩ (.int .u8 (a2.toNat:Int))).setCell ⟨g,2,none⟩ (.int .u8 (x.toNat:Int))):=by
  rw[HHB.out];exact((Hr.out.set 0 (by simp) a2).set 2 (by simp) x).conv 4 cap rfl
 have hH4:HD.size<=4:=by rw[HHB.out];exact nl _
 have bX:Zb w ((W0.setCell ⟨g,0,none⟩ (.int .u8 (a2.toNat:Int))).setCell ⟨g,2,none⟩ (.int .u8 (x.toNat:Int))):=(bl.setCell (p:=⟨g,0,none⟩) hgw _).setCell (p:=⟨g,2,none⟩) hgw _;clear Hr HHB;go_wp2_with fail;go_ret;exact⟨rfl,bX⟩
theorem atD (s U HD:ByteArray)(o m:Int)(a a2 x:UInt8)(P2:ByteArray)(hP:P2.size<=700)(hxm:((x.toNat:Int)==m)=false)(hxo:((x.toNat:Int) != o)=true)(hs:4<=s.size)(hs3:s.size<=700)(hq:(o==m)=false)(hl:(s.extract 0 4).data.toList=[a,63,x,46])(hHB:HD=B [a2,63,x,46]) (HF:Zr 62 #[.string s] (.string U))(HI:Ze 88 #[.string U,.int .u8 o] (.bool true))(HH:Ze 97 #[.string s] (.int .i64 4))(HB:Ze 89 #[.string s] (.tuple #[.int .u8 (x.toNat:Int),.bool true]))(HK:Ze 71 #[.string s] (.int .u8 63))(HR:Zr 173 #[.string (s.extract 4 s.size),.int .u8 o,.int .u8 m] (.string P2))(HS:Ze 185 #[.int .u8 (a.toNat:Int),.int .u8 o,.int .u8 m] (.int .u8 (a2.toNat:Int)))(w:World) : Calls prog 173 #[.string s,.int .u8 o,.int .u8 m] w fun e w'=>e=.returned (.string (HD++P2))/\Zb w w':=by
 have Hl:=qz hl;have HHB:=qz hHB;clear hl hHB;have HF':=qz HF;have HI':=qz HI;have HH':=qz HH;have HB':=qz HB;have HK':=qz HK;have HR':=qz HR;have HS':=qz HS;clear HF HI HH HB HK HR HS
 go_enter func173,ntmps173
 go_wp2_with fail;refine(HF'.out _).mono ?_;rintro e w1 ⟨rfl,b1⟩;go_wp2_with fail;refine(HI'.out _).mono ?_;rintro e w2 ⟨rfl,rfl⟩;go_wp2_with fail;refine(HH'.out _).mono ?_;rintro e w3 ⟨rfl,rfl⟩;obtain⟨cap,W,hcv,bW,hr⟩:=aaz (s.extract 0 4) _ 4 Hl.out rfl w1;have bl:=aao b1 bW;have hgw:w.heap.size<=w1.heap.size:=b1.size;obtain⟨g,hg⟩:∃g,g=w1.heap.size:=⟨_,rfl⟩;rw[<-hg]at hcv hr hgw;clear b1 bW hg;have Hr:=qz hr;clear hr;go_wp2_with fail;clear hcv;refine(HB'.out _).mono ?_;rintro e w4 ⟨rfl,rfl⟩;go_wp2_with fail;go_wp2_with fail;refine(HR'.out _).mono ?_;rintro e w60 ⟨rfl,b60⟩;replace Hr:=qz (Hr.out.below b60);replace bl:=aao bl b60;clear b60;obtain⟨W0,hW0⟩:∃W0,W0=w60:=⟨_,rfl⟩;rw[<-hW0]at Hr bl ⊢;clear hW0;go_wp2_with fail;refine(HK'.out _).mono ?_;rintro e w70 ⟨rfl,rfl⟩;have x0:=Hr.out.cell 0 (by simp);have y0:=Hr.out.free 0 (by simp);have x2:=Hr.out.cell 2 (by simp);have y2:=Hr.out.free 2 (by simp);simp only[List.getElem_cons_zero,List.getElem_cons_succ]at x0 x2;go_wp2_with fail;refine(HS'.out _).mono ?_;rintro e w71 ⟨rfl,rfl⟩
 have HC:(convert 44 9 (.slice (some ⟨g,0,none⟩) 4 cap)).run prog ((W0.setCell ⟨g,0,none⟩ (.int .u8 (a2.toNat:Int))).setCell ⟨g,2,none⟩ (.int .u8 (x.toNat:Int)))=.ok (.string HD) ((W0.setCell ⟨g,0,none⟩ (.int .u8 (a2.toNat:Int))).setCell ⟨g,2,none⟩ (.int .u8 (x.toNat:Int))):=by
  rw[HHB.out];exact((Hr.out.set 0 (by simp) a2).set 2 (by simp) x).conv 4 cap rfl
 have hH4:HD.size<=4:=by rw[HHB.out];exact nl _
 have bX:Zb w ((W0.setCell ⟨g,0,none⟩ (.int .u8 (a2.toNat:Int))).setCell ⟨g,2,none⟩ (.int .u8 (x.toNat:Int))):=(bl.setCell (p:=⟨g,0,none⟩) hgw _).setCell (p:=⟨g,2,none⟩) hgw _;clear Hr HHB;go_wp2_with fail;go_ret;exact⟨rfl,bX⟩
theorem avS (s U HD:ByteArray)(o:Int)(a a2 x:UInt8)(P2 U2:ByteArray)(hP:P2.size<=700)(hxm:((x.toNat:Int)==(x.toNat:Int))=true)(hxo:((x.toNat:Int) != o)=true)(hs:4<=s.size)(hs3:s.size<=700)(hq:(o==(x.toNat:Int))=false)(hl:(s.extract 0 4).data.toList=[a,63,x,46])(hHB:HD=B [a2,63,x,46]) (HF:Zr 62 #[.string s] (.string U))(HI:Ze 88 #[.string U,.int .u8 o] (.bool true))(HH:Ze 97 #[.string s] (.int .i64 4))(HB:Ze 89 #[.string s] (.tuple #[.int .u8 (x.toNat:Int),.bool true]))(HK:Ze 71 #[.string s] (.int .u8 63))(HF2:Zr 62 #[.string (s.extract 4 s.size)] (.string U2))(HI2:Ze 88 #[.string U2,.int .u8 o] (.bool false))(HR:Zr 173 #[.string (s.extract 4 s.size),.int .u8 o,.int .u8 (x.toNat:Int)] (.string P2))(HS:Ze 185 #[.int .u8 (a.toNat:Int),.int .u8 o,.int .u8 (x.toNat:Int)] (.int .u8 (a2.toNat:Int)))(w:World) : Calls prog 173 #[.string s,.int .u8 o,.int .u8 (x.toNat:Int)] w fun e w'=>e=.returned (.string (HD++P2))/\Zb w w':=by
 have Hl:=qz hl;have HHB:=qz hHB;clear hl hHB;have HF':=qz HF;have HI':=qz HI;have HH':=qz HH;have HB':=qz HB;have HK':=qz HK;have HF2':=qz HF2;have HI2':=qz HI2;have HR':=qz HR;have HS':=qz HS;clear HF HI HH HB HK HF2 HI2 HR HS
 go_enter func173,ntmps173
 go_wp2_with fail;refine(HF'.out _).mono ?_;rintro e w1 ⟨rfl,b1⟩;go_wp2_with fail;refine(HI'.out _).mono ?_;rintro e w2 ⟨rfl,rfl⟩;go_wp2_with fail;refine(HH'.out _).mono ?_;rintro e w3 ⟨rfl,rfl⟩;obtain⟨cap,W,hcv,bW,hr⟩:=aaz (s.extract 0 4) _ 4 Hl.out rfl w1;have bl:=aao b1 bW;have hgw:w.heap.size<=w1.heap.size:=b1.size;obtain⟨g,hg⟩:∃g,g=w1.heap.size:=⟨_,rfl⟩;rw[<-hg]at hcv hr hgw;clear b1 bW hg;have Hr:=qz hr;clear hr;go_wp2_with fail;clear hcv;refine(HB'.out _).mono ?_;rintro e w4 ⟨rfl,rfl⟩;go_wp2_with fail;go_wp2_with fail;refine(HF2'.out _).mono ?_;rintro e w50 ⟨rfl,b50⟩;replace Hr:=qz (Hr.out.below b50);replace bl:=aao bl b50;clear b50;go_wp2_with fail;refine(HI2'.out _).mono ?_;rintro e w51 ⟨rfl,rfl⟩;go_wp2_with fail;refine(HR'.out _).mono ?_;rintro e w60 ⟨rfl,b60⟩;replace Hr:=qz (Hr.out.below b60);replace bl:=aao bl b60;clear b60;obtain⟨W0,hW0⟩:∃W0,W0=w60:=⟨_,rfl⟩;rw[<-hW0]at Hr bl ⊢;clear hW0;go_wp2_with fail;refine(HK'.out _).mono ?_;rintro e w70 ⟨rfl,rfl⟩;have x0:=Hr.out.cell 0 (by simp);have y0:=Hr.out.free 0 (by simp);have x2:=Hr.out.cell 2 (by simp);have y2:=Hr.out.free 2 (by simp);simp only[List.getElem_cons_zero,List.getElem_cons_succ]at x0 x2;go_wp2_with fail;refine(HS'.out _).mono ?_;rintro e w71 ⟨rfl,rfl⟩
 have HC:(convert 44 9 (.slice (some ⟨g,0,none⟩) 4 cap)).run prog ((W0.setCell ⟨g,0,none⟩ (.int .u8 (a2.toNat:Int))).setCell ⟨g,2,none⟩ (.int .u8 (x.toNat:Int)))=.ok (.string HD) ((W0.setCell ⟨g,0,none⟩ (.int .u8 (a2.toNat:Int))).setCell ⟨g,2,none⟩ (.int .u8 (x.toNat:Int))):=by
  rw[HHB.out];exact((Hr.out.set 0 (by simp) a2).set 2 (by simp) x).conv 4 cap rfl
 have hH4:HD.size<=4:=by rw[HHB.out];exact nl _
 have bX:Zb w ((W0.setCell ⟨g,0,none⟩ (.int .u8 (a2.toNat:Int))).setCell ⟨g,2,none⟩ (.int .u8 (x.toNat:Int))):=(bl.setCell (p:=⟨g,0,none⟩) hgw _).setCell (p:=⟨g,2,none⟩) hgw _;clear Hr HHB;go_wp2_with fail;go_ret;exact⟨rfl,bX⟩
theorem aqX (s U HD:ByteArray)(m:Int)(x:UInt8)(hxm:((x.toNat:Int)==m)=false)(hxo:((x.toNat:Int) != (x.toNat:Int))=false)(hs:3<=s.size)(hs3:s.size<=700)(hq:((x.toNat:Int)==m)=false)(hl:(s.extract 0 3).data.toList=[35,x,46])(hHB:HD=B [35,x,46]) (HF:Zr 62 #[.string s] (.string U))(HI:Ze 88 #[.string U,.int .u8 (x.toNat:Int)] (.bool true))(HH:Ze 97 #[.string s] (.int .i64 3))(HB:Ze 89 #[.string s] (.tuple #[.int .u8 (x.toNat:Int),.bool true]))(HK:Ze 71 #[.string s] (.int .u8 35))(w:World) : Calls prog 173 #[.string s,.int .u8 (x.toNat:Int),.int .u8 m] w fun e w'=>e=.returned (.string (HD++(s.extract 3 s.size)))/\Zb w w':=by
 have Hl:=qz hl;have HHB:=qz hHB;clear hl hHB;have HF':=qz HF;have HI':=qz HI;have HH':=qz HH;have HB':=qz HB;have HK':=qz HK;clear HF HI HH HB HK
 go_enter func173,ntmps173
 go_wp2_with fail;refine(HF'.out _).mono ?_;rintro e w1 ⟨rfl,b1⟩;go_wp2_with fail;refine(HI'.out _).mono ?_;rintro e w2 ⟨rfl,rfl⟩;go_wp2_with fail;refine(HH'.out _).mono ?_;rintro e w3 ⟨rfl,rfl⟩;obtain⟨cap,W,hcv,bW,hr⟩:=aaz (s.extract 0 3) _ 3 Hl.out rfl w1;have bl:=aao b1 bW;have hgw:w.heap.size<=w1.heap.size:=b1.size;obtain⟨g,hg⟩:∃g,g=w1.heap.size:=⟨_,rfl⟩;rw[<-hg]at hcv hr hgw;clear b1 bW hg;have Hr:=qz hr;clear hr;go_wp2_with fail;clear hcv;refine(HB'.out _).mono ?_;rintro e w4 ⟨rfl,rfl⟩;go_wp2_with fail;obtain⟨W0,hW0⟩:∃W0,W0=W:=⟨_,rfl⟩;rw[<-hW0]at Hr bl ⊢;clear hW0;go_wp2_with fail;refine(HK'.out _).mono ?_;rintro e w70 ⟨rfl,rfl⟩;have x1:=Hr.out.cell 1 (by simp);have y1:=Hr.out.free 1 (by simp);simp only[List.getElem_cons_zero,List.getElem_cons_succ]at x1
 have HC:(convert 44 9 (.slice (some ⟨g,0,none⟩) 3 cap)).run prog (W0.setCell ⟨g,1,none⟩ (.int .u8 (x.toNat:Int)))=.ok (.string HD) (W0.setCell ⟨g,1,none⟩ (.int .u8 (x.toNat:Int))):=by
  rw[HHB.out];exact(Hr.out.set 1 (by simp) x).conv 3 cap rfl
 have hH4:HD.size<=3:=by rw[HHB.out];exact nl _
 have bX:Zb w (W0.setCell ⟨g,1,none⟩ (.int .u8 (x.toNat:Int))):=bl.setCell (p:=⟨g,1,none⟩) hgw _;clear Hr HHB;go_wp2_with fail;go_ret;exact⟨rfl,bX⟩
theorem atE (s U HD:ByteArray)(o m:Int)(x:UInt8)(P2:ByteArray)(hP:P2.size<=700)(hxm:((x.toNat:Int)==m)=false)(hxo:((x.toNat:Int) != o)=true)(hs:3<=s.size)(hs3:s.size<=700)(hq:(o==m)=false)(hl:(s.extract 0 3).data.toList=[35,x,46])(hHB:HD=B [35,x,46]) (HF:Zr 62 #[.string s] (.string U))(HI:Ze 88 #[.string U,.int .u8 o] (.bool true))(HH:Ze 97 #[.string s] (.int .i64 3))(HB:Ze 89 #[.string s] (.tuple #[.int .u8 (x.toNat:Int),.bool true]))(HK:Ze 71 #[.string s] (.int .u8 35))(HR:Zr 173 #[.string (s.extract 3 s.size),.int .u8 o,.int .u8 m] (.string P2))(w:World) : Calls prog 173 #[.string s,.int .u8 o,.int .u8 m] w fun e w'=>e=.returned (.string (HD++P2))/\Zb w w':=by
 have Hl:=qz hl;have HHB:=qz hHB;clear hl hHB;have HF':=qz HF;have HI':=qz HI;have HH':=qz HH;have HB':=qz HB;have HK':=qz HK;have HR':=qz HR;clear HF HI HH HB HK HR
 go_enter func173,ntmps173
 go_wp2_with fail;refine(HF'.out _).mono ?_;rintro e w1 ⟨rfl,b1⟩;go_wp2_with fail;refine(HI'.out _).mono ?_;rintro e w2 ⟨rfl,rfl⟩;go_wp2_with fail;refine(HH'.out _).mono ?_;rintro e w3 ⟨rfl,rfl⟩;obtain⟨cap,W,hcv,bW,hr⟩:=aaz (s.extract 0 3) _ 3 Hl.out rfl w1;have bl:=aao b1 bW;have hgw:w.heap.size<=w1.heap.size:=b1.size;obtain⟨g,hg⟩:∃g,g=w1.heap.size:=⟨_,rfl⟩;rw[<-hg]at hcv hr hgw;clear b1 bW hg;have Hr:=qz hr;clear hr;go_wp2_with fail;clear hcv;refine(HB'.out _).mono ?_;rintro e w4 ⟨rfl,rfl⟩;go_wp2_with fail;go_wp2_with fail;refine(HR'.out _).mono ?_;rintro e w60 ⟨rfl,b60⟩;replace Hr:=qz (Hr.out.below b60);replace bl:=aao bl b60;clear b60;obtain⟨W0,hW0⟩:∃W0,W0=w60:=⟨_,rfl⟩;rw[<-hW0]at Hr bl ⊢;clear hW0;go_wp2_with fail;refine(HK'.out _).mono ?_;rintro e w70 ⟨rfl,rfl⟩;have x1:=Hr.out.cell 1 (by simp);have y1:=Hr.out.free 1 (by simp);simp only[List.getElem_cons_zero,List.getElem_cons_succ]at x1
 have HC:(convert 44 9 (.slice (some ⟨g,0,none⟩) 3 cap)).run prog (W0.setCell ⟨g,1,none⟩ (.int .u8 (x.toNat:Int)))=.ok (.string HD) (W0.setCell ⟨g,1,none⟩ (.int .u8 (x.toNat:Int))):=by
  rw[HHB.out];exact(Hr.out.set 1 (by simp) x).conv 3 cap rfl
 have hH4:HD.size<=3:=by rw[HHB.out];exact nl _
 have bX:Zb w (W0.setCell ⟨g,1,none⟩ (.int .u8 (x.toNat:Int))):=bl.setCell (p:=⟨g,1,none⟩) hgw _;clear Hr HHB;go_wp2_with fail;go_ret;exact⟨rfl,bX⟩
theorem avT (s U HD:ByteArray)(o:Int)(x:UInt8)(P2 U2:ByteArray)(hP:P2.size<=700)(hxm:((x.toNat:Int)==(x.toNat:Int))=true)(hxo:((x.toNat:Int) != o)=true)(hs:3<=s.size)(hs3:s.size<=700)(hq:(o==(x.toNat:Int))=false)(hl:(s.extract 0 3).data.toList=[35,x,46])(hHB:HD=B [35,x,46]) (HF:Zr 62 #[.string s] (.string U))(HI:Ze 88 #[.string U,.int .u8 o] (.bool true))(HH:Ze 97 #[.string s] (.int .i64 3))(HB:Ze 89 #[.string s] (.tuple #[.int .u8 (x.toNat:Int),.bool true]))(HK:Ze 71 #[.string s] (.int .u8 35))(HF2:Zr 62 #[.string (s.extract 3 s.size)] (.string U2))(HI2:Ze 88 #[.string U2,.int .u8 o] (.bool false))(HR:Zr 173 #[.string (s.extract 3 s.size),.int .u8 o,.int .u8 (x.toNat:Int)] (.string P2))(w:World) : Calls prog 173 #[.string s,.int .u8 o,.int .u8 (x.toNat:Int)] w fun e w'=>e=.returned (.string (HD++P2))/\Zb w w':=by
 have Hl:=qz hl;have HHB:=qz hHB;clear hl hHB;have HF':=qz HF;have HI':=qz HI;have HH':=qz HH;have HB':=qz HB;have HK':=qz HK;have HF2':=qz HF2;have HI2':=qz HI2;have HR':=qz HR;clear HF HI HH HB HK HF2 HI2 HR
 go_enter func173,ntmps173
 go_wp2_with fail;refine(HF'.out _).mono ?_;rintro e w1 ⟨rfl,b1⟩;go_wp2_with fail;refine(HI'.out _).mono ?_;rintro e w2 ⟨rfl,rfl⟩;go_wp2_with fail;refine(HH'.out _).mono ?_;rintro e w3 ⟨rfl,rfl⟩;obtain⟨cap,W,hcv,bW,hr⟩:=aaz (s.extract 0 3) _ 3 Hl.out rfl w1;have bl:=aao b1 bW;have hgw:w.heap.size<=w1.heap.size:=b1.size;obtain⟨g,hg⟩:∃g,g=w1.heap.size:=⟨_,rfl⟩;rw[<-hg]at hcv hr hgw;clear b1 bW hg;have Hr:=qz hr;clear hr;go_wp2_with fail;clear hcv;refine(HB'.out _).mono ?_;rintro e w4 ⟨rfl,rfl⟩;go_wp2_with fail;go_wp2_with fail;refine(HF2'.out _).mono ?_;rintro e w50 ⟨rfl,b50⟩;replace Hr:=qz (Hr.out.below b50);replace bl:=aao bl b50;clear b50;go_wp2_with fail;refine(HI2'.out _).mono ?_;rintro e w51 ⟨rfl,rfl⟩;go_wp2_with fail;refine(HR'.out _).mono ?_;rintro e w60 ⟨rfl,b60⟩;replace Hr:=qz (Hr.out.below b60);replace bl:=aao bl b60;clear b60;obtain⟨W0,hW0⟩:∃W0,W0=w60:=⟨_,rfl⟩;rw[<-hW0]at Hr bl ⊢;clear hW0;go_wp2_with fail;refine(HK'.out _).mono ?_;rintro e w70 ⟨rfl,rfl⟩;have x1:=Hr.out.cell 1 (by simp);have y1:=Hr.out.free 1 (by simp);simp only[List.getElem_cons_zero,List.getElem_cons_succ]at x1
 have HC:(convert 44 9 (.slice (some ⟨g,0,none⟩) 3 cap)).run prog (W0.setCell ⟨g,1,none⟩ (.int .u8 (x.toNat:Int)))=.ok (.string HD) (W0.setCell ⟨g,1,none⟩ (.int .u8 (x.toNat:Int))):=by
  rw[HHB.out];exact(Hr.out.set 1 (by simp) x).conv 3 cap rfl
 have hH4:HD.size<=3:=by rw[HHB.out];exact nl _
 have bX:Zb w (W0.setCell ⟨g,1,none⟩ (.int .u8 (x.toNat:Int))):=bl.setCell (p:=⟨g,1,none⟩) hgw _;clear Hr HHB;go_wp2_with fail;go_ret;exact⟨rfl,bX⟩
set_option linter.unusedSimpArgs false
theorem ajn (t:Tm)(o:UInt8):Ze 88 #[.string (B t.free),.int .u8 (o.toNat:Int)] (.bool (decide (o∈t.free))):=by
 intro w;have h:=abr (B t.free) (o.toNat:Int) w (by rw[aaR];have:=abm (srt_free t);omega);rw[ae0,aaE]at h;exact h
theorem afZ (t p:Tm)(h:t.parts=[p]):(S t).extract t.hd (S t).size=S p:=by
 refine amq (aaN t) _ _ p ?_;rw[aan]
 cases t<;>simp[Tm.parts]at h<;>subst h<;>simp[Tm.pr,Tm.hd]
theorem B_S (l:List UInt8)(p t:Tm)(h:l++p.pr=t.pr):B l++S p=S t:=by
 apply awm
 rw[ByteArray.data_append,Array.toList_append,aaN,aaE,h]
theorem abN (t:Tm)(k:Nat)(l:List UInt8)(h:t.pr.take k=l):((S t).extract 0 k).data.toList=l:=by
 rw[ByteArray.data_extract,Array.toList_extract,aaN,List.extract_eq_take_drop];simpa using h
theorem u8q {o m:UInt8}(h:o≠m):(((o.toNat:Nat):Int)==((m.toNat:Nat):Int))=false:=by rw[b8_beq];exact decide_eq_false h
theorem aud (o:UInt8):(((o.toNat:Nat):Int)==((o.toNat:Nat):Int))=true:=by simp
theorem u8n {o m:UInt8}(h:o≠m):(((o.toNat:Nat):Int) != ((m.toNat:Nat):Int))=true:=by rw[bne,b8_beq];simp[h]
theorem awp (o:UInt8):(((o.toNat:Nat):Int) != ((o.toNat:Nat):Int))=false:=by simp
theorem akp (o m:UInt8)(v:World)(h:Nat)(c0:v.cell? ⟨h,0,none⟩=some (.int .u8 (o.toNat:Int)))(c1:v.cell? ⟨h,1,none⟩=some (.int .u8 (m.toNat:Int))):(convert 44 9 (.slice (some ⟨h,0,none⟩) 2 2)).run prog v=.ok (.string (B [o,m])) v:=
 run_convert_bytes_back _ 44 9 5 ⟨h,0,none⟩ 2 [o,m] underlying44 underlying5 underlying9 (fun j hj=>by
  rw[aof];rcases j with _|_|j
  ·exact c0
  ·exact c1
  ·simp at hj;omega)
theorem avU {t:Tm}(o m:UInt8)(h:t.ok nmE=true)(hm:nmE m=true):(R t o m).ok nmE=true:=ad2 _ _ _ _ h hm
theorem ac3 (n:Nat):∀(t:Tm) (o m:UInt8),t.size<=n->t.ok nmE=true->t.pr.length<=700->nmE m=true->Zr 173 #[.string (S t),.int .u8 (o.toNat:Int),.int .u8 (m.toNat:Int)] (.string (S (R t o m))):=by
 induction n with
 | zero=>intro t o m h;have:=aaq t;omega
 | succ n ih=>
  intro t o m hn ht hl hm w
  by_cases e:o=m
  ·subst e;rw[abt _ _ _ (.inl rfl)];exact asK _ _ w
  have hq:=u8q e;have hF:=acs t ht hl;have hI:=ajn t o
  by_cases hf:o∈t.free
  case neg=>
   rw[decide_eq_false hf]at hI;rw[abt _ _ _ (.inr hf)];exact aoi _ _ _ _ hq hF hI w
  rw[decide_eq_true hf]at hI;have hne:¬(o=m\/o∉t.free):=fun h=>h.elim e (fun h=>h hf);have hH:=ad4 t ht hl;have hB:=aaT t ht hl;have hK:=aad t ht hl;have hs3:(S t).size<=700:=by rw[aan];exact hl
  have hrl:∀(p:Tm) (o m:UInt8),p.pr.length<=700->(S (R p o m)).size<=700:=fun p o m h=>by rw[aan,adf];exact h
  cases t with
  | nil=>simp[Tm.free]at hf
  | snd a b p=>
   simp only[Tm.size]at hn;have ht0:=ht;have hlp:p.pr.length+4=(Tm.pr (Tm.snd a b p)).length:=by simp[Tm.pr]
   simp only[Tm.ok,bae]at ht;have hR:=ih p o m (by omega) ht.2 (by omega) hm;have hx:=afZ (.snd a b p) p rfl;rw[<-hx]at hR;rw[agR hne];have:=avl (S (.snd a b p)) _ _ _ a b (sw a o m) (sw b o m) (S (R p o m)) (B [sw a o m,33,sw b o m,46]) (hrl p o m (by omega)) rfl (by rw[aan];omega) hs3 hq (abN (.snd a b p) 4 _ rfl) hF hI hH hB hK (abW a o m) (abW b o m) hR w;rw[B_S _ _ (.snd (sw a o m) (sw b o m) (R p o m)) rfl]at this
   exact this
  | mat a b p=>
   simp only[Tm.size]at hn;have ht0:=ht;have hlp:p.pr.length+5=(Tm.pr (Tm.mat a b p)).length:=by simp[Tm.pr]
   simp only[Tm.ok,bae]at ht;have hR:=ih p o m (by omega) ht.2 (by omega) hm;have hx:=afZ (.mat a b p) p rfl;rw[<-hx]at hR;rw[agS hne];have:=avm (S (.mat a b p)) _ _ _ a b (sw a o m) (sw b o m) (S (R p o m)) (B [91,sw a o m,61,sw b o m,93]) (hrl p o m (by omega)) rfl (by rw[aan];omega) hs3 hq (abN (.mat a b p) 5 _ rfl) hF hI hH hB hK (abW a o m) (abW b o m) hR w;rw[B_S _ _ (.mat (sw a o m) (sw b o m) (R p o m)) rfl]at this
   exact this
  | tau p=>
   simp only[Tm.size]at hn;have ht0:=ht;have hlp:p.pr.length+2=(Tm.pr (Tm.tau p)).length:=by simp[Tm.pr]
   simp only[Tm.ok,bae]at ht;have hR:=ih p o m (by omega) ht (by omega) hm;have hx:=afZ (.tau p) p rfl;rw[<-hx]at hR;rw[agU hne];have:=avn (S (.tau p)) _ _ _ (S (R p o m)) (B [126,46]) (hrl p o m (by omega)) rfl (by rw[aan];omega) hs3 hq (abN (.tau p) 2 _ rfl) hF hI hH hB hK hR w;rw[B_S _ _ (.tau (R p o m)) rfl]at this
   exact this
  | rep p=>
   simp only[Tm.size]at hn;have ht0:=ht;have hlp:p.pr.length+1=(Tm.pr (Tm.rep p)).length:=by simp[Tm.pr]
   simp only[Tm.ok,bae]at ht;have hR:=ih p o m (by omega) ht (by omega) hm;have hx:=afZ (.rep p) p rfl;rw[<-hx]at hR;rw[agV hne];have:=avo (S (.rep p)) _ _ _ (S (R p o m)) (B [42]) (hrl p o m (by omega)) rfl (by rw[aan];omega) hs3 hq (abN (.rep p) 1 _ rfl) hF hI hH hB hK hR w;rw[B_S _ _ (.rep (R p o m)) rfl]at this
   exact this
  | sum p q=>
   simp only[Tm.size]at hn;have ht0:=ht;have hlp:p.pr.length+q.pr.length+3=(Tm.pr (.sum p q)).length:=by simp[Tm.pr];omega
   simp only[Tm.ok,bae]at ht;have hR1:=ih p o m (by omega) ht.1 (by omega) hm;have hR2:=ih q o m (by omega) ht.2 (by omega) hm;have hP:=aaf (.sum p q) ht0 hl;rw[agW hne];exact avp (S (.sum p q)) _ _ _ (S p) (S q) (S (R p o m)) (S (R q o m)) (S (.sum (R p o m) (R q o m))) (by rw[aan];omega) hs3 hq (abN (.sum p q) 1 _ rfl) hF hI hH hB hK hP hR1 hR2 (fun g n cap w hn c0 c1=>akn (.sum p q) p q (R p o m) (R q o m) rfl ht0 hl (by rw[adf];omega) (by rw[adf];omega) g n cap w hn c0 c1) w
  | par p q=>
   simp only[Tm.size]at hn;have ht0:=ht;have hlp:p.pr.length+q.pr.length+3=(Tm.pr (.par p q)).length:=by simp[Tm.pr];omega
   simp only[Tm.ok,bae]at ht;have hR1:=ih p o m (by omega) ht.1 (by omega) hm;have hR2:=ih q o m (by omega) ht.2 (by omega) hm;have hP:=aaf (.par p q) ht0 hl;rw[ai3 hne];exact avq (S (.par p q)) _ _ _ (S p) (S q) (S (R p o m)) (S (R q o m)) (S (.par (R p o m) (R q o m))) (by rw[aan];omega) hs3 hq (abN (.par p q) 1 _ rfl) hF hI hH hB hK hP hR1 hR2 (fun g n cap w hn c0 c1=>akn (.par p q) p q (R p o m) (R q o m) rfl ht0 hl (by rw[adf];omega) (by rw[adf];omega) g n cap w hn c0 c1) w
  | rcv a x p=>
   simp only[Tm.size]at hn;have hlp:p.pr.length+4=(Tm.pr (Tm.rcv a x p)).length:=by simp[Tm.pr]
   simp only[Tm.ok,bae]at ht;have hx:=afZ (.rcv a x p) p rfl;have hx':(S (.rcv a x p)).extract 4 (S (.rcv a x p)).size=S p:=hx;rw[agT hne];have hszs:4<=(S (.rcv a x p)).size:=by rw[aan];omega
   by_cases hxm:x=m
   ·subst hxm;have hF2:=acs p ht.2 (by omega);have hI2:=ajn p o;rw[<-hx']at hF2
    by_cases hfp:o∈p.free
    ·rw[decide_eq_true hfp]at hI2;have hc:x=x/\o∈p.free:=⟨rfl,hfp⟩;obtain⟨y,hy⟩:∃y,y=capX p x o x:=⟨_,rfl⟩;have hyf:y=fresh (bothL p.free [o,x]):=by rw[hy];unfold capX;rw[if_pos hc]
     have hyE:nmE y=true:=by rw[hyf];exact acv _
     have hBo:=abA p.free (B [o,x]) (srt_free p) (by rw[aaR];simp);rw[aaE]at hBo;have hFs:=fun w=>abR (B (bothL p.free [o,x])) (by rw[aaR];have:=abm (aam [o,x] (srt_free p));omega) w;rw[aaE,<-hyf]at hFs;have hR1:=ih p x y (by omega) ht.2 (by omega) hyE;rw[<-hx']at hR1
     by_cases hyo:y=o
     ·have hRB:RB p x o x=R p x y:=by unfold RB;rw[<-hy,if_pos hyo,if_pos hc]
      rw[hRB,<-hy];have:=aqT (S (.rcv a x p)) _ (B [sw a o x,63,y,46]) _ a (sw a o x) x y (B [o,x]) (S (R p x y)) _ _ (hrl _ _ _ (by omega)) (aud x) (by rw[hyo];exact awp o) hszs hs3 hq (abN (.rcv a x p) 4 _ rfl) rfl hF hI hH hB hK hF2 hI2 (aqS o x) (akm o x) (akp o x) hBo hFs hR1 (abW a o x) w;rw[B_S _ _ (.rcv (sw a o x) y (R p x y)) rfl]at this
      exact this
     ·have hRB:RB p x o x=R (R p x y) o x:=by unfold RB;rw[<-hy,if_neg hyo,if_pos hc]
      have hR:=ih (R p x y) o x (by rw[R_size];omega) (avU _ _ ht.2 hyE) (by rw[adf];omega) hm;rw[hRB,<-hy];have:=atA (S (.rcv a x p)) _ (B [sw a o x,63,y,46]) _ a (sw a o x) x y (B [o,x]) (S (R (R p x y) o x)) (S (R p x y)) _ _ (hrl _ _ _ (by rw[adf];omega)) (aud x) (u8n hyo) hszs hs3 hq (abN (.rcv a x p) 4 _ rfl) rfl hF hI hH hB hK hF2 hI2 (aqS o x) (akm o x) (akp o x) hBo hFs hR1 hR (abW a o x) w;rw[B_S _ _ (.rcv (sw a o x) y (R (R p x y) o x)) rfl]at this
      exact this
    ·rw[decide_eq_false hfp]at hI2;have hc:¬(x=x/\o∈p.free):=fun h=>hfp h.2;have hX:capX p x o x=x:=by unfold capX;rw[if_neg hc]
     have hRB:RB p x o x=R p o x:=by unfold RB;rw[hX,if_neg (fun h=>e h.symm),if_neg hc]
     have hR:=ih p o x (by omega) ht.2 (by omega) hm;rw[<-hx']at hR;rw[hX,hRB];have:=avS (S (.rcv a x p)) _ (B [sw a o x,63,x,46]) _ a (sw a o x) x (S (R p o x)) _ (hrl _ _ _ (by omega)) (aud x) (u8n (fun h=>e h.symm)) hszs hs3 hq (abN (.rcv a x p) 4 _ rfl) rfl hF hI hH hB hK hF2 hI2 hR (abW a o x) w;rw[B_S _ _ (.rcv (sw a o x) x (R p o x)) rfl]at this
     exact this
   ·have hc:¬(x=m/\o∈p.free):=fun h=>hxm h.1;have hX:capX p x o m=x:=by unfold capX;rw[if_neg hc]
    by_cases hxo:x=o
    ·subst hxo;have hRB:RB p x x m=p:=by unfold RB;rw[hX,if_pos rfl,if_neg hc]
     rw[hX,hRB];have:=aqW (S (.rcv a x p)) _ (B [sw a x m,63,x,46]) _ a (sw a x m) x (u8q hxm) (awp x) hszs hs3 hq (abN (.rcv a x p) 4 _ rfl) rfl hF hI hH hB hK (abW a x m) w;rw[hx',B_S _ _ (.rcv (sw a x m) x p) rfl]at this
     exact this
    ·have hRB:RB p x o m=R p o m:=by unfold RB;rw[hX,if_neg hxo,if_neg hc]
     have hR:=ih p o m (by omega) ht.2 (by omega) hm;rw[<-hx']at hR;rw[hX,hRB];have:=atD (S (.rcv a x p)) _ (B [sw a o m,63,x,46]) _ _ a (sw a o m) x (S (R p o m)) (hrl _ _ _ (by omega)) (u8q hxm) (u8n hxo) hszs hs3 hq (abN (.rcv a x p) 4 _ rfl) rfl hF hI hH hB hK hR (abW a o m) w;rw[B_S _ _ (.rcv (sw a o m) x (R p o m)) rfl]at this
     exact this
  | own x p=>
   simp only[Tm.size]at hn;have hlp:p.pr.length+3=(Tm.pr (Tm.own x p)).length:=by simp[Tm.pr]
   simp only[Tm.ok,bae]at ht;have hx:=afZ (.own x p) p rfl;have hx':(S (.own x p)).extract 3 (S (.own x p)).size=S p:=hx;rw[ah5 hne];have hszs:3<=(S (.own x p)).size:=by rw[aan];omega
   by_cases hxm:x=m
   ·subst hxm;have hF2:=acs p ht.2 (by omega);have hI2:=ajn p o;rw[<-hx']at hF2
    by_cases hfp:o∈p.free
    ·rw[decide_eq_true hfp]at hI2;have hc:x=x/\o∈p.free:=⟨rfl,hfp⟩;obtain⟨y,hy⟩:∃y,y=capX p x o x:=⟨_,rfl⟩;have hyf:y=fresh (bothL p.free [o,x]):=by rw[hy];unfold capX;rw[if_pos hc]
     have hyE:nmE y=true:=by rw[hyf];exact acv _
     have hBo:=abA p.free (B [o,x]) (srt_free p) (by rw[aaR];simp);rw[aaE]at hBo;have hFs:=fun w=>abR (B (bothL p.free [o,x])) (by rw[aaR];have:=abm (aam [o,x] (srt_free p));omega) w;rw[aaE,<-hyf]at hFs;have hR1:=ih p x y (by omega) ht.2 (by omega) hyE;rw[<-hx']at hR1
     by_cases hyo:y=o
     ·have hRB:RB p x o x=R p x y:=by unfold RB;rw[<-hy,if_pos hyo,if_pos hc]
      rw[hRB,<-hy];have:=aqU (S (.own x p)) _ (B [35,y,46]) _ x y (B [o,x]) (S (R p x y)) _ _ (hrl _ _ _ (by omega)) (aud x) (by rw[hyo];exact awp o) hszs hs3 hq (abN (.own x p) 3 _ rfl) rfl hF hI hH hB hK hF2 hI2 (aqS o x) (akm o x) (akp o x) hBo hFs hR1 w;rw[B_S _ _ (.own y (R p x y)) rfl]at this
      exact this
     ·have hRB:RB p x o x=R (R p x y) o x:=by unfold RB;rw[<-hy,if_neg hyo,if_pos hc]
      have hR:=ih (R p x y) o x (by rw[R_size];omega) (avU _ _ ht.2 hyE) (by rw[adf];omega) hm;rw[hRB,<-hy];have:=atB (S (.own x p)) _ (B [35,y,46]) _ x y (B [o,x]) (S (R (R p x y) o x)) (S (R p x y)) _ _ (hrl _ _ _ (by rw[adf];omega)) (aud x) (u8n hyo) hszs hs3 hq (abN (.own x p) 3 _ rfl) rfl hF hI hH hB hK hF2 hI2 (aqS o x) (akm o x) (akp o x) hBo hFs hR1 hR w;rw[B_S _ _ (.own y (R (R p x y) o x)) rfl]at this
      exact this
    ·rw[decide_eq_false hfp]at hI2;have hc:¬(x=x/\o∈p.free):=fun h=>hfp h.2;have hX:capX p x o x=x:=by unfold capX;rw[if_neg hc]
     have hRB:RB p x o x=R p o x:=by unfold RB;rw[hX,if_neg (fun h=>e h.symm),if_neg hc]
     have hR:=ih p o x (by omega) ht.2 (by omega) hm;rw[<-hx']at hR;rw[hX,hRB];have:=avT (S (.own x p)) _ (B [35,x,46]) _ x (S (R p o x)) _ (hrl _ _ _ (by omega)) (aud x) (u8n (fun h=>e h.symm)) hszs hs3 hq (abN (.own x p) 3 _ rfl) rfl hF hI hH hB hK hF2 hI2 hR w;rw[B_S _ _ (.own x (R p o x)) rfl]at this
     exact this
   ·have hc:¬(x=m/\o∈p.free):=fun h=>hxm h.1;have hX:capX p x o m=x:=by unfold capX;rw[if_neg hc]
    by_cases hxo:x=o
    ·subst hxo;have hRB:RB p x x m=p:=by unfold RB;rw[hX,if_pos rfl,if_neg hc]
     rw[hX,hRB];have:=aqX (S (.own x p)) _ (B [35,x,46]) _ x (u8q hxm) (awp x) hszs hs3 hq (abN (.own x p) 3 _ rfl) rfl hF hI hH hB hK w;rw[hx',B_S _ _ (.own x p) rfl]at this
     exact this
    ·have hRB:RB p x o m=R p o m:=by unfold RB;rw[hX,if_neg hxo,if_neg hc]
     have hR:=ih p o m (by omega) ht.2 (by omega) hm;rw[<-hx']at hR;rw[hX,hRB];have:=atE (S (.own x p)) _ (B [35,x,46]) _ _ x (S (R p o m)) (hrl _ _ _ (by omega)) (u8q hxm) (u8n hxo) hszs hs3 hq (abN (.own x p) 3 _ rfl) rfl hF hI hH hB hK hR w;rw[B_S _ _ (.own x (R p o m)) rfl]at this
     exact this
def ac4 (k:Nat):List UInt8:=(List.range k).map gl
theorem afy (n:Nat):∀(k:Nat) (t:Tm),k<=(gath n k t).2:=by
 induction n with
 | zero=>intro k t;exact nl _
 | succ n ih=>
  intro k t;unfold gath
  split
  ·exact nl _
  ·split
   ·rename_i p q _
    exact Nat.le_trans (ih k p) (ih _ q)
   ·rename_i x p _
    have:=ih (k+1) (R p x (gl k));omega
   ·exact nl _
theorem aqY (n:Nat):∀(k:Nat) (t:Tm),(gath n k t).1.length<=t.size:=by
 induction n with
 | zero=>intro k t;simp[gath]
 | succ n ih=>
  intro k t;have hps:=(aba t).2.2.1;have hpos:=aaq t;unfold gath
  generalize t.peel=u at *
  split
  ·simp
  ·split
   ·rename_i p q _
    have:p.size+q.size+1<=t.size:=hps;have h1:=ih k p;have h2:=ih (gath n k p).2 q;simp only[lla];omega
   ·rename_i x p _
    have h1:=ih (k+1) (R p x (gl k));rw[R_size]at h1;have:p.size+1<=t.size:=hps;omega
   ·simp;omega
theorem alJ (n:Nat):∀(t:Tm) (k b base:Nat) (P:UInt8->Prop) (xs:List ByteArray) (v:Value) (w:World),t.size<=n->FitT t->t.ok nmE=true->t.pr.length<=700->(gath n k t).2<=89-> (∀z,¬aaX z->P z)->(∀i,k<=i->i<90->¬P (gl i))->(∀z,z∈t.free\/z∈t.bnd->P z)->xs.length+t.size<=1000-> LvAt w b (B (ac4 k)) v->w.ownsRow base 9 1 v xs.length (xs.map Value.string)->base<=w.heap.size-> Calls prog 137 #[.pointer (some ⟨b,0,none⟩),.string (S t)] w (afY b base v (B (ac4 (gath n k t).2)) (xs++(gath n k t).1.map S) w):=by
 induction n with
 | zero=>intro t k b base P xs v w h;have:=aaq t;omega
 | succ n ih=>
  intro t k b base P xs v w hn hfit ho hl h89 hP1 hP2 hPt hxs hlv hown hbase;have hps:=aba t;have hpf:=ab5 t;have hPu:∀z,z∈t.peel.free\/z∈t.peel.bnd->P z:=fun z hz=>hPt z (acq t z hz);have hfp:=adH hfit;have HP:=agA t ho hl;have hou:=hps.1 nmE ho;have hlu:t.peel.pr.length<=700:=by omega
  have HK:=aad t.peel hou hlu;have HD:=ade t.peel.size t.peel (nl _) hou hlu;have HPt:=aaf t.peel hou hlu;have HFr:=acs t.peel hou hlu;unfold gath at h89 ⊢
  cases hd:t.peel.dead with
  | true=>
   rw[if_pos rfl];rw[hd]at HD;simp only[List.map_nil,List.append_nil];exact atx _ _ _ v xs b base HP HD w hlv hown
  | false=>
   rw[hd]at h89;rw[if_neg (by simp)]at h89 ⊢;rw[hd]at HD
   generalize hu:t.peel=u at *
   have hleaf:(∀p q,u≠.par p q)->(∀x p,u≠.own x p)->Calls prog 137 #[.pointer (some ⟨b,0,none⟩),.string (S t)] w (afY b base v (B (ac4 (([u],k):List Tm × Nat).2)) (xs++(([u],k):List Tm × Nat).1.map S) w):=by
    intro h1 h2;refine aty _ _ _ v xs b base ((u.kind.toNat:Nat):Int) ?_ ?_ (by omega) HP HD HK w hlv hown hbase
    ·cases u with
     | par p q=>exact absurd rfl (h1 p q)
     | _=>rfl
    ·cases u with
     | own x p=>exact absurd rfl (h2 x p)
     | _=>rfl
   cases u with
   | nil=>exact hleaf (by intros;simp) (by intros;simp)
   | snd a b p=>exact hleaf (by intros;simp) (by intros;simp)
   | rcv a b p=>exact hleaf (by intros;simp) (by intros;simp)
   | tau p=>exact hleaf (by intros;simp) (by intros;simp)
   | sum p q=>exact hleaf (by intros;simp) (by intros;simp)
   | mat a b p=>exact hleaf (by intros;simp) (by intros;simp)
   | rep p=>exact hleaf (by intros;simp) (by intros;simp)
   | par p q=>
    simp only at h89 ⊢;have hsz:p.size+q.size+1<=t.size:=hps.2.2.1;have hoo:p.ok nmE=true/\q.ok nmE=true:=by simpa only[Tm.ok,bae] using hou
    have hll:p.pr.length+q.pr.length<=700:=by simp only[Tm.pr,List.length_cons,lla]at hlu;omega
    have hm:=afy n (gath n k p).2 q;have hm0:=afy n k p;have gl1:=aqY n k p;rw[List.map_append,<-List.append_assoc];refine avP _ _ (S p) (S q) _ (B (ac4 (gath n k p).2)) _ v xs (xs++(gath n k p).1.map S) _ b base HP HD HK HPt (fun v w a1 a2 a3=>?_) (fun v w a1 a2 a3=>?_) w hlv hown hbase
    ·exact ih p k b base P xs v w (by omega) (.inl (acg hfp).1) hoo.1 (by omega) (by omega) hP1 hP2 (fun z hz=>hPu z (by rw[mf_par];simp only[Tm.bnd,lma];grind)) (by omega) a1 a2 a3
    ·exact ih q (gath n k p).2 b base P _ v w (by omega) (.inl (acg hfp).2) hoo.2 (by omega) h89 hP1 (fun i hi=>hP2 i (by omega)) (fun z hz=>hPu z (by rw[mf_par];simp only[Tm.bnd,lma];grind)) (by simp only[lla,List.length_map];omega) a1 a2 a3
   | own x p=>
    simp only at h89 ⊢;have hsz:p.size+1<=t.size:=hps.2.2.1;have hoo:nmE x=true/\p.ok nmE=true:=by simpa only[Tm.ok,bae] using hou
    have hll:p.pr.length+3<=700:=by simp only[Tm.pr,List.length_cons]at hlu;omega
    have hm:=afy n (k+1) (R p x (gl k));have hk:k<=88:=by omega
    have hbn:(Tm.own x p).bdp=p.bdp+1:=by simp[Tm.bdp]
    have hfitp:Fit p:=acA (x:=x) (ag0 hfp) (by omega) (fun z hz=>by rw[mf_own];grind);have hPp:∀z,z∈p.free\/z∈p.bnd->P z:=fun z hz=>hPu z (by rw[mf_own];simp only[Tm.bnd,List.mem_cons];grind);have hnPk:=hP2 k (nl _) (by omega);have hgn:=auY (i:=k) (by omega);have hRo:=ad2 p.size p x (gl k) hoo.2 hgn;have hR:=ac3 p.size p x (gl k) (nl _) hoo.2 (by omega) hgn;have hfr:=R_names hfitp x (gl k);have hXs:(S (.own x p)).size=p.pr.length+3:=by rw[aan];simp[Tm.pr]
    have hpos:=pr_pos p;have hXe:(S (.own x p)).extract 3 (S (.own x p)).size=S p:=abz (t:=.own x p) (p:=p) (pre:=[35,x,46]) rfl;have hX1:((S (.own x p))[1]'(by omega))=x:=abh (aaN _) 1 (by omega) (by simp[Tm.pr])
    have hcat:B (ac4 k)++one (gl k)=B (ac4 (k+1)):=by
     apply apw
     rw[ByteArray.data_append,Array.toList_append];simp[B,one,ac4,List.range_succ]
    refine avQ (S t) (S (.own x p)) (B (ac4 k)) (B (Tm.own x p).free) (S (R p x (gl k))) _ ((x.toNat:Nat):Int) k hk v xs _ b base (by rw[aaR];simp[ac4];omega) (by rw[aaR];exact Nat.le_trans (abm (srt_free _)) (by omega)) (by omega) (by omega) (by rw[hX1])
     (fun i hi=>?_) ?_ ?_ HP HD HK HFr (by rw[hXe];exact hR) (fun v w a1 a2 a3=>?_) w hlv hown hbase
    ·rw[ae0,decide_eq_true_eq];exact List.mem_map.2 ⟨i,List.mem_range.2 hi,rfl⟩
    ·rw[ae0,decide_eq_false_iff_not];intro h;obtain⟨i,hi,e⟩:=List.mem_map.1 h;have:=List.mem_range.1 hi;have:=ah6 (i:=i) (j:=k) (by omega) (by omega) e;omega
    ·rw[ae0,decide_eq_false_iff_not];exact fun h=>hnPk (hPu _ (.inl h))
    ·rw[hcat]at a1
     exact ih (R p x (gl k)) (k+1) b base (fun z=>P z\/z=gl k) xs v w (by rw[R_size];omega) (.inl (ae6 hfitp _ _)) hRo (by rw[adf];omega) h89 (fun z hz=>.inl (hP1 z hz))
      (fun i hi hi2 h=>by
       rcases h with h|h
       ·exact hP2 i (by omega) hi2 h
       ·have:=ah6 hi2 (by omega) h;omega)
      (fun z hz=>by
       rcases hfr z hz with h|h|h
       ·exact .inl (hPp z h)
       ·exact .inr h
       ·exact .inl (hP1 z h)) (by rw[R_size];omega) a1 a2 a3
end Go.Proofs.YtalegefnppbkdaaGreat.T1
