/- Texts of the proof. No conditions. -/
import Derived.Test.YtalegefnppbkdaaGreatQat
namespace Go.Proofs.YtalegefnppbkdaaGreat.T1
open Go.Proofs.Tryz
set_option maxHeartbeats 4000000
open Go.RowKit
set_option maxRecDepth 100000
set_option linter.unusedVariables false
theorem aao {u v w:World}(h:Zb u v)(k:Zb v w):Zb u w:=aab h k h.size
structure HRow (W:World) (g:Nat) (l:List UInt8):Prop where
 ex:∃(C:Array Value) (a b:Nat),W.heap[g]?=some (.cells C 5 (a,b))/\l.length<=a/\∀j (h:j<l.length),C[j]?=some (.int .u8 (l[j].toNat:Int))
theorem HRow.lt {W:World}{g:Nat}{l:List UInt8}(h:HRow W g l):g<W.heap.size:=by
 obtain⟨C,a,b,h1,_⟩:=h.ex;exact lt_of_block h1
theorem HRow.cell {W:World}{g:Nat}{l:List UInt8}(h:HRow W g l)(j:Nat)(hj:j<l.length):W.cell? ⟨g,j,none⟩=some (.int .u8 (l[j].toNat:Int)):=by
 obtain⟨C,a,b,h1,_,h3⟩:=h.ex;simp[World.cell?,h1,h3 j hj]
theorem HRow.free {W:World}{g:Nat}{l:List UInt8}(h:HRow W g l)(j:Nat)(hj:j<l.length):W.frozen? ⟨g,j,none⟩=false:=by
 obtain⟨C,a,b,h1,h2,_⟩:=h.ex;simp[World.frozen?,h1];omega
theorem HRow.below {W W':World}{g:Nat}{l:List UInt8}(h:HRow W g l)(k:Zb W W'):HRow W' g l:=by
 obtain⟨C,a,b,h1,h2,h3⟩:=h.ex;exact⟨C,a,b,(k.block g (lt_of_block h1)).trans h1,h2,h3⟩
theorem HRow.drew {W:World}{g:Nat}{l:List UInt8}(h:HRow W g l):HRow W.drew g l:=by
 obtain⟨C,a,b,h1,h2,h3⟩:=h.ex;exact⟨C,a,b,h1,h2,h3⟩
theorem HRow.set {W:World}{g:Nat}{l:List UInt8}(h:HRow W g l)(k:Nat)(hk:k<l.length)(c:UInt8):HRow (W.setCell ⟨g,k,none⟩ (.int .u8 (c.toNat:Int))) g (l.set k c):=by
 obtain⟨C,a,b,h1,h2,h3⟩:=h.ex;have hlt:=lt_of_block h1;have h':W.heap[g]=.cells C 5 (a,b):=by simpa [Array.getElem?_eq_getElem hlt] using h1
 refine⟨C.setIfInBounds k (.int .u8 (c.toNat:Int)),a,b,?_,by simpa using h2,fun j hj=>?_⟩
 ·show (W.heap.modify g _)[g]?=_;rw[Array.getElem?_eq_getElem (by simpa using hlt),Array.getElem_modify_self,h'];rfl
 ·have hj':j<l.length:=by simpa using hj
  have hC:=h3 j hj'
  by_cases e:k=j
  ·subst e
   have hlt2:k<C.size:=by
    rcases Nat.lt_or_ge k C.size with h4|h4
    ·exact h4
    ·rw[Array.getElem?_eq_none h4]at hC;cases hC
   rw[Array.getElem?_setIfInBounds_self_of_lt hlt2];simp
  ·rw[Array.getElem?_setIfInBounds_ne e,hC,List.getElem_set_ne e]
theorem HRow.conv {W:World}{g:Nat}{l:List UInt8}(h:HRow W g l)(n cap:Nat)(hn:n=l.length):(convert 44 9 (.slice (some ⟨g,0,none⟩) n cap)).run prog W=.ok (.string (B l)) W:=by
 subst hn;exact run_convert_bytes_back W 44 9 5 ⟨g,0,none⟩ cap l underlying44 underlying5 underlying9 fun j hj=>by rw[aof,h.cell j hj]
theorem aaz (X:ByteArray)(l:List UInt8)(n:Nat)(hl:X.data.toList=l)(hn:n=l.length)(w:World):∃(cap:Nat) (W:World),(convert 9 44 (.string X)).run prog w=.ok (.slice (some ⟨w.heap.size,0,none⟩) n cap) W/\Zb w W/\HRow W w.heap.size l:=by
 subst hl;subst hn;refine⟨_,_,(by rw[show X.data.toList.length=X.size by simp];exact run_bytes_of_string w 9 44 5 X underlying9 underlying44 underlying5),?_,?_⟩
 ·exact(((Below.refl w.heap.size w).drew).alloc (nl _) _)
 ·refine⟨_,_,_,aag _ _,?_,?_⟩
  ·simp[bytesRow]
  ·intro j hj;simp at hj;simp[bytesRow,Array.getElem?_append,hj]
theorem swap_yes (o m:Int)(w:World):Calls prog 185 #[.int .u8 o,.int .u8 o,.int .u8 m] w fun e w'=>e=.returned (.int .u8 m)/\w=w':=by
 have hq:(o==o)=true:=by simp
 go_enter func185,ntmps185
 go_wp2_with fail;go_ret;exact⟨rfl,rfl⟩
theorem swap_no (c o m:Int)(hq:(c==o)=false)(w:World):Calls prog 185 #[.int .u8 c,.int .u8 o,.int .u8 m] w fun e w'=>e=.returned (.int .u8 c)/\w=w':=by
 go_enter func185,ntmps185
 go_wp2_with fail;go_ret;exact⟨rfl,rfl⟩
theorem b8_beq (a b:UInt8):(((a.toNat:Nat):Int)==((b.toNat:Nat):Int))=decide (a=b):=by
 rw[Bool.eq_iff_iff,decide_eq_true_iff,beq_iff_eq];exact⟨fun h=>u8_ext (by omega),fun h=>by rw[h]⟩
theorem abW (c o m:UInt8)(w:World):Calls prog 185 #[.int .u8 (c.toNat:Int),.int .u8 (o.toNat:Int),.int .u8 (m.toNat:Int)] w fun e w'=>e=.returned (.int .u8 ((sw c o m).toNat:Int))/\w=w':=by
 unfold sw
 split
 ·rename_i h;subst h;exact swap_yes _ _ w
 ·rename_i h;exact swap_no _ _ _ (by rw[b8_beq];exact decide_eq_false h) w
theorem asK (s:ByteArray)(o:Int)(w:World):Calls prog 173 #[.string s,.int .u8 o,.int .u8 o] w fun e w'=>e=.returned (.string s)/\Zb w w':=by
 have hq:(o==o)=true:=by simp
 go_enter func173,ntmps173
 go_wp2_with fail;go_ret;exact⟨rfl,Below.refl _ _⟩
theorem aoi (s U:ByteArray)(o m:Int)(hq:(o==m)=false)(HF:Zr 62 #[.string s] (.string U))(HI:Ze 88 #[.string U,.int .u8 o] (.bool false))(w:World):Calls prog 173 #[.string s,.int .u8 o,.int .u8 m] w fun e w'=>e=.returned (.string s)/\Zb w w':=by
 have HF':=qz HF;have HI':=qz HI;clear HF HI
 go_enter func173,ntmps173
 go_wp2_with fail;refine(HF'.out _).mono ?_;rintro e w1 ⟨rfl,b1⟩;go_wp2_with fail;refine(HI'.out _).mono ?_;rintro e w2 ⟨rfl,rfl⟩;go_wp2_with fail;go_ret;exact⟨rfl,b1⟩
theorem avl (s U:ByteArray)(o m:Int)(a b a2 b2:UInt8)(P2 HD:ByteArray)(hP:P2.size<=700)(hHB:HD=B [a2,33,b2,46])(hs:4<=s.size)(hs3:s.size<=700)(hq:(o==m)=false)(hl:(s.extract 0 4).data.toList=[a,33,b,46]) (HF:Zr 62 #[.string s] (.string U))(HI:Ze 88 #[.string U,.int .u8 o] (.bool true))(HH:Ze 97 #[.string s] (.int .i64 4))(HB:Ze 89 #[.string s] (.tuple #[.int .u8 0,.bool false]))(HK:Ze 71 #[.string s] (.int .u8 33))(HS:Ze 185 #[.int .u8 (a.toNat:Int),.int .u8 o,.int .u8 m] (.int .u8 (a2.toNat:Int)))(HS2:Ze 185 #[.int .u8 (b.toNat:Int),.int .u8 o,.int .u8 m] (.int .u8 (b2.toNat:Int)))(HR:Zr 173 #[.string (s.extract 4 s.size),.int .u8 o,.int .u8 m] (.string P2))(w:World) : Calls prog 173 #[.string s,.int .u8 o,.int .u8 m] w fun e w'=>e=.returned (.string (HD++P2))/\Zb w w':=by
 have Hl:=qz hl;clear hl;have HF':=qz HF;have HI':=qz HI;have HH':=qz HH;have HB':=qz HB;have HK':=qz HK;have HS':=qz HS;have HS2':=qz HS2;have HR':=qz HR;clear HF HI HH HB HK HS HS2 HR
 go_enter func173,ntmps173
 go_wp2_with fail;refine(HF'.out _).mono ?_;rintro e w1 ⟨rfl,b1⟩;go_wp2_with fail;refine(HI'.out _).mono ?_;rintro e w2 ⟨rfl,rfl⟩;go_wp2_with fail;refine(HH'.out _).mono ?_;rintro e w3 ⟨rfl,rfl⟩;obtain⟨cap,W,hcv,bW,hr⟩:=aaz (s.extract 0 4) _ 4 Hl.out rfl w1;have bl:=aao b1 bW;have hgw:w.heap.size<=w1.heap.size:=b1.size;obtain⟨g,hg⟩:∃g,g=w1.heap.size:=⟨_,rfl⟩;rw[<-hg]at hcv hr hgw;clear b1 bW hg;have Hr:=qz hr;clear hr;go_wp2_with fail;clear hcv;refine(HB'.out _).mono ?_;rintro e w4 ⟨rfl,rfl⟩;go_wp2_with fail;refine(HK'.out _).mono ?_;rintro e w5 ⟨rfl,rfl⟩;have x0:=Hr.out.cell 0 (by simp);have y0:=Hr.out.free 0 (by simp);have x2:=Hr.out.cell 2 (by simp);have y2:=Hr.out.free 2 (by simp);simp only[List.getElem_cons_zero,List.getElem_cons_succ]at x0 x2;go_wp2_with fail;refine(HS'.out _).mono ?_;rintro e v0 ⟨rfl,rfl⟩;go_wp2_with fail;refine(HS2'.out _).mono ?_;rintro e v2 ⟨rfl,rfl⟩;go_wp2_with fail;obtain⟨W2,hW2⟩:∃W2,W2=((W.setCell ⟨g,0,none⟩ (.int .u8 (a2.toNat:Int))).setCell ⟨g,2,none⟩ (.int .u8 (b2.toNat:Int))):=⟨_,rfl⟩;have hr2:HRow W2 g [a2,33,b2,46]:=by rw[hW2];exact((Hr.out.set 0 (by simp) a2).set 2 (by simp) b2)
 have bl2:Zb w W2:=by rw[hW2];exact((bl.setCell (p:=⟨g,0,none⟩) hgw _).setCell (p:=⟨g,2,none⟩) hgw _)
 rw[<-hW2];clear hW2;have hconv:=fun (W:World) (h:HRow W g [a2,33,b2,46])=>h.conv 4 cap rfl;have hB:(B [a2,33,b2,46]).size=4:=rfl;rw[<-hHB]at hconv hB;have hB4:HD.size<=4:=by omega
 have cv0:=hconv W2 hr2;have cvd:=hconv W2.drew hr2.drew;have HCV:=qz hconv;clear hconv hHB hB;have HR2:=qz hr2;clear hr2 Hr bl
 go_region_with ((go_at_call 173;refine(HR'.out _).mono ?_;rintro e v1 ⟨rfl,d1⟩;have cv1:=HCV.out v1 (HR2.out.drew.below d1);have bl3:=aao bl2.drew d1))
 all_goals
  go_wp2_with fail;go_ret;exact⟨rfl,bl3⟩
theorem avm (s U:ByteArray)(o m:Int)(a b a2 b2:UInt8)(P2 HD:ByteArray)(hP:P2.size<=700)(hHB:HD=B [91,a2,61,b2,93])(hs:5<=s.size)(hs3:s.size<=700)(hq:(o==m)=false)(hl:(s.extract 0 5).data.toList=[91,a,61,b,93]) (HF:Zr 62 #[.string s] (.string U))(HI:Ze 88 #[.string U,.int .u8 o] (.bool true))(HH:Ze 97 #[.string s] (.int .i64 5))(HB:Ze 89 #[.string s] (.tuple #[.int .u8 0,.bool false]))(HK:Ze 71 #[.string s] (.int .u8 61))(HS:Ze 185 #[.int .u8 (a.toNat:Int),.int .u8 o,.int .u8 m] (.int .u8 (a2.toNat:Int)))(HS2:Ze 185 #[.int .u8 (b.toNat:Int),.int .u8 o,.int .u8 m] (.int .u8 (b2.toNat:Int)))(HR:Zr 173 #[.string (s.extract 5 s.size),.int .u8 o,.int .u8 m] (.string P2))(w:World) : Calls prog 173 #[.string s,.int .u8 o,.int .u8 m] w fun e w'=>e=.returned (.string (HD++P2))/\Zb w w':=by
 have Hl:=qz hl;clear hl;have HF':=qz HF;have HI':=qz HI;have HH':=qz HH;have HB':=qz HB;have HK':=qz HK;have HS':=qz HS;have HS2':=qz HS2;have HR':=qz HR;clear HF HI HH HB HK HS HS2 HR
 go_enter func173,ntmps173
 go_wp2_with fail;refine(HF'.out _).mono ?_;rintro e w1 ⟨rfl,b1⟩;go_wp2_with fail;refine(HI'.out _).mono ?_;rintro e w2 ⟨rfl,rfl⟩;go_wp2_with fail;refine(HH'.out _).mono ?_;rintro e w3 ⟨rfl,rfl⟩;obtain⟨cap,W,hcv,bW,hr⟩:=aaz (s.extract 0 5) _ 5 Hl.out rfl w1;have bl:=aao b1 bW;have hgw:w.heap.size<=w1.heap.size:=b1.size;obtain⟨g,hg⟩:∃g,g=w1.heap.size:=⟨_,rfl⟩;rw[<-hg]at hcv hr hgw;clear b1 bW hg;have Hr:=qz hr;clear hr;go_wp2_with fail;clear hcv;refine(HB'.out _).mono ?_;rintro e w4 ⟨rfl,rfl⟩;go_wp2_with fail;refine(HK'.out _).mono ?_;rintro e w5 ⟨rfl,rfl⟩;have x0:=Hr.out.cell 1 (by simp);have y0:=Hr.out.free 1 (by simp);have x2:=Hr.out.cell 3 (by simp);have y2:=Hr.out.free 3 (by simp);simp only[List.getElem_cons_zero,List.getElem_cons_succ]at x0 x2;go_wp2_with fail;refine(HS'.out _).mono ?_;rintro e v1 ⟨rfl,rfl⟩;go_wp2_with fail;refine(HS2'.out _).mono ?_;rintro e v3 ⟨rfl,rfl⟩;go_wp2_with fail;obtain⟨W2,hW2⟩:∃W2,W2=((W.setCell ⟨g,1,none⟩ (.int .u8 (a2.toNat:Int))).setCell ⟨g,3,none⟩ (.int .u8 (b2.toNat:Int))):=⟨_,rfl⟩;have hr2:HRow W2 g [91,a2,61,b2,93]:=by rw[hW2];exact((Hr.out.set 1 (by simp) a2).set 3 (by simp) b2)
 have bl2:Zb w W2:=by rw[hW2];exact((bl.setCell (p:=⟨g,1,none⟩) hgw _).setCell (p:=⟨g,3,none⟩) hgw _)
 rw[<-hW2];clear hW2;have hconv:=fun (W:World) (h:HRow W g [91,a2,61,b2,93])=>h.conv 5 cap rfl;have hB:(B [91,a2,61,b2,93]).size=5:=rfl;rw[<-hHB]at hconv hB;have hB4:HD.size<=5:=by omega
 have cv0:=hconv W2 hr2;have cvd:=hconv W2.drew hr2.drew;have HCV:=qz hconv;clear hconv hHB hB;have HR2:=qz hr2;clear hr2 Hr bl
 go_region_with ((go_at_call 173;refine(HR'.out _).mono ?_;rintro e v1 ⟨rfl,d1⟩;have cv1:=HCV.out v1 (HR2.out.drew.below d1);have bl3:=aao bl2.drew d1))
 all_goals
  go_wp2_with fail;go_ret;exact⟨rfl,bl3⟩
theorem avn (s U:ByteArray)(o m:Int)  (P2 HD:ByteArray)(hP:P2.size<=700)(hHB:HD=B [126,46])(hs:2<=s.size)(hs3:s.size<=700)(hq:(o==m)=false)(hl:(s.extract 0 2).data.toList=[126,46]) (HF:Zr 62 #[.string s] (.string U))(HI:Ze 88 #[.string U,.int .u8 o] (.bool true))(HH:Ze 97 #[.string s] (.int .i64 2))(HB:Ze 89 #[.string s] (.tuple #[.int .u8 0,.bool false]))(HK:Ze 71 #[.string s] (.int .u8 126))(HR:Zr 173 #[.string (s.extract 2 s.size),.int .u8 o,.int .u8 m] (.string P2))(w:World) : Calls prog 173 #[.string s,.int .u8 o,.int .u8 m] w fun e w'=>e=.returned (.string (HD++P2))/\Zb w w':=by
 have Hl:=qz hl;clear hl;have HF':=qz HF;have HI':=qz HI;have HH':=qz HH;have HB':=qz HB;have HK':=qz HK;have HR':=qz HR;clear HF HI HH HB HK HR
 go_enter func173,ntmps173
 go_wp2_with fail;refine(HF'.out _).mono ?_;rintro e w1 ⟨rfl,b1⟩;go_wp2_with fail;refine(HI'.out _).mono ?_;rintro e w2 ⟨rfl,rfl⟩;go_wp2_with fail;refine(HH'.out _).mono ?_;rintro e w3 ⟨rfl,rfl⟩;obtain⟨cap,W,hcv,bW,hr⟩:=aaz (s.extract 0 2) _ 2 Hl.out rfl w1;have bl:=aao b1 bW;have hgw:w.heap.size<=w1.heap.size:=b1.size;obtain⟨g,hg⟩:∃g,g=w1.heap.size:=⟨_,rfl⟩;rw[<-hg]at hcv hr hgw;clear b1 bW hg;have Hr:=qz hr;clear hr;go_wp2_with fail;clear hcv;refine(HB'.out _).mono ?_;rintro e w4 ⟨rfl,rfl⟩;go_wp2_with fail;refine(HK'.out _).mono ?_;rintro e w5 ⟨rfl,rfl⟩;go_wp2_with fail;have hr2:=Hr.out;have bl2:=bl;have hconv:=fun (W:World) (h:HRow W g [126,46])=>h.conv 2 cap rfl;have hB:(B [126,46]).size=2:=rfl;rw[<-hHB]at hconv hB;have hB4:HD.size<=2:=by omega
 have cv0:=hconv W hr2;have cvd:=hconv W.drew hr2.drew;have HCV:=qz hconv;clear hconv hHB hB;have HR2:=qz hr2;clear hr2 Hr bl
 go_region_with ((go_at_call 173;refine(HR'.out _).mono ?_;rintro e v1 ⟨rfl,d1⟩;have cv1:=HCV.out v1 (HR2.out.drew.below d1);have bl3:=aao bl2.drew d1))
 all_goals
  go_wp2_with fail;go_ret;exact⟨rfl,bl3⟩
theorem avo (s U:ByteArray)(o m:Int)  (P2 HD:ByteArray)(hP:P2.size<=700)(hHB:HD=B [42])(hs:1<=s.size)(hs3:s.size<=700)(hq:(o==m)=false)(hl:(s.extract 0 1).data.toList=[42]) (HF:Zr 62 #[.string s] (.string U))(HI:Ze 88 #[.string U,.int .u8 o] (.bool true))(HH:Ze 97 #[.string s] (.int .i64 1))(HB:Ze 89 #[.string s] (.tuple #[.int .u8 0,.bool false]))(HK:Ze 71 #[.string s] (.int .u8 42))(HR:Zr 173 #[.string (s.extract 1 s.size),.int .u8 o,.int .u8 m] (.string P2))(w:World) : Calls prog 173 #[.string s,.int .u8 o,.int .u8 m] w fun e w'=>e=.returned (.string (HD++P2))/\Zb w w':=by
 have Hl:=qz hl;clear hl;have HF':=qz HF;have HI':=qz HI;have HH':=qz HH;have HB':=qz HB;have HK':=qz HK;have HR':=qz HR;clear HF HI HH HB HK HR
 go_enter func173,ntmps173
 go_wp2_with fail;refine(HF'.out _).mono ?_;rintro e w1 ⟨rfl,b1⟩;go_wp2_with fail;refine(HI'.out _).mono ?_;rintro e w2 ⟨rfl,rfl⟩;go_wp2_with fail;refine(HH'.out _).mono ?_;rintro e w3 ⟨rfl,rfl⟩;obtain⟨cap,W,hcv,bW,hr⟩:=aaz (s.extract 0 1) _ 1 Hl.out rfl w1;have bl:=aao b1 bW;have hgw:w.heap.size<=w1.heap.size:=b1.size;obtain⟨g,hg⟩:∃g,g=w1.heap.size:=⟨_,rfl⟩;rw[<-hg]at hcv hr hgw;clear b1 bW hg;have Hr:=qz hr;clear hr;go_wp2_with fail;clear hcv;refine(HB'.out _).mono ?_;rintro e w4 ⟨rfl,rfl⟩;go_wp2_with fail;refine(HK'.out _).mono ?_;rintro e w5 ⟨rfl,rfl⟩;go_wp2_with fail;have hr2:=Hr.out;have bl2:=bl;have hconv:=fun (W:World) (h:HRow W g [42])=>h.conv 1 cap rfl;have hB:(B [42]).size=1:=rfl;rw[<-hHB]at hconv hB;have hB4:HD.size<=1:=by omega
 have cv0:=hconv W hr2;have cvd:=hconv W.drew hr2.drew;have HCV:=qz hconv;clear hconv hHB hB;have HR2:=qz hr2;clear hr2 Hr bl
 go_region_with ((go_at_call 173;refine(HR'.out _).mono ?_;rintro e v1 ⟨rfl,d1⟩;have cv1:=HCV.out v1 (HR2.out.drew.below d1);have bl3:=aao bl2.drew d1))
 all_goals
  go_wp2_with fail;go_ret;exact⟨rfl,bl3⟩
theorem avp (s U:ByteArray)(o m:Int)  (u v U1 U2 Q:ByteArray)(hs:1<=s.size)(hs3:s.size<=700)(hq:(o==m)=false)(hl:(s.extract 0 1).data.toList=[40]) (HF:Zr 62 #[.string s] (.string U))(HI:Ze 88 #[.string U,.int .u8 o] (.bool true))(HH:Ze 97 #[.string s] (.int .i64 1))(HB:Ze 89 #[.string s] (.tuple #[.int .u8 0,.bool false]))(HK:Ze 71 #[.string s] (.int .u8 43))(HP:∀w,Calls prog 72 #[.string s] w fun e w'=>∃b,e=.returned (.slice (some ⟨b,0,none⟩) 2 2)/\w.heap.size<=b/\w'.heap[b]?=some (.cells #[.string u,.string v] 9 (0,0))/\Zb w w')(HR1:Zr 173 #[.string u,.int .u8 o,.int .u8 m] (.string U1))(HR2:Zr 173 #[.string v,.int .u8 o,.int .u8 m] (.string U2))(HW:∀(g n cap:Nat) (w:World),2<=n->w.cell? ⟨g,0,none⟩=some (.string U1)->w.cell? ⟨g,1,none⟩=some (.string U2)->Calls prog 186 #[.string s,.slice (some ⟨g,0,none⟩) n cap] w fun e w'=>e=.returned (.string Q)/\Zb w w')(w:World) : Calls prog 173 #[.string s,.int .u8 o,.int .u8 m] w fun e w'=>e=.returned (.string (Q))/\Zb w w':=by
 have Hl:=qz hl;clear hl;have HF':=qz HF;have HI':=qz HI;have HH':=qz HH;have HB':=qz HB;have HK':=qz HK;have HP':=qz HP;have HR1':=qz HR1;have HR2':=qz HR2;have HW':=qz HW;clear HF HI HH HB HK HP HR1 HR2 HW
 go_enter func173,ntmps173
 go_wp2_with fail;refine(HF'.out _).mono ?_;rintro e w1 ⟨rfl,b1⟩;go_wp2_with fail;refine(HI'.out _).mono ?_;rintro e w2 ⟨rfl,rfl⟩;go_wp2_with fail;refine(HH'.out _).mono ?_;rintro e w3 ⟨rfl,rfl⟩;obtain⟨cap,W,hcv,bW,hr⟩:=aaz (s.extract 0 1) _ 1 Hl.out rfl w1;have bl:=aao b1 bW;have hgw:w.heap.size<=w1.heap.size:=b1.size;obtain⟨g,hg⟩:∃g,g=w1.heap.size:=⟨_,rfl⟩;rw[<-hg]at hcv hr hgw;clear b1 bW hg;have Hr:=qz hr;clear hr;go_wp2_with fail;clear hcv;refine(HB'.out _).mono ?_;rintro e w4 ⟨rfl,rfl⟩;go_wp2_with fail;refine(HK'.out _).mono ?_;rintro e w5 ⟨rfl,rfl⟩;clear Hr hgw;go_wp2_with fail;refine(HP'.out _).mono ?_;rintro e w6 ⟨b,rfl,hb,hh,b6⟩;have c0:=aai hh;have c1:=aak hh;replace bl:=aao bl b6;clear hh hb b6;have hbl:=World.block_lt_of_cell? w6 _ c0;go_wp2_with fail
 go_region_with (first|(go_at_call_of 173 u;refine(HR1'.out _).mono ?_;rintro e v1 ⟨rfl,d1⟩;have k1:=aao bl.drew d1;have q0:=(d1.cell (p:=⟨b,0,none⟩) hbl).trans c0;have q1:=(d1.cell (p:=⟨b,1,none⟩) hbl).trans c1)|(go_at_call_of 173 v;refine(HR2'.out _).mono ?_;rintro e v2 ⟨rfl,d2⟩;have k2:=aao k1 d2)|(go_at_call 186;refine(HW'.out _ _ _ _ (by omega) (aai (aag _ _)) (aak (aag _ _))).mono ?_;rintro e v3 ⟨rfl,d3⟩;have k3:=aao (k2.alloc k2.size _) d3))
 all_goals
  go_wp2_with fail;go_ret;exact⟨rfl,k3⟩
theorem avq (s U:ByteArray)(o m:Int)  (u v U1 U2 Q:ByteArray)(hs:1<=s.size)(hs3:s.size<=700)(hq:(o==m)=false)(hl:(s.extract 0 1).data.toList=[40]) (HF:Zr 62 #[.string s] (.string U))(HI:Ze 88 #[.string U,.int .u8 o] (.bool true))(HH:Ze 97 #[.string s] (.int .i64 1))(HB:Ze 89 #[.string s] (.tuple #[.int .u8 0,.bool false]))(HK:Ze 71 #[.string s] (.int .u8 38))(HP:∀w,Calls prog 72 #[.string s] w fun e w'=>∃b,e=.returned (.slice (some ⟨b,0,none⟩) 2 2)/\w.heap.size<=b/\w'.heap[b]?=some (.cells #[.string u,.string v] 9 (0,0))/\Zb w w')(HR1:Zr 173 #[.string u,.int .u8 o,.int .u8 m] (.string U1))(HR2:Zr 173 #[.string v,.int .u8 o,.int .u8 m] (.string U2))(HW:∀(g n cap:Nat) (w:World),2<=n->w.cell? ⟨g,0,none⟩=some (.string U1)->w.cell? ⟨g,1,none⟩=some (.string U2)->Calls prog 186 #[.string s,.slice (some ⟨g,0,none⟩) n cap] w fun e w'=>e=.returned (.string Q)/\Zb w w')(w:World) : Calls prog 173 #[.string s,.int .u8 o,.int .u8 m] w fun e w'=>e=.returned (.string (Q))/\Zb w w':=by
 have Hl:=qz hl;clear hl;have HF':=qz HF;have HI':=qz HI;have HH':=qz HH;have HB':=qz HB;have HK':=qz HK;have HP':=qz HP;have HR1':=qz HR1;have HR2':=qz HR2;have HW':=qz HW;clear HF HI HH HB HK HP HR1 HR2 HW
 go_enter func173,ntmps173
 go_wp2_with fail;refine(HF'.out _).mono ?_;rintro e w1 ⟨rfl,b1⟩;go_wp2_with fail;refine(HI'.out _).mono ?_;rintro e w2 ⟨rfl,rfl⟩;go_wp2_with fail;refine(HH'.out _).mono ?_;rintro e w3 ⟨rfl,rfl⟩;obtain⟨cap,W,hcv,bW,hr⟩:=aaz (s.extract 0 1) _ 1 Hl.out rfl w1;have bl:=aao b1 bW;have hgw:w.heap.size<=w1.heap.size:=b1.size;obtain⟨g,hg⟩:∃g,g=w1.heap.size:=⟨_,rfl⟩;rw[<-hg]at hcv hr hgw;clear b1 bW hg;have Hr:=qz hr;clear hr;go_wp2_with fail;clear hcv;refine(HB'.out _).mono ?_;rintro e w4 ⟨rfl,rfl⟩;go_wp2_with fail;refine(HK'.out _).mono ?_;rintro e w5 ⟨rfl,rfl⟩;clear Hr hgw;go_wp2_with fail;refine(HP'.out _).mono ?_;rintro e w6 ⟨b,rfl,hb,hh,b6⟩;have c0:=aai hh;have c1:=aak hh;replace bl:=aao bl b6;clear hh hb b6;have hbl:=World.block_lt_of_cell? w6 _ c0;go_wp2_with fail
 go_region_with (first|(go_at_call_of 173 u;refine(HR1'.out _).mono ?_;rintro e v1 ⟨rfl,d1⟩;have k1:=aao bl.drew d1;have q0:=(d1.cell (p:=⟨b,0,none⟩) hbl).trans c0;have q1:=(d1.cell (p:=⟨b,1,none⟩) hbl).trans c1)|(go_at_call_of 173 v;refine(HR2'.out _).mono ?_;rintro e v2 ⟨rfl,d2⟩;have k2:=aao k1 d2)|(go_at_call 186;refine(HW'.out _ _ _ _ (by omega) (aai (aag _ _)) (aak (aag _ _))).mono ?_;rintro e v3 ⟨rfl,d3⟩;have k3:=aao (k2.alloc k2.size _) d3))
 all_goals
  go_wp2_with fail;go_ret;exact⟨rfl,k3⟩
end Go.Proofs.YtalegefnppbkdaaGreat.T1
