/- Texts of the proof. No conditions. -/
import Derived.Test.YtalegefnppbkdaaGreatQbn
import Derived.Deep.DrawnRows
namespace Go.Proofs.YtalegefnppbkdaaGreat.T1
open Go.Proofs.Tryz
set_option maxHeartbeats 40000000
open Go.RowKit
attribute [local go_sem ↓] Go.wp_at_zero Go.wp_at_succ
set_option maxRecDepth 100000
set_option linter.unusedVariables false
set_option linter.unusedSimpArgs false
theorem av0 (k:UInt8)(v:World)(h:Nat)(c0:v.cell? ⟨h,0,none⟩=some (.int .u8 (k.toNat:Int))):(convert 44 9 (.slice (some ⟨h,0,none⟩) 1 1)).run prog v=.ok (.string (one k)) v:=
 run_convert_bytes_back _ 44 9 5 _ 1 [k] underlying44 underlying5 underlying9 (fun j hj=>by
  have:j=0:=by simp at hj;omega
  subst this
  rw[show (⟨h,0,none⟩:Addr).add 0=⟨h,0,none⟩ from rfl,c0];rfl)
theorem ahu (w:World)(v:Value)(T:TypeId):(w.alloc (.cells #[v] T)).cell? ⟨w.heap.size,0,none⟩=some v:=by rw[World.cell?_alloc_new];rfl
theorem Only.cell {m:Nat}{w w':World}(h:Only m w w'){p:Addr}(hl:p.block<w.heap.size)(hm:p.block≠m):w'.cell? p=w.cell? p:=by
 unfold World.cell?;rw[h.block p.block hl hm]
theorem ahv {w:World}{b o:Nat}{x:Value}(h:w.cell? ⟨b,o,none⟩=some x):b<w.heap.size:=World.block_lt_of_cell? w _ h
theorem av1 (X K R Z K2:ByteArray)(y:UInt8)(hX:X.size<=700)(h4:4<=X.size)(hR:R.size<=1000)(m:Nat)(br once b1:Bool) (HK:Ze 71 #[.string X] (.int .u8 63)) (HF:Ze 138 #[.string K] (.int .u8 ((y.toNat:Nat):Int))) (HR:Zr 173 #[.string (X.extract 4 X.size),.int .u8 (((X[2]'(by omega)).toNat:Nat):Int),.int .u8 ((y.toNat:Nat):Int)] (.string Z)) (HA:Zr 91 #[.string K,.int .u8 ((y.toNat:Nat):Int)] (.string K2)) (HW:∀w,MkAt w m br once->Calls prog 103 #[.pointer (some ⟨m,0,none⟩),.string Z,.string K2] w (MkP m br once R b1 w))(w:World)(hm:MkAt w m br once) : Calls prog 174 #[.pointer (some ⟨m,0,none⟩),.string X,.string K] w (MkP m br once (X.extract 0 2++one y++⟨#[46]⟩++R) b1 w):=by
  have HK':=qz HK;have HF':=qz HF;have HR':=qz HR;have HA':=qz HA;have HW':=qz HW;have HM:=qz hm;have q1:(4:Int)<=(X.size:Int):=by omega
  have q2:(2:Int)<(X.size:Int):=by omega
  have q3:(2:Int)<=(X.size:Int):=by omega
  have s1:(X.extract 0 2).size<=700:=by rw[ByteArray.size_extract];omega
  have hcv:=amT y;have hcvd:=amU y;have hcg:=qz (av0 y);have hone:(one y).size<=1:=nl _;have hal:Hid (∀(br:Bool) (w:World) (o:Obj),MkAt w m br once->MkAt (w.alloc o) m br once):=fun br w o h=>h.below ((Below.refl _ _).alloc (nl _) o);have hml:=hm.lt;have HMd:Hid (MkAt w.drew m br once):=hm;have halD:Hid (∀(br:Bool) (w:World) (o:Obj),MkAt w m br once->MkAt (w.alloc o).drew m br once):=fun br w o h=>hal.out br w o h;clear HK HF HR HA HW hm
  go_enter func174,ntmps174
  go_wp2_with fail;refine(HK'.out _).mono ?_;rintro e w' ⟨rfl,rfl⟩;go_wp2_with fail;refine(HF'.out _).mono ?_;rintro e w' ⟨rfl,rfl⟩;go_wp2_with fail
  go_region_with (first
    | (go_at_call 173;(with_reducible refine(HR'.out _).mono ?_);rintro e w1 ⟨rfl,b1_⟩
       have M1:Hid (MkAt w1 m br once):=(by first|with_reducible exact qz (MkAt.below HMd.out b1_)|with_reducible exact qz (MkAt.below (halD.out _ _ _ HM.out) b1_)|with_reducible exact qz (MkAt.below (hal.out _ _ _ HMd.out) b1_));have O1:Hid (Only m w w1):=(by first|with_reducible exact qz ((Only.refl m w).drew.below b1_)|with_reducible exact qz (((Only.refl m w).alloc _).drew.below b1_)|with_reducible exact qz (((Only.refl m w).drew.alloc _).below b1_));have z1:w.heap.size<=w1.heap.size:=O1.out.size
       try (have c10:=(b1_.cell (p:=⟨w.heap.size,0,none⟩) (by simp)).trans (ahu w _ _);have cv10:=hcg.out w1 w.heap.size c10)
       clear b1_)
    | (go_at_call 91;(with_reducible refine(HA'.out _).mono ?_);rintro e w2 ⟨rfl,b2_⟩
       have M2:Hid (MkAt w2 m br once):=(by first|with_reducible exact qz (M1.out.below b2_)|with_reducible exact qz ((hal.out _ _ _ M1.out).below b2_));have O2:Hid (Only m w w2):=(by first|with_reducible exact qz (O1.out.below b2_)|with_reducible exact qz ((O1.out.alloc _).below b2_));have z2:w1.heap.size<=w2.heap.size:=(by first|exact b2_.size|(have:=b2_.size;simp at this;omega))
       try (have c20:=(b2_.cell (p:=⟨w.heap.size,0,none⟩) (ahv c10)).trans c10;have cv20:=hcg.out w2 w.heap.size c20)
       try (have c21:=(b2_.cell (p:=⟨w1.heap.size,0,none⟩) (by simp)).trans (ahu w1 _ _);have cv21:=hcg.out w2 w1.heap.size c21)
       clear b2_)
    | (go_at_call 103;(first|with_reducible refine(HW'.out _ M2.out).mono ?_|with_reducible refine(HW'.out _ (hal.out _ _ _ M2.out)).mono ?_);rintro e w3 ⟨rfl,m3,o3⟩
       have M3:=qz m3;have O3:Hid (Only m w w3):=(by first|with_reducible exact qz (O2.out.trans o3)|with_reducible exact qz ((O2.out.alloc _).trans o3))
       try (have c30:=(o3.cell (p:=⟨w.heap.size,0,none⟩) (ahv c20) (by show w.heap.size≠m;omega)).trans c20;have cv30:=hcg.out w3 w.heap.size c30)
       try (have c31:=(o3.cell (p:=⟨w1.heap.size,0,none⟩) (ahv c21) (by show w1.heap.size≠m;omega)).trans c21;have cv31:=hcg.out w3 w1.heap.size c31)
       try (have c32:=(o3.cell (p:=⟨w2.heap.size,0,none⟩) (by simp) (by show w2.heap.size≠m;omega)).trans (ahu w2 _ _);have cv32:=hcg.out w3 w2.heap.size c32)
       clear m3 o3)
    | fail)
  all_goals go_wp2_with fail
  all_goals go_ret
  all_goals first|exact⟨rfl,M3.out,O3.out⟩|exact⟨rfl,hal.out _ _ _ M3.out,O3.out.alloc _⟩
end Go.Proofs.YtalegefnppbkdaaGreat.T1
