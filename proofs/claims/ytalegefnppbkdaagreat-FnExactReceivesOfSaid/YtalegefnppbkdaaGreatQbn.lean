/- Texts of the proof. No conditions. -/
import Derived.Test.YtalegefnppbkdaaGreatQbm
namespace Go.Proofs.YtalegefnppbkdaaGreat.T1
open Go.Proofs.Tryz
set_option maxHeartbeats 4000000
open Go.RowKit
set_option maxRecDepth 100000
set_option linter.unusedVariables false
set_option linter.unusedSimpArgs false
def MkAt (w:World)(m:Nat)(br once:Bool):Prop:=w.heap[m]?=some (.cells #[.bool br,.bool once] 116 (0,0))
theorem MkAt.c0 {w:World}{m:Nat}{br once:Bool}(h:MkAt w m br once):w.cell? ⟨m,0,none⟩=some (.bool br):=by unfold MkAt at h;simp[World.cell?,h]
theorem MkAt.c1 {w:World}{m:Nat}{br once:Bool}(h:MkAt w m br once):w.cell? ⟨m,1,none⟩=some (.bool once):=by unfold MkAt at h;simp[World.cell?,h]
theorem MkAt.f0 {w:World}{m:Nat}{br once:Bool}(h:MkAt w m br once):w.frozen? ⟨m,0,none⟩=false:=by unfold MkAt at h;simp[World.frozen?,h]
theorem MkAt.lt {w:World}{m:Nat}{br once:Bool}(h:MkAt w m br once):m<w.heap.size:=lt_of_block h
theorem MkAt.below {w w':World}{m:Nat}{br once:Bool}(h:MkAt w m br once)(k:Zb w w'):MkAt w' m br once:=(k.block m h.lt).trans h
theorem MkAt.set0 {w:World}{m:Nat}{br once:Bool}(h:MkAt w m br once)(u:Bool):MkAt (w.setCell ⟨m,0,none⟩ (.bool u)) m u once:=by
 have hlt:=h.lt;unfold MkAt at h ⊢;have h':w.heap[m]=.cells #[.bool br,.bool once] 116 (0,0):=by simpa [Array.getElem?_eq_getElem hlt] using h
 show (w.heap.modify m _)[m]?=_;rw[Array.getElem?_eq_getElem (by simpa using hlt),Array.getElem_modify_self,h'];rfl
def MkP (m:Nat)(br once:Bool)(R:ByteArray)(b1:Bool)(w:World)(e:Ending)(w':World):Prop:=
 e=.returned (.string R)/\MkAt w' m (br || b1) once/\Only m w w'
theorem arY (X K R:ByteArray)(k:Int)(hk:((k==33)=true)\/((k==33)=false/\(k==126)=true))(h:Nat)(hh:h<=X.size)(hX:X.size<=700)(hR:R.size<=1000)(m:Nat)(br once b1:Bool) (HK:Ze 71 #[.string X] (.int .u8 k)) (HH:Ze 97 #[.string X] (.int .i64 (h:Int))) (HW:∀w,MkAt w m br once->Calls prog 103 #[.pointer (some ⟨m,0,none⟩),.string (X.extract h X.size),.string K] w (MkP m br once R b1 w))(w:World)(hm:MkAt w m br once) : Calls prog 174 #[.pointer (some ⟨m,0,none⟩),.string X,.string K] w (MkP m br once (X.extract 0 h++R) b1 w):=by
 have HK':=qz HK;have HH':=qz HH;have HW':=qz HW;have HM:=qz hm;have q1:(0:Int)<=(h:Int):=by omega
 have q2:(h:Int)<=(X.size:Int):=by omega
 have s1:(X.extract 0 h).size<=700:=by rw[ByteArray.size_extract];omega
 clear HK HH HW hm;rcases hk with hk|⟨hk,hk2⟩
 all_goals
  go_enter func174,ntmps174
  go_wp2_with fail;refine(HK'.out _).mono ?_;rintro e w' ⟨rfl,rfl⟩;go_wp2_with fail
  go_region_with (first
   | (go_at_call 97;(with_reducible refine(HH'.out _).mono ?_);rintro e w' ⟨rfl,rfl⟩)
   | (go_at_call 103;(refine(HW'.out w.drew HM.out).mono ?_);rintro e w2 ⟨rfl,m2,o2⟩;have M2:=qz m2;have O2:=qz o2;clear m2 o2)
   | fail)
  all_goals go_wp2_with fail
  all_goals go_ret
  all_goals exact⟨rfl,M2.out,⟨O2.out.os,O2.out.tape,O2.out.output,O2.out.size,O2.out.block⟩⟩
theorem avV (X K R:ByteArray)(hX:X.size<=700)(h1:1<=X.size)(hR:R.size<=1000)(m:Nat)(br once b1:Bool) (HK:Ze 71 #[.string X] (.int .u8 42)) (HW:∀w,MkAt w m br once->Calls prog 103 #[.pointer (some ⟨m,0,none⟩),.string (X.extract 1 X.size),.string K] w (MkP m br once R b1 w))(w:World)(hm:MkAt w m br once) : Calls prog 174 #[.pointer (some ⟨m,0,none⟩),.string X,.string K] w (MkP m br once (⟨#[42]⟩++R) b1 w):=by
 have HK':=qz HK;have HW':=qz HW;have HM:=qz hm;have q2:(1:Int)<=(X.size:Int):=by omega
 clear HK HW hm
 go_enter func174,ntmps174
 go_wp2_with fail;refine(HK'.out _).mono ?_;rintro e w' ⟨rfl,rfl⟩;go_wp2_with fail;refine(HW'.out _ HM.out).mono ?_;rintro e w2 ⟨rfl,m2,o2⟩;have M2:=qz m2;have O2:=qz o2;clear m2 o2;go_wp2_with fail;go_ret;exact⟨rfl,M2.out,O2.out⟩
theorem avW (X K R:ByteArray)(hX:X.size<=700)(h5:5<=X.size)(hR:R.size<=1000)(m:Nat)(br once b1 sw:Bool)(hsw:Op.bytesLess (X.extract 3 4).toList (X.extract 1 2).toList=sw) (HK:Ze 71 #[.string X] (.int .u8 61)) (HW:∀w,MkAt w m br once->Calls prog 103 #[.pointer (some ⟨m,0,none⟩),.string (X.extract 5 X.size),.string K] w (MkP m br once R b1 w))(w:World)(hm:MkAt w m br once) : Calls prog 174 #[.pointer (some ⟨m,0,none⟩),.string X,.string K] w (MkP m br once ((⟨#[91]⟩:ByteArray)++(if sw then X.extract 3 4 else X.extract 1 2)++⟨#[61]⟩++(if sw then X.extract 1 2 else X.extract 3 4)++⟨#[93]⟩++R) b1 w):=by
 have HK':=qz HK;have HW':=qz HW;have HM:=qz hm;have q1:(5:Int)<=(X.size:Int):=by omega
 have q2:(4:Int)<=(X.size:Int):=by omega
 have q3:(3:Int)<=(X.size:Int):=by omega
 have q4:(2:Int)<=(X.size:Int):=by omega
 have s1:(X.extract 1 2).size<=700:=by rw[ByteArray.size_extract];omega
 have s2:(X.extract 3 4).size<=700:=by rw[ByteArray.size_extract];omega
 clear HK HW hm
 cases sw
 all_goals
  go_enter func174,ntmps174
  go_wp2_with fail;refine(HK'.out _).mono ?_;rintro e w' ⟨rfl,rfl⟩;go_wp2_with fail
  go_region
  all_goals go_wp2_with fail
  all_goals
   refine(HW'.out w.drew HM.out).mono ?_;rintro e w2 ⟨rfl,m2,o2⟩;have M2:=qz m2;have O2:=qz o2;clear m2 o2;go_wp2_with fail;go_ret;exact⟨rfl,M2.out,⟨O2.out.os,O2.out.tape,O2.out.output,O2.out.size,O2.out.block⟩⟩
end Go.Proofs.YtalegefnppbkdaaGreat.T1
