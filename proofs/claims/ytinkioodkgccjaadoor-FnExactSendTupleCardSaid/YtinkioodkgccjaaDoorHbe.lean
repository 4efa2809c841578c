/- Texts of the proof, put together: Rr, Rx. No conditions. -/
import Derived.Test.YtinkioodkgccjaaDoorHae
import Derived.Test.YtinkioodkgccjaaDoorHaz
import Derived.Test.YtinkioodkgccjaaDoorHbb
import Derived.Test.YtinkioodkgccjaaDoorHbd
import Derived.Deep.DeepCutAuto

/- A free name renamed, with no capture: the ways through the program's function. -/
namespace Go.Proofs.YtinkioodkgccjaaDoor.T1
open Go.RowKit
set_option maxRecDepth 100000
set_option linter.unusedVariables false

end Go.Proofs.YtinkioodkgccjaaDoor.T1

/- A free name renamed, with no capture: in the program, for every process. -/
namespace Go.Proofs.YtinkioodkgccjaaDoor.T1
open Go.RowKit
set_option maxRecDepth 100000
set_option linter.unusedVariables false

theorem flip_oth (l : List UInt8) (h : Lets l) : lets (flip32 (setN l)) 26 = othL l := by
  have h26 : lets (flip32 (setN l)) 26 = ((List.range 26).filter fun i => (flip32 (setN l)).testBit i).map fun i => UInt8.ofNat (97 + i) := rfl
  unfold othL
  rw [h26, List.filter_map]
  congr 1
  refine List.filter_congr fun i hi => ?_
  rw [List.mem_range] at hi
  rw [flip_bit _ i (by omega)]
  show (!(setN l).testBit i) = decide (UInt8.ofNat (97 + i) ∉ l)
  rw [decide_not]
  congr 1
  rw [Bool.eq_iff_iff, decide_eq_true_iff, setN_bit l h]
  exact ⟨fun ⟨c, hc, e⟩ => by rw [show UInt8.ofNat (97 + i) = c from u8_ext (by rw [UInt8.toNat_ofNat']; omega)]; exact hc, fun hc => ⟨_, hc, by rw [UInt8.toNat_ofNat']; omega⟩⟩
theorem others_set (l : List UInt8) (h : Lets l) (w : World) : Calls Tryd.prog 71 #[.int .u32 (setN l : Nat)] w fun e w' => ∃ v, e = .returned v ∧ w'.ownsRow w.heap.size 5 1 v (othL l).length ((othL l).map ub) ∧ Below w.heap.size w w' := by
  have := others_any (setN l) (setN_lt32 l h) w
  rw [flip_oth l h] at this
  exact this
theorem with_set (l : List UInt8) (h : Lets l) (m : UInt8) (hm : nmL m = true) : ∀ w, Calls Tryd.prog 57 #[.int .u32 (setN l : Nat), .int .u8 (m.toNat : Int)] w fun e w' => e = .returned (.int .u32 (setN (addL l m) : Nat)) ∧ w = w' := by
  intro w
  have hm' := (nmL_iff m).1 hm
  rw [setN_addL h hm']
  exact with_any (setN l) m.toNat (setN_lt32 l h) hm'.1 hm'.2 w

end Go.Proofs.YtinkioodkgccjaaDoor.T1
