/- Texts of the proof, put together: Rq. No conditions. -/
import Derived.Test.YtinkioodkgccjaaDoorHac
import Derived.Test.YtinkioodkgccjaaDoorHat
import Derived.Test.YtinkioodkgccjaaDoorHaz
import Derived.Test.YtinkioodkgccjaaDoorHba

/- Another process in place of the subterm at a path, in the program. -/
namespace Go.Proofs.YtinkioodkgccjaaDoor.T1
open Go.RowKit
set_option maxRecDepth 100000
set_option linter.unusedVariables false

set_option maxHeartbeats 1000000 in
theorem processText_any (t : Tm) (hl : t.pr.length ≤ 900) (ht : t.size ≤ 1000) (w : World) : Calls Tryd.prog 33 #[.iface (tyOf t) (pay t)] w fun e w' => ((t.pr.length ≤ 300 ∧ t.size ≤ 60 ∧ e = .returned (.tuple #[.string (S t), .bool true])) ∨ (¬ (t.pr.length ≤ 300 ∧ t.size ≤ 60) ∧ e = .returned (.tuple #[.string ⟨#[]⟩, .bool false]))) ∧ Below w.heap.size w w' := by
  have hT := textOf_any t hl
  have hZ := size_any t ht
  obtain ⟨T, hT1⟩ : ∃ T, T = tyOf t := ⟨_, rfl⟩
  obtain ⟨V, hV1⟩ : ∃ V, V = pay t := ⟨_, rfl⟩
  obtain ⟨X, hX⟩ : ∃ X, X = S t := ⟨_, rfl⟩
  obtain ⟨N, hN⟩ : ∃ N, N = t.size := ⟨_, rfl⟩
  have hXs : X.size = t.pr.length := by rw [hX, S_size]
  obtain ⟨L, hL⟩ : ∃ L, L = t.pr.length := ⟨_, rfl⟩
  rw [← hT1, ← hV1, ← hX] at hT
  rw [← hT1, ← hV1, ← hN] at hZ
  rw [← hL] at hXs ⊢
  rw [← hT1, ← hV1, ← hX, ← hN]
  have H1 := Lib.hid hT
  have H2 := Lib.hid hZ
  clear hT hZ hT1 hV1 hX hN hL hl ht
  by_cases g1 : 300 < L
  · have g1' : 300 < X.size := by omega
    go_enter Tryd.func33, Tryd.ntmps33
    go_wp2_with fail
    refine (H1.out _).mono ?_
    rintro e w1 ⟨rfl, b1⟩
    go_wp2_with fail
    go_ret2
    exact ⟨.inr ⟨fun h => by omega, rfl⟩, b1⟩
  · have g1' : ¬ 300 < X.size := by omega
    by_cases g2 : (60 : Int) < (N : Int)
    · go_enter Tryd.func33, Tryd.ntmps33
      go_wp2_with fail
      refine (H1.out _).mono ?_
      rintro e w1 ⟨rfl, b1⟩
      go_wp2_with fail
      refine (H2.out _).mono ?_
      rintro e w2 ⟨rfl, b2⟩
      go_wp2_with fail
      go_ret2
      exact ⟨.inr ⟨fun h => by omega, rfl⟩, below_trans b1 b2 b1.size⟩
    · go_enter Tryd.func33, Tryd.ntmps33
      go_wp2_with fail
      refine (H1.out _).mono ?_
      rintro e w1 ⟨rfl, b1⟩
      go_wp2_with fail
      refine (H2.out _).mono ?_
      rintro e w2 ⟨rfl, b2⟩
      go_wp2_with fail
      go_ret2
      exact ⟨.inl ⟨by omega, by omega, rfl⟩, below_trans b1 b2 b1.size⟩

end Go.Proofs.YtinkioodkgccjaaDoor.T1
