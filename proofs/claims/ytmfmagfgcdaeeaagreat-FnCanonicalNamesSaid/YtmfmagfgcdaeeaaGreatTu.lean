/- Great inputs: laws.big (as in XGo, for seats without texts' lists). No conditions. -/
import Derived.Test.YtmfmagfgcdaeeaaGreatHav
namespace Go.Proofs.YtmfmagfgcdaeeaaGreat.T1
open Go.RowKit
set_option maxRecDepth 100000
set_option linter.unusedVariables false
set_option linter.unusedSimpArgs false

def isBig (n m : Nat) : Bool := decide (1048576 < n) || decide (1048576 - (n : Int) < (m : Int))
set_option maxHeartbeats 1000000 in
theorem big_any (a0 a1 : Option Addr) (n0 c0 n1 c1 : Nat) (h0 : n0 ≤ 140737488351232) (h1 : n1 ≤ 140737488351232) (w : World) : Calls Tryz.prog 7 #[.slice a0 n0 c0, .slice a1 n1 c1] w fun e w' => e = .returned (.bool (isBig n0 n1)) ∧ w = w' := by
  have hw : IntKind.i64.wrap (1048576 - (n0 : Int)) = 1048576 - (n0 : Int) := by rw [IntKind.wrap_i64] <;> omega
  by_cases h : 1048576 < n0
  · have e : isBig n0 n1 = true := by unfold isBig; simp [h]
    rw [e]
    have d : decide (1048576 < (n0 : Int)) = true := by simp; omega
    go_enter Tryz.func7, Tryz.ntmps7
    go_wp2_with fail
    go_ret
    exact ⟨rfl, rfl⟩
  · have d : decide (1048576 < (n0 : Int)) = false := by simp; omega
    have e : isBig n0 n1 = decide (1048576 - (n0 : Int) < (n1 : Int)) := by unfold isBig; simp [h]
    rw [e]
    by_cases h2 : 1048576 - (n0 : Int) < (n1 : Int)
    · have d2 : decide (1048576 - (n0 : Int) < (n1 : Int)) = true := decide_eq_true h2
      rw [d2]
      go_enter Tryz.func7, Tryz.ntmps7
      go_wp2_with fail
      go_ret
      exact ⟨rfl, rfl⟩
    · have d2 : decide (1048576 - (n0 : Int) < (n1 : Int)) = false := decide_eq_false h2
      rw [d2]
      go_enter Tryz.func7, Tryz.ntmps7
      go_wp2_with fail
      go_ret
      exact ⟨rfl, rfl⟩
end Go.Proofs.YtmfmagfgcdaeeaaGreat.T1
