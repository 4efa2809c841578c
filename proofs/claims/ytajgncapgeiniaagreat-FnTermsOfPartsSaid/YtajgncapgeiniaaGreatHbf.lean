/- Texts of the proof, put together: St, Go. No conditions. -/
import Derived.Test.YtajgncapgeiniaaGreatHbd
import Derived.Test.YtajgncapgeiniaaGreatHbe
import Derived.Laws.Rows
import Derived.Deep.DeepCutAuto
import Derived.Deep.RegionWith

/- Slices of texts: compared, marked, and asked for their marks. -/
namespace Go.Proofs.YtajgncapgeiniaaGreat.T1
open Go.RowKit
set_option maxRecDepth 100000
set_option linter.unusedVariables false
set_option linter.unusedSimpArgs false

/-- A slice of texts. -/
structure SRow (w : World) (v : Value) (g : Nat) (xs : List ByteArray) : Prop where
  ex : ∃ a c, v = .slice a xs.length c ∧ (xs ≠ [] → a = some ⟨g, 0, none⟩ ∧ ∃ C, w.heap[g]? = some (.cells C 9 (0, 0)) ∧ ∀ j (h : j < xs.length), C[j]? = some (.string xs[j]))
theorem SRow.below {w w' : World} {v : Value} {g : Nat} {xs : List ByteArray} (h : SRow w v g xs) (k : Below w.heap.size w w') : SRow w' v g xs := by
  obtain ⟨a, c, h1, h2⟩ := h.ex
  refine ⟨a, c, h1, fun hne => ?_⟩
  obtain ⟨h3, C, h4, h5⟩ := h2 hne
  exact ⟨h3, C, (k.block g (lt_of_block h4)).trans h4, h5⟩
theorem SRow.only {w w' : World} {v : Value} {g b : Nat} {xs : List ByteArray} (h : SRow w v g xs) (k : Only b w w') (hb : xs ≠ [] → g ≠ b) : SRow w' v g xs := by
  obtain ⟨a, c, h1, h2⟩ := h.ex
  refine ⟨a, c, h1, fun hne => ?_⟩
  obtain ⟨h3, C, h4, h5⟩ := h2 hne
  exact ⟨h3, C, (k.block g (lt_of_block h4) (hb hne)).trans h4, h5⟩
theorem SRow.lt {w : World} {v : Value} {g : Nat} {xs : List ByteArray} (h : SRow w v g xs) (hne : xs ≠ []) : g < w.heap.size := by
  obtain ⟨a, c, h1, h2⟩ := h.ex
  obtain ⟨h3, C, h4, h5⟩ := h2 hne
  exact lt_of_block h4
theorem w_ne (x : ByteArray) : (x.toList != x.toList) = false := by simp

end Go.Proofs.YtajgncapgeiniaaGreat.T1

/- Two rows of the same texts are told the same; inputs that are too big. No conditions. -/
namespace Go.Proofs.YtajgncapgeiniaaGreat.T1
open Go.RowKit
set_option maxRecDepth 100000
set_option linter.unusedVariables false
set_option linter.unusedSimpArgs false

set_option maxHeartbeats 1000000 in
theorem ot_0 (a1 a2 : Option Addr) (c1 c2 : Nat) (w : World) : Calls Tryz.prog 15 #[.slice a1 0 c1, .slice a2 0 c2] w fun e w' => e = .returned (.bool true) ∧ Below w.heap.size w w' := by
  go_enter Tryz.func15, Tryz.ntmps15
  go_wp2_with fail
  refine wp_loop_rounds 1 ?_
  rw [rounds_succ]
  go_wp2_with fail
  go_ret
  exact ⟨rfl, Below.refl _ _⟩
set_option maxHeartbeats 2000000 in
theorem ot_n (g1 g2 n c1 c2 : Nat) (C1 C2 : Array Value) (xs : List ByteArray) (hn : n = xs.length) (hnn : n ≤ 100000) (hx1 : ∀ j (h : j < xs.length), C1[j]? = some (.string xs[j])) (hx2 : ∀ j (h : j < xs.length), C2[j]? = some (.string xs[j])) (w : World) (h1 : w.heap[g1]? = some (.cells C1 9 (0, 0))) (h2 : w.heap[g2]? = some (.cells C2 9 (0, 0))) :
    Calls Tryz.prog 15 #[.slice (some ⟨g1, 0, none⟩) n c1, .slice (some ⟨g2, 0, none⟩) n c2] w fun e w' => e = .returned (.bool true) ∧ Below w.heap.size w w' := by
  have HX1 := Lib.hid hx1
  have HX2 := Lib.hid hx2
  have H1 := Lib.hid h1
  have H2 := Lib.hid h2
  have HN := Lib.hid hn
  clear hx1 hx2 h1 h2 hn
  go_enter Tryz.func15, Tryz.ntmps15
  go_wp2_with fail
  go_loopw [13] (fun v wr => ∃ i : Nat, i ≤ n ∧ v = .int .i64 (i : Int) ∧ Below w.heap.size w wr) (fun v _ => n - (intOf v).toNat)
  case atStart => exact ⟨0, Nat.zero_le _, rfl, Below.refl _ _⟩
  case round =>
    obtain ⟨i, hi, rfl, hbw⟩ := hrel
    by_cases hlt : i < n
    · have hlt2 : i < xs.length := by have := HN.out; omega
      have r1 := (hbw.block g1 (lt_of_block H1.out)).trans H1.out
      have r2 := (hbw.block g2 (lt_of_block H2.out)).trans H2.out
      have c1 : wr.cell? ⟨g1, i, none⟩ = some (.string (xs[i]'hlt2)) := by rw [cell_of_row wr g1 i C1 _ _ r1]; exact HX1.out i hlt2
      have c2 : wr.cell? ⟨g2, i, none⟩ = some (.string (xs[i]'hlt2)) := by rw [cell_of_row wr g2 i C2 _ _ r2]; exact HX2.out i hlt2
      obtain ⟨x, hx⟩ : ∃ x, x = xs[i]'hlt2 := ⟨_, rfl⟩
      rw [← hx] at c1 c2
      have hw := w_ne x
      have hlti : (i : Int) < (n : Int) := by omega
      clear hx r1 r2
      go_wp2_with fail
      go_quiet (fail)
      go_wp2_with fail
      go_roundw
      case rel => exact ⟨i + 1, by omega, by go_num, below_drewN' hbw _⟩
      case measure => simp [intOf]; omega
    · obtain rfl : i = n := by omega
      go_wp2_with fail
      go_ret
      exact ⟨rfl, hbw⟩
theorem ot_any (w : World) (v1 v2 : Value) (g1 g2 : Nat) (xs : List ByteArray) (hl : xs.length ≤ 100000) (h1 : SRow w v1 g1 xs) (h2 : SRow w v2 g2 xs) : Calls Tryz.prog 15 #[v1, v2] w fun e w' => e = .returned (.bool true) ∧ Below w.heap.size w w' := by
  obtain ⟨a1, c1, rfl, h3⟩ := h1.ex
  obtain ⟨a2, c2, rfl, h4⟩ := h2.ex
  cases xs with
  | nil => exact ot_0 _ _ _ _ w
  | cons x xs =>
    obtain ⟨rfl, C1, h5, h6⟩ := h3 (by simp)
    obtain ⟨rfl, C2, h7, h8⟩ := h4 (by simp)
    exact ot_n g1 g2 _ _ _ C1 C2 (x :: xs) rfl hl h6 h8 w h5 h7


def isBig (n m : Nat) : Bool := decide (1048576 < n) || decide (1048576 - (n : Int) < (m : Int))
set_option maxHeartbeats 1000000 in
theorem big_any (a0 a1 : Option Addr) (n0 c0 n1 c1 : Nat) (h0 : n0 ≤ 140737488351232) (h1 : n1 ≤ 140737488351232) (w : World) : Calls Tryz.prog 5 #[.slice a0 n0 c0, .slice a1 n1 c1] w fun e w' => e = .returned (.bool (isBig n0 n1)) ∧ w = w' := by
  have hw : IntKind.i64.wrap (1048576 - (n0 : Int)) = 1048576 - (n0 : Int) := by rw [IntKind.wrap_i64] <;> omega
  by_cases h : 1048576 < n0
  · have e : isBig n0 n1 = true := by unfold isBig; simp [h]
    rw [e]
    have d : decide (1048576 < (n0 : Int)) = true := by simp; omega
    go_enter Tryz.func5, Tryz.ntmps5
    go_wp2_with fail
    go_ret
    exact ⟨rfl, rfl⟩
  · have d : decide (1048576 < (n0 : Int)) = false := by simp; omega
    have e : isBig n0 n1 = decide (1048576 - (n0 : Int) < (n1 : Int)) := by unfold isBig; simp [h]
    rw [e]
    by_cases h2 : 1048576 - (n0 : Int) < (n1 : Int)
    · have d2 : decide (1048576 - (n0 : Int) < (n1 : Int)) = true := decide_eq_true h2
      rw [d2]
      go_enter Tryz.func5, Tryz.ntmps5
      go_wp2_with fail
      go_ret
      exact ⟨rfl, rfl⟩
    · have d2 : decide (1048576 - (n0 : Int) < (n1 : Int)) = false := decide_eq_false h2
      rw [d2]
      go_enter Tryz.func5, Tryz.ntmps5
      go_wp2_with fail
      go_ret
      exact ⟨rfl, rfl⟩
end Go.Proofs.YtajgncapgeiniaaGreat.T1
