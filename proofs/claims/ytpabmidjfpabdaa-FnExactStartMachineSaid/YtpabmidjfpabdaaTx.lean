/- The text of a tree. -/
import Derived.Test.YtpabmidjfpabdaaWr
import Derived.Laws.IdiomStrings
namespace Go.Proofs.Ytpabmidjfpabdaa.T1
open Go.RowKit
set_option maxRecDepth 100000

theorem add0 (g j : Nat) : (⟨g, 0, none⟩ : Addr).add j = ⟨g, j, none⟩ := by
  unfold Addr.add
  split
  · rename_i h; rw [h]
  · rw [Nat.zero_add]
theorem conv_row {w : World} {base n : Nat} {v : Value} (l : List UInt8) (hn : n = l.length) (hne : 0 < l.length) (h : w.ownsRow base 5 1 v n (l.map ub)) :
    (convert 45 9 v).run Try.prog w = .ok (.string ⟨l.toArray⟩) w := by
  subst hn
  rcases h.2 with ⟨_, h0⟩ | ⟨g, cap, cur, rfl, _⟩
  · omega
  · refine run_convert_bytes_back w 45 9 5 ⟨g, 0, none⟩ cap l Try.underlying45 Try.underlying5 Try.underlying9 fun j hj => ?_
    rw [add0, h.cellAt j (by omega)]
    simp [ub, hj]

set_option maxHeartbeats 1000000 in
theorem textOf_any (t : Tm) (hl : t.pr.length ≤ 900) (w : World) : Calls Try.prog 34 #[.iface (tyOf t) (pay t)] w fun e w' => e = .returned (.string (S t)) ∧ Below w.heap.size w w' := by
  have HW := write_any t w.heap.size 0 [] (.slice none 0 0) w (World.ownsRow_nil _ _ _ _) (by omega) (Nat.le_refl _)
  have hpos := pr_pos t
  have HC : Hid (∀ (w : World) (v : Value), w.ownsRow w.heap.size 5 1 v (0 + t.pr.length) ([] ++ t.pr.map ub) → True) := fun _ _ _ => trivial
  have HV : Hid (∀ (w1 : World) (b : Nat) (v : Value), w1.ownsRow b 5 1 v (0 + t.pr.length) ([] ++ t.pr.map ub) → (convert 45 9 v).run Try.prog w1 = .ok (.string (S t)) w1) := fun w1 b v h =>
    conv_row t.pr (by omega) hpos h
  clear HC
  obtain ⟨T, hT⟩ : ∃ T, T = tyOf t := ⟨_, rfl⟩
  obtain ⟨V, hV⟩ : ∃ V, V = pay t := ⟨_, rfl⟩
  obtain ⟨X, hX⟩ : ∃ X, X = S t := ⟨_, rfl⟩
  rw [← hT, ← hV] at HW
  rw [← hX] at HV
  rw [← hT, ← hV, ← hX]
  have H := Lib.hid HW
  clear hT hV hX HW hpos
  go_enter Try.func34, Try.ntmps34
  go_wp2_with fail
  refine (H.out).mono ?_
  rintro e w1 ⟨v1, rfl, ho, k1⟩
  have hcv := HV.out w1 _ v1 ho
  clear ho
  go_wp2_with fail
  go_ret
  exact ⟨rfl, k1.below⟩

end Go.Proofs.Ytpabmidjfpabdaa.T1
