/- Texts of the proof, put together: Tx, Ls. No conditions. -/
import Derived.Test.YtinkioodkgccjaaDoorHau
import Derived.Test.YtinkioodkgccjaaDoorHay
import Derived.Laws.IdiomStrings

/- The text of a tree. -/
namespace Go.Proofs.YtinkioodkgccjaaDoor.T1
open Go.RowKit
set_option maxRecDepth 100000

theorem add0 (g j : Nat) : (⟨g, 0, none⟩ : Addr).add j = ⟨g, j, none⟩ := by
  unfold Addr.add
  split
  · rename_i h; rw [h]
  · rw [Nat.zero_add]
theorem conv_row {w : World} {base n : Nat} {v : Value} (l : List UInt8) (hn : n = l.length) (hne : 0 < l.length) (h : w.ownsRow base 5 1 v n (l.map ub)) :
    (convert 33 9 v).run Tryd.prog w = .ok (.string ⟨l.toArray⟩) w := by
  subst hn
  rcases h.2 with ⟨_, h0⟩ | ⟨g, cap, cur, rfl, _⟩
  · omega
  · refine run_convert_bytes_back w 33 9 5 ⟨g, 0, none⟩ cap l Tryd.underlying33 Tryd.underlying5 Tryd.underlying9 fun j hj => ?_
    rw [add0, h.cellAt j (by omega)]
    simp [ub, hj]

set_option maxHeartbeats 1000000 in
theorem textOf_any (t : Tm) (hl : t.pr.length ≤ 900) (w : World) : Calls Tryd.prog 53 #[.iface (tyOf t) (pay t)] w fun e w' => e = .returned (.string (S t)) ∧ Below w.heap.size w w' := by
  have HW := write_any t w.heap.size 0 [] (.slice none 0 0) w (World.ownsRow_nil _ _ _ _) (by omega) (Nat.le_refl _)
  have hpos := pr_pos t
  have HC : Hid (∀ (w : World) (v : Value), w.ownsRow w.heap.size 5 1 v (0 + t.pr.length) ([] ++ t.pr.map ub) → True) := fun _ _ _ => trivial
  have HV : Hid (∀ (w1 : World) (b : Nat) (v : Value), w1.ownsRow b 5 1 v (0 + t.pr.length) ([] ++ t.pr.map ub) → (convert 33 9 v).run Tryd.prog w1 = .ok (.string (S t)) w1) := fun w1 b v h =>
    conv_row t.pr (by omega) hpos h
  clear HC
  obtain ⟨T, hT⟩ : ∃ T, T = tyOf t := ⟨_, rfl⟩
  obtain ⟨V, hV⟩ : ∃ V, V = pay t := ⟨_, rfl⟩
  obtain ⟨X, hX⟩ : ∃ X, X = S t := ⟨_, rfl⟩
  rw [← hT, ← hV] at HW
  rw [← hX] at HV
  rw [← hT, ← hV, ← hX]
  have H := Lib.hid HW
  clear hT hV hX HW hpos
  go_enter Tryd.func53, Tryd.ntmps53
  go_wp2_with fail
  refine (H.out).mono ?_
  rintro e w1 ⟨v1, rfl, ho, k1⟩
  have hcv := HV.out w1 _ v1 ho
  clear ho
  go_wp2_with fail
  go_ret
  exact ⟨rfl, k1.below⟩

end Go.Proofs.YtinkioodkgccjaaDoor.T1

/- A set of letters as a text. -/
namespace Go.Proofs.YtinkioodkgccjaaDoor.T1
open Go.RowKit
set_option maxRecDepth 100000
theorem lets_setN (l : List UInt8) (hs : Srt l) (hl : Lets l) : lets (setN l) 26 = l := by
  refine srt_ext ?_ hs fun x => ?_
  · unfold lets Srt
    rw [List.pairwise_map]
    refine List.Pairwise.imp_of_mem ?_ (List.Pairwise.filter _ List.pairwise_lt_range)
    intro a b ha hb hab
    have ha' := (List.mem_filter.1 ha).1
    have hb' := (List.mem_filter.1 hb).1
    rw [List.mem_range] at ha' hb'
    rw [u8_lt, UInt8.toNat_ofNat', UInt8.toNat_ofNat']; omega
  · unfold lets
    rw [List.mem_map]
    constructor
    · rintro ⟨i, hi, rfl⟩
      obtain ⟨h1, h2⟩ := List.mem_filter.1 hi
      rw [List.mem_range] at h1
      obtain ⟨d, hd, e⟩ := (setN_bit l hl i).1 h2
      rw [show UInt8.ofNat (97 + i) = d from u8_ext (by rw [UInt8.toNat_ofNat']; omega)]
      exact hd
    · intro hx
      have := hl x hx
      refine ⟨x.toNat - 97, List.mem_filter.2 ⟨List.mem_range.2 (by omega), (setN_bit l hl _).2 ⟨x, hx, by omega⟩⟩, u8_ext ?_⟩
      rw [UInt8.toNat_ofNat']; omega

end Go.Proofs.YtinkioodkgccjaaDoor.T1
