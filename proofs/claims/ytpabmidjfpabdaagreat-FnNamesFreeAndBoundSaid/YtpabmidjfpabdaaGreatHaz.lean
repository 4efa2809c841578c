/- Texts of the proof, put together: Tx, Ls, CFreeNames. No conditions. -/
import Derived.Test.YtpabmidjfpabdaaGreatHau
import Derived.Test.YtpabmidjfpabdaaGreatHay
import Derived.Laws.IdiomStrings
import Derived.Test.YtpabmidjfpabdaaGreatProg
import Derived.WalkKit
import Derived.ProofKit
import Derived.OpenShut
import Derived.ShutString
import Derived.ChangeOld
import Derived.Below

/- The text of a tree. -/
namespace Go.Proofs.YtpabmidjfpabdaaGreat.T1
open Go.RowKit
set_option maxRecDepth 100000

theorem add0 (g j : Nat) : (⟨g, 0, none⟩ : Addr).add j = ⟨g, j, none⟩ := by
  unfold Addr.add
  split
  · rename_i h; rw [h]
  · rw [Nat.zero_add]
theorem conv_row {w : World} {base n : Nat} {v : Value} (l : List UInt8) (hn : n = l.length) (hne : 0 < l.length) (h : w.ownsRow base 5 1 v n (l.map ub)) :
    (convert 22 9 v).run Tryz.prog w = .ok (.string ⟨l.toArray⟩) w := by
  subst hn
  rcases h.2 with ⟨_, h0⟩ | ⟨g, cap, cur, rfl, _⟩
  · omega
  · refine run_convert_bytes_back w 22 9 5 ⟨g, 0, none⟩ cap l Tryz.underlying22 Tryz.underlying5 Tryz.underlying9 fun j hj => ?_
    rw [add0, h.cellAt j (by omega)]
    simp [ub, hj]

set_option maxHeartbeats 1000000 in
theorem textOf_any (t : Tm) (hl : t.pr.length ≤ 900) (w : World) : Calls Tryz.prog 36 #[.iface (tyOf t) (pay t)] w fun e w' => e = .returned (.string (S t)) ∧ Below w.heap.size w w' := by
  have HW := write_any t w.heap.size 0 [] (.slice none 0 0) w (World.ownsRow_nil _ _ _ _) (by omega) (Nat.le_refl _)
  have hpos := pr_pos t
  have HC : Hid (∀ (w : World) (v : Value), w.ownsRow w.heap.size 5 1 v (0 + t.pr.length) ([] ++ t.pr.map ub) → True) := fun _ _ _ => trivial
  have HV : Hid (∀ (w1 : World) (b : Nat) (v : Value), w1.ownsRow b 5 1 v (0 + t.pr.length) ([] ++ t.pr.map ub) → (convert 22 9 v).run Tryz.prog w1 = .ok (.string (S t)) w1) := fun w1 b v h =>
    conv_row t.pr (by omega) hpos h
  clear HC
  obtain ⟨T, hT⟩ : ∃ T, T = tyOf t := ⟨_, rfl⟩
  obtain ⟨V, hV⟩ : ∃ V, V = pay t := ⟨_, rfl⟩
  obtain ⟨X, hX⟩ : ∃ X, X = S t := ⟨_, rfl⟩
  rw [← hT, ← hV] at HW
  rw [← hX] at HV
  rw [← hT, ← hV, ← hX]
  have H := Lib.hid HW
  clear hT hV hX HW hpos
  go_enter Tryz.func36, Tryz.ntmps36
  go_wp2_with fail
  refine (H.out).mono ?_
  rintro e w1 ⟨v1, rfl, ho, k1⟩
  have hcv := HV.out w1 _ v1 ho
  clear ho
  go_wp2_with fail
  go_ret
  exact ⟨rfl, k1.below⟩

end Go.Proofs.YtpabmidjfpabdaaGreat.T1

/- A set of letters as a text. -/
namespace Go.Proofs.YtpabmidjfpabdaaGreat.T1
open Go.RowKit
set_option maxRecDepth 100000
theorem conv_nil (w : World) : (convert 22 9 (.slice none 0 0)).run Tryz.prog w = .ok (.string ⟨#[]⟩) w := by kernel_rfl
theorem conv_rowE {w : World} {base n : Nat} {v : Value} (l : List UInt8) (hn : n = l.length) (h : w.ownsRow base 5 1 v n (l.map ub)) :
    (convert 22 9 v).run Tryz.prog w = .ok (.string (B l)) w := by
  cases l with
  | nil =>
    subst hn
    rcases h.2 with ⟨rfl, _⟩ | ⟨g, cap, cur, rfl, _⟩
    · exact conv_nil w
    · exact run_convert_bytes_back w 22 9 5 ⟨g, 0, none⟩ cap [] Tryz.underlying22 Tryz.underlying5 Tryz.underlying9 fun j hj => by simp at hj
  | cons c l => exact conv_row (c :: l) hn (by simp) h
theorem lets_setN (l : List UInt8) (hs : Srt l) (hl : Lets l) : lets (setN l) 26 = l := by
  refine srt_ext ?_ hs fun x => ?_
  · unfold lets Srt
    rw [List.pairwise_map]
    refine List.Pairwise.imp_of_mem ?_ (List.Pairwise.filter _ List.pairwise_lt_range)
    intro a b ha hb hab
    have ha' := (List.mem_filter.1 ha).1
    have hb' := (List.mem_filter.1 hb).1
    rw [List.mem_range] at ha' hb'
    rw [u8_lt, UInt8.toNat_ofNat', UInt8.toNat_ofNat']; omega
  · unfold lets
    rw [List.mem_map]
    constructor
    · rintro ⟨i, hi, rfl⟩
      obtain ⟨h1, h2⟩ := List.mem_filter.1 hi
      rw [List.mem_range] at h1
      obtain ⟨d, hd, e⟩ := (setN_bit l hl i).1 h2
      rw [show UInt8.ofNat (97 + i) = d from u8_ext (by rw [UInt8.toNat_ofNat']; omega)]
      exact hd
    · intro hx
      have := hl x hx
      refine ⟨x.toNat - 97, List.mem_filter.2 ⟨List.mem_range.2 (by omega), (setN_bit l hl _).2 ⟨x, hx, by omega⟩⟩, u8_ext ?_⟩
      rw [UInt8.toNat_ofNat']; omega

end Go.Proofs.YtpabmidjfpabdaaGreat.T1

/- What FreeNames answers on both sides. No conditions. -/
namespace Go.Proofs.YtpabmidjfpabdaaGreat
namespace LawFreeNames
open Go.ChangeShapes Go.WideShapes Go.ChangeAt Go.RowKit Go.Proofs.YtpabmidjfpabdaaGreat.T1
open Go.ChangeMaps (open_string shut_string)
set_option linter.unusedVariables false

theorem spec_none (s : ByteArray) (hg : good s.data.toList = none) (hm : s.size ≤ 9223372036854775807) (w : World) : Calls Tryz.prog 13 #[.string s] w fun e w' => e = .returned (.tuple #[.string ⟨#[]⟩, .bool false]) ∧ Below w.heap.size w w' := by
  have H := Lib.hid (tmGood_none hg w hm)
  clear hg
  go_enter Tryz.func13, Tryz.ntmps13
  go_wp2_with fail
  refine (H.out).mono ?_
  rintro e w1 ⟨rfl, bl⟩
  go_wp2_with fail
  go_ret2
  exact ⟨rfl, bl⟩
theorem impl_none (s : ByteArray) (hg : good s.data.toList = none) (hm : s.size ≤ 9223372036854775807) (w : World) : Calls Tryz.prog 8 #[.string s] w fun e w' => e = .returned (.tuple #[.string ⟨#[]⟩, .bool false]) ∧ Below w.heap.size w w' := by
  have H := Lib.hid (parse_none hg w hm)
  clear hg
  go_enter Tryz.func8, Tryz.ntmps8
  go_wp2_with fail
  refine (H.out).mono ?_
  rintro e w1 ⟨rfl, bl⟩
  go_wp2_with fail
  go_ret2
  exact ⟨rfl, bl⟩
set_option maxHeartbeats 1000000 in
theorem spec_some (s : ByteArray) (t : Tm) (hg : good s.data.toList = some t) (hm : s.size ≤ 9223372036854775807) (w : World) : Calls Tryz.prog 13 #[.string s] w fun e w' => e = .returned (.tuple #[.string (B (t.free)), .bool true]) ∧ Below w.heap.size w w' := by
  have H := Lib.hid (tmGood_some hg w hm)
  obtain ⟨es, hL, hE, h300, h60⟩ := good_S hg
  have HS := tmFree_any t hE (by omega)
  rw [← es] at HS
  obtain ⟨N, hN⟩ : ∃ N, N = B (t.free) := ⟨_, rfl⟩
  rw [← hN] at HS ⊢
  have H2 := Lib.hid HS
  clear hg es hL hE h300 h60 HS hN
  go_enter Tryz.func13, Tryz.ntmps13
  go_wp2_with fail
  refine (H.out).mono ?_
  rintro e w1 ⟨rfl, bl⟩
  go_wp2_with fail
  refine (H2.out _).mono ?_
  rintro e w2 ⟨rfl, b2⟩
  go_wp2_with fail
  go_ret2
  exact ⟨rfl, below_trans bl b2 bl.size⟩

set_option maxHeartbeats 1000000 in
theorem impl_some (s : ByteArray) (t : Tm) (hg : good s.data.toList = some t) (hm : s.size ≤ 9223372036854775807) (w : World) : Calls Tryz.prog 8 #[.string s] w fun e w' => e = .returned (.tuple #[.string (B (t.free)), .bool true]) ∧ Below w.heap.size w w' := by
  have H := Lib.hid (parse_some hg w hm)
  obtain ⟨es, hL, hE, h300, h60⟩ := good_S hg
  have HS := freeNames_any t hL
  have HL := letters_any (setN (t.free)) (setN_lt32 _ (lets_free t hL))
  rw [lets_setN _ (srt_free t) (lets_free t hL)] at HL
  have HV : Hid (∀ (w1 : World) (b n : Nat) (v : Value), n = (t.free).length → w1.ownsRow b 5 1 v n ((t.free).map ub) → (convert 22 9 v).run Tryz.prog w1 = .ok (.string (B (t.free))) w1) := fun w1 b n v hn h => conv_rowE _ hn h
  obtain ⟨T, hT⟩ : ∃ T, T = tyOf t := ⟨_, rfl⟩
  obtain ⟨V, hV⟩ : ∃ V, V = pay t := ⟨_, rfl⟩
  obtain ⟨L, hLL⟩ : ∃ L, L = t.free := ⟨_, rfl⟩
  obtain ⟨N, hN⟩ : ∃ N, N = setN L := ⟨_, rfl⟩
  rw [← hT, ← hV] at H HS
  rw [← hLL] at HL HV HS ⊢
  rw [← hN] at HL HS
  obtain ⟨X, hX⟩ : ∃ X, X = B L := ⟨_, rfl⟩
  rw [← hX] at HV ⊢
  have H2 := Lib.hid HS
  have H3 := Lib.hid HL
  clear hg es hL hE h300 h60 HS HL hT hV hLL hN hX
  go_enter Tryz.func8, Tryz.ntmps8
  go_wp2_with fail
  refine (H.out).mono ?_
  rintro e w1 ⟨rfl, bl⟩
  go_wp2_with fail
  refine (H2.out _).mono ?_
  rintro e w2 ⟨rfl, b2⟩
  have bl2 := below_trans bl b2 bl.size
  go_wp2_with fail
  refine (H3.out _).mono ?_
  rintro e w3 ⟨v3, rfl, ho, b3⟩
  have bl3 := below_trans bl2 b3 bl2.size
  have hcv := HV.out w3 _ _ v3 rfl ho
  clear ho
  go_wp2_with fail
  go_ret2
  exact ⟨rfl, bl3⟩
end LawFreeNames
end Go.Proofs.YtpabmidjfpabdaaGreat
