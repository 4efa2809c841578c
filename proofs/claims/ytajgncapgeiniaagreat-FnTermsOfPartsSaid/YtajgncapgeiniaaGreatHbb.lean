/- Texts of the proof, put together: Tx, CSubtermAt. No conditions. -/
import Derived.Test.YtajgncapgeiniaaGreatHaz
import Derived.Test.YtajgncapgeiniaaGreatHba
import Derived.Laws.IdiomStrings
import Derived.Test.YtajgncapgeiniaaGreatProg
import Derived.WalkKit
import Derived.ProofKit
import Derived.OpenShut
import Derived.ShutString
import Derived.ChangeOld
import Derived.Below

/- The text of a tree. -/
namespace Go.Proofs.YtajgncapgeiniaaGreat.T1
open Go.RowKit
set_option maxRecDepth 100000

theorem add0 (g j : Nat) : (⟨g, 0, none⟩ : Addr).add j = ⟨g, j, none⟩ := by
  unfold Addr.add
  split
  · rename_i h; rw [h]
  · rw [Nat.zero_add]
theorem conv_row {w : World} {base n : Nat} {v : Value} (l : List UInt8) (hn : n = l.length) (hne : 0 < l.length) (h : w.ownsRow base 5 1 v n (l.map ub)) :
    (convert 22 9 v).run Tryz.prog w = .ok (.string ⟨l.toArray⟩) w := by
  subst hn
  rcases h.2 with ⟨_, h0⟩ | ⟨g, cap, cur, rfl, _⟩
  · omega
  · refine run_convert_bytes_back w 22 9 5 ⟨g, 0, none⟩ cap l Tryz.underlying22 Tryz.underlying5 Tryz.underlying9 fun j hj => ?_
    rw [add0, h.cellAt j (by omega)]
    simp [ub, hj]

set_option maxHeartbeats 1000000 in
theorem textOf_any (t : Tm) (hl : t.pr.length ≤ 900) (w : World) : Calls Tryz.prog 60 #[.iface (tyOf t) (pay t)] w fun e w' => e = .returned (.string (S t)) ∧ Below w.heap.size w w' := by
  have HW := write_any t w.heap.size 0 [] (.slice none 0 0) w (World.ownsRow_nil _ _ _ _) (by omega) (Nat.le_refl _)
  have hpos := pr_pos t
  have HC : Hid (∀ (w : World) (v : Value), w.ownsRow w.heap.size 5 1 v (0 + t.pr.length) ([] ++ t.pr.map ub) → True) := fun _ _ _ => trivial
  have HV : Hid (∀ (w1 : World) (b : Nat) (v : Value), w1.ownsRow b 5 1 v (0 + t.pr.length) ([] ++ t.pr.map ub) → (convert 22 9 v).run Tryz.prog w1 = .ok (.string (S t)) w1) := fun w1 b v h =>
    conv_row t.pr (by omega) hpos h
  clear HC
  obtain ⟨T, hT⟩ : ∃ T, T = tyOf t := ⟨_, rfl⟩
  obtain ⟨V, hV⟩ : ∃ V, V = pay t := ⟨_, rfl⟩
  obtain ⟨X, hX⟩ : ∃ X, X = S t := ⟨_, rfl⟩
  rw [← hT, ← hV] at HW
  rw [← hX] at HV
  rw [← hT, ← hV, ← hX]
  have H := Lib.hid HW
  clear hT hV hX HW hpos
  go_enter Tryz.func60, Tryz.ntmps60
  go_wp2_with fail
  refine (H.out).mono ?_
  rintro e w1 ⟨v1, rfl, ho, k1⟩
  have hcv := HV.out w1 _ v1 ho
  clear ho
  go_wp2_with fail
  go_ret
  exact ⟨rfl, k1.below⟩

end Go.Proofs.YtajgncapgeiniaaGreat.T1

/- What SubtermAt answers on both sides. No conditions. -/
namespace Go.Proofs.YtajgncapgeiniaaGreat
namespace LawSubtermAt
open Go.ChangeShapes Go.WideShapes Go.ChangeAt Go.RowKit Go.Proofs.YtajgncapgeiniaaGreat.T1
open Go.ChangeMaps (open_string shut_string)
set_option linter.unusedVariables false

set_option maxHeartbeats 1000000 in
theorem spec_none (s k : ByteArray) (hg : good s.data.toList = none) (hm : s.size ≤ 9223372036854775807) (w : World) : Calls Tryz.prog 22 #[.string s, .string k] w fun e w' => e = .returned (.tuple #[.string ⟨#[]⟩, .bool false]) ∧ Below w.heap.size w w' := by
  have H := Lib.hid (tmGood_none hg w hm)
  clear hg
  go_enter Tryz.func22, Tryz.ntmps22
  go_wp2_with fail
  refine (H.out).mono ?_
  rintro e w1 ⟨rfl, bl⟩
  go_wp2_with fail
  go_ret2
  exact ⟨rfl, bl⟩
set_option maxHeartbeats 1000000 in
theorem impl_none (s k : ByteArray) (hg : good s.data.toList = none) (hm : s.size ≤ 9223372036854775807) (w : World) : Calls Tryz.prog 18 #[.string s, .string k] w fun e w' => e = .returned (.tuple #[.string ⟨#[]⟩, .bool false]) ∧ Below w.heap.size w w' := by
  have H := Lib.hid (parse_none hg w hm)
  clear hg
  go_enter Tryz.func18, Tryz.ntmps18
  go_wp2_with fail
  refine (H.out).mono ?_
  rintro e w1 ⟨rfl, bl⟩
  go_wp2_with fail
  go_ret2
  exact ⟨rfl, bl⟩
set_option maxHeartbeats 1000000 in
theorem spec_some (s k : ByteArray) (t : Tm) (hg : good s.data.toList = some t) (hm : s.size ≤ 9223372036854775807) (hmk : k.size ≤ 100000000) (w : World) : Calls Tryz.prog 22 #[.string s, .string k] w (AtPost (atP t k.data.toList) w) := by
  have H := Lib.hid (tmGood_some hg w hm)
  obtain ⟨es, hL, hE, h300, h60⟩ := good_S hg
  have HA := fun w => tmAt_any t hE (by omega) k hmk w
  rw [← es] at HA
  obtain ⟨o, ho⟩ : ∃ o, o = atP t k.data.toList := ⟨_, rfl⟩
  rw [← ho] at HA ⊢
  have H2 := Lib.hid HA
  clear hg es hL hE h300 h60 HA ho
  go_enter Tryz.func22, Tryz.ntmps22
  go_wp2_with fail
  refine (H.out).mono ?_
  rintro e w1 ⟨rfl, bl⟩
  go_wp2_with fail
  refine (H2.out _).mono ?_
  rintro e w2 ⟨(⟨p, h1, rfl⟩ | ⟨h1, rfl⟩), b2⟩
  · have HH := Lib.hid h1
    obtain ⟨X, hX⟩ : ∃ X, X = S p := ⟨_, rfl⟩
    rw [← hX]
    have HX := Lib.hid hX
    clear h1 hX
    go_wp2_with fail
    go_ret2
    exact AtPost.yes HH.out ⟨by rw [← HX.out]; rfl, below_trans bl b2 bl.size⟩
  · have HH := Lib.hid h1
    clear h1
    go_wp2_with fail
    go_ret2
    exact AtPost.no HH.out ⟨rfl, below_trans bl b2 bl.size⟩
set_option maxHeartbeats 1000000 in
theorem impl_some (s k : ByteArray) (t : Tm) (hg : good s.data.toList = some t) (hm : s.size ≤ 9223372036854775807) (w : World) : Calls Tryz.prog 18 #[.string s, .string k] w (AtPost (atP t k.data.toList) w) := by
  have H := Lib.hid (parse_some hg w hm)
  obtain ⟨es, hL, hE, h300, h60⟩ := good_S hg
  have HA := fun w => subtermAt_any t k w
  have HT : Hid (∀ p, atP t k.data.toList = some p → ∀ w, Calls Tryz.prog 60 #[.iface (tyOf p) (pay p)] w fun e w' => e = .returned (.string (S p)) ∧ Below w.heap.size w w') := fun p hp w =>
    textOf_any p (by have := (atP_sub _ t p hp).2; omega) w
  obtain ⟨o, ho⟩ : ∃ o, o = atP t k.data.toList := ⟨_, rfl⟩
  obtain ⟨T, hT⟩ : ∃ T, T = tyOf t := ⟨_, rfl⟩
  obtain ⟨V, hV⟩ : ∃ V, V = pay t := ⟨_, rfl⟩
  rw [← hT, ← hV] at H HA
  rw [← ho] at HA HT ⊢
  have H2 := Lib.hid HA
  clear hg es hL hE h300 h60 HA ho hT hV
  go_enter Tryz.func18, Tryz.ntmps18
  go_wp2_with fail
  refine (H.out).mono ?_
  rintro e w1 ⟨rfl, bl⟩
  go_wp2_with fail
  refine (H2.out _).mono ?_
  rintro e w2 ⟨(⟨p, h1, rfl⟩ | ⟨h1, rfl⟩), b2⟩
  · have HH := Lib.hid h1
    have H3 := Lib.hid (HT.out p h1)
    obtain ⟨X, hX⟩ : ∃ X, X = S p := ⟨_, rfl⟩
    obtain ⟨T2, hT2⟩ : ∃ T, T = tyOf p := ⟨_, rfl⟩
    obtain ⟨V2, hV2⟩ : ∃ V, V = pay p := ⟨_, rfl⟩
    rw [← hX, ← hT2, ← hV2] at H3
    rw [← hT2, ← hV2]
    have HX := Lib.hid hX
    clear h1 hX hT2 hV2
    go_wp2_with fail
    refine (H3.out _).mono ?_
    rintro e w3 ⟨rfl, b3⟩
    go_wp2_with fail
    go_ret2
    exact AtPost.yes HH.out ⟨by rw [← HX.out]; rfl, below_trans (below_trans bl b2 bl.size) b3 (Nat.le_trans bl.size b2.size)⟩
  · have HH := Lib.hid h1
    clear h1
    go_wp2_with fail
    go_ret2
    exact AtPost.no HH.out ⟨rfl, below_trans bl b2 bl.size⟩
theorem both (s k : ByteArray) (hm : s.size ≤ 9223372036854775807) (hmk : k.size ≤ 100000000) : ∃ (n : ByteArray) (b : Bool), (∀ w, Calls Tryz.prog 22 #[.string s, .string k] w fun e w' => e = .returned (.tuple #[.string n, .bool b]) ∧ Below w.heap.size w w') ∧ (∀ w, Calls Tryz.prog 18 #[.string s, .string k] w fun e w' => e = .returned (.tuple #[.string n, .bool b]) ∧ Below w.heap.size w w') := by
  cases hg : good s.data.toList with
  | none => exact ⟨⟨#[]⟩, false, spec_none s k hg hm, impl_none s k hg hm⟩
  | some t =>
    have h1 := spec_some s k t hg hm hmk
    have h2 := impl_some s k t hg hm
    cases ho : atP t k.data.toList with
    | none =>
      rw [ho] at h1 h2
      have key : ∀ w e w', AtPost none w e w' → e = .returned (.tuple #[.string ⟨#[]⟩, .bool false]) ∧ Below w.heap.size w w' := by
        rintro w e w' ⟨⟨p, h, _⟩ | ⟨_, h⟩, b⟩
        · cases h
        · exact ⟨h, b⟩
      exact ⟨⟨#[]⟩, false, fun w => (h1 w).mono (key w), fun w => (h2 w).mono (key w)⟩
    | some p =>
      rw [ho] at h1 h2
      have key : ∀ w e w', AtPost (some p) w e w' → e = .returned (.tuple #[.string (S p), .bool true]) ∧ Below w.heap.size w w' := by
        rintro w e w' ⟨⟨q, h, h'⟩ | ⟨h, _⟩, b⟩
        · cases h; exact ⟨h', b⟩
        · cases h
      exact ⟨S p, true, fun w => (h1 w).mono (key w), fun w => (h2 w).mono (key w)⟩
end LawSubtermAt
end Go.Proofs.YtajgncapgeiniaaGreat
