/- Texts of the proof, put together: Gg, Gh. No conditions. -/
import Derived.Test.YtajgncapgeiniaaGreatHaq
import Derived.Test.YtajgncapgeiniaaGreatHay
import Derived.Test.YtajgncapgeiniaaGreatHaz

/- Processes and other texts that are drawn. No conditions. -/
namespace Go.Proofs.YtajgncapgeiniaaGreat.T1
open Go.RowKit
set_option maxRecDepth 100000
set_option linter.unusedVariables false
set_option linter.unusedSimpArgs false

set_option maxHeartbeats 4000000 in
theorem drProcess_any (c k n : Nat) (b : Bool) (hn0 : 1 ≤ n) (hn : n ≤ 20) (hk : k ≤ 50000) (w : World) (hC : Cur w c k) :
    Calls Tryz.prog 63 #[.pointer (some ⟨c, 0, none⟩), .int .i64 (n : Int), .bool b] w (Dr (Ab 1000) c (k + 4000) w) := by
  have HC := Lib.hid hC
  have HK := Lib.hid (And.intro hk (And.intro hn0 hn))
  clear hC hk hn0 hn
  go_enter Tryz.func63, Tryz.ntmps63
  go_wp2_with fail
  refine (pick_lt c k n HK.out.2.1 (by have := HK.out; omega) (by have := HK.out; omega) _ HC.out).mono ?_
  rintro e w1 ⟨v, rfl, ⟨r1, l1, rfl⟩, c1, o1⟩
  have C1 := Lib.hid c1
  have O1 := Lib.hid o1
  obtain ⟨m, hm⟩ : ∃ m, m = 2 + r1 := ⟨_, rfl⟩
  have hw1 : IntKind.i64.wrap (2 + (r1 : Int)) = (m : Int) := by have := HK.out; rw [IntKind.wrap_i64] <;> omega
  have HM := Lib.hid (show 1 ≤ m ∧ m ≤ 21 by have := HK.out; omega)
  clear c1 o1 l1 hm
  go_wp2_with fail
  refine (sure_any m HM.out.1 (by have := HM.out; omega) c _ b _ (by have := HM.out; have := HK.out; omega) C1.out).mono ?_
  rintro e w2 ⟨v, rfl, a2, c2, o2⟩
  have A2 := Lib.hid a2
  obtain ⟨s2, rfl, _, _⟩ := a2
  have C2 := Lib.hid (c2.mono (show k + 2 + 30 * m ≤ k + 700 by have := HM.out; omega))
  have O2 := Lib.hid (O1.out.trans o2)
  have A2' := Lib.hid (ab_mono A2.out (show 6 * m ≤ 600 by have := HM.out; omega))
  clear c2 o2 A2 C1 O1
  go_wp2_with fail
  refine (pick_lt c _ 20 (by decide) (by have := HK.out; omega) (by decide) _ C2.out).mono ?_
  rintro e w3 ⟨v, rfl, ⟨r3, l3, rfl⟩, c3, o3⟩
  have C3 := Lib.hid c3
  have O3 := Lib.hid (O2.out.trans o3)
  have L3 := Lib.hid l3
  clear c3 o3 l3 C2 O2
  rcases (show r3 = 0 ∨ r3 = 1 ∨ r3 = 2 ∨ 3 ≤ r3 from by omega) with rfl | rfl | rfl | h3
  · go_wp2_with fail
    refine (spoilt_any c _ 600 s2 _ (by have := HK.out; omega) (by decide) A2'.out (by decide) (by decide) (by decide) _ C3.out).mono ?_
    rintro e w4 ⟨v, rfl, a4, c4, o4⟩
    have A4 := Lib.hid a4
    obtain ⟨s4, rfl, _, _⟩ := a4
    have C4 := Lib.hid c4
    have O4 := Lib.hid (O3.out.trans o4)
    clear c4 o4
    go_wp2_with fail
    go_ret
    exact ⟨.string s4, rfl, ab_mono A4.out (by decide), C4.out.mono (by omega), O4.out⟩
  · go_wp2_with fail
    go_loopg [7] (1000 - s2.size) (fun g s7 wr => ∃ s : ByteArray, s7 = .string s ∧ s.size + g = 1000 ∧ Hid (Ab 600 (.string s)) ∧ Hid (Cur wr c (k + 702 + s.size)) ∧ Hid (Only c w wr))
    case atStart => exact ⟨s2, rfl, by have := ab_of A2'.out; omega, A2', C3.out.mono (by omega), O3⟩
    case round =>
      obtain ⟨s, rfl, hg, hs, hC, hO⟩ := hrel
      have hz := ab_of hs.out
      go_wp2_with fail
      refine (pick_lt c _ 5 (by decide) (by have := HK.out; omega) (by decide) _ hC.out).mono ?_
      rintro e w4 ⟨v, rfl, ⟨r4, l4, rfl⟩, c4, o4⟩
      have C4 := Lib.hid c4
      have O4 := Lib.hid (hO.out.trans o4)
      have hw2 : IntKind.i64.wrap (300 + (r4 : Int)) = 300 + (r4 : Int) := by rw [IntKind.wrap_i64] <;> omega
      clear c4 o4 hC hO
      by_cases hlt : s.size < 300 + r4
      · have d1 : decide ((s.size : Int) < 300 + (r4 : Int)) = true := by simp; omega
        have HL := Lib.hid (And.intro hlt l4)
        have HG := Lib.hid hg
        clear hlt l4 hg
        go_wp2_with fail
        go_roundg (gk - 2)
        case rel =>
          refine ⟨_, rfl, ?_, ab_mono (ab_app (ab_lit ⟨#[126, 46]⟩ 2 rfl (by decide)) (show Ab 304 (.string s) from ?_)) (by decide), ?_, O4⟩
          · have := HG.out; have := HL.out; rw [ByteArray.size_append]; show 2 + s.size + _ = _; omega
          · obtain ⟨_, e, h1, h2⟩ := hs.out
            cases e
            exact ⟨_, rfl, by have := HL.out; omega, h2⟩
          · exact C4.out.mono (by rw [ByteArray.size_append]; show _ ≤ k + 702 + (2 + s.size); omega)
        case measure => have := HG.out; have := HL.out; omega
      · have d1 : decide ((s.size : Int) < 300 + (r4 : Int)) = false := by simp; omega
        clear hlt l4
        go_wp2_with fail
        go_ret
        exact ⟨.string s, rfl, ab_mono hs.out (by decide), C4.out.mono (by omega), O4.out⟩
  · go_wp2_with fail
    refine (sure_any 25 (by decide) (by decide) c _ b _ (by have := HK.out; omega) C3.out).mono ?_
    rintro e w4 ⟨v, rfl, a4, c4, o4⟩
    have A4 := Lib.hid a4
    obtain ⟨s4, rfl, _, _⟩ := a4
    have C4 := Lib.hid c4
    have O4 := Lib.hid (O3.out.trans o4)
    clear c4 o4
    go_wp2_with fail
    go_ret
    exact ⟨.string s4, rfl, ab_mono A4.out (by decide), C4.out.mono (by omega), O4.out⟩
  · have d1 : ((r3 : Int) == 0) = false := by simp; omega
    have d2 : ((r3 : Int) == 1) = false := by simp; omega
    have d3 : ((r3 : Int) == 2) = false := by simp; omega
    clear h3
    go_wp2_with fail
    go_ret
    exact ⟨.string s2, rfl, ab_mono A2'.out (by decide), C3.out.mono (by omega), O3.out⟩
end Go.Proofs.YtajgncapgeiniaaGreat.T1

/- Paths that are drawn. No conditions. -/
namespace Go.Proofs.YtajgncapgeiniaaGreat.T1
open Go.RowKit
set_option maxRecDepth 100000
set_option linter.unusedVariables false
set_option linter.unusedSimpArgs false

/-- A text of at most n bytes. -/
def Tx (n : Nat) (v : Value) : Prop := ∃ s : ByteArray, v = .string s ∧ s.size ≤ n
theorem drNum_any (x : Nat) (hx : x < 2) (w : World) : Calls Tryz.prog 108 #[.int .i64 (x : Int)] w fun e w' => (∃ s : ByteArray, s.size = 1 ∧ e = .returned (.string s)) ∧ Below w.heap.size w w' := by
  rcases (show x = 0 ∨ x = 1 from by omega) with rfl | rfl
  · have hcv : (convert 22 9 (.slice (some ⟨w.heap.size, 0, none⟩) 1 1)).run Tryz.prog (w.alloc (.cells #[.int .u8 48] 5)) = .ok (.string (one 48)) (w.alloc (.cells #[.int .u8 48] 5)) := LawKindOf.conv1 48 w
    go_enter Tryz.func108, Tryz.ntmps108
    go_wp2_with fail
    go_ret
    exact ⟨⟨one 48, rfl, rfl⟩, (Below.refl _ _).alloc (Nat.le_refl _) _⟩
  · have hcv : (convert 22 9 (.slice (some ⟨w.heap.size, 0, none⟩) 1 1)).run Tryz.prog (w.alloc (.cells #[.int .u8 49] 5)) = .ok (.string (one 49)) (w.alloc (.cells #[.int .u8 49] 5)) := LawKindOf.conv1 49 w
    go_enter Tryz.func108, Tryz.ntmps108
    go_wp2_with fail
    go_ret
    exact ⟨⟨one 49, rfl, rfl⟩, (Below.refl _ _).alloc (Nat.le_refl _) _⟩
theorem parts_in (u p : Tm) (h : p ∈ u.parts) (ho : u.ok nmE = true) (hl : u.pr.length ≤ 300) : p.ok nmE = true ∧ p.pr.length ≤ 300 := by
  cases u <;> simp [Tm.parts] at h <;> simp [Tm.ok] at ho <;> simp [Tm.pr] at hl <;> grind
/-- What tmParts answers: at least one part, each in its cell; or none. -/
theorem parts_row (u : Tm) (ho : u.ok nmE = true) (hl : u.pr.length ≤ 300) (w : World) : Calls Tryz.prog 53 #[.string (S u)] w fun e w' => (e = .returned (.slice none 0 0) ∨ ∃ g n : Nat, e = .returned (.slice (some ⟨g, 0, none⟩) n n) ∧ 1 ≤ n ∧ n ≤ 2 ∧ w.heap.size ≤ g ∧ ∀ j, j < n → ∃ p : Tm, w'.cell? ⟨g, j, none⟩ = some (.string (S p)) ∧ p.ok nmE = true ∧ p.pr.length ≤ 300) ∧ Below w.heap.size w w' := by
  refine (tmParts_any u ho (by omega) w).mono fun e w' h => ?_
  have hp := parts_in u
  rcases parts_cases u with h1 | ⟨p, h1⟩ | ⟨p, q, h1⟩
  · rw [h1] at h
    obtain ⟨rfl, b⟩ := h
    exact ⟨.inl rfl, b⟩
  · rw [h1] at h hp
    obtain ⟨g, rfl, h2, h3, b⟩ := h
    refine ⟨.inr ⟨g, 1, rfl, by decide, by decide, h2, fun j hj => ?_⟩, b⟩
    obtain rfl : j = 0 := by omega
    exact ⟨p, by simp [World.cell?, h3], hp p (by simp) ho hl⟩
  · rw [h1] at h hp
    obtain ⟨g, rfl, h2, h3, b⟩ := h
    refine ⟨.inr ⟨g, 2, rfl, by decide, by decide, h2, fun j hj => ?_⟩, b⟩
    rcases (show j = 0 ∨ j = 1 from by omega) with rfl | rfl
    · exact ⟨p, by simp [World.cell?, h3], hp p (by simp) ho hl⟩
    · exact ⟨q, by simp [World.cell?, h3], hp q (by simp) ho hl⟩
theorem of4_any (c k : Nat) (hk : k ≤ 900000) (w : World) (hC : Cur w c k) (W : World) (hW : W = w.alloc (.cells #[.string ⟨#[48]⟩, .string ⟨#[49]⟩, .string ⟨#[50]⟩, .string ⟨#[120]⟩] 9)) : Calls Tryz.prog 70 #[.pointer (some ⟨c, 0, none⟩), .slice (some ⟨w.heap.size, 0, none⟩) 4 4] W (Dr (Tx 1) c (k + 2) W) := by
  subst hW
  refine of_any (Tx 1) c k w.heap.size 4 (by decide) hk (by decide) _ (Nat.ne_of_gt hC.lt) ?_ (hC.below ((Below.refl _ _).alloc (Nat.le_refl _) _))
  intro j hj
  rcases (show j = 0 ∨ j = 1 ∨ j = 2 ∨ j = 3 from by omega) with rfl | rfl | rfl | rfl
  · exact ⟨_, ⟨_, rfl, by decide⟩, alloc_cell rfl⟩
  · exact ⟨_, ⟨_, rfl, by decide⟩, alloc_cell rfl⟩
  · exact ⟨_, ⟨_, rfl, by decide⟩, alloc_cell rfl⟩
  · exact ⟨_, ⟨_, rfl, by decide⟩, alloc_cell rfl⟩
set_option maxHeartbeats 4000000 in
theorem path_any (c k : Nat) (s0 : ByteArray) (hs0 : s0.size ≤ 1000) (hk : k ≤ 800000) (w : World) (hC : Cur w c k) :
    Calls Tryz.prog 64 #[.pointer (some ⟨c, 0, none⟩), .string s0] w (Dr (Tx 10) c (k + 30) w) := by
  have HC := Lib.hid hC
  have HK := Lib.hid hk
  have htail : ∀ (path : ByteArray) (w1 : World) (k1 : Nat), path.size ≤ 5 → k1 ≤ k + 20 → Cur w1 c k1 → Only c w w1 → True := fun _ _ _ _ _ _ _ => trivial
  clear hC hk htail
  cases hg : good s0.data.toList with
  | none =>
    have H := Lib.hid (tmGood_none hg w (by omega))
    clear hg
    go_enter Tryz.func64, Tryz.ntmps64
    go_wp2_with fail
    refine H.out.mono ?_
    rintro e w1 ⟨rfl, b1⟩
    have C1 := Lib.hid (HC.out.below b1)
    have O1 := Lib.hid ((Only.refl c w).below b1)
    clear b1
    go_wp2_with fail
    refine (one_any c k 10 (by decide) (by have := HK.out; omega) (by decide) _ C1.out).mono ?_
    rintro e x2 ⟨v, rfl, ⟨y, rfl⟩, c2, o2⟩
    have D2 := Lib.hid c2
    have P2 := Lib.hid (O1.out.trans o2)
    clear c2 o2
    cases y with
    | false =>
      go_wp2_with fail
      go_ret
      exact ⟨.string ⟨#[]⟩, rfl, ⟨_, rfl, by decide⟩, D2.out.mono (by omega), P2.out⟩
    | true =>
      go_wp2_with fail
      refine (of4_any c _ (by have := HK.out; omega) x2 D2.out _ rfl).mono ?_
      rintro e x3 ⟨v, rfl, ⟨s3, rfl, l3⟩, c3, o3⟩
      have D3 := Lib.hid c3
      have P3 := Lib.hid ((P2.out.alloc _).trans o3)
      have L3 := Lib.hid l3
      clear c3 o3
      go_wp2_with fail
      go_ret
      exact ⟨.string (⟨#[]⟩ ++ s3), rfl, ⟨_, rfl, by have := L3.out; rw [ByteArray.size_append]; show 0 + _ ≤ 10; omega⟩, D3.out.mono (by omega), P3.out⟩
  | some t =>
    have H := Lib.hid (tmGood_some hg w (by omega))
    obtain ⟨es, hL, hE, h300, h60⟩ := good_S hg
    have HT := Lib.hid (And.intro es (And.intro hE h300))
    clear hg es hL hE h300 h60
    go_enter Tryz.func64, Tryz.ntmps64
    go_wp2_with fail
    refine H.out.mono ?_
    rintro e w1 ⟨rfl, b1⟩
    have C1 := Lib.hid (HC.out.below b1)
    have O1 := Lib.hid ((Only.refl c w).below b1)
    clear b1 hs0
    go_wp2_with fail
    refine (pick_lt c k 6 (by decide) (by have := HK.out; omega) (by decide) _ C1.out).mono ?_
    rintro e w2 ⟨v, rfl, ⟨r2, l2, rfl⟩, c2, o2⟩
    have C2 := Lib.hid c2
    have O2 := Lib.hid (O1.out.trans o2)
    have R2 := Lib.hid (show r2 ≤ 5 by omega)
    clear c2 o2 l2
    go_wp2_with fail
    go_loopg [1, 5, 6] r2 (fun g s1 s5 s6 wr => ∃ (P path : ByteArray) (u : Tm), s1 = .string P ∧ s5 = .string path ∧ s6 = .int .i64 (g : Int) ∧ Hid (g ≤ 5 ∧ path.size + g ≤ 5) ∧ Hid (P = S u ∧ u.ok nmE = true ∧ u.pr.length ≤ 300) ∧ Hid (Cur wr c (k + 2 + 2 * (5 - g))) ∧ Hid (Only c w wr))
    case atStart => exact ⟨s0, ⟨#[]⟩, t, rfl, rfl, rfl, Lib.hid ⟨R2.out, by have := R2.out; show 0 + _ ≤ 5; omega⟩, HT, C2.out.mono (by omega), O2⟩
    case round =>
      obtain ⟨P, path, u, rfl, rfl, rfl, hi, hu, hC, hO⟩ := hrel
      have hz5 : path.size ≤ 5 := by have := hi.out; omega
      by_cases hlt : 0 < gk
      · have HP := Lib.hid (parts_row u hu.out.2.1 hu.out.2.2 wr)
        rw [← hu.out.1] at HP
        have hwg : IntKind.i64.wrap ((gk : Int) - 1) = ((gk - 1 : Nat) : Int) := by have := hi.out; rw [IntKind.wrap_i64] <;> omega
        go_wp2_with fail
        refine HP.out.mono ?_
        rintro e w3 ⟨rfl | ⟨g, n, rfl, n1, n2, hgb, hcells⟩, b3⟩
        · have C3 := Lib.hid (hC.out.below b3)
          have O3 := Lib.hid (hO.out.below b3)
          clear b3
          go_wp2_with fail
          refine (one_any c _ 10 (by decide) (by have := HK.out; omega) (by decide) _ C3.out).mono ?_
          rintro e x2 ⟨v, rfl, ⟨y, rfl⟩, c2, o2⟩
          have D2 := Lib.hid c2
          have P2 := Lib.hid (O3.out.trans o2)
          clear c2 o2
          cases y with
          | false =>
            go_wp2_with fail
            go_ret
            exact ⟨.string path, rfl, ⟨_, rfl, by have := hi.out; omega⟩, D2.out.mono (by omega), P2.out⟩
          | true =>
            go_wp2_with fail
            refine (of4_any c _ (by have := HK.out; omega) x2 D2.out _ rfl).mono ?_
            rintro e x3 ⟨v, rfl, ⟨s3, rfl, l3⟩, c3, o3⟩
            have D3 := Lib.hid c3
            have P3 := Lib.hid ((P2.out.alloc _).trans o3)
            have L3 := Lib.hid l3
            clear c3 o3
            go_wp2_with fail
            go_ret
            exact ⟨.string (path ++ s3), rfl, ⟨_, rfl, by have := L3.out; rw [ByteArray.size_append]; have := hi.out; omega⟩, D3.out.mono (by omega), P3.out⟩
        · have C3 := Lib.hid (hC.out.below b3)
          have O3 := Lib.hid (hO.out.below b3)
          have HG := Lib.hid (show g ≠ c by have := hC.out.lt; omega)
          have HN := Lib.hid (And.intro n1 n2)
          have HCL := Lib.hid hcells
          have hn0 : ((n : Int) == 0) = false := by simp; omega
          clear b3 hgb n1 n2 hcells hC hO
          go_wp2_with fail
          refine (pick_lt c _ n HN.out.1 (by have := HK.out; have := hi.out; omega) (by have := HN.out; omega) _ C3.out).mono ?_
          rintro e w4 ⟨v, rfl, ⟨r4, l4, rfl⟩, c4, o4⟩
          have C4 := Lib.hid c4
          have O4 := Lib.hid (O3.out.trans o4)
          obtain ⟨p, hc, hp1, hp2⟩ := HCL.out r4 l4
          have hc4 : Hid (g < w4.heap.size ∧ w4.cell? ⟨g, r4, none⟩ = some (.string (S p))) := by
            have hlt : g < w3.heap.size := by
              unfold World.cell? at hc
              rcases h : w3.heap[g]? with _ | o
              · rw [h] at hc; cases hc
              · exact lt_of_block h
            refine ⟨Nat.lt_of_lt_of_le hlt o4.size, ?_⟩
            rw [← hc]
            unfold World.cell?
            rw [o4.block g hlt HG.out]
          have HR := Lib.hid (And.intro l4 (show r4 < 2 by have := HN.out; omega))
          have HPP := Lib.hid (And.intro hp1 hp2)
          clear c4 o4 hc hp1 hp2 l4 C3 O3
          go_wp2_with fail
          refine (drNum_any r4 HR.out.2 _).mono ?_
          rintro e w5 ⟨⟨s5, z5, rfl⟩, b5⟩
          have C5 := Lib.hid (C4.out.below b5)
          have O5 := Lib.hid (O4.out.below b5)
          have hl5 : (r4 : Int) < (n : Int) := by have := HR.out; omega
          obtain ⟨Q, hQ⟩ : ∃ Q, Q = S p := ⟨_, rfl⟩
          have hc5 : w5.cell? ⟨g, r4, none⟩ = some (.string Q) := by
            rw [hQ, ← hc4.out.2]
            unfold World.cell?
            rw [b5.block g hc4.out.1]
          have HQ := Lib.hid hQ
          have Z5 := Lib.hid z5
          clear b5 hQ C4 O4
          go_wp2_with fail
          go_roundg (gk - 1)
          case rel => exact ⟨Q, path ++ s5, p, rfl, rfl, rfl, Lib.hid ⟨by have := hi.out; omega, by have := hi.out; have := Z5.out; rw [ByteArray.size_append]; omega⟩, Lib.hid ⟨HQ.out, HPP.out.1, HPP.out.2⟩, C5.out.mono (by have := hi.out; omega), O5⟩
          case measure => omega
      · have d1 : decide (0 < gk) = false := decide_eq_false hlt
        clear hlt
        go_wp2_with fail
        refine (one_any c _ 10 (by decide) (by have := HK.out; omega) (by decide) _ hC.out).mono ?_
        rintro e x2 ⟨v, rfl, ⟨y, rfl⟩, c2, o2⟩
        have D2 := Lib.hid c2
        have P2 := Lib.hid (hO.out.trans o2)
        clear c2 o2
        cases y with
        | false =>
          go_wp2_with fail
          go_ret
          exact ⟨.string path, rfl, ⟨_, rfl, by have := hi.out; omega⟩, D2.out.mono (by omega), P2.out⟩
        | true =>
          go_wp2_with fail
          refine (of4_any c _ (by have := HK.out; omega) x2 D2.out _ rfl).mono ?_
          rintro e x3 ⟨v, rfl, ⟨s3, rfl, l3⟩, c3, o3⟩
          have D3 := Lib.hid c3
          have P3 := Lib.hid ((P2.out.alloc _).trans o3)
          have L3 := Lib.hid l3
          clear c3 o3
          go_wp2_with fail
          go_ret
          exact ⟨.string (path ++ s3), rfl, ⟨_, rfl, by have := L3.out; rw [ByteArray.size_append]; have := hi.out; omega⟩, D3.out.mono (by omega), P3.out⟩
end Go.Proofs.YtajgncapgeiniaaGreat.T1
