/- Texts of the proof, put together: Gg, Gh. No conditions. -/
import Derived.Test.YtlhmjcfnfefliaaGreatHao
import Derived.Test.YtlhmjcfnfefliaaGreatHbp

/- Processes and other texts that are drawn. No conditions. -/
namespace Go.Proofs.YtlhmjcfnfefliaaGreat.T1
open Go.RowKit
set_option maxRecDepth 100000
set_option linter.unusedVariables false
set_option linter.unusedSimpArgs false

set_option maxHeartbeats 4000000 in
theorem drProcess_any (c k n : Nat) (b : Bool) (hn0 : 1 ≤ n) (hn : n ≤ 20) (hk : k ≤ 50000) (w : World) (hC : Cur w c k) :
    Calls Tryz.prog 36 #[.pointer (some ⟨c, 0, none⟩), .int .i64 (n : Int), .bool b] w (Dr (Ab 1000) c (k + 4000) w) := by
  have HC := Lib.hid hC
  have HK := Lib.hid (And.intro hk (And.intro hn0 hn))
  clear hC hk hn0 hn
  go_enter Tryz.func36, Tryz.ntmps36
  go_wp2_with fail
  refine (pick_lt c k n HK.out.2.1 (by have := HK.out; omega) (by have := HK.out; omega) _ HC.out).mono ?_
  rintro e w1 ⟨v, rfl, ⟨r1, l1, rfl⟩, c1, o1⟩
  have C1 := Lib.hid c1
  have O1 := Lib.hid o1
  obtain ⟨m, hm⟩ : ∃ m, m = 2 + r1 := ⟨_, rfl⟩
  have hw1 : IntKind.i64.wrap (2 + (r1 : Int)) = (m : Int) := by have := HK.out; rw [IntKind.wrap_i64] <;> omega
  have HM := Lib.hid (show 1 ≤ m ∧ m ≤ 21 by have := HK.out; omega)
  clear c1 o1 l1 hm
  go_wp2_with fail
  refine (sure_any m HM.out.1 (by have := HM.out; omega) c _ b _ (by have := HM.out; have := HK.out; omega) C1.out).mono ?_
  rintro e w2 ⟨v, rfl, a2, c2, o2⟩
  have A2 := Lib.hid a2
  obtain ⟨s2, rfl, _, _⟩ := a2
  have C2 := Lib.hid (c2.mono (show k + 2 + 30 * m ≤ k + 700 by have := HM.out; omega))
  have O2 := Lib.hid (O1.out.trans o2)
  have A2' := Lib.hid (ab_mono A2.out (show 6 * m ≤ 600 by have := HM.out; omega))
  clear c2 o2 A2 C1 O1
  go_wp2_with fail
  refine (pick_lt c _ 20 (by decide) (by have := HK.out; omega) (by decide) _ C2.out).mono ?_
  rintro e w3 ⟨v, rfl, ⟨r3, l3, rfl⟩, c3, o3⟩
  have C3 := Lib.hid c3
  have O3 := Lib.hid (O2.out.trans o3)
  have L3 := Lib.hid l3
  clear c3 o3 l3 C2 O2
  rcases (show r3 = 0 ∨ r3 = 1 ∨ r3 = 2 ∨ 3 ≤ r3 from by omega) with rfl | rfl | rfl | h3
  · go_wp2_with fail
    refine (spoilt_any c _ 600 s2 _ (by have := HK.out; omega) (by decide) A2'.out (by decide) (by decide) (by decide) _ C3.out).mono ?_
    rintro e w4 ⟨v, rfl, a4, c4, o4⟩
    have A4 := Lib.hid a4
    obtain ⟨s4, rfl, _, _⟩ := a4
    have C4 := Lib.hid c4
    have O4 := Lib.hid (O3.out.trans o4)
    clear c4 o4
    go_wp2_with fail
    go_ret
    exact ⟨.string s4, rfl, ab_mono A4.out (by decide), C4.out.mono (by omega), O4.out⟩
  · go_wp2_with fail
    go_loopg [7] (1000 - s2.size) (fun g s7 wr => ∃ s : ByteArray, s7 = .string s ∧ s.size + g = 1000 ∧ Hid (Ab 600 (.string s)) ∧ Hid (Cur wr c (k + 702 + s.size)) ∧ Hid (Only c w wr))
    case atStart => exact ⟨s2, rfl, by have := ab_of A2'.out; omega, A2', C3.out.mono (by omega), O3⟩
    case round =>
      obtain ⟨s, rfl, hg, hs, hC, hO⟩ := hrel
      have hz := ab_of hs.out
      go_wp2_with fail
      refine (pick_lt c _ 5 (by decide) (by have := HK.out; omega) (by decide) _ hC.out).mono ?_
      rintro e w4 ⟨v, rfl, ⟨r4, l4, rfl⟩, c4, o4⟩
      have C4 := Lib.hid c4
      have O4 := Lib.hid (hO.out.trans o4)
      have hw2 : IntKind.i64.wrap (300 + (r4 : Int)) = 300 + (r4 : Int) := by rw [IntKind.wrap_i64] <;> omega
      clear c4 o4 hC hO
      by_cases hlt : s.size < 300 + r4
      · have d1 : decide ((s.size : Int) < 300 + (r4 : Int)) = true := by simp; omega
        have HL := Lib.hid (And.intro hlt l4)
        have HG := Lib.hid hg
        clear hlt l4 hg
        go_wp2_with fail
        go_roundg (gk - 2)
        case rel =>
          refine ⟨_, rfl, ?_, ab_mono (ab_app (ab_lit ⟨#[126, 46]⟩ 2 rfl (by decide)) (show Ab 304 (.string s) from ?_)) (by decide), ?_, O4⟩
          · have := HG.out; have := HL.out; rw [ByteArray.size_append]; show 2 + s.size + _ = _; omega
          · obtain ⟨_, e, h1, h2⟩ := hs.out
            cases e
            exact ⟨_, rfl, by have := HL.out; omega, h2⟩
          · exact C4.out.mono (by rw [ByteArray.size_append]; show _ ≤ k + 702 + (2 + s.size); omega)
        case measure => have := HG.out; have := HL.out; omega
      · have d1 : decide ((s.size : Int) < 300 + (r4 : Int)) = false := by simp; omega
        clear hlt l4
        go_wp2_with fail
        go_ret
        exact ⟨.string s, rfl, ab_mono hs.out (by decide), C4.out.mono (by omega), O4.out⟩
  · go_wp2_with fail
    refine (sure_any 25 (by decide) (by decide) c _ b _ (by have := HK.out; omega) C3.out).mono ?_
    rintro e w4 ⟨v, rfl, a4, c4, o4⟩
    have A4 := Lib.hid a4
    obtain ⟨s4, rfl, _, _⟩ := a4
    have C4 := Lib.hid c4
    have O4 := Lib.hid (O3.out.trans o4)
    clear c4 o4
    go_wp2_with fail
    go_ret
    exact ⟨.string s4, rfl, ab_mono A4.out (by decide), C4.out.mono (by omega), O4.out⟩
  · have d1 : ((r3 : Int) == 0) = false := by simp; omega
    have d2 : ((r3 : Int) == 1) = false := by simp; omega
    have d3 : ((r3 : Int) == 2) = false := by simp; omega
    clear h3
    go_wp2_with fail
    go_ret
    exact ⟨.string s2, rfl, ab_mono A2'.out (by decide), C3.out.mono (by omega), O3.out⟩
end Go.Proofs.YtlhmjcfnfefliaaGreat.T1

/- Paths that are drawn. No conditions. -/
namespace Go.Proofs.YtlhmjcfnfefliaaGreat.T1
open Go.RowKit
set_option maxRecDepth 100000
set_option linter.unusedVariables false
set_option linter.unusedSimpArgs false

/-- A text of at most n bytes. -/
def Tx (n : Nat) (v : Value) : Prop := ∃ s : ByteArray, v = .string s ∧ s.size ≤ n
end Go.Proofs.YtlhmjcfnfefliaaGreat.T1
