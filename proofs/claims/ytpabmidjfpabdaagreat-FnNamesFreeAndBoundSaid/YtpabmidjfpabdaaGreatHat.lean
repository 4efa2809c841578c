/- Texts of the proof, put together: Gg, Pa, Gh, Gi, Yc. No conditions. -/
import Derived.Test.YtpabmidjfpabdaaGreatHaq
import Derived.Test.YtpabmidjfpabdaaGreatHas
import Derived.Lib.OthersKept
import Derived.Deep.LoopGhost
import Derived.Laws.RangeAny

/- Processes and other texts that are drawn. No conditions. -/
namespace Go.Proofs.YtpabmidjfpabdaaGreat.T1
open Go.RowKit
set_option maxRecDepth 100000
set_option linter.unusedVariables false
set_option linter.unusedSimpArgs false

set_option maxHeartbeats 4000000 in
theorem drProcess_any (c k n : Nat) (b : Bool) (hn0 : 1 ≤ n) (hn : n ≤ 20) (hk : k ≤ 50000) (w : World) (hC : Cur w c k) :
    Calls Tryz.prog 21 #[.pointer (some ⟨c, 0, none⟩), .int .i64 (n : Int), .bool b] w (Dr (Ab 1000) c (k + 4000) w) := by
  have HC := Lib.hid hC
  have HK := Lib.hid (And.intro hk (And.intro hn0 hn))
  clear hC hk hn0 hn
  go_enter Tryz.func21, Tryz.ntmps21
  go_wp2_with fail
  refine (pick_lt c k n HK.out.2.1 (by have := HK.out; omega) (by have := HK.out; omega) _ HC.out).mono ?_
  rintro e w1 ⟨v, rfl, ⟨r1, l1, rfl⟩, c1, o1⟩
  have C1 := Lib.hid c1
  have O1 := Lib.hid o1
  obtain ⟨m, hm⟩ : ∃ m, m = 2 + r1 := ⟨_, rfl⟩
  have hw1 : IntKind.i64.wrap (2 + (r1 : Int)) = (m : Int) := by have := HK.out; rw [IntKind.wrap_i64] <;> omega
  have HM := Lib.hid (show 1 ≤ m ∧ m ≤ 21 by have := HK.out; omega)
  clear c1 o1 l1 hm
  go_wp2_with fail
  refine (sure_any m HM.out.1 (by have := HM.out; omega) c _ b _ (by have := HM.out; have := HK.out; omega) C1.out).mono ?_
  rintro e w2 ⟨v, rfl, a2, c2, o2⟩
  have A2 := Lib.hid a2
  obtain ⟨s2, rfl, _, _⟩ := a2
  have C2 := Lib.hid (c2.mono (show k + 2 + 30 * m ≤ k + 700 by have := HM.out; omega))
  have O2 := Lib.hid (O1.out.trans o2)
  have A2' := Lib.hid (ab_mono A2.out (show 6 * m ≤ 600 by have := HM.out; omega))
  clear c2 o2 A2 C1 O1
  go_wp2_with fail
  refine (pick_lt c _ 20 (by decide) (by have := HK.out; omega) (by decide) _ C2.out).mono ?_
  rintro e w3 ⟨v, rfl, ⟨r3, l3, rfl⟩, c3, o3⟩
  have C3 := Lib.hid c3
  have O3 := Lib.hid (O2.out.trans o3)
  have L3 := Lib.hid l3
  clear c3 o3 l3 C2 O2
  rcases (show r3 = 0 ∨ r3 = 1 ∨ r3 = 2 ∨ 3 ≤ r3 from by omega) with rfl | rfl | rfl | h3
  · go_wp2_with fail
    refine (spoilt_any c _ 600 s2 _ (by have := HK.out; omega) (by decide) A2'.out (by decide) (by decide) (by decide) _ C3.out).mono ?_
    rintro e w4 ⟨v, rfl, a4, c4, o4⟩
    have A4 := Lib.hid a4
    obtain ⟨s4, rfl, _, _⟩ := a4
    have C4 := Lib.hid c4
    have O4 := Lib.hid (O3.out.trans o4)
    clear c4 o4
    go_wp2_with fail
    go_ret
    exact ⟨.string s4, rfl, ab_mono A4.out (by decide), C4.out.mono (by omega), O4.out⟩
  · go_wp2_with fail
    go_loopg [7] (1000 - s2.size) (fun g s7 wr => ∃ s : ByteArray, s7 = .string s ∧ s.size + g = 1000 ∧ Hid (Ab 600 (.string s)) ∧ Hid (Cur wr c (k + 702 + s.size)) ∧ Hid (Only c w wr))
    case atStart => exact ⟨s2, rfl, by have := ab_of A2'.out; omega, A2', C3.out.mono (by omega), O3⟩
    case round =>
      obtain ⟨s, rfl, hg, hs, hC, hO⟩ := hrel
      have hz := ab_of hs.out
      go_wp2_with fail
      refine (pick_lt c _ 5 (by decide) (by have := HK.out; omega) (by decide) _ hC.out).mono ?_
      rintro e w4 ⟨v, rfl, ⟨r4, l4, rfl⟩, c4, o4⟩
      have C4 := Lib.hid c4
      have O4 := Lib.hid (hO.out.trans o4)
      have hw2 : IntKind.i64.wrap (300 + (r4 : Int)) = 300 + (r4 : Int) := by rw [IntKind.wrap_i64] <;> omega
      clear c4 o4 hC hO
      by_cases hlt : s.size < 300 + r4
      · have d1 : decide ((s.size : Int) < 300 + (r4 : Int)) = true := by simp; omega
        have HL := Lib.hid (And.intro hlt l4)
        have HG := Lib.hid hg
        clear hlt l4 hg
        go_wp2_with fail
        go_roundg (gk - 2)
        case rel =>
          refine ⟨_, rfl, ?_, ab_mono (ab_app (ab_lit ⟨#[126, 46]⟩ 2 rfl (by decide)) (show Ab 304 (.string s) from ?_)) (by decide), ?_, O4⟩
          · have := HG.out; have := HL.out; rw [ByteArray.size_append]; show 2 + s.size + _ = _; omega
          · obtain ⟨_, e, h1, h2⟩ := hs.out
            cases e
            exact ⟨_, rfl, by have := HL.out; omega, h2⟩
          · exact C4.out.mono (by rw [ByteArray.size_append]; show _ ≤ k + 702 + (2 + s.size); omega)
        case measure => have := HG.out; have := HL.out; omega
      · have d1 : decide ((s.size : Int) < 300 + (r4 : Int)) = false := by simp; omega
        clear hlt l4
        go_wp2_with fail
        go_ret
        exact ⟨.string s, rfl, ab_mono hs.out (by decide), C4.out.mono (by omega), O4.out⟩
  · go_wp2_with fail
    refine (sure_any 25 (by decide) (by decide) c _ b _ (by have := HK.out; omega) C3.out).mono ?_
    rintro e w4 ⟨v, rfl, a4, c4, o4⟩
    have A4 := Lib.hid a4
    obtain ⟨s4, rfl, _, _⟩ := a4
    have C4 := Lib.hid c4
    have O4 := Lib.hid (O3.out.trans o4)
    clear c4 o4
    go_wp2_with fail
    go_ret
    exact ⟨.string s4, rfl, ab_mono A4.out (by decide), C4.out.mono (by omega), O4.out⟩
  · have d1 : ((r3 : Int) == 0) = false := by simp; omega
    have d2 : ((r3 : Int) == 1) = false := by simp; omega
    have d3 : ((r3 : Int) == 2) = false := by simp; omega
    clear h3
    go_wp2_with fail
    go_ret
    exact ⟨.string s2, rfl, ab_mono A2'.out (by decide), C3.out.mono (by omega), O3.out⟩
end Go.Proofs.YtpabmidjfpabdaaGreat.T1

/- The part that a step of a path tells, in the program. -/
namespace Go.Proofs.YtpabmidjfpabdaaGreat.T1
open Go.RowKit
set_option maxRecDepth 100000

/-- What is left by a search for a subterm. -/
def SubPost (o : Option Tm) (w : World) (e : Ending) (w' : World) : Prop :=
  ((∃ p, o = some p ∧ e = .returned (.tuple #[.iface (tyOf p) (pay p), .bool true])) ∨ (o = none ∧ e = .returned (.tuple #[.nilIface, .bool false]))) ∧ Below w.heap.size w w'
theorem SubPost.no {w : World} {e : Ending} {w' : World} {o : Option Tm} (ho : o = none) (h : e = .returned (.tuple #[.nilIface, .bool false]) ∧ Below w.heap.size w w') : SubPost o w e w' := ⟨.inr ⟨ho, h.1⟩, h.2⟩
theorem SubPost.yes {w : World} {e : Ending} {w' : World} {o : Option Tm} {p : Tm} (ho : o = some p) (h : e = .returned (.tuple #[.iface (tyOf p) (pay p), .bool true]) ∧ Below w.heap.size w w') : SubPost o w e w' := ⟨.inl ⟨p, ho, h.1⟩, h.2⟩
end Go.Proofs.YtpabmidjfpabdaaGreat.T1

/- Paths that are drawn. No conditions. -/
namespace Go.Proofs.YtpabmidjfpabdaaGreat.T1
open Go.RowKit
set_option maxRecDepth 100000
set_option linter.unusedVariables false
set_option linter.unusedSimpArgs false

/-- A text of at most n bytes. -/
def Tx (n : Nat) (v : Value) : Prop := ∃ s : ByteArray, v = .string s ∧ s.size ≤ n
end Go.Proofs.YtpabmidjfpabdaaGreat.T1

/- What is drawn for the laws of terms. No conditions. -/
namespace Go.Proofs.YtpabmidjfpabdaaGreat.T1
open Go.RowKit
set_option maxRecDepth 100000
set_option linter.unusedVariables false
set_option linter.unusedSimpArgs false

/-- A slice of bytes that came in. -/
def Arg (w : World) (a : Option Addr) (n : Nat) : Prop := CodeIn w a n w.heap.size
theorem Arg.below {w w' : World} {a : Option Addr} {n : Nat} (h : Arg w a n) (k : Below w.heap.size w w') : Arg w' a n := by
  obtain ⟨h1, h | ⟨x, e, hx, h⟩⟩ := h
  · exact ⟨h1, .inl h⟩
  · refine ⟨h1, .inr ⟨x, e, Nat.lt_of_lt_of_le hx k.size, fun j hj => ?_⟩⟩
    obtain ⟨z, z0, z1, hz⟩ := h j hj
    refine ⟨z, z0, z1, ?_⟩
    rw [← hz]; unfold World.cell?; rw [add_blk, k.block _ hx]
theorem cur_new {w : World} {a : Option Addr} {n cap : Nat} (h : Arg w a n) : Cur (w.alloc (.cells #[.slice a n cap, .int .i64 0, .int .u64 0] 39)) w.heap.size 0 := by
  refine ⟨a, n, cap, 0, 0, ?_, Nat.le_refl _, ?_⟩
  · show (w.heap.push _)[w.heap.size]? = _
    rw [Array.getElem?_push_size]; rfl
  · obtain ⟨h1, h | ⟨x, e, hx, h⟩⟩ := h
    · exact ⟨h1, .inl h⟩
    · refine ⟨h1, .inr ⟨x, e, hx, fun j hj => ?_⟩⟩
      obtain ⟨z, z0, z1, hz⟩ := h j hj
      refine ⟨z, z0, z1, ?_⟩
      rw [← hz]; unfold World.cell?; rw [add_blk, Below.heap_alloc _ _ _ hx]
theorem only_new {w w' : World} {o : Obj} (h : Only w.heap.size (w.alloc o) w') : Below w.heap.size w w' :=
  Below.only ((Below.refl _ _).alloc (Nat.le_refl _) o) h (Nat.le_refl _) (by simp)

theorem dIsProcess_any (a : Option Addr) (n cap : Nat) (w : World) (hA : Arg w a n) : Calls Tryz.prog 38 #[.slice a n cap] w fun e w' => (∃ s, e = .returned (.string s) ∧ Ab 1000 (.string s)) ∧ Below w.heap.size w w' := by
  have HA := Lib.hid hA
  clear hA
  go_enter Tryz.func38, Tryz.ntmps38
  go_wp2_with fail
  refine (drProcess_any w.heap.size 0 12 false (by decide) (by decide) (by decide) _ (cur_new HA.out)).mono ?_
  rintro e w1 ⟨v, rfl, a1, c1, o1⟩
  have A1 := Lib.hid a1
  obtain ⟨s1, rfl, _, _⟩ := a1
  have O1 := Lib.hid (only_new o1)
  clear c1 o1
  go_wp2_with fail
  go_ret
  exact ⟨⟨s1, rfl, A1.out⟩, O1.out⟩

theorem dFreeNames_any (a : Option Addr) (n cap : Nat) (w : World) (hA : Arg w a n) : Calls Tryz.prog 12 #[.slice a n cap] w fun e w' => (∃ s, e = .returned (.string s) ∧ Ab 1000 (.string s)) ∧ Below w.heap.size w w' := by
  have H := Lib.hid (dIsProcess_any a n cap w hA)
  clear hA
  go_enter Tryz.func12, Tryz.ntmps12
  go_wp2_with fail
  refine H.out.mono ?_
  rintro e w1 ⟨⟨s1, rfl, a1⟩, b1⟩
  have A1 := Lib.hid a1
  clear a1
  go_wp2_with fail
  go_ret
  exact ⟨⟨s1, rfl, A1.out⟩, b1⟩

end Go.Proofs.YtpabmidjfpabdaaGreat.T1

/- What is drawn for the law of names; letters of one text in another one. No conditions. -/

namespace Go.Proofs.YtpabmidjfpabdaaGreat.T1
open Go.RowKit
set_option maxRecDepth 100000
set_option linter.unusedVariables false
set_option linter.unusedSimpArgs false

theorem of3_a (c k : Nat) (hk : k ≤ 900000) (w : World) (hC : Cur w c k) (W : World) (hW : W = w.alloc (.cells #[.string ⟨#[]⟩, .string ⟨#[65]⟩, .string ⟨#[97, 98]⟩] 9)) : Calls Tryz.prog 24 #[.pointer (some ⟨c, 0, none⟩), .slice (some ⟨w.heap.size, 0, none⟩) 3 3] W (Dr (Tx 2) c (k + 2) W) := by
  subst hW
  refine of_any (Tx 2) c k w.heap.size 3 (by decide) hk (by decide) _ (Nat.ne_of_gt hC.lt) ?_ (hC.below ((Below.refl _ _).alloc (Nat.le_refl _) _))
  intro j hj
  rcases (show j = 0 ∨ j = 1 ∨ j = 2 from by omega) with rfl | rfl | rfl
  · exact ⟨_, ⟨_, rfl, by decide⟩, alloc_cell rfl⟩
  · exact ⟨_, ⟨_, rfl, by decide⟩, alloc_cell rfl⟩
  · exact ⟨_, ⟨_, rfl, by decide⟩, alloc_cell rfl⟩

theorem of3_b (c k : Nat) (hk : k ≤ 900000) (w : World) (hC : Cur w c k) (W : World) (hW : W = w.alloc (.cells #[.string ⟨#[65]⟩, .string ⟨#[48]⟩, .string ⟨#[63]⟩] 9)) : Calls Tryz.prog 24 #[.pointer (some ⟨c, 0, none⟩), .slice (some ⟨w.heap.size, 0, none⟩) 3 3] W (Dr (Tx 1) c (k + 2) W) := by
  subst hW
  refine of_any (Tx 1) c k w.heap.size 3 (by decide) hk (by decide) _ (Nat.ne_of_gt hC.lt) ?_ (hC.below ((Below.refl _ _).alloc (Nat.le_refl _) _))
  intro j hj
  rcases (show j = 0 ∨ j = 1 ∨ j = 2 from by omega) with rfl | rfl | rfl
  · exact ⟨_, ⟨_, rfl, by decide⟩, alloc_cell rfl⟩
  · exact ⟨_, ⟨_, rfl, by decide⟩, alloc_cell rfl⟩
  · exact ⟨_, ⟨_, rfl, by decide⟩, alloc_cell rfl⟩

theorem of5_a (c k : Nat) (hk : k ≤ 900000) (w : World) (hC : Cur w c k) (W : World) (hW : W = w.alloc (.cells #[.string ⟨#[97]⟩, .string ⟨#[98]⟩, .string ⟨#[99]⟩, .string ⟨#[100]⟩, .string ⟨#[101]⟩] 9)) : Calls Tryz.prog 24 #[.pointer (some ⟨c, 0, none⟩), .slice (some ⟨w.heap.size, 0, none⟩) 5 5] W (Dr (Tx 1) c (k + 2) W) := by
  subst hW
  refine of_any (Tx 1) c k w.heap.size 5 (by decide) hk (by decide) _ (Nat.ne_of_gt hC.lt) ?_ (hC.below ((Below.refl _ _).alloc (Nat.le_refl _) _))
  intro j hj
  rcases (show j = 0 ∨ j = 1 ∨ j = 2 ∨ j = 3 ∨ j = 4 from by omega) with rfl | rfl | rfl | rfl | rfl
  · exact ⟨_, ⟨_, rfl, by decide⟩, alloc_cell rfl⟩
  · exact ⟨_, ⟨_, rfl, by decide⟩, alloc_cell rfl⟩
  · exact ⟨_, ⟨_, rfl, by decide⟩, alloc_cell rfl⟩
  · exact ⟨_, ⟨_, rfl, by decide⟩, alloc_cell rfl⟩
  · exact ⟨_, ⟨_, rfl, by decide⟩, alloc_cell rfl⟩

set_option maxHeartbeats 1000000 in
theorem dRenameFree_any (a : Option Addr) (n cap : Nat) (w : World) (hA : Arg w a n) : Calls Tryz.prog 5 #[.slice a n cap] w fun e w' => (∃ s t u : ByteArray, e = .returned (.tuple #[.string s, .string t, .string u]) ∧ Ab 1000 (.string s) ∧ t.size ≤ 2 ∧ u.size ≤ 1) ∧ Below w.heap.size w w' := by
  have HA := Lib.hid hA
  clear hA
  go_enter Tryz.func5, Tryz.ntmps5
  go_wp2_with fail
  refine (drProcess_any w.heap.size 0 12 false (by decide) (by decide) (by decide) _ (cur_new HA.out)).mono ?_
  rintro e w1 ⟨v, rfl, a1, c1, o1⟩
  have A1 := Lib.hid a1
  obtain ⟨s1, rfl, _, _⟩ := a1
  have C1 := Lib.hid c1
  have O1 := Lib.hid (o1)
  clear c1 o1
  go_wp2_with fail
  refine (drName_any w.heap.size _ (by decide) _ C1.out).mono ?_
  rintro e w2 ⟨v, rfl, ⟨x2, n2, rfl⟩, c2, o2⟩
  have N2 := Lib.hid n2
  have C2 := Lib.hid c2
  have O2 := Lib.hid (O1.out.trans o2)
  clear c2 o2 n2
  go_wp2_with fail
  refine (drName_any w.heap.size _ (by decide) _ C2.out).mono ?_
  rintro e w3 ⟨v, rfl, ⟨x3, n3, rfl⟩, c3, o3⟩
  have N3 := Lib.hid n3
  have C3 := Lib.hid c3
  have O3 := Lib.hid (O2.out.trans o3)
  clear c3 o3 n3
  go_wp2_with fail
  refine (one_any w.heap.size _ 14 (by decide) (by decide) (by decide) _ C3.out).mono ?_
  rintro e w4 ⟨v, rfl, ⟨y, rfl⟩, c4, o4⟩
  have C4 := Lib.hid c4
  have O4 := Lib.hid (O3.out.trans o4)
  clear c4 o4
  cases y with
  | false =>
    go_wp2_with fail
    go_ret3
    exact ⟨⟨s1, one x2, one x3, rfl, A1.out, (show 1 ≤ 2 by decide), Nat.le_refl _⟩, only_new O4.out⟩
  | true =>
    go_wp2_with fail
    refine (of3_a w.heap.size _ (by decide) w4 C4.out _ rfl).mono ?_
    rintro e w5 ⟨v, rfl, ⟨s5, rfl, z5⟩, c5, o5⟩
    have Z5 := Lib.hid z5
    have O5 := Lib.hid ((O4.out.alloc _).trans o5)
    clear c5 o5 z5
    go_wp2_with fail
    go_ret3
    exact ⟨⟨s1, s5, one x3, rfl, A1.out, Z5.out, Nat.le_refl _⟩, only_new O5.out⟩

set_option maxHeartbeats 2000000 in
theorem dFreshName_any (a : Option Addr) (n cap : Nat) (w : World) (hA : Arg w a n) : Calls Tryz.prog 18 #[.slice a n cap] w fun e w' => (∃ s : ByteArray, e = .returned (.string s) ∧ s.size ≤ 30) ∧ Below w.heap.size w w' := by
  have HA := Lib.hid hA
  clear hA
  go_enter Tryz.func18, Tryz.ntmps18
  go_wp2_with fail
  refine (pick_lt w.heap.size 0 8 (by decide) (by decide) (by decide) _ (cur_new HA.out)).mono ?_
  rintro e w1 ⟨v, rfl, ⟨r1, l1, rfl⟩, c1, o1⟩
  have C1 := Lib.hid c1
  have O1 := Lib.hid o1
  clear c1 o1
  rcases (show r1 = 0 ∨ r1 = 1 ∨ r1 = 2 ∨ 3 ≤ r1 from by omega) with rfl | rfl | rfl | h3
  · go_wp2_with fail
    go_ret
    exact ⟨⟨⟨#[97, 98, 99, 100, 101, 102, 103, 104, 105, 106, 107, 108, 109, 110, 111, 112, 113, 114, 115, 116, 117, 118, 119, 120, 121, 122]⟩, rfl, by decide⟩, only_new O1.out⟩
  · go_wp2_with fail
    go_ret
    exact ⟨⟨⟨#[97, 98, 99, 100, 101, 102, 103, 104, 105, 106, 107, 108, 109, 110, 111, 112, 113, 114, 115, 116, 117, 118, 119, 120, 121]⟩, rfl, by decide⟩, only_new O1.out⟩
  · go_wp2_with fail
    refine (of3_b w.heap.size _ (by decide) w1 C1.out _ rfl).mono ?_
    rintro e w5 ⟨v, rfl, ⟨s5, rfl, z5⟩, c5, o5⟩
    have Z5 := Lib.hid z5
    have O5 := Lib.hid ((O1.out.alloc _).trans o5)
    clear c5 o5
    go_wp2_with fail
    go_ret
    exact ⟨⟨⟨#[97, 98]⟩ ++ s5, rfl, by have := Z5.out; rw [ByteArray.size_append]; show 2 + _ ≤ 30; omega⟩, only_new O5.out⟩
  · have d1 : ((r1 : Int) == 0) = false := by simp; omega
    have d2 : ((r1 : Int) == 1) = false := by simp; omega
    have d3 : ((r1 : Int) == 2) = false := by simp; omega
    clear h3 l1
    go_wp2_with fail
    refine (pick_lt w.heap.size _ 6 (by decide) (by decide) (by decide) _ C1.out).mono ?_
    rintro e w2 ⟨v, rfl, ⟨r2, l2, rfl⟩, c2, o2⟩
    have C2 := Lib.hid c2
    have O2 := Lib.hid (O1.out.trans o2)
    have R2 := Lib.hid (show r2 ≤ 5 by omega)
    clear c2 o2 l2
    go_wp2_with fail
    go_loopg [4, 5] r2 (fun g s4 s5 wr => ∃ s : ByteArray, s4 = .string s ∧ s5 = .int .i64 (g : Int) ∧ Hid (g ≤ 5 ∧ s.size + g ≤ 5) ∧ Hid (Cur wr w.heap.size (100 - 2 * g)) ∧ Hid (Only w.heap.size (w.alloc (.cells #[.slice a n cap, .int .i64 0, .int .u64 0] 39)) wr))
    case atStart => exact ⟨⟨#[]⟩, rfl, rfl, Lib.hid ⟨R2.out, by have := R2.out; show 0 + _ ≤ 5; omega⟩, C2.out.mono (by have := R2.out; omega), O2⟩
    case round =>
      obtain ⟨s, rfl, rfl, hi, hC, hO⟩ := hrel
      have hz5 : s.size ≤ 5 := by have := hi.out; omega
      by_cases hlt : 0 < gk
      · have hwg : IntKind.i64.wrap ((gk : Int) - 1) = ((gk - 1 : Nat) : Int) := by have := hi.out; rw [IntKind.wrap_i64] <;> omega
        go_wp2_with fail
        refine (of5_a w.heap.size _ (by omega) wr hC.out _ rfl).mono ?_
        rintro e w5 ⟨v, rfl, ⟨s5, rfl, z5⟩, c5, o5⟩
        have Z5 := Lib.hid z5
        have C5 := Lib.hid c5
        have O5 := Lib.hid ((hO.out.alloc _).trans o5)
        clear c5 o5
        go_wp2_with fail
        go_roundg (gk - 1)
        case rel => exact ⟨s ++ s5, rfl, rfl, Lib.hid ⟨by have := hi.out; omega, by have := hi.out; have := Z5.out; rw [ByteArray.size_append]; omega⟩, C5.out.mono (by have := hi.out; omega), O5⟩
        case measure => omega
      · have d1 : decide (0 < gk) = false := decide_eq_false hlt
        clear hlt
        go_wp2_with fail
        go_ret
        exact ⟨⟨s, rfl, by have := hi.out; omega⟩, only_new hO.out⟩

end Go.Proofs.YtpabmidjfpabdaaGreat.T1
