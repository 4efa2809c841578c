/- Texts of the proof, put together: Vx. No conditions. -/
import Derived.Test.YtdfelpahacmdpaaGbs

/- Sorts in the specification: levels. -/
namespace Go.Proofs.Ytdfelpahacmdpaa.T1
open Go.RowKit
set_option maxRecDepth 100000
set_option linter.unusedVariables false
set_option linter.unusedSimpArgs false

def oS (o : Option Nat) : Int := ((o.getD 0 : Nat) : Int)
set_option maxHeartbeats 2000000 in
theorem levelS_any {S C : Nat → Nat → Prop} {w : World} {b N z : Nat} {f r : Nat → Nat} {c : Nat → Option Nat} {v1 v2 : Value} (hi : SoAt w b N f c v1 v2) (hs : St6 S C N f r c z z) (hC : ∀ i x, C i x → i < N ∧ x < N) (h1000 : N ≤ 1000) {k : Nat} (hk : k < N) :
    Calls Try.prog 45 #[.pointer (some ⟨b, 0, none⟩), .int .i64 (k : Int)] w fun e w' => (∃ o : Option Nat, e = .returned (.tuple #[.int .i64 (oS o), .bool o.isSome]) ∧ ∀ m, o = some m ↔ Lev6 S C k m) ∧ w = w' := by
  obtain ⟨g1, k1, g2, k2, rfl, rfl, hgg, hb1, hb2⟩ := hi.form (by omega)
  have cb1 := hi.c1
  have cb2 := hi.c2
  have HI := Lib.hid hi
  have HS := Lib.hid hs
  have HC := Lib.hid hC
  have H0 := Lib.hid (root_any hi hs.rt hs.lt hk)
  have hrk : r k < N := hs.rlt hk
  clear hi hs hC
  go_enter Try.func45, Try.ntmps45
  go_wp2_with fail
  refine (H0.out).mono ?_
  rintro e w1 ⟨rfl, rfl⟩
  go_wp2_with fail
  go_loopg [1, 6] (N + 1) (fun g s1 s6 wr => (∃ n m : Nat, s6 = .int .i64 (n : Int) ∧ s1 = .int .i64 (m : Int) ∧ n + g = N + 1 ∧ m < N ∧ Hid (∃ m', m' < N ∧ m = r m' ∧ Way6 S C k n m')) ∧ wr = w)
  case atStart => exact ⟨⟨0, r k, rfl, rfl, by omega, hrk, ⟨k, hk, rfl, Way6.start S C k⟩⟩, rfl⟩
  case round =>
    obtain ⟨⟨n, m, rfl, rfl, hg, hm, hw⟩, rfl⟩ := hrel
    by_cases hn : n ≤ N
    · have x1 := (HI.out.r2.cellAt m (by omega)).trans (rC_at N c hm)
      cases e : c m with
      | none =>
        have HL := Lib.hid (show Lev6 S C k n by
          obtain ⟨m', h1, h2, h3⟩ := hw.out
          exact h3.end_ HS.out (by rw [← h2]; exact e))
        rw [e] at x1
        have x1' : wr.cell? ⟨g2, m, none⟩ = some (.int .i64 (-1)) := x1
        clear x1 e
        go_wp2_with fail
        go_ret2
        exact ⟨⟨some n, rfl, fun m => ⟨fun h => by cases h; exact HL.out, fun h => by rw [h.one HL.out]⟩⟩, rfl⟩
      | some x =>
        have hx : x < N := HS.out.clt _ _ e
        have HR := Lib.hid (root_any HI.out HS.out.rt HS.out.lt hx)
        have hrx : r x < N := HS.out.rlt hx
        have HL := Lib.hid (show ∃ m', m' < N ∧ r x = r m' ∧ Way6 S C k (n + 1) m' by
          obtain ⟨m', h1, h2, h3⟩ := hw.out
          exact ⟨x, hx, rfl, h3.on HS.out (by rw [← h2]; exact e)⟩)
        rw [e] at x1
        have x1' : wr.cell? ⟨g2, m, none⟩ = some (.int .i64 (x : Int)) := x1
        obtain ⟨rx, hrxe⟩ : ∃ y, y = r x := ⟨_, rfl⟩
        rw [← hrxe] at HR hrx HL
        clear x1 e hrxe
        go_wp2_with fail
        refine (HR.out).mono ?_
        rintro e w1 ⟨rfl, rfl⟩
        go_wp2_with fail
        go_roundg (gk - 1)
        case measure => omega
        case rel => exact ⟨⟨n + 1, rx, by go_num, rfl, by omega, hrx, HL⟩, rfl⟩
    · have HL := Lib.hid (show ∀ m, ¬ Lev6 S C k m from fun j => by
        obtain ⟨m', h1, h2, h3⟩ := hw.out
        exact h3.none_ HS.out HC.out hk (by omega) j)
      go_wp2_with fail
      go_ret2
      exact ⟨⟨none, rfl, fun m => ⟨fun h => by (cases h), fun h => (HL.out m h).elim⟩⟩, rfl⟩
set_option maxHeartbeats 2000000 in
theorem soSortable_any {S C : Nat → Nat → Prop} {w : World} {b N z : Nat} {f r : Nat → Nat} {c : Nat → Option Nat} {v1 v2 : Value} (hi : SoAt w b N f c v1 v2) (hs : St6 S C N f r c z z) (hC : ∀ i x, C i x → i < N ∧ x < N) (h1000 : N ≤ 1000) :
    Calls Try.prog 28 #[.pointer (some ⟨b, 0, none⟩)] w fun e w' => (∃ q : Bool, e = .returned (.bool q) ∧ (q = true ↔ ∀ i, i < N → ∃ m, Lev6 S C i m)) ∧ w = w' := by
  obtain ⟨p1, q1, rfl⟩ := own_slice6 hi.r1
  have cb1 := hi.c1
  have HI := Lib.hid hi
  have HS := Lib.hid hs
  have HC := Lib.hid hC
  clear hi hs hC
  go_enter Try.func28, Try.ntmps28
  go_wp2_with fail
  go_loopg [11] N (fun g s11 wr => (∃ n : Nat, s11 = .int .i64 (n : Int) ∧ n + g = N ∧ Hid (∀ i, i < n → ∃ m, Lev6 S C i m)) ∧ wr = w)
  case atStart => exact ⟨⟨0, rfl, by omega, fun i h => by omega⟩, rfl⟩
  case round =>
    obtain ⟨⟨n, rfl, hg, hw⟩, rfl⟩ := hrel
    by_cases hn : n < N
    · have HB := Lib.hid (levelS_any HI.out HS.out HC.out h1000 hn)
      go_wp2_with fail
      refine (HB.out).mono ?_
      rintro e w1 ⟨⟨o, rfl, ho⟩, rfl⟩
      cases o with
      | none =>
        have HO := Lib.hid ho
        clear ho
        go_wp2_with fail
        go_ret
        exact ⟨⟨false, rfl, ⟨fun h => (by cases h), fun h => by obtain ⟨m, hm⟩ := h n hn; have := (HO.out m).2 hm; cases this⟩⟩, rfl⟩
      | some m =>
        have HO := Lib.hid ho
        clear ho
        go_wp2_with fail
        go_roundg (gk - 1)
        case measure => omega
        case rel =>
          refine ⟨⟨n + 1, by go_num, by omega, fun i hi => ?_⟩, rfl⟩
          by_cases e : i = n
          · subst e; exact ⟨m, (HO.out m).1 rfl⟩
          · exact hw.out i (by omega)
    · go_wp2_with fail
      go_ret
      exact ⟨⟨true, rfl, fun _ i hi => hw.out i (by omega), fun _ => rfl⟩, rfl⟩

end Go.Proofs.Ytdfelpahacmdpaa.T1
