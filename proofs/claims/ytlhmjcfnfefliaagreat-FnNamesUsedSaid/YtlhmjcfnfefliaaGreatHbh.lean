/- Texts of the proof, put together: Vx, Qc. No conditions. -/
import Derived.Test.YtlhmjcfnfefliaaGreatHbe
import Derived.Test.YtlhmjcfnfefliaaGreatHbg

/- Sorts in the specification: levels. -/
namespace Go.Proofs.YtlhmjcfnfefliaaGreat.T1
open Go.RowKit
set_option maxRecDepth 100000
set_option linter.unusedVariables false
set_option linter.unusedSimpArgs false

def oS (o : Option Nat) : Int := ((o.getD 0 : Nat) : Int)
set_option maxHeartbeats 2000000 in
theorem levelS_any {S C : Nat → Nat → Prop} {w : World} {b N z : Nat} {f r : Nat → Nat} {c : Nat → Option Nat} {v1 v2 : Value} (hi : SoAt w b N f c v1 v2) (hs : St6 S C N f r c z z) (hC : ∀ i x, C i x → i < N ∧ x < N) (h1000 : N ≤ 1000) {k : Nat} (hk : k < N) :
    Calls Tryz.prog 48 #[.pointer (some ⟨b, 0, none⟩), .int .i64 (k : Int)] w fun e w' => (∃ o : Option Nat, e = .returned (.tuple #[.int .i64 (oS o), .bool o.isSome]) ∧ ∀ m, o = some m ↔ Lev6 S C k m) ∧ w = w' := by
  obtain ⟨g1, k1, g2, k2, rfl, rfl, hgg, hb1, hb2⟩ := hi.form (by omega)
  have cb1 := hi.c1
  have cb2 := hi.c2
  have HI := Lib.hid hi
  have HS := Lib.hid hs
  have HC := Lib.hid hC
  have H0 := Lib.hid (root_any hi hs.rt hs.lt hk)
  have hrk : r k < N := hs.rlt hk
  clear hi hs hC
  go_enter Tryz.func48, Tryz.ntmps48
  go_wp2_with fail
  refine (H0.out).mono ?_
  rintro e w1 ⟨rfl, rfl⟩
  go_wp2_with fail
  go_loopg [1, 6] (N + 1) (fun g s1 s6 wr => (∃ n m : Nat, s6 = .int .i64 (n : Int) ∧ s1 = .int .i64 (m : Int) ∧ n + g = N + 1 ∧ m < N ∧ Hid (∃ m', m' < N ∧ m = r m' ∧ Way6 S C k n m')) ∧ wr = w)
  case atStart => exact ⟨⟨0, r k, rfl, rfl, by omega, hrk, ⟨k, hk, rfl, Way6.start S C k⟩⟩, rfl⟩
  case round =>
    obtain ⟨⟨n, m, rfl, rfl, hg, hm, hw⟩, rfl⟩ := hrel
    by_cases hn : n ≤ N
    · have x1 := (HI.out.r2.cellAt m (by omega)).trans (rC_at N c hm)
      cases e : c m with
      | none =>
        have HL := Lib.hid (show Lev6 S C k n by
          obtain ⟨m', h1, h2, h3⟩ := hw.out
          exact h3.end_ HS.out (by rw [← h2]; exact e))
        rw [e] at x1
        have x1' : wr.cell? ⟨g2, m, none⟩ = some (.int .i64 (-1)) := x1
        clear x1 e
        go_wp2_with fail
        go_ret2
        exact ⟨⟨some n, rfl, fun m => ⟨fun h => by cases h; exact HL.out, fun h => by rw [h.one HL.out]⟩⟩, rfl⟩
      | some x =>
        have hx : x < N := HS.out.clt _ _ e
        have HR := Lib.hid (root_any HI.out HS.out.rt HS.out.lt hx)
        have hrx : r x < N := HS.out.rlt hx
        have HL := Lib.hid (show ∃ m', m' < N ∧ r x = r m' ∧ Way6 S C k (n + 1) m' by
          obtain ⟨m', h1, h2, h3⟩ := hw.out
          exact ⟨x, hx, rfl, h3.on HS.out (by rw [← h2]; exact e)⟩)
        rw [e] at x1
        have x1' : wr.cell? ⟨g2, m, none⟩ = some (.int .i64 (x : Int)) := x1
        obtain ⟨rx, hrxe⟩ : ∃ y, y = r x := ⟨_, rfl⟩
        rw [← hrxe] at HR hrx HL
        clear x1 e hrxe
        go_wp2_with fail
        refine (HR.out).mono ?_
        rintro e w1 ⟨rfl, rfl⟩
        go_wp2_with fail
        go_roundg (gk - 1)
        case measure => omega
        case rel => exact ⟨⟨n + 1, rx, by go_num, rfl, by omega, hrx, HL⟩, rfl⟩
    · have HL := Lib.hid (show ∀ m, ¬ Lev6 S C k m from fun j => by
        obtain ⟨m', h1, h2, h3⟩ := hw.out
        exact h3.none_ HS.out HC.out hk (by omega) j)
      go_wp2_with fail
      go_ret2
      exact ⟨⟨none, rfl, fun m => ⟨fun h => by (cases h), fun h => (HL.out m h).elim⟩⟩, rfl⟩
set_option maxHeartbeats 2000000 in
theorem soSortable_any {S C : Nat → Nat → Prop} {w : World} {b N z : Nat} {f r : Nat → Nat} {c : Nat → Option Nat} {v1 v2 : Value} (hi : SoAt w b N f c v1 v2) (hs : St6 S C N f r c z z) (hC : ∀ i x, C i x → i < N ∧ x < N) (h1000 : N ≤ 1000) :
    Calls Tryz.prog 47 #[.pointer (some ⟨b, 0, none⟩)] w fun e w' => (∃ q : Bool, e = .returned (.bool q) ∧ (q = true ↔ ∀ i, i < N → ∃ m, Lev6 S C i m)) ∧ w = w' := by
  obtain ⟨p1, q1, rfl⟩ := own_slice6 hi.r1
  have cb1 := hi.c1
  have HI := Lib.hid hi
  have HS := Lib.hid hs
  have HC := Lib.hid hC
  clear hi hs hC
  go_enter Tryz.func47, Tryz.ntmps47
  go_wp2_with fail
  go_loopg [11] N (fun g s11 wr => (∃ n : Nat, s11 = .int .i64 (n : Int) ∧ n + g = N ∧ Hid (∀ i, i < n → ∃ m, Lev6 S C i m)) ∧ wr = w)
  case atStart => exact ⟨⟨0, rfl, by omega, fun i h => by omega⟩, rfl⟩
  case round =>
    obtain ⟨⟨n, rfl, hg, hw⟩, rfl⟩ := hrel
    by_cases hn : n < N
    · have HB := Lib.hid (levelS_any HI.out HS.out HC.out h1000 hn)
      go_wp2_with fail
      refine (HB.out).mono ?_
      rintro e w1 ⟨⟨o, rfl, ho⟩, rfl⟩
      cases o with
      | none =>
        have HO := Lib.hid ho
        clear ho
        go_wp2_with fail
        go_ret
        exact ⟨⟨false, rfl, ⟨fun h => (by cases h), fun h => by obtain ⟨m, hm⟩ := h n hn; have := (HO.out m).2 hm; cases this⟩⟩, rfl⟩
      | some m =>
        have HO := Lib.hid ho
        clear ho
        go_wp2_with fail
        go_roundg (gk - 1)
        case measure => omega
        case rel =>
          refine ⟨⟨n + 1, by go_num, by omega, fun i hi => ?_⟩, rfl⟩
          by_cases e : i = n
          · subst e; exact ⟨m, (HO.out m).1 rfl⟩
          · exact hw.out i (by omega)
    · go_wp2_with fail
      go_ret
      exact ⟨⟨true, rfl, fun _ i hi => hw.out i (by omega), fun _ => rfl⟩, rfl⟩

end Go.Proofs.YtlhmjcfnfefliaaGreat.T1

/- Sorts in the specification: what is asked of those of a process. -/
namespace Go.Proofs.YtlhmjcfnfefliaaGreat.T1
open Go.RowKit
set_option maxRecDepth 100000
set_option linter.unusedVariables false
set_option linter.unusedSimpArgs false

/-- Block b has the sorts of a process. -/
def SpSo (w : World) (b : Nat) (t : Tm) : Prop := SpSta w b (ask6 t (idx6 t.free 0) t.free.length).2 (ask6 t (idx6 t.free 0) t.free.length).1
theorem SpSo.below {w w' : World} {b : Nat} {t : Tm} (h : SpSo w b t) (k : Below w.heap.size w w') : SpSo w' b t := SpSta.below h k
theorem bndS (t : Tm) : ∀ i x, C6 (ask6 t (idx6 t.free 0) t.free.length).1 i x → i < (ask6 t (idx6 t.free 0) t.free.length).2 ∧ x < (ask6 t (idx6 t.free 0) t.free.length).2 := (bounds6 t _ _ (fun c hc => idx6_lt (nd6 t) hc)).2
theorem NS (t : Tm) : t.free.length ≤ (ask6 t (idx6 t.free 0) t.free.length).2 ∧ (ask6 t (idx6 t.free 0) t.free.length).2 ≤ t.free.length + t.size := ask6_next t _ _
theorem idx_lt (t : Tm) {c : UInt8} (h : c ∈ t.free) : idx6 t.free 0 c < (ask6 t (idx6 t.free 0) t.free.length).2 := Nat.lt_of_lt_of_le (idx6_lt (nd6 t) h) (NS t).1
theorem sb_can {w : World} {b : Nat} {t : Tm} (h : SpSo w b t) (hl : Lets t.free) (h60 : t.size ≤ 60) : Calls Tryz.prog 47 #[.pointer (some ⟨b, 0, none⟩)] w fun e w' => e = .returned (.bool (decB (able6 t))) ∧ w = w' := by
  obtain ⟨f, r, c, v1, v2, h1, h2⟩ := h
  have hN : (ask6 t (idx6 t.free 0) t.free.length).2 ≤ 1000 := by have := (NS t).2; have := srt_lenL (srt_free t) hl; omega
  refine (soSortable_any h1 h2 (bndS t) hN).mono ?_
  rintro e w' ⟨⟨q, he, hq⟩, bl⟩
  refine ⟨?_, bl⟩
  rw [he, show q = decB (able6 t) from by rw [Bool.eq_iff_iff, decB_iff, hq, able6_idx (nd6 t) hl]]
theorem sb_level {w : World} {b : Nat} {t : Tm} (h : SpSo w b t) (hl : Lets t.free) (h60 : t.size ≤ 60) {a : UInt8} (ha : a ∈ t.free) : Calls Tryz.prog 48 #[.pointer (some ⟨b, 0, none⟩), .int .i64 (idx6 t.free 0 a : Int)] w fun e w' => e = .returned (.tuple #[.int .i64 (oS (levO t a)), .bool (levO t a).isSome]) ∧ w = w' := by
  obtain ⟨f, r, c, v1, v2, h1, h2⟩ := h
  have hN : (ask6 t (idx6 t.free 0) t.free.length).2 ≤ 1000 := by have := (NS t).2; have := srt_lenL (srt_free t) hl; omega
  refine (levelS_any h1 h2 (bndS t) hN (idx_lt t ha)).mono ?_
  rintro e w' ⟨⟨o, he, ho⟩, bl⟩
  refine ⟨?_, bl⟩
  rw [he, levO_eq (o := o) (fun m => by rw [ho, lev6_idx (nd6 t) hl ha])]
theorem soOf_good (s : ByteArray) (t : Tm) (hg : good s.data.toList = some t) (w : World) : Calls Tryz.prog 30 #[.string s] w fun e w' => (∃ b, e = .returned (.pointer (some ⟨b, 0, none⟩)) ∧ w.heap.size ≤ b ∧ SpSo w' b t) ∧ Below w.heap.size w w' := by
  obtain ⟨es, hL, hE, h300, h60⟩ := good_S hg
  have := soOf_any t hE hL h300 h60 w
  rw [← es] at this
  exact this

end Go.Proofs.YtlhmjcfnfefliaaGreat.T1
