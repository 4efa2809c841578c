/- Texts of the proof, put together: Gc, Gn, Gk. No conditions. -/
import Derived.Test.YtlhmjcfnfefliaaGreatHab
import Derived.Test.YtlhmjcfnfefliaaGreatHbn
import Derived.Test.YtlhmjcfnfefliaaGreatProg
import Derived.WalkKit
import Derived.ProofKit
import Derived.Lib.Hide
import Derived.RegionTactic
import Derived.Deep.QuietTactic
import Derived.Deep.DeepCutAuto
import Derived.Laws.Rows
import Derived.Laws.Bits64b
import Derived.BigRegion
import Derived.Deep.RegionHeld3
import Derived.Deep.RegionWith

/- The cursor by which inputs are drawn: what it answers is a small number; nothing that was there turns but the cursor. No conditions. -/
namespace Go.Proofs.YtlhmjcfnfefliaaGreat.T1
open Go.RowKit
set_option maxRecDepth 100000
set_option linter.unusedVariables false
set_option linter.unusedSimpArgs false

/-- The bytes that came in, in memory below the block c. -/
def CodeIn (w : World) (a : Option Addr) (n c : Nat) : Prop := n ≤ 140737488351232 ∧ (n = 0 ∨ ∃ x, a = some x ∧ x.block < c ∧ ∀ j, j < n → ∃ z : Int, 0 ≤ z ∧ z ≤ 255 ∧ w.cell? (x.add j) = some (.int .u8 z))
/-- Block c is a cursor, which has come at most to place k. -/
def Cur (w : World) (c k : Nat) : Prop := ∃ (a : Option Addr) (n cap i : Nat) (s : Int), w.heap[c]? = some (.cells #[.slice a n cap, .int .i64 (i : Int), .int .u64 s] 38 (0, 0)) ∧ i ≤ k ∧ CodeIn w a n c
theorem Cur.lt {w : World} {c k : Nat} (h : Cur w c k) : c < w.heap.size := by obtain ⟨_, _, _, _, _, h, _⟩ := h; exact lt_of_block h
theorem add_blk (a : Addr) (n : Nat) : (a.add n).block = a.block := by unfold Addr.add; split <;> rfl
theorem CodeIn.keep {w w' : World} {a : Option Addr} {n c b : Nat} (h : CodeIn w a n c) (hc : c < w.heap.size) (hb : c ≤ b) (k : Only b w w') : CodeIn w' a n c := by
  obtain ⟨h1, h | ⟨x, e, hx, h⟩⟩ := h
  · exact ⟨h1, .inl h⟩
  · refine ⟨h1, .inr ⟨x, e, hx, fun j hj => ?_⟩⟩
    obtain ⟨z, z0, z1, hz⟩ := h j hj
    refine ⟨z, z0, z1, ?_⟩
    rw [← hz]
    unfold World.cell?
    rw [add_blk, k.block _ (by omega) (by omega)]
theorem Cur.below {w w' : World} {c k : Nat} (h : Cur w c k) (b : Below w.heap.size w w') : Cur w' c k := by
  obtain ⟨a, n, cap, i, s, h1, h2, h3⟩ := h
  have := lt_of_block h1
  exact ⟨a, n, cap, i, s, (b.block c this).trans h1, h2, h3.keep this (Nat.le_of_lt this) ⟨b.os, b.tape, b.output, b.size, fun k hk _ => b.block k hk⟩⟩
theorem Cur.mono {w : World} {c k k' : Nat} (h : Cur w c k) (hk : k ≤ k') : Cur w c k' := by
  obtain ⟨a, n, cap, i, s, h1, h2, h3⟩ := h
  exact ⟨a, n, cap, i, s, h1, by omega, h3⟩
/-- What a draw answers: a value, the cursor further on, and nothing else turned. -/
def Dr (P : Value → Prop) (c k : Nat) (w : World) (e : Ending) (w' : World) : Prop := ∃ v, e = .returned v ∧ P v ∧ Cur w' c k ∧ Only c w w'
def IsUpTo (n : Nat) (v : Value) : Prop := ∃ r : Nat, r < n ∧ v = .int .i64 (r : Int)

theorem set_at {w : World} {c : Nat} {cs : Array Value} {T : TypeId} {f : Nat × Nat} (hb : w.heap[c]? = some (.cells cs T f)) (o : Nat) (x : Value) : (w.setCell ⟨c, o, none⟩ x).heap[c]? = some (.cells (cs.setIfInBounds o x) T f) := by
  have hlt := lt_of_block hb
  have h' : w.heap[c] = .cells cs T f := by simpa [Array.getElem?_eq_getElem hlt] using hb
  show (w.heap.modify c _)[c]? = _
  rw [Array.getElem?_eq_getElem (by simpa using hlt), Array.getElem_modify_self, h']
  rfl
theorem cur_set {w : World} {c : Nat} {sl : Value} {i s : Int} {T : TypeId} (hb : w.heap[c]? = some (.cells #[sl, .int .i64 i, .int .u64 s] T (0, 0))) (i' s' : Int) : ((w.setCell ⟨c, 1, none⟩ (.int .i64 i')).setCell ⟨c, 2, none⟩ (.int .u64 s')).heap[c]? = some (.cells #[sl, .int .i64 i', .int .u64 s'] T (0, 0)) := by
  rw [set_at (set_at hb 1 _) 2 _]; rfl
theorem only_two {w W : World} {c : Nat} (h : Only c w W) (i' s' : Int) : Only c w ((W.setCell ⟨c, 1, none⟩ (.int .i64 i')).setCell ⟨c, 2, none⟩ (.int .u64 s')) := (h.setCell 1 none _).setCell 2 none _
theorem wrap_u (x : Int) : 0 ≤ IntKind.u64.wrap x ∧ IntKind.u64.wrap x < 18446744073709551616 := by
  rw [IntKind.wrap_u64]; omega
theorem and_255 (E : Int) (h0 : 0 ≤ E) (h1 : E < 18446744073709551616) : ∃ r : Nat, r < 256 ∧ wrap64 (bits .and .u64 (E / 1099511627776) 255) = (r : Int) := by
  obtain ⟨e, rfl⟩ := Int.eq_ofNat_of_zero_le h0
  have h2 : ((e : Int) / 1099511627776) = ((e / 1099511627776 : Nat) : Int) := by omega
  rw [h2]
  have h3 := bits_and_u64_nat (e / 1099511627776) 255 (by omega) (by decide)
  rw [show (255 : Int) = ((255 : Nat) : Int) from rfl, h3]
  have h4 : (e / 1099511627776) &&& 255 ≤ 255 := Nat.and_le_right
  refine ⟨(e / 1099511627776) &&& 255, by omega, ?_⟩
  unfold wrap64; omega

set_option maxHeartbeats 1000000 in
theorem drNext_any (c k : Nat) (hk : k ≤ 1000000) (w : World) (hC : Cur w c k) : Calls Tryz.prog 76 #[.pointer (some ⟨c, 0, none⟩)] w (Dr (IsUpTo 256) c (k + 1) w) := by
  obtain ⟨a, n, cap, i, s, hb, hi, hn, hrow⟩ := hC
  have x0 : w.cell? ⟨c, 0, none⟩ = some (.slice a n cap) := by simp [World.cell?, hb]
  have x1 : w.cell? ⟨c, 1, none⟩ = some (.int .i64 (i : Int)) := by simp [World.cell?, hb]
  have x2 : w.cell? ⟨c, 2, none⟩ = some (.int .u64 s) := by simp [World.cell?, hb]
  have f1 : w.frozen? ⟨c, 1, none⟩ = false := by simp [World.frozen?, hb]
  have f2 : w.frozen? ⟨c, 2, none⟩ = false := by simp [World.frozen?, hb]
  have HB := Lib.hid hb
  have hwi : IntKind.i64.wrap ((i : Int) + 1) = (i : Int) + 1 := by rw [IntKind.wrap_i64] <;> omega
  have HC : Hid (CodeIn w a n c) := Lib.hid ⟨hn, hrow⟩
  by_cases hlt : i < n
  · have h1 : decide ((i : Int) < (n : Int)) = true := by simp; omega
    obtain ⟨x, rfl, hx, hz⟩ := hrow.resolve_left (by omega)
    obtain ⟨z, z0, z1, hz⟩ := hz i hlt
    have hwz : IntKind.i64.wrap z = z := by rw [IntKind.wrap_i64] <;> omega
    have h2 : decide ((i : Int) + 1 ≤ (n : Int)) = true := by simp; omega
    clear hb
    go_enter Tryz.func76, Tryz.ntmps76
    go_wp2_with fail
    go_quiet (fail)
    go_wp2_with fail
    obtain ⟨W, hW, X0, X1, X2, F1, F2, HZ, HB2, HC2, HO⟩ : ∃ W, World.drewN w nq = W ∧ W.cell? ⟨c, 0, none⟩ = some (.slice (some x) n cap) ∧ W.cell? ⟨c, 1, none⟩ = some (.int .i64 (i : Int)) ∧ W.cell? ⟨c, 2, none⟩ = some (.int .u64 s) ∧ W.frozen? ⟨c, 1, none⟩ = false ∧ W.frozen? ⟨c, 2, none⟩ = false ∧ W.cell? (x.add i) = some (.int .u8 z) ∧ Hid (W.heap[c]? = some (.cells #[.slice (some x) n cap, .int .i64 (i : Int), .int .u64 s] 38 (0, 0))) ∧ Hid (CodeIn W (some x) n c) ∧ Only c w W := ⟨_, rfl, x0, x1, x2, f1, f2, hz, HB, HC, (Only.refl c w).drewN _⟩
    rw [hW]
    clear hW x0 x1 x2 f1 f2 hz HB HC
    go_wp2_with fail
    go_quiet (fail)
    go_wp2_with fail
    generalize IntKind.u64.wrap (IntKind.u64.wrap (IntKind.u64.wrap (s * 6364136223846793005) + z) + 1442695040888963407) = E
    obtain ⟨W2, hW2, HC3, Y0, Y1, HB3, HO2⟩ : ∃ W2, ((W.drewN nq).setCell ⟨c, 1, none⟩ (.int .i64 ((i : Int) + 1))).setCell ⟨c, 2, none⟩ (.int .u64 E) = W2 ∧ Hid (CodeIn W2 (some x) n c) ∧ W2.cell? ⟨c, 0, none⟩ = some (.slice (some x) n cap) ∧ W2.cell? ⟨c, 1, none⟩ = some (.int .i64 ((i : Int) + 1)) ∧ Hid (W2.heap[c]? = some (.cells #[.slice (some x) n cap, .int .i64 ((i : Int) + 1), .int .u64 E] 38 (0, 0))) ∧ Only c w W2 := by
      have hh := cur_set (w := W.drewN nq) HB2.out ((i : Int) + 1) E
      exact ⟨_, rfl, HC2.out.keep (lt_of_block HB2.out) (Nat.le_refl _) (only_two ((Only.refl c W).drewN nq) _ _), by simp [World.cell?, hh], by simp [World.cell?, hh], Lib.hid hh, only_two (HO.drewN nq) _ _⟩
    rw [hW2]
    clear hW2 X0 X1 X2 F1 F2 HZ HB2
    go_quiet (fail)
    go_wp2_with fail
    go_ret
    have hO3 := HO2.drewN nq
    exact ⟨.int .i64 z, rfl, ⟨z.toNat, by omega, by rw [Int.toNat_of_nonneg z0]⟩, ⟨some x, n, cap, i + 1, E, HB3.out, by omega, HC3.out⟩, hO3⟩
  · have h1 : decide ((i : Int) < (n : Int)) = false := by simp; omega
    have h2 : decide ((i : Int) + 1 ≤ (n : Int)) = false := by simp; omega
    clear hb
    go_enter Tryz.func76, Tryz.ntmps76
    go_wp2_with fail
    go_quiet (fail)
    obtain ⟨W, hW, X0, X1, X2, F1, F2, HB2, HC2, HO⟩ : ∃ W, World.drewN w nq = W ∧ W.cell? ⟨c, 0, none⟩ = some (.slice a n cap) ∧ W.cell? ⟨c, 1, none⟩ = some (.int .i64 (i : Int)) ∧ W.cell? ⟨c, 2, none⟩ = some (.int .u64 s) ∧ W.frozen? ⟨c, 1, none⟩ = false ∧ W.frozen? ⟨c, 2, none⟩ = false ∧ Hid (W.heap[c]? = some (.cells #[.slice a n cap, .int .i64 (i : Int), .int .u64 s] 38 (0, 0))) ∧ Hid (CodeIn W a n c) ∧ Only c w W := ⟨_, rfl, x0, x1, x2, f1, f2, HB, HC, (Only.refl c w).drewN _⟩
    rw [hW]
    clear hW x0 x1 x2 f1 f2 HB HC
    go_wp2_with fail
    generalize hE : IntKind.u64.wrap (IntKind.u64.wrap (IntKind.u64.wrap (s * 6364136223846793005)) + 1442695040888963407) = E
    have hE0 : 0 ≤ E ∧ E < 18446744073709551616 := hE ▸ wrap_u _
    clear hE
    obtain ⟨W2, hW2, HC3, Y0, Y1, Y2, HB3, HO2⟩ : ∃ W2, (W.setCell ⟨c, 1, none⟩ (.int .i64 ((i : Int) + 1))).setCell ⟨c, 2, none⟩ (.int .u64 E) = W2 ∧ Hid (CodeIn W2 a n c) ∧ W2.cell? ⟨c, 0, none⟩ = some (.slice a n cap) ∧ W2.cell? ⟨c, 1, none⟩ = some (.int .i64 ((i : Int) + 1)) ∧ W2.cell? ⟨c, 2, none⟩ = some (.int .u64 E) ∧ Hid (W2.heap[c]? = some (.cells #[.slice a n cap, .int .i64 ((i : Int) + 1), .int .u64 E] 38 (0, 0))) ∧ Only c w W2 := by
      have hh := cur_set (w := W) HB2.out ((i : Int) + 1) E
      exact ⟨_, rfl, HC2.out.keep (lt_of_block HB2.out) (Nat.le_refl _) (only_two (Only.refl c W) _ _), by simp [World.cell?, hh], by simp [World.cell?, hh], by simp [World.cell?, hh], Lib.hid hh, only_two HO _ _⟩
    rw [hW2]
    clear hW2 X0 X1 X2 F1 F2 HB2
    go_quiet (fail)
    go_wp2_with fail
    obtain ⟨r, hr, hr2⟩ := and_255 E hE0.1 hE0.2
    rw [hr2]
    go_ret
    have hO3 := HO2.drewN nq
    exact ⟨.int .i64 (r : Int), rfl, ⟨r, hr, rfl⟩, ⟨a, n, cap, i + 1, E, HB3.out, by omega, HC3.out⟩, hO3⟩
end Go.Proofs.YtlhmjcfnfefliaaGreat.T1

/- Processes with few free names at each place: renaming keeps to letters, and renaming back gives an alike one. No conditions. -/
namespace Go.Proofs.YtlhmjcfnfefliaaGreat.T1

def nm5 (c : UInt8) : Bool := c == 97 || c == 98 || c == 99 || c == 120 || c == 121
def AB (c : UInt8) : Bool := nm5 c || !nmL c
end Go.Proofs.YtlhmjcfnfefliaaGreat.T1

/- Choices that are drawn: numbers below a bound, elements of lists, names. No conditions. -/
namespace Go.Proofs.YtlhmjcfnfefliaaGreat.T1
open Go.RowKit
set_option maxRecDepth 100000
set_option linter.unusedVariables false
set_option linter.unusedSimpArgs false

set_option maxHeartbeats 1000000 in
theorem pick_any (c k n : Nat) (hk : k ≤ 900000) (hn : n ≤ 1000000) (w : World) (hC : Cur w c k) : Calls Tryz.prog 40 #[.pointer (some ⟨c, 0, none⟩), .int .i64 (n : Int)] w (Dr (IsUpTo (n + 1 - (if 1 ≤ n then 1 else 0))) c (k + 2) w) := by
  have HC := Lib.hid hC
  clear hC
  by_cases h1 : n ≤ 1
  · have h2 : decide ((n : Int) ≤ 1) = true := by simp; omega
    have hn1 : 0 < n + 1 - (if 1 ≤ n then 1 else 0) := by split <;> omega
    generalize n + 1 - (if 1 ≤ n then 1 else 0) = N at hn1 ⊢
    go_enter Tryz.func40, Tryz.ntmps40
    go_wp2_with fail
    go_ret
    exact ⟨.int .i64 0, rfl, ⟨0, hn1, rfl⟩, HC.out.mono (by omega), Only.refl _ _⟩
  · have h2 : decide ((n : Int) ≤ 1) = false := by simp; omega
    have hN : n + 1 - (if 1 ≤ n then 1 else 0) = n := by rw [if_pos (by omega)]; omega
    rw [hN]
    clear hN
    have H := Lib.hid (drNext_any c k (by omega) w HC.out)
    by_cases h3 : 200 < n
    · have h4 : decide (200 < (n : Int)) = true := by simp; omega
      go_enter Tryz.func40, Tryz.ntmps40
      go_wp2_with fail
      refine H.out.mono ?_
      rintro e w1 ⟨v, rfl, ⟨r, hr, rfl⟩, C1, O1⟩
      have H2 := Lib.hid (drNext_any c (k + 1) (by omega) w1 C1)
      have O1' := Lib.hid O1
      have hw1 : IntKind.i64.wrap ((r : Int) * 256) = (r : Int) * 256 := by rw [IntKind.wrap_i64] <;> omega
      clear C1 O1
      go_wp2_with fail
      refine H2.out.mono ?_
      rintro e w2 ⟨v, rfl, ⟨r2, hr2, rfl⟩, C2, O2⟩
      have hw2 : IntKind.i64.wrap ((r : Int) * 256 + (r2 : Int)) = (r : Int) * 256 + (r2 : Int) := by rw [IntKind.wrap_i64] <;> omega
      have hnz : (n : Int) ≠ 0 := by omega
      have C2' := Lib.hid C2
      have O2' := Lib.hid O2
      clear C2 O2
      go_wp2_with fail
      go_ret
      refine ⟨.int .i64 (((r : Int) * 256 + (r2 : Int)) % (n : Int)), rfl, ⟨(r * 256 + r2) % n, Nat.mod_lt _ (by omega), by simp⟩, C2'.out.mono (by omega), O1'.out.trans O2'.out⟩
    · have h4 : decide (200 < (n : Int)) = false := by simp; omega
      go_enter Tryz.func40, Tryz.ntmps40
      go_wp2_with fail
      refine H.out.mono ?_
      rintro e w1 ⟨v, rfl, ⟨r, hr, rfl⟩, C1, O1⟩
      have C1' := Lib.hid C1
      have O1' := Lib.hid O1
      have hnz : (n : Int) ≠ 0 := by omega
      clear C1 O1
      go_wp2_with fail
      go_ret
      exact ⟨.int .i64 ((r : Int) % (n : Int)), rfl, ⟨r % n, Nat.mod_lt _ (by omega), by simp⟩, C1'.out.mono (by omega), O1'.out⟩
theorem pick_lt (c k n : Nat) (h0 : 1 ≤ n) (hk : k ≤ 900000) (hn : n ≤ 1000000) (w : World) (hC : Cur w c k) : Calls Tryz.prog 40 #[.pointer (some ⟨c, 0, none⟩), .int .i64 (n : Int)] w (Dr (IsUpTo n) c (k + 2) w) := by
  have h := pick_any c k n hk hn w hC
  rw [if_pos h0] at h
  exact h
def IsBool (v : Value) : Prop := ∃ b : Bool, v = .bool b
theorem one_any (c k n : Nat) (h0 : 1 ≤ n) (hk : k ≤ 900000) (hn : n ≤ 1000000) (w : World) (hC : Cur w c k) : Calls Tryz.prog 37 #[.pointer (some ⟨c, 0, none⟩), .int .i64 (n : Int)] w (Dr IsBool c (k + 2) w) := by
  have H := Lib.hid (pick_lt c k n h0 hk hn w hC)
  clear hC
  go_enter Tryz.func37, Tryz.ntmps37
  go_wp2_with fail
  refine H.out.mono ?_
  rintro e w1 ⟨v, rfl, ⟨r, hr, rfl⟩, C1, O1⟩
  have C1' := Lib.hid C1
  have O1' := Lib.hid O1
  clear C1 O1
  go_wp2_with fail
  go_ret
  exact ⟨.bool ((r : Int) == 0), rfl, ⟨_, rfl⟩, C1'.out, O1'.out⟩
/-- A text of at most n bytes over the letters and signs of what is drawn. -/
def Ab (n : Nat) (v : Value) : Prop := ∃ s : ByteArray, v = .string s ∧ s.size ≤ n ∧ ∀ b ∈ s.data.toList, AB b = true
def IsNm (v : Value) : Prop := ∃ ch : UInt8, nm5 ch = true ∧ v = .string (one ch)
set_option maxHeartbeats 1000000 in
theorem of_any (P : Value → Prop) (c k g m : Nat) (h0 : 1 ≤ m) (hk : k ≤ 900000) (hn : m ≤ 1000000) (w : World) (hg : g ≠ c) (hx : ∀ j, j < m → ∃ s : ByteArray, P (.string s) ∧ w.cell? ⟨g, j, none⟩ = some (.string s)) (hC : Cur w c k) :
    Calls Tryz.prog 38 #[.pointer (some ⟨c, 0, none⟩), .slice (some ⟨g, 0, none⟩) m m] w (Dr P c (k + 2) w) := by
  have H := Lib.hid (pick_lt c k m h0 hk hn w hC)
  have HX := Lib.hid hx
  clear hC hx
  go_enter Tryz.func38, Tryz.ntmps38
  go_wp2_with fail
  refine H.out.mono ?_
  rintro e w1 ⟨v, rfl, ⟨r, hr, rfl⟩, C1, O1⟩
  obtain ⟨s, hP, hc⟩ := HX.out r hr
  have hc1 : w1.cell? ⟨g, r, none⟩ = some (.string s) := by
    rw [← hc]
    unfold World.cell?
    rw [O1.block g (by
      unfold World.cell? at hc
      rcases h : w.heap[g]? with _ | o
      · rw [h] at hc; cases hc
      · exact lt_of_block h) hg]
  have C1' := Lib.hid C1
  have O1' := Lib.hid O1
  have hP' := Lib.hid hP
  have hr' : (r : Int) < (m : Int) := by omega
  clear C1 O1 hP hc
  go_wp2_with fail
  go_ret
  exact ⟨.string s, rfl, hP'.out, C1'.out, O1'.out⟩
theorem alloc_cell {w : World} {cs : Array Value} {T : TypeId} {j : Nat} {v : Value} (h : cs[j]? = some v) : (w.alloc (.cells cs T)).cell? ⟨w.heap.size, j, none⟩ = some v := by
  have hb : (w.alloc (.cells cs T)).heap[w.heap.size]? = some (.cells cs T (0, 0)) := by
    show (w.heap.push _)[w.heap.size]? = _
    rw [Array.getElem?_push_size]
  unfold World.cell?
  simp only [hb]
  exact h
set_option maxHeartbeats 1000000 in
theorem drName_any (c k : Nat) (hk : k ≤ 900000) (w : World) (hC : Cur w c k) : Calls Tryz.prog 41 #[.pointer (some ⟨c, 0, none⟩)] w (Dr IsNm c (k + 2) w) := by
  have HC := Lib.hid hC
  clear hC
  go_enter Tryz.func41, Tryz.ntmps41
  go_wp2_with fail
  refine (of_any IsNm c k w.heap.size 7 (by decide) hk (by decide) _ (Nat.ne_of_gt HC.out.lt) ?_ (HC.out.below ((Below.refl _ _).alloc (Nat.le_refl _) _))).mono ?_
  · intro j hj
    rcases (show j = 0 ∨ j = 1 ∨ j = 2 ∨ j = 3 ∨ j = 4 ∨ j = 5 ∨ j = 6 from by omega) with rfl | rfl | rfl | rfl | rfl | rfl | rfl
    · exact ⟨_, ⟨97, by decide, rfl⟩, alloc_cell rfl⟩
    · exact ⟨_, ⟨98, by decide, rfl⟩, alloc_cell rfl⟩
    · exact ⟨_, ⟨99, by decide, rfl⟩, alloc_cell rfl⟩
    · exact ⟨_, ⟨97, by decide, rfl⟩, alloc_cell rfl⟩
    · exact ⟨_, ⟨98, by decide, rfl⟩, alloc_cell rfl⟩
    · exact ⟨_, ⟨120, by decide, rfl⟩, alloc_cell rfl⟩
    · exact ⟨_, ⟨121, by decide, rfl⟩, alloc_cell rfl⟩
  · rintro e w1 ⟨v, rfl, ⟨ch, hch, rfl⟩, C1, O1⟩
    have C1' := Lib.hid C1
    have O1' := Lib.hid ((Only.refl c w).alloc _ |>.trans O1)
    clear C1 O1
    go_wp2_with fail
    go_ret
    exact ⟨.string (one ch), rfl, ⟨ch, hch, rfl⟩, C1'.out, O1'.out⟩
end Go.Proofs.YtlhmjcfnfefliaaGreat.T1
