/- Texts of the proof, put together: Gc. No conditions. -/
import Derived.Test.YtajgncapgeiniaaGreatHab
import Derived.Test.YtajgncapgeiniaaGreatProg
import Derived.WalkKit
import Derived.ProofKit
import Derived.Lib.Hide
import Derived.RegionTactic
import Derived.Deep.QuietTactic
import Derived.Deep.DeepCutAuto
import Derived.Laws.Rows
import Derived.Laws.Bits64b
import Derived.BigRegion
import Derived.Deep.RegionHeld3
import Derived.Deep.RegionWith

/- The cursor by which inputs are drawn: what it answers is a small number; nothing that was there turns but the cursor. No conditions. -/
namespace Go.Proofs.YtajgncapgeiniaaGreat.T1
open Go.RowKit
set_option maxRecDepth 100000
set_option linter.unusedVariables false
set_option linter.unusedSimpArgs false

/-- The bytes that came in, in memory below the block c. -/
def CodeIn (w : World) (a : Option Addr) (n c : Nat) : Prop := n ≤ 140737488351232 ∧ (n = 0 ∨ ∃ x, a = some x ∧ x.block < c ∧ ∀ j, j < n → ∃ z : Int, 0 ≤ z ∧ z ≤ 255 ∧ w.cell? (x.add j) = some (.int .u8 z))
/-- Block c is a cursor, which has come at most to place k. -/
def Cur (w : World) (c k : Nat) : Prop := ∃ (a : Option Addr) (n cap i : Nat) (s : Int), w.heap[c]? = some (.cells #[.slice a n cap, .int .i64 (i : Int), .int .u64 s] 63 (0, 0)) ∧ i ≤ k ∧ CodeIn w a n c
theorem Cur.lt {w : World} {c k : Nat} (h : Cur w c k) : c < w.heap.size := by obtain ⟨_, _, _, _, _, h, _⟩ := h; exact lt_of_block h
theorem add_blk (a : Addr) (n : Nat) : (a.add n).block = a.block := by unfold Addr.add; split <;> rfl
theorem CodeIn.keep {w w' : World} {a : Option Addr} {n c b : Nat} (h : CodeIn w a n c) (hc : c < w.heap.size) (hb : c ≤ b) (k : Only b w w') : CodeIn w' a n c := by
  obtain ⟨h1, h | ⟨x, e, hx, h⟩⟩ := h
  · exact ⟨h1, .inl h⟩
  · refine ⟨h1, .inr ⟨x, e, hx, fun j hj => ?_⟩⟩
    obtain ⟨z, z0, z1, hz⟩ := h j hj
    refine ⟨z, z0, z1, ?_⟩
    rw [← hz]
    unfold World.cell?
    rw [add_blk, k.block _ (by omega) (by omega)]
theorem Cur.below {w w' : World} {c k : Nat} (h : Cur w c k) (b : Below w.heap.size w w') : Cur w' c k := by
  obtain ⟨a, n, cap, i, s, h1, h2, h3⟩ := h
  have := lt_of_block h1
  exact ⟨a, n, cap, i, s, (b.block c this).trans h1, h2, h3.keep this (Nat.le_of_lt this) ⟨b.os, b.tape, b.output, b.size, fun k hk _ => b.block k hk⟩⟩
theorem Cur.mono {w : World} {c k k' : Nat} (h : Cur w c k) (hk : k ≤ k') : Cur w c k' := by
  obtain ⟨a, n, cap, i, s, h1, h2, h3⟩ := h
  exact ⟨a, n, cap, i, s, h1, by omega, h3⟩
/-- What a draw answers: a value, the cursor further on, and nothing else turned. -/
def Dr (P : Value → Prop) (c k : Nat) (w : World) (e : Ending) (w' : World) : Prop := ∃ v, e = .returned v ∧ P v ∧ Cur w' c k ∧ Only c w w'
def IsUpTo (n : Nat) (v : Value) : Prop := ∃ r : Nat, r < n ∧ v = .int .i64 (r : Int)

theorem set_at {w : World} {c : Nat} {cs : Array Value} {T : TypeId} {f : Nat × Nat} (hb : w.heap[c]? = some (.cells cs T f)) (o : Nat) (x : Value) : (w.setCell ⟨c, o, none⟩ x).heap[c]? = some (.cells (cs.setIfInBounds o x) T f) := by
  have hlt := lt_of_block hb
  have h' : w.heap[c] = .cells cs T f := by simpa [Array.getElem?_eq_getElem hlt] using hb
  show (w.heap.modify c _)[c]? = _
  rw [Array.getElem?_eq_getElem (by simpa using hlt), Array.getElem_modify_self, h']
  rfl
theorem cur_set {w : World} {c : Nat} {sl : Value} {i s : Int} {T : TypeId} (hb : w.heap[c]? = some (.cells #[sl, .int .i64 i, .int .u64 s] T (0, 0))) (i' s' : Int) : ((w.setCell ⟨c, 1, none⟩ (.int .i64 i')).setCell ⟨c, 2, none⟩ (.int .u64 s')).heap[c]? = some (.cells #[sl, .int .i64 i', .int .u64 s'] T (0, 0)) := by
  rw [set_at (set_at hb 1 _) 2 _]; rfl
theorem only_two {w W : World} {c : Nat} (h : Only c w W) (i' s' : Int) : Only c w ((W.setCell ⟨c, 1, none⟩ (.int .i64 i')).setCell ⟨c, 2, none⟩ (.int .u64 s')) := (h.setCell 1 none _).setCell 2 none _
theorem wrap_u (x : Int) : 0 ≤ IntKind.u64.wrap x ∧ IntKind.u64.wrap x < 18446744073709551616 := by
  rw [IntKind.wrap_u64]; omega
theorem and_255 (E : Int) (h0 : 0 ≤ E) (h1 : E < 18446744073709551616) : ∃ r : Nat, r < 256 ∧ wrap64 (bits .and .u64 (E / 1099511627776) 255) = (r : Int) := by
  obtain ⟨e, rfl⟩ := Int.eq_ofNat_of_zero_le h0
  have h2 : ((e : Int) / 1099511627776) = ((e / 1099511627776 : Nat) : Int) := by omega
  rw [h2]
  have h3 := bits_and_u64_nat (e / 1099511627776) 255 (by omega) (by decide)
  rw [show (255 : Int) = ((255 : Nat) : Int) from rfl, h3]
  have h4 : (e / 1099511627776) &&& 255 ≤ 255 := Nat.and_le_right
  refine ⟨(e / 1099511627776) &&& 255, by omega, ?_⟩
  unfold wrap64; omega

set_option maxHeartbeats 1000000 in
theorem drNext_any (c k : Nat) (hk : k ≤ 1000000) (w : World) (hC : Cur w c k) : Calls Tryz.prog 130 #[.pointer (some ⟨c, 0, none⟩)] w (Dr (IsUpTo 256) c (k + 1) w) := by
  obtain ⟨a, n, cap, i, s, hb, hi, hn, hrow⟩ := hC
  have x0 : w.cell? ⟨c, 0, none⟩ = some (.slice a n cap) := by simp [World.cell?, hb]
  have x1 : w.cell? ⟨c, 1, none⟩ = some (.int .i64 (i : Int)) := by simp [World.cell?, hb]
  have x2 : w.cell? ⟨c, 2, none⟩ = some (.int .u64 s) := by simp [World.cell?, hb]
  have f1 : w.frozen? ⟨c, 1, none⟩ = false := by simp [World.frozen?, hb]
  have f2 : w.frozen? ⟨c, 2, none⟩ = false := by simp [World.frozen?, hb]
  have HB := Lib.hid hb
  have hwi : IntKind.i64.wrap ((i : Int) + 1) = (i : Int) + 1 := by rw [IntKind.wrap_i64] <;> omega
  have HC : Hid (CodeIn w a n c) := Lib.hid ⟨hn, hrow⟩
  by_cases hlt : i < n
  · have h1 : decide ((i : Int) < (n : Int)) = true := by simp; omega
    obtain ⟨x, rfl, hx, hz⟩ := hrow.resolve_left (by omega)
    obtain ⟨z, z0, z1, hz⟩ := hz i hlt
    have hwz : IntKind.i64.wrap z = z := by rw [IntKind.wrap_i64] <;> omega
    have h2 : decide ((i : Int) + 1 ≤ (n : Int)) = true := by simp; omega
    clear hb
    go_enter Tryz.func130, Tryz.ntmps130
    go_wp2_with fail
    go_quiet (fail)
    go_wp2_with fail
    obtain ⟨W, hW, X0, X1, X2, F1, F2, HZ, HB2, HC2, HO⟩ : ∃ W, World.drewN w nq = W ∧ W.cell? ⟨c, 0, none⟩ = some (.slice (some x) n cap) ∧ W.cell? ⟨c, 1, none⟩ = some (.int .i64 (i : Int)) ∧ W.cell? ⟨c, 2, none⟩ = some (.int .u64 s) ∧ W.frozen? ⟨c, 1, none⟩ = false ∧ W.frozen? ⟨c, 2, none⟩ = false ∧ W.cell? (x.add i) = some (.int .u8 z) ∧ Hid (W.heap[c]? = some (.cells #[.slice (some x) n cap, .int .i64 (i : Int), .int .u64 s] 63 (0, 0))) ∧ Hid (CodeIn W (some x) n c) ∧ Only c w W := ⟨_, rfl, x0, x1, x2, f1, f2, hz, HB, HC, (Only.refl c w).drewN _⟩
    rw [hW]
    clear hW x0 x1 x2 f1 f2 hz HB HC
    go_wp2_with fail
    go_quiet (fail)
    go_wp2_with fail
    generalize IntKind.u64.wrap (IntKind.u64.wrap (IntKind.u64.wrap (s * 6364136223846793005) + z) + 1442695040888963407) = E
    obtain ⟨W2, hW2, HC3, Y0, Y1, HB3, HO2⟩ : ∃ W2, ((W.drewN nq).setCell ⟨c, 1, none⟩ (.int .i64 ((i : Int) + 1))).setCell ⟨c, 2, none⟩ (.int .u64 E) = W2 ∧ Hid (CodeIn W2 (some x) n c) ∧ W2.cell? ⟨c, 0, none⟩ = some (.slice (some x) n cap) ∧ W2.cell? ⟨c, 1, none⟩ = some (.int .i64 ((i : Int) + 1)) ∧ Hid (W2.heap[c]? = some (.cells #[.slice (some x) n cap, .int .i64 ((i : Int) + 1), .int .u64 E] 63 (0, 0))) ∧ Only c w W2 := by
      have hh := cur_set (w := W.drewN nq) HB2.out ((i : Int) + 1) E
      exact ⟨_, rfl, HC2.out.keep (lt_of_block HB2.out) (Nat.le_refl _) (only_two ((Only.refl c W).drewN nq) _ _), by simp [World.cell?, hh], by simp [World.cell?, hh], Lib.hid hh, only_two (HO.drewN nq) _ _⟩
    rw [hW2]
    clear hW2 X0 X1 X2 F1 F2 HZ HB2
    go_quiet (fail)
    go_wp2_with fail
    go_ret
    have hO3 := HO2.drewN nq
    exact ⟨.int .i64 z, rfl, ⟨z.toNat, by omega, by rw [Int.toNat_of_nonneg z0]⟩, ⟨some x, n, cap, i + 1, E, HB3.out, by omega, HC3.out⟩, hO3⟩
  · have h1 : decide ((i : Int) < (n : Int)) = false := by simp; omega
    have h2 : decide ((i : Int) + 1 ≤ (n : Int)) = false := by simp; omega
    clear hb
    go_enter Tryz.func130, Tryz.ntmps130
    go_wp2_with fail
    go_quiet (fail)
    obtain ⟨W, hW, X0, X1, X2, F1, F2, HB2, HC2, HO⟩ : ∃ W, World.drewN w nq = W ∧ W.cell? ⟨c, 0, none⟩ = some (.slice a n cap) ∧ W.cell? ⟨c, 1, none⟩ = some (.int .i64 (i : Int)) ∧ W.cell? ⟨c, 2, none⟩ = some (.int .u64 s) ∧ W.frozen? ⟨c, 1, none⟩ = false ∧ W.frozen? ⟨c, 2, none⟩ = false ∧ Hid (W.heap[c]? = some (.cells #[.slice a n cap, .int .i64 (i : Int), .int .u64 s] 63 (0, 0))) ∧ Hid (CodeIn W a n c) ∧ Only c w W := ⟨_, rfl, x0, x1, x2, f1, f2, HB, HC, (Only.refl c w).drewN _⟩
    rw [hW]
    clear hW x0 x1 x2 f1 f2 HB HC
    go_wp2_with fail
    generalize hE : IntKind.u64.wrap (IntKind.u64.wrap (IntKind.u64.wrap (s * 6364136223846793005)) + 1442695040888963407) = E
    have hE0 : 0 ≤ E ∧ E < 18446744073709551616 := hE ▸ wrap_u _
    clear hE
    obtain ⟨W2, hW2, HC3, Y0, Y1, Y2, HB3, HO2⟩ : ∃ W2, (W.setCell ⟨c, 1, none⟩ (.int .i64 ((i : Int) + 1))).setCell ⟨c, 2, none⟩ (.int .u64 E) = W2 ∧ Hid (CodeIn W2 a n c) ∧ W2.cell? ⟨c, 0, none⟩ = some (.slice a n cap) ∧ W2.cell? ⟨c, 1, none⟩ = some (.int .i64 ((i : Int) + 1)) ∧ W2.cell? ⟨c, 2, none⟩ = some (.int .u64 E) ∧ Hid (W2.heap[c]? = some (.cells #[.slice a n cap, .int .i64 ((i : Int) + 1), .int .u64 E] 63 (0, 0))) ∧ Only c w W2 := by
      have hh := cur_set (w := W) HB2.out ((i : Int) + 1) E
      exact ⟨_, rfl, HC2.out.keep (lt_of_block HB2.out) (Nat.le_refl _) (only_two (Only.refl c W) _ _), by simp [World.cell?, hh], by simp [World.cell?, hh], by simp [World.cell?, hh], Lib.hid hh, only_two HO _ _⟩
    rw [hW2]
    clear hW2 X0 X1 X2 F1 F2 HB2
    go_quiet (fail)
    go_wp2_with fail
    obtain ⟨r, hr, hr2⟩ := and_255 E hE0.1 hE0.2
    rw [hr2]
    go_ret
    have hO3 := HO2.drewN nq
    exact ⟨.int .i64 (r : Int), rfl, ⟨r, hr, rfl⟩, ⟨a, n, cap, i + 1, E, HB3.out, by omega, HC3.out⟩, hO3⟩
end Go.Proofs.YtajgncapgeiniaaGreat.T1
