/- Texts of the proof, put together: Gc, Good, Bb, In, Yo. No conditions. -/
import Derived.Test.YtpabmidjfpabdaaGreatHaa
import Derived.Test.YtpabmidjfpabdaaGreatHab
import Derived.Test.YtpabmidjfpabdaaGreatHap
import Derived.Test.YtpabmidjfpabdaaGreatProg
import Derived.WalkKit
import Derived.ProofKit
import Derived.Lib.Hide
import Derived.RegionTactic
import Derived.Deep.QuietTactic
import Derived.Deep.DeepCutAuto
import Derived.Laws.Rows
import Derived.Laws.Bits64b
import Derived.BigRegion
import Derived.Deep.RegionHeld3
import Derived.Deep.RegionWith
import Derived.Lib.OthersKept
import Derived.Deep.LoopGhost

/- The cursor by which inputs are drawn: what it answers is a small number; nothing that was there turns but the cursor. No conditions. -/
namespace Go.Proofs.YtpabmidjfpabdaaGreat.T1
open Go.RowKit
set_option maxRecDepth 100000
set_option linter.unusedVariables false
set_option linter.unusedSimpArgs false

/-- The bytes that came in, in memory below the block c. -/
def CodeIn (w : World) (a : Option Addr) (n c : Nat) : Prop := n ≤ 140737488351232 ∧ (n = 0 ∨ ∃ x, a = some x ∧ x.block < c ∧ ∀ j, j < n → ∃ z : Int, 0 ≤ z ∧ z ≤ 255 ∧ w.cell? (x.add j) = some (.int .u8 z))
/-- Block c is a cursor, which has come at most to place k. -/
def Cur (w : World) (c k : Nat) : Prop := ∃ (a : Option Addr) (n cap i : Nat) (s : Int), w.heap[c]? = some (.cells #[.slice a n cap, .int .i64 (i : Int), .int .u64 s] 39 (0, 0)) ∧ i ≤ k ∧ CodeIn w a n c
theorem Cur.lt {w : World} {c k : Nat} (h : Cur w c k) : c < w.heap.size := by obtain ⟨_, _, _, _, _, h, _⟩ := h; exact lt_of_block h
theorem add_blk (a : Addr) (n : Nat) : (a.add n).block = a.block := by unfold Addr.add; split <;> rfl
theorem CodeIn.keep {w w' : World} {a : Option Addr} {n c b : Nat} (h : CodeIn w a n c) (hc : c < w.heap.size) (hb : c ≤ b) (k : Only b w w') : CodeIn w' a n c := by
  obtain ⟨h1, h | ⟨x, e, hx, h⟩⟩ := h
  · exact ⟨h1, .inl h⟩
  · refine ⟨h1, .inr ⟨x, e, hx, fun j hj => ?_⟩⟩
    obtain ⟨z, z0, z1, hz⟩ := h j hj
    refine ⟨z, z0, z1, ?_⟩
    rw [← hz]
    unfold World.cell?
    rw [add_blk, k.block _ (by omega) (by omega)]
theorem Cur.below {w w' : World} {c k : Nat} (h : Cur w c k) (b : Below w.heap.size w w') : Cur w' c k := by
  obtain ⟨a, n, cap, i, s, h1, h2, h3⟩ := h
  have := lt_of_block h1
  exact ⟨a, n, cap, i, s, (b.block c this).trans h1, h2, h3.keep this (Nat.le_of_lt this) ⟨b.os, b.tape, b.output, b.size, fun k hk _ => b.block k hk⟩⟩
theorem Cur.mono {w : World} {c k k' : Nat} (h : Cur w c k) (hk : k ≤ k') : Cur w c k' := by
  obtain ⟨a, n, cap, i, s, h1, h2, h3⟩ := h
  exact ⟨a, n, cap, i, s, h1, by omega, h3⟩
/-- What a draw answers: a value, the cursor further on, and nothing else turned. -/
def Dr (P : Value → Prop) (c k : Nat) (w : World) (e : Ending) (w' : World) : Prop := ∃ v, e = .returned v ∧ P v ∧ Cur w' c k ∧ Only c w w'
def IsUpTo (n : Nat) (v : Value) : Prop := ∃ r : Nat, r < n ∧ v = .int .i64 (r : Int)

theorem set_at {w : World} {c : Nat} {cs : Array Value} {T : TypeId} {f : Nat × Nat} (hb : w.heap[c]? = some (.cells cs T f)) (o : Nat) (x : Value) : (w.setCell ⟨c, o, none⟩ x).heap[c]? = some (.cells (cs.setIfInBounds o x) T f) := by
  have hlt := lt_of_block hb
  have h' : w.heap[c] = .cells cs T f := by simpa [Array.getElem?_eq_getElem hlt] using hb
  show (w.heap.modify c _)[c]? = _
  rw [Array.getElem?_eq_getElem (by simpa using hlt), Array.getElem_modify_self, h']
  rfl
theorem cur_set {w : World} {c : Nat} {sl : Value} {i s : Int} {T : TypeId} (hb : w.heap[c]? = some (.cells #[sl, .int .i64 i, .int .u64 s] T (0, 0))) (i' s' : Int) : ((w.setCell ⟨c, 1, none⟩ (.int .i64 i')).setCell ⟨c, 2, none⟩ (.int .u64 s')).heap[c]? = some (.cells #[sl, .int .i64 i', .int .u64 s'] T (0, 0)) := by
  rw [set_at (set_at hb 1 _) 2 _]; rfl
theorem only_two {w W : World} {c : Nat} (h : Only c w W) (i' s' : Int) : Only c w ((W.setCell ⟨c, 1, none⟩ (.int .i64 i')).setCell ⟨c, 2, none⟩ (.int .u64 s')) := (h.setCell 1 none _).setCell 2 none _
theorem wrap_u (x : Int) : 0 ≤ IntKind.u64.wrap x ∧ IntKind.u64.wrap x < 18446744073709551616 := by
  rw [IntKind.wrap_u64]; omega
theorem and_255 (E : Int) (h0 : 0 ≤ E) (h1 : E < 18446744073709551616) : ∃ r : Nat, r < 256 ∧ wrap64 (bits .and .u64 (E / 1099511627776) 255) = (r : Int) := by
  obtain ⟨e, rfl⟩ := Int.eq_ofNat_of_zero_le h0
  have h2 : ((e : Int) / 1099511627776) = ((e / 1099511627776 : Nat) : Int) := by omega
  rw [h2]
  have h3 := bits_and_u64_nat (e / 1099511627776) 255 (by omega) (by decide)
  rw [show (255 : Int) = ((255 : Nat) : Int) from rfl, h3]
  have h4 : (e / 1099511627776) &&& 255 ≤ 255 := Nat.and_le_right
  refine ⟨(e / 1099511627776) &&& 255, by omega, ?_⟩
  unfold wrap64; omega

set_option maxHeartbeats 1000000 in
theorem drNext_any (c k : Nat) (hk : k ≤ 1000000) (w : World) (hC : Cur w c k) : Calls Tryz.prog 80 #[.pointer (some ⟨c, 0, none⟩)] w (Dr (IsUpTo 256) c (k + 1) w) := by
  obtain ⟨a, n, cap, i, s, hb, hi, hn, hrow⟩ := hC
  have x0 : w.cell? ⟨c, 0, none⟩ = some (.slice a n cap) := by simp [World.cell?, hb]
  have x1 : w.cell? ⟨c, 1, none⟩ = some (.int .i64 (i : Int)) := by simp [World.cell?, hb]
  have x2 : w.cell? ⟨c, 2, none⟩ = some (.int .u64 s) := by simp [World.cell?, hb]
  have f1 : w.frozen? ⟨c, 1, none⟩ = false := by simp [World.frozen?, hb]
  have f2 : w.frozen? ⟨c, 2, none⟩ = false := by simp [World.frozen?, hb]
  have HB := Lib.hid hb
  have hwi : IntKind.i64.wrap ((i : Int) + 1) = (i : Int) + 1 := by rw [IntKind.wrap_i64] <;> omega
  have HC : Hid (CodeIn w a n c) := Lib.hid ⟨hn, hrow⟩
  by_cases hlt : i < n
  · have h1 : decide ((i : Int) < (n : Int)) = true := by simp; omega
    obtain ⟨x, rfl, hx, hz⟩ := hrow.resolve_left (by omega)
    obtain ⟨z, z0, z1, hz⟩ := hz i hlt
    have hwz : IntKind.i64.wrap z = z := by rw [IntKind.wrap_i64] <;> omega
    have h2 : decide ((i : Int) + 1 ≤ (n : Int)) = true := by simp; omega
    clear hb
    go_enter Tryz.func80, Tryz.ntmps80
    go_wp2_with fail
    go_quiet (fail)
    go_wp2_with fail
    obtain ⟨W, hW, X0, X1, X2, F1, F2, HZ, HB2, HC2, HO⟩ : ∃ W, World.drewN w nq = W ∧ W.cell? ⟨c, 0, none⟩ = some (.slice (some x) n cap) ∧ W.cell? ⟨c, 1, none⟩ = some (.int .i64 (i : Int)) ∧ W.cell? ⟨c, 2, none⟩ = some (.int .u64 s) ∧ W.frozen? ⟨c, 1, none⟩ = false ∧ W.frozen? ⟨c, 2, none⟩ = false ∧ W.cell? (x.add i) = some (.int .u8 z) ∧ Hid (W.heap[c]? = some (.cells #[.slice (some x) n cap, .int .i64 (i : Int), .int .u64 s] 39 (0, 0))) ∧ Hid (CodeIn W (some x) n c) ∧ Only c w W := ⟨_, rfl, x0, x1, x2, f1, f2, hz, HB, HC, (Only.refl c w).drewN _⟩
    rw [hW]
    clear hW x0 x1 x2 f1 f2 hz HB HC
    go_wp2_with fail
    go_quiet (fail)
    go_wp2_with fail
    generalize IntKind.u64.wrap (IntKind.u64.wrap (IntKind.u64.wrap (s * 6364136223846793005) + z) + 1442695040888963407) = E
    obtain ⟨W2, hW2, HC3, Y0, Y1, HB3, HO2⟩ : ∃ W2, ((W.drewN nq).setCell ⟨c, 1, none⟩ (.int .i64 ((i : Int) + 1))).setCell ⟨c, 2, none⟩ (.int .u64 E) = W2 ∧ Hid (CodeIn W2 (some x) n c) ∧ W2.cell? ⟨c, 0, none⟩ = some (.slice (some x) n cap) ∧ W2.cell? ⟨c, 1, none⟩ = some (.int .i64 ((i : Int) + 1)) ∧ Hid (W2.heap[c]? = some (.cells #[.slice (some x) n cap, .int .i64 ((i : Int) + 1), .int .u64 E] 39 (0, 0))) ∧ Only c w W2 := by
      have hh := cur_set (w := W.drewN nq) HB2.out ((i : Int) + 1) E
      exact ⟨_, rfl, HC2.out.keep (lt_of_block HB2.out) (Nat.le_refl _) (only_two ((Only.refl c W).drewN nq) _ _), by simp [World.cell?, hh], by simp [World.cell?, hh], Lib.hid hh, only_two (HO.drewN nq) _ _⟩
    rw [hW2]
    clear hW2 X0 X1 X2 F1 F2 HZ HB2
    go_quiet (fail)
    go_wp2_with fail
    go_ret
    have hO3 := HO2.drewN nq
    exact ⟨.int .i64 z, rfl, ⟨z.toNat, by omega, by rw [Int.toNat_of_nonneg z0]⟩, ⟨some x, n, cap, i + 1, E, HB3.out, by omega, HC3.out⟩, hO3⟩
  · have h1 : decide ((i : Int) < (n : Int)) = false := by simp; omega
    have h2 : decide ((i : Int) + 1 ≤ (n : Int)) = false := by simp; omega
    clear hb
    go_enter Tryz.func80, Tryz.ntmps80
    go_wp2_with fail
    go_quiet (fail)
    obtain ⟨W, hW, X0, X1, X2, F1, F2, HB2, HC2, HO⟩ : ∃ W, World.drewN w nq = W ∧ W.cell? ⟨c, 0, none⟩ = some (.slice a n cap) ∧ W.cell? ⟨c, 1, none⟩ = some (.int .i64 (i : Int)) ∧ W.cell? ⟨c, 2, none⟩ = some (.int .u64 s) ∧ W.frozen? ⟨c, 1, none⟩ = false ∧ W.frozen? ⟨c, 2, none⟩ = false ∧ Hid (W.heap[c]? = some (.cells #[.slice a n cap, .int .i64 (i : Int), .int .u64 s] 39 (0, 0))) ∧ Hid (CodeIn W a n c) ∧ Only c w W := ⟨_, rfl, x0, x1, x2, f1, f2, HB, HC, (Only.refl c w).drewN _⟩
    rw [hW]
    clear hW x0 x1 x2 f1 f2 HB HC
    go_wp2_with fail
    generalize hE : IntKind.u64.wrap (IntKind.u64.wrap (IntKind.u64.wrap (s * 6364136223846793005)) + 1442695040888963407) = E
    have hE0 : 0 ≤ E ∧ E < 18446744073709551616 := hE ▸ wrap_u _
    clear hE
    obtain ⟨W2, hW2, HC3, Y0, Y1, Y2, HB3, HO2⟩ : ∃ W2, (W.setCell ⟨c, 1, none⟩ (.int .i64 ((i : Int) + 1))).setCell ⟨c, 2, none⟩ (.int .u64 E) = W2 ∧ Hid (CodeIn W2 a n c) ∧ W2.cell? ⟨c, 0, none⟩ = some (.slice a n cap) ∧ W2.cell? ⟨c, 1, none⟩ = some (.int .i64 ((i : Int) + 1)) ∧ W2.cell? ⟨c, 2, none⟩ = some (.int .u64 E) ∧ Hid (W2.heap[c]? = some (.cells #[.slice a n cap, .int .i64 ((i : Int) + 1), .int .u64 E] 39 (0, 0))) ∧ Only c w W2 := by
      have hh := cur_set (w := W) HB2.out ((i : Int) + 1) E
      exact ⟨_, rfl, HC2.out.keep (lt_of_block HB2.out) (Nat.le_refl _) (only_two (Only.refl c W) _ _), by simp [World.cell?, hh], by simp [World.cell?, hh], by simp [World.cell?, hh], Lib.hid hh, only_two HO _ _⟩
    rw [hW2]
    clear hW2 X0 X1 X2 F1 F2 HB2
    go_quiet (fail)
    go_wp2_with fail
    obtain ⟨r, hr, hr2⟩ := and_255 E hE0.1 hE0.2
    rw [hr2]
    go_ret
    have hO3 := HO2.drewN nq
    exact ⟨.int .i64 (r : Int), rfl, ⟨r, hr, rfl⟩, ⟨a, n, cap, i + 1, E, HB3.out, by omega, HC3.out⟩, hO3⟩
end Go.Proofs.YtpabmidjfpabdaaGreat.T1

/- A text that is a process, and one that is none: what the two parsers say. -/
namespace Go.Proofs.YtpabmidjfpabdaaGreat.T1
open Go.RowKit

theorem parse_some {s : ByteArray} {t : Tm} (hg : good s.data.toList = some t) (w : World) (hm : s.size ≤ 9223372036854775807) :
    Calls Tryz.prog 25 #[.string s] w fun e w' => e = .returned (.tuple #[.iface (tyOf t) (pay t), .bool true]) ∧ Below w.heap.size w w' := by
  refine (parse_any s w hm).mono ?_
  rintro e w' ⟨⟨t', h1, h2⟩ | ⟨h1, _⟩, bl⟩
  · rw [hg] at h1; cases h1; exact ⟨h2, bl⟩
  · rw [hg] at h1; cases h1
theorem parse_none {s : ByteArray} (hg : good s.data.toList = none) (w : World) (hm : s.size ≤ 9223372036854775807) :
    Calls Tryz.prog 25 #[.string s] w fun e w' => e = .returned (.tuple #[.nilIface, .bool false]) ∧ Below w.heap.size w w' := by
  refine (parse_any s w hm).mono ?_
  rintro e w' ⟨⟨t', h1, h2⟩ | ⟨_, h2⟩, bl⟩
  · rw [hg] at h1; cases h1
  · exact ⟨h2, bl⟩
theorem tmGood_some {s : ByteArray} {t : Tm} (hg : good s.data.toList = some t) (w : World) (hm : s.size ≤ 9223372036854775807) :
    Calls Tryz.prog 29 #[.string s] w fun e w' => e = .returned (.bool true) ∧ Below w.heap.size w w' := by
  have := tmGood_any s w hm
  rw [goodB_yes hg] at this
  exact this
theorem tmGood_none {s : ByteArray} (hg : good s.data.toList = none) (w : World) (hm : s.size ≤ 9223372036854775807) :
    Calls Tryz.prog 29 #[.string s] w fun e w' => e = .returned (.bool false) ∧ Below w.heap.size w w' := by
  have := tmGood_any s w hm
  rw [show goodB s = false from by unfold goodB; rw [hg]; rfl] at this
  exact this
/-- What a text that is a process gives. -/
theorem good_S {s : ByteArray} {t : Tm} (hg : good s.data.toList = some t) : s = S t ∧ t.ok nmL = true ∧ t.ok nmE = true ∧ t.pr.length ≤ 300 ∧ t.size ≤ 60 := by
  obtain ⟨h1, h2, h3, h4⟩ := good_out hg
  exact ⟨S_of h2, h3, ok_EL t h3, by rw [← h2]; exact h1, h4⟩

end Go.Proofs.YtpabmidjfpabdaaGreat.T1

/- Lists of bytes as texts; where a range over a text stands. -/
namespace Go.Proofs.YtpabmidjfpabdaaGreat.T1
open Go.RowKit
set_option maxRecDepth 100000

/-- A list of bytes as a text. -/
def B (l : List UInt8) : ByteArray := ⟨l.toArray⟩
theorem B_list (l : List UInt8) : (B l).data.toList = l := rfl
theorem B_of (s : ByteArray) : B s.data.toList = s := by apply ByteArray.ext; simp [B]
theorem B_eq {s : ByteArray} {l : List UInt8} (h : s.data.toList = l) : s = B l := by rw [← h, B_of]
theorem B_size (l : List UInt8) : (B l).size = l.length := by simp [B, ByteArray.size]
theorem iterPos_of' {w : World} {k : Nat} {s : ByteArray} {p : Nat} (h : w.heap[k]? = some (.stringIter s p)) : w.iterPos k = p := by simp [World.iterPos, h]
end Go.Proofs.YtpabmidjfpabdaaGreat.T1

/- Is a byte in a text, in the specification. -/
namespace Go.Proofs.YtpabmidjfpabdaaGreat.T1
open Go.RowKit
set_option maxRecDepth 100000

/-- Is a byte among those of a text? -/
def inB (s : ByteArray) (c : Int) : Bool := s.data.toList.any fun x => (x.toNat : Int) == c
theorem inB_yes (s : ByteArray) (c : Int) (k : Nat) (h : k < s.size) (h1 : (s[k].toNat : Int) = c) : inB s c = true := by
  unfold inB
  rw [List.any_eq_true]
  exact ⟨s[k], by show s.data[k] ∈ _; simp, by simp [h1]⟩
theorem inB_no (s : ByteArray) (c : Int) (h : (s.data.toList.take s.size).any (fun x => (x.toNat : Int) == c) = false) : inB s c = false := by
  rw [List.take_of_length_le (by simp)] at h
  exact h

set_option maxHeartbeats 400000 in
theorem tmIn_any (s : ByteArray) (c : Int) (w : World) (hs : s.size ≤ 100000000) :
    Calls Tryz.prog 44 #[.string s, .int .u8 c] w fun e w' => e = .returned (.bool (inB s c)) ∧ w = w' := by
  go_enter Tryz.func44, Tryz.ntmps44
  go_wp2_with fail
  go_loop [5] (fun i => ∃ k : Nat, k ≤ s.size ∧ i = .int .i64 k ∧ Hid ((s.data.toList.take k).any (fun x => (x.toNat : Int) == c) = false)) (fun i => s.size - (intOf i).toNat)
  case atStart => exact ⟨0, Nat.zero_le _, rfl, by simp [Hid]⟩
  case round =>
    obtain ⟨k, hk, rfl, H⟩ := hrel
    by_cases hlt : k < s.size
    · by_cases hc : (s[k].toNat : Int) = c
      · have hT : Hid (inB s c = true) := inB_yes s c k hlt hc
        have b1 : ((s[k].toNat : Int) == c) = true := by simp [hc]
        clear hc
        go_wp2_with fail
        go_ret
        exact ⟨by rw [hT.out]; rfl, rfl⟩
      · have b1 : ((s[k].toNat : Int) == c) = false := by simp [hc]
        have hT : Hid ((s.data.toList.take (k + 1)).any (fun x => (x.toNat : Int) == c) = false) := by
          have h0 := H.out
          rw [take_snoc s k hlt, List.any_append, h0]; simp [Hid, hc]
        clear hc
        go_wp2_with fail
        go_round
        case rel => exact ⟨k + 1, by omega, by go_num, hT⟩
        case measure => simp [intOf]; omega
    · have hT : Hid (inB s c = false) := inB_no s c (by have := H.out; rw [show k = s.size by omega] at this; exact this)
      go_wp2_with fail
      go_ret
      exact ⟨by rw [hT.out]; rfl, rfl⟩

end Go.Proofs.YtpabmidjfpabdaaGreat.T1

/- Letters of one text in another one: laws.oIn. No conditions. -/
namespace Go.Proofs.YtpabmidjfpabdaaGreat.T1
open Go.RowKit
set_option maxRecDepth 100000
set_option linter.unusedVariables false
set_option linter.unusedSimpArgs false

/-! ### names in texts -/
/-- Every letter of s is in t. -/
def oinV (s t : ByteArray) : Bool := s.data.toList.all fun c => t.data.toList.contains c
theorem oin_iff (s t : ByteArray) : oinV s t = true ↔ ∀ c ∈ s.data.toList, c ∈ t.data.toList := by simp only [oinV, List.all_eq_true, List.contains_iff_mem]
theorem oin_B (l m : List UInt8) : oinV (B l) (B m) = true ↔ ∀ c ∈ l, c ∈ m := by rw [oin_iff]; simp [B]
theorem B_app2 (l m : List UInt8) : B l ++ B m = B (l ++ m) := by
  apply ByteArray.ext; simp [B, ByteArray.data_append]
theorem any_step (l : List UInt8) (c : UInt8) (j : Nat) (h : j < l.length) : (l.take (j + 1)).contains c = ((l.take j).contains c || (c == l[j])) := by
  rw [Bool.eq_iff_iff, Bool.or_eq_true, List.contains_iff_mem, List.contains_iff_mem, List.take_succ_eq_append_getElem h, List.mem_append, List.mem_singleton, beq_iff_eq]
theorem u8_beqY (a b : UInt8) : (((a.toNat : Nat) : Int) == ((b.toNat : Nat) : Int)) = (a == b) := by
  rw [Bool.eq_iff_iff, beq_iff_eq, beq_iff_eq]
  constructor
  · intro h; exact UInt8.toNat_inj.1 (by omega)
  · rintro rfl; rfl
set_option maxHeartbeats 4000000 in
theorem oIn_any (s t : ByteArray) (hs : s.size ≤ 100000) (ht : t.size ≤ 100000) (w : World) : Calls Tryz.prog 10 #[.string s, .string t] w fun e w' => e = .returned (.bool (oinV s t)) ∧ Below w.heap.size w w' := by
  have HST := Lib.hid (And.intro hs ht)
  clear hs ht
  go_enter Tryz.func10, Tryz.ntmps10
  go_wp2_with fail
  go_loopg [5] s.size (fun g s5 wr => ∃ i : Nat, i + g = s.size ∧ s5 = .int .i64 (i : Int) ∧ Hid (∀ c ∈ s.data.toList.take i, t.data.toList.contains c = true) ∧ Hid (Below w.heap.size w wr))
  case atStart => exact ⟨0, by omega, rfl, fun c h => by simp at h, Below.refl _ _⟩
  case round =>
    obtain ⟨i, hi, rfl, hall, hb⟩ := hrel
    by_cases hlt : i < s.size
    · have hlt' : (i : Int) < (s.size : Int) := by omega
      obtain ⟨c, hc⟩ : ∃ c, c = s[i]'hlt := ⟨_, rfl⟩
      have HC := Lib.hid hc
      have HI := Lib.hid (And.intro hi hlt)
      have hwi : IntKind.i64.wrap ((i : Int) + 1) = ((i + 1 : Nat) : Int) := by have := HST.out; rw [IntKind.wrap_i64] <;> omega
      obtain ⟨G, hG⟩ : ∃ G, G = gk := ⟨gk, rfl⟩
      have HG := Lib.hid (show i + G = s.size by rw [hG]; exact hi)
      clear hi hG
      go_wp2_with fail
      go_loopg [6, 7] t.size (fun g s6 s7 wz => ∃ j : Nat, j + g = t.size ∧ s7 = .int .i64 (j : Int) ∧ s6 = .bool ((t.data.toList.take j).contains c) ∧ Hid (Below w.heap.size w wz))
      case atStart => exact ⟨0, by omega, rfl, by simp, hb⟩
      case round =>
        obtain ⟨j, hj, rfl, rfl, hb2⟩ := hrel
        by_cases hjt : j < t.size
        · have hjt' : (j : Int) < (t.size : Int) := by omega
          have hwj : IntKind.i64.wrap ((j : Int) + 1) = ((j + 1 : Nat) : Int) := by have := HST.out; rw [IntKind.wrap_i64] <;> omega
          have hst := any_step t.data.toList c j (by rw [Array.length_toList]; exact hjt)
          have hge : t.data.toList[j]'(by rw [Array.length_toList]; exact hjt) = t[j]'hjt := by simp [ByteArray.getElem_eq_getElem_data]
          rw [hge] at hst
          have HJ := Lib.hid (And.intro hj hjt)
          obtain ⟨d, hd⟩ : ∃ d, d = t[j]'hjt := ⟨_, rfl⟩
          have hub := u8_beqY c d
          have hub2 : ((((s[i]'hlt).toNat : Nat) : Int) == (((t[j]'hjt).toNat : Nat) : Int)) = (c == d) := by rw [← HC.out, ← hd]; exact hub
          rw [← hd] at hst
          have HS := Lib.hid hst
          clear hst hge hj hub
          cases hx : (t.data.toList.take j).contains c with
          | true =>
            rw [hx] at HS
            go_wp2_with fail
            go_quiet (fail)
            go_wp2_with fail
            go_roundg (gk - 1)
            case rel => exact ⟨j + 1, by have := HJ.out; omega, rfl, by rw [HS.out]; rfl, Lib.hid (below_drewN' hb2.out _)⟩
            case measure => have := HJ.out; omega
          | false =>
            rw [hx] at HS
            go_wp2_with fail
            go_quiet (fail)
            go_wp2_with fail
            go_roundg (gk - 1)
            case rel => exact ⟨j + 1, by have := HJ.out; omega, rfl, by rw [HS.out, hc, hd, Bool.false_or], Lib.hid (below_drewN' hb2.out _)⟩
            case measure => have := HJ.out; omega
        · have hjn : j = t.size := by omega
          have htk : t.data.toList.take j = t.data.toList := List.take_of_length_le (by rw [hjn, Array.length_toList]; exact Nat.le_refl _)
          rw [htk]
          have hjt' : ¬ (j : Int) < (t.size : Int) := by omega
          cases hx : t.data.toList.contains c with
          | true =>
            have HX := Lib.hid hx
            clear htk hjn hx hj hjt
            go_wp2_with fail
            go_roundg (G - 1)
            case rel =>
              refine ⟨i + 1, by have := HG.out; have := HI.out; omega, rfl, Lib.hid (fun y hy => ?_), hb2⟩
              have hil : i < s.data.toList.length := by rw [Array.length_toList]; exact HI.out.2
              rw [List.take_succ_eq_append_getElem hil, List.mem_append, List.mem_singleton] at hy
              rcases hy with hy | rfl
              · exact hall.out y hy
              · rw [show s.data.toList[i]'hil = c from by rw [HC.out]; simp [ByteArray.getElem_eq_getElem_data]]; exact HX.out
            case measure => have := HG.out; have := HI.out; omega
          | false =>
            have HX := Lib.hid hx
            have hres : oinV s t = false := by
              cases ho : oinV s t with
              | false => rfl
              | true =>
                rw [oin_iff] at ho
                have hil : i < s.data.toList.length := by rw [Array.length_toList]; exact HI.out.2
                have := ho (s.data.toList[i]'hil) (List.getElem_mem hil)
                rw [show s.data.toList[i]'hil = c from by rw [HC.out]; simp [ByteArray.getElem_eq_getElem_data]] at this
                rw [← List.contains_iff_mem, HX.out] at this
                cases this
            clear htk hjn hx hj hjt
            go_wp2_with fail
            go_ret
            exact ⟨rfl, hb2.out⟩
    · have hin : i = s.size := by omega
      have hres : oinV s t = true := by
        rw [oin_iff]
        intro y hy
        have := hall.out y (by rw [List.take_of_length_le (by rw [hin, Array.length_toList]; exact Nat.le_refl _)]; exact hy)
        exact List.contains_iff_mem.1 this
      have hlt' : ¬ (i : Int) < (s.size : Int) := by omega
      clear hin hi hlt
      go_wp2_with fail
      go_ret
      exact ⟨rfl, hb.out⟩
end Go.Proofs.YtpabmidjfpabdaaGreat.T1
