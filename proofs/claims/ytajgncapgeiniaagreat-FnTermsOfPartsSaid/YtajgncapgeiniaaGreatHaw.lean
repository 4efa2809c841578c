/- Texts of the proof, put together: Gn, Gk. No conditions. -/
import Derived.Test.YtajgncapgeiniaaGreatHat
import Derived.Test.YtajgncapgeiniaaGreatHav

/- Processes with few free names at each place: renaming keeps to letters, and renaming back gives an alike one. No conditions. -/
namespace Go.Proofs.YtajgncapgeiniaaGreat.T1

def nm5 (c : UInt8) : Bool := c == 97 || c == 98 || c == 99 || c == 120 || c == 121
def AB (c : UInt8) : Bool := nm5 c || !nmL c
end Go.Proofs.YtajgncapgeiniaaGreat.T1

/- Choices that are drawn: numbers below a bound, elements of lists, names. No conditions. -/
namespace Go.Proofs.YtajgncapgeiniaaGreat.T1
open Go.RowKit
set_option maxRecDepth 100000
set_option linter.unusedVariables false
set_option linter.unusedSimpArgs false

set_option maxHeartbeats 1000000 in
theorem pick_any (c k n : Nat) (hk : k ≤ 900000) (hn : n ≤ 1000000) (w : World) (hC : Cur w c k) : Calls Tryz.prog 91 #[.pointer (some ⟨c, 0, none⟩), .int .i64 (n : Int)] w (Dr (IsUpTo (n + 1 - (if 1 ≤ n then 1 else 0))) c (k + 2) w) := by
  have HC := Lib.hid hC
  clear hC
  by_cases h1 : n ≤ 1
  · have h2 : decide ((n : Int) ≤ 1) = true := by simp; omega
    have hn1 : 0 < n + 1 - (if 1 ≤ n then 1 else 0) := by split <;> omega
    generalize n + 1 - (if 1 ≤ n then 1 else 0) = N at hn1 ⊢
    go_enter Tryz.func91, Tryz.ntmps91
    go_wp2_with fail
    go_ret
    exact ⟨.int .i64 0, rfl, ⟨0, hn1, rfl⟩, HC.out.mono (by omega), Only.refl _ _⟩
  · have h2 : decide ((n : Int) ≤ 1) = false := by simp; omega
    have hN : n + 1 - (if 1 ≤ n then 1 else 0) = n := by rw [if_pos (by omega)]; omega
    rw [hN]
    clear hN
    have H := Lib.hid (drNext_any c k (by omega) w HC.out)
    by_cases h3 : 200 < n
    · have h4 : decide (200 < (n : Int)) = true := by simp; omega
      go_enter Tryz.func91, Tryz.ntmps91
      go_wp2_with fail
      refine H.out.mono ?_
      rintro e w1 ⟨v, rfl, ⟨r, hr, rfl⟩, C1, O1⟩
      have H2 := Lib.hid (drNext_any c (k + 1) (by omega) w1 C1)
      have O1' := Lib.hid O1
      have hw1 : IntKind.i64.wrap ((r : Int) * 256) = (r : Int) * 256 := by rw [IntKind.wrap_i64] <;> omega
      clear C1 O1
      go_wp2_with fail
      refine H2.out.mono ?_
      rintro e w2 ⟨v, rfl, ⟨r2, hr2, rfl⟩, C2, O2⟩
      have hw2 : IntKind.i64.wrap ((r : Int) * 256 + (r2 : Int)) = (r : Int) * 256 + (r2 : Int) := by rw [IntKind.wrap_i64] <;> omega
      have hnz : (n : Int) ≠ 0 := by omega
      have C2' := Lib.hid C2
      have O2' := Lib.hid O2
      clear C2 O2
      go_wp2_with fail
      go_ret
      refine ⟨.int .i64 (((r : Int) * 256 + (r2 : Int)) % (n : Int)), rfl, ⟨(r * 256 + r2) % n, Nat.mod_lt _ (by omega), by simp⟩, C2'.out.mono (by omega), O1'.out.trans O2'.out⟩
    · have h4 : decide (200 < (n : Int)) = false := by simp; omega
      go_enter Tryz.func91, Tryz.ntmps91
      go_wp2_with fail
      refine H.out.mono ?_
      rintro e w1 ⟨v, rfl, ⟨r, hr, rfl⟩, C1, O1⟩
      have C1' := Lib.hid C1
      have O1' := Lib.hid O1
      have hnz : (n : Int) ≠ 0 := by omega
      clear C1 O1
      go_wp2_with fail
      go_ret
      exact ⟨.int .i64 ((r : Int) % (n : Int)), rfl, ⟨r % n, Nat.mod_lt _ (by omega), by simp⟩, C1'.out.mono (by omega), O1'.out⟩
theorem pick_lt (c k n : Nat) (h0 : 1 ≤ n) (hk : k ≤ 900000) (hn : n ≤ 1000000) (w : World) (hC : Cur w c k) : Calls Tryz.prog 91 #[.pointer (some ⟨c, 0, none⟩), .int .i64 (n : Int)] w (Dr (IsUpTo n) c (k + 2) w) := by
  have h := pick_any c k n hk hn w hC
  rw [if_pos h0] at h
  exact h
def IsBool (v : Value) : Prop := ∃ b : Bool, v = .bool b
theorem one_any (c k n : Nat) (h0 : 1 ≤ n) (hk : k ≤ 900000) (hn : n ≤ 1000000) (w : World) (hC : Cur w c k) : Calls Tryz.prog 78 #[.pointer (some ⟨c, 0, none⟩), .int .i64 (n : Int)] w (Dr IsBool c (k + 2) w) := by
  have H := Lib.hid (pick_lt c k n h0 hk hn w hC)
  clear hC
  go_enter Tryz.func78, Tryz.ntmps78
  go_wp2_with fail
  refine H.out.mono ?_
  rintro e w1 ⟨v, rfl, ⟨r, hr, rfl⟩, C1, O1⟩
  have C1' := Lib.hid C1
  have O1' := Lib.hid O1
  clear C1 O1
  go_wp2_with fail
  go_ret
  exact ⟨.bool ((r : Int) == 0), rfl, ⟨_, rfl⟩, C1'.out, O1'.out⟩
/-- A text of at most n bytes over the letters and signs of what is drawn. -/
def Ab (n : Nat) (v : Value) : Prop := ∃ s : ByteArray, v = .string s ∧ s.size ≤ n ∧ ∀ b ∈ s.data.toList, AB b = true
def IsNm (v : Value) : Prop := ∃ ch : UInt8, nm5 ch = true ∧ v = .string (one ch)
set_option maxHeartbeats 1000000 in
theorem of_any (P : Value → Prop) (c k g m : Nat) (h0 : 1 ≤ m) (hk : k ≤ 900000) (hn : m ≤ 1000000) (w : World) (hg : g ≠ c) (hx : ∀ j, j < m → ∃ s : ByteArray, P (.string s) ∧ w.cell? ⟨g, j, none⟩ = some (.string s)) (hC : Cur w c k) :
    Calls Tryz.prog 70 #[.pointer (some ⟨c, 0, none⟩), .slice (some ⟨g, 0, none⟩) m m] w (Dr P c (k + 2) w) := by
  have H := Lib.hid (pick_lt c k m h0 hk hn w hC)
  have HX := Lib.hid hx
  clear hC hx
  go_enter Tryz.func70, Tryz.ntmps70
  go_wp2_with fail
  refine H.out.mono ?_
  rintro e w1 ⟨v, rfl, ⟨r, hr, rfl⟩, C1, O1⟩
  obtain ⟨s, hP, hc⟩ := HX.out r hr
  have hc1 : w1.cell? ⟨g, r, none⟩ = some (.string s) := by
    rw [← hc]
    unfold World.cell?
    rw [O1.block g (by
      unfold World.cell? at hc
      rcases h : w.heap[g]? with _ | o
      · rw [h] at hc; cases hc
      · exact lt_of_block h) hg]
  have C1' := Lib.hid C1
  have O1' := Lib.hid O1
  have hP' := Lib.hid hP
  have hr' : (r : Int) < (m : Int) := by omega
  clear C1 O1 hP hc
  go_wp2_with fail
  go_ret
  exact ⟨.string s, rfl, hP'.out, C1'.out, O1'.out⟩
theorem alloc_cell {w : World} {cs : Array Value} {T : TypeId} {j : Nat} {v : Value} (h : cs[j]? = some v) : (w.alloc (.cells cs T)).cell? ⟨w.heap.size, j, none⟩ = some v := by
  have hb : (w.alloc (.cells cs T)).heap[w.heap.size]? = some (.cells cs T (0, 0)) := by
    show (w.heap.push _)[w.heap.size]? = _
    rw [Array.getElem?_push_size]
  unfold World.cell?
  simp only [hb]
  exact h
set_option maxHeartbeats 1000000 in
theorem drName_any (c k : Nat) (hk : k ≤ 900000) (w : World) (hC : Cur w c k) : Calls Tryz.prog 77 #[.pointer (some ⟨c, 0, none⟩)] w (Dr IsNm c (k + 2) w) := by
  have HC := Lib.hid hC
  clear hC
  go_enter Tryz.func77, Tryz.ntmps77
  go_wp2_with fail
  refine (of_any IsNm c k w.heap.size 7 (by decide) hk (by decide) _ (Nat.ne_of_gt HC.out.lt) ?_ (HC.out.below ((Below.refl _ _).alloc (Nat.le_refl _) _))).mono ?_
  · intro j hj
    rcases (show j = 0 ∨ j = 1 ∨ j = 2 ∨ j = 3 ∨ j = 4 ∨ j = 5 ∨ j = 6 from by omega) with rfl | rfl | rfl | rfl | rfl | rfl | rfl
    · exact ⟨_, ⟨97, by decide, rfl⟩, alloc_cell rfl⟩
    · exact ⟨_, ⟨98, by decide, rfl⟩, alloc_cell rfl⟩
    · exact ⟨_, ⟨99, by decide, rfl⟩, alloc_cell rfl⟩
    · exact ⟨_, ⟨97, by decide, rfl⟩, alloc_cell rfl⟩
    · exact ⟨_, ⟨98, by decide, rfl⟩, alloc_cell rfl⟩
    · exact ⟨_, ⟨120, by decide, rfl⟩, alloc_cell rfl⟩
    · exact ⟨_, ⟨121, by decide, rfl⟩, alloc_cell rfl⟩
  · rintro e w1 ⟨v, rfl, ⟨ch, hch, rfl⟩, C1, O1⟩
    have C1' := Lib.hid C1
    have O1' := Lib.hid ((Only.refl c w).alloc _ |>.trans O1)
    clear C1 O1
    go_wp2_with fail
    go_ret
    exact ⟨.string (one ch), rfl, ⟨ch, hch, rfl⟩, C1'.out, O1'.out⟩
end Go.Proofs.YtajgncapgeiniaaGreat.T1
