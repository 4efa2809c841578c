/- Texts of the proof, put together: Tr. No conditions. -/
import Derived.Test.YtmfmagfgcdaeeaaGreatHai
import Derived.Test.YtmfmagfgcdaeeaaGreatHal
import Derived.Test.YtmfmagfgcdaeeaaGreatHam
import Derived.Test.YtmfmagfgcdaeeaaGreatHaw
import Derived.Deep.DeepCutAuto

/- The bytes in front of a part, changed in memory; a free name renamed in the specification: the ways through. -/
namespace Go.Proofs.YtmfmagfgcdaeeaaGreat.T1
open Go.RowKit
set_option maxRecDepth 100000
set_option linter.unusedVariables false

theorem blow_go {u v w : World} (h : Below u.heap.size u v) (k : Below v.heap.size v w) : Below u.heap.size u w := below_trans h k h.size
/-- Block g holds the bytes l, and they may be written. -/
structure HRow (W : World) (g : Nat) (l : List UInt8) : Prop where
  ex : ∃ (C : Array Value) (a b : Nat), W.heap[g]? = some (.cells C 5 (a, b)) ∧ l.length ≤ a ∧ ∀ j (h : j < l.length), C[j]? = some (.int .u8 (l[j].toNat : Int))
theorem HRow.lt {W : World} {g : Nat} {l : List UInt8} (h : HRow W g l) : g < W.heap.size := by
  obtain ⟨C, a, b, h1, _⟩ := h.ex
  exact lt_of_block h1
theorem HRow.cell {W : World} {g : Nat} {l : List UInt8} (h : HRow W g l) (j : Nat) (hj : j < l.length) : W.cell? ⟨g, j, none⟩ = some (.int .u8 (l[j].toNat : Int)) := by
  obtain ⟨C, a, b, h1, _, h3⟩ := h.ex
  simp [World.cell?, h1, h3 j hj]
theorem HRow.free {W : World} {g : Nat} {l : List UInt8} (h : HRow W g l) (j : Nat) (hj : j < l.length) : W.frozen? ⟨g, j, none⟩ = false := by
  obtain ⟨C, a, b, h1, h2, _⟩ := h.ex
  simp [World.frozen?, h1]; omega
theorem HRow.below {W W' : World} {g : Nat} {l : List UInt8} (h : HRow W g l) (k : Below W.heap.size W W') : HRow W' g l := by
  obtain ⟨C, a, b, h1, h2, h3⟩ := h.ex
  exact ⟨C, a, b, (k.block g (lt_of_block h1)).trans h1, h2, h3⟩
theorem HRow.drew {W : World} {g : Nat} {l : List UInt8} (h : HRow W g l) : HRow W.drew g l := by
  obtain ⟨C, a, b, h1, h2, h3⟩ := h.ex
  exact ⟨C, a, b, h1, h2, h3⟩
theorem HRow.set {W : World} {g : Nat} {l : List UInt8} (h : HRow W g l) (k : Nat) (hk : k < l.length) (c : UInt8) : HRow (W.setCell ⟨g, k, none⟩ (.int .u8 (c.toNat : Int))) g (l.set k c) := by
  obtain ⟨C, a, b, h1, h2, h3⟩ := h.ex
  have hlt := lt_of_block h1
  have h' : W.heap[g] = .cells C 5 (a, b) := by simpa [Array.getElem?_eq_getElem hlt] using h1
  refine ⟨C.setIfInBounds k (.int .u8 (c.toNat : Int)), a, b, ?_, by simpa using h2, fun j hj => ?_⟩
  · show (W.heap.modify g _)[g]? = _
    rw [Array.getElem?_eq_getElem (by simpa using hlt), Array.getElem_modify_self, h']
    rfl
  · have hj' : j < l.length := by simpa using hj
    have hC := h3 j hj'
    by_cases e : k = j
    · subst e
      have hlt2 : k < C.size := by
        rcases Nat.lt_or_ge k C.size with h4 | h4
        · exact h4
        · rw [Array.getElem?_eq_none h4] at hC; cases hC
      rw [Array.getElem?_setIfInBounds_self_of_lt hlt2]; simp
    · rw [Array.getElem?_setIfInBounds_ne e, hC, List.getElem_set_ne e]
theorem HRow.conv {W : World} {g : Nat} {l : List UInt8} (h : HRow W g l) (n cap : Nat) (hn : n = l.length) : (convert 22 9 (.slice (some ⟨g, 0, none⟩) n cap)).run Tryz.prog W = .ok (.string (B l)) W := by
  subst hn
  exact run_convert_bytes_back W 22 9 5 ⟨g, 0, none⟩ cap l Tryz.underlying22 Tryz.underlying5 Tryz.underlying9 fun j hj => by rw [add0, h.cell j hj]
theorem conv_head (X : ByteArray) (l : List UInt8) (n : Nat) (hl : X.data.toList = l) (hn : n = l.length) (w : World) : ∃ (cap : Nat) (W : World), (convert 9 22 (.string X)).run Tryz.prog w = .ok (.slice (some ⟨w.heap.size, 0, none⟩) n cap) W ∧ Below w.heap.size w W ∧ HRow W w.heap.size l := by
  subst hl
  subst hn
  refine ⟨_, _, (by rw [show X.data.toList.length = X.size by simp]; exact run_bytes_of_string w 9 22 5 X Tryz.underlying9 Tryz.underlying22 Tryz.underlying5), ?_, ?_⟩
  · exact (((Below.refl w.heap.size w).drew).alloc (Nat.le_refl _) _)
  · refine ⟨_, _, _, new_block0 _ _, ?_, ?_⟩
    · simp [bytesRow]
    · intro j hj
      simp at hj
      simp [bytesRow, Array.getElem?_append, hj]

set_option maxHeartbeats 1000000 in
theorem swap_yes (o m : Int) (w : World) : Calls Tryz.prog 137 #[.int .u8 o, .int .u8 o, .int .u8 m] w fun e w' => e = .returned (.int .u8 m) ∧ w = w' := by
  have hq : (o == o) = true := by simp
  go_enter Tryz.func137, Tryz.ntmps137
  go_wp2_with fail
  go_ret
  exact ⟨rfl, rfl⟩
set_option maxHeartbeats 1000000 in
theorem swap_no (c o m : Int) (hq : (c == o) = false) (w : World) : Calls Tryz.prog 137 #[.int .u8 c, .int .u8 o, .int .u8 m] w fun e w' => e = .returned (.int .u8 c) ∧ w = w' := by
  go_enter Tryz.func137, Tryz.ntmps137
  go_wp2_with fail
  go_ret
  exact ⟨rfl, rfl⟩
theorem b8_beq (a b : UInt8) : (((a.toNat : Nat) : Int) == ((b.toNat : Nat) : Int)) = decide (a = b) := by
  rw [Bool.eq_iff_iff, decide_eq_true_iff, beq_iff_eq]
  exact ⟨fun h => u8_ext (by omega), fun h => by rw [h]⟩
theorem swap_any (c o m : UInt8) (w : World) : Calls Tryz.prog 137 #[.int .u8 (c.toNat : Int), .int .u8 (o.toNat : Int), .int .u8 (m.toNat : Int)] w fun e w' => e = .returned (.int .u8 ((sw c o m).toNat : Int)) ∧ w = w' := by
  unfold sw
  split
  · rename_i h; subst h; exact swap_yes _ _ w
  · rename_i h; exact swap_no _ _ _ (by rw [b8_beq]; exact decide_eq_false h) w

set_option maxHeartbeats 1000000 in
theorem tr_same (s : ByteArray) (o : Int) (w : World) : Calls Tryz.prog 76 #[.string s, .int .u8 o, .int .u8 o] w fun e w' => e = .returned (.string s) ∧ Below w.heap.size w w' := by
  have hq : (o == o) = true := by simp
  go_enter Tryz.func76, Tryz.ntmps76
  go_wp2_with fail
  go_ret
  exact ⟨rfl, Below.refl _ _⟩
set_option maxHeartbeats 1000000 in
theorem tr_nofree (s U : ByteArray) (o m : Int) (hq : (o == m) = false) (HF : ∀ w, Calls Tryz.prog 68 #[.string s] w fun e w' => e = .returned (.string U) ∧ Below w.heap.size w w') (HI : ∀ w, Calls Tryz.prog 69 #[.string U, .int .u8 o] w fun e w' => e = .returned (.bool false) ∧ w = w') (w : World) : Calls Tryz.prog 76 #[.string s, .int .u8 o, .int .u8 m] w fun e w' => e = .returned (.string s) ∧ Below w.heap.size w w' := by
  have HF' := Lib.hid HF
  have HI' := Lib.hid HI
  clear HF HI
  go_enter Tryz.func76, Tryz.ntmps76
  go_wp2_with fail
  refine (HF'.out _).mono ?_
  rintro e w1 ⟨rfl, b1⟩
  go_wp2_with fail
  refine (HI'.out _).mono ?_
  rintro e w2 ⟨rfl, rfl⟩
  go_wp2_with fail
  go_ret
  exact ⟨rfl, b1⟩
set_option maxHeartbeats 4000000 in
theorem tr_snd (s U : ByteArray) (o m : Int) (a b a2 b2 : UInt8) (P2 HD : ByteArray) (hP : P2.size ≤ 700) (hHB : HD = B [a2, 33, b2, 46]) (hs : 4 ≤ s.size) (hs3 : s.size ≤ 700) (hq : (o == m) = false) (hl : (s.extract 0 4).data.toList = [a, 33, b, 46])
    (HF : ∀ w, Calls Tryz.prog 68 #[.string s] w fun e w' => e = .returned (.string U) ∧ Below w.heap.size w w') (HI : ∀ w, Calls Tryz.prog 69 #[.string U, .int .u8 o] w fun e w' => e = .returned (.bool true) ∧ w = w') (HH : ∀ w, Calls Tryz.prog 126 #[.string s] w fun e w' => e = .returned (.int .i64 4) ∧ w = w') (HB : ∀ w, Calls Tryz.prog 124 #[.string s] w fun e w' => e = .returned (.tuple #[.int .u8 0, .bool false]) ∧ w = w') (HK : ∀ w, Calls Tryz.prog 100 #[.string s] w fun e w' => e = .returned (.int .u8 33) ∧ w = w') (HS : ∀ w, Calls Tryz.prog 137 #[.int .u8 (a.toNat : Int), .int .u8 o, .int .u8 m] w fun e w' => e = .returned (.int .u8 (a2.toNat : Int)) ∧ w = w') (HS2 : ∀ w, Calls Tryz.prog 137 #[.int .u8 (b.toNat : Int), .int .u8 o, .int .u8 m] w fun e w' => e = .returned (.int .u8 (b2.toNat : Int)) ∧ w = w') (HR : ∀ w, Calls Tryz.prog 76 #[.string (s.extract 4 s.size), .int .u8 o, .int .u8 m] w fun e w' => e = .returned (.string P2) ∧ Below w.heap.size w w') (w : World) :
    Calls Tryz.prog 76 #[.string s, .int .u8 o, .int .u8 m] w fun e w' => e = .returned (.string (HD ++ P2)) ∧ Below w.heap.size w w' := by
  have Hl := Lib.hid hl
  clear hl
  have HF' := Lib.hid HF
  have HI' := Lib.hid HI
  have HH' := Lib.hid HH
  have HB' := Lib.hid HB
  have HK' := Lib.hid HK
  have HS' := Lib.hid HS
  have HS2' := Lib.hid HS2
  have HR' := Lib.hid HR
  clear HF HI HH HB HK HS HS2 HR
  go_enter Tryz.func76, Tryz.ntmps76
  go_wp2_with fail
  refine (HF'.out _).mono ?_
  rintro e w1 ⟨rfl, b1⟩
  go_wp2_with fail
  refine (HI'.out _).mono ?_
  rintro e w2 ⟨rfl, rfl⟩
  go_wp2_with fail
  refine (HH'.out _).mono ?_
  rintro e w3 ⟨rfl, rfl⟩
  obtain ⟨cap, W, hcv, bW, hr⟩ := conv_head (s.extract 0 4) _ 4 Hl.out rfl w1
  have bl := blow_go b1 bW
  have hgw : w.heap.size ≤ w1.heap.size := b1.size
  obtain ⟨g, hg⟩ : ∃ g, g = w1.heap.size := ⟨_, rfl⟩
  rw [← hg] at hcv hr hgw
  clear b1 bW hg
  have Hr := Lib.hid hr
  clear hr
  go_wp2_with fail
  clear hcv
  refine (HB'.out _).mono ?_
  rintro e w4 ⟨rfl, rfl⟩
  go_wp2_with fail
  refine (HK'.out _).mono ?_
  rintro e w5 ⟨rfl, rfl⟩
  have x0 := Hr.out.cell 0 (by simp)
  have y0 := Hr.out.free 0 (by simp)
  have x2 := Hr.out.cell 2 (by simp)
  have y2 := Hr.out.free 2 (by simp)
  simp only [List.getElem_cons_zero, List.getElem_cons_succ] at x0 x2
  go_wp2_with fail
  refine (HS'.out _).mono ?_
  rintro e v0 ⟨rfl, rfl⟩
  go_wp2_with fail
  refine (HS2'.out _).mono ?_
  rintro e v2 ⟨rfl, rfl⟩
  go_wp2_with fail
  obtain ⟨W2, hW2⟩ : ∃ W2, W2 = ((W.setCell ⟨g, 0, none⟩ (.int .u8 (a2.toNat : Int))).setCell ⟨g, 2, none⟩ (.int .u8 (b2.toNat : Int))) := ⟨_, rfl⟩
  have hr2 : HRow W2 g [a2, 33, b2, 46] := by rw [hW2]; exact ((Hr.out.set 0 (by simp) a2).set 2 (by simp) b2)
  have bl2 : Below w.heap.size w W2 := by rw [hW2]; exact ((bl.setCell (p := ⟨g, 0, none⟩) hgw _).setCell (p := ⟨g, 2, none⟩) hgw _)
  rw [← hW2]
  clear hW2
  have hconv := fun (W : World) (h : HRow W g [a2, 33, b2, 46]) => h.conv 4 cap rfl
  have hB : (B [a2, 33, b2, 46]).size = 4 := rfl
  rw [← hHB] at hconv hB
  have hB4 : HD.size ≤ 4 := by omega
  have cv0 := hconv W2 hr2
  have cvd := hconv W2.drew hr2.drew
  have HCV := Lib.hid hconv
  clear hconv hHB hB
  have HR2 := Lib.hid hr2
  clear hr2 Hr bl
  go_region_with ((go_at_call 76; refine (HR'.out _).mono ?_; rintro e v1 ⟨rfl, d1⟩; have cv1 := HCV.out v1 (HR2.out.drew.below d1); have bl3 := blow_go bl2.drew d1))
  all_goals
    go_wp2_with fail
    go_ret
    exact ⟨rfl, bl3⟩
set_option maxHeartbeats 4000000 in
theorem tr_mat (s U : ByteArray) (o m : Int) (a b a2 b2 : UInt8) (P2 HD : ByteArray) (hP : P2.size ≤ 700) (hHB : HD = B [91, a2, 61, b2, 93]) (hs : 5 ≤ s.size) (hs3 : s.size ≤ 700) (hq : (o == m) = false) (hl : (s.extract 0 5).data.toList = [91, a, 61, b, 93])
    (HF : ∀ w, Calls Tryz.prog 68 #[.string s] w fun e w' => e = .returned (.string U) ∧ Below w.heap.size w w') (HI : ∀ w, Calls Tryz.prog 69 #[.string U, .int .u8 o] w fun e w' => e = .returned (.bool true) ∧ w = w') (HH : ∀ w, Calls Tryz.prog 126 #[.string s] w fun e w' => e = .returned (.int .i64 5) ∧ w = w') (HB : ∀ w, Calls Tryz.prog 124 #[.string s] w fun e w' => e = .returned (.tuple #[.int .u8 0, .bool false]) ∧ w = w') (HK : ∀ w, Calls Tryz.prog 100 #[.string s] w fun e w' => e = .returned (.int .u8 61) ∧ w = w') (HS : ∀ w, Calls Tryz.prog 137 #[.int .u8 (a.toNat : Int), .int .u8 o, .int .u8 m] w fun e w' => e = .returned (.int .u8 (a2.toNat : Int)) ∧ w = w') (HS2 : ∀ w, Calls Tryz.prog 137 #[.int .u8 (b.toNat : Int), .int .u8 o, .int .u8 m] w fun e w' => e = .returned (.int .u8 (b2.toNat : Int)) ∧ w = w') (HR : ∀ w, Calls Tryz.prog 76 #[.string (s.extract 5 s.size), .int .u8 o, .int .u8 m] w fun e w' => e = .returned (.string P2) ∧ Below w.heap.size w w') (w : World) :
    Calls Tryz.prog 76 #[.string s, .int .u8 o, .int .u8 m] w fun e w' => e = .returned (.string (HD ++ P2)) ∧ Below w.heap.size w w' := by
  have Hl := Lib.hid hl
  clear hl
  have HF' := Lib.hid HF
  have HI' := Lib.hid HI
  have HH' := Lib.hid HH
  have HB' := Lib.hid HB
  have HK' := Lib.hid HK
  have HS' := Lib.hid HS
  have HS2' := Lib.hid HS2
  have HR' := Lib.hid HR
  clear HF HI HH HB HK HS HS2 HR
  go_enter Tryz.func76, Tryz.ntmps76
  go_wp2_with fail
  refine (HF'.out _).mono ?_
  rintro e w1 ⟨rfl, b1⟩
  go_wp2_with fail
  refine (HI'.out _).mono ?_
  rintro e w2 ⟨rfl, rfl⟩
  go_wp2_with fail
  refine (HH'.out _).mono ?_
  rintro e w3 ⟨rfl, rfl⟩
  obtain ⟨cap, W, hcv, bW, hr⟩ := conv_head (s.extract 0 5) _ 5 Hl.out rfl w1
  have bl := blow_go b1 bW
  have hgw : w.heap.size ≤ w1.heap.size := b1.size
  obtain ⟨g, hg⟩ : ∃ g, g = w1.heap.size := ⟨_, rfl⟩
  rw [← hg] at hcv hr hgw
  clear b1 bW hg
  have Hr := Lib.hid hr
  clear hr
  go_wp2_with fail
  clear hcv
  refine (HB'.out _).mono ?_
  rintro e w4 ⟨rfl, rfl⟩
  go_wp2_with fail
  refine (HK'.out _).mono ?_
  rintro e w5 ⟨rfl, rfl⟩
  have x0 := Hr.out.cell 1 (by simp)
  have y0 := Hr.out.free 1 (by simp)
  have x2 := Hr.out.cell 3 (by simp)
  have y2 := Hr.out.free 3 (by simp)
  simp only [List.getElem_cons_zero, List.getElem_cons_succ] at x0 x2
  go_wp2_with fail
  refine (HS'.out _).mono ?_
  rintro e v1 ⟨rfl, rfl⟩
  go_wp2_with fail
  refine (HS2'.out _).mono ?_
  rintro e v3 ⟨rfl, rfl⟩
  go_wp2_with fail
  obtain ⟨W2, hW2⟩ : ∃ W2, W2 = ((W.setCell ⟨g, 1, none⟩ (.int .u8 (a2.toNat : Int))).setCell ⟨g, 3, none⟩ (.int .u8 (b2.toNat : Int))) := ⟨_, rfl⟩
  have hr2 : HRow W2 g [91, a2, 61, b2, 93] := by rw [hW2]; exact ((Hr.out.set 1 (by simp) a2).set 3 (by simp) b2)
  have bl2 : Below w.heap.size w W2 := by rw [hW2]; exact ((bl.setCell (p := ⟨g, 1, none⟩) hgw _).setCell (p := ⟨g, 3, none⟩) hgw _)
  rw [← hW2]
  clear hW2
  have hconv := fun (W : World) (h : HRow W g [91, a2, 61, b2, 93]) => h.conv 5 cap rfl
  have hB : (B [91, a2, 61, b2, 93]).size = 5 := rfl
  rw [← hHB] at hconv hB
  have hB4 : HD.size ≤ 5 := by omega
  have cv0 := hconv W2 hr2
  have cvd := hconv W2.drew hr2.drew
  have HCV := Lib.hid hconv
  clear hconv hHB hB
  have HR2 := Lib.hid hr2
  clear hr2 Hr bl
  go_region_with ((go_at_call 76; refine (HR'.out _).mono ?_; rintro e v1 ⟨rfl, d1⟩; have cv1 := HCV.out v1 (HR2.out.drew.below d1); have bl3 := blow_go bl2.drew d1))
  all_goals
    go_wp2_with fail
    go_ret
    exact ⟨rfl, bl3⟩
set_option maxHeartbeats 4000000 in
theorem tr_tau (s U : ByteArray) (o m : Int)  (P2 HD : ByteArray) (hP : P2.size ≤ 700) (hHB : HD = B [126, 46]) (hs : 2 ≤ s.size) (hs3 : s.size ≤ 700) (hq : (o == m) = false) (hl : (s.extract 0 2).data.toList = [126, 46])
    (HF : ∀ w, Calls Tryz.prog 68 #[.string s] w fun e w' => e = .returned (.string U) ∧ Below w.heap.size w w') (HI : ∀ w, Calls Tryz.prog 69 #[.string U, .int .u8 o] w fun e w' => e = .returned (.bool true) ∧ w = w') (HH : ∀ w, Calls Tryz.prog 126 #[.string s] w fun e w' => e = .returned (.int .i64 2) ∧ w = w') (HB : ∀ w, Calls Tryz.prog 124 #[.string s] w fun e w' => e = .returned (.tuple #[.int .u8 0, .bool false]) ∧ w = w') (HK : ∀ w, Calls Tryz.prog 100 #[.string s] w fun e w' => e = .returned (.int .u8 126) ∧ w = w') (HR : ∀ w, Calls Tryz.prog 76 #[.string (s.extract 2 s.size), .int .u8 o, .int .u8 m] w fun e w' => e = .returned (.string P2) ∧ Below w.heap.size w w') (w : World) :
    Calls Tryz.prog 76 #[.string s, .int .u8 o, .int .u8 m] w fun e w' => e = .returned (.string (HD ++ P2)) ∧ Below w.heap.size w w' := by
  have Hl := Lib.hid hl
  clear hl
  have HF' := Lib.hid HF
  have HI' := Lib.hid HI
  have HH' := Lib.hid HH
  have HB' := Lib.hid HB
  have HK' := Lib.hid HK
  have HR' := Lib.hid HR
  clear HF HI HH HB HK HR
  go_enter Tryz.func76, Tryz.ntmps76
  go_wp2_with fail
  refine (HF'.out _).mono ?_
  rintro e w1 ⟨rfl, b1⟩
  go_wp2_with fail
  refine (HI'.out _).mono ?_
  rintro e w2 ⟨rfl, rfl⟩
  go_wp2_with fail
  refine (HH'.out _).mono ?_
  rintro e w3 ⟨rfl, rfl⟩
  obtain ⟨cap, W, hcv, bW, hr⟩ := conv_head (s.extract 0 2) _ 2 Hl.out rfl w1
  have bl := blow_go b1 bW
  have hgw : w.heap.size ≤ w1.heap.size := b1.size
  obtain ⟨g, hg⟩ : ∃ g, g = w1.heap.size := ⟨_, rfl⟩
  rw [← hg] at hcv hr hgw
  clear b1 bW hg
  have Hr := Lib.hid hr
  clear hr
  go_wp2_with fail
  clear hcv
  refine (HB'.out _).mono ?_
  rintro e w4 ⟨rfl, rfl⟩
  go_wp2_with fail
  refine (HK'.out _).mono ?_
  rintro e w5 ⟨rfl, rfl⟩
  go_wp2_with fail
  have hr2 := Hr.out
  have bl2 := bl
  have hconv := fun (W : World) (h : HRow W g [126, 46]) => h.conv 2 cap rfl
  have hB : (B [126, 46]).size = 2 := rfl
  rw [← hHB] at hconv hB
  have hB4 : HD.size ≤ 2 := by omega
  have cv0 := hconv W hr2
  have cvd := hconv W.drew hr2.drew
  have HCV := Lib.hid hconv
  clear hconv hHB hB
  have HR2 := Lib.hid hr2
  clear hr2 Hr bl
  go_region_with ((go_at_call 76; refine (HR'.out _).mono ?_; rintro e v1 ⟨rfl, d1⟩; have cv1 := HCV.out v1 (HR2.out.drew.below d1); have bl3 := blow_go bl2.drew d1))
  all_goals
    go_wp2_with fail
    go_ret
    exact ⟨rfl, bl3⟩
set_option maxHeartbeats 4000000 in
theorem tr_rep (s U : ByteArray) (o m : Int)  (P2 HD : ByteArray) (hP : P2.size ≤ 700) (hHB : HD = B [42]) (hs : 1 ≤ s.size) (hs3 : s.size ≤ 700) (hq : (o == m) = false) (hl : (s.extract 0 1).data.toList = [42])
    (HF : ∀ w, Calls Tryz.prog 68 #[.string s] w fun e w' => e = .returned (.string U) ∧ Below w.heap.size w w') (HI : ∀ w, Calls Tryz.prog 69 #[.string U, .int .u8 o] w fun e w' => e = .returned (.bool true) ∧ w = w') (HH : ∀ w, Calls Tryz.prog 126 #[.string s] w fun e w' => e = .returned (.int .i64 1) ∧ w = w') (HB : ∀ w, Calls Tryz.prog 124 #[.string s] w fun e w' => e = .returned (.tuple #[.int .u8 0, .bool false]) ∧ w = w') (HK : ∀ w, Calls Tryz.prog 100 #[.string s] w fun e w' => e = .returned (.int .u8 42) ∧ w = w') (HR : ∀ w, Calls Tryz.prog 76 #[.string (s.extract 1 s.size), .int .u8 o, .int .u8 m] w fun e w' => e = .returned (.string P2) ∧ Below w.heap.size w w') (w : World) :
    Calls Tryz.prog 76 #[.string s, .int .u8 o, .int .u8 m] w fun e w' => e = .returned (.string (HD ++ P2)) ∧ Below w.heap.size w w' := by
  have Hl := Lib.hid hl
  clear hl
  have HF' := Lib.hid HF
  have HI' := Lib.hid HI
  have HH' := Lib.hid HH
  have HB' := Lib.hid HB
  have HK' := Lib.hid HK
  have HR' := Lib.hid HR
  clear HF HI HH HB HK HR
  go_enter Tryz.func76, Tryz.ntmps76
  go_wp2_with fail
  refine (HF'.out _).mono ?_
  rintro e w1 ⟨rfl, b1⟩
  go_wp2_with fail
  refine (HI'.out _).mono ?_
  rintro e w2 ⟨rfl, rfl⟩
  go_wp2_with fail
  refine (HH'.out _).mono ?_
  rintro e w3 ⟨rfl, rfl⟩
  obtain ⟨cap, W, hcv, bW, hr⟩ := conv_head (s.extract 0 1) _ 1 Hl.out rfl w1
  have bl := blow_go b1 bW
  have hgw : w.heap.size ≤ w1.heap.size := b1.size
  obtain ⟨g, hg⟩ : ∃ g, g = w1.heap.size := ⟨_, rfl⟩
  rw [← hg] at hcv hr hgw
  clear b1 bW hg
  have Hr := Lib.hid hr
  clear hr
  go_wp2_with fail
  clear hcv
  refine (HB'.out _).mono ?_
  rintro e w4 ⟨rfl, rfl⟩
  go_wp2_with fail
  refine (HK'.out _).mono ?_
  rintro e w5 ⟨rfl, rfl⟩
  go_wp2_with fail
  have hr2 := Hr.out
  have bl2 := bl
  have hconv := fun (W : World) (h : HRow W g [42]) => h.conv 1 cap rfl
  have hB : (B [42]).size = 1 := rfl
  rw [← hHB] at hconv hB
  have hB4 : HD.size ≤ 1 := by omega
  have cv0 := hconv W hr2
  have cvd := hconv W.drew hr2.drew
  have HCV := Lib.hid hconv
  clear hconv hHB hB
  have HR2 := Lib.hid hr2
  clear hr2 Hr bl
  go_region_with ((go_at_call 76; refine (HR'.out _).mono ?_; rintro e v1 ⟨rfl, d1⟩; have cv1 := HCV.out v1 (HR2.out.drew.below d1); have bl3 := blow_go bl2.drew d1))
  all_goals
    go_wp2_with fail
    go_ret
    exact ⟨rfl, bl3⟩
set_option maxHeartbeats 4000000 in
theorem tr_sum (s U : ByteArray) (o m : Int)  (u v U1 U2 Q : ByteArray) (hs : 1 ≤ s.size) (hs3 : s.size ≤ 700) (hq : (o == m) = false) (hl : (s.extract 0 1).data.toList = [40])
    (HF : ∀ w, Calls Tryz.prog 68 #[.string s] w fun e w' => e = .returned (.string U) ∧ Below w.heap.size w w') (HI : ∀ w, Calls Tryz.prog 69 #[.string U, .int .u8 o] w fun e w' => e = .returned (.bool true) ∧ w = w') (HH : ∀ w, Calls Tryz.prog 126 #[.string s] w fun e w' => e = .returned (.int .i64 1) ∧ w = w') (HB : ∀ w, Calls Tryz.prog 124 #[.string s] w fun e w' => e = .returned (.tuple #[.int .u8 0, .bool false]) ∧ w = w') (HK : ∀ w, Calls Tryz.prog 100 #[.string s] w fun e w' => e = .returned (.int .u8 43) ∧ w = w') (HP : ∀ w, Calls Tryz.prog 101 #[.string s] w fun e w' => ∃ b, e = .returned (.slice (some ⟨b, 0, none⟩) 2 2) ∧ w.heap.size ≤ b ∧ w'.heap[b]? = some (.cells #[.string u, .string v] 9 (0, 0)) ∧ Below w.heap.size w w') (HR1 : ∀ w, Calls Tryz.prog 76 #[.string u, .int .u8 o, .int .u8 m] w fun e w' => e = .returned (.string U1) ∧ Below w.heap.size w w') (HR2 : ∀ w, Calls Tryz.prog 76 #[.string v, .int .u8 o, .int .u8 m] w fun e w' => e = .returned (.string U2) ∧ Below w.heap.size w w') (HW : ∀ (g n cap : Nat) (w : World), 2 ≤ n → w.cell? ⟨g, 0, none⟩ = some (.string U1) → w.cell? ⟨g, 1, none⟩ = some (.string U2) → Calls Tryz.prog 128 #[.string s, .slice (some ⟨g, 0, none⟩) n cap] w fun e w' => e = .returned (.string Q) ∧ Below w.heap.size w w') (w : World) :
    Calls Tryz.prog 76 #[.string s, .int .u8 o, .int .u8 m] w fun e w' => e = .returned (.string (Q)) ∧ Below w.heap.size w w' := by
  have Hl := Lib.hid hl
  clear hl
  have HF' := Lib.hid HF
  have HI' := Lib.hid HI
  have HH' := Lib.hid HH
  have HB' := Lib.hid HB
  have HK' := Lib.hid HK
  have HP' := Lib.hid HP
  have HR1' := Lib.hid HR1
  have HR2' := Lib.hid HR2
  have HW' := Lib.hid HW
  clear HF HI HH HB HK HP HR1 HR2 HW
  go_enter Tryz.func76, Tryz.ntmps76
  go_wp2_with fail
  refine (HF'.out _).mono ?_
  rintro e w1 ⟨rfl, b1⟩
  go_wp2_with fail
  refine (HI'.out _).mono ?_
  rintro e w2 ⟨rfl, rfl⟩
  go_wp2_with fail
  refine (HH'.out _).mono ?_
  rintro e w3 ⟨rfl, rfl⟩
  obtain ⟨cap, W, hcv, bW, hr⟩ := conv_head (s.extract 0 1) _ 1 Hl.out rfl w1
  have bl := blow_go b1 bW
  have hgw : w.heap.size ≤ w1.heap.size := b1.size
  obtain ⟨g, hg⟩ : ∃ g, g = w1.heap.size := ⟨_, rfl⟩
  rw [← hg] at hcv hr hgw
  clear b1 bW hg
  have Hr := Lib.hid hr
  clear hr
  go_wp2_with fail
  clear hcv
  refine (HB'.out _).mono ?_
  rintro e w4 ⟨rfl, rfl⟩
  go_wp2_with fail
  refine (HK'.out _).mono ?_
  rintro e w5 ⟨rfl, rfl⟩
  clear Hr hgw
  go_wp2_with fail
  refine (HP'.out _).mono ?_
  rintro e w6 ⟨b, rfl, hb, hh, b6⟩
  have c0 := cellOf2a hh
  have c1 := cellOf2b hh
  replace bl := blow_go bl b6
  clear hh hb b6
  have hbl := World.block_lt_of_cell? w6 _ c0
  go_wp2_with fail
  go_region_with (first | (go_at_call_of 76 u; refine (HR1'.out _).mono ?_; rintro e v1 ⟨rfl, d1⟩; have k1 := blow_go bl.drew d1; have q0 := (d1.cell (p := ⟨b, 0, none⟩) hbl).trans c0; have q1 := (d1.cell (p := ⟨b, 1, none⟩) hbl).trans c1) | (go_at_call_of 76 v; refine (HR2'.out _).mono ?_; rintro e v2 ⟨rfl, d2⟩; have k2 := blow_go k1 d2) | (go_at_call 128; refine (HW'.out _ _ _ _ (by omega) (cellOf2a (new_block0 _ _)) (cellOf2b (new_block0 _ _))).mono ?_; rintro e v3 ⟨rfl, d3⟩; have k3 := blow_go (k2.alloc k2.size _) d3))
  all_goals
    go_wp2_with fail
    go_ret
    exact ⟨rfl, k3⟩
set_option maxHeartbeats 4000000 in
theorem tr_par (s U : ByteArray) (o m : Int)  (u v U1 U2 Q : ByteArray) (hs : 1 ≤ s.size) (hs3 : s.size ≤ 700) (hq : (o == m) = false) (hl : (s.extract 0 1).data.toList = [40])
    (HF : ∀ w, Calls Tryz.prog 68 #[.string s] w fun e w' => e = .returned (.string U) ∧ Below w.heap.size w w') (HI : ∀ w, Calls Tryz.prog 69 #[.string U, .int .u8 o] w fun e w' => e = .returned (.bool true) ∧ w = w') (HH : ∀ w, Calls Tryz.prog 126 #[.string s] w fun e w' => e = .returned (.int .i64 1) ∧ w = w') (HB : ∀ w, Calls Tryz.prog 124 #[.string s] w fun e w' => e = .returned (.tuple #[.int .u8 0, .bool false]) ∧ w = w') (HK : ∀ w, Calls Tryz.prog 100 #[.string s] w fun e w' => e = .returned (.int .u8 38) ∧ w = w') (HP : ∀ w, Calls Tryz.prog 101 #[.string s] w fun e w' => ∃ b, e = .returned (.slice (some ⟨b, 0, none⟩) 2 2) ∧ w.heap.size ≤ b ∧ w'.heap[b]? = some (.cells #[.string u, .string v] 9 (0, 0)) ∧ Below w.heap.size w w') (HR1 : ∀ w, Calls Tryz.prog 76 #[.string u, .int .u8 o, .int .u8 m] w fun e w' => e = .returned (.string U1) ∧ Below w.heap.size w w') (HR2 : ∀ w, Calls Tryz.prog 76 #[.string v, .int .u8 o, .int .u8 m] w fun e w' => e = .returned (.string U2) ∧ Below w.heap.size w w') (HW : ∀ (g n cap : Nat) (w : World), 2 ≤ n → w.cell? ⟨g, 0, none⟩ = some (.string U1) → w.cell? ⟨g, 1, none⟩ = some (.string U2) → Calls Tryz.prog 128 #[.string s, .slice (some ⟨g, 0, none⟩) n cap] w fun e w' => e = .returned (.string Q) ∧ Below w.heap.size w w') (w : World) :
    Calls Tryz.prog 76 #[.string s, .int .u8 o, .int .u8 m] w fun e w' => e = .returned (.string (Q)) ∧ Below w.heap.size w w' := by
  have Hl := Lib.hid hl
  clear hl
  have HF' := Lib.hid HF
  have HI' := Lib.hid HI
  have HH' := Lib.hid HH
  have HB' := Lib.hid HB
  have HK' := Lib.hid HK
  have HP' := Lib.hid HP
  have HR1' := Lib.hid HR1
  have HR2' := Lib.hid HR2
  have HW' := Lib.hid HW
  clear HF HI HH HB HK HP HR1 HR2 HW
  go_enter Tryz.func76, Tryz.ntmps76
  go_wp2_with fail
  refine (HF'.out _).mono ?_
  rintro e w1 ⟨rfl, b1⟩
  go_wp2_with fail
  refine (HI'.out _).mono ?_
  rintro e w2 ⟨rfl, rfl⟩
  go_wp2_with fail
  refine (HH'.out _).mono ?_
  rintro e w3 ⟨rfl, rfl⟩
  obtain ⟨cap, W, hcv, bW, hr⟩ := conv_head (s.extract 0 1) _ 1 Hl.out rfl w1
  have bl := blow_go b1 bW
  have hgw : w.heap.size ≤ w1.heap.size := b1.size
  obtain ⟨g, hg⟩ : ∃ g, g = w1.heap.size := ⟨_, rfl⟩
  rw [← hg] at hcv hr hgw
  clear b1 bW hg
  have Hr := Lib.hid hr
  clear hr
  go_wp2_with fail
  clear hcv
  refine (HB'.out _).mono ?_
  rintro e w4 ⟨rfl, rfl⟩
  go_wp2_with fail
  refine (HK'.out _).mono ?_
  rintro e w5 ⟨rfl, rfl⟩
  clear Hr hgw
  go_wp2_with fail
  refine (HP'.out _).mono ?_
  rintro e w6 ⟨b, rfl, hb, hh, b6⟩
  have c0 := cellOf2a hh
  have c1 := cellOf2b hh
  replace bl := blow_go bl b6
  clear hh hb b6
  have hbl := World.block_lt_of_cell? w6 _ c0
  go_wp2_with fail
  go_region_with (first | (go_at_call_of 76 u; refine (HR1'.out _).mono ?_; rintro e v1 ⟨rfl, d1⟩; have k1 := blow_go bl.drew d1; have q0 := (d1.cell (p := ⟨b, 0, none⟩) hbl).trans c0; have q1 := (d1.cell (p := ⟨b, 1, none⟩) hbl).trans c1) | (go_at_call_of 76 v; refine (HR2'.out _).mono ?_; rintro e v2 ⟨rfl, d2⟩; have k2 := blow_go k1 d2) | (go_at_call 128; refine (HW'.out _ _ _ _ (by omega) (cellOf2a (new_block0 _ _)) (cellOf2b (new_block0 _ _))).mono ?_; rintro e v3 ⟨rfl, d3⟩; have k3 := blow_go (k2.alloc k2.size _) d3))
  all_goals
    go_wp2_with fail
    go_ret
    exact ⟨rfl, k3⟩

end Go.Proofs.YtmfmagfgcdaeeaaGreat.T1
