/- Slices of texts: compared, marked, and asked for their marks. -/
import Derived.Test.YtpabmidjfpabdaaPp
import Derived.Test.YtpabmidjfpabdaaTf
import Derived.Laws.Rows
import Derived.Deep.DeepCutAuto
import Derived.Deep.RegionWith
namespace Go.Proofs.Ytpabmidjfpabdaa.T1
open Go.RowKit
set_option maxRecDepth 100000
set_option linter.unusedVariables false
set_option linter.unusedSimpArgs false

theorem st_go {u v w : World} (h : Below u.heap.size u v) (k : Below v.heap.size v w) : Below u.heap.size u w := below_trans h k h.size
/-- The digits of a number in front of a text. -/
def dgs : Nat → Nat → ByteArray → ByteArray
  | 0, _, acc => acc
  | f + 1, k, acc => if k = 0 then acc else dgs f (k / 10) (one (UInt8.ofNat (48 + k % 10)) ++ acc)
/-- The text that marks a place. -/
def mkT (k : Nat) : ByteArray := ⟨#[109]⟩ ++ dgs (k + 1) k ⟨#[]⟩
theorem conv_dig (k : Nat) (w : World) : (convert 45 9 (.slice (some ⟨w.heap.size, 0, none⟩) 1 1)).run Try.prog (w.alloc (.cells #[.int .u8 (48 + (k : Int) % 10)] 5)) = .ok (.string (one (UInt8.ofNat (48 + k % 10)))) (w.alloc (.cells #[.int .u8 (48 + (k : Int) % 10)] 5)) := by
  have h := conv1 (UInt8.ofNat (48 + k % 10)) w
  rw [show (((UInt8.ofNat (48 + k % 10)).toNat : Nat) : Int) = 48 + (k : Int) % 10 by rw [UInt8.toNat_ofNat']; omega] at h
  exact h
set_option maxHeartbeats 2000000 in
theorem markText_any (k : Nat) (h1 : 1 ≤ k) (h2 : k ≤ 1000000) (w : World) : Calls Try.prog 25 #[.int .i64 (k : Int)] w fun e w' => e = .returned (.string (mkT k)) ∧ Below w.heap.size w w' := by
  obtain ⟨R, hR⟩ : ∃ R, R = dgs (k + 1) k ⟨#[]⟩ := ⟨_, rfl⟩
  have hm : Hid (mkT k = ⟨#[109]⟩ ++ R) := by rw [hR]; rfl
  have HR := Lib.hid hR
  have k1 : (0 : Int) < (k : Int) := by omega
  clear hR
  go_enter Try.func25, Try.ntmps25
  go_wp2_with fail
  go_loopw [0, 3] (fun v a wr => ∃ (j f : Nat) (acc : ByteArray), v = .int .i64 (j : Int) ∧ a = .string acc ∧ Hid (dgs f j acc = R) ∧ j < f ∧ j ≤ 1000000 ∧ Hid (j * 10 ^ acc.size ≤ 1000000) ∧ acc.size ≤ 7 ∧ Below w.heap.size w wr) (fun v _ _ => (intOf v).toNat)
  case atStart => exact ⟨k, k + 1, ⟨#[]⟩, rfl, rfl, Lib.hid HR.out.symm, by omega, h2, by show k * 1 ≤ _; omega, by decide, Below.refl _ _⟩
  case round =>
    obtain ⟨j, f, acc, rfl, rfl, hd, hjf, hj, hp, ha, hbw⟩ := hrel
    by_cases hlt : (0 : Int) < (j : Int)
    · obtain ⟨f', rfl⟩ : ∃ f', f = f' + 1 := ⟨f - 1, by omega⟩
      have ha6 : acc.size ≤ 6 := by
        have hp' := hp.out
        have : 10 ^ acc.size ≤ 10 ^ 6 := by
          refine Nat.le_trans ?_ hp'
          exact Nat.le_mul_of_pos_left _ (by omega)
        exact (Nat.pow_le_pow_iff_right (by decide)).1 this
      have hcv := conv_dig j
      obtain ⟨D, hD⟩ : ∃ D, D = one (UInt8.ofNat (48 + j % 10)) := ⟨_, rfl⟩
      rw [← hD] at hcv
      have hDs : D.size ≤ 1 := by rw [hD]; exact Nat.le_refl _
      have hn : Hid (dgs f' (j / 10) (D ++ acc) = R) := by
        have := hd.out
        rw [dgs, if_neg (by omega), ← hD] at this
        exact this
      have hp2 : Hid (j / 10 * 10 ^ (D ++ acc).size ≤ 1000000) := by
        show _ ≤ _
        have hsz : (D ++ acc).size = acc.size + 1 := by rw [hD, ByteArray.size_append]; show 1 + _ = _; omega
        rw [hsz, Nat.pow_succ]
        refine Nat.le_trans ?_ hp.out
        rw [show j / 10 * (10 ^ acc.size * 10) = (j / 10 * 10) * 10 ^ acc.size by rw [Nat.mul_comm (10 ^ acc.size) 10, Nat.mul_assoc]]
        exact Nat.mul_le_mul_right _ (Nat.div_mul_le_self j 10)
      have hsz2 : (D ++ acc).size ≤ 7 := by rw [ByteArray.size_append]; omega
      clear hd hp hD
      go_wp2_with fail
      go_roundw
      case rel => exact ⟨j / 10, f', D ++ acc, by push_cast; rfl, rfl, hn, by omega, by omega, hp2, hsz2, hbw.alloc hbw.size _⟩
      case measure => simp [intOf]; omega
    · obtain rfl : j = 0 := by omega
      have hr : Hid (acc = R) := by
        have := hd.out
        cases f with
        | zero => exact this
        | succ f => rw [dgs, if_pos rfl] at this; exact this
      have hx : Hid ((⟨#[109]⟩ : ByteArray) ++ acc = mkT k) := by show _ = _; rw [hm.out, hr.out]
      have o1 : (⟨#[109]⟩ : ByteArray).size = 1 := rfl
      obtain ⟨O, hO⟩ : ∃ O, O = (⟨#[109]⟩ : ByteArray) := ⟨_, rfl⟩
      go_wp2_with fail
      go_ret
      exact ⟨by rw [← hx.out]; rfl, hbw⟩

/-- A slice of texts. -/
structure SRow (w : World) (v : Value) (g : Nat) (xs : List ByteArray) : Prop where
  ex : ∃ a c, v = .slice a xs.length c ∧ (xs ≠ [] → a = some ⟨g, 0, none⟩ ∧ ∃ C, w.heap[g]? = some (.cells C 9 (0, 0)) ∧ ∀ j (h : j < xs.length), C[j]? = some (.string xs[j]))
theorem SRow.below {w w' : World} {v : Value} {g : Nat} {xs : List ByteArray} (h : SRow w v g xs) (k : Below w.heap.size w w') : SRow w' v g xs := by
  obtain ⟨a, c, h1, h2⟩ := h.ex
  refine ⟨a, c, h1, fun hne => ?_⟩
  obtain ⟨h3, C, h4, h5⟩ := h2 hne
  exact ⟨h3, C, (k.block g (lt_of_block h4)).trans h4, h5⟩
theorem SRow.only {w w' : World} {v : Value} {g b : Nat} {xs : List ByteArray} (h : SRow w v g xs) (k : Only b w w') (hb : xs ≠ [] → g ≠ b) : SRow w' v g xs := by
  obtain ⟨a, c, h1, h2⟩ := h.ex
  refine ⟨a, c, h1, fun hne => ?_⟩
  obtain ⟨h3, C, h4, h5⟩ := h2 hne
  exact ⟨h3, C, (k.block g (lt_of_block h4) (hb hne)).trans h4, h5⟩
theorem SRow.lt {w : World} {v : Value} {g : Nat} {xs : List ByteArray} (h : SRow w v g xs) (hne : xs ≠ []) : g < w.heap.size := by
  obtain ⟨a, c, h1, h2⟩ := h.ex
  obtain ⟨h3, C, h4, h5⟩ := h2 hne
  exact lt_of_block h4
theorem w_ne (x : ByteArray) : (x.toList != x.toList) = false := by simp

set_option maxHeartbeats 1000000 in
theorem eq_0 (a1 a2 : Option Addr) (c1 c2 : Nat) (w : World) : Calls Try.prog 17 #[.slice a1 0 c1, .slice a2 0 c2] w fun e w' => e = .returned (.bool true) ∧ Below w.heap.size w w' := by
  go_enter Try.func17, Try.ntmps17
  go_wp2_with fail
  refine wp_loop_rounds 1 ?_
  rw [rounds_succ]
  go_wp2_with fail
  go_ret
  exact ⟨rfl, Below.refl _ _⟩
set_option maxHeartbeats 2000000 in
theorem eq_n (g1 g2 n c1 c2 : Nat) (C1 C2 : Array Value) (xs : List ByteArray) (hn : n = xs.length) (hnn : n ≤ 100000) (hx1 : ∀ j (h : j < xs.length), C1[j]? = some (.string xs[j])) (hx2 : ∀ j (h : j < xs.length), C2[j]? = some (.string xs[j])) (w : World) (h1 : w.heap[g1]? = some (.cells C1 9 (0, 0))) (h2 : w.heap[g2]? = some (.cells C2 9 (0, 0))) :
    Calls Try.prog 17 #[.slice (some ⟨g1, 0, none⟩) n c1, .slice (some ⟨g2, 0, none⟩) n c2] w fun e w' => e = .returned (.bool true) ∧ Below w.heap.size w w' := by
  have HX1 := Lib.hid hx1
  have HX2 := Lib.hid hx2
  have H1 := Lib.hid h1
  have H2 := Lib.hid h2
  have HN := Lib.hid hn
  clear hx1 hx2 h1 h2 hn
  go_enter Try.func17, Try.ntmps17
  go_wp2_with fail
  go_loopw [5] (fun v wr => ∃ i : Nat, i ≤ n ∧ v = .int .i64 (i : Int) ∧ Below w.heap.size w wr) (fun v _ => n - (intOf v).toNat)
  case atStart => exact ⟨0, Nat.zero_le _, rfl, Below.refl _ _⟩
  case round =>
    obtain ⟨i, hi, rfl, hbw⟩ := hrel
    by_cases hlt : i < n
    · have hlt2 : i < xs.length := by have := HN.out; omega
      have r1 := (hbw.block g1 (lt_of_block H1.out)).trans H1.out
      have r2 := (hbw.block g2 (lt_of_block H2.out)).trans H2.out
      have c1 : wr.cell? ⟨g1, i, none⟩ = some (.string (xs[i]'hlt2)) := by rw [cell_of_row wr g1 i C1 _ _ r1]; exact HX1.out i hlt2
      have c2 : wr.cell? ⟨g2, i, none⟩ = some (.string (xs[i]'hlt2)) := by rw [cell_of_row wr g2 i C2 _ _ r2]; exact HX2.out i hlt2
      obtain ⟨x, hx⟩ : ∃ x, x = xs[i]'hlt2 := ⟨_, rfl⟩
      rw [← hx] at c1 c2
      have hw := w_ne x
      have hlti : (i : Int) < (n : Int) := by omega
      clear hx r1 r2
      go_wp2_with fail
      go_quiet (fail)
      go_wp2_with fail
      go_roundw
      case rel => exact ⟨i + 1, by omega, by go_num, below_drewN' hbw _⟩
      case measure => simp [intOf]; omega
    · obtain rfl : i = n := by omega
      go_wp2_with fail
      go_ret
      exact ⟨rfl, hbw⟩
theorem eq_any (w : World) (v1 v2 : Value) (g1 g2 : Nat) (xs : List ByteArray) (hl : xs.length ≤ 100000) (h1 : SRow w v1 g1 xs) (h2 : SRow w v2 g2 xs) : Calls Try.prog 17 #[v1, v2] w fun e w' => e = .returned (.bool true) ∧ Below w.heap.size w w' := by
  obtain ⟨a1, c1, rfl, h3⟩ := h1.ex
  obtain ⟨a2, c2, rfl, h4⟩ := h2.ex
  cases xs with
  | nil => exact eq_0 _ _ _ _ w
  | cons x xs =>
    obtain ⟨rfl, C1, h5, h6⟩ := h3 (by simp)
    obtain ⟨rfl, C2, h7, h8⟩ := h4 (by simp)
    exact eq_n g1 g2 _ _ _ C1 C2 (x :: xs) rfl hl h6 h8 w h5 h7

/-- The marks from a number on. -/
def mks (k n : Nat) : List ByteArray := (List.range n).map fun i => mkT (k + i)
theorem mks_len (k n : Nat) : (mks k n).length = n := by simp [mks]
theorem mks_at (k n j : Nat) (h : j < (mks k n).length) : (mks k n)[j] = mkT (k + j) := by simp [mks]
set_option maxHeartbeats 1000000 in
theorem mk_0 (a : Option Addr) (c k : Nat) (w : World) : Calls Try.prog 18 #[.slice a 0 c, .int .i64 (k : Int)] w fun e w' => e = .returned (.int .i64 (k : Int)) ∧ w = w' := by
  go_enter Try.func18, Try.ntmps18
  go_wp2_with fail
  refine wp_loop_rounds 1 ?_
  rw [rounds_succ]
  go_wp2_with fail
  go_ret
  exact ⟨rfl, rfl⟩
/-- What marking leaves: the next number, the marks in the block, no other old block written. -/
def MkPost (g k n : Nat) (w : World) (e : Ending) (w' : World) : Prop := e = .returned (.int .i64 ((k + n : Nat) : Int)) ∧ (∃ C, w'.heap[g]? = some (.cells C 9 (0, 0)) ∧ ∀ j, j < n → C[j]? = some (.string (mkT (k + j)))) ∧ Only g w w'
set_option maxHeartbeats 2000000 in
theorem mk_n (g n c k : Nat) (C0 : Array Value) (hs : n ≤ C0.size) (hnn : n ≤ 100000) (hk1 : 1 ≤ k) (hk : k ≤ 100000) (w : World) (h1 : w.heap[g]? = some (.cells C0 9 (0, 0))) :
    Calls Try.prog 18 #[.slice (some ⟨g, 0, none⟩) n c, .int .i64 (k : Int)] w (MkPost g k n w) := by
  have H1 := Lib.hid h1
  have hgw := lt_of_block h1
  clear h1
  go_enter Try.func18, Try.ntmps18
  go_wp2_with fail
  go_loopw [1, 5] (fun vk v wr => ∃ (i : Nat) (C : Array Value), i ≤ n ∧ v = .int .i64 (i : Int) ∧ vk = .int .i64 ((k + i : Nat) : Int) ∧ Hid (C.size = C0.size) ∧ Hid (wr.heap[g]? = some (.cells C 9 (0, 0))) ∧ Hid (∀ j, j < i → C[j]? = some (.string (mkT (k + j)))) ∧ Only g w wr) (fun _ v _ => n - (intOf v).toNat)
  case atStart => exact ⟨0, C0, Nat.zero_le _, rfl, rfl, rfl, H1, fun j h => by omega, Only.refl _ _⟩
  case round =>
    obtain ⟨i, C, hi, rfl, rfl, hC, hg, hj, ho⟩ := hrel
    by_cases hlt : i < n
    · have hM := markText_any (k + i) (by omega) (by omega)
      obtain ⟨X, hX⟩ : ∃ X, X = mkT (k + i) := ⟨_, rfl⟩
      rw [← hX] at hM
      have HM : Hid (∀ w, Calls Try.prog 25 #[.int .i64 ((k : Int) + (i : Int))] w fun e w' => e = .returned (.string X) ∧ Below w.heap.size w w') := fun w => by have := hM w; push_cast at this; exact this
      obtain ⟨y, hy⟩ : ∃ y, C[i]? = some y := ⟨_, Array.getElem?_eq_getElem (by have := hC.out; omega)⟩
      have hlti : (i : Int) < (n : Int) := by omega
      have Hy := Lib.hid hy
      clear hM hy
      have HX := Lib.hid hX
      clear hX
      go_wp2_with fail
      refine (HM.out _).mono ?_
      rintro e w1 ⟨rfl, b1⟩
      have r1 := (b1.block g (lt_of_block hg.out)).trans hg.out
      have c1 : w1.cell? ⟨g, i, none⟩ = some y := by rw [cell_of_row w1 g i C _ _ r1]; exact Hy.out
      have f1 := frozen_of_row w1 g i C _ r1
      have G1 := Lib.hid (heap_setCell_same w1 g i C 9 (.string X) r1)
      have O1 := (ho.below b1).setCell i none (.string X)
      have HS : Hid ((C.setIfInBounds i (.string X)).size = C0.size) := by show _ = _; rw [Array.size_setIfInBounds]; exact hC.out
      have HJ : Hid (∀ j, j < i + 1 → (C.setIfInBounds i (.string X))[j]? = some (.string (mkT (k + j)))) := fun j h => by
        by_cases e : i = j
        · subst e
          rw [Array.getElem?_setIfInBounds_self_of_lt (by have := hC.out; omega), HX.out]
        · rw [Array.getElem?_setIfInBounds_ne e]; exact hj.out j (by omega)
      clear r1
      go_wp2_with fail
      go_roundw
      case rel => exact ⟨i + 1, _, by omega, by go_num, by push_cast; rw [Int.add_assoc], HS, G1, HJ, O1⟩
      case measure => simp [intOf]; omega
    · obtain rfl : i = n := by omega
      go_wp2_with fail
      go_ret
      exact ⟨by push_cast; rfl, ⟨C, hg.out, hj.out⟩, ho⟩
theorem mark_any (w : World) (v : Value) (g : Nat) (xs : List ByteArray) (hl : xs.length ≤ 100000) (k : Nat) (hk1 : 1 ≤ k) (hk : k ≤ 100000) (h : SRow w v g xs) : Calls Try.prog 18 #[v, .int .i64 (k : Int)] w fun e w' => e = .returned (.int .i64 ((k + xs.length : Nat) : Int)) ∧ SRow w' v g (mks k xs.length) ∧ Only g w w' := by
  obtain ⟨a, c, rfl, h3⟩ := h.ex
  cases xs with
  | nil => exact (mk_0 a c k w).mono fun e w' ⟨h1, h2⟩ => by subst h2; exact ⟨h1, ⟨⟨a, c, rfl, fun h => absurd rfl h⟩⟩, Only.refl _ _⟩
  | cons x xs =>
    obtain ⟨rfl, C, h5, h6⟩ := h3 (by simp)
    have hs : (x :: xs).length ≤ C.size := by
      have := h6 xs.length (by simp)
      rcases Nat.lt_or_ge xs.length C.size with h | h
      · simp; omega
      · rw [Array.getElem?_eq_none h] at this; cases this
    refine (mk_n g _ c k C hs hl hk1 hk w h5).mono fun e w' ⟨h1, ⟨C', h7, h8⟩, h9⟩ => ⟨h1, ⟨⟨some ⟨g, 0, none⟩, c, by rw [mks_len], fun _ => ⟨rfl, C', h7, fun j hj => ?_⟩⟩⟩, h9⟩
    rw [mks_at]
    exact h8 j (by rw [mks_len] at hj; exact hj)
set_option maxHeartbeats 1000000 in
theorem hd_0 (a : Option Addr) (c k : Nat) (w : World) : Calls Try.prog 19 #[.slice a 0 c, .int .i64 (k : Int)] w fun e w' => e = .returned (.int .i64 (k : Int)) ∧ w = w' := by
  go_enter Try.func19, Try.ntmps19
  go_wp2_with fail
  refine wp_loop_rounds 1 ?_
  rw [rounds_succ]
  go_wp2_with fail
  go_ret
  exact ⟨rfl, rfl⟩
set_option maxHeartbeats 2000000 in
theorem hd_n (g n c k : Nat) (C : Array Value) (hnn : n ≤ 100000) (hk1 : 1 ≤ k) (hk : k ≤ 100000) (w : World) (h1 : w.heap[g]? = some (.cells C 9 (0, 0))) (hj : ∀ j, j < n → C[j]? = some (.string (mkT (k + j)))) :
    Calls Try.prog 19 #[.slice (some ⟨g, 0, none⟩) n c, .int .i64 (k : Int)] w fun e w' => e = .returned (.int .i64 ((k + n : Nat) : Int)) ∧ Below w.heap.size w w' := by
  have H1 := Lib.hid h1
  have HJ := Lib.hid hj
  clear h1 hj
  go_enter Try.func19, Try.ntmps19
  go_wp2_with fail
  go_loopw [1, 5] (fun vk v wr => ∃ i : Nat, i ≤ n ∧ v = .int .i64 (i : Int) ∧ vk = .int .i64 ((k + i : Nat) : Int) ∧ Below w.heap.size w wr) (fun _ v _ => n - (intOf v).toNat)
  case atStart => exact ⟨0, Nat.zero_le _, rfl, rfl, Below.refl _ _⟩
  case round =>
    obtain ⟨i, hi, rfl, rfl, hbw⟩ := hrel
    by_cases hlt : i < n
    · have hM := markText_any (k + i) (by omega) (by omega)
      obtain ⟨X, hX⟩ : ∃ X, X = mkT (k + i) := ⟨_, rfl⟩
      rw [← hX] at hM
      have HM : Hid (∀ w, Calls Try.prog 25 #[.int .i64 ((k : Int) + (i : Int))] w fun e w' => e = .returned (.string X) ∧ Below w.heap.size w w') := fun w => by have := hM w; push_cast at this; exact this
      have r1 := (hbw.block g (lt_of_block H1.out)).trans H1.out
      have c1 : wr.cell? ⟨g, i, none⟩ = some (.string X) := by rw [cell_of_row wr g i C _ _ r1, hX]; exact HJ.out i hlt
      have cd : wr.drew.cell? ⟨g, i, none⟩ = some (.string X) := c1
      have hgr := lt_of_block r1
      have hlti : (i : Int) < (n : Int) := by omega
      have hw := w_ne X
      clear hM hX r1
      go_wp2_with fail
      go_cut [18] (fun s18 wx => s18 = .bool false ∧ Below w.heap.size w wx)
      case first =>
        go_region_with ((go_at_call 25; refine (HM.out _).mono ?_; rintro e w1 ⟨rfl, b1⟩; have q1 := (b1.cell (p := ⟨g, i, none⟩) hgr).trans c1; have k1 := st_go hbw.drew b1))
        all_goals (go_wp2_with fail; go_meet; exact ⟨rfl, k1⟩)
      case rest =>
        obtain ⟨rfl, hbx⟩ := hcut
        go_wp2_with fail
        go_roundw
        case rel => exact ⟨i + 1, by omega, by go_num, by push_cast; rw [Int.add_assoc], hbx⟩
        case measure => simp [intOf]; omega
    · obtain rfl : i = n := by omega
      go_wp2_with fail
      go_ret
      exact ⟨by push_cast; rfl, hbw⟩
theorem held_any (w : World) (v : Value) (g n : Nat) (hl : n ≤ 100000) (k : Nat) (hk1 : 1 ≤ k) (hk : k ≤ 100000) (h : SRow w v g (mks k n)) : Calls Try.prog 19 #[v, .int .i64 (k : Int)] w fun e w' => e = .returned (.int .i64 ((k + n : Nat) : Int)) ∧ Below w.heap.size w w' := by
  obtain ⟨a, c, rfl, h3⟩ := h.ex
  rw [mks_len]
  cases n with
  | zero => exact (hd_0 a c k w).mono fun e w' ⟨h1, h2⟩ => by subst h2; exact ⟨h1, Below.refl _ _⟩
  | succ n =>
    obtain ⟨rfl, C, h5, h6⟩ := h3 (by intro h; have := congrArg List.length h; rw [mks_len] at this; simp at this)
    exact hd_n g _ c k C hl hk1 hk w h5 (fun j hj => by have := h6 j (by rw [mks_len]; exact hj); rw [mks_at] at this; exact this)

end Go.Proofs.Ytpabmidjfpabdaa.T1
