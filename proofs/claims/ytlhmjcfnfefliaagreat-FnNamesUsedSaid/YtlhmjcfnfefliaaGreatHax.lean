/- Texts of the proof, put together: Iw, Hc, Vi. No conditions. -/
import Derived.Test.YtlhmjcfnfefliaaGreatHab
import Derived.Test.YtlhmjcfnfefliaaGreatHaj
import Derived.Test.YtlhmjcfnfefliaaGreatHaq
import Derived.Test.YtlhmjcfnfefliaaGreatHau
import Derived.Test.YtlhmjcfnfefliaaGreatHaw
import Derived.Deep.RegionHeld3

/- Is a name free, by a set of letters; a text that is one name, or none: both sides. -/
namespace Go.Proofs.YtlhmjcfnfefliaaGreat.T1
open Go.RowKit
set_option maxRecDepth 100000
set_option linter.unusedVariables false
set_option linter.unusedSimpArgs false

theorem has_freeS (t : Tm) (ho : t.ok nmL = true) (o : UInt8) (hn : nmL o = true) : ∀ w, Calls Tryz.prog 45 #[.int .u32 (setN t.free : Nat), .int .u8 (o.toNat : Int)] w fun e w' => e = .returned (.bool (decide (o ∈ t.free))) ∧ w = w' := by
  intro w
  have h := (nmL_iff o).1 hn
  have h1 := has_any (setN t.free) o.toNat (setN_lt32 _ (lets_free t ho)) h.1 h.2 w
  have e : (setN t.free).testBit (o.toNat - 97) = decide (o ∈ t.free) := by
    rw [Bool.eq_iff_iff, decide_eq_true_iff, setN_bit _ (lets_free t ho)]
    exact ⟨fun ⟨c, hc, e⟩ => by rw [← u8_ext (show c.toNat = o.toNat by omega)]; exact hc, fun hc => ⟨o, hc, by omega⟩⟩
  rw [e] at h1
  exact h1
theorem nm_lo {c : UInt8} (h : nmL c = false) : ((c.toNat : Nat) : Int) < 97 ∨ 122 < ((c.toNat : Nat) : Int) := by
  rcases Nat.lt_or_ge c.toNat 97 with h1 | h1
  · exact .inl (by omega)
  · rcases Nat.lt_or_ge 122 c.toNat with h2 | h2
    · exact .inr (by omega)
    · have := (nmL_iff c).2 ⟨h1, h2⟩; rw [h] at this; cases this
set_option maxHeartbeats 1000000 in
theorem one_len (X : ByteArray) (hq : ((X.size : Int) == 1) = false) (hq2 : ((X.size : Int) != 1) = true) (w : World) : Calls Tryz.prog 59 #[.string X] w fun e w' => e = .returned (.bool false) ∧ Below w.heap.size w w' := by
  go_enter Tryz.func59, Tryz.ntmps59
  go_wp2_with fail
  go_ret
  exact ⟨rfl, Below.refl _ _⟩
set_option maxHeartbeats 1000000 in
theorem one_lo (X : ByteArray) (h0 : 0 < X.size) (hq : ((X.size : Int) == 1) = true) (h1 : ((X[0]'h0).toNat : Int) < 97) (w : World) : Calls Tryz.prog 59 #[.string X] w fun e w' => e = .returned (.bool false) ∧ Below w.heap.size w w' := by
  skip
  go_enter Tryz.func59, Tryz.ntmps59
  go_wp2_with fail
  all_goals go_ret
  all_goals exact ⟨rfl, Below.refl _ _⟩
set_option maxHeartbeats 1000000 in
theorem one_hi (X : ByteArray) (h0 : 0 < X.size) (hq : ((X.size : Int) == 1) = true) (h1 : 122 < ((X[0]'h0).toNat : Int)) (w : World) : Calls Tryz.prog 59 #[.string X] w fun e w' => e = .returned (.bool false) ∧ Below w.heap.size w w' := by
  have hd : decide (((X[0]'h0).toNat : Int) ≤ 122) = false := decide_eq_false (by omega)
  go_enter Tryz.func59, Tryz.ntmps59
  go_wp2_with fail
  all_goals go_ret
  all_goals exact ⟨rfl, Below.refl _ _⟩
set_option maxHeartbeats 1000000 in
theorem one_yes (X : ByteArray) (h0 : 0 < X.size) (hq : ((X.size : Int) == 1) = true) (h1 : 97 ≤ ((X[0]'h0).toNat : Int)) (h2 : ((X[0]'h0).toNat : Int) ≤ 122) (w : World) : Calls Tryz.prog 59 #[.string X] w fun e w' => e = .returned (.bool true) ∧ Below w.heap.size w w' := by
  skip
  go_enter Tryz.func59, Tryz.ntmps59
  go_wp2_with fail
  all_goals go_ret
  all_goals exact ⟨rfl, Below.refl _ _⟩
set_option maxHeartbeats 1000000 in
theorem rn_len (X : ByteArray) (hq : ((X.size : Int) == 1) = false) (hq2 : ((X.size : Int) != 1) = true) (w : World) : Calls Tryz.prog 44 #[.string X] w fun e w' => e = .returned (.tuple #[.int .u8 0, .bool false]) ∧ Below w.heap.size w w' := by
  go_enter Tryz.func44, Tryz.ntmps44
  go_wp2_with fail
  go_ret2
  exact ⟨rfl, Below.refl _ _⟩
set_option maxHeartbeats 1000000 in
theorem rn_no (X : ByteArray) (h0 : 0 < X.size) (hq : ((X.size : Int) != 1) = false) (HL : ∀ w, Calls Tryz.prog 85 #[.int .i32 ((X[0]'h0).toNat : Int)] w fun e w' => e = .returned (.bool false) ∧ w = w') (w : World) : Calls Tryz.prog 44 #[.string X] w fun e w' => e = .returned (.tuple #[.int .u8 0, .bool false]) ∧ Below w.heap.size w w' := by
  have H := Lib.hid HL
  have hby : (X[0]'h0).toNat < 256 := (X[0]'h0).toNat_lt
  clear HL
  go_enter Tryz.func44, Tryz.ntmps44
  go_wp2_with fail
  refine (H.out _).mono ?_
  rintro e w1 ⟨rfl, rfl⟩
  go_wp2_with fail
  go_ret2
  exact ⟨rfl, Below.refl _ _⟩
set_option maxHeartbeats 1000000 in
theorem rn_yes (X : ByteArray) (h0 : 0 < X.size) (hq : ((X.size : Int) != 1) = false) (HL : ∀ w, Calls Tryz.prog 85 #[.int .i32 ((X[0]'h0).toNat : Int)] w fun e w' => e = .returned (.bool true) ∧ w = w') (w : World) : Calls Tryz.prog 44 #[.string X] w fun e w' => e = .returned (.tuple #[.int .u8 ((X[0]'h0).toNat : Int), .bool true]) ∧ Below w.heap.size w w' := by
  have H := Lib.hid HL
  have hby : (X[0]'h0).toNat < 256 := (X[0]'h0).toNat_lt
  clear HL
  go_enter Tryz.func44, Tryz.ntmps44
  go_wp2_with fail
  refine (H.out _).mono ?_
  rintro e w1 ⟨rfl, rfl⟩
  go_wp2_with fail
  go_ret2
  exact ⟨rfl, Below.refl _ _⟩

/-- A text that is one name, or none. -/
theorem one_or (k : ByteArray) : (∃ c, nmL c = true ∧ k = B [c] ∧ (∀ w, Calls Tryz.prog 59 #[.string k] w fun e w' => e = .returned (.bool true) ∧ Below w.heap.size w w') ∧ (∀ w, Calls Tryz.prog 44 #[.string k] w fun e w' => e = .returned (.tuple #[.int .u8 (c.toNat : Int), .bool true]) ∧ Below w.heap.size w w')) ∨ ((∀ w, Calls Tryz.prog 59 #[.string k] w fun e w' => e = .returned (.bool false) ∧ Below w.heap.size w w') ∧ (∀ w, Calls Tryz.prog 44 #[.string k] w fun e w' => e = .returned (.tuple #[.int .u8 0, .bool false]) ∧ Below w.heap.size w w')) := by
  by_cases h1 : k.size = 1
  · have h0 : 0 < k.size := by omega
    have hq : ((k.size : Int) == 1) = true := by rw [h1]; rfl
    have hq2 : ((k.size : Int) != 1) = false := by rw [h1]; rfl
    have hL := isLetter_any (k[0]'h0)
    cases hc : nmL (k[0]'h0) with
    | true =>
      rw [hc] at hL
      have h2 := (nmL_iff _).1 hc
      refine .inl ⟨k[0]'h0, hc, ?_, one_yes k h0 hq (by omega) (by omega), rn_yes k h0 hq2 hL⟩
      apply B_eq
      have hl : k.data.toList.length = 1 := by simp; exact h1
      have hg := get_list k 0 h0
      match hk : k.data.toList, hl with
      | [x], _ => simp [hk] at hg; rw [hg]
    | false =>
      rw [hc] at hL
      refine .inr ⟨?_, rn_no k h0 hq2 hL⟩
      rcases nm_lo hc with h | h
      · exact one_lo k h0 hq h
      · exact one_hi k h0 hq h
  · have hq : ((k.size : Int) == 1) = false := by rw [beq_eq_false_iff_ne]; omega
    exact .inr ⟨one_len k hq (by rw [bne, hq]; rfl), rn_len k hq (by rw [bne, hq]; rfl)⟩
end Go.Proofs.YtlhmjcfnfefliaaGreat.T1

/- Cells of one block, read and set. Plain lemmas. -/
namespace Go.Proofs.YtlhmjcfnfefliaaGreat.T1
open Go.RowKit

theorem cellsAt {w : World} {b : Nat} {C : Array Value} {T : TypeId} (h : w.heap[b]? = some (.cells C T (0, 0))) (j : Nat) (x : Value) (hx : C[j]? = some x) : w.cell? ⟨b, j, none⟩ = some x := by simp [World.cell?, h, hx]
theorem cellsFree {w : World} {b : Nat} {C : Array Value} {T : TypeId} (h : w.heap[b]? = some (.cells C T (0, 0))) (j : Nat) : w.frozen? ⟨b, j, none⟩ = false := by simp [World.frozen?, h]
theorem set_cells {w : World} {b : Nat} {C : Array Value} {T : TypeId} (h : w.heap[b]? = some (.cells C T (0, 0))) (j : Nat) (v : Value) : (w.setCell ⟨b, j, none⟩ v).heap[b]? = some (.cells (C.setIfInBounds j v) T (0, 0)) := by
  have hlt := lt_of_block h
  have h' : w.heap[b] = .cells C T (0, 0) := by simpa [Array.getElem?_eq_getElem hlt] using h
  show (w.heap.modify b _)[b]? = _
  rw [Array.getElem?_eq_getElem (by simpa using hlt), Array.getElem_modify_self, h']
  rfl
end Go.Proofs.YtlhmjcfnfefliaaGreat.T1

/- Sorts in the program: kept in one block, as numbers that lead to others. -/
namespace Go.Proofs.YtlhmjcfnfefliaaGreat.T1
open Go.RowKit
set_option maxRecDepth 100000
set_option linter.unusedVariables false
set_option linter.unusedSimpArgs false

def cI (o : Option Nat) : Int := match o with
  | some x => (x : Int)
  | none => -1
/-- Block b has the sorts of a process: U free letters, N sorts. -/
structure ImAt (w : World) (b U N : Nat) (f : Nat → Nat) (c : Nat → Option Nat) : Prop where
  N86 : N ≤ 86
  ex : ∃ C T, w.heap[b]? = some (.cells C T (0, 0)) ∧ C.size = 174 ∧ C[0]? = some (.int .u32 (U : Int)) ∧ C[1]? = some (.int .i64 (N : Int)) ∧
    (∀ k, k < 86 → ∃ x : Int, C[2 + k]? = some (.int .i64 x) ∧ (k < N → x = (f k : Int))) ∧ (∀ k, k < 86 → ∃ x : Int, C[88 + k]? = some (.int .i64 x) ∧ (k < N → x = cI (c k)))
theorem ImAt.lt {w : World} {b U N : Nat} {f : Nat → Nat} {c : Nat → Option Nat} (h : ImAt w b U N f c) : b < w.heap.size := by obtain ⟨C, T, h, _⟩ := h.ex; exact lt_of_block h
theorem ImAt.of {w w' : World} {b U N : Nat} {f : Nat → Nat} {c : Nat → Option Nat} (h : ImAt w b U N f c) (e : w'.heap[b]? = w.heap[b]?) : ImAt w' b U N f c := by
  obtain ⟨C, T, h1, h2⟩ := h.ex; exact ⟨h.N86, C, T, e.trans h1, h2⟩
theorem ImAt.f_at {w : World} {b U N : Nat} {f : Nat → Nat} {c : Nat → Option Nat} (h : ImAt w b U N f c) {k : Nat} (hk : k < N) : w.cell? ⟨b, 2 + k, none⟩ = some (.int .i64 (f k : Int)) := by
  obtain ⟨C, T, h1, h2, h3, h4, h5, h6⟩ := h.ex
  obtain ⟨x, a1, a2⟩ := h5 k (by have := h.N86; omega)
  rw [← a2 hk]
  simp only [World.cell?, h1, a1]
  rfl
theorem ImAt.c_at {w : World} {b U N : Nat} {f : Nat → Nat} {c : Nat → Option Nat} (h : ImAt w b U N f c) {k : Nat} (hk : k < N) : w.cell? ⟨b, 88 + k, none⟩ = some (.int .i64 (cI (c k))) := by
  obtain ⟨C, T, h1, h2, h3, h4, h5, h6⟩ := h.ex
  obtain ⟨x, a1, a2⟩ := h6 k (by have := h.N86; omega)
  rw [← a2 hk]
  simp only [World.cell?, h1, a1]
  rfl
theorem ImAt.u_at {w : World} {b U N : Nat} {f : Nat → Nat} {c : Nat → Option Nat} (h : ImAt w b U N f c) : w.cell? ⟨b, 0, none⟩ = some (.int .u32 (U : Int)) := by
  obtain ⟨C, T, h1, h2, h3, h4, h5, h6⟩ := h.ex
  simp only [World.cell?, h1, h3]
  rfl
theorem ImAt.n_at {w : World} {b U N : Nat} {f : Nat → Nat} {c : Nat → Option Nat} (h : ImAt w b U N f c) : w.cell? ⟨b, 1, none⟩ = some (.int .i64 (N : Int)) := by
  obtain ⟨C, T, h1, h2, h3, h4, h5, h6⟩ := h.ex
  simp only [World.cell?, h1, h4]
  rfl
theorem ImAt.free_at {w : World} {b U N : Nat} {f : Nat → Nat} {c : Nat → Option Nat} (h : ImAt w b U N f c) (j : Nat) : w.frozen? ⟨b, j, none⟩ = false := by
  obtain ⟨C, T, h1, _⟩ := h.ex
  simp [World.frozen?, h1]

set_option maxHeartbeats 1000000 in
theorem chief_any {w : World} {b U N : Nat} {f r : Nat → Nat} {c : Nat → Option Nat} (h : ImAt w b U N f c) (hr : Rt f r) (hf : ∀ k, k < N → f k < N) {k : Nat} (hk : k < N) :
    Calls Tryz.prog 55 #[.pointer (some ⟨b, 0, none⟩), .int .i64 (k : Int)] w fun e w' => e = .returned (.int .i64 (r k : Int)) ∧ w = w' := by
  obtain ⟨d, hd⟩ := hr.low
  have H := Lib.hid h
  have HR := Lib.hid hr
  have HF := Lib.hid hf
  have HD := Lib.hid hd
  have h86 := h.N86
  clear h hr hf hd
  go_enter Tryz.func55, Tryz.ntmps55
  go_wp2_with fail
  go_loopg [1] (d k) (fun g s1 wr => (∃ m : Nat, s1 = .int .i64 (m : Int) ∧ m < N ∧ Hid (d m ≤ g ∧ r m = r k)) ∧ wr = w)
  case atStart => exact ⟨⟨k, rfl, hk, ⟨Nat.le_refl _, rfl⟩⟩, rfl⟩
  case round =>
    obtain ⟨⟨m, rfl, hm, hmd⟩, rfl⟩ := hrel
    have c1 := H.out.f_at hm
    have hm86 : m < 86 := by omega
    obtain ⟨fm, hfm⟩ : ∃ fm, fm = f m := ⟨_, rfl⟩
    rw [← hfm] at c1
    have HFM := Lib.hid hfm
    clear hfm
    by_cases e : fm = m
    · have q : ((fm : Int) != (m : Int)) = false := by rw [e]; simp
      go_wp2_with fail
      go_ret
      refine ⟨?_, rfl⟩
      have h1 := HR.out.stop m (by rw [← HFM.out, e])
      rw [← hmd.out.2, h1]; rfl
    · have q : ((fm : Int) != (m : Int)) = true := by simp; omega
      go_wp2_with fail
      have hD := HD.out m (by rw [← HFM.out]; exact e)
      rw [← HFM.out] at hD
      have hdm := hmd.out.1
      go_roundg (gk - 1)
      case measure => omega
      case rel => exact ⟨⟨fm, rfl, by rw [HFM.out]; exact HF.out m hm, ⟨by omega, by rw [HFM.out, HR.out.on]; exact hmd.out.2⟩⟩, rfl⟩

theorem set_get {C : Array Value} {i j : Nat} {v : Value} (hj : j < C.size) : (C.setIfInBounds j v)[i]? = if j = i then some v else C[i]? := by
  rw [Array.getElem?_setIfInBounds]
  simp [hj]
theorem ImAt.setF {w : World} {b U N : Nat} {f : Nat → Nat} {c : Nat → Option Nat} (h : ImAt w b U N f c) {q : Nat} (hq : q < N) (a : Nat) : ImAt (w.setCell ⟨b, 2 + q, none⟩ (.int .i64 (a : Int))) b U N (up6 f q a) c := by
  have h86 := h.N86
  obtain ⟨C, T, h1, h2, h3, h4, h5, h6⟩ := h.ex
  have hj : 2 + q < C.size := by omega
  refine ⟨h86, _, T, set_cells h1 _ _, by simp [h2], by rw [set_get hj, if_neg (by omega)]; exact h3, by rw [set_get hj, if_neg (by omega)]; exact h4, fun k hk => ?_, fun k hk => ?_⟩
  · by_cases e : k = q
    · subst e
      exact ⟨_, by rw [set_get hj, if_pos rfl], fun _ => by unfold up6; rw [if_pos rfl]⟩
    · obtain ⟨x, a1, a2⟩ := h5 k hk
      exact ⟨x, by rw [set_get hj, if_neg (by omega)]; exact a1, fun hN => by unfold up6; rw [if_neg e]; exact a2 hN⟩
  · obtain ⟨x, a1, a2⟩ := h6 k hk
    exact ⟨x, by rw [set_get hj, if_neg (by omega)]; exact a1, a2⟩
theorem ImAt.setC {w : World} {b U N : Nat} {f : Nat → Nat} {c : Nat → Option Nat} (h : ImAt w b U N f c) {q : Nat} (hq : q < N) (v : Option Nat) : ImAt (w.setCell ⟨b, 88 + q, none⟩ (.int .i64 (cI v))) b U N f (upC c q v) := by
  have h86 := h.N86
  obtain ⟨C, T, h1, h2, h3, h4, h5, h6⟩ := h.ex
  have hj : 88 + q < C.size := by omega
  refine ⟨h86, _, T, set_cells h1 _ _, by simp [h2], by rw [set_get hj, if_neg (by omega)]; exact h3, by rw [set_get hj, if_neg (by omega)]; exact h4, fun k hk => ?_, fun k hk => ?_⟩
  · obtain ⟨x, a1, a2⟩ := h5 k hk
    exact ⟨x, by rw [set_get hj, if_neg (by omega)]; exact a1, a2⟩
  · by_cases e : k = q
    · subst e
      exact ⟨_, by rw [set_get hj, if_pos rfl], fun _ => by unfold upC; rw [if_pos rfl]⟩
    · obtain ⟨x, a1, a2⟩ := h6 k hk
      exact ⟨x, by rw [set_get hj, if_neg (by omega)]; exact a1, fun hN => by unfold upC; rw [if_neg e]; exact a2 hN⟩
theorem ImAt.more {w : World} {b U N : Nat} {f : Nat → Nat} {c : Nat → Option Nat} (h : ImAt w b U N f c) (hN : N < 86) (hf : f N = N) (hc : c N = none) :
    ImAt (((w.setCell ⟨b, 2 + N, none⟩ (.int .i64 (N : Int))).setCell ⟨b, 88 + N, none⟩ (.int .i64 (-1))).setCell ⟨b, 1, none⟩ (.int .i64 ((N : Int) + 1))) b U (N + 1) f c := by
  obtain ⟨C, T, h1, h2, h3, h4, h5, h6⟩ := h.ex
  have s1 := set_cells h1 (2 + N) (.int .i64 (N : Int))
  have s2 := set_cells s1 (88 + N) (.int .i64 (-1))
  have s3 := set_cells s2 1 (.int .i64 ((N : Int) + 1))
  refine ⟨by omega, _, T, s3, by simp [h2], ?_, ?_, fun k hk => ?_, fun k hk => ?_⟩
  · rw [set_get (by simp; omega), if_neg (by omega), set_get (by simp; omega), if_neg (by omega), set_get (by omega), if_neg (by omega)]; exact h3
  · rw [set_get (by simp; omega), if_pos rfl]; push_cast; rfl
  · rw [set_get (by simp; omega), if_neg (by omega), set_get (by simp; omega), if_neg (by omega), set_get (by omega)]
    by_cases e : k = N
    · subst e
      exact ⟨_, by rw [if_pos rfl], fun _ => by rw [hf]⟩
    · obtain ⟨x, a1, a2⟩ := h5 k hk
      exact ⟨x, by rw [if_neg (by omega)]; exact a1, fun hN => a2 (by omega)⟩
  · rw [set_get (by simp; omega), if_neg (by omega), set_get (by simp; omega)]
    by_cases e : k = N
    · subst e
      exact ⟨_, by rw [if_pos rfl], fun _ => by rw [hc]; rfl⟩
    · obtain ⟨x, a1, a2⟩ := h6 k hk
      exact ⟨x, by rw [if_neg (by omega), set_get (by omega), if_neg (by omega)]; exact a1, fun hN => a2 (by omega)⟩
theorem num6_pos {f : Nat → Nat} {N q : Nat} (hq : q < N) (h : f q = q) : 0 < num6 f N := by
  unfold num6
  rw [List.countP_pos_iff]
  exact ⟨q, List.mem_range.2 hq, by simp [h]⟩

def JoinOk (b U N n : Nat) : Prop := ∀ (S C : Nat → Nat → Prop) (f r : Nat → Nat) (c : Nat → Option Nat) (p q : Nat) (w : World), ImAt w b U N f c → St6 S C N f r c p q → p < N → q < N → num6 f N ≤ n →
    Calls Tryz.prog 84 #[.pointer (some ⟨b, 0, none⟩), .int .i64 (p : Int), .int .i64 (q : Int)] w fun e w' => e = .returned (.tuple #[]) ∧ ∃ f' r' c', ImAt w' b U N f' c' ∧ St6 S C N f' r' c' 0 0 ∧ Only b w w'
def CarryOk (b U N n : Nat) : Prop := ∀ (S C : Nat → Nat → Prop) (f r : Nat → Nat) (c : Nat → Option Nat) (k x : Nat) (w : World), ImAt w b U N f c → Rt f r → (∀ k, k < N → f k < N) → k < N → x < N → num6 f N ≤ n →
    (c (r k) = none → St6 S C N f r (upC c (r k) (some x)) 0 0) → (∀ y, c (r k) = some y → St6 S C N f r c y x) →
    Calls Tryz.prog 83 #[.pointer (some ⟨b, 0, none⟩), .int .i64 (k : Int), .int .i64 (x : Int)] w fun e w' => e = .returned (.tuple #[]) ∧ ∃ f' r' c', ImAt w' b U N f' c' ∧ St6 S C N f' r' c' 0 0 ∧ Only b w w'
set_option maxHeartbeats 1000000 in
theorem carry_of {b U N n : Nat} (hJ : JoinOk b U N n) : CarryOk b U N n := by
  intro S C f r c k x w hi hr hf hk hx hn h1 h2
  have HJ := Lib.hid hJ
  have HI := Lib.hid hi
  have HCh := Lib.hid (chief_any hi hr hf hk)
  have h86 := hi.N86
  have hrk : r k < N := hr.lt hf k hk
  have cc := hi.c_at hrk
  have cf := hi.free_at (88 + r k)
  have hrk86 : r k < 86 := by omega
  cases e : c (r k) with
  | none =>
    have HS := Lib.hid (h1 e)
    rw [e] at cc
    have cc2 : w.cell? ⟨b, 88 + r k, none⟩ = some (.int .i64 (-1)) := cc
    clear cc
    obtain ⟨m, hm⟩ : ∃ m, m = r k := ⟨_, rfl⟩
    rw [← hm] at HCh HS cc2 cf hrk hrk86
    have Hm := Lib.hid hm
    clear hJ hi hr hf h1 h2 e hm
    go_enter Tryz.func83, Tryz.ntmps83
    go_wp2_with fail
    refine (HCh.out).mono ?_
    rintro e w1 ⟨rfl, rfl⟩
    go_wp2_with fail
    (try simp only [Exit.inBlock, Exit.then]); refine bodyPost_ret (results_none rfl _ _ _) rfl ?_
    exact ⟨rfl, _, _, _, HI.out.setC hrk (some x), HS.out, (Only.refl _ _).setCell _ _ _⟩
  | some y =>
    have HS := Lib.hid (h2 y e)
    have hy : y < N := (h2 y e).clt _ _ e
    rw [e] at cc
    have cc2 : w.cell? ⟨b, 88 + r k, none⟩ = some (.int .i64 (y : Int)) := cc
    clear cc
    have qy : ((y : Int) == -1) = false := by simp
    obtain ⟨m, hm⟩ : ∃ m, m = r k := ⟨_, rfl⟩
    rw [← hm] at HCh cc2 cf hrk hrk86
    have Hm := Lib.hid hm
    have HJ2 := Lib.hid (HJ.out S C f r c y x w HI.out HS.out hy hx hn)
    clear hJ hi hr hf h1 h2 e hm
    go_enter Tryz.func83, Tryz.ntmps83
    go_wp2_with fail
    refine (HCh.out).mono ?_
    rintro e w1 ⟨rfl, rfl⟩
    go_wp2_with fail
    refine (HJ2.out).mono ?_
    rintro e w1 ⟨rfl, hpost⟩
    go_wp2_with fail
    go_end0
    exact ⟨rfl, hpost⟩
set_option maxHeartbeats 1000000 in
theorem join_of {b U N n : Nat} (hC : ∀ m, m < n → CarryOk b U N m) : JoinOk b U N n := by
  intro S C f r c p q w hi hs hp hq hn
  have HI := Lib.hid hi
  have HS := Lib.hid hs
  have h86 := hi.N86
  have Hp := Lib.hid (chief_any hi hs.rt hs.lt hp)
  have Hq := Lib.hid (chief_any hi hs.rt hs.lt hq)
  have rp : r p < N := hs.rlt hp
  have rq : r q < N := hs.rlt hq
  have HC := Lib.hid hC
  have Hn := Lib.hid hn
  by_cases e : r p = r q
  · have HD := Lib.hid (hs.done e 0)
    have qe : ((r p : Int) == (r q : Int)) = true := by rw [e]; simp
    obtain ⟨m, hm⟩ : ∃ m, m = r p := ⟨_, rfl⟩
    obtain ⟨m2, hm2⟩ : ∃ m, m = r q := ⟨_, rfl⟩
    rw [← hm] at Hp qe
    rw [← hm2] at Hq qe
    clear hi hs hC hn e hm hm2
    go_enter Tryz.func84, Tryz.ntmps84
    go_wp2_with fail
    refine (Hp.out).mono ?_
    rintro e w1 ⟨rfl, rfl⟩
    go_wp2_with fail
    refine (Hq.out).mono ?_
    rintro e w1 ⟨rfl, rfl⟩
    go_wp2_with fail
    (try simp only [Exit.inBlock, Exit.then]); refine bodyPost_ret (results_none rfl _ _ _) rfl ?_
    exact ⟨rfl, _, _, _, HI.out, HD.out, Only.refl _ _⟩
  · have HT := Lib.hid (hs.step hp hq e)
    have HF := Lib.hid (hs.fewer hq e)
    have HI2 := Lib.hid (hi.setF rq (r p))
    have c0 := hi.f_at rq
    have cf := hi.free_at (2 + r q)
    have cc := HI2.out.c_at rq
    have qe : ((r p : Int) == (r q : Int)) = false := by simp; omega
    have hmr : Hid (mrg (r p) (r q) (r (r p)) = r p) := by show _ = _; rw [hs.rt.idem]; unfold mrg; rw [if_neg e]
    have rq86 : r q < 86 := by omega
    cases e2 : c (r q) with
    | none =>
      have HD := Lib.hid (HT.out.2.2 e2 0)
      rw [e2] at cc
      have cc2 : (w.setCell ⟨b, 2 + r q, none⟩ (.int .i64 (r p : Int))).cell? ⟨b, 88 + r q, none⟩ = some (.int .i64 (-1)) := cc
      clear cc
      obtain ⟨m, hm⟩ : ∃ m, m = r p := ⟨_, rfl⟩
      obtain ⟨m2, hm2⟩ : ∃ m, m = r q := ⟨_, rfl⟩
      obtain ⟨fo, hfo⟩ : ∃ fo, fo = f m2 := ⟨_, rfl⟩
      rw [← hm] at Hp qe cc2 HI2 HD
      rw [← hm2] at Hq qe cc2 HI2 HD c0 cf rq86
      rw [← hfo] at c0
      clear hi hs hC hn e e2 hm hm2 HT HF hmr hfo
      go_enter Tryz.func84, Tryz.ntmps84
      go_wp2_with fail
      refine (Hp.out).mono ?_
      rintro e w1 ⟨rfl, rfl⟩
      go_wp2_with fail
      refine (Hq.out).mono ?_
      rintro e w1 ⟨rfl, rfl⟩
      go_wp2_with fail
      go_end0
      exact ⟨rfl, _, _, _, HI2.out, HD.out, (Only.refl _ _).setCell _ _ _⟩
    | some y =>
      rw [e2] at cc
      have cc2 : (w.setCell ⟨b, 2 + r q, none⟩ (.int .i64 (r p : Int))).cell? ⟨b, 88 + r q, none⟩ = some (.int .i64 (y : Int)) := cc
      clear cc
      have qy : ((y : Int) != -1) = true := by simp
      have hy : y < N := hs.clt _ _ e2
      have HK := Lib.hid (HC.out (n - 1) (by have := num6_pos rp (hs.rt.fix p); omega) S C _ _ c (r p) y _ HI2.out ((hs.rt.join (hs.rt.idem p) (hs.rt.idem q) e)) (fun k hk => by
        unfold up6; split
        · exact rp
        · exact hs.lt k hk) rp hy (by have := HF.out; omega) (fun h => by rw [hmr.out] at h ⊢; have := HT.out.2.1 h 0; rw [e2] at this; exact this) (fun x h => by rw [hmr.out] at h; exact HT.out.1 x y h e2))
      obtain ⟨m, hm⟩ : ∃ m, m = r p := ⟨_, rfl⟩
      obtain ⟨m2, hm2⟩ : ∃ m, m = r q := ⟨_, rfl⟩
      obtain ⟨fo, hfo⟩ : ∃ fo, fo = f m2 := ⟨_, rfl⟩
      rw [← hm] at Hp qe cc2 HI2 HK
      rw [← hm2] at Hq qe cc2 HI2 c0 cf rq86 HK
      rw [← hfo] at c0
      clear hi hs hC hn e e2 hm hm2 HT HF hmr hfo
      go_enter Tryz.func84, Tryz.ntmps84
      go_wp2_with fail
      refine (Hp.out).mono ?_
      rintro e w1 ⟨rfl, rfl⟩
      go_wp2_with fail
      refine (Hq.out).mono ?_
      rintro e w1 ⟨rfl, rfl⟩
      go_wp2_with fail
      refine (HK.out).mono ?_
      rintro e w1 ⟨rfl, f', r', c', a1, a2, a3⟩
      go_wp2_with fail
      go_end0
      exact ⟨rfl, f', r', c', a1, a2, ((Only.refl _ _).setCell _ _ _).trans a3⟩
theorem both_ok (b U N : Nat) : ∀ n, JoinOk b U N n ∧ CarryOk b U N n := by
  intro n
  induction n using Nat.strongRecOn with
  | _ n ih =>
    have := join_of (b := b) (U := U) (N := N) (n := n) fun m hm => (ih m hm).2
    exact ⟨this, carry_of this⟩

end Go.Proofs.YtlhmjcfnfefliaaGreat.T1
