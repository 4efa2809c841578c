/- How deep a formula is: the specification's walk; both sides. MADE BY gen_Fj.py. -/
import Derived.Test.YtllnplabiehcgaaFi
namespace Go.Proofs.Ytllnplabiehcgaa.T1
open Go.RowKit
set_option maxRecDepth 100000
set_option linter.unusedVariables false
set_option linter.unusedSimpArgs false

theorem cellF1 {w : World} {b : Nat} {x : Value} {T : TypeId} (h : w.heap[b]? = some (.cells #[x] T (0, 0))) : w.cell? ⟨b, 0, none⟩ = some x := by simp [World.cell?, h]
theorem cellF2a {w : World} {b : Nat} {x y : Value} {T : TypeId} (h : w.heap[b]? = some (.cells #[x, y] T (0, 0))) : w.cell? ⟨b, 0, none⟩ = some x := by simp [World.cell?, h]
theorem cellF2b {w : World} {b : Nat} {x y : Value} {T : TypeId} (h : w.heap[b]? = some (.cells #[x, y] T (0, 0))) : w.cell? ⟨b, 1, none⟩ = some y := by simp [World.cell?, h]
set_option maxHeartbeats 400000 in
theorem mostF (a b r : Int) (h : r = max a b) (w : World) : Calls Try.prog 15 #[.int .i64 a, .int .i64 b] w fun e w' => e = .returned (.int .i64 r) ∧ w = w' := by
  have H := Lib.hid h
  clear h
  go_enter Try.func15, Try.ntmps15
  go_wp2_with fail
  all_goals (go_ret; refine ⟨ret_i ?_, rfl⟩; have := H.out; omega)
set_option maxHeartbeats 1000000 in
theorem bd0 (s : ByteArray) (HP : ∀ w, Calls Try.prog 14 #[.string s] w (PartsFm ByteArray.empty [] w)) (w : World) : Calls Try.prog 11 #[.string s] w fun e w' => e = .returned (.int .i64 0) ∧ Below w.heap.size w w' := by
  have H := Lib.hid HP
  clear HP
  go_enter Try.func11, Try.ntmps11
  go_wp2_with fail
  refine (H.out _).mono ?_
  rintro e w1 ⟨rfl, bl⟩
  go_wp2_with fail
  refine wp_loop_rounds 1 ?_
  rw [rounds_succ]
  go_wp2_with fail
  go_ret
  exact ⟨rfl, bl⟩
set_option maxHeartbeats 1000000 in
theorem bd1 (s u L : ByteArray) (n : Nat) (hn : n ≤ 1000) (HP : ∀ w, Calls Try.prog 14 #[.string s] w fun e w' => ∃ b, e = .returned (.tuple #[.string ByteArray.empty, .slice (some ⟨b, 0, none⟩) 1 1]) ∧ w.heap.size ≤ b ∧ w'.heap[b]? = some (.cells #[.string u] 9 (0, 0)) ∧ Below w.heap.size w w') (ih : ∀ w, Calls Try.prog 11 #[.string u] w fun e w' => e = .returned (.int .i64 (n : Int)) ∧ Below w.heap.size w w') (w : World) : Calls Try.prog 11 #[.string s] w fun e w' => e = .returned (.int .i64 (n : Int)) ∧ Below w.heap.size w w' := by
  have H := Lib.hid HP
  have IH := Lib.hid ih
  clear HP ih
  go_enter Try.func11, Try.ntmps11
  go_wp2_with fail
  refine (H.out _).mono ?_
  rintro e w1 ⟨b, rfl, hb, hh, bl⟩
  have c0 := cellF1 hh
  clear hh
  go_wp2_with fail
  refine wp_loop_rounds 2 ?_
  rw [rounds_succ]
  go_wp2_with fail
  refine (IH.out _).mono ?_
  rintro e w2 ⟨rfl, bl2⟩
  clear c0
  go_wp2_with fail
  refine (mostF 0 (n : Int) (n : Int) (by omega) _).mono ?_
  rintro e w3 ⟨rfl, rfl⟩
  go_wp2_with fail
  rw [rounds_succ]
  go_wp2_with fail
  go_ret
  exact ⟨rfl, below_trans bl bl2 bl.size⟩
set_option maxHeartbeats 1000000 in
theorem bd1l (s u L : ByteArray) (hL : L.toList ≠ []) (n : Nat) (hn : n ≤ 1000) (HP : ∀ w, Calls Try.prog 14 #[.string s] w fun e w' => ∃ b, e = .returned (.tuple #[.string L, .slice (some ⟨b, 0, none⟩) 1 1]) ∧ w.heap.size ≤ b ∧ w'.heap[b]? = some (.cells #[.string u] 9 (0, 0)) ∧ Below w.heap.size w w') (ih : ∀ w, Calls Try.prog 11 #[.string u] w fun e w' => e = .returned (.int .i64 (n : Int)) ∧ Below w.heap.size w w') (w : World) : Calls Try.prog 11 #[.string s] w fun e w' => e = .returned (.int .i64 ((n : Int) + 1)) ∧ Below w.heap.size w w' := by
  have H := Lib.hid HP
  have IH := Lib.hid ih
  have t1 : (L.toList == []) = false := by rw [beq_eq_false_iff_ne]; exact hL
  have t2 : (L.toList != []) = true := by rw [bne_iff_ne]; exact hL
  have t3 : L.toList.isEmpty = false := by cases h : L.toList with | nil => exact absurd h hL | cons a l => rfl
  have t4 : (!L.toList.isEmpty) = true := by rw [t3]; rfl
  clear hL
  clear HP ih
  go_enter Try.func11, Try.ntmps11
  go_wp2_with fail
  refine (H.out _).mono ?_
  rintro e w1 ⟨b, rfl, hb, hh, bl⟩
  have c0 := cellF1 hh
  clear hh
  go_wp2_with fail
  refine wp_loop_rounds 2 ?_
  rw [rounds_succ]
  go_wp2_with fail
  refine (IH.out _).mono ?_
  rintro e w2 ⟨rfl, bl2⟩
  clear c0
  go_wp2_with fail
  refine (mostF 0 (n : Int) (n : Int) (by omega) _).mono ?_
  rintro e w3 ⟨rfl, rfl⟩
  go_wp2_with fail
  rw [rounds_succ]
  go_wp2_with fail
  go_ret
  exact ⟨rfl, below_trans bl bl2 bl.size⟩
set_option maxHeartbeats 1000000 in
theorem bd2 (s u v : ByteArray) (n m k : Nat) (hn : n ≤ 1000) (hm : m ≤ 1000) (hk : k = max n m) (HP : ∀ w, Calls Try.prog 14 #[.string s] w fun e w' => ∃ b, e = .returned (.tuple #[.string ByteArray.empty, .slice (some ⟨b, 0, none⟩) 2 2]) ∧ w.heap.size ≤ b ∧ w'.heap[b]? = some (.cells #[.string u, .string v] 9 (0, 0)) ∧ Below w.heap.size w w') (ih : ∀ w, Calls Try.prog 11 #[.string u] w fun e w' => e = .returned (.int .i64 (n : Int)) ∧ Below w.heap.size w w') (ih2 : ∀ w, Calls Try.prog 11 #[.string v] w fun e w' => e = .returned (.int .i64 (m : Int)) ∧ Below w.heap.size w w') (w : World) : Calls Try.prog 11 #[.string s] w fun e w' => e = .returned (.int .i64 (k : Int)) ∧ Below w.heap.size w w' := by
  have H := Lib.hid HP
  have IH := Lib.hid ih
  have IH2 := Lib.hid ih2
  have kb : k ≤ 1000 := by omega
  have HK := Lib.hid hk
  clear HP ih ih2 hk
  go_enter Try.func11, Try.ntmps11
  go_wp2_with fail
  refine (H.out _).mono ?_
  rintro e w1 ⟨b, rfl, hb, hh, bl⟩
  have c0 := cellF2a hh
  have Hh := Lib.hid hh
  clear hh
  go_wp2_with fail
  refine wp_loop_rounds 3 ?_
  rw [rounds_succ]
  go_wp2_with fail
  refine (IH.out _).mono ?_
  rintro e w2 ⟨rfl, bl2⟩
  have h2 := (bl2.block b (lt_of_block Hh.out)).trans Hh.out
  clear c0
  have c1 := cellF2b h2
  clear h2
  go_wp2_with fail
  refine (mostF 0 (n : Int) (n : Int) (by omega) _).mono ?_
  rintro e w3 ⟨rfl, rfl⟩
  go_wp2_with fail
  rw [rounds_succ]
  go_wp2_with fail
  refine (IH2.out _).mono ?_
  rintro e w3 ⟨rfl, bl3⟩
  clear c1
  go_wp2_with fail
  refine (mostF (n : Int) (m : Int) (k : Int) (by have := HK.out; omega) _).mono ?_
  rintro e w4 ⟨rfl, rfl⟩
  go_wp2_with fail
  rw [rounds_succ]
  go_wp2_with fail
  go_ret
  exact ⟨rfl, below_trans (below_trans bl bl2 bl.size) bl3 (Nat.le_trans bl.size bl2.size)⟩
theorem B_sz (l : List UInt8) : (B l).size = l.length := by simp [B, ByteArray.size]
theorem biDeep_any (f : Fm) : f.ok = true → f.pr.length ≤ 400 → ∀ (w : World), Calls Try.prog 11 #[.string (B f.pr)] w fun e w' => e = .returned (.int .i64 ((f.deep : Nat) : Int)) ∧ Below w.heap.size w w' := by
  induction f with
  | tt => exact fun _ _ => bd0 _ (bp_tt _ rfl)
  | neg f ih =>
    intro ho hl
    have hl' := hl
    simp only [Fm.pr, List.length_cons] at hl'
    have hd := fdeep_le f
    exact bd1 _ (B f.pr) ByteArray.empty f.deep (by omega) (bp_neg _ f.pr (by rw [B_sz]; exact hl) rfl) (ih ho (by omega))
  | and f g ih ih2 =>
    intro ho hl
    have ho' := ho
    simp only [Fm.ok, Bool.and_eq_true] at ho'
    have hl' := hl
    simp only [Fm.pr, List.length_cons, List.length_append] at hl'
    have hd := fdeep_le f
    have hd2 := fdeep_le g
    exact bd2 _ (B f.pr) (B g.pr) f.deep g.deep (max f.deep g.deep) (by omega) (by omega) rfl (bp_and _ f g (by rw [B_sz]; exact hl) ho'.1 rfl) (ih ho'.1 (by omega)) (ih2 ho'.2 (by omega))
  | dia l f ih =>
    intro ho hl
    have ho' := ho
    simp only [Fm.ok, Bool.and_eq_true] at ho'
    have hl' := hl
    simp only [Fm.pr, List.length_cons, List.length_append] at hl'
    have hd := fdeep_le f
    exact bd1l _ (B f.pr) (B l) (by rw [ByteArray.toList_eq]; intro e; have := labB_len ho'.1; have e2 : l = [] := e; rw [e2] at this; simp at this) f.deep (by omega) (bp_dia _ l f.pr (by rw [B_sz]; exact hl) ho'.1 rfl) (ih ho'.2 (by omega))
end Go.Proofs.Ytllnplabiehcgaa.T1
