/- Machines of one thread or none: compared, marked, asked for their marks; the door that answers a machine; StartMachine on both sides. No conditions. -/
import Derived.Test.YtpabmidjfpabdaaSp
import Derived.Test.YtpabmidjfpabdaaTx
import Derived.Test.YtpabmidjfpabdaaCPartsOf
import Derived.Test.YtpabmidjfpabdaaCdb
import Derived.Test.YtpabmidjfpabdaaCdc
namespace Go.Proofs.Ytpabmidjfpabdaa.T1
open Go.RowKit Go.Proofs.Ytpabmidjfpabdaa.LawPartsOf
set_option maxRecDepth 100000
set_option linter.unusedVariables false
set_option linter.unusedSimpArgs false

def MRow (w : World) (v : Value) (g : Nat) (xs : List ByteArray) : Prop := ∃ r q h, v = .agg #[.string ⟨#[]⟩, r, q] ∧ SRow w r g xs ∧ SRow w q h []
theorem srow_nl {w : World} {q : Value} {h : Nat} (H : SRow w q h []) (w' : World) (h' : Nat) : SRow w' q h' [] := by
  obtain ⟨a, c, h1, h2⟩ := H.ex
  exact ⟨⟨a, c, h1, fun h => absurd rfl h⟩⟩
def MOut (F : FuncId) (args : Array Value) (xs : List ByteArray) (b : Bool) : Prop := ∀ w, Calls Try.prog F args w fun e w' => ∃ v g, e = .returned (.tuple #[v, .bool b]) ∧ MRow w' v g xs ∧ w.heap.size ≤ g ∧ Below w.heap.size w w'
theorem ha1 (w : World) (o p : Obj) : ((w.alloc o).alloc p).heap[w.heap.size]? = some o := (Below.heap_alloc _ _ _ (by simp)).trans (heap_alloc_new w o)
theorem ha2 (w : World) (o p : Obj) : ((w.alloc o).alloc p).heap[w.heap.size + 1]? = some p := by
  have := heap_alloc_new (w.alloc o) p
  simpa using this
set_option maxHeartbeats 2000000 in
theorem eqM (r1 q1 r2 q2 : Value) (g1 h1 g2 h2 : Nat) (xs : List ByteArray) (hl : xs.length ≤ 100000) (w : World) (H1 : SRow w r1 g1 xs) (K1 : SRow w q1 h1 []) (H2 : SRow w r2 g2 xs) (K2 : SRow w q2 h2 []) :
    Calls Try.prog 9 #[.agg #[.string ⟨#[]⟩, r1, q1], .agg #[.string ⟨#[]⟩, r2, q2]] w fun e w' => e = .returned (.bool true) ∧ Below w.heap.size w w' := by
  have HH1 := Lib.hid H1; have HK1 := Lib.hid K1; have HH2 := Lib.hid H2; have HK2 := Lib.hid K2
  clear H1 K1 H2 K2
  go_enter Try.func9, Try.ntmps9
  go_wp2_with fail
  have b0 : Below w.heap.size w ((w.alloc (.cells #[.string ⟨#[]⟩, r1, q1] 26)).alloc (.cells #[.string ⟨#[]⟩, r2, q2] 26)) := ((Below.refl _ _).alloc (Nat.le_refl _) _).alloc (by simp) _
  with_reducible refine (eq_any _ _ _ g1 g2 xs hl (HH1.out.below b0) (HH2.out.below b0)).mono ?_
  rintro e w1 ⟨rfl, b1⟩
  have b2 := below_trans b0 b1 b0.size
  have c1 : w1.cell? ⟨w.heap.size, 2, none⟩ = some q1 := (b1.cell (p := ⟨w.heap.size, 2, none⟩) (by simp; omega)).trans (by rw [cell_of_row _ _ 2 _ _ _ (ha1 w _ _)]; rfl)
  have c2 : w1.cell? ⟨w.heap.size + 1, 2, none⟩ = some q2 := (b1.cell (p := ⟨w.heap.size + 1, 2, none⟩) (by simp)).trans (by rw [cell_of_row _ _ 2 _ _ _ (ha2 w _ _)]; rfl)
  go_wp2_with fail
  with_reducible refine (eq_any _ _ _ h1 h2 [] (by simp) (HK1.out.below b2) (HK2.out.below b2)).mono ?_
  rintro e w2 ⟨rfl, b3⟩
  go_wp2_with fail
  go_ret
  exact ⟨rfl, below_trans b2 b3 b2.size⟩
set_option maxHeartbeats 2000000 in
theorem markM (r q : Value) (g h : Nat) (xs : List ByteArray) (hl : xs.length ≤ 1000) (w : World) (hg : g ≠ w.heap.size) (H : SRow w r g xs) (K : SRow w q h []) :
    Calls Try.prog 10 #[.agg #[.string ⟨#[]⟩, r, q], .int .i64 1] w fun e w' => e = .returned (.int .i64 ((1 + xs.length : Nat) : Int)) ∧ SRow w' r g (mks 1 xs.length) ∧ Only g w w' := by
  have HH := Lib.hid H
  obtain ⟨a, c, rfl, _⟩ := K.ex
  simp only [List.length_nil]
  obtain ⟨m, hm⟩ : ∃ m, m = 1 + xs.length := ⟨_, rfl⟩
  rw [← hm]
  have hN := Lib.hid hm
  clear H K
  go_enter Try.func10, Try.ntmps10
  go_wp2_with fail
  have b0 : Below w.heap.size w (w.alloc (.cells #[.string ⟨#[]⟩, r, .slice a 0 c] 26)) := (Below.refl _ _).alloc (Nat.le_refl _) _
  have c0 : (w.alloc (.cells #[.string ⟨#[]⟩, r, .slice a 0 c] 26)).cell? ⟨w.heap.size, 2, none⟩ = some (.slice a 0 c) := by rw [cell_of_row _ _ 2 _ _ _ (heap_alloc_new w _)]; rfl
  have HC : Calls Try.prog 18 #[r, .int .i64 1] _ _ := mark_any _ r g xs (by omega) 1 (by omega) (by omega) (HH.out.below b0)
  with_reducible refine HC.mono ?_
  rintro e w1 ⟨rfl, s1, o1⟩
  rw [← hm]
  have S1 := Lib.hid s1
  have O1 := Lib.hid (((Only.refl g w).alloc _).trans o1)
  have c2 : w1.cell? ⟨w.heap.size, 2, none⟩ = some (.slice a 0 c) := (World.cell?_of_block (w := w.alloc (.cells #[.string ⟨#[]⟩, r, .slice a 0 c] 26)) (o1.block w.heap.size (by simp) (Ne.symm hg))).trans c0
  clear s1 o1 hm b0 c0
  go_wp2_with fail
  with_reducible refine (mk_0 a c m w1).mono ?_
  rintro e w2 ⟨rfl, rfl⟩
  go_wp2_with fail
  go_ret
  exact ⟨rfl, S1.out, O1.out⟩
set_option maxHeartbeats 2000000 in
theorem heldM (r q : Value) (g h n : Nat) (hl : n ≤ 1000) (w : World) (H : SRow w r g (mks 1 n)) (K : SRow w q h []) :
    Calls Try.prog 11 #[.agg #[.string ⟨#[]⟩, r, q], .int .i64 1] w fun e w' => e = .returned (.int .i64 ((1 + n : Nat) : Int)) ∧ Below w.heap.size w w' := by
  have HH := Lib.hid H
  obtain ⟨a, c, rfl, _⟩ := K.ex
  simp only [List.length_nil]
  obtain ⟨m, hm⟩ : ∃ m, m = 1 + n := ⟨_, rfl⟩
  rw [← hm]
  clear H K
  go_enter Try.func11, Try.ntmps11
  go_wp2_with fail
  have b0 : Below w.heap.size w (w.alloc (.cells #[.string ⟨#[]⟩, r, .slice a 0 c] 26)) := (Below.refl _ _).alloc (Nat.le_refl _) _
  have c0 : (w.alloc (.cells #[.string ⟨#[]⟩, r, .slice a 0 c] 26)).cell? ⟨w.heap.size, 2, none⟩ = some (.slice a 0 c) := by rw [cell_of_row _ _ 2 _ _ _ (heap_alloc_new w _)]; rfl
  have HC : Calls Try.prog 19 #[r, .int .i64 1] _ _ := held_any _ r g n (by omega) 1 (by omega) (by omega) (HH.out.below b0)
  with_reducible refine HC.mono ?_
  clear HC
  rintro e w1 ⟨rfl, b1⟩
  rw [← hm]
  have c2 := (b1.cell (p := ⟨w.heap.size, 2, none⟩) (by simp)).trans c0
  have bl := below_trans b0 b1 b0.size
  have hp : ¬ (m : Int) < 0 := by omega
  clear hm b0 c0 b1
  go_wp2_with fail
  with_reducible refine (hd_0 a c m w1).mono ?_
  rintro e w2 ⟨rfl, rfl⟩
  go_wp2_with fail
  go_ret
  exact ⟨rfl, bl⟩


set_option maxHeartbeats 2000000 in
theorem catch_panicM (b : Nat) (older : List PanicEntry) (w : World) (hc : w.cell? ⟨b, 0, none⟩ = some (.bool false)) (hz : w.frozen? ⟨b, 0, none⟩ = false) :
    CallsD Try.prog 22 #[.pointer (some ⟨b, 0, none⟩)] (.panicking ({ v := .iface 39 (.agg #[]), recovered := false } :: older)) w fun e u' w' =>
      e = .returned (.tuple #[]) ∧ u' = .panicking ({ v := .iface 39 (.agg #[]), recovered := true } :: older) ∧ w'.cell? ⟨b, 0, none⟩ = some (.bool false) ∧ (∀ B, B ≤ b → B ≤ w.heap.size → Below B w w') := by
  refine callsD_of_wpS Try.func22 rfl fun c₀ cs hu => ?_
  apply wpS_seq
  apply wpS_region
  simp [wpOpsS, go_sem, recoverD, hu, Try.ntmps22, Exit.thenS]
  have hlt : b < w.heap.size := World.block_lt_of_cell? w _ hc
  have hc' : (w.alloc (.cells #[] 39)).cell? ⟨b, 0, none⟩ = some (.bool false) := by rw [World.cell?_alloc_past _ _ _ hlt]; exact hc
  have hz' : (w.alloc (.cells #[] 39)).frozen? ⟨b, 0, none⟩ = false := by rw [frozen?_alloc_cells]; exact hz
  apply wpS_seq
  apply wpS_region
  simp [wpOpsS, go_sem, recoverD, hu, Try.ntmps22, Exit.thenS]
  refine wpS_cond (t := true) (by simp [Act.eval, Array.replicate]) ?_
  simp only [if_true]
  apply wpS_region
  simp [wpOpsS, go_sem, hc', hz', bodyPostS, results, Try.results22]
  exact fun B h1 h2 => ((Below.refl _ _).alloc h2 _).setCell (p := ⟨b, 0, none⟩) h1 _
set_option maxHeartbeats 2000000 in
theorem catch_idleM (b : Nat) (x : Value) (w : World) (hc : w.cell? ⟨b, 0, none⟩ = some x) :
    CallsD Try.prog 22 #[.pointer (some ⟨b, 0, none⟩)] .returning w fun e u' w' => e = .returned (.tuple #[]) ∧ u' = .returning ∧ w'.cell? ⟨b, 0, none⟩ = some x ∧ (∀ B, B ≤ w.heap.size → Below B w w') := by
  refine callsD_of_wpS Try.func22 rfl fun c₀ cs hu => ?_
  apply wpS_seq
  apply wpS_region
  simp [wpOpsS, go_sem, recoverD, hu, Try.ntmps22, Exit.thenS]
  apply wpS_seq
  apply wpS_region
  simp [wpOpsS, go_sem, recoverD, hu, Try.ntmps22, Exit.thenS]
  refine wpS_cond (t := false) (by simp [Act.eval, Array.replicate]) ?_
  simp only [Bool.false_eq_true, if_false]
  refine wpS_of_wp (wp_skip ?_)
  cases c₀
  simp_all [bodyPostS, results, Try.results22]
  exact ⟨by rw [World.cell?_alloc_past _ _ _ (World.block_lt_of_cell? w _ hc)]; exact hc, fun B h => (Below.refl _ _).alloc h _⟩


theorem st3 {v : World} {k : Nat} {T : TypeId} {a b c x y z : Value} (h : v.heap[k]? = some (.cells #[a, b, c] T (0, 0))) :
    v.cell? ⟨k, 0, none⟩ = some a ∧ (v.setCell ⟨k, 0, none⟩ x).cell? ⟨k, 1, none⟩ = some b ∧ ((v.setCell ⟨k, 0, none⟩ x).setCell ⟨k, 1, none⟩ y).cell? ⟨k, 2, none⟩ = some c ∧ v.frozen? ⟨k, 0, none⟩ = false ∧ v.frozen? ⟨k, 1, none⟩ = false ∧ v.frozen? ⟨k, 2, none⟩ = false := by
  have h1 := heap_setCell_same v k 0 _ _ x h
  have h2 := heap_setCell_same _ k 1 _ _ y h1
  exact ⟨by rw [cell_of_row _ _ 0 _ _ _ h]; rfl, by rw [cell_of_row _ _ 1 _ _ _ h1]; rfl, by rw [cell_of_row _ _ 2 _ _ _ h2]; rfl, frozen_of_row v k 0 _ _ h, frozen_of_row v k 1 _ _ h, frozen_of_row v k 2 _ _ h⟩
theorem st3_row {v : World} {k : Nat} {T : TypeId} {a b c : Value} (x y z : Value) (h : v.heap[k]? = some (.cells #[a, b, c] T (0, 0))) :
    (((v.setCell ⟨k, 0, none⟩ x).setCell ⟨k, 1, none⟩ y).setCell ⟨k, 2, none⟩ z).heap[k]? = some (.cells #[x, y, z] T (0, 0)) :=
  heap_setCell_same _ k 2 _ _ z (heap_setCell_same _ k 1 _ _ y (heap_setCell_same v k 0 _ _ x h))
theorem SRow.set3 {w1 : World} {v x0 x1 x2 : Value} {k g : Nat} {xs : List ByteArray} (s : SRow w1 v g xs) (h : k < g) :
    SRow (((w1.setCell ⟨k, 0, none⟩ x0).setCell ⟨k, 1, none⟩ x1).setCell ⟨k, 2, none⟩ x2) v g xs := by
  obtain ⟨a, c, h1, h2⟩ := s.ex
  refine ⟨a, c, h1, fun hne => ?_⟩
  obtain ⟨h3, C, h4, h5⟩ := h2 hne
  refine ⟨h3, C, ?_, h5⟩
  rw [Below.heap_setCell _ _ _ _ (by show g ≠ k; omega), Below.heap_setCell _ _ _ _ (by show g ≠ k; omega), Below.heap_setCell _ _ _ _ (by show g ≠ k; omega)]
  exact h4
theorem SRow.set4 {w1 : World} {v x0 x1 x2 x3 : Value} {k g : Nat} {xs : List ByteArray} (s : SRow w1 v g xs) (h : xs ≠ [] → k + 1 < g) :
    SRow ((((w1.setCell ⟨k, 0, none⟩ x0).setCell ⟨k, 1, none⟩ x1).setCell ⟨k, 2, none⟩ x2).setCell ⟨k + 1, 0, none⟩ x3) v g xs := by
  obtain ⟨a, c, h1, h2⟩ := s.ex
  refine ⟨a, c, h1, fun hne => ?_⟩
  obtain ⟨h3, C, h4, h5⟩ := h2 hne
  have := h hne
  refine ⟨h3, C, ?_, h5⟩
  rw [Below.heap_setCell _ _ _ _ (by show g ≠ k + 1; omega), Below.heap_setCell _ _ _ _ (by show g ≠ k; omega), Below.heap_setCell _ _ _ _ (by show g ≠ k; omega), Below.heap_setCell _ _ _ _ (by show g ≠ k; omega)]
  exact h4
/-- The memory of a machine that is not there yet. -/
def zM : Obj := .cells #[.string ⟨#[]⟩, .slice none 0 0, .slice none 0 0] 26
set_option maxHeartbeats 4000000 in
theorem ansM_yes (CF : FuncId) (caps : Array Value) (xs : List ByteArray) (hF : ∀ args w, (callFunc CF args).run Try.prog w = .ok (.enter CF args) w) (w : World)
    (HA : ∀ w1, Below w.heap.size w w1 → w.heap.size + 2 ≤ w1.heap.size → Calls Try.prog CF caps w1 fun e w' => ∃ v g, e = .returned v ∧ MRow w' v g xs ∧ w1.heap.size ≤ g ∧ Below w1.heap.size w1 w') :
    Calls Try.prog 13 #[.func (.func CF) #[] caps] w fun e w' => ∃ v g, e = .returned (.tuple #[v, .bool true]) ∧ MRow w' v g xs ∧ w.heap.size ≤ g ∧ Below w.heap.size w w' := by
  have H := Lib.hid HA
  clear HA
  have hmf : ∀ (fn : Fn) (first cap : Array Value) (w : World), (Instr.makeFunc fn first cap).run Try.prog w = .ok (.func fn first cap) w := fun _ _ _ _ => rfl
  go_enter_defers Try.func13, Try.ntmps13
  go_wp2_with fail
  have b0 : Below w.heap.size w ((w.alloc (.cells #[.string ⟨#[]⟩, .slice none 0 0, .slice none 0 0] 26)).alloc (.cells #[.bool false] 4)) := ((Below.refl _ _).alloc (Nat.le_refl _) _).alloc (by simp) _
  have r0 := ha1 w (.cells #[.string ⟨#[]⟩, .slice none 0 0, .slice none 0 0] 26) (.cells #[.bool false] 4)
  have r1 := ha2 w (.cells #[.string ⟨#[]⟩, .slice none 0 0, .slice none 0 0] 26) (.cells #[.bool false] 4)
  obtain ⟨W, hW⟩ : ∃ W, W = ((w.alloc (.cells #[.string ⟨#[]⟩, .slice none 0 0, .slice none 0 0] 26)).alloc (.cells #[.bool false] 4)) := ⟨_, rfl⟩
  rw [← hW] at b0 r0 r1 ⊢
  have hs0 : w.heap.size + 2 ≤ W.heap.size := by rw [hW]; simp
  clear hW
  refine (H.out _ b0 hs0).mono ?_
  rintro e w1 ⟨v, g, rfl, ⟨r, q, h, rfl, s1, s2⟩, hg, b1⟩
  obtain ⟨a1, n1, rfl, -⟩ := id s1.ex
  obtain ⟨a2, n2, rfl, -⟩ := id s2.ex
  replace r0 := (b1.block _ (by omega)).trans r0
  replace r1 := (b1.block _ (by omega)).trans r1
  have bl := below_trans b0 b1 (by omega)
  have S1 := Lib.hid s1
  have S2 := Lib.hid s2
  have hs1 := b1.size
  have e0 : w1.cell? ⟨w.heap.size, 0, none⟩ = some (.string ⟨#[]⟩) := by rw [cell_of_row _ _ 0 _ _ _ r0]; rfl
  have e1 : (w1.setCell ⟨w.heap.size, 0, none⟩ (.string ⟨#[]⟩)).cell? ⟨w.heap.size, 1, none⟩ = some (.slice none 0 0) := (World.cell?_setCell_other _ _ _ _ (by simp)).trans (by rw [cell_of_row _ _ 1 _ _ _ r0]; rfl)
  have e2 : ((w1.setCell ⟨w.heap.size, 0, none⟩ (.string ⟨#[]⟩)).setCell ⟨w.heap.size, 1, none⟩ (.slice a1 xs.length n1)).cell? ⟨w.heap.size, 2, none⟩ = some (.slice none 0 0) := (World.cell?_setCell_other _ _ _ _ (by simp)).trans ((World.cell?_setCell_other _ _ _ _ (by simp)).trans (by rw [cell_of_row _ _ 2 _ _ _ r0]; rfl))
  have e3 : (((w1.setCell ⟨w.heap.size, 0, none⟩ (.string ⟨#[]⟩)).setCell ⟨w.heap.size, 1, none⟩ (.slice a1 xs.length n1)).setCell ⟨w.heap.size, 2, none⟩ (.slice a2 0 n2)).cell? ⟨w.heap.size + 1, 0, none⟩ = some (.bool false) := (World.cell?_setCell_other _ _ _ _ (by simp)).trans ((World.cell?_setCell_other _ _ _ _ (by simp)).trans ((World.cell?_setCell_other _ _ _ _ (by simp)).trans (by rw [cell_of_row _ _ 0 _ _ _ r1]; rfl)))
  have g0 := frozen_of_row w1 w.heap.size 0 _ _ r0
  have g1 := frozen_of_row w1 w.heap.size 1 _ _ r0
  have g2 := frozen_of_row w1 w.heap.size 2 _ _ r0
  have f1 := frozen_of_row w1 (w.heap.size + 1) 0 _ _ r1
  have d1 := World.cell?_setCell_same _ _ (.slice a1 xs.length n1) e1
  have d2 := World.cell?_setCell_same _ _ (.slice a2 0 n2) e2
  have d3 := Lib.hid (World.cell?_setCell_same _ _ (.bool true) e3)
  have bs : Hid (Below w.heap.size w ((((w1.setCell ⟨w.heap.size, 0, none⟩ (.string ⟨#[]⟩)).setCell ⟨w.heap.size, 1, none⟩ (.slice a1 xs.length n1)).setCell ⟨w.heap.size, 2, none⟩ (.slice a2 0 n2)).setCell ⟨w.heap.size + 1, 0, none⟩ (.bool true))) := (((bl.setCell (p := ⟨w.heap.size, 0, none⟩) (Nat.le_refl _) _).setCell (p := ⟨w.heap.size, 1, none⟩) (Nat.le_refl _) _).setCell (p := ⟨w.heap.size, 2, none⟩) (Nat.le_refl _) _).setCell (p := ⟨w.heap.size + 1, 0, none⟩) (Nat.le_succ _) _
  have k0 : Hid (((((w1.setCell ⟨w.heap.size, 0, none⟩ (.string ⟨#[]⟩)).setCell ⟨w.heap.size, 1, none⟩ (.slice a1 xs.length n1)).setCell ⟨w.heap.size, 2, none⟩ (.slice a2 0 n2)).setCell ⟨w.heap.size + 1, 0, none⟩ (.bool true)).cell? ⟨w.heap.size, 0, none⟩ = some (.string ⟨#[]⟩)) := by
    show _ = _
    exact (World.cell?_setCell_other _ _ _ _ (by simp)).trans ((World.cell?_setCell_other _ _ _ _ (by simp)).trans ((World.cell?_setCell_other _ _ _ _ (by simp)).trans (World.cell?_setCell_same _ _ _ e0)))
  have k1 : Hid (((((w1.setCell ⟨w.heap.size, 0, none⟩ (.string ⟨#[]⟩)).setCell ⟨w.heap.size, 1, none⟩ (.slice a1 xs.length n1)).setCell ⟨w.heap.size, 2, none⟩ (.slice a2 0 n2)).setCell ⟨w.heap.size + 1, 0, none⟩ (.bool true)).cell? ⟨w.heap.size, 1, none⟩ = some (.slice a1 xs.length n1)) := by
    show _ = _
    exact (World.cell?_setCell_other _ _ _ _ (by simp)).trans ((World.cell?_setCell_other _ _ _ _ (by simp)).trans d1)
  have k2 : Hid (((((w1.setCell ⟨w.heap.size, 0, none⟩ (.string ⟨#[]⟩)).setCell ⟨w.heap.size, 1, none⟩ (.slice a1 xs.length n1)).setCell ⟨w.heap.size, 2, none⟩ (.slice a2 0 n2)).setCell ⟨w.heap.size + 1, 0, none⟩ (.bool true)).cell? ⟨w.heap.size, 2, none⟩ = some (.slice a2 0 n2)) := by
    show _ = _
    exact (World.cell?_setCell_other _ _ _ _ (by simp)).trans d2
  have SS : Hid (SRow ((((w1.setCell ⟨w.heap.size, 0, none⟩ (.string ⟨#[]⟩)).setCell ⟨w.heap.size, 1, none⟩ (.slice a1 xs.length n1)).setCell ⟨w.heap.size, 2, none⟩ (.slice a2 0 n2)).setCell ⟨w.heap.size + 1, 0, none⟩ (.bool true)) (.slice a1 xs.length n1) g xs) := SRow.set4 s1 (fun _ => by omega)
  have hsz : ((((w1.setCell ⟨w.heap.size, 0, none⟩ (.string ⟨#[]⟩)).setCell ⟨w.heap.size, 1, none⟩ (.slice a1 xs.length n1)).setCell ⟨w.heap.size, 2, none⟩ (.slice a2 0 n2)).setCell ⟨w.heap.size + 1, 0, none⟩ (.bool true)).heap.size = w1.heap.size := by simp
  clear s1 s2 r0 r1 b1 d1 d2
  go_wp2_with fail
  refine leaves_cons (f := 22) (args := #[.pointer (some ⟨w.heap.size + 1, 0, none⟩)]) (by simp) (by simp [go_sem]) ?_
  refine (catch_idleM (w.heap.size + 1) (.bool true) _ d3.out).mono ?_
  rintro e u' w'' ⟨rfl, rfl, c2, b2⟩
  have b3 := bs.out.trans (b2 w.heap.size (by rw [hsz]; omega))
  have bW := b2 _ (Nat.le_refl _)
  have j0 := (bW.cell (p := ⟨w.heap.size, 0, none⟩) (by rw [hsz]; show w.heap.size < _; omega)).trans k0.out
  have j1 := (bW.cell (p := ⟨w.heap.size, 1, none⟩) (by rw [hsz]; show w.heap.size < _; omega)).trans k1.out
  have j2 := (bW.cell (p := ⟨w.heap.size, 2, none⟩) (by rw [hsz]; show w.heap.size < _; omega)).trans k2.out
  have S3 := SS.out.below bW
  simp [Leaves, settle, results, Try.results13, go_sem, c2, j0, j1, j2]
  exact ⟨g, ⟨_, _, h, rfl, S3, srow_nl S2.out _ _⟩, by omega, b3⟩
set_option maxHeartbeats 4000000 in
theorem ansM_no (CF : FuncId) (caps : Array Value) (hF : ∀ args w, (callFunc CF args).run Try.prog w = .ok (.enter CF args) w) (w : World)
    (HA : ∀ w1, Below w.heap.size w w1 → w.heap.size + 2 ≤ w1.heap.size → Calls Try.prog CF caps w1 fun e w' => e = failed ∧ Below w1.heap.size w1 w') :
    Calls Try.prog 13 #[.func (.func CF) #[] caps] w fun e w' => ∃ v g, e = .returned (.tuple #[v, .bool false]) ∧ MRow w' v g [] ∧ w.heap.size ≤ g ∧ Below w.heap.size w w' := by
  have H := Lib.hid HA
  clear HA
  have hmf : ∀ (fn : Fn) (first cap : Array Value) (w : World), (Instr.makeFunc fn first cap).run Try.prog w = .ok (.func fn first cap) w := fun _ _ _ _ => rfl
  go_enter_defers Try.func13, Try.ntmps13
  go_wp2_with fail
  have b0 : Below w.heap.size w ((w.alloc (.cells #[.string ⟨#[]⟩, .slice none 0 0, .slice none 0 0] 26)).alloc (.cells #[.bool false] 4)) := ((Below.refl _ _).alloc (Nat.le_refl _) _).alloc (by simp) _
  have r0 := ha1 w (.cells #[.string ⟨#[]⟩, .slice none 0 0, .slice none 0 0] 26) (.cells #[.bool false] 4)
  have r1 := ha2 w (.cells #[.string ⟨#[]⟩, .slice none 0 0, .slice none 0 0] 26) (.cells #[.bool false] 4)
  obtain ⟨W, hW⟩ : ∃ W, W = ((w.alloc (.cells #[.string ⟨#[]⟩, .slice none 0 0, .slice none 0 0] 26)).alloc (.cells #[.bool false] 4)) := ⟨_, rfl⟩
  rw [← hW] at b0 r0 r1 ⊢
  have hs0 : w.heap.size + 2 ≤ W.heap.size := by rw [hW]; simp
  clear hW
  refine (H.out _ b0 hs0).mono ?_
  rintro e w1 ⟨rfl, b1⟩
  replace r0 := (b1.block _ (by omega)).trans r0
  replace r1 := (b1.block _ (by omega)).trans r1
  have bl := below_trans b0 b1 (by omega)
  have hs1 := b1.size
  have c1 : w1.cell? ⟨w.heap.size + 1, 0, none⟩ = some (.bool false) := by rw [cell_of_row _ _ 0 _ _ _ r1]; rfl
  have f1 := frozen_of_row w1 (w.heap.size + 1) 0 _ _ r1
  show bodyPostD _ _ _ (Exit.panic _) _ _
  refine leaves_cons (f := 22) (args := #[.pointer (some ⟨w.heap.size + 1, 0, none⟩)]) (by simp) (by simp [go_sem]) ?_
  refine (catch_panicM (w.heap.size + 1) [] _ c1 f1).mono ?_
  rintro e u' w'' ⟨rfl, rfl, c2, b2⟩
  have b3 := bl.trans (b2 w.heap.size (by omega) (by omega))
  have bW := b2 (w.heap.size + 1) (Nat.le_refl _) (by omega)
  have r2 := (bW.block w.heap.size (by omega)).trans r0
  have j0 : w''.cell? ⟨w.heap.size, 0, none⟩ = some (.string ⟨#[]⟩) := by rw [cell_of_row _ _ 0 _ _ _ r2]; rfl
  have j1 : w''.cell? ⟨w.heap.size, 1, none⟩ = some (.slice none 0 0) := by rw [cell_of_row _ _ 1 _ _ _ r2]; rfl
  have j2 : w''.cell? ⟨w.heap.size, 2, none⟩ = some (.slice none 0 0) := by rw [cell_of_row _ _ 2 _ _ _ r2]; rfl
  simp [Leaves, settle, results, Try.results13, go_sem, c2, j0, j1, j2]
  exact ⟨w.heap.size, ⟨_, _, w.heap.size, rfl, srow_nil _ _, srow_nil _ _⟩, Nat.le_refl _, b3⟩

/-- The tree of a simple process. -/
theorem si_yes (k : ByteArray) (T : TypeId) (V : Value) (HP : ∀ w, Calls Try.prog 31 #[.string k] w fun e w' => e = .returned (.iface T V) ∧ Below w.heap.size w w')
    (HS : ∀ w, Calls Try.prog 33 #[.iface T V] w fun e w' => e = .returned (.bool true) ∧ Below w.heap.size w w') (w : World) :
    Calls Try.prog 23 #[.string k] w fun e w' => e = .returned (.iface T V) ∧ Below w.heap.size w w' := by
  have H := Lib.hid HP; have H2 := Lib.hid HS
  clear HP HS
  go_enter Try.func23, Try.ntmps23
  go_wp2_with fail
  with_reducible refine (H.out _).mono ?_
  rintro e w1 ⟨rfl, b1⟩
  go_wp2_with fail
  with_reducible refine (H2.out _).mono ?_
  rintro e w2 ⟨rfl, b2⟩
  go_wp2_with fail
  with_reducible refine (ensure_yes _).mono ?_
  rintro e w3 ⟨rfl, rfl⟩
  go_wp2_with fail
  go_ret
  exact ⟨rfl, below_trans b1 b2 b1.size⟩
theorem si_bad (k : ByteArray) (T : TypeId) (V : Value) (HP : ∀ w, Calls Try.prog 31 #[.string k] w fun e w' => e = .returned (.iface T V) ∧ Below w.heap.size w w')
    (HS : ∀ w, Calls Try.prog 33 #[.iface T V] w fun e w' => e = .returned (.bool false) ∧ Below w.heap.size w w') (w : World) :
    Calls Try.prog 23 #[.string k] w fun e w' => e = failed ∧ Below w.heap.size w w' := by
  have H := Lib.hid HP; have H2 := Lib.hid HS
  clear HP HS
  go_enter Try.func23, Try.ntmps23
  go_wp2_with fail
  with_reducible refine (H.out _).mono ?_
  rintro e w1 ⟨rfl, b1⟩
  go_wp2_with fail
  with_reducible refine (H2.out _).mono ?_
  rintro e w2 ⟨rfl, b2⟩
  go_wp2_with fail
  with_reducible refine (ensure_no _).mono ?_
  rintro e w3 ⟨rfl, rfl⟩
  exact ⟨rfl, rfl, below_trans b1 b2 b1.size⟩
theorem si_no (k : ByteArray) (HP : ∀ w, Calls Try.prog 31 #[.string k] w fun e w' => e = failed ∧ Below w.heap.size w w') (w : World) :
    Calls Try.prog 23 #[.string k] w fun e w' => e = failed ∧ Below w.heap.size w w' := by
  have H := Lib.hid HP
  clear HP
  go_enter Try.func23, Try.ntmps23
  go_wp2_with fail
  with_reducible refine (H.out _).mono ?_
  rintro e w1 ⟨rfl, b1⟩
  exact ⟨rfl, rfl, b1⟩

/-- An engine with one thread. -/
def EngAt (w : World) (b : Nat) (T : TypeId) (V : Value) : Prop := ∃ g, w.heap[b]? = some (.cells #[.slice none 0 0, .slice (some ⟨g, 0, none⟩) 1 1, .slice none 0 0] 47 (0, 0)) ∧ w.heap[g]? = some (.cells #[.iface T V] 42 (0, 0))
theorem sw_yes (k : ByteArray) (T : TypeId) (V : Value) (HP : ∀ w, Calls Try.prog 23 #[.string k] w fun e w' => e = .returned (.iface T V) ∧ Below w.heap.size w w') (w : World) :
    Calls Try.prog 15 #[.string k] w fun e w' => ∃ b, e = .returned (.pointer (some ⟨b, 0, none⟩)) ∧ EngAt w' b T V ∧ Below w.heap.size w w' := by
  have H := Lib.hid HP
  clear HP
  go_enter Try.func15, Try.ntmps15
  go_wp2_with fail
  with_reducible refine (H.out _).mono ?_
  rintro e w1 ⟨rfl, b1⟩
  go_wp2_with fail
  go_ret
  exact ⟨_, rfl, ⟨_, ha2 _ _ _, ha1 _ _ _⟩, (b1.alloc b1.size _).alloc (by have := b1.size; simp; omega) _⟩
theorem sw_no (k : ByteArray) (HP : ∀ w, Calls Try.prog 23 #[.string k] w fun e w' => e = failed ∧ Below w.heap.size w w') (w : World) :
    Calls Try.prog 15 #[.string k] w fun e w' => e = failed ∧ Below w.heap.size w w' := by
  have H := Lib.hid HP
  clear HP
  go_enter Try.func15, Try.ntmps15
  go_wp2_with fail
  with_reducible refine (H.out _).mono ?_
  rintro e w1 ⟨rfl, b1⟩
  exact ⟨rfl, rfl, b1⟩
theorem conv0 (w : World) : (convert 45 9 (.slice none 0 0)).run Try.prog w = .ok (.string ⟨#[]⟩) w := by kernel_rfl
set_option maxHeartbeats 8000000 in
theorem em_any (b : Nat) (T : TypeId) (V : Value) (X : ByteArray) (HX : ∀ w, Calls Try.prog 34 #[.iface T V] w fun e w' => e = .returned (.string X) ∧ Below w.heap.size w w') (w : World) (h : EngAt w b T V) :
    Calls Try.prog 16 #[.pointer (some ⟨b, 0, none⟩)] w fun e w' => ∃ v g, e = .returned v ∧ MRow w' v g [X] ∧ w.heap.size ≤ g ∧ Below w.heap.size w w' := by
  obtain ⟨g, h1, h2⟩ := h
  have HT := Lib.hid (fun w h => tx_1 T V X HX g w h)
  have H2 := Lib.hid h2
  have e0 : w.cell? ⟨b, 0, none⟩ = some (.slice none 0 0) := by rw [cell_of_row _ _ 0 _ _ _ h1]; rfl
  have e1 : w.cell? ⟨b, 1, none⟩ = some (.slice (some ⟨g, 0, none⟩) 1 1) := by rw [cell_of_row _ _ 1 _ _ _ h1]; rfl
  have e2 : w.cell? ⟨b, 2, none⟩ = some (.slice none 0 0) := by rw [cell_of_row _ _ 2 _ _ _ h1]; rfl
  have hb := lt_of_block h1
  have hg := lt_of_block h2
  have cv := conv0
  clear h1 h2 HX
  have x0 : (w.alloc (.cells #[.string ⟨#[]⟩, .slice none 0 0, .slice none 0 0] 26)).cell? ⟨b, 0, none⟩ = some (.slice none 0 0) := by rw [World.cell?_alloc_past _ _ _ hb]; exact e0
  have x1 : (w.alloc (.cells #[.string ⟨#[]⟩, .slice none 0 0, .slice none 0 0] 26)).cell? ⟨b, 1, none⟩ = some (.slice (some ⟨g, 0, none⟩) 1 1) := by rw [World.cell?_alloc_past _ _ _ hb]; exact e1
  have x2 : (w.alloc (.cells #[.string ⟨#[]⟩, .slice none 0 0, .slice none 0 0] 26)).cell? ⟨b, 2, none⟩ = some (.slice none 0 0) := by rw [World.cell?_alloc_past _ _ _ hb]; exact e2
  have y0 : (w.alloc (.cells #[.string ⟨#[]⟩, .slice none 0 0, .slice none 0 0] 26)).heap[w.heap.size]? = some (.cells #[.string ⟨#[]⟩, .slice none 0 0, .slice none 0 0] 26 (0, 0)) := heap_alloc_new w _
  have y1 := (Below.heap_alloc w (.cells #[.string ⟨#[]⟩, .slice none 0 0, .slice none 0 0] 26) g hg).trans H2.out
  have b0 : Below w.heap.size w (w.alloc (.cells #[.string ⟨#[]⟩, .slice none 0 0, .slice none 0 0] 26)) := (Below.refl _ _).alloc (Nat.le_refl _) _
  go_enter Try.func16, Try.ntmps16
  go_wp2_with fail
  obtain ⟨W, hW⟩ : ∃ W, W = w.alloc (.cells #[.string ⟨#[]⟩, .slice none 0 0, .slice none 0 0] 26) := ⟨_, rfl⟩
  have hsz : W.heap.size = w.heap.size + 1 := by rw [hW]; simp
  rw [← hW] at x0 x1 x2 y0 y1 b0 ⊢
  clear hW
  have kW : Below W.heap.size W W.drew := (Below.refl _ W).drew
  have yd : W.drew.heap[g]? = some (.cells #[.iface T V] 42 (0, 0)) := y1
  have hbW : b < W.heap.size := by omega
  have hgW : g < W.heap.size := by omega
  have hkW : w.heap.size < W.heap.size := by omega
  go_region_with (first
    | (go_at_call 24; (with_reducible refine (HT.out W.drew yd).mono ?_); rintro e v1 ⟨vz, gA, rfl, sA, hgA, dA⟩; obtain ⟨aA, cA, rfl, -⟩ := id sA.ex; have kA : Below W.heap.size W v1 := (by first | exact st_go kW dA | exact st_go (Below.drew kW) dA); have q0 := (kA.cell (p := ⟨b, 0, none⟩) hbW).trans x0; have q1 := (kA.cell (p := ⟨b, 1, none⟩) hbW).trans x1; have q2 := (kA.cell (p := ⟨b, 2, none⟩) hbW).trans x2)
    | (go_at_call 24; (with_reducible refine (HT.out v1 ((kB.block g hgW).trans y1)).mono ?_); rintro e v2 ⟨vz, gA, rfl, sA, hgA, dA⟩; obtain ⟨aA, cA, rfl, -⟩ := id sA.ex; have kA : Below W.heap.size W v2 := (by first | exact st_go kB dA | exact st_go (Below.drew kB) dA); have q0 := (kA.cell (p := ⟨b, 0, none⟩) hbW).trans x0; have q1 := (kA.cell (p := ⟨b, 1, none⟩) hbW).trans x1; have q2 := (kA.cell (p := ⟨b, 2, none⟩) hbW).trans x2; have R := Lib.hid ((kA.block w.heap.size hkW).trans y0); obtain ⟨z0, z1, z2, z3, z4, z5⟩ := st3 (x := .string ⟨#[]⟩) (y := .slice aA 1 cA) (z := .slice aB 0 cB) R.out)
    | (go_at_call 24; (with_reducible refine (tx_0 W.drew).mono ?_); rintro e v1 ⟨vz, gB, rfl, sB, hgB, dB⟩; obtain ⟨aB, cB, rfl, -⟩ := id sB.ex; have kB : Below W.heap.size W v1 := (by first | exact st_go kW dB | exact st_go (Below.drew kW) dB); have q0 := (kB.cell (p := ⟨b, 0, none⟩) hbW).trans x0; have q1 := (kB.cell (p := ⟨b, 1, none⟩) hbW).trans x1; have q2 := (kB.cell (p := ⟨b, 2, none⟩) hbW).trans x2)
    | (go_at_call 24; (with_reducible refine (tx_0 v1).mono ?_); rintro e v2 ⟨vz, gB, rfl, sB, hgB, dB⟩; obtain ⟨aB, cB, rfl, -⟩ := id sB.ex; have kB : Below W.heap.size W v2 := (by first | exact st_go kA dB | exact st_go (Below.drew kA) dB); have q0 := (kB.cell (p := ⟨b, 0, none⟩) hbW).trans x0; have q1 := (kB.cell (p := ⟨b, 1, none⟩) hbW).trans x1; have q2 := (kB.cell (p := ⟨b, 2, none⟩) hbW).trans x2; have R := Lib.hid ((kB.block w.heap.size hkW).trans y0); obtain ⟨z0, z1, z2, z3, z4, z5⟩ := st3 (x := .string ⟨#[]⟩) (y := .slice aA 1 cA) (z := .slice aB 0 cB) R.out)
    | fail)
  all_goals (
    have hw : W.drew.heap.size = W.heap.size := rfl
    have kF : Below W.heap.size W v2 := (by first | exact kA | exact kB)
    have sF : SRow v2 (.slice aA 1 cA) gA [X] := (by first | exact sA | exact sA.below dB)
    have gF : w.heap.size < gA := (by have h1 := kA.size; have h2 := kB.size; omega)
    have bF := below_trans b0 kF (by rw [hsz]; omega)
    have R3 := st3_row (.string ⟨#[]⟩) (.slice aA 1 cA) (.slice aB 0 cB) R.out
    have S3 := Lib.hid (SRow.set3 (x0 := .string ⟨#[]⟩) (x1 := .slice aA 1 cA) (x2 := .slice aB 0 cB) sF gF)
    have B3 := Lib.hid (((bF.setCell (p := ⟨w.heap.size, 0, none⟩) (Nat.le_refl _) (.string ⟨#[]⟩)).setCell (p := ⟨w.heap.size, 1, none⟩) (Nat.le_refl _) (.slice aA 1 cA)).setCell (p := ⟨w.heap.size, 2, none⟩) (Nat.le_refl _) (.slice aB 0 cB))
    have SB := Lib.hid sB
    have RR := Lib.hid R3
    clear R3 bF sF sA sB kF dA dB z0 z1 z2 z3 z4 z5 q0 q1 q2 R y0 y1 x0 x1 x2 kA kB
    go_wp2_with fail
    exact bodyPost_ret (v := .agg #[.string ⟨#[]⟩, .slice aA 1 cA, .slice aB 0 cB]) (results_cell_row (t := 26) (fr := (0, 0)) rfl _ _ w.heap.size _ _ rfl RR.out Try.underlying26 rfl (by kernel_rfl)) rfl ⟨_, gA, rfl, ⟨_, _, gB, rfl, S3.out, srow_nl SB.out _ _⟩, by omega, B3.out⟩)
theorem cf_sm (args : Array Value) (w : World) : (callFunc 14 args).run Try.prog w = .ok (.enter 14 args) w := by kernel_rfl
set_option maxHeartbeats 2000000 in
theorem sc_yes (p : ByteArray) (T : TypeId) (V : Value) (X : ByteArray) (HS : ∀ w, Calls Try.prog 23 #[.string p] w fun e w' => e = .returned (.iface T V) ∧ Below w.heap.size w w')
    (HX : ∀ w, Calls Try.prog 34 #[.iface T V] w fun e w' => e = .returned (.string X) ∧ Below w.heap.size w w') (k : Nat) (w : World) (hk : w.cell? ⟨k, 0, none⟩ = some (.string p)) :
    Calls Try.prog 14 #[.pointer (some ⟨k, 0, none⟩)] w fun e w' => ∃ v g, e = .returned v ∧ MRow w' v g [X] ∧ w.heap.size ≤ g ∧ Below w.heap.size w w' := by
  have H1 := Lib.hid (fun w => sw_yes p T V HS w)
  have H2 := Lib.hid (fun b w h => em_any b T V X HX w h)
  have hkb : k < w.heap.size := World.block_lt_of_cell? w _ hk
  have hk1 : (w.alloc (.cells #[.string ⟨#[]⟩, .slice none 0 0, .slice none 0 0] 26)).cell? ⟨k, 0, none⟩ = some (.string p) := by rw [World.cell?_alloc_past _ _ _ hkb]; exact hk
  have b0 : Below w.heap.size w (w.alloc (.cells #[.string ⟨#[]⟩, .slice none 0 0, .slice none 0 0] 26)) := (Below.refl _ _).alloc (Nat.le_refl _) _
  have y0 := Lib.hid (heap_alloc_new w (.cells #[.string ⟨#[]⟩, .slice none 0 0, .slice none 0 0] 26))
  clear HS HX
  go_enter Try.func14, Try.ntmps14
  go_wp2_with fail
  with_reducible refine (H1.out _).mono ?_
  rintro e w1 ⟨b, rfl, he, b1⟩
  have hs1 := b1.size
  simp only [World.size_alloc] at hs1
  have B1 := below_trans b0 b1 b0.size
  have y1 := (b1.block w.heap.size (by simp)).trans y0.out
  clear b1 hk1
  go_wp2_with fail
  with_reducible refine (H2.out _ _ he).mono ?_
  rintro e w2 ⟨v, g, rfl, ⟨r, q, h, rfl, s1, s2⟩, hg, b2⟩
  obtain ⟨a1, n1, rfl, -⟩ := id s1.ex
  obtain ⟨a2, n2, rfl, -⟩ := id s2.ex
  have R := (b2.block w.heap.size (by omega)).trans y1
  obtain ⟨z0, z1, z2, z3, z4, z5⟩ := st3 (x := .string ⟨#[]⟩) (y := .slice a1 1 n1) (z := .slice a2 0 n2) R
  have bF := below_trans B1 b2 (by omega)
  have R3 := st3_row (.string ⟨#[]⟩) (.slice a1 1 n1) (.slice a2 0 n2) R
  have S3 := Lib.hid (SRow.set3 (k := w.heap.size) (x0 := .string ⟨#[]⟩) (x1 := .slice a1 1 n1) (x2 := .slice a2 0 n2) s1 (by omega))
  have SB := Lib.hid s2
  have B3 := Lib.hid (((bF.setCell (p := ⟨w.heap.size, 0, none⟩) (Nat.le_refl _) (.string ⟨#[]⟩)).setCell (p := ⟨w.heap.size, 1, none⟩) (Nat.le_refl _) (.slice a1 1 n1)).setCell (p := ⟨w.heap.size, 2, none⟩) (Nat.le_refl _) (.slice a2 0 n2))
  have hgw : w.heap.size ≤ g := by omega
  have RR := Lib.hid R3
  clear R3 bF s1 s2 R b2 B1 y1 he
  go_wp2_with fail
  exact bodyPost_ret (v := .agg #[.string ⟨#[]⟩, .slice a1 1 n1, .slice a2 0 n2]) (results_cell_row (t := 26) (fr := (0, 0)) rfl _ _ w.heap.size _ _ rfl RR.out Try.underlying26 rfl (by kernel_rfl)) rfl ⟨_, g, rfl, ⟨_, _, h, rfl, S3.out, srow_nl SB.out _ _⟩, hgw, B3.out⟩
theorem sc_no (p : ByteArray) (HS : ∀ w, Calls Try.prog 23 #[.string p] w fun e w' => e = failed ∧ Below w.heap.size w w') (k : Nat) (w : World) (hk : w.cell? ⟨k, 0, none⟩ = some (.string p)) :
    Calls Try.prog 14 #[.pointer (some ⟨k, 0, none⟩)] w fun e w' => e = failed ∧ Below w.heap.size w w' := by
  have H1 := Lib.hid (fun w => sw_no p HS w)
  have hkb : k < w.heap.size := World.block_lt_of_cell? w _ hk
  have hk1 : (w.alloc (.cells #[.string ⟨#[]⟩, .slice none 0 0, .slice none 0 0] 26)).cell? ⟨k, 0, none⟩ = some (.string p) := by rw [World.cell?_alloc_past _ _ _ hkb]; exact hk
  have b0 : Below w.heap.size w (w.alloc (.cells #[.string ⟨#[]⟩, .slice none 0 0, .slice none 0 0] 26)) := (Below.refl _ _).alloc (Nat.le_refl _) _
  clear HS
  go_enter Try.func14, Try.ntmps14
  go_wp2_with fail
  with_reducible refine (H1.out _).mono ?_
  rintro e w1 ⟨rfl, b1⟩
  exact ⟨rfl, rfl, below_trans b0 b1 b0.size⟩
end Go.Proofs.Ytpabmidjfpabdaa.T1
