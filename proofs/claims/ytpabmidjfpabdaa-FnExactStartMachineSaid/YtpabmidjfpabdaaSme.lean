/- StartMachine on both sides, and the walk of its law. No conditions. -/
import Derived.Test.YtpabmidjfpabdaaSmd
namespace Go.Proofs.Ytpabmidjfpabdaa.T1
open Go.RowKit Go.Proofs.Ytpabmidjfpabdaa.LawPartsOf
set_option maxRecDepth 100000
set_option linter.unusedVariables false
set_option linter.unusedSimpArgs false

theorem results_row_tmp {fn : Func} {p u : Tmp} {ty : TypeId} (P : Program) (h : fn.results = #[.cell p ty, .tmp u]) (tmps : Array Value) (w : World) (g : Nat) (t : TypeId) (cs : Array Value) (fr : Nat × Nat) (d : TypeDesc)
    (hp : tmps.getD p undef = .pointer (some ⟨g, 0, none⟩)) (hg : w.heap[g]? = some (.cells cs t fr))
    (hu : P.underlying ty = some d) (hd : (match (generalizing := false) d with | .struct _ | .array _ _ => true | _ => false) = true) (hi : (P.info? ty).map (·.size) = some cs.size) :
    (results fn tmps).run P w = .ok (.tuple #[.agg cs, tmps.getD u undef]) w := by
  have hp' : tmps[p]?.getD undef = .pointer (some ⟨g, 0, none⟩) := by simpa using hp
  have hl := run_loadVar_row w g t ty cs fr d hg hu (by cases d <;> first | exact hd | rfl) hi
  simp [results, h, hp', asAddr, hl]
/-- A machine stored. -/
theorem keep3 {v : World} {k g : Nat} {T : TypeId} {a b c x y z : Value} {xs : List ByteArray} {r : Value} (R : v.heap[k]? = some (.cells #[a, b, c] T (0, 0))) (s : SRow v r g xs) (h : k < g) :
    (((v.setCell ⟨k, 0, none⟩ x).setCell ⟨k, 1, none⟩ y).setCell ⟨k, 2, none⟩ z).heap[k]? = some (.cells #[x, y, z] T (0, 0)) ∧ SRow (((v.setCell ⟨k, 0, none⟩ x).setCell ⟨k, 1, none⟩ y).setCell ⟨k, 2, none⟩ z) r g xs ∧
    Below k v (((v.setCell ⟨k, 0, none⟩ x).setCell ⟨k, 1, none⟩ y).setCell ⟨k, 2, none⟩ z) :=
  ⟨st3_row x y z R, SRow.set3 s h, (((Below.refl k v).setCell (p := ⟨k, 0, none⟩) (Nat.le_refl _) x).setCell (p := ⟨k, 1, none⟩) (Nat.le_refl _) y).setCell (p := ⟨k, 2, none⟩) (Nat.le_refl _) z⟩
set_option maxHeartbeats 4000000 in
theorem ism (p : ByteArray) (xs : List ByteArray) (b : Bool)
    (HA : ∀ k w, w.cell? ⟨k, 0, none⟩ = some (.string p) → ∀ w2, Below w.heap.size w w2 → Calls Try.prog 13 #[.func (.func 14) #[] #[.pointer (some ⟨k, 0, none⟩)]] w2 fun e w' => ∃ v g, e = .returned (.tuple #[v, .bool b]) ∧ MRow w' v g xs ∧ w2.heap.size ≤ g ∧ Below w2.heap.size w2 w') :
    MOut 8 #[.string p] xs b := by
  intro w
  have hmf : ∀ (fn : Fn) (first cap : Array Value) (w : World), (Instr.makeFunc fn first cap).run Try.prog w = .ok (.func fn first cap) w := fun _ _ _ _ => rfl
  have k0 : (w.alloc (.cells #[.string p] 9)).cell? ⟨w.heap.size, 0, none⟩ = some (.string p) := by rw [World.cell?_alloc_new]; rfl
  have H := Lib.hid (HA w.heap.size _ k0 _ ((Below.refl _ _).alloc (Nat.le_refl _) (.cells #[.string ⟨#[]⟩, .slice none 0 0, .slice none 0 0] 26)))
  have R0 := Lib.hid (ha2 w (.cells #[.string p] 9) (.cells #[.string ⟨#[]⟩, .slice none 0 0, .slice none 0 0] 26))
  have b0 : Below w.heap.size w ((w.alloc (.cells #[.string p] 9)).alloc (.cells #[.string ⟨#[]⟩, .slice none 0 0, .slice none 0 0] 26)) := ((Below.refl _ _).alloc (Nat.le_refl _) _).alloc (by simp) _
  clear HA k0
  go_enter Try.func8, Try.ntmps8
  go_wp2_with fail
  obtain ⟨W, hW⟩ : ∃ W, W = (w.alloc (.cells #[.string p] 9)).alloc (.cells #[.string ⟨#[]⟩, .slice none 0 0, .slice none 0 0] 26) := ⟨_, rfl⟩
  have hsz : W.heap.size = w.heap.size + 2 := by rw [hW]; simp
  rw [← hW] at b0 H R0 ⊢
  clear hW
  with_reducible refine (H.out).mono ?_
  rintro e w1 ⟨v, g, rfl, ⟨r, q, h, rfl, s1, s2⟩, hg, b1⟩
  obtain ⟨a1, n1, rfl, -⟩ := id s1.ex
  obtain ⟨a2, n2, rfl, -⟩ := id s2.ex
  have R := (b1.block (w.heap.size + 1) (by omega)).trans R0.out
  have bF := below_trans b0 b1 (by omega)
  obtain ⟨z0, z1, z2, z3, z4, z5⟩ := st3 (x := .string ⟨#[]⟩) (y := .slice a1 xs.length n1) (z := .slice a2 0 n2) R
  have K3 := Lib.hid (keep3 (x := .string ⟨#[]⟩) (y := .slice a1 xs.length n1) (z := .slice a2 0 n2) R s1 (by omega))
  have SB := Lib.hid s2
  have hgw : w.heap.size ≤ g := by omega
  clear s1 s2 R
  go_wp2_with fail
  obtain ⟨k1, k2, k3⟩ := K3.out
  exact bodyPost_ret (results_row_tmp _ rfl _ _ (w.heap.size + 1) _ _ _ _ rfl k1 Try.underlying26 rfl (by kernel_rfl)) rfl ⟨_, g, rfl, ⟨_, _, h, rfl, k2, srow_nl SB.out _ _⟩, hgw, bF.trans (k3.mono (Nat.le_succ _))⟩
theorem impl_yes (p : ByteArray) (t : Tm) (hg : good p.data.toList = some t) (hs : (t.grd && t.inp) = true) (hm : p.size ≤ 9223372036854775807) : MOut 8 #[.string p] [p] true := by
  obtain ⟨es, hL, hE, h300, h60⟩ := good_S hg
  have HS := fun w => si_yes p (tyOf t) (pay t) (fun w => pi_yes p _ _ (fun w => parse_some hg w hm) w) (fun w => by have := isSimple_any t (by omega) w; rw [hs] at this; exact this) w
  have HX := fun w => textOf_any t (by omega) w
  rw [← es] at HX
  refine ism p [p] true fun k w hk w2 b2 => ansM_yes 14 _ [p] cf_sm w2 fun w1 b1 h1 => ?_
  refine sc_yes p _ _ p HS HX k w1 ?_
  have hkb : k < w.heap.size := World.block_lt_of_cell? w _ hk
  rw [b1.cell (p := ⟨k, 0, none⟩) (by have := b2.size; show k < _; omega), b2.cell (p := ⟨k, 0, none⟩) hkb]; exact hk
theorem impl_fail (p : ByteArray) (HS : ∀ w, Calls Try.prog 23 #[.string p] w fun e w' => e = failed ∧ Below w.heap.size w w') : MOut 8 #[.string p] [] false := by
  refine ism p [] false fun k w hk w2 b2 => ansM_no 14 _ cf_sm w2 fun w1 b1 h1 => ?_
  refine sc_no p HS k w1 ?_
  have hkb : k < w.heap.size := World.block_lt_of_cell? w _ hk
  rw [b1.cell (p := ⟨k, 0, none⟩) (by have := b2.size; show k < _; omega), b2.cell (p := ⟨k, 0, none⟩) hkb]; exact hk
theorem impl_bad (p : ByteArray) (t : Tm) (hg : good p.data.toList = some t) (hs : (t.grd && t.inp) = false) (hm : p.size ≤ 9223372036854775807) : MOut 8 #[.string p] [] false := by
  obtain ⟨es, hL, hE, h300, h60⟩ := good_S hg
  exact impl_fail p fun w => si_bad p (tyOf t) (pay t) (fun w => pi_yes p _ _ (fun w => parse_some hg w hm) w) (fun w => by have := isSimple_any t (by omega) w; rw [hs] at this; exact this) w
theorem impl_none (p : ByteArray) (hg : good p.data.toList = none) (hm : p.size ≤ 9223372036854775807) : MOut 8 #[.string p] [] false :=
  impl_fail p fun w => si_no p (fun w => pi_no p (fun w => parse_none hg w hm) w) w

theorem mt_none (p : ByteArray) (hg : good p.data.toList = none) (hm : p.size ≤ 9223372036854775807) (w : World) : Calls Try.prog 12 #[.string p] w fun e w' => e = .returned (.bool false) ∧ Below w.heap.size w w' := by
  have H := Lib.hid (tmGood_none hg w hm)
  clear hg
  go_enter Try.func12, Try.ntmps12
  go_wp2_with fail
  with_reducible refine (H.out).mono ?_
  rintro e w1 ⟨rfl, bl⟩
  go_wp2_with fail
  go_ret
  exact ⟨rfl, bl⟩
theorem mt_some (p : ByteArray) (t : Tm) (hg : good p.data.toList = some t) (hm : p.size ≤ 9223372036854775807) (w : World) : Calls Try.prog 12 #[.string p] w fun e w' => e = .returned (.bool (t.grd && t.inp)) ∧ Below w.heap.size w w' := by
  have H := Lib.hid (tmGood_some hg w hm)
  obtain ⟨es, hL, hE, h300, h60⟩ := good_S hg
  have HS := tmSimple_any t hE (by omega)
  rw [← es] at HS
  obtain ⟨N, hN⟩ : ∃ N, N = (t.grd && t.inp) := ⟨_, rfl⟩
  rw [← hN] at HS ⊢
  have H2 := Lib.hid HS
  clear hg es hL hE h300 h60 HS hN
  go_enter Try.func12, Try.ntmps12
  go_wp2_with fail
  with_reducible refine (H.out).mono ?_
  rintro e w1 ⟨rfl, bl⟩
  go_wp2_with fail
  with_reducible refine (H2.out _).mono ?_
  rintro e w2 ⟨rfl, b2⟩
  go_wp2_with fail
  go_ret
  exact ⟨rfl, below_trans bl b2 bl.size⟩
set_option maxHeartbeats 2000000 in
theorem spec_no (p : ByteArray) (HT : ∀ w, Calls Try.prog 12 #[.string p] w fun e w' => e = .returned (.bool false) ∧ Below w.heap.size w w') : MOut 7 #[.string p] [] false := by
  intro w
  have H := Lib.hid HT
  clear HT
  have y0 := Lib.hid (heap_alloc_new w (.cells #[.string ⟨#[]⟩, .slice none 0 0, .slice none 0 0] 26))
  have b0 : Below w.heap.size w (w.alloc (.cells #[.string ⟨#[]⟩, .slice none 0 0, .slice none 0 0] 26)) := (Below.refl _ _).alloc (Nat.le_refl _) _
  go_enter Try.func7, Try.ntmps7
  go_wp2_with fail
  with_reducible refine (H.out _).mono ?_
  rintro e w1 ⟨rfl, b1⟩
  have R := (b1.block w.heap.size (by simp)).trans y0.out
  obtain ⟨z0, z1, z2, z3, z4, z5⟩ := st3 (x := .string ⟨#[]⟩) (y := .slice none 0 0) (z := .slice none 0 0) R
  have K3 := Lib.hid (keep3 (x := .string ⟨#[]⟩) (y := .slice none 0 0) (z := .slice none 0 0) R (srow_nil w1 (w.heap.size + 1)) (by omega))
  have bF := below_trans b0 b1 b0.size
  clear R b1 b0
  go_wp2_with fail
  obtain ⟨k1, k2, k3⟩ := K3.out
  exact bodyPost_ret (results_row_tmp _ rfl _ _ w.heap.size _ _ _ _ rfl k1 Try.underlying26 rfl (by kernel_rfl)) rfl ⟨_, w.heap.size + 1, rfl, ⟨_, _, w.heap.size, rfl, k2, srow_nil _ _⟩, by omega, bF.trans k3⟩
set_option maxHeartbeats 2000000 in
theorem spec_yes (p : ByteArray) (HT : ∀ w, Calls Try.prog 12 #[.string p] w fun e w' => e = .returned (.bool true) ∧ Below w.heap.size w w') : MOut 7 #[.string p] [p] true := by
  intro w
  have H := Lib.hid HT
  clear HT
  have y0 := Lib.hid (heap_alloc_new w (.cells #[.string ⟨#[]⟩, .slice none 0 0, .slice none 0 0] 26))
  have b0 : Below w.heap.size w (w.alloc (.cells #[.string ⟨#[]⟩, .slice none 0 0, .slice none 0 0] 26)) := (Below.refl _ _).alloc (Nat.le_refl _) _
  go_enter Try.func7, Try.ntmps7
  go_wp2_with fail
  with_reducible refine (H.out _).mono ?_
  rintro e w1 ⟨rfl, b1⟩
  have hs1 := b1.size
  have R := (b1.block w.heap.size (by simp)).trans y0.out
  have hR := lt_of_block R
  have R2 := (Below.heap_alloc w1 (.cells #[.string p] 9) _ hR).trans R
  have S2 : SRow (w1.alloc (.cells #[.string p] 9)) (.slice (some ⟨w1.heap.size, 0, none⟩) 1 1) w1.heap.size [p] := ⟨⟨_, _, rfl, fun _ => ⟨rfl, _, heap_alloc_new _ _, fun j hj => by match j, hj with | 0, _ => rfl⟩⟩⟩
  obtain ⟨z0, z1, z2, z3, z4, z5⟩ := st3 (x := .string ⟨#[]⟩) (y := .slice (some ⟨w1.heap.size, 0, none⟩) 1 1) (z := .slice none 0 0) R2
  have K3 := Lib.hid (keep3 (x := .string ⟨#[]⟩) (y := .slice (some ⟨w1.heap.size, 0, none⟩) 1 1) (z := .slice none 0 0) R2 S2 hR)
  have bF := (below_trans b0 b1 b0.size).alloc (by omega) (.cells #[.string p] 9)
  have hR1 : w.heap.size < (w1.setCell ⟨w.heap.size, 0, none⟩ (.string ⟨#[]⟩)).heap.size := by simpa using hR
  have hR2 : w.heap.size < ((w1.setCell ⟨w.heap.size, 0, none⟩ (.string ⟨#[]⟩)).setCell ⟨w.heap.size, 1, none⟩ (.slice (some ⟨w1.heap.size, 0, none⟩) 1 1)).heap.size := by simpa using hR
  have y4 : ((w1.alloc (.cells #[.string p] 9)).setCell ⟨w.heap.size, 0, none⟩ (.string ⟨#[]⟩)).frozen? ⟨w.heap.size, 1, none⟩ = false := by rw [World.frozen?_setCell]; exact z4
  have y5 : (((w1.alloc (.cells #[.string p] 9)).setCell ⟨w.heap.size, 0, none⟩ (.string ⟨#[]⟩)).setCell ⟨w.heap.size, 1, none⟩ (.slice (some ⟨w1.heap.size, 0, none⟩) 1 1)).frozen? ⟨w.heap.size, 2, none⟩ = false := by rw [World.frozen?_setCell, World.frozen?_setCell]; exact z5
  rw [World.setCell_alloc_past _ _ _ _ hR] at z1 z2 K3 y4 y5
  rw [World.setCell_alloc_past _ _ _ _ hR1] at z2 K3 y5
  rw [World.setCell_alloc_past _ _ _ _ hR2] at K3
  clear R R2 b1 b0 S2 hR1 hR2
  go_wp2_with fail
  obtain ⟨k1, k2, k3⟩ := K3.out
  exact bodyPost_ret (results_row_tmp _ rfl _ _ w.heap.size _ _ _ _ rfl k1 Try.underlying26 rfl (by kernel_rfl)) rfl ⟨_, w1.heap.size, rfl, ⟨_, _, w.heap.size, rfl, k2, srow_nil _ _⟩, by omega, bF.trans k3⟩
end Go.Proofs.Ytpabmidjfpabdaa.T1
