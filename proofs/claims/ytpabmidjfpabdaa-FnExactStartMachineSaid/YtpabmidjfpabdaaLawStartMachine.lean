/- For every input the law FnExactStartMachine returns true, and each text reads behind the call as it read before. No conditions. -/
import Derived.Test.YtpabmidjfpabdaaRows
import Derived.Test.YtpabmidjfpabdaaSme
import Derived.WalkKit
import Derived.ProofKit
import Derived.OpenShut
import Derived.ShutString
import Derived.ChangeOld
import Derived.Below
namespace Go.Proofs.Ytpabmidjfpabdaa
namespace LawStartMachine
open Go.ChangeShapes Go.WideShapes Go.ChangeAt Go.RowKit Go.Proofs.Ytpabmidjfpabdaa.T1
open Go.Proofs.Ytpabmidjfpabdaa.LawPartsOf (srow_nil)
open Go.ChangeMaps (open_string shut_string)
set_option linter.unusedVariables false

theorem own : ownKnob Try.prog.godebug = none := by kernel_rfl
theorem laidOut : laidOutB Try.prog = true := by kernel_rfl


theorem bne_self' (b : Bool) : (b != b) = false := by cases b <;> rfl
theorem st_in {u v w : World} (h : Below u.heap.size u v) (k : Below v.heap.size v w) : Below u.heap.size u w := below_trans h k h.size
/-- A machine that has just been stored. -/
theorem stored (w : World) (r q : Value) (g h : Nat) (xs : List ByteArray) (s1 : SRow w r g xs) (s2 : SRow w q h []) :
    SRow (w.alloc (.cells #[.string ⟨#[]⟩, r, q] 26)) r g xs ∧ Below w.heap.size w (w.alloc (.cells #[.string ⟨#[]⟩, r, q] 26)) ∧ (w.alloc (.cells #[.string ⟨#[]⟩, r, q] 26)).heap[w.heap.size]? = some (.cells #[.string ⟨#[]⟩, r, q] 26 (0, 0)) :=
  ⟨s1.below ((Below.refl _ _).alloc (Nat.le_refl _) _), (Below.refl _ _).alloc (Nat.le_refl _) _, heap_alloc_new w _⟩
theorem SRow.len {w : World} {v : Value} {g : Nat} {xs ys : List ByteArray} (h : SRow w v g xs) (e : xs.length = ys.length) : ∃ a c, v = .slice a ys.length c := by
  obtain ⟨a, c, h1, _⟩ := h.ex
  exact ⟨a, c, by rw [h1, e]⟩
/-- Two machines in memory, and their texts. -/
structure Two (w : World) (k1 k2 : Nat) (r0 q0 r1 q1 : Value) (g0 g1 : Nat) (xs ys : List ByteArray) : Prop where
  x : w.heap[k1]? = some (.cells #[.string ⟨#[]⟩, r0, q0] 26 (0, 0))
  y : w.heap[k2]? = some (.cells #[.string ⟨#[]⟩, r1, q1] 26 (0, 0))
  s : SRow w r0 g0 xs
  t : SRow w r1 g1 ys
  m : SRow w q0 0 []
  n : SRow w q1 0 []
theorem Two.below {w w' : World} {k1 k2 : Nat} {r0 q0 r1 q1 : Value} {g0 g1 : Nat} {xs ys : List ByteArray} (h : Two w k1 k2 r0 q0 r1 q1 g0 g1 xs ys) (b : Below w.heap.size w w') : Two w' k1 k2 r0 q0 r1 q1 g0 g1 xs ys :=
  ⟨(b.block _ (lt_of_block h.x)).trans h.x, (b.block _ (lt_of_block h.y)).trans h.y, h.s.below b, h.t.below b, srow_nl h.m _ _, srow_nl h.n _ _⟩
theorem Two.cells {w : World} {k1 k2 : Nat} {r0 q0 r1 q1 : Value} {g0 g1 : Nat} {xs ys : List ByteArray} (h : Two w k1 k2 r0 q0 r1 q1 g0 g1 xs ys) :
    w.cell? ⟨k1, 0, none⟩ = some (.string ⟨#[]⟩) ∧ w.cell? ⟨k1, 1, none⟩ = some r0 ∧ w.cell? ⟨k1, 2, none⟩ = some q0 ∧ w.cell? ⟨k2, 0, none⟩ = some (.string ⟨#[]⟩) ∧ w.cell? ⟨k2, 1, none⟩ = some r1 ∧ w.cell? ⟨k2, 2, none⟩ = some q1 :=
  ⟨by rw [cell_of_row _ _ 0 _ _ _ h.x]; rfl, by rw [cell_of_row _ _ 1 _ _ _ h.x]; rfl, by rw [cell_of_row _ _ 2 _ _ _ h.x]; rfl, by rw [cell_of_row _ _ 0 _ _ _ h.y]; rfl, by rw [cell_of_row _ _ 1 _ _ _ h.y]; rfl, by rw [cell_of_row _ _ 2 _ _ _ h.y]; rfl⟩
set_option maxHeartbeats 8000000 in
theorem core (p : ByteArray) (xs : List ByteArray) (b : Bool) (hx : xs.length ≤ 100) (hl : ¬ 1048576 < p.size) (w0 : p.size ≤ 9223372036854775807) (hS : MOut 7 #[.string p] xs b) (hI : MOut 8 #[.string p] xs b) (w : World) :
    Calls Try.prog 4 #[.string p] w fun e w' => e = .returned (.bool true) ∧ Below w.heap.size w w' := by
  have HS := Lib.hid hS
  have HI := Lib.hid hI
  have hbb := bne_self' b
  obtain ⟨N, hN⟩ : ∃ N, N = 1 + xs.length := ⟨_, rfl⟩
  have hN0 : (((N : Nat) : Int) < 0) = False := by simp
  have hNd : decide (((N : Nat) : Int) < 0) = false := by simp
  have HX := Lib.hid hx
  have HN := Lib.hid hN
  clear hS hI hN hx
  go_enter Try.func4, Try.ntmps4
  go_wp2_with fail
  refine (HS.out _).mono ?_
  rintro e w1 ⟨v0, g0, rfl, ⟨r0, q0, h0, rfl, s0, t0⟩, gl0, b1⟩
  obtain ⟨a0, n0, rfl, -⟩ := id s0.ex
  obtain ⟨c0, m0, rfl, -⟩ := id t0.ex
  obtain ⟨S1, B1, R1⟩ := stored w1 (.slice a0 xs.length n0) (.slice c0 0 m0) g0 h0 xs s0 t0
  have HS1 := Lib.hid S1
  have HB1 := Lib.hid (st_in b1 B1)
  have HR1 := Lib.hid R1
  have T0 : Hid (SRow w1 (.slice c0 0 m0) h0 []) := Lib.hid t0
  have hg0 : xs ≠ [] → g0 < w1.heap.size := fun hne => s0.lt hne
  clear S1 B1 R1 t0 s0
  go_wp2_with fail
  obtain ⟨W1, hW1⟩ : ∃ W1, W1 = w1.alloc (.cells #[.string ⟨#[]⟩, .slice a0 xs.length n0, .slice c0 0 m0] 26) := ⟨_, rfl⟩
  obtain ⟨k1, hk1⟩ : ∃ k1, k1 = w1.heap.size := ⟨_, rfl⟩
  have hz1 : W1.heap.size = k1 + 1 := by rw [hW1, hk1]; simp
  have hkw : w.heap.size ≤ k1 := by rw [hk1]; exact b1.size
  rw [← hW1] at HS1 HB1 HR1 ⊢
  rw [← hk1] at HR1 hg0 ⊢
  clear hW1 hk1 b1
  refine (HI.out _).mono ?_
  rintro e w2 ⟨v1, g1, rfl, ⟨r1, q1, h1, rfl, s1, t1⟩, gl1, b2⟩
  have S0b := Lib.hid (HS1.out.below b2)
  have R1b := Lib.hid ((b2.block k1 (by omega)).trans HR1.out)
  have HB2 := Lib.hid (st_in HB1.out b2)
  have hz2 := b2.size
  obtain ⟨a1, n1, rfl, -⟩ := id s1.ex
  obtain ⟨c1, m1, rfl, -⟩ := id t1.ex
  obtain ⟨S1, B1, R1⟩ := stored w2 (.slice a1 xs.length n1) (.slice c1 0 m1) g1 h1 xs s1 t1
  have TW := Lib.hid (Two.mk ((B1.block k1 (by omega)).trans R1b.out) R1 (S0b.out.below B1) S1 (srow_nl T0.out _ _) (srow_nl (q := .slice c1 0 m1) t1 _ _))
  have HB3 := Lib.hid (st_in HB2.out B1)
  have hg1 : xs ≠ [] → g1 < w2.heap.size := fun hne => s1.lt hne
  clear S1 B1 R1 t1 s1 b2
  obtain ⟨z0, z1, z2, z3, z4, z5⟩ := TW.out.cells
  go_wp2_with fail
  obtain ⟨W2, hW2⟩ : ∃ W2, W2 = w2.alloc (.cells #[.string ⟨#[]⟩, .slice a1 xs.length n1, .slice c1 0 m1] 26) := ⟨_, rfl⟩
  obtain ⟨k2, hk2⟩ : ∃ k2, k2 = w2.heap.size := ⟨_, rfl⟩
  have hz3 : W2.heap.size = k2 + 1 := by rw [hW2, hk2]; simp
  rw [← hW2, ← hk2] at TW
  rw [← hW2] at HB3
  rw [← hW2, ← hk2]
  rw [← hk2] at hz2 hg1
  clear hW2 hk2 z0 z1 z2 z3 z4 z5 S0b R1b HB2
  with_reducible refine (eqM _ _ _ _ g1 0 g0 0 xs (by have := HX.out; omega) _ TW.out.t TW.out.n TW.out.s TW.out.m).mono ?_
  rintro e w3 ⟨rfl, b3⟩
  have T3 := Lib.hid (TW.out.below b3)
  have HB4 := Lib.hid (st_in HB3.out b3)
  have hz4 := b3.size
  obtain ⟨z0, z1, z2, z3, z4, z5⟩ := T3.out.cells
  clear b3
  go_wp2_with fail
  obtain ⟨G, hGs, hGn, hGk, hG0, hGw⟩ : ∃ G, SRow w3 (.slice a1 xs.length n1) G xs ∧ G ≠ w3.heap.size ∧ (G ≠ k1 ∧ G ≠ k2) ∧ (xs ≠ [] → G ≠ g0) ∧ w.heap.size ≤ G := by
    cases xs with
    | nil => exact ⟨w3.heap.size + 1, srow_nl T3.out.t _ _, by omega, by omega, fun h => absurd rfl h, by omega⟩
    | cons x xs =>
      have h1 := hg1 (by simp)
      have h2 := hg0 (by simp)
      exact ⟨g1, T3.out.t, by omega, by omega, fun _ => by omega, by omega⟩
  have hGS := Lib.hid hGs
  clear hGs
  with_reducible refine (markM _ _ G 0 xs (by have := HX.out; omega) _ hGn hGS.out T3.out.n).mono ?_
  rintro e w4 ⟨rfl, r4, o4⟩
  have T4 := Lib.hid (Two.mk ((o4.block k1 (by omega) (Ne.symm hGk.1)).trans T3.out.x) ((o4.block k2 (by omega) (Ne.symm hGk.2)).trans T3.out.y) (T3.out.s.only o4 (fun hne => Ne.symm (hG0 hne))) r4 (srow_nl T3.out.m _ _) (srow_nl T3.out.n _ _))
  have HB5 := Lib.hid (Below.only HB4.out o4 hGw HB4.out.size)
  rw [← HN.out]
  clear r4 o4 z0 z1 z2 z3 z4 z5
  obtain ⟨z0, z1, z2, z3, z4, z5⟩ := T4.out.cells
  go_wp2_with fail
  with_reducible refine (heldM _ _ G 0 xs.length (by have := HX.out; omega) _ T4.out.t T4.out.n).mono ?_
  rintro e w5 ⟨rfl, b5⟩
  have T5 := Lib.hid (T4.out.below b5)
  have HB6 := Lib.hid (st_in HB5.out b5)
  rw [← HN.out]
  clear b5 z0 z1 z2 z3 z4 z5
  go_wp2_with fail
  refine (HI.out _).mono ?_
  rintro e w6 ⟨v2, g2, rfl, ⟨r2, q2, h2, rfl, s2, t2⟩, gl2, b6⟩
  have T6 := T5.out.below b6
  have HB7 := st_in HB6.out b6
  obtain ⟨a2, n2, rfl, -⟩ := id s2.ex
  obtain ⟨c2, m2, rfl, -⟩ := id t2.ex
  obtain ⟨S1, B1, R1⟩ := stored w6 (.slice a2 xs.length n2) (.slice c2 0 m2) g2 h2 xs s2 t2
  have T7 := Lib.hid (T6.below B1)
  have HB8 := Lib.hid (st_in HB7 B1)
  have S2 := Lib.hid S1
  have T2 : Hid (SRow w6 (.slice c2 0 m2) h2 []) := Lib.hid t2
  clear S1 B1 R1 t2 s2 b6 T6 HB7
  obtain ⟨z0, z1, z2, z3, z4, z5⟩ := T7.out.cells
  go_wp2_with fail
  with_reducible refine (eqM _ _ _ _ g2 0 g0 0 xs (by have := HX.out; omega) _ S2.out (srow_nl T2.out _ _) T7.out.s T7.out.m).mono ?_
  rintro e w7 ⟨rfl, b7⟩
  have T8 := Lib.hid (T7.out.below b7)
  have HB9 := Lib.hid (st_in HB8.out b7)
  clear b7 z0 z1 z2 z3 z4 z5
  obtain ⟨z0, z1, z2, z3, z4, z5⟩ := T8.out.cells
  go_wp2_with fail
  with_reducible refine (heldM _ _ G 0 xs.length (by have := HX.out; omega) _ T8.out.t T8.out.n).mono ?_
  rintro e w8 ⟨rfl, b8⟩
  have HB10 := Lib.hid (st_in HB9.out b8)
  rw [← HN.out]
  go_wp2_with fail
  go_ret
  exact ⟨rfl, HB10.out⟩

theorem walk (a0 : ByteArray) (w0 : a0.size ≤ maxLen) (w : World) : Calls Try.prog 4 #[.string a0] w fun e w' => e = .returned (.bool true) ∧ Below w.heap.size w w' := by
  unfold maxLen at w0
  by_cases hl : 1048576 < a0.size
  · go_enter Try.func4, Try.ntmps4
    go_wp2_with fail
    go_ret
    exact ⟨rfl, Below.refl _ _⟩
  · cases hg : good a0.data.toList with
    | none => exact core a0 [] false (by simp) hl w0 (spec_no a0 fun w => mt_none a0 hg w0 w) (impl_none a0 hg w0) w
    | some t =>
      cases hs : (t.grd && t.inp) with
      | true => exact core a0 [a0] true (by simp) hl w0 (spec_yes a0 fun w => by have := mt_some a0 t hg w0 w; rw [hs] at this; exact this) (impl_yes a0 t hg hs w0) w
      | false => exact core a0 [] false (by simp) hl w0 (spec_no a0 fun w => by have := mt_some a0 t hg w0 w; rw [hs] at this; exact this) (impl_bad a0 t hg hs w0) w


set_option maxRecDepth 100000 in
theorem lifted (os : Os) (started : os.Started) (H : Type) (enc : TypeId × Value → H) :
    ReturnsInHanded {} Try.checked os 4 .any (Rows.fnExactStartMachineSpec.pre6 enc Try.prog Try.f4 Rows.fnExactStartMachineRow.domain false) (Rows.fnExactStartMachineSpec.post enc Try.prog Try.f4 false true false false) := by
  refine returnsInHanded_of_change (C := Try.checked) own started (by kernel_rfl) Try.func4
    (ChangeSpec.witness6 (enc := enc) (C := Try.checked) false ⟨#[], #[.string ByteArray.empty], []⟩ 8 (by kernel_rfl) (by kernel_rfl) (by kernel_rfl) (by kernel_rfl)) ?_
  intro W base args ds gs before hval0 hW hcnd _
  have hval : ∀ (j : Nat) t v, Try.f4.params[j]? = some t → args[j]? = some v → Value.okWide Try.prog W .any base t v := hval0
  have hW' := hW
  obtain ⟨p, q, hA0, hV, rfl, hfz, hnd⟩ := hW
  have hA : DataW.TrodAll enc Try.prog W 0 (fun _ => true) true Try.f4.params.toList args.toList ds p := hA0
  rw [Try.params4] at hA hval
  obtain ⟨v0, vs0, d0, ds0, p0, q0, hargs, rfl, rfl, h0, r0⟩ := trodAll_cons hA
  obtain ⟨rfl, rfl, rfl⟩ := trodAll_nil r0
  obtain rfl : args = #[v0] := by cases args; simp_all
  obtain ⟨rfl, rfl⟩ := trodVars_none hV
  obtain ⟨a0, rfl, rfl, rfl, w0⟩ := open_string Try.underlying9 (hval 0 9 v0 rfl rfl) h0
  clear hA0 hval0
  simp only [List.append_nil] at hW'
  refine (walk a0 w0 W).mono fun e W' ⟨he, bel⟩ => ?_
  subst he
  exact ⟨_, rfl, _, _, _, [], [], [], hW', trodAll_mk1 (shut_bool Try.underlying4 _), (trodAll_cons_mk (shut_string Try.underlying9 w0) trodAll_mk0), rfl, bel.frame _, fun h => by cases h⟩

theorem over : Rows.fnExactStartMachineRow.holds Try.pinned (OpenSpec.ofChange Rows.fnExactStartMachineSpec) :=
  OpenClaim.holds_of_wide 4 Try.f4 rfl rfl rfl rfl rfl rfl rfl ⟨rfl, rfl, rfl, rfl, rfl⟩ rfl rfl rfl rfl rfl (by kernel_rfl) Try.func4 (by kernel_rfl)
    (of_decide_eq_true (by kernel_rfl)) (by unfold Func.isWrapper; first | (rw [if_pos (by decide +kernel)]; kernel_rfl) | (rw [if_neg (by decide +kernel)]; exact ⟨rfl, rfl⟩))
    (fun os started H enc _ => lifted os started H enc)
end LawStartMachine

theorem fnExactStartMachine_holds : Rows.FnExactStartMachineSaid := LawStartMachine.over
#print axioms fnExactStartMachine_holds
end Go.Proofs.Ytpabmidjfpabdaa
