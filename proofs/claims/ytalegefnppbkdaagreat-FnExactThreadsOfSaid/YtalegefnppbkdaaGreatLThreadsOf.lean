/- For every input the law FnExactThreadsOf returns true, and each text reads behind the call as it read before. No conditions. -/
import Derived.Test.YtalegefnppbkdaaGreatRows
import Derived.Test.YtalegefnppbkdaaGreatJay
import Derived.Test.YtalegefnppbkdaaGreatJbv
import Derived.WalkKit
import Derived.ProofKit
import Derived.OpenShut
import Derived.ShutString
import Derived.ChangeOld
import Derived.Below
namespace Go.Proofs.YtalegefnppbkdaaGreat
namespace LawThreadsOf
open Go.ChangeShapes Go.WideShapes Go.ChangeAt Go.RowKit Go.Proofs.YtalegefnppbkdaaGreat.T1
open Go.ChangeMaps (open_string shut_string)
set_option linter.unusedVariables false

theorem own : ownKnob Tryz.prog.godebug = none := by kernel_rfl
theorem laidOut : laidOutB Tryz.prog = true := by kernel_rfl


theorem bw_go {u v w : World} (h : Below u.heap.size u v) (k : Below v.heap.size v w) : Below u.heap.size u w := below_trans h k h.size
/-- What a call answers: a slice of texts in memory of its own, and a bool. -/
def SOut (F : FuncId) (args : Array Value) (xs : List ByteArray) (b : Bool) : Prop := ∀ w, Calls Tryz.prog F args w fun e w' => ∃ v g, e = .returned (.tuple #[v, .bool b]) ∧ SRow w' v g xs ∧ w.heap.size ≤ g ∧ Below w.heap.size w w'
theorem srow_nil (w : World) (g : Nat) : SRow w (.slice none 0 0) g [] := ⟨⟨_, _, rfl, fun h => absurd rfl h⟩⟩
theorem srow_own {w : World} {base : Nat} {v : Value} {xs : List ByteArray} (h : w.ownsRow base 9 1 v xs.length (xs.map .string)) : ∃ g, base ≤ g ∧ SRow w v g xs := by
  rcases h.2 with ⟨rfl, h4⟩ | ⟨g, cap, cur, rfl, h4, h5, h6, h7, h8, h9⟩
  · obtain rfl : xs = [] := List.length_eq_zero_iff.1 h4
    exact ⟨base, Nat.le_refl _, srow_nil w base⟩
  · refine ⟨g, h4, ⟨⟨_, _, rfl, fun _ => ⟨rfl, cur, h5, fun j hj => ?_⟩⟩⟩⟩
    have h10 := h.cellAt j (by omega)
    simp [World.cell?, h5] at h10
    rw [h10]; simp [hj]

theorem bne_self' (b : Bool) : (b != b) = false := by cases b <;> rfl
set_option maxHeartbeats 4000000 in
theorem core (a0 : ByteArray) (xs : List ByteArray) (b : Bool) (hx : xs.length ≤ 1000) (hl0 : ¬ 1048576 < a0.size) (w0 : a0.size ≤ 9223372036854775807) (hS : SOut 25 #[.string a0] xs b) (hI : SOut 26 #[.string a0] xs b) (w : World) :
    Calls Tryz.prog 7 #[.string a0] w fun e w' => e = .returned (.bool true) ∧ Below w.heap.size w w' := by
  have HS := Lib.hid hS
  have HI := Lib.hid hI
  have hbb := bne_self' b
  obtain ⟨N, hN⟩ : ∃ N, N = 1 + xs.length := ⟨_, rfl⟩
  have hN0 : (((N : Nat) : Int) < 0) = False := by simp
  have hNd : decide (((N : Nat) : Int) < 0) = false := by simp
  have HX := Lib.hid hx
  have HN := Lib.hid hN
  clear hS hI hN hx
  go_enter Tryz.func7, Tryz.ntmps7
  go_wp2_with fail
  refine (HS.out _).mono ?_
  rintro e w1 ⟨v0, g0, rfl, r0, gl0, b1⟩
  have R0 := Lib.hid r0
  clear r0
  go_wp2_with fail
  refine (HI.out _).mono ?_
  rintro e w2 ⟨v1, g1, rfl, r1, gl1, b2⟩
  have R1 := Lib.hid r1
  have R0b := Lib.hid (R0.out.below b2)
  have bl := bw_go b1 b2
  clear r1
  go_wp2_with fail
  refine (eq_any _ v1 v0 g1 g0 xs (by have := HX.out; omega) R1.out R0b.out).mono ?_
  rintro e w3 ⟨rfl, b3⟩
  have R0c := Lib.hid (R0b.out.below b3)
  have R1c := Lib.hid (R1.out.below b3)
  have bl3 := bw_go bl b3
  go_wp2_with fail
  refine (mark_any _ v1 g1 xs (by have := HX.out; omega) 1 (by omega) (by omega) R1c.out).mono ?_
  rintro e w4 ⟨rfl, r4, o4⟩
  have R4 := Lib.hid r4
  have R0d : Hid (SRow w4 v0 g0 xs) := R0c.out.only o4 (fun hne => by
    have := R0.out.lt hne
    omega)
  have bl4 : Below w.heap.size w w4 := Below.only bl3 o4 (by have := b1.size; omega) bl3.size
  rw [← HN.out]
  clear r4 o4
  go_wp2_with fail
  refine (held_any _ v1 g1 xs.length (by have := HX.out; omega) 1 (by omega) (by omega) R4.out).mono ?_
  rintro e w5 ⟨rfl, b5⟩
  have R4b := Lib.hid (R4.out.below b5)
  have R0e := Lib.hid (R0d.out.below b5)
  have bl5 := bw_go bl4 b5
  rw [← HN.out]
  go_wp2_with fail
  refine (HI.out _).mono ?_
  rintro e w6 ⟨v2, g2, rfl, r6, gl2, b6⟩
  have R6 := Lib.hid r6
  have R0f := Lib.hid (R0e.out.below b6)
  have R4c := Lib.hid (R4b.out.below b6)
  have bl6 := bw_go bl5 b6
  clear r6
  go_wp2_with fail
  refine (eq_any _ v2 v0 g2 g0 xs (by have := HX.out; omega) R6.out R0f.out).mono ?_
  rintro e w7 ⟨rfl, b7⟩
  have R4d := Lib.hid (R4c.out.below b7)
  have bl7 := bw_go bl6 b7
  go_wp2_with fail
  refine (held_any _ v1 g1 xs.length (by have := HX.out; omega) 1 (by omega) (by omega) R4d.out).mono ?_
  rintro e w8 ⟨rfl, b8⟩
  have bl8 := bw_go bl7 b8
  rw [← HN.out]
  go_wp2_with fail
  go_ret
  exact ⟨rfl, bl8⟩


theorem sout (F : FuncId) (args : Array Value) (us : List Tm) (b : Bool) (h : ∀ w, Calls Tryz.prog F args w fun e w' => ∃ v', e = .returned (.tuple #[v', .bool b]) ∧ w'.ownsRow w.heap.size 9 1 v' us.length (us.map sv) ∧ Below w.heap.size w w') : SOut F args (us.map S) b := fun w => by
  refine (h w).mono ?_
  rintro e w' ⟨v', rfl, o, bl⟩
  obtain ⟨g, hg, hs⟩ := srow_own (base := w.heap.size) (w := w') (v := v') (xs := us.map S) (by rw [List.length_map, List.map_map]; exact o)
  exact ⟨v', g, rfl, hs, hg, bl⟩
set_option maxHeartbeats 1000000 in
theorem walk (a0 : ByteArray) (w0 : a0.size ≤ maxLen) (w : World) : Calls Tryz.prog 7 #[.string a0] w fun e w' => e = .returned (.bool true) ∧ Below w.heap.size w w' := by
  unfold maxLen at w0
  by_cases hl : 1048576 < a0.size
  · go_enter Tryz.func7, Tryz.ntmps7
    go_wp2_with fail
    go_ret
    exact ⟨rfl, Below.refl _ _⟩
  · obtain ⟨us, b, hu, h1, h2⟩ := bothTh a0 w0
    exact core a0 (us.map S) b (by rw [List.length_map]; omega) hl w0 (sout _ _ us b h1) (sout _ _ us b h2) w


set_option maxRecDepth 100000 in
theorem lifted (os : Os) (started : os.Started) (H : Type) (enc : TypeId × Value → H) :
    ReturnsInHanded {} Tryz.checked os 7 .any (Rows.fnExactThreadsOfSpec.pre6 enc Tryz.prog Tryz.f7 Rows.fnExactThreadsOfRow.domain false) (Rows.fnExactThreadsOfSpec.post enc Tryz.prog Tryz.f7 false true false false) := by
  refine returnsInHanded_of_change (C := Tryz.checked) own started (by kernel_rfl) Tryz.func7
    (ChangeSpec.witness6 (enc := enc) (C := Tryz.checked) false ⟨#[], #[.string ByteArray.empty], []⟩ 8 (by kernel_rfl) (by kernel_rfl) (by kernel_rfl) (by kernel_rfl)) ?_
  intro W base args ds gs before hval0 hW hcnd _
  have hval : ∀ (j : Nat) t v, Tryz.f7.params[j]? = some t → args[j]? = some v → Value.okWide Tryz.prog W .any base t v := hval0
  have hW' := hW
  obtain ⟨p, q, hA0, hV, rfl, hfz, hnd⟩ := hW
  have hA : DataW.TrodAll enc Tryz.prog W 0 (fun _ => true) true Tryz.f7.params.toList args.toList ds p := hA0
  rw [Tryz.params7] at hA hval
  obtain ⟨v0, vs0, d0, ds0, p0, q0, hargs, rfl, rfl, h0, r0⟩ := trodAll_cons hA
  obtain ⟨rfl, rfl, rfl⟩ := trodAll_nil r0
  obtain rfl : args = #[v0] := by cases args; simp_all
  obtain ⟨rfl, rfl⟩ := trodVars_none hV
  obtain ⟨a0, rfl, rfl, rfl, w0⟩ := open_string Tryz.underlying9 (hval 0 9 v0 rfl rfl) h0
  clear hA0 hval0
  simp only [List.append_nil] at hW'
  refine (walk a0 w0 W).mono fun e W' ⟨he, bel⟩ => ?_
  subst he
  exact ⟨_, rfl, _, _, _, [], [], [], hW', trodAll_mk1 (shut_bool Tryz.underlying4 _), (trodAll_cons_mk (shut_string Tryz.underlying9 w0) trodAll_mk0), rfl, bel.frame _, fun h => by cases h⟩

theorem c1 : (Rows.fnExactThreadsOfRow.wf (OpenSpec.ofChange Rows.fnExactThreadsOfSpec) && laidOutB Tryz.prog && mapsRowed Tryz.prog && Tryz.f7.params.all (Tryz.prog.readableRec ·) && namedTie Tryz.prog Rows.fnExactThreadsOfRow.named Rows.fnExactThreadsOfSpec.vars && (Rows.fnExactThreadsOfRow.stops == []) && (Tryz.prog.stops == []) && (Rows.fnExactThreadsOfRow.knobs == []) && (Tryz.prog.stopKnobs == [])) = true := by kernel_rfl
theorem c2 : (Rows.fnExactThreadsOfRow.inPlace == Tryz.prog.inPlace 7) = true := by kernel_rfl
theorem c3 : (Rows.fnExactThreadsOfRow.unfollowed == Tryz.prog.unfollowed 7) = true := by kernel_rfl
theorem c4 : (Rows.fnExactThreadsOfRow.recurses == Tryz.prog.recurses 7) = true := by kernel_rfl
theorem c5 : (Rows.fnExactThreadsOfRow.named == Tryz.prog.varsNamed 7) = true := by kernel_rfl
theorem c6 : (Rows.fnExactThreadsOfRow.maps == (Tryz.f7.params.toList ++ Rows.fnExactThreadsOfSpec.plain.varTypes Tryz.prog).any (Tryz.prog.mapsRec ·)) = true := by kernel_rfl
theorem c7 : (Rows.fnExactThreadsOfRow.ifaces == (Tryz.f7.params.toList ++ Rows.fnExactThreadsOfSpec.plain.varTypes Tryz.prog).any (Tryz.prog.ifacesRec ·)) = true := by kernel_rfl
theorem c8 : (Rows.fnExactThreadsOfRow.mapsOut == Tryz.prog.mapsAmong Tryz.f7.resultTypes.toList) = true := by kernel_rfl
theorem c9 : (Rows.fnExactThreadsOfRow.loops == (Tryz.f7.params.toList ++ Rows.fnExactThreadsOfSpec.plain.varTypes Tryz.prog).any (Tryz.prog.loopsFrom ·)) = true := by kernel_rfl
theorem d1 : (Rows.fnExactThreadsOfRow.wideKeys == (Tryz.f7.params.toList ++ Rows.fnExactThreadsOfSpec.plain.varTypes Tryz.prog ++ Tryz.f7.resultTypes.toList).any (Tryz.prog.wideKeysFrom ·)) = true := by kernel_rfl
theorem d2 : Rows.fnExactThreadsOfSpec.vars.all (Tryz.prog.varReadable ·) = true := by kernel_rfl
theorem d3 : Tryz.f7.resultTypes.all (fun t => Tryz.prog.readableRec t && decide (t < Tryz.prog.types.size)) = true := by kernel_rfl
theorem d4 : (Rows.fnExactThreadsOfRow.ifacesOut == Tryz.f7.resultTypes.toList.any (Tryz.prog.ifacesRec ·)) = true := by kernel_rfl
theorem d5 : (Rows.fnExactThreadsOfRow.loopsOut == Tryz.f7.resultTypes.toList.any (Tryz.prog.loopsFrom ·)) = true := by kernel_rfl
theorem d6 : (Rows.fnExactThreadsOfRow.plainKeys == Tryz.prog.plainKeys) = true := by kernel_rfl
theorem d7 : Rows.fnExactThreadsOfRow.shortTexts.isNone = true := by kernel_rfl
theorem d8 : Tryz.prog.stopsHeard = true := by kernel_rfl
theorem d9 : Tryz.prog.mayEnter = true := by kernel_rfl
theorem e1 : (Rows.fnExactThreadsOfRow.lifted == Tryz.prog.liftsFinal) = true := by kernel_rfl
theorem e2 : (Tryz.prog.make == some Rows.fnExactThreadsOfRow.make) = true := by kernel_rfl
theorem e4 : (Rows.fnExactThreadsOfRow.pinned == Rows.fnExactThreadsOfRow.pinnedBy) = true := by kernel_rfl
theorem e5 : (Rows.fnExactThreadsOfRow.veiled == (Tryz.f7.params.toList ++ Rows.fnExactThreadsOfSpec.plain.varTypes Tryz.prog ++ Tryz.f7.resultTypes.toList).any (Tryz.prog.veiledRec ·)) = true := by kernel_rfl
theorem e6 : Rows.fnExactThreadsOfRow.veiledFits Tryz.prog Tryz.f7.params.toList (Tryz.f7.params.toList ++ Rows.fnExactThreadsOfSpec.plain.varTypes Tryz.prog ++ Tryz.f7.resultTypes.toList) = true := by kernel_rfl
theorem closed : joinedFacts Tryz.prog 7 Tryz.f7 Rows.fnExactThreadsOfSpec Rows.fnExactThreadsOfRow = true := by
  unfold joinedFacts
  rw [c1, c2, c3, c4, c5, c6, c7, c8, c9, d1, d2, d3, d4, d5, d6, d7, d8, d9, e1, e2, e4, e5, e6]
  rfl
theorem named : Tryz.prog.funcNamed Rows.fnExactThreadsOfRow.func = some 7 := by kernel_rfl
theorem inst : Tryz.f7.isInstance Tryz.prog Rows.fnExactThreadsOfRow.origin Rows.fnExactThreadsOfRow.targs := of_decide_eq_true (by kernel_rfl)
theorem wrap : Tryz.f7.isWrapper Tryz.prog Rows.fnExactThreadsOfRow.wrapper Rows.fnExactThreadsOfRow.mainSum := by unfold Func.isWrapper; first | (rw [if_pos (by decide +kernel)]; kernel_rfl) | (rw [if_neg (by decide +kernel)]; exact ⟨rfl, rfl⟩)
theorem over : Rows.fnExactThreadsOfRow.holds Tryz.pinned (OpenSpec.ofChange Rows.fnExactThreadsOfSpec) :=
  OpenClaim.holds_of_wide 7 Tryz.f7 rfl rfl rfl rfl rfl rfl rfl ⟨rfl, rfl, rfl, rfl, rfl⟩ rfl rfl rfl rfl rfl named Tryz.func7 closed inst wrap
    (fun os started H enc _ => lifted os started H enc)
end LawThreadsOf

theorem fnExactThreadsOf_holds : Rows.FnExactThreadsOfSaid := LawThreadsOf.over
#print axioms fnExactThreadsOf_holds
end Go.Proofs.YtalegefnppbkdaaGreat
