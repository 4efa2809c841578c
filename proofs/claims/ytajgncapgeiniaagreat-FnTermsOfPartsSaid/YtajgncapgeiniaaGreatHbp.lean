/- Texts of the proof, put together: Gi, Gv. No conditions. -/
import Derived.Test.YtajgncapgeiniaaGreatHbn
import Derived.Test.YtajgncapgeiniaaGreatHbo

/- What is drawn for the laws of terms. No conditions. -/
namespace Go.Proofs.YtajgncapgeiniaaGreat.T1
open Go.RowKit
set_option maxRecDepth 100000
set_option linter.unusedVariables false
set_option linter.unusedSimpArgs false

/-- A slice of bytes that came in. -/
def Arg (w : World) (a : Option Addr) (n : Nat) : Prop := CodeIn w a n w.heap.size
theorem Arg.below {w w' : World} {a : Option Addr} {n : Nat} (h : Arg w a n) (k : Below w.heap.size w w') : Arg w' a n := by
  obtain ⟨h1, h | ⟨x, e, hx, h⟩⟩ := h
  · exact ⟨h1, .inl h⟩
  · refine ⟨h1, .inr ⟨x, e, Nat.lt_of_lt_of_le hx k.size, fun j hj => ?_⟩⟩
    obtain ⟨z, z0, z1, hz⟩ := h j hj
    refine ⟨z, z0, z1, ?_⟩
    rw [← hz]; unfold World.cell?; rw [add_blk, k.block _ hx]
theorem cur_new {w : World} {a : Option Addr} {n cap : Nat} (h : Arg w a n) : Cur (w.alloc (.cells #[.slice a n cap, .int .i64 0, .int .u64 0] 63)) w.heap.size 0 := by
  refine ⟨a, n, cap, 0, 0, ?_, Nat.le_refl _, ?_⟩
  · show (w.heap.push _)[w.heap.size]? = _
    rw [Array.getElem?_push_size]; rfl
  · obtain ⟨h1, h | ⟨x, e, hx, h⟩⟩ := h
    · exact ⟨h1, .inl h⟩
    · refine ⟨h1, .inr ⟨x, e, hx, fun j hj => ?_⟩⟩
      obtain ⟨z, z0, z1, hz⟩ := h j hj
      refine ⟨z, z0, z1, ?_⟩
      rw [← hz]; unfold World.cell?; rw [add_blk, Below.heap_alloc _ _ _ hx]
theorem only_new {w w' : World} {o : Obj} (h : Only w.heap.size (w.alloc o) w') : Below w.heap.size w w' :=
  Below.only ((Below.refl _ _).alloc (Nat.le_refl _) o) h (Nat.le_refl _) (by simp)

theorem dIsProcess_any (a : Option Addr) (n cap : Nat) (w : World) (hA : Arg w a n) : Calls Tryz.prog 49 #[.slice a n cap] w fun e w' => (∃ s, e = .returned (.string s) ∧ Ab 1000 (.string s)) ∧ Below w.heap.size w w' := by
  have HA := Lib.hid hA
  clear hA
  go_enter Tryz.func49, Tryz.ntmps49
  go_wp2_with fail
  refine (drProcess_any w.heap.size 0 12 false (by decide) (by decide) (by decide) _ (cur_new HA.out)).mono ?_
  rintro e w1 ⟨v, rfl, a1, c1, o1⟩
  have A1 := Lib.hid a1
  obtain ⟨s1, rfl, _, _⟩ := a1
  have O1 := Lib.hid (only_new o1)
  clear c1 o1
  go_wp2_with fail
  go_ret
  exact ⟨⟨s1, rfl, A1.out⟩, O1.out⟩

theorem dPartsOf_any (a : Option Addr) (n cap : Nat) (w : World) (hA : Arg w a n) : Calls Tryz.prog 6 #[.slice a n cap] w fun e w' => (∃ s, e = .returned (.string s) ∧ Ab 1000 (.string s)) ∧ Below w.heap.size w w' := by
  have H := Lib.hid (dIsProcess_any a n cap w hA)
  clear hA
  go_enter Tryz.func6, Tryz.ntmps6
  go_wp2_with fail
  refine H.out.mono ?_
  rintro e w1 ⟨⟨s1, rfl, a1⟩, b1⟩
  have A1 := Lib.hid a1
  clear a1
  go_wp2_with fail
  go_ret
  exact ⟨⟨s1, rfl, A1.out⟩, b1⟩

theorem dIsSimple_any (a : Option Addr) (n cap : Nat) (w : World) (hA : Arg w a n) : Calls Tryz.prog 28 #[.slice a n cap] w fun e w' => (∃ s, e = .returned (.string s) ∧ Ab 1000 (.string s)) ∧ Below w.heap.size w w' := by
  have H := Lib.hid (dIsProcess_any a n cap w hA)
  clear hA
  go_enter Tryz.func28, Tryz.ntmps28
  go_wp2_with fail
  refine H.out.mono ?_
  rintro e w1 ⟨⟨s1, rfl, a1⟩, b1⟩
  have A1 := Lib.hid a1
  clear a1
  go_wp2_with fail
  go_ret
  exact ⟨⟨s1, rfl, A1.out⟩, b1⟩

set_option maxHeartbeats 1000000 in
theorem dSubtermAt_any (a : Option Addr) (n cap : Nat) (w : World) (hA : Arg w a n) : Calls Tryz.prog 21 #[.slice a n cap] w fun e w' => (∃ s t : ByteArray, e = .returned (.tuple #[.string s, .string t]) ∧ Ab 1000 (.string s) ∧ t.size ≤ 10) ∧ Below w.heap.size w w' := by
  have HA := Lib.hid hA
  clear hA
  go_enter Tryz.func21, Tryz.ntmps21
  go_wp2_with fail
  refine (drProcess_any w.heap.size 0 12 false (by decide) (by decide) (by decide) _ (cur_new HA.out)).mono ?_
  rintro e w1 ⟨v, rfl, a1, c1, o1⟩
  have A1 := Lib.hid a1
  obtain ⟨s1, rfl, _, _⟩ := a1
  have C1 := Lib.hid c1
  have O1 := Lib.hid (o1)
  clear c1 o1
  go_wp2_with fail
  refine (path_any w.heap.size _ s1 (ab_of A1.out) (by decide) _ C1.out).mono ?_
  rintro e w2 ⟨v, rfl, ⟨s2, rfl, z2⟩, c2, o2⟩
  have Z2 := Lib.hid z2
  have C2 := Lib.hid c2
  have O2 := Lib.hid (O1.out.trans o2)
  clear c2 o2 z2
  go_wp2_with fail
  go_ret2
  exact ⟨⟨s1, s2, rfl, A1.out, Z2.out⟩, only_new O2.out⟩

set_option maxHeartbeats 1000000 in
theorem dReplaceAt_any (a : Option Addr) (n cap : Nat) (w : World) (hA : Arg w a n) : Calls Tryz.prog 24 #[.slice a n cap] w fun e w' => (∃ s t u : ByteArray, e = .returned (.tuple #[.string s, .string t, .string u]) ∧ Ab 1000 (.string s) ∧ t.size ≤ 10 ∧ Ab 1000 (.string u)) ∧ Below w.heap.size w w' := by
  have HA := Lib.hid hA
  clear hA
  go_enter Tryz.func24, Tryz.ntmps24
  go_wp2_with fail
  refine (drProcess_any w.heap.size 0 12 false (by decide) (by decide) (by decide) _ (cur_new HA.out)).mono ?_
  rintro e w1 ⟨v, rfl, a1, c1, o1⟩
  have A1 := Lib.hid a1
  obtain ⟨s1, rfl, _, _⟩ := a1
  have C1 := Lib.hid c1
  have O1 := Lib.hid (o1)
  clear c1 o1
  go_wp2_with fail
  refine (path_any w.heap.size _ s1 (ab_of A1.out) (by decide) _ C1.out).mono ?_
  rintro e w2 ⟨v, rfl, ⟨s2, rfl, z2⟩, c2, o2⟩
  have Z2 := Lib.hid z2
  have C2 := Lib.hid c2
  have O2 := Lib.hid (O1.out.trans o2)
  clear c2 o2 z2
  go_wp2_with fail
  refine (drProcess_any w.heap.size _ 5 false (by decide) (by decide) (by decide) _ C2.out).mono ?_
  rintro e w3 ⟨v, rfl, a3, c3, o3⟩
  have A3 := Lib.hid a3
  obtain ⟨s3, rfl, _, _⟩ := a3
  have C3 := Lib.hid c3
  have O3 := Lib.hid (O2.out.trans o3)
  clear c3 o3
  go_wp2_with fail
  go_ret3
  exact ⟨⟨s1, s2, s3, rfl, A1.out, Z2.out, A3.out⟩, only_new O3.out⟩

theorem of12_any (c k : Nat) (hk : k ≤ 900000) (w : World) (hC : Cur w c k) (W : World) (hW : W = w.alloc (.cells #[.string ⟨#[48]⟩, .string ⟨#[33]⟩, .string ⟨#[63]⟩, .string ⟨#[126]⟩, .string ⟨#[43]⟩, .string ⟨#[38]⟩, .string ⟨#[35]⟩, .string ⟨#[61]⟩, .string ⟨#[42]⟩, .string ⟨#[120]⟩, .string ⟨#[]⟩, .string ⟨#[33, 33]⟩] 9)) : Calls Tryz.prog 70 #[.pointer (some ⟨c, 0, none⟩), .slice (some ⟨w.heap.size, 0, none⟩) 12 12] W (Dr (Tx 2) c (k + 2) W) := by
  subst hW
  refine of_any (Tx 2) c k w.heap.size 12 (by decide) hk (by decide) _ (Nat.ne_of_gt hC.lt) ?_ (hC.below ((Below.refl _ _).alloc (Nat.le_refl _) _))
  intro j hj
  rcases (show j = 0 ∨ j = 1 ∨ j = 2 ∨ j = 3 ∨ j = 4 ∨ j = 5 ∨ j = 6 ∨ j = 7 ∨ j = 8 ∨ j = 9 ∨ j = 10 ∨ j = 11 from by omega) with rfl | rfl | rfl | rfl | rfl | rfl | rfl | rfl | rfl | rfl | rfl | rfl
  · exact ⟨_, ⟨_, rfl, by decide⟩, alloc_cell rfl⟩
  · exact ⟨_, ⟨_, rfl, by decide⟩, alloc_cell rfl⟩
  · exact ⟨_, ⟨_, rfl, by decide⟩, alloc_cell rfl⟩
  · exact ⟨_, ⟨_, rfl, by decide⟩, alloc_cell rfl⟩
  · exact ⟨_, ⟨_, rfl, by decide⟩, alloc_cell rfl⟩
  · exact ⟨_, ⟨_, rfl, by decide⟩, alloc_cell rfl⟩
  · exact ⟨_, ⟨_, rfl, by decide⟩, alloc_cell rfl⟩
  · exact ⟨_, ⟨_, rfl, by decide⟩, alloc_cell rfl⟩
  · exact ⟨_, ⟨_, rfl, by decide⟩, alloc_cell rfl⟩
  · exact ⟨_, ⟨_, rfl, by decide⟩, alloc_cell rfl⟩
  · exact ⟨_, ⟨_, rfl, by decide⟩, alloc_cell rfl⟩
  · exact ⟨_, ⟨_, rfl, by decide⟩, alloc_cell rfl⟩

set_option maxHeartbeats 1000000 in
theorem dCountKind_any (a : Option Addr) (n cap : Nat) (w : World) (hA : Arg w a n) : Calls Tryz.prog 26 #[.slice a n cap] w fun e w' => (∃ s t : ByteArray, e = .returned (.tuple #[.string s, .string t]) ∧ Ab 1000 (.string s) ∧ t.size ≤ 2) ∧ Below w.heap.size w w' := by
  have HA := Lib.hid hA
  clear hA
  go_enter Tryz.func26, Tryz.ntmps26
  go_wp2_with fail
  refine (drProcess_any w.heap.size 0 12 false (by decide) (by decide) (by decide) _ (cur_new HA.out)).mono ?_
  rintro e w1 ⟨v, rfl, a1, c1, o1⟩
  have A1 := Lib.hid a1
  obtain ⟨s1, rfl, _, _⟩ := a1
  have C1 := Lib.hid c1
  have O1 := Lib.hid (o1)
  clear c1 o1
  go_wp2_with fail
  refine (of12_any w.heap.size _ (by decide) w1 C1.out _ rfl).mono ?_
  rintro e w2 ⟨v, rfl, ⟨s2, rfl, z2⟩, c2, o2⟩
  have Z2 := Lib.hid z2
  have O2 := Lib.hid ((O1.out.alloc _).trans o2)
  clear c2 o2 z2
  go_wp2_with fail
  go_ret2
  exact ⟨⟨s1, s2, rfl, A1.out, Z2.out⟩, only_new O2.out⟩

end Go.Proofs.YtajgncapgeiniaaGreat.T1

/- What the functions of terms answer, as values: one for both sides. No conditions. -/
namespace Go.Proofs.YtajgncapgeiniaaGreat.T1
open Go.RowKit
set_option maxRecDepth 100000
set_option linter.unusedVariables false
set_option linter.unusedSimpArgs false

/-- A call that answers a value, in every world, and turns nothing that was there. -/
def Ans (F : FuncId) (args : Array Value) (v : Value) : Prop := ∀ w, Calls Tryz.prog F args w fun e w' => e = .returned v ∧ Below w.heap.size w w'
/-- Both sides answer a value. -/
def Two (F G : FuncId) (args : Array Value) (v : Value) : Prop := Ans F args v ∧ Ans G args v
def szT : Option Tm → Int | some t => (t.size : Nat) | none => 0
def dpT : Option Tm → Int | some t => (t.depth : Nat) | none => 0
def kdT : Option Tm → ByteArray | some t => one t.kind | none => ⟨#[]⟩
def smT : Option Tm → Bool | some t => t.grd && t.inp | none => false
def gdT : Option Tm → Bool | some t => t.grd | none => false
def fnT : Option Tm → Bool | some t => (((t.subs.countP (isK 42) : Nat) : Int) == 0) | none => false
def ptT : Option Tm → List ByteArray | some t => t.parts.map S | none => []
theorem two_size (s : ByteArray) (hm : s.size ≤ 9223372036854775807) : Two 10 9 #[.string s] (.tuple #[.int .i64 (szT (good s.data.toList)), .bool (good s.data.toList).isSome]) := by
  cases hg : good s.data.toList with
  | none => exact ⟨LawSizeOf.spec_none s hg hm, LawSizeOf.impl_none s hg hm⟩
  | some t => exact ⟨LawSizeOf.spec_some s t hg hm, LawSizeOf.impl_some s t hg hm⟩
theorem two_depth (s : ByteArray) (hm : s.size ≤ 9223372036854775807) : Two 12 11 #[.string s] (.tuple #[.int .i64 (dpT (good s.data.toList)), .bool (good s.data.toList).isSome]) := by
  cases hg : good s.data.toList with
  | none => exact ⟨LawDepthOf.spec_none s hg hm, LawDepthOf.impl_none s hg hm⟩
  | some t => exact ⟨LawDepthOf.spec_some s t hg hm, LawDepthOf.impl_some s t hg hm⟩
theorem two_kind (s : ByteArray) (hm : s.size ≤ 9223372036854775807) : Two 14 13 #[.string s] (.tuple #[.string (kdT (good s.data.toList)), .bool (good s.data.toList).isSome]) := by
  cases hg : good s.data.toList with
  | none => exact ⟨LawKindOf.spec_none s hg hm, LawKindOf.impl_none s hg hm⟩
  | some t => exact ⟨LawKindOf.spec_some s t hg hm, LawKindOf.impl_some s t hg hm⟩
theorem two_simple (s : ByteArray) (hm : s.size ≤ 9223372036854775807) : Two 30 29 #[.string s] (.tuple #[.bool (smT (good s.data.toList)), .bool (good s.data.toList).isSome]) := by
  cases hg : good s.data.toList with
  | none => exact ⟨LawIsSimple.spec_none s hg hm, LawIsSimple.impl_none s hg hm⟩
  | some t => exact ⟨LawIsSimple.spec_some s t hg hm, LawIsSimple.impl_some s t hg hm⟩
theorem two_guarded (s : ByteArray) (hm : s.size ≤ 9223372036854775807) : Two 32 31 #[.string s] (.tuple #[.bool (gdT (good s.data.toList)), .bool (good s.data.toList).isSome]) := by
  cases hg : good s.data.toList with
  | none => exact ⟨LawIsGuarded.spec_none s hg hm, LawIsGuarded.impl_none s hg hm⟩
  | some t => exact ⟨LawIsGuarded.spec_some s t hg hm, LawIsGuarded.impl_some s t hg hm⟩
theorem two_finite (s : ByteArray) (hm : s.size ≤ 9223372036854775807) : Two 33 20 #[.string s] (.tuple #[.bool (fnT (good s.data.toList)), .bool (good s.data.toList).isSome]) := by
  cases hg : good s.data.toList with
  | none => exact ⟨LawIsFinite.spec_none s hg hm, LawIsFinite.impl_none s hg hm⟩
  | some t => exact ⟨LawIsFinite.spec_some s t hg hm, LawIsFinite.impl_some s t hg hm⟩
theorem goodB_is (s : ByteArray) : goodB s = (good s.data.toList).isSome := rfl
theorem two_is (s : ByteArray) (hm : s.size ≤ 9223372036854775807) : Two 17 16 #[.string s] (.bool (good s.data.toList).isSome) := by
  rw [← goodB_is]
  exact ⟨fun w => LawIsProcess.spec_any s w hm, fun w => LawIsProcess.impl_any s w hm⟩
theorem two_parts (s : ByteArray) (hm : s.size ≤ 9223372036854775807) : LawPartsOf.SOut 8 #[.string s] (ptT (good s.data.toList)) (good s.data.toList).isSome ∧ LawPartsOf.SOut 7 #[.string s] (ptT (good s.data.toList)) (good s.data.toList).isSome := by
  cases hg : good s.data.toList with
  | none => exact ⟨LawPartsOf.spec_none s hg hm, LawPartsOf.impl_none s hg hm⟩
  | some t => exact ⟨LawPartsOf.spec_some s t hg hm, LawPartsOf.impl_some s t hg hm⟩
/-- The subterm at a path, as both sides tell it. -/
def atT (o : Option Tm) (k : List UInt8) : Option Tm := o.bind fun t => atP t k
def txt : Option Tm → ByteArray | some t => S t | none => ⟨#[]⟩
theorem two_at (s k : ByteArray) (hm : s.size ≤ 9223372036854775807) (hk : k.size ≤ 100000000) : Two 22 18 #[.string s, .string k] (.tuple #[.string (txt (atT (good s.data.toList) k.data.toList)), .bool (atT (good s.data.toList) k.data.toList).isSome]) := by
  cases hg : good s.data.toList with
  | none => exact ⟨LawSubtermAt.spec_none s k hg hm, LawSubtermAt.impl_none s k hg hm⟩
  | some t =>
    have key : ∀ w e w', AtPost (atP t k.data.toList) w e w' → e = .returned (.tuple #[.string (txt (atP t k.data.toList)), .bool (atP t k.data.toList).isSome]) ∧ Below w.heap.size w w' := by
      rintro w e w' ⟨⟨p, h, h2⟩ | ⟨h, h2⟩, b⟩
      · rw [h]; exact ⟨h2, b⟩
      · rw [h]; exact ⟨h2, b⟩
    exact ⟨fun w => (LawSubtermAt.spec_some s k t hg hm hk w).mono (key w), fun w => (LawSubtermAt.impl_some s k t hg hm w).mono (key w)⟩
/-- How often a kind stands in a process. -/
def cnT (o : Option Tm) (k : ByteArray) : Option Nat := o.bind fun t => if isK9 k then some (t.subs.countP (isK (k.data.toList.headD 0))) else none
theorem two_count (s k : ByteArray) (hm : s.size ≤ 9223372036854775807) (hk : k.size ≤ 9223372036854775807) : Two 27 19 #[.string s, .string k] (.tuple #[.int .i64 (((cnT (good s.data.toList) k).getD 0 : Nat) : Int), .bool (cnT (good s.data.toList) k).isSome]) := by
  cases hg : good s.data.toList with
  | none => exact ⟨LawCountKind.spec_none s k hg hm, LawCountKind.impl_none s k hg hm⟩
  | some t =>
    cases h9 : isK9 k with
    | false =>
      have : cnT (some t) k = none := by unfold cnT; simp [h9]
      rw [this]
      exact ⟨LawCountKind.spec_nok s k t hg h9 hm hk, LawCountKind.impl_nok s k t hg h9 hm⟩
    | true =>
      obtain ⟨c, hc, hi⟩ := LawCountKind.isK9_out k h9
      have : cnT (some t) k = some (t.subs.countP (isK c)) := by unfold cnT; simp only [Option.bind_some, h9, if_true]; subst hc; rfl
      rw [this]
      exact ⟨LawCountKind.spec_ok s k t c hg hc hi hm, LawCountKind.impl_ok s k t c hg hc h9 hm⟩
end Go.Proofs.YtajgncapgeiniaaGreat.T1
