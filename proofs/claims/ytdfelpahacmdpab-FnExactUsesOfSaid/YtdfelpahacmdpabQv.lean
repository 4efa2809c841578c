/- Uses of a free name in the program: counted. -/
import Derived.Test.YtdfelpahacmdpabQu
import Derived.RegionTactic
import Derived.BigRegion
import Derived.Deep.RegionHeld3
namespace Go.Proofs.Ytdfelpahacmdpab.T1
open Go.RowKit
set_option maxRecDepth 100000
set_option linter.unusedVariables false
set_option linter.unusedSimpArgs false

/-- The name, what was counted so far, and the closure that counts. -/
structure UsAt (w : World) (b0 b2 b3 : Nat) (a : UInt8) (x0 x1 x2 : Int) (q3 q4 : Bool) : Prop where
  n : ∃ T, w.heap[b0]? = some (.cells #[.int .u8 (a.toNat : Int)] T (0, 0))
  u : ∃ T, w.heap[b2]? = some (.cells #[.int .i64 x0, .int .i64 x1, .int .i64 x2, .bool q3, .bool q4] T (0, 0))
  c : ∃ T, w.heap[b3]? = some (.cells #[.func (.func 50) #[] #[.pointer (some ⟨b0, 0, none⟩)]] T (0, 0))
  h0 : b0 ≠ b2
  h3 : b3 ≠ b2
section
variable {w w' : World} {b0 b2 b3 : Nat} {a : UInt8} {x0 x1 x2 : Int} {q3 q4 : Bool}
theorem UsAt.below (h : UsAt w b0 b2 b3 a x0 x1 x2 q3 q4) (k : Below w.heap.size w w') : UsAt w' b0 b2 b3 a x0 x1 x2 q3 q4 := by
  obtain ⟨T1, h1⟩ := h.n
  obtain ⟨T2, h2⟩ := h.u
  obtain ⟨T3, h3⟩ := h.c
  exact ⟨⟨T1, (k.block _ (lt_of_block h1)).trans h1⟩, ⟨T2, (k.block _ (lt_of_block h2)).trans h2⟩, ⟨T3, (k.block _ (lt_of_block h3)).trans h3⟩, h.h0, h.h3⟩
theorem UsAt.cn (h : UsAt w b0 b2 b3 a x0 x1 x2 q3 q4) : w.cell? ⟨b0, 0, none⟩ = some (.int .u8 (a.toNat : Int)) := by obtain ⟨T, h⟩ := h.n; exact cellOf1 h
theorem UsAt.cc (h : UsAt w b0 b2 b3 a x0 x1 x2 q3 q4) : w.cell? ⟨b3, 0, none⟩ = some (.func (.func 50) #[] #[.pointer (some ⟨b0, 0, none⟩)]) := by obtain ⟨T, h⟩ := h.c; exact cellOf1 h
theorem UsAt.f (h : UsAt w b0 b2 b3 a x0 x1 x2 q3 q4) (j : Nat) : w.frozen? ⟨b2, j, none⟩ = false := by obtain ⟨T, h⟩ := h.u; exact cellsFree h j
theorem UsAt.lt (h : UsAt w b0 b2 b3 a x0 x1 x2 q3 q4) : b2 < w.heap.size := by obtain ⟨T, h⟩ := h.u; exact lt_of_block h
theorem UsAt.set (h : UsAt w b0 b2 b3 a x0 x1 x2 q3 q4) {j : Nat} {v : Value} {y0 y1 y2 : Int} {r3 r4 : Bool} (e : (#[.int .i64 x0, .int .i64 x1, .int .i64 x2, .bool q3, .bool q4] : Array Value).setIfInBounds j v = #[.int .i64 y0, .int .i64 y1, .int .i64 y2, .bool r3, .bool r4]) : UsAt (w.setCell ⟨b2, j, none⟩ v) b0 b2 b3 a y0 y1 y2 r3 r4 := by
  obtain ⟨T1, h1⟩ := h.n
  obtain ⟨T2, h2⟩ := h.u
  obtain ⟨T3, h3⟩ := h.c
  exact ⟨⟨T1, (Below.heap_setCell _ _ _ _ h.h0).trans h1⟩, ⟨T2, by rw [set_cells h2, e]⟩, ⟨T3, (Below.heap_setCell _ _ _ _ h.h3).trans h3⟩, h.h0, h.h3⟩
theorem UsAt.c0 (h : UsAt w b0 b2 b3 a x0 x1 x2 q3 q4) : w.cell? ⟨b2, 0, none⟩ = some (.int .i64 x0) := by obtain ⟨T, h⟩ := h.u; exact cellsAt h 0 _ rfl
theorem UsAt.c1 (h : UsAt w b0 b2 b3 a x0 x1 x2 q3 q4) : w.cell? ⟨b2, 1, none⟩ = some (.int .i64 x1) := by obtain ⟨T, h⟩ := h.u; exact cellsAt h 1 _ rfl
theorem UsAt.c2 (h : UsAt w b0 b2 b3 a x0 x1 x2 q3 q4) : w.cell? ⟨b2, 2, none⟩ = some (.int .i64 x2) := by obtain ⟨T, h⟩ := h.u; exact cellsAt h 2 _ rfl
theorem UsAt.c3 (h : UsAt w b0 b2 b3 a x0 x1 x2 q3 q4) : w.cell? ⟨b2, 3, none⟩ = some (.bool q3) := by obtain ⟨T, h⟩ := h.u; exact cellsAt h 3 _ rfl
theorem UsAt.c4 (h : UsAt w b0 b2 b3 a x0 x1 x2 q3 q4) : w.cell? ⟨b2, 4, none⟩ = some (.bool q4) := by obtain ⟨T, h⟩ := h.u; exact cellsAt h 4 _ rfl
end
theorem cf_u1 (args : Array Value) (w : World) : (callFunc 50 args).run Try.prog w = .ok (.enter 50 args) w := by kernel_rfl
theorem cf_u2 (args : Array Value) (w : World) : (callFunc 52 args).run Try.prog w = .ok (.enter 52 args) w := by kernel_rfl
set_option maxHeartbeats 1000000 in
theorem cnt_no {w : World} {b0 b2 b3 : Nat} {a : UInt8} {x0 x1 x2 : Int} {q3 q4 : Bool} (h : UsAt w b0 b2 b3 a x0 x1 x2 q3 q4) (k : Nat) (u : UInt8) (hu : (u == a) = false) : Calls Try.prog 50 #[.pointer (some ⟨b2, k, none⟩), .int .u8 (u.toNat : Int), .pointer (some ⟨b0, 0, none⟩)] w fun e w' => e = .returned (.tuple #[]) ∧ w = w' := by
  have cn := h.cn
  have q : ((u.toNat : Int) == (a.toNat : Int)) = false := by rw [u8b]; exact hu
  clear h hu
  go_enter Try.func50, Try.ntmps50
  go_wp2_with fail
  go_end0
  exact ⟨rfl, rfl⟩
set_option maxHeartbeats 1000000 in
theorem cnt_yes {w : World} {b0 b2 b3 : Nat} {a : UInt8} {x0 x1 x2 : Int} {q3 q4 : Bool} (h : UsAt w b0 b2 b3 a x0 x1 x2 q3 q4) (k : Nat) (x : Int) (hx : w.cell? ⟨b2, k, none⟩ = some (.int .i64 x)) (hb : -9223372036854775808 ≤ x ∧ x ≤ 9223372036854775807) (u : UInt8) (hu : (u == a) = true) : Calls Try.prog 50 #[.pointer (some ⟨b2, k, none⟩), .int .u8 (u.toNat : Int), .pointer (some ⟨b0, 0, none⟩)] w fun e w' => e = .returned (.tuple #[]) ∧ w' = w.setCell ⟨b2, k, none⟩ (.int .i64 (wrap64 (x + 1))) := by
  have cn := h.cn
  have fz := h.f k
  have q : ((u.toNat : Int) == (a.toNat : Int)) = true := by rw [u8b]; exact hu
  clear h hu
  go_enter Try.func50, Try.ntmps50
  go_wp2_with fail
  go_end0
  exact ⟨rfl, rfl⟩
theorem cnt0 {w : World} {b0 b2 b3 : Nat} {a : UInt8} {x0 x1 x2 : Int} {q3 q4 : Bool} (h : UsAt w b0 b2 b3 a x0 x1 x2 q3 q4) (hw : x0 = wrap64 x0) (u : UInt8) : Calls Try.prog 50 #[.pointer (some ⟨b2, 0, none⟩), .int .u8 (u.toNat : Int), .pointer (some ⟨b0, 0, none⟩)] w fun e w' => e = .returned (.tuple #[]) ∧ UsAt w' b0 b2 b3 a (wrap64 (x0 + cond (u == a) 1 0)) x1 x2 q3 q4 ∧ Only b2 w w' := by
  cases e : u == a
  · refine (cnt_no h 0 u e).mono ?_
    rintro e w' ⟨he, rfl⟩
    have e2 : wrap64 (x0 + cond false 1 0) = x0 := by simpa using hw.symm
    rw [e2]
    exact ⟨he, h, Only.refl _ _⟩
  · have hb := wrap64_lo x0
    rw [← hw] at hb
    refine (cnt_yes h 0 x0 h.c0 hb u e).mono ?_
    rintro e w' ⟨he, rfl⟩
    exact ⟨he, h.set rfl, (Only.refl _ _).setCell _ _ _⟩
theorem cnt1 {w : World} {b0 b2 b3 : Nat} {a : UInt8} {x0 x1 x2 : Int} {q3 q4 : Bool} (h : UsAt w b0 b2 b3 a x0 x1 x2 q3 q4) (hw : x1 = wrap64 x1) (u : UInt8) : Calls Try.prog 50 #[.pointer (some ⟨b2, 1, none⟩), .int .u8 (u.toNat : Int), .pointer (some ⟨b0, 0, none⟩)] w fun e w' => e = .returned (.tuple #[]) ∧ UsAt w' b0 b2 b3 a x0 (wrap64 (x1 + cond (u == a) 1 0)) x2 q3 q4 ∧ Only b2 w w' := by
  cases e : u == a
  · refine (cnt_no h 1 u e).mono ?_
    rintro e w' ⟨he, rfl⟩
    have e2 : wrap64 (x1 + cond false 1 0) = x1 := by simpa using hw.symm
    rw [e2]
    exact ⟨he, h, Only.refl _ _⟩
  · have hb := wrap64_lo x1
    rw [← hw] at hb
    refine (cnt_yes h 1 x1 h.c1 hb u e).mono ?_
    rintro e w' ⟨he, rfl⟩
    exact ⟨he, h.set rfl, (Only.refl _ _).setCell _ _ _⟩
theorem cnt2 {w : World} {b0 b2 b3 : Nat} {a : UInt8} {x0 x1 x2 : Int} {q3 q4 : Bool} (h : UsAt w b0 b2 b3 a x0 x1 x2 q3 q4) (hw : x2 = wrap64 x2) (u : UInt8) : Calls Try.prog 50 #[.pointer (some ⟨b2, 2, none⟩), .int .u8 (u.toNat : Int), .pointer (some ⟨b0, 0, none⟩)] w fun e w' => e = .returned (.tuple #[]) ∧ UsAt w' b0 b2 b3 a x0 x1 (wrap64 (x2 + cond (u == a) 1 0)) q3 q4 ∧ Only b2 w w' := by
  cases e : u == a
  · refine (cnt_no h 2 u e).mono ?_
    rintro e w' ⟨he, rfl⟩
    have e2 : wrap64 (x2 + cond false 1 0) = x2 := by simpa using hw.symm
    rw [e2]
    exact ⟨he, h, Only.refl _ _⟩
  · have hb := wrap64_lo x2
    rw [← hw] at hb
    refine (cnt_yes h 2 x2 h.c2 hb u e).mono ?_
    rintro e w' ⟨he, rfl⟩
    exact ⟨he, h.set rfl, (Only.refl _ _).setCell _ _ _⟩

set_option maxHeartbeats 1000000 in
theorem u2_other {w : World} {b0 b2 b3 : Nat} {a : UInt8} {x0 x1 x2 : Int} {q3 q4 : Bool} (h : UsAt w b0 b2 b3 a x0 x1 x2 q3 q4) (T : TypeId) (V : Value) (hs : ∀ w, (Instr.typeAssert (.iface T V) 42 67 true).run Try.prog w = .ok (.tuple #[.agg #[.int .u8 0, .int .u8 0, .nilIface], .bool false]) w) (hr : ∀ w, (Instr.typeAssert (.iface T V) 42 84 true).run Try.prog w = .ok (.tuple #[.agg #[.int .u8 0, .int .u8 0, .nilIface], .bool false]) w) (hm : ∀ w, (Instr.typeAssert (.iface T V) 42 86 true).run Try.prog w = .ok (.tuple #[.agg #[.int .u8 0, .int .u8 0, .nilIface], .bool false]) w) (hr2 : ∀ w, (Instr.typeAssert (.iface T V) 42 88 true).run Try.prog w = .ok (.tuple #[.agg #[.nilIface], .bool false]) w) : Calls Try.prog 52 (#[.iface T V] ++ #[.pointer (some ⟨b3, 0, none⟩), .pointer (some ⟨b2, 0, none⟩), .pointer (some ⟨b0, 0, none⟩)]) w fun e w' => e = .returned (.tuple #[]) ∧ UsAt w' b0 b2 b3 a x0 x1 x2 q3 q4 ∧ Only b2 w w' := by
  show Calls Try.prog 52 #[.iface T V, .pointer (some ⟨b3, 0, none⟩), .pointer (some ⟨b2, 0, none⟩), .pointer (some ⟨b0, 0, none⟩)] w _
  have H := Lib.hid h
  clear h
  go_enter Try.func52, Try.ntmps52
  go_wp2_with fail
  go_end0
  exact ⟨rfl, H.out, Only.refl _ _⟩
set_option maxHeartbeats 1000000 in
theorem u2_send {w : World} {b0 b2 b3 : Nat} {a : UInt8} {x0 x1 x2 : Int} {q3 q4 : Bool} (h : UsAt w b0 b2 b3 a x0 x1 x2 q3 q4) (x y : UInt8) (tp : TypeId) (vp : Value) (h0 : x0 = wrap64 x0) (h2 : x2 = wrap64 x2) : Calls Try.prog 52 (#[.iface 67 (.agg #[.int .u8 (x.toNat : Int), .int .u8 (y.toNat : Int), .iface tp vp])] ++ #[.pointer (some ⟨b3, 0, none⟩), .pointer (some ⟨b2, 0, none⟩), .pointer (some ⟨b0, 0, none⟩)]) w fun e w' => e = .returned (.tuple #[]) ∧ UsAt w' b0 b2 b3 a (wrap64 (x0 + cond (x == a) 1 0)) x1 (wrap64 (x2 + cond (y == a) 1 0)) q3 q4 ∧ Only b2 w w' := by
  show Calls Try.prog 52 #[.iface 67 (.agg #[.int .u8 (x.toNat : Int), .int .u8 (y.toNat : Int), .iface tp vp]), .pointer (some ⟨b3, 0, none⟩), .pointer (some ⟨b2, 0, none⟩), .pointer (some ⟨b0, 0, none⟩)] w _
  have bA := fun o => (Below.refl w.heap.size w).alloc (Nat.le_refl _) o
  have HA := Lib.hid (fun o => h.below (bA o))
  have cc := fun o => (HA.out o).cc
  have HC0 := Lib.hid (fun w1 (j : UsAt w1 b0 b2 b3 a x0 x1 x2 q3 q4) => cnt0 j h0 x)
  have HC2 := Lib.hid (fun w1 (j : UsAt w1 b0 b2 b3 a (wrap64 (x0 + cond (x == a) 1 0)) x1 x2 q3 q4) => cnt2 j h2 y)
  have hlt := h.lt
  have HO := Lib.hid (fun o => (Only.refl b2 w).alloc o)
  clear h bA h0 h2
  go_enter Try.func52, Try.ntmps52
  go_wp2_with fail
  refine (HC0.out _ (HA.out _)).mono ?_
  rintro e w1 ⟨rfl, j1, o1⟩
  have J1 := Lib.hid j1
  have O1 := Lib.hid ((HO.out _).trans o1)
  have c1 := j1.cc
  have cy : w1.cell? ⟨w.heap.size, 1, none⟩ = some (.int .u8 (y.toNat : Int)) := by
    have := (o1.block w.heap.size (by simp) (by omega)).trans (new_block0 w _)
    exact cellsAt this 1 _ rfl
  clear cc j1 o1
  go_wp2_with fail
  refine (HC2.out _ J1.out).mono ?_
  rintro e w2 ⟨rfl, j2, o2⟩
  have J2 := Lib.hid j2
  have O2 := Lib.hid (O1.out.trans o2)
  clear c1 cy j2 o2
  go_wp2_with fail
  go_end0
  exact ⟨rfl, J2.out, O2.out⟩
set_option maxHeartbeats 1000000 in
theorem u2_receive {w : World} {b0 b2 b3 : Nat} {a : UInt8} {x0 x1 x2 : Int} {q3 q4 : Bool} (h : UsAt w b0 b2 b3 a x0 x1 x2 q3 q4) (x y : UInt8) (tp : TypeId) (vp : Value) (h1 : x1 = wrap64 x1) : Calls Try.prog 52 (#[.iface 84 (.agg #[.int .u8 (x.toNat : Int), .int .u8 (y.toNat : Int), .iface tp vp])] ++ #[.pointer (some ⟨b3, 0, none⟩), .pointer (some ⟨b2, 0, none⟩), .pointer (some ⟨b0, 0, none⟩)]) w fun e w' => e = .returned (.tuple #[]) ∧ UsAt w' b0 b2 b3 a x0 (wrap64 (x1 + cond (x == a) 1 0)) x2 q3 q4 ∧ Only b2 w w' := by
  show Calls Try.prog 52 #[.iface 84 (.agg #[.int .u8 (x.toNat : Int), .int .u8 (y.toNat : Int), .iface tp vp]), .pointer (some ⟨b3, 0, none⟩), .pointer (some ⟨b2, 0, none⟩), .pointer (some ⟨b0, 0, none⟩)] w _
  have bA := fun o => (Below.refl w.heap.size w).alloc (Nat.le_refl _) o
  have HA := Lib.hid (fun o => h.below (bA o))
  have cc := fun o => (HA.out o).cc
  have HC1 := Lib.hid (fun w1 (j : UsAt w1 b0 b2 b3 a x0 x1 x2 q3 q4) => cnt1 j h1 x)
  have HO := Lib.hid (fun o => (Only.refl b2 w).alloc o)
  clear h bA h1
  go_enter Try.func52, Try.ntmps52
  go_wp2_with fail
  refine (HC1.out _ (HA.out _)).mono ?_
  rintro e w1 ⟨rfl, j1, o1⟩
  have J1 := Lib.hid j1
  have O1 := Lib.hid ((HO.out _).trans o1)
  clear cc j1 o1
  go_wp2_with fail
  go_end0
  exact ⟨rfl, J1.out, O1.out⟩

end Go.Proofs.Ytdfelpahacmdpab.T1
