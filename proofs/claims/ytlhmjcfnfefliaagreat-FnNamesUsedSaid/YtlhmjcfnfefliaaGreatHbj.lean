/- Texts of the proof, put together: Qv, Qw, Qx. No conditions. -/
import Derived.Test.YtlhmjcfnfefliaaGreatHao
import Derived.Test.YtlhmjcfnfefliaaGreatHav
import Derived.Test.YtlhmjcfnfefliaaGreatHbb
import Derived.RegionTactic
import Derived.BigRegion
import Derived.Deep.RegionHeld3
import Derived.Deep.RegionLaw
import Derived.Laws.Rows

/- Uses of a free name in the program: counted. -/
namespace Go.Proofs.YtlhmjcfnfefliaaGreat.T1
open Go.RowKit
set_option maxRecDepth 100000
set_option linter.unusedVariables false
set_option linter.unusedSimpArgs false

/-- The name, what was counted so far, and the closure that counts. -/
structure UsAt (w : World) (b0 b2 b3 : Nat) (a : UInt8) (x0 x1 x2 : Int) (q3 q4 : Bool) : Prop where
  n : ∃ T, w.heap[b0]? = some (.cells #[.int .u8 (a.toNat : Int)] T (0, 0))
  u : ∃ T, w.heap[b2]? = some (.cells #[.int .i64 x0, .int .i64 x1, .int .i64 x2, .bool q3, .bool q4] T (0, 0))
  c : ∃ T, w.heap[b3]? = some (.cells #[.func (.func 100) #[] #[.pointer (some ⟨b0, 0, none⟩)]] T (0, 0))
  h0 : b0 ≠ b2
  h3 : b3 ≠ b2
section
variable {w w' : World} {b0 b2 b3 : Nat} {a : UInt8} {x0 x1 x2 : Int} {q3 q4 : Bool}
theorem UsAt.below (h : UsAt w b0 b2 b3 a x0 x1 x2 q3 q4) (k : Below w.heap.size w w') : UsAt w' b0 b2 b3 a x0 x1 x2 q3 q4 := by
  obtain ⟨T1, h1⟩ := h.n
  obtain ⟨T2, h2⟩ := h.u
  obtain ⟨T3, h3⟩ := h.c
  exact ⟨⟨T1, (k.block _ (lt_of_block h1)).trans h1⟩, ⟨T2, (k.block _ (lt_of_block h2)).trans h2⟩, ⟨T3, (k.block _ (lt_of_block h3)).trans h3⟩, h.h0, h.h3⟩
theorem UsAt.cn (h : UsAt w b0 b2 b3 a x0 x1 x2 q3 q4) : w.cell? ⟨b0, 0, none⟩ = some (.int .u8 (a.toNat : Int)) := by obtain ⟨T, h⟩ := h.n; exact cellOf1 h
theorem UsAt.cc (h : UsAt w b0 b2 b3 a x0 x1 x2 q3 q4) : w.cell? ⟨b3, 0, none⟩ = some (.func (.func 100) #[] #[.pointer (some ⟨b0, 0, none⟩)]) := by obtain ⟨T, h⟩ := h.c; exact cellOf1 h
theorem UsAt.f (h : UsAt w b0 b2 b3 a x0 x1 x2 q3 q4) (j : Nat) : w.frozen? ⟨b2, j, none⟩ = false := by obtain ⟨T, h⟩ := h.u; exact cellsFree h j
theorem UsAt.lt (h : UsAt w b0 b2 b3 a x0 x1 x2 q3 q4) : b2 < w.heap.size := by obtain ⟨T, h⟩ := h.u; exact lt_of_block h
theorem UsAt.set (h : UsAt w b0 b2 b3 a x0 x1 x2 q3 q4) {j : Nat} {v : Value} {y0 y1 y2 : Int} {r3 r4 : Bool} (e : (#[.int .i64 x0, .int .i64 x1, .int .i64 x2, .bool q3, .bool q4] : Array Value).setIfInBounds j v = #[.int .i64 y0, .int .i64 y1, .int .i64 y2, .bool r3, .bool r4]) : UsAt (w.setCell ⟨b2, j, none⟩ v) b0 b2 b3 a y0 y1 y2 r3 r4 := by
  obtain ⟨T1, h1⟩ := h.n
  obtain ⟨T2, h2⟩ := h.u
  obtain ⟨T3, h3⟩ := h.c
  exact ⟨⟨T1, (Below.heap_setCell _ _ _ _ h.h0).trans h1⟩, ⟨T2, by rw [set_cells h2, e]⟩, ⟨T3, (Below.heap_setCell _ _ _ _ h.h3).trans h3⟩, h.h0, h.h3⟩
theorem UsAt.c0 (h : UsAt w b0 b2 b3 a x0 x1 x2 q3 q4) : w.cell? ⟨b2, 0, none⟩ = some (.int .i64 x0) := by obtain ⟨T, h⟩ := h.u; exact cellsAt h 0 _ rfl
theorem UsAt.c1 (h : UsAt w b0 b2 b3 a x0 x1 x2 q3 q4) : w.cell? ⟨b2, 1, none⟩ = some (.int .i64 x1) := by obtain ⟨T, h⟩ := h.u; exact cellsAt h 1 _ rfl
theorem UsAt.c2 (h : UsAt w b0 b2 b3 a x0 x1 x2 q3 q4) : w.cell? ⟨b2, 2, none⟩ = some (.int .i64 x2) := by obtain ⟨T, h⟩ := h.u; exact cellsAt h 2 _ rfl
theorem UsAt.c3 (h : UsAt w b0 b2 b3 a x0 x1 x2 q3 q4) : w.cell? ⟨b2, 3, none⟩ = some (.bool q3) := by obtain ⟨T, h⟩ := h.u; exact cellsAt h 3 _ rfl
theorem UsAt.c4 (h : UsAt w b0 b2 b3 a x0 x1 x2 q3 q4) : w.cell? ⟨b2, 4, none⟩ = some (.bool q4) := by obtain ⟨T, h⟩ := h.u; exact cellsAt h 4 _ rfl
end
theorem cf_u2 (args : Array Value) (w : World) : (callFunc 102 args).run Tryz.prog w = .ok (.enter 102 args) w := by kernel_rfl
set_option maxHeartbeats 1000000 in
theorem cnt_no {w : World} {b0 b2 b3 : Nat} {a : UInt8} {x0 x1 x2 : Int} {q3 q4 : Bool} (h : UsAt w b0 b2 b3 a x0 x1 x2 q3 q4) (k : Nat) (u : UInt8) (hu : (u == a) = false) : Calls Tryz.prog 100 #[.pointer (some ⟨b2, k, none⟩), .int .u8 (u.toNat : Int), .pointer (some ⟨b0, 0, none⟩)] w fun e w' => e = .returned (.tuple #[]) ∧ w = w' := by
  have cn := h.cn
  have q : ((u.toNat : Int) == (a.toNat : Int)) = false := by rw [u8b]; exact hu
  clear h hu
  go_enter Tryz.func100, Tryz.ntmps100
  go_wp2_with fail
  go_end0
  exact ⟨rfl, rfl⟩
set_option maxHeartbeats 1000000 in
theorem cnt_yes {w : World} {b0 b2 b3 : Nat} {a : UInt8} {x0 x1 x2 : Int} {q3 q4 : Bool} (h : UsAt w b0 b2 b3 a x0 x1 x2 q3 q4) (k : Nat) (x : Int) (hx : w.cell? ⟨b2, k, none⟩ = some (.int .i64 x)) (hb : -9223372036854775808 ≤ x ∧ x ≤ 9223372036854775807) (u : UInt8) (hu : (u == a) = true) : Calls Tryz.prog 100 #[.pointer (some ⟨b2, k, none⟩), .int .u8 (u.toNat : Int), .pointer (some ⟨b0, 0, none⟩)] w fun e w' => e = .returned (.tuple #[]) ∧ w' = w.setCell ⟨b2, k, none⟩ (.int .i64 (wrap64 (x + 1))) := by
  have cn := h.cn
  have fz := h.f k
  have q : ((u.toNat : Int) == (a.toNat : Int)) = true := by rw [u8b]; exact hu
  clear h hu
  go_enter Tryz.func100, Tryz.ntmps100
  go_wp2_with fail
  go_end0
  exact ⟨rfl, rfl⟩
theorem cnt0 {w : World} {b0 b2 b3 : Nat} {a : UInt8} {x0 x1 x2 : Int} {q3 q4 : Bool} (h : UsAt w b0 b2 b3 a x0 x1 x2 q3 q4) (hw : x0 = wrap64 x0) (u : UInt8) : Calls Tryz.prog 100 #[.pointer (some ⟨b2, 0, none⟩), .int .u8 (u.toNat : Int), .pointer (some ⟨b0, 0, none⟩)] w fun e w' => e = .returned (.tuple #[]) ∧ UsAt w' b0 b2 b3 a (wrap64 (x0 + cond (u == a) 1 0)) x1 x2 q3 q4 ∧ Only b2 w w' := by
  cases e : u == a
  · refine (cnt_no h 0 u e).mono ?_
    rintro e w' ⟨he, rfl⟩
    have e2 : wrap64 (x0 + cond false 1 0) = x0 := by simpa using hw.symm
    rw [e2]
    exact ⟨he, h, Only.refl _ _⟩
  · have hb := wrap64_lo x0
    rw [← hw] at hb
    refine (cnt_yes h 0 x0 h.c0 hb u e).mono ?_
    rintro e w' ⟨he, rfl⟩
    exact ⟨he, h.set rfl, (Only.refl _ _).setCell _ _ _⟩
theorem cnt1 {w : World} {b0 b2 b3 : Nat} {a : UInt8} {x0 x1 x2 : Int} {q3 q4 : Bool} (h : UsAt w b0 b2 b3 a x0 x1 x2 q3 q4) (hw : x1 = wrap64 x1) (u : UInt8) : Calls Tryz.prog 100 #[.pointer (some ⟨b2, 1, none⟩), .int .u8 (u.toNat : Int), .pointer (some ⟨b0, 0, none⟩)] w fun e w' => e = .returned (.tuple #[]) ∧ UsAt w' b0 b2 b3 a x0 (wrap64 (x1 + cond (u == a) 1 0)) x2 q3 q4 ∧ Only b2 w w' := by
  cases e : u == a
  · refine (cnt_no h 1 u e).mono ?_
    rintro e w' ⟨he, rfl⟩
    have e2 : wrap64 (x1 + cond false 1 0) = x1 := by simpa using hw.symm
    rw [e2]
    exact ⟨he, h, Only.refl _ _⟩
  · have hb := wrap64_lo x1
    rw [← hw] at hb
    refine (cnt_yes h 1 x1 h.c1 hb u e).mono ?_
    rintro e w' ⟨he, rfl⟩
    exact ⟨he, h.set rfl, (Only.refl _ _).setCell _ _ _⟩
theorem cnt2 {w : World} {b0 b2 b3 : Nat} {a : UInt8} {x0 x1 x2 : Int} {q3 q4 : Bool} (h : UsAt w b0 b2 b3 a x0 x1 x2 q3 q4) (hw : x2 = wrap64 x2) (u : UInt8) : Calls Tryz.prog 100 #[.pointer (some ⟨b2, 2, none⟩), .int .u8 (u.toNat : Int), .pointer (some ⟨b0, 0, none⟩)] w fun e w' => e = .returned (.tuple #[]) ∧ UsAt w' b0 b2 b3 a x0 x1 (wrap64 (x2 + cond (u == a) 1 0)) q3 q4 ∧ Only b2 w w' := by
  cases e : u == a
  · refine (cnt_no h 2 u e).mono ?_
    rintro e w' ⟨he, rfl⟩
    have e2 : wrap64 (x2 + cond false 1 0) = x2 := by simpa using hw.symm
    rw [e2]
    exact ⟨he, h, Only.refl _ _⟩
  · have hb := wrap64_lo x2
    rw [← hw] at hb
    refine (cnt_yes h 2 x2 h.c2 hb u e).mono ?_
    rintro e w' ⟨he, rfl⟩
    exact ⟨he, h.set rfl, (Only.refl _ _).setCell _ _ _⟩

set_option maxHeartbeats 1000000 in
theorem u2_other {w : World} {b0 b2 b3 : Nat} {a : UInt8} {x0 x1 x2 : Int} {q3 q4 : Bool} (h : UsAt w b0 b2 b3 a x0 x1 x2 q3 q4) (T : TypeId) (V : Value) (hs : ∀ w, (Instr.typeAssert (.iface T V) 67 118 true).run Tryz.prog w = .ok (.tuple #[.agg #[.int .u8 0, .int .u8 0, .nilIface], .bool false]) w) (hr : ∀ w, (Instr.typeAssert (.iface T V) 67 121 true).run Tryz.prog w = .ok (.tuple #[.agg #[.int .u8 0, .int .u8 0, .nilIface], .bool false]) w) (hm : ∀ w, (Instr.typeAssert (.iface T V) 67 123 true).run Tryz.prog w = .ok (.tuple #[.agg #[.int .u8 0, .int .u8 0, .nilIface], .bool false]) w) (hr2 : ∀ w, (Instr.typeAssert (.iface T V) 67 139 true).run Tryz.prog w = .ok (.tuple #[.agg #[.nilIface], .bool false]) w) : Calls Tryz.prog 102 (#[.iface T V] ++ #[.pointer (some ⟨b3, 0, none⟩), .pointer (some ⟨b2, 0, none⟩), .pointer (some ⟨b0, 0, none⟩)]) w fun e w' => e = .returned (.tuple #[]) ∧ UsAt w' b0 b2 b3 a x0 x1 x2 q3 q4 ∧ Only b2 w w' := by
  show Calls Tryz.prog 102 #[.iface T V, .pointer (some ⟨b3, 0, none⟩), .pointer (some ⟨b2, 0, none⟩), .pointer (some ⟨b0, 0, none⟩)] w _
  have H := Lib.hid h
  clear h
  go_enter Tryz.func102, Tryz.ntmps102
  go_wp2_with fail
  go_end0
  exact ⟨rfl, H.out, Only.refl _ _⟩
set_option maxHeartbeats 1000000 in
theorem u2_send {w : World} {b0 b2 b3 : Nat} {a : UInt8} {x0 x1 x2 : Int} {q3 q4 : Bool} (h : UsAt w b0 b2 b3 a x0 x1 x2 q3 q4) (x y : UInt8) (tp : TypeId) (vp : Value) (h0 : x0 = wrap64 x0) (h2 : x2 = wrap64 x2) : Calls Tryz.prog 102 (#[.iface 118 (.agg #[.int .u8 (x.toNat : Int), .int .u8 (y.toNat : Int), .iface tp vp])] ++ #[.pointer (some ⟨b3, 0, none⟩), .pointer (some ⟨b2, 0, none⟩), .pointer (some ⟨b0, 0, none⟩)]) w fun e w' => e = .returned (.tuple #[]) ∧ UsAt w' b0 b2 b3 a (wrap64 (x0 + cond (x == a) 1 0)) x1 (wrap64 (x2 + cond (y == a) 1 0)) q3 q4 ∧ Only b2 w w' := by
  show Calls Tryz.prog 102 #[.iface 118 (.agg #[.int .u8 (x.toNat : Int), .int .u8 (y.toNat : Int), .iface tp vp]), .pointer (some ⟨b3, 0, none⟩), .pointer (some ⟨b2, 0, none⟩), .pointer (some ⟨b0, 0, none⟩)] w _
  have bA := fun o => (Below.refl w.heap.size w).alloc (Nat.le_refl _) o
  have HA := Lib.hid (fun o => h.below (bA o))
  have cc := fun o => (HA.out o).cc
  have HC0 := Lib.hid (fun w1 (j : UsAt w1 b0 b2 b3 a x0 x1 x2 q3 q4) => cnt0 j h0 x)
  have HC2 := Lib.hid (fun w1 (j : UsAt w1 b0 b2 b3 a (wrap64 (x0 + cond (x == a) 1 0)) x1 x2 q3 q4) => cnt2 j h2 y)
  have hlt := h.lt
  have HO := Lib.hid (fun o => (Only.refl b2 w).alloc o)
  clear h bA h0 h2
  go_enter Tryz.func102, Tryz.ntmps102
  go_wp2_with fail
  refine (HC0.out _ (HA.out _)).mono ?_
  rintro e w1 ⟨rfl, j1, o1⟩
  have J1 := Lib.hid j1
  have O1 := Lib.hid ((HO.out _).trans o1)
  have c1 := j1.cc
  have cy : w1.cell? ⟨w.heap.size, 1, none⟩ = some (.int .u8 (y.toNat : Int)) := by
    have := (o1.block w.heap.size (by simp) (by omega)).trans (new_block0 w _)
    exact cellsAt this 1 _ rfl
  clear cc j1 o1
  go_wp2_with fail
  refine (HC2.out _ J1.out).mono ?_
  rintro e w2 ⟨rfl, j2, o2⟩
  have J2 := Lib.hid j2
  have O2 := Lib.hid (O1.out.trans o2)
  clear c1 cy j2 o2
  go_wp2_with fail
  go_end0
  exact ⟨rfl, J2.out, O2.out⟩
set_option maxHeartbeats 1000000 in
theorem u2_receive {w : World} {b0 b2 b3 : Nat} {a : UInt8} {x0 x1 x2 : Int} {q3 q4 : Bool} (h : UsAt w b0 b2 b3 a x0 x1 x2 q3 q4) (x y : UInt8) (tp : TypeId) (vp : Value) (h1 : x1 = wrap64 x1) : Calls Tryz.prog 102 (#[.iface 121 (.agg #[.int .u8 (x.toNat : Int), .int .u8 (y.toNat : Int), .iface tp vp])] ++ #[.pointer (some ⟨b3, 0, none⟩), .pointer (some ⟨b2, 0, none⟩), .pointer (some ⟨b0, 0, none⟩)]) w fun e w' => e = .returned (.tuple #[]) ∧ UsAt w' b0 b2 b3 a x0 (wrap64 (x1 + cond (x == a) 1 0)) x2 q3 q4 ∧ Only b2 w w' := by
  show Calls Tryz.prog 102 #[.iface 121 (.agg #[.int .u8 (x.toNat : Int), .int .u8 (y.toNat : Int), .iface tp vp]), .pointer (some ⟨b3, 0, none⟩), .pointer (some ⟨b2, 0, none⟩), .pointer (some ⟨b0, 0, none⟩)] w _
  have bA := fun o => (Below.refl w.heap.size w).alloc (Nat.le_refl _) o
  have HA := Lib.hid (fun o => h.below (bA o))
  have cc := fun o => (HA.out o).cc
  have HC1 := Lib.hid (fun w1 (j : UsAt w1 b0 b2 b3 a x0 x1 x2 q3 q4) => cnt1 j h1 x)
  have HO := Lib.hid (fun o => (Only.refl b2 w).alloc o)
  clear h bA h1
  go_enter Tryz.func102, Tryz.ntmps102
  go_wp2_with fail
  refine (HC1.out _ (HA.out _)).mono ?_
  rintro e w1 ⟨rfl, j1, o1⟩
  have J1 := Lib.hid j1
  have O1 := Lib.hid ((HO.out _).trans o1)
  clear cc j1 o1
  go_wp2_with fail
  go_end0
  exact ⟨rfl, J1.out, O1.out⟩

end Go.Proofs.YtlhmjcfnfefliaaGreat.T1

/- Uses of a free name in the program: in a match, in a part of *. MADE BY gen_Qw.py. -/
namespace Go.Proofs.YtlhmjcfnfefliaaGreat.T1
open Go.RowKit
set_option maxRecDepth 100000
set_option linter.unusedVariables false
set_option linter.unusedSimpArgs false

set_option maxHeartbeats 2000000 in
theorem u2_matT {w : World} {b0 b2 b3 : Nat} {a : UInt8} {x0 x1 x2 : Int} {q3 q4 : Bool} (h : UsAt w b0 b2 b3 a x0 x1 x2 true q4) (x y : UInt8) (tp : TypeId) (vp : Value) : Calls Tryz.prog 102 (#[.iface 123 (.agg #[.int .u8 (x.toNat : Int), .int .u8 (y.toNat : Int), .iface tp vp])] ++ #[.pointer (some ⟨b3, 0, none⟩), .pointer (some ⟨b2, 0, none⟩), .pointer (some ⟨b0, 0, none⟩)]) w fun e w' => e = .returned (.tuple #[]) ∧ UsAt w' b0 b2 b3 a x0 x1 x2 true q4 ∧ Only b2 w w' := by
  show Calls Tryz.prog 102 #[.iface 123 (.agg #[.int .u8 (x.toNat : Int), .int .u8 (y.toNat : Int), .iface tp vp]), .pointer (some ⟨b3, 0, none⟩), .pointer (some ⟨b2, 0, none⟩), .pointer (some ⟨b0, 0, none⟩)] w _
  have bA := fun o => (Below.refl w.heap.size w).alloc (Nat.le_refl _) o
  have HA := Lib.hid (fun o => h.below (bA o))
  have cc := fun o => (HA.out o).c3
  have ff := fun o => (HA.out o).f 3
  have HO := Lib.hid (fun o => (Only.refl b2 w).alloc o)
  clear h bA
  go_enter Tryz.func102, Tryz.ntmps102
  go_wp2_with fail
  obtain ⟨W, hW⟩ : ∃ W, W = w.alloc (.cells #[.int .u8 (x.toNat : Int), .int .u8 (y.toNat : Int), .iface tp vp] 123) := ⟨_, rfl⟩
  rw [← hW]
  have A0 := Lib.hid (show UsAt W b0 b2 b3 a x0 x1 x2 true q4 from by rw [hW]; exact HA.out _)
  have O0 := Lib.hid (show Only b2 w W from by rw [hW]; exact HO.out _)
  have AD := Lib.hid (A0.out.below (Below.refl _ W).drew)
  have d1 := AD.out.c3
  have d3 := AD.out.f 3
  clear cc ff hW
  go_region
  all_goals
    go_wp2_with fail
    go_end0
    exact ⟨rfl, AD.out.set rfl, (O0.out.below (Below.refl _ W).drew).setCell _ _ _⟩
set_option maxHeartbeats 4000000 in
theorem u2_matF {w : World} {b0 b2 b3 : Nat} {a : UInt8} {x0 x1 x2 : Int} {q3 q4 : Bool} (h : UsAt w b0 b2 b3 a x0 x1 x2 false q4) (x y : UInt8) (tp : TypeId) (vp : Value) (n : Nat) (q : Bool) (HU : ∀ w, Calls Tryz.prog 99 #[.iface 123 (.agg #[.int .u8 (x.toNat : Int), .int .u8 (y.toNat : Int), .iface tp vp])] w fun e w' => e = .returned (.int .u32 (n : Int)) ∧ Below w.heap.size w w') (HH : ∀ w, Calls Tryz.prog 45 #[.int .u32 (n : Int), .int .u8 (a.toNat : Int)] w fun e w' => e = .returned (.bool q) ∧ w = w') : Calls Tryz.prog 102 (#[.iface 123 (.agg #[.int .u8 (x.toNat : Int), .int .u8 (y.toNat : Int), .iface tp vp])] ++ #[.pointer (some ⟨b3, 0, none⟩), .pointer (some ⟨b2, 0, none⟩), .pointer (some ⟨b0, 0, none⟩)]) w fun e w' => e = .returned (.tuple #[]) ∧ UsAt w' b0 b2 b3 a x0 x1 x2 q q4 ∧ Only b2 w w' := by
  show Calls Tryz.prog 102 #[.iface 123 (.agg #[.int .u8 (x.toNat : Int), .int .u8 (y.toNat : Int), .iface tp vp]), .pointer (some ⟨b3, 0, none⟩), .pointer (some ⟨b2, 0, none⟩), .pointer (some ⟨b0, 0, none⟩)] w _
  have bA := fun o => (Below.refl w.heap.size w).alloc (Nat.le_refl _) o
  have HA := Lib.hid (fun o => h.below (bA o))
  have cc := fun o => (HA.out o).c3
  have ff := fun o => (HA.out o).f 3
  have cn := fun o => (HA.out o).cn
  have XU := Lib.hid HU
  have XH := Lib.hid HH
  have HO := Lib.hid (fun o => (Only.refl b2 w).alloc o)
  clear h bA HU HH
  go_enter Tryz.func102, Tryz.ntmps102
  go_wp2_with fail
  obtain ⟨W, hW⟩ : ∃ W, W = w.alloc (.cells #[.int .u8 (x.toNat : Int), .int .u8 (y.toNat : Int), .iface tp vp] 123) := ⟨_, rfl⟩
  rw [← hW]
  have A0 := Lib.hid (show UsAt W b0 b2 b3 a x0 x1 x2 false q4 from by rw [hW]; exact HA.out _)
  have O0 := Lib.hid (show Only b2 w W from by rw [hW]; exact HO.out _)
  have AD := Lib.hid (A0.out.below (Below.refl _ W).drew)
  have d1 := AD.out.c3
  have d2 := AD.out.cn
  have nb : W.heap[w.heap.size]? = some (.cells #[.int .u8 (x.toNat : Int), .int .u8 (y.toNat : Int), .iface tp vp] 123 (0, 0)) := by rw [hW]; exact new_block0 w _
  have k0 := cellsAt nb 0 _ rfl
  have k1 := cellsAt nb 1 _ rfl
  have k2 := cellsAt nb 2 _ rfl
  clear nb
  have d3 := AD.out.f 3
  clear cc ff cn hW
  go_region_law (first
    | (go_simp; go_at_call 99; (with_reducible refine (XU.out _).mono ?_); rintro e w4 ⟨rfl, b4⟩
       have A4 := Lib.hid (AD.out.below b4)
       have O4 := Lib.hid ((O0.out.below (Below.refl _ W).drew).below b4)
       have e1 := A4.out.c3
       have e2 := A4.out.cn
       have e3 := A4.out.f 3
       clear b4)
    | (go_simp; go_at_call 45; (with_reducible refine (XH.out _).mono ?_); rintro e w5 ⟨rfl, rfl⟩))
  all_goals
    go_wp2_with fail
    go_end0
    exact ⟨rfl, A4.out.set rfl, O4.out.setCell _ _ _⟩
set_option maxHeartbeats 2000000 in
theorem u2_repT {w : World} {b0 b2 b3 : Nat} {a : UInt8} {x0 x1 x2 : Int} {q3 q4 : Bool} (h : UsAt w b0 b2 b3 a x0 x1 x2 q3 true) (tp : TypeId) (vp : Value) : Calls Tryz.prog 102 (#[.iface 139 (.agg #[.iface tp vp])] ++ #[.pointer (some ⟨b3, 0, none⟩), .pointer (some ⟨b2, 0, none⟩), .pointer (some ⟨b0, 0, none⟩)]) w fun e w' => e = .returned (.tuple #[]) ∧ UsAt w' b0 b2 b3 a x0 x1 x2 q3 true ∧ Only b2 w w' := by
  show Calls Tryz.prog 102 #[.iface 139 (.agg #[.iface tp vp]), .pointer (some ⟨b3, 0, none⟩), .pointer (some ⟨b2, 0, none⟩), .pointer (some ⟨b0, 0, none⟩)] w _
  have bA := fun o => (Below.refl w.heap.size w).alloc (Nat.le_refl _) o
  have HA := Lib.hid (fun o => h.below (bA o))
  have cc := fun o => (HA.out o).c4
  have ff := fun o => (HA.out o).f 4
  have HO := Lib.hid (fun o => (Only.refl b2 w).alloc o)
  clear h bA
  go_enter Tryz.func102, Tryz.ntmps102
  go_wp2_with fail
  obtain ⟨W, hW⟩ : ∃ W, W = w.alloc (.cells #[.iface tp vp] 139) := ⟨_, rfl⟩
  rw [← hW]
  have A0 := Lib.hid (show UsAt W b0 b2 b3 a x0 x1 x2 q3 true from by rw [hW]; exact HA.out _)
  have O0 := Lib.hid (show Only b2 w W from by rw [hW]; exact HO.out _)
  have AD := Lib.hid (A0.out.below (Below.refl _ W).drew)
  have d1 := AD.out.c4
  have d3 := AD.out.f 4
  clear cc ff hW
  go_region
  all_goals
    go_wp2_with fail
    go_end0
    exact ⟨rfl, AD.out.set rfl, (O0.out.below (Below.refl _ W).drew).setCell _ _ _⟩
set_option maxHeartbeats 4000000 in
theorem u2_repF {w : World} {b0 b2 b3 : Nat} {a : UInt8} {x0 x1 x2 : Int} {q3 q4 : Bool} (h : UsAt w b0 b2 b3 a x0 x1 x2 q3 false) (tp : TypeId) (vp : Value) (n : Nat) (q : Bool) (HU : ∀ w, Calls Tryz.prog 68 #[.iface 139 (.agg #[.iface tp vp])] w fun e w' => e = .returned (.int .u32 (n : Int)) ∧ Below w.heap.size w w') (HH : ∀ w, Calls Tryz.prog 45 #[.int .u32 (n : Int), .int .u8 (a.toNat : Int)] w fun e w' => e = .returned (.bool q) ∧ w = w') : Calls Tryz.prog 102 (#[.iface 139 (.agg #[.iface tp vp])] ++ #[.pointer (some ⟨b3, 0, none⟩), .pointer (some ⟨b2, 0, none⟩), .pointer (some ⟨b0, 0, none⟩)]) w fun e w' => e = .returned (.tuple #[]) ∧ UsAt w' b0 b2 b3 a x0 x1 x2 q3 q ∧ Only b2 w w' := by
  show Calls Tryz.prog 102 #[.iface 139 (.agg #[.iface tp vp]), .pointer (some ⟨b3, 0, none⟩), .pointer (some ⟨b2, 0, none⟩), .pointer (some ⟨b0, 0, none⟩)] w _
  have bA := fun o => (Below.refl w.heap.size w).alloc (Nat.le_refl _) o
  have HA := Lib.hid (fun o => h.below (bA o))
  have cc := fun o => (HA.out o).c4
  have ff := fun o => (HA.out o).f 4
  have cn := fun o => (HA.out o).cn
  have XU := Lib.hid HU
  have XH := Lib.hid HH
  have HO := Lib.hid (fun o => (Only.refl b2 w).alloc o)
  clear h bA HU HH
  go_enter Tryz.func102, Tryz.ntmps102
  go_wp2_with fail
  obtain ⟨W, hW⟩ : ∃ W, W = w.alloc (.cells #[.iface tp vp] 139) := ⟨_, rfl⟩
  rw [← hW]
  have A0 := Lib.hid (show UsAt W b0 b2 b3 a x0 x1 x2 q3 false from by rw [hW]; exact HA.out _)
  have O0 := Lib.hid (show Only b2 w W from by rw [hW]; exact HO.out _)
  have AD := Lib.hid (A0.out.below (Below.refl _ W).drew)
  have d1 := AD.out.c4
  have d2 := AD.out.cn
  have nb : W.heap[w.heap.size]? = some (.cells #[.iface tp vp] 139 (0, 0)) := by rw [hW]; exact new_block0 w _
  have k0 := cellsAt nb 0 _ rfl
  clear nb
  have d3 := AD.out.f 4
  clear cc ff cn hW
  go_region_law (first
    | (go_simp; go_at_call 68; (with_reducible refine (XU.out _).mono ?_); rintro e w4 ⟨rfl, b4⟩
       have A4 := Lib.hid (AD.out.below b4)
       have O4 := Lib.hid ((O0.out.below (Below.refl _ W).drew).below b4)
       have e1 := A4.out.c4
       have e2 := A4.out.cn
       have e3 := A4.out.f 4
       clear b4)
    | (go_simp; go_at_call 45; (with_reducible refine (XH.out _).mono ?_); rintro e w5 ⟨rfl, rfl⟩))
  all_goals
    go_wp2_with fail
    go_end0
    exact ⟨rfl, A4.out.set rfl, O4.out.setCell _ _ _⟩
end Go.Proofs.YtlhmjcfnfefliaaGreat.T1

/- Uses of a free name in the program: all of a process. MADE BY gen_Qx.py. -/
namespace Go.Proofs.YtlhmjcfnfefliaaGreat.T1
open Go.RowKit
set_option maxRecDepth 100000
set_option linter.unusedVariables false
set_option linter.unusedSimpArgs false

/-- What has been counted at some subterms. -/
def UsOf (b0 b2 b3 : Nat) (a : UInt8) (acc : List Tm) (w : World) : Prop := UsAt w b0 b2 b3 a (wrap64 (acc.countP (us0 a) : Nat)) (wrap64 (acc.countP (us1 a) : Nat)) (wrap64 (acc.countP (us2 a) : Nat)) (acc.any (us3 a)) (acc.any (us4 a))
theorem wrap64_two (x : Int) : wrap64 x = wrap64 (wrap64 x) := by unfold wrap64; omega
theorem wrap64_cond (k : Nat) (b : Bool) : wrap64 (wrap64 (k : Int) + cond b 1 0) = wrap64 ((k + (if b = true then 1 else 0) : Nat) : Int) := by
  cases b <;> simp <;> unfold wrap64 <;> omega
theorem cnt_snoc (acc : List Tm) (f : Tm → Bool) (t : Tm) : (acc ++ [t]).countP f = acc.countP f + (if f t = true then 1 else 0) := by
  rw [List.countP_append, List.countP_singleton]
theorem any_snoc (acc : List Tm) (f : Tm → Bool) (t : Tm) : (acc ++ [t]).any f = (acc.any f || f t) := by simp
theorem bit_two (x y a : UInt8) (hx : nmL x = true) (hy : nmL y = true) (ha : nmL a = true) : ((0 ||| 2 ^ (x.toNat - 97)) ||| 2 ^ (y.toNat - 97)).testBit (a.toNat - 97) = (x == a || y == a) := by
  have h1 := (nmL_iff x).1 hx
  have h2 := (nmL_iff y).1 hy
  have h3 := (nmL_iff a).1 ha
  rw [Nat.zero_or, Nat.testBit_or, Nat.testBit_two_pow, Nat.testBit_two_pow]
  rw [Bool.eq_iff_iff]
  simp only [Bool.or_eq_true, decide_eq_true_eq, beq_iff_eq]
  constructor
  · rintro (h | h)
    · exact .inl (u8_ext (by omega))
    · exact .inr (u8_ext (by omega))
  · rintro (h | h)
    · subst h; exact .inl rfl
    · subst h; exact .inr rfl
theorem us_same {w : World} {b0 b2 b3 : Nat} {a : UInt8} {x0 x1 x2 y0 y1 y2 : Int} {q3 q4 r3 r4 : Bool} (h : UsAt w b0 b2 b3 a x0 x1 x2 q3 q4) (e0 : x0 = y0) (e1 : x1 = y1) (e2 : x2 = y2) (e3 : q3 = r3) (e4 : q4 = r4) : UsAt w b0 b2 b3 a y0 y1 y2 r3 r4 := by
  subst e0 e1 e2 e3 e4; exact h
/-- What a subterm adds. -/
theorem us_add {w : World} {b0 b2 b3 : Nat} {a : UInt8} {acc : List Tm} {t : Tm} (h : UsAt w b0 b2 b3 a (wrap64 ((acc.countP (us0 a) + (if us0 a t = true then 1 else 0) : Nat))) (wrap64 ((acc.countP (us1 a) + (if us1 a t = true then 1 else 0) : Nat))) (wrap64 ((acc.countP (us2 a) + (if us2 a t = true then 1 else 0) : Nat))) (acc.any (us3 a) || us3 a t) (acc.any (us4 a) || us4 a t)) : UsOf b0 b2 b3 a (acc ++ [t]) w := by
  unfold UsOf
  rw [cnt_snoc, cnt_snoc, cnt_snoc, any_snoc, any_snoc]
  exact h
theorem us_none {w : World} {b0 b2 b3 : Nat} {a : UInt8} {acc : List Tm} {t : Tm} (h : UsOf b0 b2 b3 a acc w) (h0 : us0 a t = false) (h1 : us1 a t = false) (h2 : us2 a t = false) (h3 : us3 a t = false) (h4 : us4 a t = false) : UsOf b0 b2 b3 a (acc ++ [t]) w := us_add (by
  rw [h0, h1, h2, h3, h4]
  simpa [UsOf] using h)
theorem UsOf.below {b0 b2 b3 : Nat} {a : UInt8} {acc : List Tm} {w w' : World} (h : UsOf b0 b2 b3 a acc w) (k : Below w.heap.size w w') : UsOf b0 b2 b3 a acc w' := UsAt.below h k
theorem u2_any (b0 b2 b3 : Nat) (a : UInt8) (ha : nmL a = true) (t : Tm) (acc : List Tm) (w : World) (ho : t.ok nmL = true) (h : UsOf b0 b2 b3 a acc w) : Calls Tryz.prog 102 (#[.iface (tyOf t) (pay t)] ++ #[.pointer (some ⟨b3, 0, none⟩), .pointer (some ⟨b2, 0, none⟩), .pointer (some ⟨b0, 0, none⟩)]) w (VisPost b2 (UsOf b0 b2 b3 a) (acc ++ [t]) w) := by
  have h0 : UsAt w b0 b2 b3 a (wrap64 (acc.countP (us0 a) : Nat)) (wrap64 (acc.countP (us1 a) : Nat)) (wrap64 (acc.countP (us2 a) : Nat)) (acc.any (us3 a)) (acc.any (us4 a)) := h
  have h3 := (nmL_iff a).1 ha
  cases t with
  | nil  => exact (u2_other h0 _ _ (ta_nothing_send _) (ta_nothing_receive _) (ta_nothing_match _) (ta_nothing_repeat _)).mono fun e w' ⟨e1, e2, e3⟩ => ⟨e1, us_none e2 rfl rfl rfl rfl rfl, e3⟩
  | tau p => exact (u2_other h0 _ _ (ta_silent_send _) (ta_silent_receive _) (ta_silent_match _) (ta_silent_repeat _)).mono fun e w' ⟨e1, e2, e3⟩ => ⟨e1, us_none e2 rfl rfl rfl rfl rfl, e3⟩
  | sum p q => exact (u2_other h0 _ _ (ta_choice_send _) (ta_choice_receive _) (ta_choice_match _) (ta_choice_repeat _)).mono fun e w' ⟨e1, e2, e3⟩ => ⟨e1, us_none e2 rfl rfl rfl rfl rfl, e3⟩
  | par p q => exact (u2_other h0 _ _ (ta_beside_send _) (ta_beside_receive _) (ta_beside_match _) (ta_beside_repeat _)).mono fun e w' ⟨e1, e2, e3⟩ => ⟨e1, us_none e2 rfl rfl rfl rfl rfl, e3⟩
  | own x p => exact (u2_other h0 _ _ (ta_own_send _) (ta_own_receive _) (ta_own_match _) (ta_own_repeat _)).mono fun e w' ⟨e1, e2, e3⟩ => ⟨e1, us_none e2 rfl rfl rfl rfl rfl, e3⟩
  | snd x y p =>
    exact (u2_send h0 x y _ _ (wrap64_two _) (wrap64_two _)).mono fun e w' ⟨e1, e2, e3⟩ => ⟨e1, us_add (us_same e2 (wrap64_cond _ _) (by simp [us1]) (wrap64_cond _ _) (by simp [us3]) (by simp [us4])), e3⟩
  | rcv x y p =>
    exact (u2_receive h0 x y _ _ (wrap64_two _)).mono fun e w' ⟨e1, e2, e3⟩ => ⟨e1, us_add (us_same e2 (by simp [us0]) (wrap64_cond _ _) (by simp [us2]) (by simp [us3]) (by simp [us4])), e3⟩
  | mat x y p =>
    have ho' := ho
    simp only [Tm.ok, Bool.and_eq_true] at ho'
    have HH := fun w => has_any (usedN (.mat x y p)) a.toNat (two_lt x y ho'.1.1 ho'.1.2).2 h3.1 h3.2 w
    rw [show (usedN (.mat x y p)).testBit (a.toNat - 97) = us3 a (.mat x y p) from bit_two x y a ho'.1.1 ho'.1.2 ha] at HH
    cases e : acc.any (us3 a)
    · rw [e] at h0
      exact (u2_matF (q3 := false) h0 x y _ _ _ _ (usedBy_any (.mat x y p) ho) HH).mono fun e w' ⟨e1, e2, e3⟩ => ⟨e1, us_add (us_same e2 (by simp [us0]) (by simp [us1]) (by simp [us2]) (by simp [*]) (by simp [us4])), e3⟩
    · rw [e] at h0
      exact (u2_matT (q3 := true) h0 x y _ _).mono fun e w' ⟨e1, e2, e3⟩ => ⟨e1, us_add (us_same e2 (by simp [us0]) (by simp [us1]) (by simp [us2]) (by simp [*]) (by simp [us4])), e3⟩
  | rep p =>
    have HH := has_freeS (.rep p) ho a ha
    rw [show decide (a ∈ (Tm.rep p).free) = us4 a (.rep p) from decide_eq_decide.2 (mf_rep p a)] at HH
    cases e : acc.any (us4 a)
    · rw [e] at h0
      exact (u2_repF (q4 := false) h0 _ _ _ _ (freeNames_any (.rep p) ho) HH).mono fun e w' ⟨e1, e2, e3⟩ => ⟨e1, us_add (us_same e2 (by simp [us0]) (by simp [us1]) (by simp [us2]) (by simp [us3]) (by simp [*])), e3⟩
    · rw [e] at h0
      exact (u2_repT (q4 := true) h0 _ _).mono fun e w' ⟨e1, e2, e3⟩ => ⟨e1, us_add (us_same e2 (by simp [us0]) (by simp [us1]) (by simp [us2]) (by simp [us3]) (by simp [*])), e3⟩
theorem usVis (b0 b2 b3 : Nat) (a : UInt8) (ha : nmL a = true) (t : Tm) (ho : t.ok nmL = true) (w : World) (h : UsOf b0 b2 b3 a [] w) : Calls Tryz.prog 101 #[.iface (tyOf t) (pay t), .int .u8 (a.toNat : Int), .func (.func 102) #[] #[.pointer (some ⟨b3, 0, none⟩), .pointer (some ⟨b2, 0, none⟩), .pointer (some ⟨b0, 0, none⟩)]] w (VisPost b2 (UsOf b0 b2 b3 a) (t.vis a) w) := by
  have := visitFree_any 102 #[.pointer (some ⟨b3, 0, none⟩), .pointer (some ⟨b2, 0, none⟩), .pointer (some ⟨b0, 0, none⟩)] b2 (UsOf b0 b2 b3 a) cf_u2 (fun acc w w' h k => h.below k) (fun acc w h => UsAt.lt h) a t ho (fun t acc w ho h => u2_any b0 b2 b3 a ha t acc w ho h) [] w h
  exact this
theorem four_blocks (w : World) (o1 o2 o3 o4 : Obj) : ((((w.alloc o1).alloc o2).alloc o3).alloc o4).heap[w.heap.size]? = some o1 ∧ ((((w.alloc o1).alloc o2).alloc o3).alloc o4).heap[w.heap.size + 1]? = some o2 ∧ ((((w.alloc o1).alloc o2).alloc o3).alloc o4).heap[w.heap.size + 1 + 1]? = some o3 ∧ ((((w.alloc o1).alloc o2).alloc o3).alloc o4).heap[w.heap.size + 1 + 1 + 1]? = some o4 ∧ Below w.heap.size w ((((w.alloc o1).alloc o2).alloc o3).alloc o4) := by
  refine ⟨?_, ?_, ?_, ?_, ((((Below.refl _ _).alloc (Nat.le_refl _) o1).alloc (by simp) o2).alloc (by simp; omega) o3).alloc (by simp; omega) o4⟩
  · rw [Below.heap_alloc _ _ _ (by simp; omega), Below.heap_alloc _ _ _ (by simp; omega)]; exact first_block w o1 o2
  · rw [Below.heap_alloc _ _ _ (by simp), Below.heap_alloc _ _ _ (by simp)]; exact last_block w o1 o2
  · rw [Below.heap_alloc _ _ _ (by simp)]
    have := new_block ((w.alloc o1).alloc o2) o3
    simpa using this
  · have := new_block (((w.alloc o1).alloc o2).alloc o3) o4
    simpa using this
theorem set_five {w : World} (b : Nat) {z0 z1 z2 z3 z4 : Value} {T : TypeId} (h : w.heap[b]? = some (.cells #[z0, z1, z2, z3, z4] T (0, 0))) (v0 v1 v2 v3 v4 : Value) : (((((w.setCell ⟨b, 0, none⟩ v0).setCell ⟨b, 1, none⟩ v1).setCell ⟨b, 2, none⟩ v2).setCell ⟨b, 3, none⟩ v3).setCell ⟨b, 4, none⟩ v4).heap[b]? = some (.cells #[v0, v1, v2, v3, v4] T (0, 0)) := by
  have h1 : (w.setCell ⟨b, 0, none⟩ v0).heap[b]? = some (.cells #[v0, z1, z2, z3, z4] T (0, 0)) := by rw [set_cells h]; rfl
  have h2 : ((w.setCell ⟨b, 0, none⟩ v0).setCell ⟨b, 1, none⟩ v1).heap[b]? = some (.cells #[v0, v1, z2, z3, z4] T (0, 0)) := by rw [set_cells h1]; rfl
  have h3 : (((w.setCell ⟨b, 0, none⟩ v0).setCell ⟨b, 1, none⟩ v1).setCell ⟨b, 2, none⟩ v2).heap[b]? = some (.cells #[v0, v1, v2, z3, z4] T (0, 0)) := by rw [set_cells h2]; rfl
  have h4 : ((((w.setCell ⟨b, 0, none⟩ v0).setCell ⟨b, 1, none⟩ v1).setCell ⟨b, 2, none⟩ v2).setCell ⟨b, 3, none⟩ v3).heap[b]? = some (.cells #[v0, v1, v2, v3, z4] T (0, 0)) := by rw [set_cells h3]; rfl
  rw [set_cells h4]; rfl
theorem below_five {B b : Nat} {w0 w : World} (h : Below B w0 w) (hb : B ≤ b) (v0 v1 v2 v3 v4 : Value) : Below B w0 (((((w.setCell ⟨b, 0, none⟩ v0).setCell ⟨b, 1, none⟩ v1).setCell ⟨b, 2, none⟩ v2).setCell ⟨b, 3, none⟩ v3).setCell ⟨b, 4, none⟩ v4) := ((((h.setCell hb _).setCell hb _).setCell hb _).setCell hb _).setCell hb _
/-- What is counted of a name. -/
def usV (a : UInt8) (t : Tm) : Value := .agg #[.int .i64 ((t.vis a).countP (us0 a) : Nat), .int .i64 ((t.vis a).countP (us1 a) : Nat), .int .i64 ((t.vis a).countP (us2 a) : Nat), .bool ((t.vis a).any (us3 a)), .bool ((t.vis a).any (us4 a))]
set_option maxHeartbeats 2000000 in
theorem usesOf0 (T : TypeId) (V : Value) (a : UInt8) (y0 y1 y2 : Int) (r3 r4 : Bool) (HV : ∀ b0 b2 b3 w, UsAt w b0 b2 b3 a 0 0 0 false false → Calls Tryz.prog 101 #[.iface T V, .int .u8 (a.toNat : Int), .func (.func 102) #[] #[.pointer (some ⟨b3, 0, none⟩), .pointer (some ⟨b2, 0, none⟩), .pointer (some ⟨b0, 0, none⟩)]] w fun e w' => e = .returned (.tuple #[]) ∧ UsAt w' b0 b2 b3 a y0 y1 y2 r3 r4 ∧ Only b2 w w') (w : World) :
    Calls Tryz.prog 69 #[.iface T V, .int .u8 (a.toNat : Int)] w fun e w' => e = .returned (.agg #[.int .i64 y0, .int .i64 y1, .int .i64 y2, .bool r3, .bool r4]) ∧ Below w.heap.size w w' := by
  have XV := Lib.hid HV
  clear HV
  have f4 := four_blocks w (.cells #[.int .u8 (a.toNat : Int)] 5) (.cells #[.int .i64 0, .int .i64 0, .int .i64 0, .bool false, .bool false] 56) (.cells #[.int .i64 0, .int .i64 0, .int .i64 0, .bool false, .bool false] 56) (.cells #[.nilFunc] 136)
  obtain ⟨W, hW⟩ : ∃ W, W = (((w.alloc (.cells #[.int .u8 (a.toNat : Int)] 5)).alloc (.cells #[.int .i64 0, .int .i64 0, .int .i64 0, .bool false, .bool false] 56)).alloc (.cells #[.int .i64 0, .int .i64 0, .int .i64 0, .bool false, .bool false] 56)).alloc (.cells #[.nilFunc] 136) := ⟨_, rfl⟩
  rw [← hW] at f4
  obtain ⟨g1, g2, g3, g4, bl⟩ := f4
  have c9 := cellOf1 g4
  have f9 := free_of_one g4
  have hst : (store ⟨w.heap.size + 1 + 1 + 1, 0, none⟩ (.func (.func 100) #[] #[.pointer (some ⟨w.heap.size, 0, none⟩)])).run Tryz.prog W = .ok () (W.setCell ⟨w.heap.size + 1 + 1 + 1, 0, none⟩ (.func (.func 100) #[] #[.pointer (some ⟨w.heap.size, 0, none⟩)])) := by
    rw [run_store _ _ _ _ _ rfl, c9]
    simp [f9]
  have hA : UsAt (W.setCell ⟨w.heap.size + 1 + 1 + 1, 0, none⟩ (.func (.func 100) #[] #[.pointer (some ⟨w.heap.size, 0, none⟩)])) w.heap.size (w.heap.size + 1 + 1) (w.heap.size + 1 + 1 + 1) a 0 0 0 false false := ⟨⟨_, (Below.heap_setCell _ _ _ _ (by show w.heap.size ≠ w.heap.size + 1 + 1 + 1; omega)).trans g1⟩, ⟨_, (Below.heap_setCell _ _ _ _ (by show w.heap.size + 1 + 1 ≠ w.heap.size + 1 + 1 + 1; omega)).trans g3⟩, ⟨_, by rw [set_cells g4]; rfl⟩, by omega, by omega⟩
  have hb1 := (Below.heap_setCell W ⟨w.heap.size + 1 + 1 + 1, 0, none⟩ (.func (.func 100) #[] #[.pointer (some ⟨w.heap.size, 0, none⟩)]) (w.heap.size + 1) (by show w.heap.size + 1 ≠ w.heap.size + 1 + 1 + 1; omega)).trans g2
  have bl2 : Below w.heap.size w (W.setCell ⟨w.heap.size + 1 + 1 + 1, 0, none⟩ (.func (.func 100) #[] #[.pointer (some ⟨w.heap.size, 0, none⟩)])) := bl.setCell (by show w.heap.size ≤ w.heap.size + 1 + 1 + 1; omega) _
  obtain ⟨W2, hW2⟩ : ∃ W2, W2 = W.setCell ⟨w.heap.size + 1 + 1 + 1, 0, none⟩ (.func (.func 100) #[] #[.pointer (some ⟨w.heap.size, 0, none⟩)]) := ⟨_, rfl⟩
  rw [← hW2] at hst hA hb1 bl2
  have HA := Lib.hid hA
  have HB1 := Lib.hid hb1
  have BL := Lib.hid bl2
  have cn := hA.cn
  have XV2 := Lib.hid (XV.out _ _ _ _ HA.out)
  rw [hW] at hst
  clear g1 g2 g3 g4 c9 f9 hA hb1 bl bl2 hW2 hW
  go_enter Tryz.func69, Tryz.ntmps69
  go_wp2_with fail
  refine (XV2.out).mono ?_
  rintro e w3 ⟨rfl, j3, o3⟩
  have h1 := (o3.block (w.heap.size + 1) (lt_of_block HB1.out) (by show w.heap.size + 1 ≠ w.heap.size + 1 + 1; omega)).trans HB1.out
  have k0 := j3.c0
  have k1 := j3.c1
  have k2 := j3.c2
  have k3 := j3.c3
  have k4 := j3.c4
  have m0 := cellsAt h1 0 _ rfl
  have m1 := cellsAt h1 1 _ rfl
  have m2 := cellsAt h1 2 _ rfl
  have m3 := cellsAt h1 3 _ rfl
  have m4 := cellsAt h1 4 _ rfl
  have n := fun j => cellsFree h1 j
  have n0 := n 0
  have n1 := n 1
  have n2 := n 2
  have n3 := n 3
  have n4 := n 4
  have H1 := Lib.hid h1
  have B3 := Lib.hid (Below.only BL.out o3 (by omega) BL.out.size)
  clear n h1 o3 cn hst
  go_wp2_with fail
  have h5 := set_five (w.heap.size + 1) H1.out (.int .i64 y0) (.int .i64 y1) (.int .i64 y2) (.bool r3) (.bool r4)
  have b5 := below_five B3.out (show w.heap.size ≤ w.heap.size + 1 by omega) (.int .i64 y0) (.int .i64 y1) (.int .i64 y2) (.bool r3) (.bool r4)
  clear k0 k1 k2 k3 k4 m0 m1 m2 m3 m4 n0 n1 n2 n3 n4
  exact bodyPost_ret (v := .agg #[.int .i64 y0, .int .i64 y1, .int .i64 y2, .bool r3, .bool r4]) (results_cell_row (t := 56) (fr := (0, 0)) rfl _ _ (w.heap.size + 1) _ _ rfl h5 Tryz.underlying56 rfl (by kernel_rfl)) rfl ⟨rfl, b5⟩
theorem usesOf_any (t : Tm) (ho : t.ok nmL = true) (h60 : t.size ≤ 60) (a : UInt8) (ha : nmL a = true) (w : World) : Calls Tryz.prog 69 #[.iface (tyOf t) (pay t), .int .u8 (a.toNat : Int)] w fun e w' => e = .returned (usV a t) ∧ Below w.heap.size w w' := by
  have hv := vis_len a t
  have hw : ∀ f : Tm → Bool, wrap64 ((t.vis a).countP f : Nat) = ((t.vis a).countP f : Nat) := fun f => IntWalk.wrap64_in _ (by have := List.countP_le_length (p := f) (l := t.vis a); omega)
  refine usesOf0 _ _ a ((t.vis a).countP (us0 a) : Nat) ((t.vis a).countP (us1 a) : Nat) ((t.vis a).countP (us2 a) : Nat) ((t.vis a).any (us3 a)) ((t.vis a).any (us4 a)) (fun b0 b2 b3 w h => ?_) w
  refine (usVis b0 b2 b3 a ha t ho w (us_same h (by simp [wrap64]) (by simp [wrap64]) (by simp [wrap64]) (by simp) (by simp))).mono ?_
  rintro e w' ⟨e1, e2, e3⟩
  exact ⟨e1, us_same e2 (hw _) (hw _) (hw _) rfl rfl, e3⟩
theorem results_cell_tmp6 {fn : Func} {p u : Tmp} {ty : TypeId} (P : Program) (h : fn.results = #[.cell p ty, .tmp u]) (tmps : Array Value) (w : World) (g : Nat) (t : TypeId) (cs : Array Value) (fr : Nat × Nat) (d : TypeDesc)
    (hp : tmps.getD p undef = .pointer (some ⟨g, 0, none⟩)) (hg : w.heap[g]? = some (.cells cs t fr))
    (hu : P.underlying ty = some d) (hd : (match (generalizing := false) d with | .struct _ | .array _ _ => true | _ => false) = true) (hi : (P.info? ty).map (·.size) = some cs.size) :
    (results fn tmps).run P w = .ok (.tuple #[.agg cs, tmps.getD u undef]) w := by
  have hp' : tmps[p]?.getD undef = .pointer (some ⟨g, 0, none⟩) := by simpa using hp
  have hl := run_loadVar_row w g t ty cs fr d hg hu (by cases d <;> first | exact hd | rfl) hi
  simp [results, h, hp', asAddr, hl]
set_option maxHeartbeats 1000000 in
theorem ru_a (s k : ByteArray) (T : TypeId) (V : Value) (c : UInt8) (n : Nat) (qq : Bool) (y0 y1 y2 : Int) (r3 r4 : Bool) (HP : (∀ w, Calls Tryz.prog 42 #[.string s] w fun e w' => e = .returned (.tuple #[.nilIface, .bool false]) ∧ Below w.heap.size w w')) (HR : (∀ w, Calls Tryz.prog 44 #[.string k] w fun e w' => e = .returned (.tuple #[.int .u8 y0, .bool qq]) ∧ Below w.heap.size w w')) (w : World) : Calls Tryz.prog 33 #[.string s, .string k] w fun e w' => e = .returned (.tuple #[.agg #[.int .i64 0, .int .i64 0, .int .i64 0, .bool false, .bool false], .bool false]) ∧ Below w.heap.size w w' := by
  have XHP := Lib.hid HP
  have XHR := Lib.hid HR
  clear HP HR
  have nb := new_block w (.cells #[.int .i64 0, .int .i64 0, .int .i64 0, .bool false, .bool false] 56)
  have bl := (Below.refl w.heap.size w).alloc (Nat.le_refl _) (.cells #[.int .i64 0, .int .i64 0, .int .i64 0, .bool false, .bool false] 56)
  obtain ⟨W, hW⟩ : ∃ W, W = w.alloc (.cells #[.int .i64 0, .int .i64 0, .int .i64 0, .bool false, .bool false] 56) := ⟨_, rfl⟩
  rw [← hW] at nb bl
  go_enter Tryz.func33, Tryz.ntmps33
  go_wp2_with fail
  rw [← hW]
  clear hW
  refine (XHP.out _).mono ?_
  rintro e w1 ⟨rfl, b1⟩
  have nb := (b1.block _ (lt_of_block nb)).trans nb
  replace bl := below_trans bl b1 bl.size
  clear b1
  go_wp2_with fail
  refine (XHR.out _).mono ?_
  rintro e w1 ⟨rfl, b1⟩
  have nb := (b1.block _ (lt_of_block nb)).trans nb
  replace bl := below_trans bl b1 bl.size
  clear b1
  have m0 := cellsAt nb 0 _ rfl
  have n0 := cellsFree nb 0
  have m1 := cellsAt nb 1 _ rfl
  have n1 := cellsFree nb 1
  have m2 := cellsAt nb 2 _ rfl
  have n2 := cellsFree nb 2
  have m3 := cellsAt nb 3 _ rfl
  have n3 := cellsFree nb 3
  have m4 := cellsAt nb 4 _ rfl
  have n4 := cellsFree nb 4
  go_wp2_with fail
  have h5 := set_five w.heap.size nb (.int .i64 0) (.int .i64 0) (.int .i64 0) (.bool false) (.bool false)
  have b5 := below_five bl (Nat.le_refl _) (.int .i64 0) (.int .i64 0) (.int .i64 0) (.bool false) (.bool false)
  exact bodyPost_ret (results_cell_tmp6 _ rfl _ _ w.heap.size _ _ _ _ rfl h5 Tryz.underlying56 rfl (by kernel_rfl)) rfl ⟨rfl, b5⟩
set_option maxHeartbeats 1000000 in
theorem ru_b (s k : ByteArray) (T : TypeId) (V : Value) (c : UInt8) (n : Nat) (qq : Bool) (y0 y1 y2 : Int) (r3 r4 : Bool) (HP : (∀ w, Calls Tryz.prog 42 #[.string s] w fun e w' => e = .returned (.tuple #[.iface T V, .bool true]) ∧ Below w.heap.size w w')) (HR : (∀ w, Calls Tryz.prog 44 #[.string k] w fun e w' => e = .returned (.tuple #[.int .u8 0, .bool false]) ∧ Below w.heap.size w w')) (w : World) : Calls Tryz.prog 33 #[.string s, .string k] w fun e w' => e = .returned (.tuple #[.agg #[.int .i64 0, .int .i64 0, .int .i64 0, .bool false, .bool false], .bool false]) ∧ Below w.heap.size w w' := by
  have XHP := Lib.hid HP
  have XHR := Lib.hid HR
  clear HP HR
  have nb := new_block w (.cells #[.int .i64 0, .int .i64 0, .int .i64 0, .bool false, .bool false] 56)
  have bl := (Below.refl w.heap.size w).alloc (Nat.le_refl _) (.cells #[.int .i64 0, .int .i64 0, .int .i64 0, .bool false, .bool false] 56)
  obtain ⟨W, hW⟩ : ∃ W, W = w.alloc (.cells #[.int .i64 0, .int .i64 0, .int .i64 0, .bool false, .bool false] 56) := ⟨_, rfl⟩
  rw [← hW] at nb bl
  go_enter Tryz.func33, Tryz.ntmps33
  go_wp2_with fail
  rw [← hW]
  clear hW
  refine (XHP.out _).mono ?_
  rintro e w1 ⟨rfl, b1⟩
  have nb := (b1.block _ (lt_of_block nb)).trans nb
  replace bl := below_trans bl b1 bl.size
  clear b1
  go_wp2_with fail
  refine (XHR.out _).mono ?_
  rintro e w1 ⟨rfl, b1⟩
  have nb := (b1.block _ (lt_of_block nb)).trans nb
  replace bl := below_trans bl b1 bl.size
  clear b1
  have m0 := cellsAt nb 0 _ rfl
  have n0 := cellsFree nb 0
  have m1 := cellsAt nb 1 _ rfl
  have n1 := cellsFree nb 1
  have m2 := cellsAt nb 2 _ rfl
  have n2 := cellsFree nb 2
  have m3 := cellsAt nb 3 _ rfl
  have n3 := cellsFree nb 3
  have m4 := cellsAt nb 4 _ rfl
  have n4 := cellsFree nb 4
  go_wp2_with fail
  have h5 := set_five w.heap.size nb (.int .i64 0) (.int .i64 0) (.int .i64 0) (.bool false) (.bool false)
  have b5 := below_five bl (Nat.le_refl _) (.int .i64 0) (.int .i64 0) (.int .i64 0) (.bool false) (.bool false)
  exact bodyPost_ret (results_cell_tmp6 _ rfl _ _ w.heap.size _ _ _ _ rfl h5 Tryz.underlying56 rfl (by kernel_rfl)) rfl ⟨rfl, b5⟩
set_option maxHeartbeats 1000000 in
theorem ru_c (s k : ByteArray) (T : TypeId) (V : Value) (c : UInt8) (n : Nat) (qq : Bool) (y0 y1 y2 : Int) (r3 r4 : Bool) (HP : (∀ w, Calls Tryz.prog 42 #[.string s] w fun e w' => e = .returned (.tuple #[.iface T V, .bool true]) ∧ Below w.heap.size w w')) (HR : (∀ w, Calls Tryz.prog 44 #[.string k] w fun e w' => e = .returned (.tuple #[.int .u8 (c.toNat : Int), .bool true]) ∧ Below w.heap.size w w')) (HF : (∀ w, Calls Tryz.prog 68 #[.iface T V] w fun e w' => e = .returned (.int .u32 (n : Int)) ∧ Below w.heap.size w w')) (HH : (∀ w, Calls Tryz.prog 45 #[.int .u32 (n : Int), .int .u8 (c.toNat : Int)] w fun e w' => e = .returned (.bool false) ∧ w = w')) (w : World) : Calls Tryz.prog 33 #[.string s, .string k] w fun e w' => e = .returned (.tuple #[.agg #[.int .i64 0, .int .i64 0, .int .i64 0, .bool false, .bool false], .bool false]) ∧ Below w.heap.size w w' := by
  have XHP := Lib.hid HP
  have XHR := Lib.hid HR
  have XHF := Lib.hid HF
  have XHH := Lib.hid HH
  clear HP HR HF HH
  have nb := new_block w (.cells #[.int .i64 0, .int .i64 0, .int .i64 0, .bool false, .bool false] 56)
  have bl := (Below.refl w.heap.size w).alloc (Nat.le_refl _) (.cells #[.int .i64 0, .int .i64 0, .int .i64 0, .bool false, .bool false] 56)
  obtain ⟨W, hW⟩ : ∃ W, W = w.alloc (.cells #[.int .i64 0, .int .i64 0, .int .i64 0, .bool false, .bool false] 56) := ⟨_, rfl⟩
  rw [← hW] at nb bl
  go_enter Tryz.func33, Tryz.ntmps33
  go_wp2_with fail
  rw [← hW]
  clear hW
  refine (XHP.out _).mono ?_
  rintro e w1 ⟨rfl, b1⟩
  have nb := (b1.block _ (lt_of_block nb)).trans nb
  replace bl := below_trans bl b1 bl.size
  clear b1
  go_wp2_with fail
  refine (XHR.out _).mono ?_
  rintro e w1 ⟨rfl, b1⟩
  have nb := (b1.block _ (lt_of_block nb)).trans nb
  replace bl := below_trans bl b1 bl.size
  clear b1
  go_wp2_with fail
  refine (XHF.out _).mono ?_
  rintro e w1 ⟨rfl, b1⟩
  have nb := (b1.block _ (lt_of_block nb)).trans nb
  replace bl := below_trans bl b1 bl.size
  clear b1
  go_wp2_with fail
  refine (XHH.out _).mono ?_
  rintro e w1 ⟨rfl, rfl⟩
  have m0 := cellsAt nb 0 _ rfl
  have n0 := cellsFree nb 0
  have m1 := cellsAt nb 1 _ rfl
  have n1 := cellsFree nb 1
  have m2 := cellsAt nb 2 _ rfl
  have n2 := cellsFree nb 2
  have m3 := cellsAt nb 3 _ rfl
  have n3 := cellsFree nb 3
  have m4 := cellsAt nb 4 _ rfl
  have n4 := cellsFree nb 4
  go_wp2_with fail
  have h5 := set_five w.heap.size nb (.int .i64 0) (.int .i64 0) (.int .i64 0) (.bool false) (.bool false)
  have b5 := below_five bl (Nat.le_refl _) (.int .i64 0) (.int .i64 0) (.int .i64 0) (.bool false) (.bool false)
  exact bodyPost_ret (results_cell_tmp6 _ rfl _ _ w.heap.size _ _ _ _ rfl h5 Tryz.underlying56 rfl (by kernel_rfl)) rfl ⟨rfl, b5⟩
set_option maxHeartbeats 1000000 in
theorem ru_d (s k : ByteArray) (T : TypeId) (V : Value) (c : UInt8) (n : Nat) (qq : Bool) (y0 y1 y2 : Int) (r3 r4 : Bool) (HP : (∀ w, Calls Tryz.prog 42 #[.string s] w fun e w' => e = .returned (.tuple #[.iface T V, .bool true]) ∧ Below w.heap.size w w')) (HR : (∀ w, Calls Tryz.prog 44 #[.string k] w fun e w' => e = .returned (.tuple #[.int .u8 (c.toNat : Int), .bool true]) ∧ Below w.heap.size w w')) (HF : (∀ w, Calls Tryz.prog 68 #[.iface T V] w fun e w' => e = .returned (.int .u32 (n : Int)) ∧ Below w.heap.size w w')) (HH : (∀ w, Calls Tryz.prog 45 #[.int .u32 (n : Int), .int .u8 (c.toNat : Int)] w fun e w' => e = .returned (.bool true) ∧ w = w')) (HU : (∀ w, Calls Tryz.prog 69 #[.iface T V, .int .u8 (c.toNat : Int)] w fun e w' => e = .returned (.agg #[.int .i64 y0, .int .i64 y1, .int .i64 y2, .bool r3, .bool r4]) ∧ Below w.heap.size w w')) (w : World) : Calls Tryz.prog 33 #[.string s, .string k] w fun e w' => e = .returned (.tuple #[.agg #[.int .i64 y0, .int .i64 y1, .int .i64 y2, .bool r3, .bool r4], .bool true]) ∧ Below w.heap.size w w' := by
  have XHP := Lib.hid HP
  have XHR := Lib.hid HR
  have XHF := Lib.hid HF
  have XHH := Lib.hid HH
  have XHU := Lib.hid HU
  clear HP HR HF HH HU
  have nb := new_block w (.cells #[.int .i64 0, .int .i64 0, .int .i64 0, .bool false, .bool false] 56)
  have bl := (Below.refl w.heap.size w).alloc (Nat.le_refl _) (.cells #[.int .i64 0, .int .i64 0, .int .i64 0, .bool false, .bool false] 56)
  obtain ⟨W, hW⟩ : ∃ W, W = w.alloc (.cells #[.int .i64 0, .int .i64 0, .int .i64 0, .bool false, .bool false] 56) := ⟨_, rfl⟩
  rw [← hW] at nb bl
  go_enter Tryz.func33, Tryz.ntmps33
  go_wp2_with fail
  rw [← hW]
  clear hW
  refine (XHP.out _).mono ?_
  rintro e w1 ⟨rfl, b1⟩
  have nb := (b1.block _ (lt_of_block nb)).trans nb
  replace bl := below_trans bl b1 bl.size
  clear b1
  go_wp2_with fail
  refine (XHR.out _).mono ?_
  rintro e w1 ⟨rfl, b1⟩
  have nb := (b1.block _ (lt_of_block nb)).trans nb
  replace bl := below_trans bl b1 bl.size
  clear b1
  go_wp2_with fail
  refine (XHF.out _).mono ?_
  rintro e w1 ⟨rfl, b1⟩
  have nb := (b1.block _ (lt_of_block nb)).trans nb
  replace bl := below_trans bl b1 bl.size
  clear b1
  go_wp2_with fail
  refine (XHH.out _).mono ?_
  rintro e w1 ⟨rfl, rfl⟩
  go_wp2_with fail
  refine (XHU.out _).mono ?_
  rintro e w1 ⟨rfl, b1⟩
  have nb := (b1.block _ (lt_of_block nb)).trans nb
  replace bl := below_trans bl b1 bl.size
  clear b1
  have m0 := cellsAt nb 0 _ rfl
  have n0 := cellsFree nb 0
  have m1 := cellsAt nb 1 _ rfl
  have n1 := cellsFree nb 1
  have m2 := cellsAt nb 2 _ rfl
  have n2 := cellsFree nb 2
  have m3 := cellsAt nb 3 _ rfl
  have n3 := cellsFree nb 3
  have m4 := cellsAt nb 4 _ rfl
  have n4 := cellsFree nb 4
  go_wp2_with fail
  have h5 := set_five w.heap.size nb (.int .i64 y0) (.int .i64 y1) (.int .i64 y2) (.bool r3) (.bool r4)
  have b5 := below_five bl (Nat.le_refl _) (.int .i64 y0) (.int .i64 y1) (.int .i64 y2) (.bool r3) (.bool r4)
  exact bodyPost_ret (results_cell_tmp6 _ rfl _ _ w.heap.size _ _ _ _ rfl h5 Tryz.underlying56 rfl (by kernel_rfl)) rfl ⟨rfl, b5⟩
end Go.Proofs.YtlhmjcfnfefliaaGreat.T1
