/- Uses of a free name in the program: in a match, in a part of *. MADE BY gen_Qw.py. -/
import Derived.Test.YtdfelpahacmdpabQv
import Derived.Deep.RegionLaw
namespace Go.Proofs.Ytdfelpahacmdpab.T1
open Go.RowKit
set_option maxRecDepth 100000
set_option linter.unusedVariables false
set_option linter.unusedSimpArgs false

set_option maxHeartbeats 2000000 in
theorem u2_matT {w : World} {b0 b2 b3 : Nat} {a : UInt8} {x0 x1 x2 : Int} {q3 q4 : Bool} (h : UsAt w b0 b2 b3 a x0 x1 x2 true q4) (x y : UInt8) (tp : TypeId) (vp : Value) : Calls Try.prog 52 (#[.iface 86 (.agg #[.int .u8 (x.toNat : Int), .int .u8 (y.toNat : Int), .iface tp vp])] ++ #[.pointer (some ⟨b3, 0, none⟩), .pointer (some ⟨b2, 0, none⟩), .pointer (some ⟨b0, 0, none⟩)]) w fun e w' => e = .returned (.tuple #[]) ∧ UsAt w' b0 b2 b3 a x0 x1 x2 true q4 ∧ Only b2 w w' := by
  show Calls Try.prog 52 #[.iface 86 (.agg #[.int .u8 (x.toNat : Int), .int .u8 (y.toNat : Int), .iface tp vp]), .pointer (some ⟨b3, 0, none⟩), .pointer (some ⟨b2, 0, none⟩), .pointer (some ⟨b0, 0, none⟩)] w _
  have bA := fun o => (Below.refl w.heap.size w).alloc (Nat.le_refl _) o
  have HA := Lib.hid (fun o => h.below (bA o))
  have cc := fun o => (HA.out o).c3
  have ff := fun o => (HA.out o).f 3
  have HO := Lib.hid (fun o => (Only.refl b2 w).alloc o)
  clear h bA
  go_enter Try.func52, Try.ntmps52
  go_wp2_with fail
  obtain ⟨W, hW⟩ : ∃ W, W = w.alloc (.cells #[.int .u8 (x.toNat : Int), .int .u8 (y.toNat : Int), .iface tp vp] 86) := ⟨_, rfl⟩
  rw [← hW]
  have A0 := Lib.hid (show UsAt W b0 b2 b3 a x0 x1 x2 true q4 from by rw [hW]; exact HA.out _)
  have O0 := Lib.hid (show Only b2 w W from by rw [hW]; exact HO.out _)
  have AD := Lib.hid (A0.out.below (Below.refl _ W).drew)
  have d1 := AD.out.c3
  have d3 := AD.out.f 3
  clear cc ff hW
  go_region
  all_goals
    go_wp2_with fail
    go_end0
    exact ⟨rfl, AD.out.set rfl, (O0.out.below (Below.refl _ W).drew).setCell _ _ _⟩
set_option maxHeartbeats 4000000 in
theorem u2_matF {w : World} {b0 b2 b3 : Nat} {a : UInt8} {x0 x1 x2 : Int} {q3 q4 : Bool} (h : UsAt w b0 b2 b3 a x0 x1 x2 false q4) (x y : UInt8) (tp : TypeId) (vp : Value) (n : Nat) (q : Bool) (HU : ∀ w, Calls Try.prog 48 #[.iface 86 (.agg #[.int .u8 (x.toNat : Int), .int .u8 (y.toNat : Int), .iface tp vp])] w fun e w' => e = .returned (.int .u32 (n : Int)) ∧ Below w.heap.size w w') (HH : ∀ w, Calls Try.prog 30 #[.int .u32 (n : Int), .int .u8 (a.toNat : Int)] w fun e w' => e = .returned (.bool q) ∧ w = w') : Calls Try.prog 52 (#[.iface 86 (.agg #[.int .u8 (x.toNat : Int), .int .u8 (y.toNat : Int), .iface tp vp])] ++ #[.pointer (some ⟨b3, 0, none⟩), .pointer (some ⟨b2, 0, none⟩), .pointer (some ⟨b0, 0, none⟩)]) w fun e w' => e = .returned (.tuple #[]) ∧ UsAt w' b0 b2 b3 a x0 x1 x2 q q4 ∧ Only b2 w w' := by
  show Calls Try.prog 52 #[.iface 86 (.agg #[.int .u8 (x.toNat : Int), .int .u8 (y.toNat : Int), .iface tp vp]), .pointer (some ⟨b3, 0, none⟩), .pointer (some ⟨b2, 0, none⟩), .pointer (some ⟨b0, 0, none⟩)] w _
  have bA := fun o => (Below.refl w.heap.size w).alloc (Nat.le_refl _) o
  have HA := Lib.hid (fun o => h.below (bA o))
  have cc := fun o => (HA.out o).c3
  have ff := fun o => (HA.out o).f 3
  have cn := fun o => (HA.out o).cn
  have XU := Lib.hid HU
  have XH := Lib.hid HH
  have HO := Lib.hid (fun o => (Only.refl b2 w).alloc o)
  clear h bA HU HH
  go_enter Try.func52, Try.ntmps52
  go_wp2_with fail
  obtain ⟨W, hW⟩ : ∃ W, W = w.alloc (.cells #[.int .u8 (x.toNat : Int), .int .u8 (y.toNat : Int), .iface tp vp] 86) := ⟨_, rfl⟩
  rw [← hW]
  have A0 := Lib.hid (show UsAt W b0 b2 b3 a x0 x1 x2 false q4 from by rw [hW]; exact HA.out _)
  have O0 := Lib.hid (show Only b2 w W from by rw [hW]; exact HO.out _)
  have AD := Lib.hid (A0.out.below (Below.refl _ W).drew)
  have d1 := AD.out.c3
  have d2 := AD.out.cn
  have nb : W.heap[w.heap.size]? = some (.cells #[.int .u8 (x.toNat : Int), .int .u8 (y.toNat : Int), .iface tp vp] 86 (0, 0)) := by rw [hW]; exact new_block0 w _
  have k0 := cellsAt nb 0 _ rfl
  have k1 := cellsAt nb 1 _ rfl
  have k2 := cellsAt nb 2 _ rfl
  clear nb
  have d3 := AD.out.f 3
  clear cc ff cn hW
  go_region_law (first
    | (go_simp; go_at_call 48; (with_reducible refine (XU.out _).mono ?_); rintro e w4 ⟨rfl, b4⟩
       have A4 := Lib.hid (AD.out.below b4)
       have O4 := Lib.hid ((O0.out.below (Below.refl _ W).drew).below b4)
       have e1 := A4.out.c3
       have e2 := A4.out.cn
       have e3 := A4.out.f 3
       clear b4)
    | (go_simp; go_at_call 30; (with_reducible refine (XH.out _).mono ?_); rintro e w5 ⟨rfl, rfl⟩))
  all_goals
    go_wp2_with fail
    go_end0
    exact ⟨rfl, A4.out.set rfl, O4.out.setCell _ _ _⟩
set_option maxHeartbeats 2000000 in
theorem u2_repT {w : World} {b0 b2 b3 : Nat} {a : UInt8} {x0 x1 x2 : Int} {q3 q4 : Bool} (h : UsAt w b0 b2 b3 a x0 x1 x2 q3 true) (tp : TypeId) (vp : Value) : Calls Try.prog 52 (#[.iface 88 (.agg #[.iface tp vp])] ++ #[.pointer (some ⟨b3, 0, none⟩), .pointer (some ⟨b2, 0, none⟩), .pointer (some ⟨b0, 0, none⟩)]) w fun e w' => e = .returned (.tuple #[]) ∧ UsAt w' b0 b2 b3 a x0 x1 x2 q3 true ∧ Only b2 w w' := by
  show Calls Try.prog 52 #[.iface 88 (.agg #[.iface tp vp]), .pointer (some ⟨b3, 0, none⟩), .pointer (some ⟨b2, 0, none⟩), .pointer (some ⟨b0, 0, none⟩)] w _
  have bA := fun o => (Below.refl w.heap.size w).alloc (Nat.le_refl _) o
  have HA := Lib.hid (fun o => h.below (bA o))
  have cc := fun o => (HA.out o).c4
  have ff := fun o => (HA.out o).f 4
  have HO := Lib.hid (fun o => (Only.refl b2 w).alloc o)
  clear h bA
  go_enter Try.func52, Try.ntmps52
  go_wp2_with fail
  obtain ⟨W, hW⟩ : ∃ W, W = w.alloc (.cells #[.iface tp vp] 88) := ⟨_, rfl⟩
  rw [← hW]
  have A0 := Lib.hid (show UsAt W b0 b2 b3 a x0 x1 x2 q3 true from by rw [hW]; exact HA.out _)
  have O0 := Lib.hid (show Only b2 w W from by rw [hW]; exact HO.out _)
  have AD := Lib.hid (A0.out.below (Below.refl _ W).drew)
  have d1 := AD.out.c4
  have d3 := AD.out.f 4
  clear cc ff hW
  go_region
  all_goals
    go_wp2_with fail
    go_end0
    exact ⟨rfl, AD.out.set rfl, (O0.out.below (Below.refl _ W).drew).setCell _ _ _⟩
set_option maxHeartbeats 4000000 in
theorem u2_repF {w : World} {b0 b2 b3 : Nat} {a : UInt8} {x0 x1 x2 : Int} {q3 q4 : Bool} (h : UsAt w b0 b2 b3 a x0 x1 x2 q3 false) (tp : TypeId) (vp : Value) (n : Nat) (q : Bool) (HU : ∀ w, Calls Try.prog 29 #[.iface 88 (.agg #[.iface tp vp])] w fun e w' => e = .returned (.int .u32 (n : Int)) ∧ Below w.heap.size w w') (HH : ∀ w, Calls Try.prog 30 #[.int .u32 (n : Int), .int .u8 (a.toNat : Int)] w fun e w' => e = .returned (.bool q) ∧ w = w') : Calls Try.prog 52 (#[.iface 88 (.agg #[.iface tp vp])] ++ #[.pointer (some ⟨b3, 0, none⟩), .pointer (some ⟨b2, 0, none⟩), .pointer (some ⟨b0, 0, none⟩)]) w fun e w' => e = .returned (.tuple #[]) ∧ UsAt w' b0 b2 b3 a x0 x1 x2 q3 q ∧ Only b2 w w' := by
  show Calls Try.prog 52 #[.iface 88 (.agg #[.iface tp vp]), .pointer (some ⟨b3, 0, none⟩), .pointer (some ⟨b2, 0, none⟩), .pointer (some ⟨b0, 0, none⟩)] w _
  have bA := fun o => (Below.refl w.heap.size w).alloc (Nat.le_refl _) o
  have HA := Lib.hid (fun o => h.below (bA o))
  have cc := fun o => (HA.out o).c4
  have ff := fun o => (HA.out o).f 4
  have cn := fun o => (HA.out o).cn
  have XU := Lib.hid HU
  have XH := Lib.hid HH
  have HO := Lib.hid (fun o => (Only.refl b2 w).alloc o)
  clear h bA HU HH
  go_enter Try.func52, Try.ntmps52
  go_wp2_with fail
  obtain ⟨W, hW⟩ : ∃ W, W = w.alloc (.cells #[.iface tp vp] 88) := ⟨_, rfl⟩
  rw [← hW]
  have A0 := Lib.hid (show UsAt W b0 b2 b3 a x0 x1 x2 q3 false from by rw [hW]; exact HA.out _)
  have O0 := Lib.hid (show Only b2 w W from by rw [hW]; exact HO.out _)
  have AD := Lib.hid (A0.out.below (Below.refl _ W).drew)
  have d1 := AD.out.c4
  have d2 := AD.out.cn
  have nb : W.heap[w.heap.size]? = some (.cells #[.iface tp vp] 88 (0, 0)) := by rw [hW]; exact new_block0 w _
  have k0 := cellsAt nb 0 _ rfl
  clear nb
  have d3 := AD.out.f 4
  clear cc ff cn hW
  go_region_law (first
    | (go_simp; go_at_call 29; (with_reducible refine (XU.out _).mono ?_); rintro e w4 ⟨rfl, b4⟩
       have A4 := Lib.hid (AD.out.below b4)
       have O4 := Lib.hid ((O0.out.below (Below.refl _ W).drew).below b4)
       have e1 := A4.out.c4
       have e2 := A4.out.cn
       have e3 := A4.out.f 4
       clear b4)
    | (go_simp; go_at_call 30; (with_reducible refine (XH.out _).mono ?_); rintro e w5 ⟨rfl, rfl⟩))
  all_goals
    go_wp2_with fail
    go_end0
    exact ⟨rfl, A4.out.set rfl, O4.out.setCell _ _ _⟩
end Go.Proofs.Ytdfelpahacmdpab.T1
