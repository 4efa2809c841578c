/- Texts of the proof, put together: Cdo, Cdz. No conditions. -/
import Derived.Test.YtohaddhjnghcpaaHbg
import Derived.Test.YtohaddhjnghcpaaHbk
import Derived.Test.YtohaddhjnghcpaaHbp
import Derived.Test.YtohaddhjnghcpaaHbr
import Derived.Test.YtohaddhjnghcpaaHbs
import Derived.WalkKit

/- The outer functions of chapter 7 in the program. MADE BY gen_Cn7.py. No conditions. -/
namespace Go.Proofs.Ytohaddhjnghcpaa.T1
open Go.RowKit
set_option maxRecDepth 100000
set_option linter.unusedVariables false
set_option linter.unusedSimpArgs false

theorem cnew (w : World) (i : Nat) (v : Value) (T : TypeId) (b : Nat) (hb : b = w.heap.size) : (w.alloc (.cells #[v] T)).cell? ⟨b, 0, none⟩ = some v := by
  subst hb; rw [World.cell?_alloc_new]; rfl
theorem cf_TruthAt (args : Array Value) (w : World) : (callFunc 34 args).run Try.prog w = .ok (.enter 34 args) w := by kernel_rfl
set_option maxHeartbeats 1000000 in
theorem im_TruthAt (a0 : ByteArray) (a1 : Bool) (n : ByteArray) (b : Bool) (HC : ∀ (W : World) (b0 b1 : Nat), W.cell? ⟨b0, 0, none⟩ = some (.string a0) → W.cell? ⟨b1, 0, none⟩ = some (.bool a1) → Calls Try.prog 33 #[.func (.func 34) #[] #[.pointer (some ⟨b0, 0, none⟩), .pointer (some ⟨b1, 0, none⟩)]] W fun e w' => e = .returned (.tuple #[.string n, .bool b]) ∧ Below W.heap.size W w') (w : World) :
    Calls Try.prog 13 #[.string a0, .bool a1] w fun e w' => e = .returned (.tuple #[.string n, .bool b]) ∧ Below w.heap.size w w' := by
  have H := Lib.hid HC
  clear HC
  have hmf : ∀ (fn : Fn) (first cap : Array Value) (w : World), (Instr.makeFunc fn first cap).run Try.prog w = .ok (.func fn first cap) w := fun _ _ _ _ => rfl
  go_enter Try.func13, Try.ntmps13
  go_wp2_with fail
  with_reducible refine (H.out _ _ _ (by rw [World.cell?_alloc_past _ _ _ (by simp; try omega)]; rw [cnew _ 0 _ _ _ (by simp)]) (by rw [cnew _ 1 _ _ _ (by simp)])).mono ?_
  rintro e w1 ⟨rfl, b1⟩
  have k1 := below_trans (((Below.refl w.heap.size w).alloc (Nat.le_refl _) (.cells #[.string a0] 9)).alloc (by simp; try omega) (.cells #[.bool a1] 4)) b1 (by simp; try omega)
  go_wp2_with fail
  go_ret2
  exact ⟨rfl, k1⟩
theorem cf_TestAt (args : Array Value) (w : World) : (callFunc 39 args).run Try.prog w = .ok (.enter 39 args) w := by kernel_rfl
set_option maxHeartbeats 1000000 in
theorem im_TestAt (a0 : ByteArray) (a1 : ByteArray) (a2 : ByteArray) (n : ByteArray) (b : Bool) (HC : ∀ (W : World) (b0 b1 b2 : Nat), W.cell? ⟨b0, 0, none⟩ = some (.string a0) → W.cell? ⟨b1, 0, none⟩ = some (.string a1) → W.cell? ⟨b2, 0, none⟩ = some (.string a2) → Calls Try.prog 33 #[.func (.func 39) #[] #[.pointer (some ⟨b0, 0, none⟩), .pointer (some ⟨b1, 0, none⟩), .pointer (some ⟨b2, 0, none⟩)]] W fun e w' => e = .returned (.tuple #[.string n, .bool b]) ∧ Below W.heap.size W w') (w : World) :
    Calls Try.prog 15 #[.string a0, .string a1, .string a2] w fun e w' => e = .returned (.tuple #[.string n, .bool b]) ∧ Below w.heap.size w w' := by
  have H := Lib.hid HC
  clear HC
  have hmf : ∀ (fn : Fn) (first cap : Array Value) (w : World), (Instr.makeFunc fn first cap).run Try.prog w = .ok (.func fn first cap) w := fun _ _ _ _ => rfl
  go_enter Try.func15, Try.ntmps15
  go_wp2_with fail
  with_reducible refine (H.out _ _ _ _ (by rw [World.cell?_alloc_past _ _ _ (by simp; try omega)]; rw [World.cell?_alloc_past _ _ _ (by simp; try omega)]; rw [cnew _ 0 _ _ _ (by simp)]) (by rw [World.cell?_alloc_past _ _ _ (by simp; try omega)]; rw [cnew _ 1 _ _ _ (by simp)]) (by rw [cnew _ 2 _ _ _ (by simp)])).mono ?_
  rintro e w1 ⟨rfl, b1⟩
  have k1 := below_trans ((((Below.refl w.heap.size w).alloc (Nat.le_refl _) (.cells #[.string a0] 9)).alloc (by simp; try omega) (.cells #[.string a1] 9)).alloc (by simp; try omega) (.cells #[.string a2] 9)) b1 (by simp; try omega)
  go_wp2_with fail
  go_ret2
  exact ⟨rfl, k1⟩
theorem cf_NotAt (args : Array Value) (w : World) : (callFunc 46 args).run Try.prog w = .ok (.enter 46 args) w := by kernel_rfl
set_option maxHeartbeats 1000000 in
theorem im_NotAt (a0 : ByteArray) (a1 : ByteArray) (n : ByteArray) (b : Bool) (HC : ∀ (W : World) (b0 b1 : Nat), W.cell? ⟨b0, 0, none⟩ = some (.string a0) → W.cell? ⟨b1, 0, none⟩ = some (.string a1) → Calls Try.prog 33 #[.func (.func 46) #[] #[.pointer (some ⟨b0, 0, none⟩), .pointer (some ⟨b1, 0, none⟩)]] W fun e w' => e = .returned (.tuple #[.string n, .bool b]) ∧ Below W.heap.size W w') (w : World) :
    Calls Try.prog 17 #[.string a0, .string a1] w fun e w' => e = .returned (.tuple #[.string n, .bool b]) ∧ Below w.heap.size w w' := by
  have H := Lib.hid HC
  clear HC
  have hmf : ∀ (fn : Fn) (first cap : Array Value) (w : World), (Instr.makeFunc fn first cap).run Try.prog w = .ok (.func fn first cap) w := fun _ _ _ _ => rfl
  go_enter Try.func17, Try.ntmps17
  go_wp2_with fail
  with_reducible refine (H.out _ _ _ (by rw [World.cell?_alloc_past _ _ _ (by simp; try omega)]; rw [cnew _ 0 _ _ _ (by simp)]) (by rw [cnew _ 1 _ _ _ (by simp)])).mono ?_
  rintro e w1 ⟨rfl, b1⟩
  have k1 := below_trans (((Below.refl w.heap.size w).alloc (Nat.le_refl _) (.cells #[.string a0] 9)).alloc (by simp; try omega) (.cells #[.string a1] 9)) b1 (by simp; try omega)
  go_wp2_with fail
  go_ret2
  exact ⟨rfl, k1⟩
theorem cf_AndAt (args : Array Value) (w : World) : (callFunc 48 args).run Try.prog w = .ok (.enter 48 args) w := by kernel_rfl
set_option maxHeartbeats 1000000 in
theorem im_AndAt (a0 : ByteArray) (a1 : ByteArray) (a2 : ByteArray) (n : ByteArray) (b : Bool) (HC : ∀ (W : World) (b0 b1 b2 : Nat), W.cell? ⟨b0, 0, none⟩ = some (.string a0) → W.cell? ⟨b1, 0, none⟩ = some (.string a1) → W.cell? ⟨b2, 0, none⟩ = some (.string a2) → Calls Try.prog 33 #[.func (.func 48) #[] #[.pointer (some ⟨b0, 0, none⟩), .pointer (some ⟨b1, 0, none⟩), .pointer (some ⟨b2, 0, none⟩)]] W fun e w' => e = .returned (.tuple #[.string n, .bool b]) ∧ Below W.heap.size W w') (w : World) :
    Calls Try.prog 19 #[.string a0, .string a1, .string a2] w fun e w' => e = .returned (.tuple #[.string n, .bool b]) ∧ Below w.heap.size w w' := by
  have H := Lib.hid HC
  clear HC
  have hmf : ∀ (fn : Fn) (first cap : Array Value) (w : World), (Instr.makeFunc fn first cap).run Try.prog w = .ok (.func fn first cap) w := fun _ _ _ _ => rfl
  go_enter Try.func19, Try.ntmps19
  go_wp2_with fail
  with_reducible refine (H.out _ _ _ _ (by rw [World.cell?_alloc_past _ _ _ (by simp; try omega)]; rw [World.cell?_alloc_past _ _ _ (by simp; try omega)]; rw [cnew _ 0 _ _ _ (by simp)]) (by rw [World.cell?_alloc_past _ _ _ (by simp; try omega)]; rw [cnew _ 1 _ _ _ (by simp)]) (by rw [cnew _ 2 _ _ _ (by simp)])).mono ?_
  rintro e w1 ⟨rfl, b1⟩
  have k1 := below_trans ((((Below.refl w.heap.size w).alloc (Nat.le_refl _) (.cells #[.string a0] 9)).alloc (by simp; try omega) (.cells #[.string a1] 9)).alloc (by simp; try omega) (.cells #[.string a2] 9)) b1 (by simp; try omega)
  go_wp2_with fail
  go_ret2
  exact ⟨rfl, k1⟩
theorem cf_ForwardAt (args : Array Value) (w : World) : (callFunc 50 args).run Try.prog w = .ok (.enter 50 args) w := by kernel_rfl
set_option maxHeartbeats 1000000 in
theorem im_ForwardAt (a0 : ByteArray) (a1 : ByteArray) (n : ByteArray) (b : Bool) (HC : ∀ (W : World) (b0 b1 : Nat), W.cell? ⟨b0, 0, none⟩ = some (.string a0) → W.cell? ⟨b1, 0, none⟩ = some (.string a1) → Calls Try.prog 33 #[.func (.func 50) #[] #[.pointer (some ⟨b0, 0, none⟩), .pointer (some ⟨b1, 0, none⟩)]] W fun e w' => e = .returned (.tuple #[.string n, .bool b]) ∧ Below W.heap.size W w') (w : World) :
    Calls Try.prog 21 #[.string a0, .string a1] w fun e w' => e = .returned (.tuple #[.string n, .bool b]) ∧ Below w.heap.size w w' := by
  have H := Lib.hid HC
  clear HC
  have hmf : ∀ (fn : Fn) (first cap : Array Value) (w : World), (Instr.makeFunc fn first cap).run Try.prog w = .ok (.func fn first cap) w := fun _ _ _ _ => rfl
  go_enter Try.func21, Try.ntmps21
  go_wp2_with fail
  with_reducible refine (H.out _ _ _ (by rw [World.cell?_alloc_past _ _ _ (by simp; try omega)]; rw [cnew _ 0 _ _ _ (by simp)]) (by rw [cnew _ 1 _ _ _ (by simp)])).mono ?_
  rintro e w1 ⟨rfl, b1⟩
  have k1 := below_trans (((Below.refl w.heap.size w).alloc (Nat.le_refl _) (.cells #[.string a0] 9)).alloc (by simp; try omega) (.cells #[.string a1] 9)) b1 (by simp; try omega)
  go_wp2_with fail
  go_ret2
  exact ⟨rfl, k1⟩
theorem cf_CellAt (args : Array Value) (w : World) : (callFunc 54 args).run Try.prog w = .ok (.enter 54 args) w := by kernel_rfl
set_option maxHeartbeats 1000000 in
theorem im_CellAt (a0 : ByteArray) (a1 : ByteArray) (n : ByteArray) (b : Bool) (HC : ∀ (W : World) (b0 b1 : Nat), W.cell? ⟨b0, 0, none⟩ = some (.string a0) → W.cell? ⟨b1, 0, none⟩ = some (.string a1) → Calls Try.prog 33 #[.func (.func 54) #[] #[.pointer (some ⟨b0, 0, none⟩), .pointer (some ⟨b1, 0, none⟩)]] W fun e w' => e = .returned (.tuple #[.string n, .bool b]) ∧ Below W.heap.size W w') (w : World) :
    Calls Try.prog 23 #[.string a0, .string a1] w fun e w' => e = .returned (.tuple #[.string n, .bool b]) ∧ Below w.heap.size w w' := by
  have H := Lib.hid HC
  clear HC
  have hmf : ∀ (fn : Fn) (first cap : Array Value) (w : World), (Instr.makeFunc fn first cap).run Try.prog w = .ok (.func fn first cap) w := fun _ _ _ _ => rfl
  go_enter Try.func23, Try.ntmps23
  go_wp2_with fail
  with_reducible refine (H.out _ _ _ (by rw [World.cell?_alloc_past _ _ _ (by simp; try omega)]; rw [cnew _ 0 _ _ _ (by simp)]) (by rw [cnew _ 1 _ _ _ (by simp)])).mono ?_
  rintro e w1 ⟨rfl, b1⟩
  have k1 := below_trans (((Below.refl w.heap.size w).alloc (Nat.le_refl _) (.cells #[.string a0] 9)).alloc (by simp; try omega) (.cells #[.string a1] 9)) b1 (by simp; try omega)
  go_wp2_with fail
  go_ret2
  exact ⟨rfl, k1⟩
theorem cf_ReadCell (args : Array Value) (w : World) : (callFunc 55 args).run Try.prog w = .ok (.enter 55 args) w := by kernel_rfl
set_option maxHeartbeats 1000000 in
theorem im_ReadCell (a0 : ByteArray) (a1 : ByteArray) (a2 : ByteArray) (n : ByteArray) (b : Bool) (HC : ∀ (W : World) (b0 b1 b2 : Nat), W.cell? ⟨b0, 0, none⟩ = some (.string a0) → W.cell? ⟨b1, 0, none⟩ = some (.string a1) → W.cell? ⟨b2, 0, none⟩ = some (.string a2) → Calls Try.prog 33 #[.func (.func 55) #[] #[.pointer (some ⟨b0, 0, none⟩), .pointer (some ⟨b1, 0, none⟩), .pointer (some ⟨b2, 0, none⟩)]] W fun e w' => e = .returned (.tuple #[.string n, .bool b]) ∧ Below W.heap.size W w') (w : World) :
    Calls Try.prog 25 #[.string a0, .string a1, .string a2] w fun e w' => e = .returned (.tuple #[.string n, .bool b]) ∧ Below w.heap.size w w' := by
  have H := Lib.hid HC
  clear HC
  have hmf : ∀ (fn : Fn) (first cap : Array Value) (w : World), (Instr.makeFunc fn first cap).run Try.prog w = .ok (.func fn first cap) w := fun _ _ _ _ => rfl
  go_enter Try.func25, Try.ntmps25
  go_wp2_with fail
  with_reducible refine (H.out _ _ _ _ (by rw [World.cell?_alloc_past _ _ _ (by simp; try omega)]; rw [World.cell?_alloc_past _ _ _ (by simp; try omega)]; rw [cnew _ 0 _ _ _ (by simp)]) (by rw [World.cell?_alloc_past _ _ _ (by simp; try omega)]; rw [cnew _ 1 _ _ _ (by simp)]) (by rw [cnew _ 2 _ _ _ (by simp)])).mono ?_
  rintro e w1 ⟨rfl, b1⟩
  have k1 := below_trans ((((Below.refl w.heap.size w).alloc (Nat.le_refl _) (.cells #[.string a0] 9)).alloc (by simp; try omega) (.cells #[.string a1] 9)).alloc (by simp; try omega) (.cells #[.string a2] 9)) b1 (by simp; try omega)
  go_wp2_with fail
  go_ret2
  exact ⟨rfl, k1⟩
theorem cf_WriteCell (args : Array Value) (w : World) : (callFunc 59 args).run Try.prog w = .ok (.enter 59 args) w := by kernel_rfl
set_option maxHeartbeats 1000000 in
theorem im_WriteCell (a0 : ByteArray) (a1 : ByteArray) (a2 : ByteArray) (n : ByteArray) (b : Bool) (HC : ∀ (W : World) (b0 b1 b2 : Nat), W.cell? ⟨b0, 0, none⟩ = some (.string a0) → W.cell? ⟨b1, 0, none⟩ = some (.string a1) → W.cell? ⟨b2, 0, none⟩ = some (.string a2) → Calls Try.prog 33 #[.func (.func 59) #[] #[.pointer (some ⟨b0, 0, none⟩), .pointer (some ⟨b1, 0, none⟩), .pointer (some ⟨b2, 0, none⟩)]] W fun e w' => e = .returned (.tuple #[.string n, .bool b]) ∧ Below W.heap.size W w') (w : World) :
    Calls Try.prog 27 #[.string a0, .string a1, .string a2] w fun e w' => e = .returned (.tuple #[.string n, .bool b]) ∧ Below w.heap.size w w' := by
  have H := Lib.hid HC
  clear HC
  have hmf : ∀ (fn : Fn) (first cap : Array Value) (w : World), (Instr.makeFunc fn first cap).run Try.prog w = .ok (.func fn first cap) w := fun _ _ _ _ => rfl
  go_enter Try.func27, Try.ntmps27
  go_wp2_with fail
  with_reducible refine (H.out _ _ _ _ (by rw [World.cell?_alloc_past _ _ _ (by simp; try omega)]; rw [World.cell?_alloc_past _ _ _ (by simp; try omega)]; rw [cnew _ 0 _ _ _ (by simp)]) (by rw [World.cell?_alloc_past _ _ _ (by simp; try omega)]; rw [cnew _ 1 _ _ _ (by simp)]) (by rw [cnew _ 2 _ _ _ (by simp)])).mono ?_
  rintro e w1 ⟨rfl, b1⟩
  have k1 := below_trans ((((Below.refl w.heap.size w).alloc (Nat.le_refl _) (.cells #[.string a0] 9)).alloc (by simp; try omega) (.cells #[.string a1] 9)).alloc (by simp; try omega) (.cells #[.string a2] 9)) b1 (by simp; try omega)
  go_wp2_with fail
  go_ret2
  exact ⟨rfl, k1⟩
theorem cf_ChoiceOf (args : Array Value) (w : World) : (callFunc 62 args).run Try.prog w = .ok (.enter 62 args) w := by kernel_rfl
set_option maxHeartbeats 1000000 in
theorem im_ChoiceOf (a0 : ByteArray) (a1 : ByteArray) (n : ByteArray) (b : Bool) (HC : ∀ (W : World) (b0 b1 : Nat), W.cell? ⟨b0, 0, none⟩ = some (.string a0) → W.cell? ⟨b1, 0, none⟩ = some (.string a1) → Calls Try.prog 33 #[.func (.func 62) #[] #[.pointer (some ⟨b0, 0, none⟩), .pointer (some ⟨b1, 0, none⟩)]] W fun e w' => e = .returned (.tuple #[.string n, .bool b]) ∧ Below W.heap.size W w') (w : World) :
    Calls Try.prog 29 #[.string a0, .string a1] w fun e w' => e = .returned (.tuple #[.string n, .bool b]) ∧ Below w.heap.size w w' := by
  have H := Lib.hid HC
  clear HC
  have hmf : ∀ (fn : Fn) (first cap : Array Value) (w : World), (Instr.makeFunc fn first cap).run Try.prog w = .ok (.func fn first cap) w := fun _ _ _ _ => rfl
  go_enter Try.func29, Try.ntmps29
  go_wp2_with fail
  with_reducible refine (H.out _ _ _ (by rw [World.cell?_alloc_past _ _ _ (by simp; try omega)]; rw [cnew _ 0 _ _ _ (by simp)]) (by rw [cnew _ 1 _ _ _ (by simp)])).mono ?_
  rintro e w1 ⟨rfl, b1⟩
  have k1 := below_trans (((Below.refl w.heap.size w).alloc (Nat.le_refl _) (.cells #[.string a0] 9)).alloc (by simp; try omega) (.cells #[.string a1] 9)) b1 (by simp; try omega)
  go_wp2_with fail
  go_ret2
  exact ⟨rfl, k1⟩
end Go.Proofs.Ytohaddhjnghcpaa.T1

/- The texts that the laws of codings rest on. No conditions. -/
