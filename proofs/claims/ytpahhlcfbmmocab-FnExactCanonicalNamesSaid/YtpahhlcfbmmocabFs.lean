/- What stands for each letter where nothing is bound: in the program. -/
import Derived.Test.YtpahhlcfbmmocabBi
import Derived.Laws.Tables
namespace Go.Proofs.Ytpahhlcfbmmocab.T1
open Go.RowKit
set_option maxRecDepth 100000
set_option linter.unusedVariables false

theorem below_setRow {B g : Nat} {u v : World} {cs : Array Value} (h : Below B u v) (hg : B ≤ g) (hB : B ≤ v.heap.size) : Below B u (v.setRow g cs) :=
  h.trans ⟨rfl, rfl, rfl, by simp, fun i hi => setRow_other v g i cs (by omega)⟩
/-- A scope as an array of bytes: what stands for each letter. -/
def ScOf (C : Array Value) (sc : UInt8 → UInt8) : Prop := C.size = 256 ∧ ∀ j, j < 256 → C[j]? = some (.int .u8 ((sc (UInt8.ofNat (j))).toNat : Int))
theorem zs256 : Hid ((Try.zeroCells58).size = 256) := by show _ = _; kernel_rfl
set_option maxHeartbeats 2000000 in
theorem freeScope_any (w : World) : Calls Try.prog 53 #[] w fun e w' => ∃ C, e = .returned (.agg C) ∧ ScOf C id ∧ Below w.heap.size w w' := by
  go_enter Try.func53, Try.ntmps53
  go_wp2_with fail
  obtain ⟨Z, hZ⟩ : ∃ Z : Array Value, Z = Try.zeroCells58 := ⟨_, rfl⟩
  rw [← hZ]
  have hZs : Hid (Z.size = 256) := by rw [hZ]; exact zs256
  obtain ⟨W, hW⟩ : ∃ W, W = (w.alloc (.cells Z 58)).alloc (.cells Z 58) := ⟨_, rfl⟩
  rw [← hW]
  have r0 : Hid (W.heap[w.heap.size]? = some (.cells Z 58 (0, 0))) := by rw [hW]; exact first_block _ _ _
  have r1 : Hid (W.heap[w.heap.size + 1]? = some (.cells Z 58 (0, 0))) := by rw [hW]; exact last_block _ _ _
  have bl : Below w.heap.size w W := by rw [hW]; exact below_two _ _ _
  clear hW hZ
  go_loopw [3] (fun i wr => ∃ (k : Nat) (C : Array Value), k ≤ 256 ∧ i = .int .i64 (k : Int) ∧ Hid (C.size = 256) ∧ Hid (∀ j, j < k → C[j]? = some (.int .u8 ((j : Nat) : Int))) ∧ Hid (wr.heap[w.heap.size]? = some (.cells Z 58 (0, 0))) ∧ Hid (wr.heap[w.heap.size + 1]? = some (.cells C 58 (0, 0))) ∧ Below w.heap.size w wr) (fun i _ => 256 - (intOf i).toNat)
  case atStart => exact ⟨0, Z, Nat.zero_le _, rfl, hZs, fun j h => by omega, r0, r1, bl⟩
  case round =>
    obtain ⟨k, C, hk, rfl, hC, hCj, h0, h1, hbw⟩ := hrel
    by_cases hlt : k < 256
    · obtain ⟨y, hy⟩ : ∃ y, C[k]? = some y := ⟨_, Array.getElem?_eq_getElem (by have := hC.out; omega)⟩
      have c1 : wr.cell? ⟨w.heap.size + 1, k, none⟩ = some y := by rw [cell_of_row wr _ k C _ _ h1.out]; exact hy
      have f1 := frozen_of_row wr (w.heap.size + 1) k C _ h1.out
      have hw8 : IntKind.u8.wrap ((k : Int)) = (k : Int) := by rw [IntKind.wrap_u8] <;> omega
      have H1 := Lib.hid (heap_setCell_same wr (w.heap.size + 1) k C 58 (.int .u8 ((k : Int))) h1.out)
      have H0 : Hid ((wr.setCell ⟨w.heap.size + 1, k, none⟩ (.int .u8 ((k : Int)))).heap[w.heap.size]? = some (.cells Z 58 (0, 0))) := row_set h0.out (by omega)
      have HS : Hid ((C.setIfInBounds k (.int .u8 ((k : Int)))).size = 256) := by show _ = _; rw [Array.size_setIfInBounds]; exact hC.out
      have HJ : Hid (∀ j, j < k + 1 → (C.setIfInBounds k (.int .u8 ((k : Int))))[j]? = some (.int .u8 ((j : Nat) : Int))) := fun j hj => by
        by_cases e : k = j
        · subst e
          rw [Array.getElem?_setIfInBounds_self_of_lt (by have := hC.out; omega)]
        · rw [Array.getElem?_setIfInBounds_ne e]; exact hCj.out j (by omega)
      clear hy
      go_wp2_with fail
      go_roundw
      case rel => exact ⟨k + 1, _, by omega, by go_num, HS, HJ, H0, H1, hbw.setCell (p := ⟨w.heap.size + 1, k, none⟩) (by show w.heap.size ≤ w.heap.size + 1; omega) _⟩
      case measure => simp [intOf]; omega
    · obtain rfl : k = 256 := by omega
      have HSc : Hid (ScOf C id) := ⟨hC.out, fun j hj => by rw [hCj.out j hj]; show _ = some (Value.int .u8 (((UInt8.ofNat (j)).toNat : Nat) : Int)); rw [UInt8.toNat_ofNat', Nat.mod_eq_of_lt (by omega)]⟩
      have hi : Hid ((Try.prog.info? 58).map (·.size) = some C.size) := by show _ = _; rw [Try.infoSc, hC.out]
      have hone : Hid (C.all (·.oneCell') = true) := by
        refine Array.all_eq_true.2 fun i hi => ?_
        have hi' : i < 256 := by have := hC.out; omega
        have h1 := hCj.out i hi'
        rw [Array.getElem?_eq_getElem hi] at h1
        simp only [Option.some.injEq] at h1
        rw [h1]; rfl
      have hold : Hid (Z.size = C.size) := by show _ = _; rw [hZs.out, hC.out]
      clear hC hCj
      go_wp2_with (first | refine wpList_load_row rfl 58 (.tmp 1) rfl (w.heap.size + 1) rfl 58 C (0, 0) _ h1.out Try.underlying58 rfl hi.out ?_ | refine wpList_store_row rfl 58 (.tmp 0) (.tmp 11) rfl w.heap.size C rfl rfl 58 Z h0.out hi.out hold.out hone.out ?_)
      exact bodyPost_ret (v := .agg C) (results_cell_row (t := 58) (fr := (0, 0)) rfl _ _ w.heap.size _ _ rfl (setRow_heap wr w.heap.size Z C 58 _ h0.out) Try.underlying58 rfl hi.out) rfl ⟨C, rfl, HSc.out, below_setRow hbw (Nat.le_refl _) hbw.size⟩

end Go.Proofs.Ytpahhlcfbmmocab.T1
