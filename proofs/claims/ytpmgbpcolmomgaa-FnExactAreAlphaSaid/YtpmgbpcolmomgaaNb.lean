/- A process with marks for the names that are bound, as a text: in the program. -/
import Derived.Test.YtpmgbpcolmomgaaBj
import Derived.Test.YtpmgbpcolmomgaaTx
namespace Go.Proofs.Ytpmgbpcolmomgaa.T1
open Go.RowKit
set_option maxRecDepth 100000
set_option linter.unusedVariables false

theorem mk60 (w : World) : (Instr.makeSlice 52 (.int .i64 60) (.int .i64 60)).run Try.prog w = .ok (.slice (some ⟨w.heap.size, 0, none⟩) 60 60) (w.alloc (.cells (Array.replicate 60 (.int .u8 0)) 5)) := by kernel_rfl
theorem mk_at (j : Nat) (h : j < 60) : ((marks[j]'(by rw [marks_len]; exact h)).toNat : Int) = ((123 + j : Nat) : Int) := by
  have : marks[j]'(by rw [marks_len]; exact h) = UInt8.ofNat (123 + j) := by unfold marks; simp
  rw [this, UInt8.toNat_ofNat', Nat.mod_eq_of_lt (by omega)]
set_option maxHeartbeats 2000000 in
theorem numbered0 (T T2 : TypeId) (V V2 : Value) (Y : ByteArray) (hS : ∀ w, Calls Try.prog 42 #[] w fun e w' => ∃ C, e = .returned (.agg C) ∧ ScOf C id ∧ Below w.heap.size w w')
    (hBI : ∀ C v g w, ScOf C id → g ≤ w.heap.size → NmS w g v marks → Calls Try.prog 41 #[.iface T V, .agg C, v] w fun e w' => ∃ v', e = .returned (.tuple #[.iface T2 V2, v']) ∧ Below w.heap.size w w')
    (hX : ∀ w, Calls Try.prog 43 #[.iface T2 V2] w fun e w' => e = .returned (.string Y) ∧ Below w.heap.size w w') (w : World) :
    Calls Try.prog 45 #[.iface T V] w fun e w' => e = .returned (.string Y) ∧ Below w.heap.size w w' := by
  have HS := Lib.hid hS
  have HBI := Lib.hid hBI
  have HX := Lib.hid hX
  have hmk := mk60
  clear hS hBI hX
  obtain ⟨Z, hZ⟩ : ∃ Z : Array Value, Z = Array.replicate 60 (.int .u8 0) := ⟨_, rfl⟩
  rw [← hZ] at hmk
  have hZs : Hid (Z.size = 60) := by rw [hZ]; simp [Hid]
  clear hZ
  go_enter Try.func45, Try.ntmps45
  go_wp2_with fail
  clear hmk
  go_loopw [8] (fun i wr => ∃ (k : Nat) (C : Array Value), k ≤ 60 ∧ i = .int .i64 (k : Int) ∧ Hid (C.size = 60) ∧ Hid (∀ j, j < k → C[j]? = some (.int .u8 ((123 + j : Nat) : Int))) ∧ Hid (wr.heap[w.heap.size]? = some (.cells C 5 (0, 0))) ∧ Below w.heap.size w wr) (fun i _ => 60 - (intOf i).toNat)
  case atStart => exact ⟨0, Z, Nat.zero_le _, rfl, hZs, fun j h => by omega, new_block0 _ _, below_go' (Below.refl _ _) _⟩
  case round =>
    obtain ⟨k, C, hk, rfl, hC, hCj, h1, hbw⟩ := hrel
    by_cases hlt : k < 60
    · obtain ⟨y, hy⟩ : ∃ y, C[k]? = some y := ⟨_, Array.getElem?_eq_getElem (by have := hC.out; omega)⟩
      have c1 : wr.cell? ⟨w.heap.size, k, none⟩ = some y := by rw [cell_of_row wr _ k C _ _ h1.out]; exact hy
      have f1 := frozen_of_row wr w.heap.size k C _ h1.out
      have H1 := Lib.hid (heap_setCell_same wr w.heap.size k C 5 (.int .u8 (123 + (k : Int))) h1.out)
      have HSz : Hid ((C.setIfInBounds k (.int .u8 (123 + (k : Int)))).size = 60) := by show _ = _; rw [Array.size_setIfInBounds]; exact hC.out
      have HJ : Hid (∀ j, j < k + 1 → (C.setIfInBounds k (.int .u8 (123 + (k : Int))))[j]? = some (.int .u8 ((123 + j : Nat) : Int))) := fun j hj => by
        by_cases e : k = j
        · subst e
          rw [Array.getElem?_setIfInBounds_self_of_lt (by have := hC.out; omega)]; push_cast; rfl
        · rw [Array.getElem?_setIfInBounds_ne e]; exact hCj.out j (by omega)
      clear hy
      go_wp2_with fail
      go_roundw
      case rel => exact ⟨k + 1, _, by omega, by go_num, HSz, HJ, H1, hbw.setCell (p := ⟨w.heap.size, k, none⟩) (Nat.le_refl _) _⟩
      case measure => simp [intOf]; omega
    · obtain rfl : k = 60 := by omega
      have HN : Hid (NmS wr w.heap.size (.slice (some ⟨w.heap.size, 0, none⟩) 60 60) marks) := by
        refine ⟨_, _, by rw [marks_len], by rw [marks_len]; omega, fun _ => ⟨0, rfl, fun j hj => ?_⟩⟩
        have hj' : j < 60 := by rw [marks_len] at hj; exact hj
        rw [Nat.zero_add, cell_of_row wr _ j C _ _ h1.out, hCj.out j hj', mk_at j hj']
      clear hC hCj h1
      go_wp2_with fail
      refine (HS.out _).mono ?_
      rintro e w1 ⟨C1, rfl, hsc, b1⟩
      have HSC := Lib.hid hsc
      have bl1 := below_go hbw b1
      have HN1 := Lib.hid (HN.out.below b1)
      clear hsc
      go_wp2_with fail
      refine (HBI.out _ _ _ _ HSC.out bl1.size HN1.out).mono ?_
      rintro e w2 ⟨v2, rfl, b2⟩
      have bl2 := below_go bl1 b2
      go_wp2_with fail
      refine (HX.out _).mono ?_
      rintro e w3 ⟨rfl, b3⟩
      have bl3 := below_go bl2 b3
      go_wp2_with fail
      go_ret
      exact ⟨rfl, bl3⟩
theorem numbered_any (t : Tm) (ht : t.ok nmL = true) (hl : t.pr.length ≤ 300) (hb : t.bnd.length ≤ 60) (w : World) : Calls Try.prog 45 #[.iface (tyOf t) (pay t)] w fun e w' => e = .returned (.string (S (can t id marks))) ∧ Below w.heap.size w w' :=
  numbered0 _ _ _ _ _ (fun w => freeScope_any w) (fun C v g w hsc hg hn => (bindInOrder_any t id C marks v g w ht hsc hg hn (by rw [marks_len]; exact hb)).mono fun e w' ⟨v', h1, _, h3⟩ => ⟨v', h1, h3⟩) (textOf_any (can t id marks) (by have := (can_len t id marks).1; omega)) w

end Go.Proofs.Ytpmgbpcolmomgaa.T1
