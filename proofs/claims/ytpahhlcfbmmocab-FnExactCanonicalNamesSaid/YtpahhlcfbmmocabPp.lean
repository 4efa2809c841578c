/- A process with other parts; with another process at a path: in the specification. -/
import Derived.Test.YtpahhlcfbmmocabRq
import Derived.Deep.RegionWith
namespace Go.Proofs.Ytpahhlcfbmmocab.T1
open Go.RowKit
set_option maxRecDepth 100000
set_option linter.unusedVariables false

set_option maxHeartbeats 2000000 in
theorem tw_one (s X : ByteArray) (kd : Int) (hd : Nat) (hs : s.size ≤ 700) (hX : X.size ≤ 1000) (hh : hd ≤ s.size) (b0 : (kd == 48) = false) (b1 : (kd == 43) = false) (b2 : (kd == 38) = false)
    (HK : ∀ w, Calls Try.prog 76 #[.string s] w fun e w' => e = .returned (.int .u8 kd) ∧ w = w') (HH : ∀ w, Calls Try.prog 75 #[.string s] w fun e w' => e = .returned (.int .i64 (hd : Int)) ∧ w = w') (g n cap : Nat) (hn : 1 ≤ n) (w : World) (c0 : w.cell? ⟨g, 0, none⟩ = some (.string X)) :
    Calls Try.prog 78 #[.string s, .slice (some ⟨g, 0, none⟩) n cap] w fun e w' => e = .returned (.string (s.extract 0 hd ++ X)) ∧ Below w.heap.size w w' := by
  have HK' := Lib.hid HK
  have HH' := Lib.hid HH
  have n0 : (0 : Int) < (n : Int) := by omega
  have h1 : (hd : Int) ≤ (s.size : Int) := by omega
  clear HK HH
  go_enter Try.func78, Try.ntmps78
  go_wp2_with fail
  refine (HK'.out _).mono ?_
  rintro e w1 ⟨rfl, rfl⟩
  go_wp2_with fail
  go_quiet ((go_at_call 75; exact Calls.quiet_of_same ((HH'.out _).mono fun _ _ hh => ⟨hh.1, hh.2.symm⟩)))
  go_wp2_with fail
  go_ret
  first | exact ⟨rfl, Below.refl _ _⟩ | exact ⟨rfl, (Below.refl _ _).drew⟩ | exact ⟨rfl, (Below.refl _ _).drewN _⟩ | exact ⟨rfl, below_drewN' (Below.refl _ _) _⟩
set_option maxHeartbeats 2000000 in
theorem tw_two (s X Y : ByteArray) (kd : Int) (m : UInt8) (hX : X.size ≤ 1000) (hY : Y.size ≤ 1000) (hm : (kd = 43 ∧ m = 43) ∨ (kd = 38 ∧ m = 38))
    (HK : ∀ w, Calls Try.prog 76 #[.string s] w fun e w' => e = .returned (.int .u8 kd) ∧ w = w') (g n cap : Nat) (hn : 2 ≤ n) (w : World) (c0 : w.cell? ⟨g, 0, none⟩ = some (.string X)) (c1 : w.cell? ⟨g, 1, none⟩ = some (.string Y)) :
    Calls Try.prog 78 #[.string s, .slice (some ⟨g, 0, none⟩) n cap] w fun e w' => e = .returned (.string (one 40 ++ X ++ one m ++ Y ++ one 41)) ∧ Below w.heap.size w w' := by
  have HK' := Lib.hid HK
  have n0 : (0 : Int) < (n : Int) := by omega
  have n1 : (1 : Int) < (n : Int) := by omega
  clear HK
  rcases hm with ⟨rfl, rfl⟩ | ⟨rfl, rfl⟩
  all_goals
    go_enter Try.func78, Try.ntmps78
    go_wp2_with fail
    refine (HK'.out _).mono ?_
    rintro e w1 ⟨rfl, rfl⟩
    go_wp2_with fail
    go_quiet (fail)
    go_wp2_with fail
    go_ret
    first | exact ⟨rfl, Below.refl _ _⟩ | exact ⟨rfl, (Below.refl _ _).drew⟩ | exact ⟨rfl, (Below.refl _ _).drewN _⟩ | exact ⟨rfl, below_drewN' (Below.refl _ _) _⟩

theorem Try.infoS : (Try.prog.info? 9).map (fun i => (i.zero, i.size, i.bytes)) = some (some (.string ⟨#[]⟩), 1, 16) := by kernel_rfl
theorem cellsAt {w : World} {b : Nat} {C : Array Value} {T : TypeId} (h : w.heap[b]? = some (.cells C T (0, 0))) (j : Nat) (x : Value) (hx : C[j]? = some x) : w.cell? ⟨b, j, none⟩ = some x := by simp [World.cell?, h, hx]
theorem cellsFree {w : World} {b : Nat} {C : Array Value} {T : TypeId} (h : w.heap[b]? = some (.cells C T (0, 0))) (j : Nat) : w.frozen? ⟨b, j, none⟩ = false := by simp [World.frozen?, h]
theorem set_cells {w : World} {b : Nat} {C : Array Value} {T : TypeId} (h : w.heap[b]? = some (.cells C T (0, 0))) (j : Nat) (v : Value) : (w.setCell ⟨b, j, none⟩ v).heap[b]? = some (.cells (C.setIfInBounds j v) T (0, 0)) := by
  have hlt := lt_of_block h
  have h' : w.heap[b] = .cells C T (0, 0) := by simpa [Array.getElem?_eq_getElem hlt] using h
  show (w.heap.modify b _)[b]? = _
  rw [Array.getElem?_eq_getElem (by simpa using hlt), Array.getElem_modify_self, h']
  rfl
theorem setAt {C : Array Value} {j : Nat} {x v : Value} (h : C[j]? = some x) : (C.setIfInBounds j v)[j]? = some v := by
  have hlt : j < C.size := by
    rcases Nat.lt_or_ge j C.size with h' | h'
    · exact h'
    · rw [Array.getElem?_eq_none h'] at h; cases h
  rw [Array.getElem?_setIfInBounds_self_of_lt hlt]
end Go.Proofs.Ytpahhlcfbmmocab.T1
