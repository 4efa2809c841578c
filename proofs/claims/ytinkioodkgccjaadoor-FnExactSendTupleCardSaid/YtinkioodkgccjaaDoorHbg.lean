/- Texts of the proof, put together: Iw. No conditions. -/
import Derived.Test.YtinkioodkgccjaaDoorHan
import Derived.Test.YtinkioodkgccjaaDoorHaw
import Derived.Test.YtinkioodkgccjaaDoorHay

/- Is a name free, by a set of letters; a text that is one name, or none: both sides. -/
namespace Go.Proofs.YtinkioodkgccjaaDoor.T1
open Go.RowKit
set_option maxRecDepth 100000
set_option linter.unusedVariables false
set_option linter.unusedSimpArgs false

theorem nm_lo {c : UInt8} (h : nmL c = false) : ((c.toNat : Nat) : Int) < 97 ∨ 122 < ((c.toNat : Nat) : Int) := by
  rcases Nat.lt_or_ge c.toNat 97 with h1 | h1
  · exact .inl (by omega)
  · rcases Nat.lt_or_ge 122 c.toNat with h2 | h2
    · exact .inr (by omega)
    · have := (nmL_iff c).2 ⟨h1, h2⟩; rw [h] at this; cases this
set_option maxHeartbeats 1000000 in
theorem one_len (X : ByteArray) (hq : ((X.size : Int) == 1) = false) (hq2 : ((X.size : Int) != 1) = true) (w : World) : Calls Tryd.prog 9 #[.string X] w fun e w' => e = .returned (.bool false) ∧ Below w.heap.size w w' := by
  go_enter Tryd.func9, Tryd.ntmps9
  go_wp2_with fail
  go_ret
  exact ⟨rfl, Below.refl _ _⟩
set_option maxHeartbeats 1000000 in
theorem one_lo (X : ByteArray) (h0 : 0 < X.size) (hq : ((X.size : Int) == 1) = true) (h1 : ((X[0]'h0).toNat : Int) < 97) (w : World) : Calls Tryd.prog 9 #[.string X] w fun e w' => e = .returned (.bool false) ∧ Below w.heap.size w w' := by
  skip
  go_enter Tryd.func9, Tryd.ntmps9
  go_wp2_with fail
  all_goals go_ret
  all_goals exact ⟨rfl, Below.refl _ _⟩
set_option maxHeartbeats 1000000 in
theorem one_hi (X : ByteArray) (h0 : 0 < X.size) (hq : ((X.size : Int) == 1) = true) (h1 : 122 < ((X[0]'h0).toNat : Int)) (w : World) : Calls Tryd.prog 9 #[.string X] w fun e w' => e = .returned (.bool false) ∧ Below w.heap.size w w' := by
  have hd : decide (((X[0]'h0).toNat : Int) ≤ 122) = false := decide_eq_false (by omega)
  go_enter Tryd.func9, Tryd.ntmps9
  go_wp2_with fail
  all_goals go_ret
  all_goals exact ⟨rfl, Below.refl _ _⟩
set_option maxHeartbeats 1000000 in
theorem one_yes (X : ByteArray) (h0 : 0 < X.size) (hq : ((X.size : Int) == 1) = true) (h1 : 97 ≤ ((X[0]'h0).toNat : Int)) (h2 : ((X[0]'h0).toNat : Int) ≤ 122) (w : World) : Calls Tryd.prog 9 #[.string X] w fun e w' => e = .returned (.bool true) ∧ Below w.heap.size w w' := by
  skip
  go_enter Tryd.func9, Tryd.ntmps9
  go_wp2_with fail
  all_goals go_ret
  all_goals exact ⟨rfl, Below.refl _ _⟩
set_option maxHeartbeats 1000000 in
theorem rn_len (X : ByteArray) (hq : ((X.size : Int) == 1) = false) (hq2 : ((X.size : Int) != 1) = true) (w : World) : Calls Tryd.prog 38 #[.string X] w fun e w' => e = .returned (.tuple #[.int .u8 0, .bool false]) ∧ Below w.heap.size w w' := by
  go_enter Tryd.func38, Tryd.ntmps38
  go_wp2_with fail
  go_ret2
  exact ⟨rfl, Below.refl _ _⟩
set_option maxHeartbeats 1000000 in
theorem rn_no (X : ByteArray) (h0 : 0 < X.size) (hq : ((X.size : Int) != 1) = false) (HL : ∀ w, Calls Tryd.prog 59 #[.int .i32 ((X[0]'h0).toNat : Int)] w fun e w' => e = .returned (.bool false) ∧ w = w') (w : World) : Calls Tryd.prog 38 #[.string X] w fun e w' => e = .returned (.tuple #[.int .u8 0, .bool false]) ∧ Below w.heap.size w w' := by
  have H := Lib.hid HL
  have hby : (X[0]'h0).toNat < 256 := (X[0]'h0).toNat_lt
  clear HL
  go_enter Tryd.func38, Tryd.ntmps38
  go_wp2_with fail
  refine (H.out _).mono ?_
  rintro e w1 ⟨rfl, rfl⟩
  go_wp2_with fail
  go_ret2
  exact ⟨rfl, Below.refl _ _⟩
set_option maxHeartbeats 1000000 in
theorem rn_yes (X : ByteArray) (h0 : 0 < X.size) (hq : ((X.size : Int) != 1) = false) (HL : ∀ w, Calls Tryd.prog 59 #[.int .i32 ((X[0]'h0).toNat : Int)] w fun e w' => e = .returned (.bool true) ∧ w = w') (w : World) : Calls Tryd.prog 38 #[.string X] w fun e w' => e = .returned (.tuple #[.int .u8 ((X[0]'h0).toNat : Int), .bool true]) ∧ Below w.heap.size w w' := by
  have H := Lib.hid HL
  have hby : (X[0]'h0).toNat < 256 := (X[0]'h0).toNat_lt
  clear HL
  go_enter Tryd.func38, Tryd.ntmps38
  go_wp2_with fail
  refine (H.out _).mono ?_
  rintro e w1 ⟨rfl, rfl⟩
  go_wp2_with fail
  go_ret2
  exact ⟨rfl, Below.refl _ _⟩

end Go.Proofs.YtinkioodkgccjaaDoor.T1
