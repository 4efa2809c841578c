/- The names of a sign that it does not bind: in the specification. -/
import Derived.Test.YtpahhlcfbmmocabTg
import Derived.Test.YtpahhlcfbmmocabUs
namespace Go.Proofs.Ytpahhlcfbmmocab.T1
open Go.RowKit
set_option maxRecDepth 100000
set_option linter.unusedVariables false
set_option linter.unusedSimpArgs false

set_option maxHeartbeats 1000000 in
theorem nm_two33 (s : ByteArray) (hs : 4 ≤ s.size) (hs3 : s.size ≤ 700) (HK : ∀ w, Calls Try.prog 76 #[.string s] w fun e w' => e = .returned (.int .u8 33) ∧ w = w') (w : World) : Calls Try.prog 89 #[.string s] w fun e w' => e = .returned (.string (s.extract 0 1 ++ s.extract 2 3)) ∧ Below w.heap.size w w' := by
  have H := Lib.hid HK
  clear HK
  go_enter Try.func89, Try.ntmps89
  go_wp2_with fail
  refine (H.out _).mono ?_
  rintro e w1 ⟨rfl, rfl⟩
  go_wp2_with fail
  go_quiet (fail)
  go_wp2_with fail
  go_ret
  exact ⟨rfl, below_drewN' (Below.refl _ _) _⟩
set_option maxHeartbeats 1000000 in
theorem nm_two61 (s : ByteArray) (hs : 4 ≤ s.size) (hs3 : s.size ≤ 700) (HK : ∀ w, Calls Try.prog 76 #[.string s] w fun e w' => e = .returned (.int .u8 61) ∧ w = w') (w : World) : Calls Try.prog 89 #[.string s] w fun e w' => e = .returned (.string (s.extract 1 2 ++ s.extract 3 4)) ∧ Below w.heap.size w w' := by
  have H := Lib.hid HK
  clear HK
  go_enter Try.func89, Try.ntmps89
  go_wp2_with fail
  refine (H.out _).mono ?_
  rintro e w1 ⟨rfl, rfl⟩
  go_wp2_with fail
  go_quiet (fail)
  go_wp2_with fail
  go_ret
  exact ⟨rfl, below_drewN' (Below.refl _ _) _⟩
set_option maxHeartbeats 1000000 in
theorem nm_one (s : ByteArray) (hs : 4 ≤ s.size) (hs3 : s.size ≤ 700) (HK : ∀ w, Calls Try.prog 76 #[.string s] w fun e w' => e = .returned (.int .u8 63) ∧ w = w') (w : World) : Calls Try.prog 89 #[.string s] w fun e w' => e = .returned (.string (s.extract 0 1)) ∧ Below w.heap.size w w' := by
  have H := Lib.hid HK
  clear HK
  go_enter Try.func89, Try.ntmps89
  go_wp2_with fail
  refine (H.out _).mono ?_
  rintro e w1 ⟨rfl, rfl⟩
  go_wp2_with fail
  go_ret
  exact ⟨rfl, Below.refl _ _⟩
set_option maxHeartbeats 1000000 in
theorem nm_no (s : ByteArray) (kd : Int) (b0 : (kd == 33) = false) (b1 : (kd == 63) = false) (b2 : (kd == 61) = false) (HK : ∀ w, Calls Try.prog 76 #[.string s] w fun e w' => e = .returned (.int .u8 kd) ∧ w = w') (w : World) : Calls Try.prog 89 #[.string s] w fun e w' => e = .returned (.string ⟨#[]⟩) ∧ Below w.heap.size w w' := by
  have H := Lib.hid HK
  clear HK
  go_enter Try.func89, Try.ntmps89
  go_wp2_with fail
  refine (H.out _).mono ?_
  rintro e w1 ⟨rfl, rfl⟩
  go_wp2_with fail
  go_ret
  exact ⟨rfl, Below.refl _ _⟩
theorem ext_one (t : Tm) (i : Nat) (h : i < t.pr.length) : (S t).extract i (i + 1) = B [t.pr[i]] := by
  apply B_eq
  rw [ByteArray.data_extract, Array.toList_extract, S_list, List.extract_eq_take_drop, show i + 1 - i = 1 by omega, List.drop_eq_getElem_cons h]
  rfl
theorem B_app (l m : List UInt8) : B l ++ B m = B (l ++ m) := by
  apply B_eq
  rw [ByteArray.data_append, Array.toList_append, B_list, B_list]
theorem tmNames_any (t : Tm) (ho : t.ok nmE = true) (hl : t.pr.length ≤ 700) (w : World) : Calls Try.prog 89 #[.string (S t)] w fun e w' => e = .returned (.string (B t.used)) ∧ Below w.heap.size w w' := by
  have HK := tmKind_any t ho hl
  have hs3 : (S t).size ≤ 700 := by rw [S_size]; exact hl
  cases t with
  | snd a b p =>
    have h := nm_two33 _ (by rw [S_size]; simp [Tm.pr]) hs3 HK w
    rw [ext_one _ 0 (by simp [Tm.pr]), ext_one _ 2 (by simp [Tm.pr]), B_app] at h
    exact h
  | mat a b p =>
    have h := nm_two61 _ (by rw [S_size]; simp [Tm.pr]) hs3 HK w
    rw [ext_one _ 1 (by simp [Tm.pr]), ext_one _ 3 (by simp [Tm.pr]), B_app] at h
    exact h
  | rcv a x p =>
    have h := nm_one _ (by rw [S_size]; simp [Tm.pr]) hs3 HK w
    rw [ext_one _ 0 (by simp [Tm.pr])] at h
    exact h
  | nil => exact nm_no _ 48 (by decide) (by decide) (by decide) HK w
  | tau p => exact nm_no _ 126 (by decide) (by decide) (by decide) HK w
  | sum p q => exact nm_no _ 43 (by decide) (by decide) (by decide) HK w
  | par p q => exact nm_no _ 38 (by decide) (by decide) (by decide) HK w
  | own x p => exact nm_no _ 35 (by decide) (by decide) (by decide) HK w
  | rep p => exact nm_no _ 42 (by decide) (by decide) (by decide) HK w

end Go.Proofs.Ytpahhlcfbmmocab.T1
