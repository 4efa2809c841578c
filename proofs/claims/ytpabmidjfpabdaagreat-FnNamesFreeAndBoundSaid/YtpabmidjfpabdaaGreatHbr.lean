/- Texts of the proof, put together: CIsWellNamed, CSizeOf, Ya. No conditions. -/
import Derived.Test.YtpabmidjfpabdaaGreatHaq
import Derived.Test.YtpabmidjfpabdaaGreatHar
import Derived.Test.YtpabmidjfpabdaaGreatHat
import Derived.Test.YtpabmidjfpabdaaGreatHaz
import Derived.Test.YtpabmidjfpabdaaGreatHbg
import Derived.Test.YtpabmidjfpabdaaGreatHbh
import Derived.Test.YtpabmidjfpabdaaGreatHbo
import Derived.Test.YtpabmidjfpabdaaGreatHbq
import Derived.Test.YtpabmidjfpabdaaGreatProg
import Derived.WalkKit
import Derived.ProofKit
import Derived.OpenShut
import Derived.ShutString
import Derived.ChangeOld
import Derived.Below

/- What IsWellNamed answers on both sides. No conditions. -/
namespace Go.Proofs.YtpabmidjfpabdaaGreat
namespace LawIsWellNamed
open Go.ChangeShapes Go.WideShapes Go.ChangeAt Go.RowKit Go.Proofs.YtpabmidjfpabdaaGreat.T1
open Go.ChangeMaps (open_string shut_string)
set_option linter.unusedVariables false

theorem spec_none (s : ByteArray) (hg : good s.data.toList = none) (hm : s.size ≤ 9223372036854775807) (w : World) : Calls Tryz.prog 17 #[.string s] w fun e w' => e = .returned (.tuple #[.bool false, .bool false]) ∧ Below w.heap.size w w' := by
  have H := Lib.hid (tmGood_none hg w hm)
  clear hg
  go_enter Tryz.func17, Tryz.ntmps17
  go_wp2_with fail
  refine (H.out).mono ?_
  rintro e w1 ⟨rfl, bl⟩
  go_wp2_with fail
  go_ret2
  exact ⟨rfl, bl⟩
theorem impl_none (s : ByteArray) (hg : good s.data.toList = none) (hm : s.size ≤ 9223372036854775807) (w : World) : Calls Tryz.prog 16 #[.string s] w fun e w' => e = .returned (.tuple #[.bool false, .bool false]) ∧ Below w.heap.size w w' := by
  have H := Lib.hid (parse_none hg w hm)
  clear hg
  go_enter Tryz.func16, Tryz.ntmps16
  go_wp2_with fail
  refine (H.out).mono ?_
  rintro e w1 ⟨rfl, bl⟩
  go_wp2_with fail
  go_ret2
  exact ⟨rfl, bl⟩
set_option maxHeartbeats 1000000 in
theorem spec_some (s : ByteArray) (t : Tm) (hg : good s.data.toList = some t) (hm : s.size ≤ 9223372036854775807) (w : World) : Calls Tryz.prog 17 #[.string s] w fun e w' => e = .returned (.tuple #[.bool (decide t.wellN), .bool true]) ∧ Below w.heap.size w w' := by
  have H := Lib.hid (tmGood_some hg w hm)
  obtain ⟨es, hL, hE, h300, h60⟩ := good_S hg
  have HS := specWell s t (by have := bnd_pr t; omega) (tmGood_some hg · hm) (by rw [es]; exact tmBinders_any t hE (by omega)) (by rw [es]; exact tmFree_any t hE (by omega)) w
  exact HS

set_option maxHeartbeats 1000000 in
theorem impl_some (s : ByteArray) (t : Tm) (hg : good s.data.toList = some t) (hm : s.size ≤ 9223372036854775807) (w : World) : Calls Tryz.prog 16 #[.string s] w fun e w' => e = .returned (.tuple #[.bool (decide t.wellN), .bool true]) ∧ Below w.heap.size w w' := by
  have H := Lib.hid (parse_some hg w hm)
  obtain ⟨es, hL, hE, h300, h60⟩ := good_S hg
  have hB := letters_any (setN t.bnd) (setN_lt32 _ (lets_bnd t hL))
  rw [← setN_nilboth _ (lets_bnd t hL), lets_setN _ (srt_bothL _ srt_nil) (lets_bothL lets_nil0 (lets_bnd t hL)), setN_nilboth _ (lets_bnd t hL)] at hB
  have hbl := bnd_len t
  have hb2 := srt_len (srt_bothL t.bnd srt_nil)
  have HS := implWell s _ _ _ _ _ _ _ (by omega) (by omega) (parse_some hg · hm) (boundNames_any t hL) (bindersIn_any t (by omega)) hB (freeNames_any t hL) w
  rw [and32 _ _ (setN_lt32 _ (lets_bnd t hL)) (setN_lt32 _ (lets_free t hL))] at HS
  rw [show decide t.wellN = (decide (t.bnd.length = (bothL [] t.bnd).length) && (((setN t.bnd &&& setN t.free : Nat) : Int) == 0)) from by
    rw [Bool.eq_iff_iff, decide_eq_true_iff, wellN_iff t hL, Bool.and_eq_true, decide_eq_true_iff]
    refine and_congr_right fun _ => ?_
    constructor
    · intro h; rw [h]; rfl
    · intro h; have := eq_of_beq h; omega]
  exact HS
end LawIsWellNamed
end Go.Proofs.YtpabmidjfpabdaaGreat

/- What SizeOf answers on both sides. No conditions. -/
namespace Go.Proofs.YtpabmidjfpabdaaGreat
namespace LawSizeOf
open Go.ChangeShapes Go.WideShapes Go.ChangeAt Go.RowKit Go.Proofs.YtpabmidjfpabdaaGreat.T1
open Go.ChangeMaps (open_string shut_string)
set_option linter.unusedVariables false

theorem impl_none (s : ByteArray) (hg : good s.data.toList = none) (hm : s.size ≤ 9223372036854775807) (w : World) : Calls Tryz.prog 9 #[.string s] w fun e w' => e = .returned (.tuple #[.int .i64 0, .bool false]) ∧ Below w.heap.size w w' := by
  have H := Lib.hid (parse_none hg w hm)
  clear hg
  go_enter Tryz.func9, Tryz.ntmps9
  go_wp2_with fail
  refine (H.out).mono ?_
  rintro e w1 ⟨rfl, bl⟩
  go_wp2_with fail
  go_ret2
  exact ⟨rfl, bl⟩
set_option maxHeartbeats 1000000 in
theorem impl_some (s : ByteArray) (t : Tm) (hg : good s.data.toList = some t) (hm : s.size ≤ 9223372036854775807) (w : World) : Calls Tryz.prog 9 #[.string s] w fun e w' => e = .returned (.tuple #[.int .i64 (t.size : Nat), .bool true]) ∧ Below w.heap.size w w' := by
  have H := Lib.hid (parse_some hg w hm)
  obtain ⟨es, hL, hE, h300, h60⟩ := good_S hg
  have HS := size_any t (by omega)
  obtain ⟨T, hT⟩ : ∃ T, T = tyOf t := ⟨_, rfl⟩
  obtain ⟨V, hV⟩ : ∃ V, V = pay t := ⟨_, rfl⟩
  obtain ⟨N, hN⟩ : ∃ N, N = t.size := ⟨_, rfl⟩
  rw [← hT, ← hV, ← hN] at HS
  rw [← hT, ← hV] at H
  rw [← hN]
  have H2 := Lib.hid HS
  clear hg es hL hE h300 h60 HS hT hV hN
  go_enter Tryz.func9, Tryz.ntmps9
  go_wp2_with fail
  refine (H.out).mono ?_
  rintro e w1 ⟨rfl, bl⟩
  go_wp2_with fail
  refine (H2.out _).mono ?_
  rintro e w2 ⟨rfl, b2⟩
  go_wp2_with fail
  go_ret2
  exact ⟨rfl, below_trans bl b2 bl.size⟩
end LawSizeOf
end Go.Proofs.YtpabmidjfpabdaaGreat

/- What renaming, free and bound names, fresh names and likeness answer, as values. No conditions. -/
namespace Go.Proofs.YtpabmidjfpabdaaGreat.T1
open Go.RowKit
set_option maxRecDepth 100000
set_option linter.unusedVariables false
set_option linter.unusedSimpArgs false

def AnsN (F : FuncId) (args : Array Value) (v : Value) : Prop := ∀ w, Calls Tryz.prog F args w fun e w' => e = .returned v ∧ Below w.heap.size w w'
def TwoN (F G : FuncId) (args : Array Value) (v : Value) : Prop := AnsN F args v ∧ AnsN G args v
def frT : Option Tm → ByteArray | some t => B t.free | none => ⟨#[]⟩
def bdT : Option Tm → ByteArray | some t => B (bothL [] t.bnd) | none => ⟨#[]⟩
def wnT : Option Tm → Bool | some t => decide t.wellN | none => false
def szN : Option Tm → Int | some t => (t.size : Nat) | none => 0
theorem twn_size (s : ByteArray) (hm : s.size ≤ 9223372036854775807) : AnsN 9 #[.string s] (.tuple #[.int .i64 (szN (good s.data.toList)), .bool (good s.data.toList).isSome]) := by
  cases hg : good s.data.toList with
  | none => exact LawSizeOf.impl_none s hg hm
  | some t => exact LawSizeOf.impl_some s t hg hm
theorem twn_free (s : ByteArray) (hm : s.size ≤ 9223372036854775807) : TwoN 13 8 #[.string s] (.tuple #[.string (frT (good s.data.toList)), .bool (good s.data.toList).isSome]) := by
  cases hg : good s.data.toList with
  | none => exact ⟨LawFreeNames.spec_none s hg hm, LawFreeNames.impl_none s hg hm⟩
  | some t => exact ⟨LawFreeNames.spec_some s t hg hm, LawFreeNames.impl_some s t hg hm⟩
theorem twn_bound (s : ByteArray) (hm : s.size ≤ 9223372036854775807) : TwoN 15 14 #[.string s] (.tuple #[.string (bdT (good s.data.toList)), .bool (good s.data.toList).isSome]) := by
  cases hg : good s.data.toList with
  | none => exact ⟨LawBoundNames.spec_none s hg hm, LawBoundNames.impl_none s hg hm⟩
  | some t => exact ⟨LawBoundNames.spec_some s t hg hm, LawBoundNames.impl_some s t hg hm⟩
theorem twn_well (s : ByteArray) (hm : s.size ≤ 9223372036854775807) : TwoN 17 16 #[.string s] (.tuple #[.bool (wnT (good s.data.toList)), .bool (good s.data.toList).isSome]) := by
  cases hg : good s.data.toList with
  | none => exact ⟨LawIsWellNamed.spec_none s hg hm, LawIsWellNamed.impl_none s hg hm⟩
  | some t => exact ⟨LawIsWellNamed.spec_some s t hg hm, LawIsWellNamed.impl_some s t hg hm⟩
def frO : Option Nat → ByteArray | some k => one (UInt8.ofNat (97 + k)) | none => ⟨#[]⟩
/-- What FreshName answers: the first letter that is not there; or nothing. -/
theorem twn_fresh (s : ByteArray) (hs : s.size ≤ 100000000) : ∃ o : Option Nat, TwoN 20 19 #[.string s] (.tuple #[.string (frO o), .bool o.isSome]) ∧ ∀ k, o = some k → FirstAt s k := by
  open LawFreshName in
  have h1 := spec_any s hs
  have h2 := impl_any s hs
  have no_ : (s.data.toList.all nmL = false ∨ ∀ i, i < 26 → inL s i = true) → ∀ w e w', AnsPost s w e w' → e = .returned (.tuple #[.string ⟨#[]⟩, .bool false]) ∧ Below w.heap.size w w' := by
    rintro hn w e w' ⟨⟨ha, j, hj, he⟩ | ⟨h, he⟩, b⟩
    · rcases hn with h | h
      · rw [ha] at h; cases h
      · have := h j hj.1; rw [hj.2.2] at this; cases this
    · exact ⟨he, b⟩
  cases ha : s.data.toList.all nmL with
  | false => exact ⟨none, ⟨fun w => (h1 w).mono (no_ (.inl ha) w), fun w => (h2 w).mono (no_ (.inl ha) w)⟩, fun k h => by cases h⟩
  | true =>
    rcases first_or s 26 with hf | ⟨k, hf⟩
    · exact ⟨none, ⟨fun w => (h1 w).mono (no_ (.inr hf) w), fun w => (h2 w).mono (no_ (.inr hf) w)⟩, fun k h => by cases h⟩
    · have key : ∀ w e w', AnsPost s w e w' → e = .returned (.tuple #[.string (one (UInt8.ofNat (97 + k))), .bool true]) ∧ Below w.heap.size w w' := by
        rintro w e w' ⟨⟨_, j, hj, he⟩ | ⟨h, _⟩, b⟩
        · rw [first_uniq s j k hj hf] at he; exact ⟨he, b⟩
        · rcases h with h | h
          · rw [ha] at h; cases h
          · have := h k hf.1; rw [hf.2.2] at this; cases this
      exact ⟨some k, ⟨fun w => (h1 w).mono (key w), fun w => (h2 w).mono (key w)⟩, fun j h => by cases h; exact hf⟩
/-- What AreAlpha answers of two processes. -/
theorem alpha_i (s q : ByteArray) (t u : Tm) (hg : good s.data.toList = some t) (hg2 : good q.data.toList = some u) (hm : s.size ≤ 9223372036854775807) (hmq : q.size ≤ 9223372036854775807) (he : can t id marks = can u id marks) : AnsN 11 #[.string s, .string q] (.tuple #[.bool true, .bool true]) := by
  open LawAreAlpha in
  have h2 := fun w => parse_some hg w hm
  have h4 := fun w => parse_some hg2 w hmq
  obtain ⟨es, hL, hE, h300, h60⟩ := good_S hg
  obtain ⟨eq, hL2, hE2, h3002, h602⟩ := good_S hg2
  have hb1 := bnd_lt t
  have hb2 := bnd_lt u
  refine i_yes s q _ _ _ _ _ _ _ _ _ _ _ ?_ h2 h4 (numbered_any t hL (by omega)) (textOf_any _ (by rw [(can_len t id marksN).1]; omega)) (numbered_any u hL2 (by omega)) (textOf_any _ (by rw [(can_len u id marksN).1]; omega))
  rw [ByteArray.toList_eq, ByteArray.toList_eq]
  show ((can t id marksN).pr == (can u id marksN).pr) = _
  rw [can_marks t (by omega), can_marks u (by omega), he]
  exact beq_self_eq_true _
end Go.Proofs.YtpabmidjfpabdaaGreat.T1
