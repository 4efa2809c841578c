/- strings.Cut at '>': in the program. -/
import Derived.Test.YtllnplabiehcgaaFe
import Derived.Test.YtllnplabiehcgaaSh
namespace Go.Proofs.Ytllnplabiehcgaa.T1
open Go.RowKit
set_option maxRecDepth 100000
set_option linter.unusedVariables false
set_option linter.unusedSimpArgs false

theorem gt_idx : ∀ l : List UInt8, (cutGt l = none ∧ Lib.indexByte l 62 = -1) ∨ ∃ x r, cutGt l = some (x, r) ∧ Lib.indexByte l 62 = (x.length : Int) ∧ l = x ++ 62 :: r
  | [] => .inl ⟨rfl, rfl⟩
  | c :: l => by
    by_cases hc : c = 62
    · subst hc; exact .inr ⟨[], l, by simp [cutGt], by simp [Lib.indexByte], rfl⟩
    · have hb : (c == 62) = false := by simpa using hc
      rcases gt_idx l with ⟨h1, h2⟩ | ⟨x, r, h1, h2, h3⟩
      · exact .inl ⟨by simp [cutGt, hc, h1], by simp [Lib.indexByte, hb, h2]⟩
      · refine .inr ⟨c :: x, r, by simp [cutGt, hc, h1], ?_, by rw [h3]; rfl⟩
        have : ((x.length : Int) == -1) = false := by rw [beq_eq_false_iff_ne]; omega
        simp [Lib.indexByte, hb, h2, this]
set_option maxHeartbeats 1000000 in
theorem idx_is (s : ByteArray) (hs : s.size ≤ 700) (h1 : s.data.toList = [62]) (w : World) : Calls Try.prog 23 #[.string s, .string ⟨#[62]⟩] w fun e w' => e = .returned (.int .i64 0) ∧ w = w' := by
  obtain rfl : s = ⟨#[62]⟩ := by apply ByteArray.ext; apply Array.ext'; exact h1
  go_enter Try.func23, Try.ntmps23
  go_wp2_with fail
  go_ret
  exact ⟨rfl, rfl⟩
set_option maxHeartbeats 1000000 in
theorem idx_no (s : ByteArray) (n : Int) (hs : s.size ≤ 700) (h1 : s.data.toList ≠ [62]) (hn : Lib.indexByte s.data.toList 62 = n) (w : World) : Calls Try.prog 23 #[.string s, .string ⟨#[62]⟩] w fun e w' => e = .returned (.int .i64 n) ∧ w = w' := by
  have t1 : (([62] : List UInt8) == s.toList) = false := by rw [beq_eq_false_iff_ne]; intro e; rw [ByteArray.toList_eq] at e; exact h1 e.symm
  have I : Hid (∀ w, Calls Try.prog 25 #[.string s, .int .u8 62] w fun e w' => e = .returned (.int .i64 n) ∧ w' = w) := fun w => by
    have := Try.stringslite_IndexByte s 62 w
    rw [show (62 : Int).toNat.toUInt8 = 62 by rfl, hn] at this
    exact this
  clear hn h1
  go_enter Try.func23, Try.ntmps23
  go_wp2_with fail
  refine (I.out _).mono ?_
  rintro e w' ⟨rfl, rfl⟩
  go_wp2_with fail
  go_ret
  exact ⟨rfl, rfl⟩
theorem idx_any (s : ByteArray) (n : Int) (hs : s.size ≤ 700) (hn : Lib.indexByte s.data.toList 62 = n) (w : World) : Calls Try.prog 23 #[.string s, .string ⟨#[62]⟩] w fun e w' => e = .returned (.int .i64 n) ∧ w = w' := by
  by_cases h1 : s.data.toList = [62]
  · have : n = 0 := by rw [← hn, h1]; rfl
    rw [this]; exact idx_is s hs h1 w
  · exact idx_no s n hs h1 hn w
set_option maxHeartbeats 1000000 in
theorem scut_no (s : ByteArray) (hs : s.size ≤ 700) (hn : Lib.indexByte s.data.toList 62 = -1) (w : World) : Calls Try.prog 21 #[.string s, .string ⟨#[62]⟩] w fun e w' => e = .returned (.tuple #[.string s, .string ByteArray.empty, .bool false]) ∧ w = w' := by
  have I := Lib.hid (idx_any s _ hs hn)
  clear hn
  go_enter Try.func21, Try.ntmps21
  go_wp2_with fail
  refine (I.out _).mono ?_
  rintro e w' ⟨rfl, rfl⟩
  go_wp2_with fail
  exact bodyPost_ret (v := .tuple #[.string s, .string ByteArray.empty, .bool false]) (by simp [results, Try.results21, go_sem]; rfl) rfl ⟨rfl, rfl⟩
set_option maxHeartbeats 1000000 in
theorem scut_yes (s : ByteArray) (n : Nat) (hs : s.size ≤ 700) (hlt : n < s.size) (hn : Lib.indexByte s.data.toList 62 = (n : Int)) (w : World) : Calls Try.prog 21 #[.string s, .string ⟨#[62]⟩] w fun e w' => e = .returned (.tuple #[.string (s.extract 0 n), .string (s.extract (n + 1) s.size), .bool true]) ∧ ∃ n, w' = w.drewN n := by
  have I := Lib.hid (idx_any s _ hs hn)
  have q1 : (n : Int) + 1 ≤ (s.size : Int) := by omega
  have q2 : (0 : Int) ≤ (n : Int) := by omega
  have q3 : (0 : Int) ≤ (n : Int) + 1 := by omega
  have hw : IntKind.i64.wrap ((n : Int) + 1) = (n : Int) + 1 := IntWalk.i64_in _ (by omega)
  have hw2 : ((n : Int) + 1).toNat = n + 1 := by omega
  clear hn
  go_enter Try.func21, Try.ntmps21
  go_wp2_with fail
  refine (I.out _).mono ?_
  rintro e w' ⟨rfl, rfl⟩
  go_wp2_with fail
  go_quiet (fail)
  go_wp2_with fail
  exact bodyPost_ret (v := .tuple #[.string (s.extract 0 n), .string (s.extract (n + 1) s.size), .bool true]) (by simp [results, Try.results21, go_sem]) rfl ⟨rfl, _, rfl⟩
set_option maxHeartbeats 1000000 in
theorem cut_of (s : ByteArray) (A B : ByteArray) (b : Bool) (H : ∀ w, Calls Try.prog 21 #[.string s, .string ⟨#[62]⟩] w fun e w' => e = .returned (.tuple #[.string A, .string B, .bool b]) ∧ ∃ n, w' = w.drewN n) (w : World) : Calls Try.prog 18 #[.string s, .string ⟨#[62]⟩] w fun e w' => e = .returned (.tuple #[.string A, .string B, .bool b]) ∧ ∃ n, w' = w.drewN n := by
  have I := Lib.hid H
  clear H
  go_enter Try.func18, Try.ntmps18
  go_wp2_with fail
  refine (I.out _).mono ?_
  rintro e w' ⟨rfl, nd, rfl⟩
  go_wp2_with fail
  exact bodyPost_ret (v := .tuple #[.string A, .string B, .bool b]) (by simp [results, Try.results18, go_sem]) rfl ⟨rfl, _, rfl⟩
/-- A text cut at its first '>'. -/
theorem cut_any (s : ByteArray) (hs : s.size ≤ 700) : (cutGt s.data.toList = none ∧ ∀ w, Calls Try.prog 18 #[.string s, .string ⟨#[62]⟩] w fun e w' => e = .returned (.tuple #[.string s, .string ByteArray.empty, .bool false]) ∧ ∃ n, w' = w.drewN n) ∨
    ∃ n : Nat, n < s.size ∧ cutGt s.data.toList = some (s.data.toList.take n, s.data.toList.drop (n + 1)) ∧ ∀ w, Calls Try.prog 18 #[.string s, .string ⟨#[62]⟩] w fun e w' => e = .returned (.tuple #[.string (s.extract 0 n), .string (s.extract (n + 1) s.size), .bool true]) ∧ ∃ n, w' = w.drewN n := by
  rcases gt_idx s.data.toList with ⟨h1, h2⟩ | ⟨x, r, h1, h2, h3⟩
  · exact .inl ⟨h1, cut_of s _ _ _ fun w => (scut_no s hs h2 w).mono fun e w' h => ⟨h.1, 0, h.2.symm⟩⟩
  · refine .inr ⟨x.length, ?_, ?_, cut_of s _ _ _ (scut_yes s x.length hs ?_ h2)⟩
    · have := congrArg List.length h3; simp at this; omega
    · rw [h1, h3]; simp
    · have := congrArg List.length h3; simp at this; omega
end Go.Proofs.Ytllnplabiehcgaa.T1
