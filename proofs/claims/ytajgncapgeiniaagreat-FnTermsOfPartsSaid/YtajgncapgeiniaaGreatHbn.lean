/- Texts of the proof, put together: CIsProcess, CCountKind, Gr. No conditions. -/
import Derived.Test.YtajgncapgeiniaaGreatHao
import Derived.Test.YtajgncapgeiniaaGreatHaq
import Derived.Test.YtajgncapgeiniaaGreatHar
import Derived.Test.YtajgncapgeiniaaGreatHay
import Derived.Test.YtajgncapgeiniaaGreatHbb
import Derived.Test.YtajgncapgeiniaaGreatHbg
import Derived.Test.YtajgncapgeiniaaGreatHbi
import Derived.Test.YtajgncapgeiniaaGreatHbj
import Derived.Test.YtajgncapgeiniaaGreatHbk
import Derived.Test.YtajgncapgeiniaaGreatHbl
import Derived.Test.YtajgncapgeiniaaGreatHbm
import Derived.Test.YtajgncapgeiniaaGreatProg
import Derived.WalkKit
import Derived.ProofKit
import Derived.OpenShut
import Derived.ShutString
import Derived.ChangeOld
import Derived.Below

/- What IsProcess answers on both sides. No conditions. -/
namespace Go.Proofs.YtajgncapgeiniaaGreat
namespace LawIsProcess
open Go.ChangeShapes Go.WideShapes Go.ChangeAt Go.RowKit Go.Proofs.YtajgncapgeiniaaGreat.T1
open Go.ChangeMaps (open_string shut_string)
set_option linter.unusedVariables false

theorem spec_any (s : ByteArray) (w : World) (hm : s.size ≤ 9223372036854775807) : Calls Tryz.prog 17 #[.string s] w fun e w' => e = .returned (.bool (goodB s)) ∧ Below w.heap.size w w' := by
  have H := Lib.hid (tmGood_any s w hm)
  go_enter Tryz.func17, Tryz.ntmps17
  go_wp2_with fail
  refine (H.out).mono ?_
  rintro e w1 ⟨rfl, bl⟩
  go_wp2_with fail
  go_ret
  exact ⟨rfl, bl⟩
theorem impl_any (s : ByteArray) (w : World) (hm : s.size ≤ 9223372036854775807) : Calls Tryz.prog 16 #[.string s] w fun e w' => e = .returned (.bool (goodB s)) ∧ Below w.heap.size w w' := by
  have H := Lib.hid (parse_any s w hm)
  go_enter Tryz.func16, Tryz.ntmps16
  go_wp2_with fail
  refine (H.out).mono ?_
  rintro e w1 ⟨(⟨t, hg, rfl⟩ | ⟨hg, rfl⟩), bl⟩
  · have HG := Lib.hid (goodB_yes hg)
    obtain ⟨T, hT⟩ : ∃ T, T = tyOf t := ⟨_, rfl⟩
    obtain ⟨V, hV⟩ : ∃ V, V = pay t := ⟨_, rfl⟩
    rw [← hT, ← hV]
    clear hg hT hV
    go_wp2_with fail
    go_ret
    exact ⟨by rw [HG.out]; rfl, bl⟩
  · have HG : Hid (goodB s = false) := by unfold goodB; rw [hg]; rfl
    clear hg
    go_wp2_with fail
    go_ret
    exact ⟨by rw [HG.out]; rfl, bl⟩
end LawIsProcess
end Go.Proofs.YtajgncapgeiniaaGreat

/- What CountKind answers on both sides. No conditions. -/
namespace Go.Proofs.YtajgncapgeiniaaGreat
namespace LawCountKind
open Go.ChangeShapes Go.WideShapes Go.ChangeAt Go.RowKit Go.Proofs.YtajgncapgeiniaaGreat.T1
open Go.ChangeMaps (open_string shut_string)
set_option linter.unusedVariables false

theorem isK9_out (s : ByteArray) (h : isK9 s = true) : ∃ c : UInt8, s = one c ∧ inB K9 (c.toNat : Int) = true := by
  unfold isK9 at h
  rw [List.any_eq_true] at h
  obtain ⟨c, hm, hc⟩ := h
  refine ⟨c, ?_, ?_⟩
  · have hc' := eq_of_beq hc
    rw [ByteArray.toList_eq, ByteArray.toList_eq] at hc'
    apply ByteArray.ext
    apply Array.ext'
    exact hc'.symm
  · unfold inB; rw [List.any_eq_true]; exact ⟨c, hm, by simp⟩
theorem isK9_not (s : ByteArray) (hz : 0 < s.size) (h1 : s.size = 1) (h : isK9 s = false) : inB K9 ((s[0]'hz).toNat : Int) = false := by
  cases hb : inB K9 ((s[0]'hz).toNat : Int) with
  | false => rfl
  | true =>
    unfold inB at hb
    rw [List.any_eq_true] at hb
    obtain ⟨c, hm, hc⟩ := hb
    have hc' : c = s[0]'hz := by rw [← UInt8.toNat_inj]; have := eq_of_beq hc; omega
    have : isK9 s = true := by
      unfold isK9; rw [List.any_eq_true]
      refine ⟨c, hm, ?_⟩
      rw [ByteArray.toList_eq, ByteArray.toList_eq, hc']
      have e : s.data.toList = [s[0]'hz] := by
        have := drop_at s 0 hz
        rw [List.drop_zero] at this
        rw [this, List.drop_of_length_le (by simp; omega)]
      rw [e]; simp [one]
    rw [this] at h; cases h

set_option maxHeartbeats 1000000 in
theorem spec_none (s k : ByteArray) (hg : good s.data.toList = none) (hm : s.size ≤ 9223372036854775807) (w : World) : Calls Tryz.prog 27 #[.string s, .string k] w fun e w' => e = .returned (.tuple #[.int .i64 0, .bool false]) ∧ Below w.heap.size w w' := by
  have H := Lib.hid (tmGood_none hg w hm)
  clear hg
  go_enter Tryz.func27, Tryz.ntmps27
  go_wp2_with fail
  refine (H.out).mono ?_
  rintro e w1 ⟨rfl, bl⟩
  go_wp2_with fail
  go_ret2
  exact ⟨rfl, bl⟩
set_option maxHeartbeats 1000000 in
theorem impl_none (s k : ByteArray) (hg : good s.data.toList = none) (hm : s.size ≤ 9223372036854775807) (w : World) : Calls Tryz.prog 19 #[.string s, .string k] w fun e w' => e = .returned (.tuple #[.int .i64 0, .bool false]) ∧ Below w.heap.size w w' := by
  have H := Lib.hid (parse_none hg w hm)
  clear hg
  go_enter Tryz.func19, Tryz.ntmps19
  go_wp2_with fail
  refine (H.out).mono ?_
  rintro e w1 ⟨rfl, bl⟩
  go_wp2_with fail
  go_ret2
  exact ⟨rfl, bl⟩
set_option maxHeartbeats 1000000 in
theorem spec_nok (s k : ByteArray) (t : Tm) (hg : good s.data.toList = some t) (hk : isK9 k = false) (hm : s.size ≤ 9223372036854775807) (hmk : k.size ≤ 9223372036854775807) (w : World) : Calls Tryz.prog 27 #[.string s, .string k] w fun e w' => e = .returned (.tuple #[.int .i64 0, .bool false]) ∧ Below w.heap.size w w' := by
  have H := Lib.hid (tmGood_some hg w hm)
  by_cases h1 : k.size = 1
  · have hz : 0 < k.size := by omega
    have HT := tmIn_any K9 ((k[0]'hz).toNat : Int)
    rw [isK9_not k hz h1 hk] at HT
    have H2 : Hid (∀ w, Calls Tryz.prog 71 #[.string ⟨#[48, 33, 63, 126, 43, 38, 35, 61, 42]⟩, .int .u8 ((k[0]'hz).toNat : Int)] w fun e w' => e = .returned (.bool false) ∧ w = w') := fun w => HT w (by decide)
    have b1 : ((k.size : Int) != 1) = false := by simp; omega
    clear HT hk hg h1
    go_enter Tryz.func27, Tryz.ntmps27
    go_wp2_with fail
    refine (H.out).mono ?_
    rintro e w1 ⟨rfl, bl⟩
    go_wp2_with fail
    refine (H2.out _).mono ?_
    rintro e w1 ⟨rfl, rfl⟩
    go_wp2_with fail
    go_ret2
    exact ⟨rfl, bl⟩
  · have b1 : ((k.size : Int) != 1) = true := by simp; omega
    clear hk hg h1
    go_enter Tryz.func27, Tryz.ntmps27
    go_wp2_with fail
    refine (H.out).mono ?_
    rintro e w1 ⟨rfl, bl⟩
    go_wp2_with fail
    go_ret2
    exact ⟨rfl, bl⟩
set_option maxHeartbeats 1000000 in
theorem impl_nok (s k : ByteArray) (t : Tm) (hg : good s.data.toList = some t) (hk : isK9 k = false) (hm : s.size ≤ 9223372036854775807) (w : World) : Calls Tryz.prog 19 #[.string s, .string k] w fun e w' => e = .returned (.tuple #[.int .i64 0, .bool false]) ∧ Below w.heap.size w w' := by
  have H := Lib.hid (parse_some hg w hm)
  have HK := isKind_any k
  rw [hk] at HK
  have H2 := Lib.hid HK
  obtain ⟨T, hT⟩ : ∃ T, T = tyOf t := ⟨_, rfl⟩
  obtain ⟨V, hV⟩ : ∃ V, V = pay t := ⟨_, rfl⟩
  rw [← hT, ← hV] at H
  clear hg hk HK hT hV
  go_enter Tryz.func19, Tryz.ntmps19
  go_wp2_with fail
  refine (H.out).mono ?_
  rintro e w1 ⟨rfl, bl⟩
  go_wp2_with fail
  refine (H2.out _).mono ?_
  rintro e w2 ⟨rfl, b2⟩
  go_wp2_with fail
  go_ret2
  exact ⟨rfl, below_trans bl b2 bl.size⟩
set_option maxHeartbeats 1000000 in
theorem spec_ok (s k : ByteArray) (t : Tm) (c : UInt8) (hg : good s.data.toList = some t) (hk : k = one c) (hi : inB K9 (c.toNat : Int) = true) (hm : s.size ≤ 9223372036854775807) (w : World) : Calls Tryz.prog 27 #[.string s, .string k] w fun e w' => e = .returned (.tuple #[.int .i64 (t.subs.countP (isK c) : Nat), .bool true]) ∧ Below w.heap.size w w' := by
  have H := Lib.hid (tmGood_some hg w hm)
  obtain ⟨es, hL, hE, h300, h60⟩ := good_S hg
  have HS := tmCount_any c t hE (by omega)
  rw [← es] at HS
  have hz : 0 < k.size := by subst hk; exact Nat.zero_lt_one
  have h1 : k.size = 1 := by rw [hk]; rfl
  have e0 : k[0]'hz = c := by subst hk; rfl
  have HT := tmIn_any K9 ((k[0]'hz).toNat : Int)
  rw [e0, hi] at HT
  have H2 : Hid (∀ w, Calls Tryz.prog 71 #[.string ⟨#[48, 33, 63, 126, 43, 38, 35, 61, 42]⟩, .int .u8 ((k[0]'hz).toNat : Int)] w fun e w' => e = .returned (.bool true) ∧ w = w') := fun w => by rw [e0]; exact HT w (by decide)
  obtain ⟨N, hN⟩ : ∃ N, N = t.subs.countP (isK c) := ⟨_, rfl⟩
  rw [← hN] at HS ⊢
  have H3 : Hid (∀ w, Calls Tryz.prog 72 #[.string s, .int .u8 ((k[0]'hz).toNat : Int)] w fun e w' => e = .returned (.int .i64 (N : Int)) ∧ Below w.heap.size w w') := by rw [e0]; exact HS
  have b1 : ((k.size : Int) != 1) = false := by simp; omega
  clear hg es hL hE h300 h60 HS hN HT e0 h1 hk hi
  go_enter Tryz.func27, Tryz.ntmps27
  go_wp2_with fail
  refine (H.out).mono ?_
  rintro e w1 ⟨rfl, bl⟩
  go_wp2_with fail
  refine (H2.out _).mono ?_
  rintro e w1 ⟨rfl, rfl⟩
  go_wp2_with fail
  refine (H3.out _).mono ?_
  rintro e w2 ⟨rfl, b2⟩
  go_wp2_with fail
  go_ret2
  exact ⟨rfl, below_trans bl b2 bl.size⟩
set_option maxHeartbeats 1000000 in
theorem impl_ok (s k : ByteArray) (t : Tm) (c : UInt8) (hg : good s.data.toList = some t) (hk : k = one c) (hi : isK9 k = true) (hm : s.size ≤ 9223372036854775807) (w : World) : Calls Tryz.prog 19 #[.string s, .string k] w fun e w' => e = .returned (.tuple #[.int .i64 (t.subs.countP (isK c) : Nat), .bool true]) ∧ Below w.heap.size w w' := by
  have H := Lib.hid (parse_some hg w hm)
  obtain ⟨es, hL, hE, h300, h60⟩ := good_S hg
  have HK := isKind_any k
  rw [hi] at HK
  have H2 := Lib.hid HK
  have HS := countKind_any t (by omega) (one c)
  rw [show (fun u : Tm => (one u.kind).toList == (one c).toList) = isK c from by funext u; rw [one_eq]; rfl, ← hk] at HS
  obtain ⟨T, hT⟩ : ∃ T, T = tyOf t := ⟨_, rfl⟩
  obtain ⟨V, hV⟩ : ∃ V, V = pay t := ⟨_, rfl⟩
  obtain ⟨N, hN⟩ : ∃ N, N = t.subs.countP (isK c) := ⟨_, rfl⟩
  rw [← hT, ← hV] at H
  rw [← hT, ← hV, ← hN] at HS
  rw [← hN]
  have H3 := Lib.hid HS
  clear hg es hL hE h300 h60 HS hN HK hk hi hT hV
  go_enter Tryz.func19, Tryz.ntmps19
  go_wp2_with fail
  refine (H.out).mono ?_
  rintro e w1 ⟨rfl, bl⟩
  go_wp2_with fail
  refine (H2.out _).mono ?_
  rintro e w2 ⟨rfl, b2⟩
  go_wp2_with fail
  refine (H3.out _).mono ?_
  rintro e w3 ⟨rfl, b3⟩
  go_wp2_with fail
  go_ret2
  exact ⟨rfl, below_trans (below_trans bl b2 bl.size) b3 (Nat.le_trans bl.size b2.size)⟩
theorem both (s k : ByteArray) (hm : s.size ≤ 9223372036854775807) (hmk : k.size ≤ 9223372036854775807) : ∃ (n : Int) (b : Bool), (∀ w, Calls Tryz.prog 27 #[.string s, .string k] w fun e w' => e = .returned (.tuple #[.int .i64 n, .bool b]) ∧ Below w.heap.size w w') ∧ (∀ w, Calls Tryz.prog 19 #[.string s, .string k] w fun e w' => e = .returned (.tuple #[.int .i64 n, .bool b]) ∧ Below w.heap.size w w') := by
  cases hg : good s.data.toList with
  | none => exact ⟨0, false, spec_none s k hg hm, impl_none s k hg hm⟩
  | some t =>
    cases hk : isK9 k with
    | false => exact ⟨0, false, spec_nok s k t hg hk hm hmk, impl_nok s k t hg hk hm⟩
    | true =>
      obtain ⟨c, h1, h2⟩ := isK9_out k hk
      exact ⟨_, true, spec_ok s k t c hg h1 h2 hm, impl_ok s k t c hg h1 hk hm⟩
end LawCountKind
end Go.Proofs.YtajgncapgeiniaaGreat

/- The texts on which the laws of terms lean. No conditions. -/
