/- Texts of the proof, put together: Good, Bb, Tf, In, Kind. No conditions. -/
import Derived.Test.YtmfmagfgcdaeeaaGreatHah
import Derived.Test.YtmfmagfgcdaeeaaGreatHai
import Derived.Lib.OthersKept
import Derived.Deep.LoopGhost
import Derived.Laws.IdiomStrings
import Derived.Laws.RangeAny

/- A text that is a process, and one that is none: what the two parsers say. -/
namespace Go.Proofs.YtmfmagfgcdaeeaaGreat.T1
open Go.RowKit

theorem parse_some {s : ByteArray} {t : Tm} (hg : good s.data.toList = some t) (w : World) (hm : s.size ≤ 9223372036854775807) :
    Calls Tryz.prog 59 #[.string s] w fun e w' => e = .returned (.tuple #[.iface (tyOf t) (pay t), .bool true]) ∧ Below w.heap.size w w' := by
  refine (parse_any s w hm).mono ?_
  rintro e w' ⟨⟨t', h1, h2⟩ | ⟨h1, _⟩, bl⟩
  · rw [hg] at h1; cases h1; exact ⟨h2, bl⟩
  · rw [hg] at h1; cases h1
theorem parse_none {s : ByteArray} (hg : good s.data.toList = none) (w : World) (hm : s.size ≤ 9223372036854775807) :
    Calls Tryz.prog 59 #[.string s] w fun e w' => e = .returned (.tuple #[.nilIface, .bool false]) ∧ Below w.heap.size w w' := by
  refine (parse_any s w hm).mono ?_
  rintro e w' ⟨⟨t', h1, h2⟩ | ⟨_, h2⟩, bl⟩
  · rw [hg] at h1; cases h1
  · exact ⟨h2, bl⟩
theorem tmGood_some {s : ByteArray} {t : Tm} (hg : good s.data.toList = some t) (w : World) (hm : s.size ≤ 9223372036854775807) :
    Calls Tryz.prog 66 #[.string s] w fun e w' => e = .returned (.bool true) ∧ Below w.heap.size w w' := by
  have := tmGood_any s w hm
  rw [goodB_yes hg] at this
  exact this
theorem tmGood_none {s : ByteArray} (hg : good s.data.toList = none) (w : World) (hm : s.size ≤ 9223372036854775807) :
    Calls Tryz.prog 66 #[.string s] w fun e w' => e = .returned (.bool false) ∧ Below w.heap.size w w' := by
  have := tmGood_any s w hm
  rw [show goodB s = false from by unfold goodB; rw [hg]; rfl] at this
  exact this
/-- What a text that is a process gives. -/
theorem good_S {s : ByteArray} {t : Tm} (hg : good s.data.toList = some t) : s = S t ∧ t.ok nmL = true ∧ t.ok nmE = true ∧ t.pr.length ≤ 300 ∧ t.size ≤ 60 := by
  obtain ⟨h1, h2, h3, h4⟩ := good_out hg
  exact ⟨S_of h2, h3, ok_EL t h3, by rw [← h2]; exact h1, h4⟩

end Go.Proofs.YtmfmagfgcdaeeaaGreat.T1

/- Lists of bytes as texts; where a range over a text stands. -/
namespace Go.Proofs.YtmfmagfgcdaeeaaGreat.T1
open Go.RowKit
set_option maxRecDepth 100000

/-- A list of bytes as a text. -/
def B (l : List UInt8) : ByteArray := ⟨l.toArray⟩
theorem B_list (l : List UInt8) : (B l).data.toList = l := rfl
theorem B_of (s : ByteArray) : B s.data.toList = s := by apply ByteArray.ext; simp [B]
theorem B_eq {s : ByteArray} {l : List UInt8} (h : s.data.toList = l) : s = B l := by rw [← h, B_of]
theorem B_size (l : List UInt8) : (B l).size = l.length := by simp [B, ByteArray.size]
end Go.Proofs.YtmfmagfgcdaeeaaGreat.T1

/- Names in the specification: letters put into texts, taken out of them; free names and those that are bound. -/
namespace Go.Proofs.YtmfmagfgcdaeeaaGreat.T1
open Go.RowKit
set_option maxRecDepth 100000
set_option linter.unusedVariables false

theorem get_list (s : ByteArray) (k : Nat) (h : k < s.size) : s.data.toList[k]'(by simpa using h) = s[k]'h := by simp [ByteArray.getElem_eq_getElem_data]
theorem conv1 (k : UInt8) (w : World) : (convert 22 9 (.slice (some ⟨w.heap.size, 0, none⟩) 1 1)).run Tryz.prog (w.alloc (.cells #[.int .u8 (k.toNat : Int)] 5)) = .ok (.string (one k)) (w.alloc (.cells #[.int .u8 (k.toNat : Int)] 5)) :=
  run_convert_bytes_back _ 22 9 5 _ 1 [k] Tryz.underlying22 Tryz.underlying5 Tryz.underlying9 (fun j hj => by
    have : j = 0 := by simp at hj; omega
    subst this
    rw [show (⟨w.heap.size, 0, none⟩ : Addr).add 0 = ⟨w.heap.size, 0, none⟩ from rfl, World.cell?_alloc_new]; rfl)
theorem conv1d (k : UInt8) (w : World) : (convert 22 9 (.slice (some ⟨w.heap.size, 0, none⟩) 1 1)).run Tryz.prog (w.alloc (.cells #[.int .u8 (k.toNat : Int)] 5)).drew = .ok (.string (one k)) (w.alloc (.cells #[.int .u8 (k.toNat : Int)] 5)).drew :=
  run_convert_bytes_back _ 22 9 5 _ 1 [k] Tryz.underlying22 Tryz.underlying5 Tryz.underlying9 (fun j hj => by
    have : j = 0 := by simp at hj; omega
    subst this
    show (w.alloc (.cells #[.int .u8 (k.toNat : Int)] 5)).cell? _ = _
    rw [show (⟨w.heap.size, 0, none⟩ : Addr).add 0 = ⟨w.heap.size, 0, none⟩ from rfl, World.cell?_alloc_new]; rfl)
theorem add_ins (s : ByteArray) (c : UInt8) (k : Nat) (hk : k ≤ s.size) (h1 : ∀ i (hi : i < s.size), i < k → s[i] < c) (h2 : ∀ hk : k < s.size, ¬ s[k] < c ∧ s[k] ≠ c) :
    s.extract 0 k ++ one c ++ s.extract k s.size = B (addL s.data.toList c) := by
  apply B_eq
  have hl : s.data.toList.length = s.size := by simp
  rw [addL_at c s.data.toList k (by omega) (fun i hi hik => by rw [get_list s i (by omega)]; exact h1 i (by omega) hik) (fun hk' => by rw [get_list s k (by omega)]; exact (h2 (by omega)).1)]
  rw [ByteArray.data_append, ByteArray.data_append, Array.toList_append, Array.toList_append, ByteArray.data_extract, ByteArray.data_extract, Array.toList_extract, Array.toList_extract]
  by_cases hlt : k < s.data.toList.length
  · rw [dif_pos hlt, if_neg (by rw [get_list s k (by omega)]; exact (h2 (by omega)).2)]
    simp [one, List.extract_eq_take_drop]
    exact List.take_of_length_le (by simp)
  · have : k = s.size := by omega
    subst this
    rw [dif_neg hlt]
    simp [one, List.extract_eq_take_drop]
    exact List.take_of_length_le (by simp)
theorem add_same (s : ByteArray) (c : UInt8) (k : Nat) (hk : k < s.size) (h1 : ∀ i (hi : i < s.size), i < k → s[i] < c) (h2 : s[k] = c) : s = B (addL s.data.toList c) := by
  apply B_eq
  have hl : s.data.toList.length = s.size := by simp
  rw [addL_at c s.data.toList k (by omega) (fun i hi hik => by rw [get_list s i (by omega)]; exact h1 i (by omega) hik) (fun hk' => by rw [get_list s k (by omega), h2, u8_lt]; omega)]
  rw [dif_pos (by omega), if_pos (by rw [get_list s k (by omega)]; exact h2)]

set_option maxHeartbeats 2000000 in
theorem tmAdd_any (s : ByteArray) (c : UInt8) (hs : s.size ≤ 100000) (w : World) : Calls Tryz.prog 127 #[.string s, .int .u8 (c.toNat : Int)] w fun e w' => e = .returned (.string (B (addL s.data.toList c))) ∧ Below w.heap.size w w' := by
  obtain ⟨cc, hcc⟩ : ∃ cc, cc = (c.toNat : Int) := ⟨_, rfl⟩
  have HCC := Lib.hid hcc
  have c0 : 0 ≤ cc := by omega
  have c1 : cc < 256 := by have := c.toNat_lt; omega
  have hcv := conv1 c
  have hcd := conv1d c
  rw [← hcc] at hcv hcd ⊢
  obtain ⟨O, hO⟩ : ∃ O, O = one c := ⟨_, rfl⟩
  have hO1 : O.size = 1 := by rw [hO]; rfl
  rw [← hO] at hcv hcd
  have HO := Lib.hid hO
  clear hcc hO
  go_enter Tryz.func127, Tryz.ntmps127
  go_wp2_with fail
  go_loop [5] (fun v => ∃ k : Nat, k ≤ s.size ∧ v = .int .i64 (k : Int) ∧ Hid (∀ i (hi : i < s.size), i < k → s[i] < c)) (fun v => s.size - (intOf v).toNat)
  case atStart => exact ⟨0, Nat.zero_le _, rfl, fun i hi h => by omega⟩
  case round =>
    obtain ⟨k, hk, rfl, H⟩ := hrel
    by_cases hlt : k < s.size
    · have hby : (s[k]'hlt).toNat < 256 := (s[k]'hlt).toNat_lt
      by_cases hc : ((s[k]'hlt).toNat : Int) < cc
      · have H' : Hid (∀ i (hi : i < s.size), i < k + 1 → s[i] < c) := fun i hi h => by
          rcases Nat.lt_or_ge i k with h' | h'
          · exact H.out i hi h'
          · obtain rfl : i = k := by omega
            rw [u8_lt]; have := HCC.out; omega
        go_wp2_with fail
        go_round
        case rel => exact ⟨k + 1, by omega, by go_num, H'⟩
        case measure => simp [intOf]; omega
      · by_cases he : ((s[k]'hlt).toNat : Int) = cc
        · have HE : Hid (s = B (addL s.data.toList c)) := add_same s c k hlt H.out (u8_ext (by have := HCC.out; omega))
          have b1 : (((s[k]'hlt).toNat : Int) == cc) = true := by simp [he]
          clear he
          go_wp2_with fail
          go_ret
          exact ⟨by rw [← HE.out]; rfl, Below.refl _ _⟩
        · have HE : Hid (s.extract 0 k ++ O ++ s.extract k s.size = B (addL s.data.toList c)) := HO.out ▸ add_ins s c k hk H.out (fun _ => ⟨by rw [u8_lt]; have := HCC.out; omega, fun e => he (by rw [e]; exact HCC.out.symm)⟩)
          have b1 : (((s[k]'hlt).toNat : Int) == cc) = false := by simp [he]
          clear he
          go_wp2_with fail
          go_region
          all_goals go_wp2_with fail
          all_goals go_ret
          all_goals exact ⟨by rw [← HE.out]; rfl, ((Below.refl _ _).alloc (Nat.le_refl _) _).drew⟩
    · have HE : Hid (s.extract 0 k ++ O ++ s.extract k s.size = B (addL s.data.toList c)) := HO.out ▸ add_ins s c k hk H.out (fun h => absurd h hlt)
      go_wp2_with fail
      go_region
      all_goals go_wp2_with fail
      all_goals go_ret
      all_goals exact ⟨by rw [← HE.out]; rfl, ((Below.refl _ _).alloc (Nat.le_refl _) _).drew⟩

theorem less_step (s : ByteArray) (c : UInt8) (k : Nat) (h : k < s.size) : lessL (s.data.toList.take (k + 1)) c = lessL (s.data.toList.take k) c ++ (if s[k] = c then [] else [s[k]]) := by
  rw [take_snoc s k h]
  unfold lessL
  rw [List.filter_append]
  by_cases hc : s[k] = c
  · simp [hc]
  · simp [hc]
theorem B_snoc (l : List UInt8) (s : ByteArray) (k : Nat) (h : k < s.size) : B l ++ s.extract k (k + 1) = B (l ++ [s[k]]) := by
  apply B_eq
  rw [ByteArray.data_append, Array.toList_append, ByteArray.data_extract, Array.toList_extract, B_list, List.extract_eq_take_drop, List.drop_eq_getElem_cons (by simpa using h), get_list s k h]
  simp
set_option maxHeartbeats 2000000 in
theorem tmLess_any (s : ByteArray) (c : UInt8) (hs : s.size ≤ 100000) (w : World) : Calls Tryz.prog 129 #[.string s, .int .u8 (c.toNat : Int)] w fun e w' => e = .returned (.string (B (lessL s.data.toList c))) ∧ w = w' := by
  obtain ⟨cc, hcc⟩ : ∃ cc, cc = (c.toNat : Int) := ⟨_, rfl⟩
  have HCC := Lib.hid hcc
  rw [← hcc]
  clear hcc
  go_enter Tryz.func129, Tryz.ntmps129
  go_wp2_with fail
  go_loop [5, 6] (fun o v => ∃ (X : ByteArray) (k : Nat), k ≤ s.size ∧ o = .string X ∧ X.size ≤ k ∧ v = .int .i64 (k : Int) ∧ Hid (X = B (lessL (s.data.toList.take k) c))) (fun _ v => s.size - (intOf v).toNat)
  case atStart => exact ⟨⟨#[]⟩, 0, Nat.zero_le _, rfl, Nat.le_refl _, rfl, rfl⟩
  case round =>
    obtain ⟨X, k, hk, rfl, hX, rfl, H⟩ := hrel
    by_cases hlt : k < s.size
    · have hw1 : IntKind.i64.wrap ((k : Int) + 1) = (k : Int) + 1 := IntWalk.i64_in _ (by omega)
      by_cases hc : ((s[k]'hlt).toNat : Int) = cc
      · have H' : Hid (X = B (lessL (s.data.toList.take (k + 1)) c)) := by
          show _ = _
          rw [less_step s c k hlt, if_pos (u8_ext (by have := HCC.out; omega)), List.append_nil]; exact H.out
        have b1 : (((s[k]'hlt).toNat : Int) != cc) = false := by simp [hc]
        clear hc
        go_wp2_with fail
        go_round
        case rel => exact ⟨X, k + 1, by omega, rfl, by omega, by go_num, H'⟩
        case measure => simp [intOf]; omega
      · have H' : Hid (X ++ s.extract k (k + 1) = B (lessL (s.data.toList.take (k + 1)) c)) := by
          show _ = _
          rw [less_step s c k hlt, if_neg (fun e => hc (by rw [e]; exact HCC.out.symm)), H.out, B_snoc _ s k hlt]
        have b1 : (((s[k]'hlt).toNat : Int) != cc) = true := by simp [hc]
        clear hc
        go_wp2_with fail
        go_round
        case rel => exact ⟨_, k + 1, by omega, rfl, by simp; omega, by go_num, H'⟩
        case measure => simp [intOf]; omega
    · have HE : Hid (X = B (lessL s.data.toList c)) := by
        have := H.out
        rw [List.take_of_length_le (by simp; omega)] at this
        exact this
      go_wp2_with fail
      go_ret
      exact ⟨by rw [← HE.out]; rfl, rfl⟩

theorem both_step (a : List UInt8) (s : ByteArray) (k : Nat) (h : k < s.size) : bothL a (s.data.toList.take (k + 1)) = addL (bothL a (s.data.toList.take k)) s[k] := by
  rw [take_snoc s k h]; unfold bothL; rw [List.foldl_append]; rfl
set_option maxHeartbeats 2000000 in
theorem tmBoth_any (a : List UInt8) (s : ByteArray) (ha : Srt a) (hs : s.size ≤ 100000) (w : World) : Calls Tryz.prog 96 #[.string (B a), .string s] w fun e w' => e = .returned (.string (B (bothL a s.data.toList))) ∧ Below w.heap.size w w' := by
  have HA := Lib.hid ha
  obtain ⟨X0, hX0⟩ : ∃ X0, X0 = B a := ⟨_, rfl⟩
  rw [← hX0]
  have HX0 := Lib.hid hX0
  clear hX0 ha
  go_enter Tryz.func96, Tryz.ntmps96
  go_wp2_with fail
  go_loopw [0, 5] (fun o v wr => ∃ (X : ByteArray) (k : Nat), k ≤ s.size ∧ o = .string X ∧ v = .int .i64 (k : Int) ∧ Hid (X = B (bothL a (s.data.toList.take k))) ∧ Below w.heap.size w wr) (fun _ v _ => s.size - (intOf v).toNat)
  case atStart => exact ⟨X0, 0, Nat.zero_le _, rfl, rfl, HX0, Below.refl _ _⟩
  case round =>
    obtain ⟨X, k, hk, rfl, rfl, H, hbw⟩ := hrel
    by_cases hlt : k < s.size
    · have HC : Hid (∀ w, Calls Tryz.prog 127 #[.string X, .int .u8 ((s[k]'hlt).toNat : Int)] w fun e w' => e = .returned (.string (B (bothL a (s.data.toList.take (k + 1))))) ∧ Below w.heap.size w w') := fun w => by
        rw [both_step a s k hlt]
        have := tmAdd_any X (s[k]'hlt) (by rw [H.out, B_size]; exact Nat.le_trans (srt_len (srt_bothL _ HA.out)) (by omega)) w
        rw [show X.data.toList = bothL a (s.data.toList.take k) by rw [H.out]; rfl] at this
        exact this
      obtain ⟨Y, hY⟩ : ∃ Y, Y = B (bothL a (s.data.toList.take (k + 1))) := ⟨_, rfl⟩
      rw [← hY] at HC
      have HY := Lib.hid hY
      clear hY
      go_wp2_with fail
      refine (HC.out _).mono ?_
      rintro e w1 ⟨rfl, b1⟩
      have hbw1 := below_trans hbw b1 hbw.size
      go_wp2_with fail
      go_roundw
      case rel => exact ⟨Y, k + 1, by omega, rfl, by go_num, HY, hbw1⟩
      case measure => simp [intOf]; omega
    · have HE : Hid (X = B (bothL a s.data.toList)) := by
        have := H.out
        rw [List.take_of_length_le (by simp; omega)] at this
        exact this
      go_wp2_with fail
      go_ret
      exact ⟨by rw [← HE.out]; rfl, hbw⟩

end Go.Proofs.YtmfmagfgcdaeeaaGreat.T1

/- Is a byte in a text, in the specification. -/
namespace Go.Proofs.YtmfmagfgcdaeeaaGreat.T1
open Go.RowKit
set_option maxRecDepth 100000

/-- Is a byte among those of a text? -/
def inB (s : ByteArray) (c : Int) : Bool := s.data.toList.any fun x => (x.toNat : Int) == c
theorem inB_yes (s : ByteArray) (c : Int) (k : Nat) (h : k < s.size) (h1 : (s[k].toNat : Int) = c) : inB s c = true := by
  unfold inB
  rw [List.any_eq_true]
  exact ⟨s[k], by show s.data[k] ∈ _; simp, by simp [h1]⟩
theorem inB_no (s : ByteArray) (c : Int) (h : (s.data.toList.take s.size).any (fun x => (x.toNat : Int) == c) = false) : inB s c = false := by
  rw [List.take_of_length_le (by simp)] at h
  exact h

set_option maxHeartbeats 400000 in
theorem tmIn_any (s : ByteArray) (c : Int) (w : World) (hs : s.size ≤ 100000000) :
    Calls Tryz.prog 69 #[.string s, .int .u8 c] w fun e w' => e = .returned (.bool (inB s c)) ∧ w = w' := by
  go_enter Tryz.func69, Tryz.ntmps69
  go_wp2_with fail
  go_loop [5] (fun i => ∃ k : Nat, k ≤ s.size ∧ i = .int .i64 k ∧ Hid ((s.data.toList.take k).any (fun x => (x.toNat : Int) == c) = false)) (fun i => s.size - (intOf i).toNat)
  case atStart => exact ⟨0, Nat.zero_le _, rfl, by simp [Hid]⟩
  case round =>
    obtain ⟨k, hk, rfl, H⟩ := hrel
    by_cases hlt : k < s.size
    · by_cases hc : (s[k].toNat : Int) = c
      · have hT : Hid (inB s c = true) := inB_yes s c k hlt hc
        have b1 : ((s[k].toNat : Int) == c) = true := by simp [hc]
        clear hc
        go_wp2_with fail
        go_ret
        exact ⟨by rw [hT.out]; rfl, rfl⟩
      · have b1 : ((s[k].toNat : Int) == c) = false := by simp [hc]
        have hT : Hid ((s.data.toList.take (k + 1)).any (fun x => (x.toNat : Int) == c) = false) := by
          have h0 := H.out
          rw [take_snoc s k hlt, List.any_append, h0]; simp [Hid, hc]
        clear hc
        go_wp2_with fail
        go_round
        case rel => exact ⟨k + 1, by omega, by go_num, hT⟩
        case measure => simp [intOf]; omega
    · have hT : Hid (inB s c = false) := inB_no s c (by have := H.out; rw [show k = s.size by omega] at this; exact this)
      go_wp2_with fail
      go_ret
      exact ⟨by rw [hT.out]; rfl, rfl⟩

end Go.Proofs.YtmfmagfgcdaeeaaGreat.T1

/- The kind of a sign, asked through its interface; one byte as a text. -/
namespace Go.Proofs.YtmfmagfgcdaeeaaGreat.T1
open Go.RowKit
set_option maxRecDepth 100000

/-- What is known of a sign whose kind is asked. -/
structure KindFact (T : TypeId) (V : Value) (k : ByteArray) : Prop where
  pf : ∃ (F : FuncId) (R : Value), (∀ n w, (method (n + 1) T V "loop.example/g01175/impl.kind").run Tryz.prog w = .ok (F, R) w) ∧ (∀ n w, (nilAhead (n + 1) T V "loop.example/g01175/impl.kind").run Tryz.prog w = .ok (some false) w) ∧ (∀ args w, (callFunc F args).run Tryz.prog w = .ok (.enter F args) w) ∧ ∀ w, Calls Tryz.prog F #[R] w fun e w' => e = .returned (.string k) ∧ Below w.heap.size w w'

theorem mk_nothing (n : Nat) (w : World) : (method (n + 1) 132 (.agg #[]) "loop.example/g01175/impl.kind").run Tryz.prog w = .ok (244, .agg #[]) w := by kernel_rfl
theorem nk_nothing (n : Nat) (w : World) : (nilAhead (n + 1) 132 (.agg #[]) "loop.example/g01175/impl.kind").run Tryz.prog w = .ok (some false) w := by kernel_rfl
theorem ck_nothing (args : Array Value) (w : World) : (callFunc 244 args).run Tryz.prog w = .ok (.enter 244 args) w := by kernel_rfl
theorem kd_nothing (w : World) : Calls Tryz.prog 244 #[.agg #[]] w fun e w' => e = .returned (.string (one 48)) ∧ Below w.heap.size w w' := by
  go_enter Tryz.func244, Tryz.ntmps244
  go_wp2_with fail
  go_ret
  exact ⟨rfl, by first | exact Below.refl _ _ | exact (Below.refl _ _).alloc (Nat.le_refl _) _⟩
theorem mk_send (n0 : Int) (n1 : Int) (t2 : TypeId) (v2 : Value) (n : Nat) (w : World) : (method (n + 1) 144 (.agg #[.int .u8 n0, .int .u8 n1, .iface t2 v2]) "loop.example/g01175/impl.kind").run Tryz.prog w = .ok (247, .agg #[.int .u8 n0, .int .u8 n1, .iface t2 v2]) w := by kernel_rfl
theorem nk_send (n0 : Int) (n1 : Int) (t2 : TypeId) (v2 : Value) (n : Nat) (w : World) : (nilAhead (n + 1) 144 (.agg #[.int .u8 n0, .int .u8 n1, .iface t2 v2]) "loop.example/g01175/impl.kind").run Tryz.prog w = .ok (some false) w := by kernel_rfl
theorem ck_send (args : Array Value) (w : World) : (callFunc 247 args).run Tryz.prog w = .ok (.enter 247 args) w := by kernel_rfl
theorem kd_send (n0 : Int) (n1 : Int) (t2 : TypeId) (v2 : Value) (w : World) : Calls Tryz.prog 247 #[.agg #[.int .u8 n0, .int .u8 n1, .iface t2 v2]] w fun e w' => e = .returned (.string (one 33)) ∧ Below w.heap.size w w' := by
  go_enter Tryz.func247, Tryz.ntmps247
  go_wp2_with fail
  go_ret
  exact ⟨rfl, by first | exact Below.refl _ _ | exact (Below.refl _ _).alloc (Nat.le_refl _) _⟩
theorem mk_receive (n0 : Int) (n1 : Int) (t2 : TypeId) (v2 : Value) (n : Nat) (w : World) : (method (n + 1) 142 (.agg #[.int .u8 n0, .int .u8 n1, .iface t2 v2]) "loop.example/g01175/impl.kind").run Tryz.prog w = .ok (246, .agg #[.int .u8 n0, .int .u8 n1, .iface t2 v2]) w := by kernel_rfl
theorem nk_receive (n0 : Int) (n1 : Int) (t2 : TypeId) (v2 : Value) (n : Nat) (w : World) : (nilAhead (n + 1) 142 (.agg #[.int .u8 n0, .int .u8 n1, .iface t2 v2]) "loop.example/g01175/impl.kind").run Tryz.prog w = .ok (some false) w := by kernel_rfl
theorem ck_receive (args : Array Value) (w : World) : (callFunc 246 args).run Tryz.prog w = .ok (.enter 246 args) w := by kernel_rfl
theorem kd_receive (n0 : Int) (n1 : Int) (t2 : TypeId) (v2 : Value) (w : World) : Calls Tryz.prog 246 #[.agg #[.int .u8 n0, .int .u8 n1, .iface t2 v2]] w fun e w' => e = .returned (.string (one 63)) ∧ Below w.heap.size w w' := by
  go_enter Tryz.func246, Tryz.ntmps246
  go_wp2_with fail
  go_ret
  exact ⟨rfl, by first | exact Below.refl _ _ | exact (Below.refl _ _).alloc (Nat.le_refl _) _⟩
theorem mk_match (n0 : Int) (n1 : Int) (t2 : TypeId) (v2 : Value) (n : Nat) (w : World) : (method (n + 1) 146 (.agg #[.int .u8 n0, .int .u8 n1, .iface t2 v2]) "loop.example/g01175/impl.kind").run Tryz.prog w = .ok (248, .agg #[.int .u8 n0, .int .u8 n1, .iface t2 v2]) w := by kernel_rfl
theorem nk_match (n0 : Int) (n1 : Int) (t2 : TypeId) (v2 : Value) (n : Nat) (w : World) : (nilAhead (n + 1) 146 (.agg #[.int .u8 n0, .int .u8 n1, .iface t2 v2]) "loop.example/g01175/impl.kind").run Tryz.prog w = .ok (some false) w := by kernel_rfl
theorem ck_match (args : Array Value) (w : World) : (callFunc 248 args).run Tryz.prog w = .ok (.enter 248 args) w := by kernel_rfl
theorem kd_match (n0 : Int) (n1 : Int) (t2 : TypeId) (v2 : Value) (w : World) : Calls Tryz.prog 248 #[.agg #[.int .u8 n0, .int .u8 n1, .iface t2 v2]] w fun e w' => e = .returned (.string (one 61)) ∧ Below w.heap.size w w' := by
  go_enter Tryz.func248, Tryz.ntmps248
  go_wp2_with fail
  go_ret
  exact ⟨rfl, by first | exact Below.refl _ _ | exact (Below.refl _ _).alloc (Nat.le_refl _) _⟩
theorem mk_own (n0 : Int) (t1 : TypeId) (v1 : Value) (n : Nat) (w : World) : (method (n + 1) 100 (.agg #[.int .u8 n0, .iface t1 v1]) "loop.example/g01175/impl.kind").run Tryz.prog w = .ok (242, .agg #[.int .u8 n0, .iface t1 v1]) w := by kernel_rfl
theorem nk_own (n0 : Int) (t1 : TypeId) (v1 : Value) (n : Nat) (w : World) : (nilAhead (n + 1) 100 (.agg #[.int .u8 n0, .iface t1 v1]) "loop.example/g01175/impl.kind").run Tryz.prog w = .ok (some false) w := by kernel_rfl
theorem ck_own (args : Array Value) (w : World) : (callFunc 242 args).run Tryz.prog w = .ok (.enter 242 args) w := by kernel_rfl
theorem kd_own (n0 : Int) (t1 : TypeId) (v1 : Value) (w : World) : Calls Tryz.prog 242 #[.agg #[.int .u8 n0, .iface t1 v1]] w fun e w' => e = .returned (.string (one 35)) ∧ Below w.heap.size w w' := by
  go_enter Tryz.func242, Tryz.ntmps242
  go_wp2_with fail
  go_ret
  exact ⟨rfl, by first | exact Below.refl _ _ | exact (Below.refl _ _).alloc (Nat.le_refl _) _⟩
theorem mk_silent (t0 : TypeId) (v0 : Value) (n : Nat) (w : World) : (method (n + 1) 147 (.agg #[.iface t0 v0]) "loop.example/g01175/impl.kind").run Tryz.prog w = .ok (249, .agg #[.iface t0 v0]) w := by kernel_rfl
theorem nk_silent (t0 : TypeId) (v0 : Value) (n : Nat) (w : World) : (nilAhead (n + 1) 147 (.agg #[.iface t0 v0]) "loop.example/g01175/impl.kind").run Tryz.prog w = .ok (some false) w := by kernel_rfl
theorem ck_silent (args : Array Value) (w : World) : (callFunc 249 args).run Tryz.prog w = .ok (.enter 249 args) w := by kernel_rfl
theorem kd_silent (t0 : TypeId) (v0 : Value) (w : World) : Calls Tryz.prog 249 #[.agg #[.iface t0 v0]] w fun e w' => e = .returned (.string (one 126)) ∧ Below w.heap.size w w' := by
  go_enter Tryz.func249, Tryz.ntmps249
  go_wp2_with fail
  go_ret
  exact ⟨rfl, by first | exact Below.refl _ _ | exact (Below.refl _ _).alloc (Nat.le_refl _) _⟩
theorem mk_repeat (t0 : TypeId) (v0 : Value) (n : Nat) (w : World) : (method (n + 1) 103 (.agg #[.iface t0 v0]) "loop.example/g01175/impl.kind").run Tryz.prog w = .ok (243, .agg #[.iface t0 v0]) w := by kernel_rfl
theorem nk_repeat (t0 : TypeId) (v0 : Value) (n : Nat) (w : World) : (nilAhead (n + 1) 103 (.agg #[.iface t0 v0]) "loop.example/g01175/impl.kind").run Tryz.prog w = .ok (some false) w := by kernel_rfl
theorem ck_repeat (args : Array Value) (w : World) : (callFunc 243 args).run Tryz.prog w = .ok (.enter 243 args) w := by kernel_rfl
theorem kd_repeat (t0 : TypeId) (v0 : Value) (w : World) : Calls Tryz.prog 243 #[.agg #[.iface t0 v0]] w fun e w' => e = .returned (.string (one 42)) ∧ Below w.heap.size w w' := by
  go_enter Tryz.func243, Tryz.ntmps243
  go_wp2_with fail
  go_ret
  exact ⟨rfl, by first | exact Below.refl _ _ | exact (Below.refl _ _).alloc (Nat.le_refl _) _⟩
theorem mk_choice (t0 : TypeId) (v0 : Value) (t1 : TypeId) (v1 : Value) (n : Nat) (w : World) : (method (n + 1) 93 (.agg #[.iface t0 v0, .iface t1 v1]) "loop.example/g01175/impl.kind").run Tryz.prog w = .ok (240, .agg #[.iface t0 v0, .iface t1 v1]) w := by kernel_rfl
theorem nk_choice (t0 : TypeId) (v0 : Value) (t1 : TypeId) (v1 : Value) (n : Nat) (w : World) : (nilAhead (n + 1) 93 (.agg #[.iface t0 v0, .iface t1 v1]) "loop.example/g01175/impl.kind").run Tryz.prog w = .ok (some false) w := by kernel_rfl
theorem ck_choice (args : Array Value) (w : World) : (callFunc 240 args).run Tryz.prog w = .ok (.enter 240 args) w := by kernel_rfl
theorem kd_choice (t0 : TypeId) (v0 : Value) (t1 : TypeId) (v1 : Value) (w : World) : Calls Tryz.prog 240 #[.agg #[.iface t0 v0, .iface t1 v1]] w fun e w' => e = .returned (.string (one 43)) ∧ Below w.heap.size w w' := by
  go_enter Tryz.func240, Tryz.ntmps240
  go_wp2_with fail
  go_ret
  exact ⟨rfl, by first | exact Below.refl _ _ | exact (Below.refl _ _).alloc (Nat.le_refl _) _⟩
theorem mk_beside (t0 : TypeId) (v0 : Value) (t1 : TypeId) (v1 : Value) (n : Nat) (w : World) : (method (n + 1) 92 (.agg #[.iface t0 v0, .iface t1 v1]) "loop.example/g01175/impl.kind").run Tryz.prog w = .ok (239, .agg #[.iface t0 v0, .iface t1 v1]) w := by kernel_rfl
theorem nk_beside (t0 : TypeId) (v0 : Value) (t1 : TypeId) (v1 : Value) (n : Nat) (w : World) : (nilAhead (n + 1) 92 (.agg #[.iface t0 v0, .iface t1 v1]) "loop.example/g01175/impl.kind").run Tryz.prog w = .ok (some false) w := by kernel_rfl
theorem ck_beside (args : Array Value) (w : World) : (callFunc 239 args).run Tryz.prog w = .ok (.enter 239 args) w := by kernel_rfl
theorem kd_beside (t0 : TypeId) (v0 : Value) (t1 : TypeId) (v1 : Value) (w : World) : Calls Tryz.prog 239 #[.agg #[.iface t0 v0, .iface t1 v1]] w fun e w' => e = .returned (.string (one 38)) ∧ Below w.heap.size w w' := by
  go_enter Tryz.func239, Tryz.ntmps239
  go_wp2_with fail
  go_ret
  exact ⟨rfl, by first | exact Below.refl _ _ | exact (Below.refl _ _).alloc (Nat.le_refl _) _⟩
theorem kind_fact (t : Tm) : KindFact (tyOf t) (pay t) (one t.kind) := by
  cases t with
  | nil => exact ⟨_, _, mk_nothing, nk_nothing, ck_nothing, kd_nothing⟩
  | snd a b p => exact ⟨_, _, mk_send _ _ _ _, nk_send _ _ _ _, ck_send, kd_send _ _ _ _⟩
  | rcv a b p => exact ⟨_, _, mk_receive _ _ _ _, nk_receive _ _ _ _, ck_receive, kd_receive _ _ _ _⟩
  | tau p => exact ⟨_, _, mk_silent _ _, nk_silent _ _, ck_silent, kd_silent _ _⟩
  | sum p q => exact ⟨_, _, mk_choice _ _ _ _, nk_choice _ _ _ _, ck_choice, kd_choice _ _ _ _⟩
  | par p q => exact ⟨_, _, mk_beside _ _ _ _, nk_beside _ _ _ _, ck_beside, kd_beside _ _ _ _⟩
  | own x p => exact ⟨_, _, mk_own _ _ _, nk_own _ _ _, ck_own, kd_own _ _ _⟩
  | mat a b p => exact ⟨_, _, mk_match _ _ _ _, nk_match _ _ _ _, ck_match, kd_match _ _ _ _⟩
  | rep p => exact ⟨_, _, mk_repeat _ _, nk_repeat _ _, ck_repeat, kd_repeat _ _⟩

end Go.Proofs.YtmfmagfgcdaeeaaGreat.T1
