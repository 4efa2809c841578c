/- Texts of the proof, put together: Tf. No conditions. -/
import Derived.Test.YtinkioodkgccjaaDoorHac
import Derived.Test.YtinkioodkgccjaaDoorHat
import Derived.Laws.IdiomStrings
import Derived.Laws.RangeAny

/- Names in the specification: letters put into texts, taken out of them; free names and those that are bound. -/
namespace Go.Proofs.YtinkioodkgccjaaDoor.T1
open Go.RowKit
set_option maxRecDepth 100000
set_option linter.unusedVariables false

theorem get_list (s : ByteArray) (k : Nat) (h : k < s.size) : s.data.toList[k]'(by simpa using h) = s[k]'h := by simp [ByteArray.getElem_eq_getElem_data]
theorem conv1 (k : UInt8) (w : World) : (convert 33 9 (.slice (some ⟨w.heap.size, 0, none⟩) 1 1)).run Tryd.prog (w.alloc (.cells #[.int .u8 (k.toNat : Int)] 5)) = .ok (.string (one k)) (w.alloc (.cells #[.int .u8 (k.toNat : Int)] 5)) :=
  run_convert_bytes_back _ 33 9 5 _ 1 [k] Tryd.underlying33 Tryd.underlying5 Tryd.underlying9 (fun j hj => by
    have : j = 0 := by simp at hj; omega
    subst this
    rw [show (⟨w.heap.size, 0, none⟩ : Addr).add 0 = ⟨w.heap.size, 0, none⟩ from rfl, World.cell?_alloc_new]; rfl)
theorem conv1d (k : UInt8) (w : World) : (convert 33 9 (.slice (some ⟨w.heap.size, 0, none⟩) 1 1)).run Tryd.prog (w.alloc (.cells #[.int .u8 (k.toNat : Int)] 5)).drew = .ok (.string (one k)) (w.alloc (.cells #[.int .u8 (k.toNat : Int)] 5)).drew :=
  run_convert_bytes_back _ 33 9 5 _ 1 [k] Tryd.underlying33 Tryd.underlying5 Tryd.underlying9 (fun j hj => by
    have : j = 0 := by simp at hj; omega
    subst this
    show (w.alloc (.cells #[.int .u8 (k.toNat : Int)] 5)).cell? _ = _
    rw [show (⟨w.heap.size, 0, none⟩ : Addr).add 0 = ⟨w.heap.size, 0, none⟩ from rfl, World.cell?_alloc_new]; rfl)
theorem add_ins (s : ByteArray) (c : UInt8) (k : Nat) (hk : k ≤ s.size) (h1 : ∀ i (hi : i < s.size), i < k → s[i] < c) (h2 : ∀ hk : k < s.size, ¬ s[k] < c ∧ s[k] ≠ c) :
    s.extract 0 k ++ one c ++ s.extract k s.size = B (addL s.data.toList c) := by
  apply B_eq
  have hl : s.data.toList.length = s.size := by simp
  rw [addL_at c s.data.toList k (by omega) (fun i hi hik => by rw [get_list s i (by omega)]; exact h1 i (by omega) hik) (fun hk' => by rw [get_list s k (by omega)]; exact (h2 (by omega)).1)]
  rw [ByteArray.data_append, ByteArray.data_append, Array.toList_append, Array.toList_append, ByteArray.data_extract, ByteArray.data_extract, Array.toList_extract, Array.toList_extract]
  by_cases hlt : k < s.data.toList.length
  · rw [dif_pos hlt, if_neg (by rw [get_list s k (by omega)]; exact (h2 (by omega)).2)]
    simp [one, List.extract_eq_take_drop]
    exact List.take_of_length_le (by simp)
  · have : k = s.size := by omega
    subst this
    rw [dif_neg hlt]
    simp [one, List.extract_eq_take_drop]
    exact List.take_of_length_le (by simp)
theorem add_same (s : ByteArray) (c : UInt8) (k : Nat) (hk : k < s.size) (h1 : ∀ i (hi : i < s.size), i < k → s[i] < c) (h2 : s[k] = c) : s = B (addL s.data.toList c) := by
  apply B_eq
  have hl : s.data.toList.length = s.size := by simp
  rw [addL_at c s.data.toList k (by omega) (fun i hi hik => by rw [get_list s i (by omega)]; exact h1 i (by omega) hik) (fun hk' => by rw [get_list s k (by omega), h2, u8_lt]; omega)]
  rw [dif_pos (by omega), if_pos (by rw [get_list s k (by omega)]; exact h2)]

set_option maxHeartbeats 2000000 in
theorem tmAdd_any (s : ByteArray) (c : UInt8) (hs : s.size ≤ 100000) (w : World) : Calls Tryd.prog 51 #[.string s, .int .u8 (c.toNat : Int)] w fun e w' => e = .returned (.string (B (addL s.data.toList c))) ∧ Below w.heap.size w w' := by
  obtain ⟨cc, hcc⟩ : ∃ cc, cc = (c.toNat : Int) := ⟨_, rfl⟩
  have HCC := Lib.hid hcc
  have c0 : 0 ≤ cc := by omega
  have c1 : cc < 256 := by have := c.toNat_lt; omega
  have hcv := conv1 c
  have hcd := conv1d c
  rw [← hcc] at hcv hcd ⊢
  obtain ⟨O, hO⟩ : ∃ O, O = one c := ⟨_, rfl⟩
  have hO1 : O.size = 1 := by rw [hO]; rfl
  rw [← hO] at hcv hcd
  have HO := Lib.hid hO
  clear hcc hO
  go_enter Tryd.func51, Tryd.ntmps51
  go_wp2_with fail
  go_loop [5] (fun v => ∃ k : Nat, k ≤ s.size ∧ v = .int .i64 (k : Int) ∧ Hid (∀ i (hi : i < s.size), i < k → s[i] < c)) (fun v => s.size - (intOf v).toNat)
  case atStart => exact ⟨0, Nat.zero_le _, rfl, fun i hi h => by omega⟩
  case round =>
    obtain ⟨k, hk, rfl, H⟩ := hrel
    by_cases hlt : k < s.size
    · have hby : (s[k]'hlt).toNat < 256 := (s[k]'hlt).toNat_lt
      by_cases hc : ((s[k]'hlt).toNat : Int) < cc
      · have H' : Hid (∀ i (hi : i < s.size), i < k + 1 → s[i] < c) := fun i hi h => by
          rcases Nat.lt_or_ge i k with h' | h'
          · exact H.out i hi h'
          · obtain rfl : i = k := by omega
            rw [u8_lt]; have := HCC.out; omega
        go_wp2_with fail
        go_round
        case rel => exact ⟨k + 1, by omega, by go_num, H'⟩
        case measure => simp [intOf]; omega
      · by_cases he : ((s[k]'hlt).toNat : Int) = cc
        · have HE : Hid (s = B (addL s.data.toList c)) := add_same s c k hlt H.out (u8_ext (by have := HCC.out; omega))
          have b1 : (((s[k]'hlt).toNat : Int) == cc) = true := by simp [he]
          clear he
          go_wp2_with fail
          go_ret
          exact ⟨by rw [← HE.out]; rfl, Below.refl _ _⟩
        · have HE : Hid (s.extract 0 k ++ O ++ s.extract k s.size = B (addL s.data.toList c)) := HO.out ▸ add_ins s c k hk H.out (fun _ => ⟨by rw [u8_lt]; have := HCC.out; omega, fun e => he (by rw [e]; exact HCC.out.symm)⟩)
          have b1 : (((s[k]'hlt).toNat : Int) == cc) = false := by simp [he]
          clear he
          go_wp2_with fail
          go_region
          all_goals go_wp2_with fail
          all_goals go_ret
          all_goals exact ⟨by rw [← HE.out]; rfl, ((Below.refl _ _).alloc (Nat.le_refl _) _).drew⟩
    · have HE : Hid (s.extract 0 k ++ O ++ s.extract k s.size = B (addL s.data.toList c)) := HO.out ▸ add_ins s c k hk H.out (fun h => absurd h hlt)
      go_wp2_with fail
      go_region
      all_goals go_wp2_with fail
      all_goals go_ret
      all_goals exact ⟨by rw [← HE.out]; rfl, ((Below.refl _ _).alloc (Nat.le_refl _) _).drew⟩

theorem less_step (s : ByteArray) (c : UInt8) (k : Nat) (h : k < s.size) : lessL (s.data.toList.take (k + 1)) c = lessL (s.data.toList.take k) c ++ (if s[k] = c then [] else [s[k]]) := by
  rw [take_snoc s k h]
  unfold lessL
  rw [List.filter_append]
  by_cases hc : s[k] = c
  · simp [hc]
  · simp [hc]
theorem B_snoc (l : List UInt8) (s : ByteArray) (k : Nat) (h : k < s.size) : B l ++ s.extract k (k + 1) = B (l ++ [s[k]]) := by
  apply B_eq
  rw [ByteArray.data_append, Array.toList_append, ByteArray.data_extract, Array.toList_extract, B_list, List.extract_eq_take_drop, List.drop_eq_getElem_cons (by simpa using h), get_list s k h]
  simp
set_option maxHeartbeats 2000000 in
theorem tmLess_any (s : ByteArray) (c : UInt8) (hs : s.size ≤ 100000) (w : World) : Calls Tryd.prog 49 #[.string s, .int .u8 (c.toNat : Int)] w fun e w' => e = .returned (.string (B (lessL s.data.toList c))) ∧ w = w' := by
  obtain ⟨cc, hcc⟩ : ∃ cc, cc = (c.toNat : Int) := ⟨_, rfl⟩
  have HCC := Lib.hid hcc
  rw [← hcc]
  clear hcc
  go_enter Tryd.func49, Tryd.ntmps49
  go_wp2_with fail
  go_loop [5, 6] (fun o v => ∃ (X : ByteArray) (k : Nat), k ≤ s.size ∧ o = .string X ∧ X.size ≤ k ∧ v = .int .i64 (k : Int) ∧ Hid (X = B (lessL (s.data.toList.take k) c))) (fun _ v => s.size - (intOf v).toNat)
  case atStart => exact ⟨⟨#[]⟩, 0, Nat.zero_le _, rfl, Nat.le_refl _, rfl, rfl⟩
  case round =>
    obtain ⟨X, k, hk, rfl, hX, rfl, H⟩ := hrel
    by_cases hlt : k < s.size
    · have hw1 : IntKind.i64.wrap ((k : Int) + 1) = (k : Int) + 1 := IntWalk.i64_in _ (by omega)
      by_cases hc : ((s[k]'hlt).toNat : Int) = cc
      · have H' : Hid (X = B (lessL (s.data.toList.take (k + 1)) c)) := by
          show _ = _
          rw [less_step s c k hlt, if_pos (u8_ext (by have := HCC.out; omega)), List.append_nil]; exact H.out
        have b1 : (((s[k]'hlt).toNat : Int) != cc) = false := by simp [hc]
        clear hc
        go_wp2_with fail
        go_round
        case rel => exact ⟨X, k + 1, by omega, rfl, by omega, by go_num, H'⟩
        case measure => simp [intOf]; omega
      · have H' : Hid (X ++ s.extract k (k + 1) = B (lessL (s.data.toList.take (k + 1)) c)) := by
          show _ = _
          rw [less_step s c k hlt, if_neg (fun e => hc (by rw [e]; exact HCC.out.symm)), H.out, B_snoc _ s k hlt]
        have b1 : (((s[k]'hlt).toNat : Int) != cc) = true := by simp [hc]
        clear hc
        go_wp2_with fail
        go_round
        case rel => exact ⟨_, k + 1, by omega, rfl, by simp; omega, by go_num, H'⟩
        case measure => simp [intOf]; omega
    · have HE : Hid (X = B (lessL s.data.toList c)) := by
        have := H.out
        rw [List.take_of_length_le (by simp; omega)] at this
        exact this
      go_wp2_with fail
      go_ret
      exact ⟨by rw [← HE.out]; rfl, rfl⟩

theorem both_step (a : List UInt8) (s : ByteArray) (k : Nat) (h : k < s.size) : bothL a (s.data.toList.take (k + 1)) = addL (bothL a (s.data.toList.take k)) s[k] := by
  rw [take_snoc s k h]; unfold bothL; rw [List.foldl_append]; rfl
set_option maxHeartbeats 2000000 in
theorem tmBoth_any (a : List UInt8) (s : ByteArray) (ha : Srt a) (hs : s.size ≤ 100000) (w : World) : Calls Tryd.prog 47 #[.string (B a), .string s] w fun e w' => e = .returned (.string (B (bothL a s.data.toList))) ∧ Below w.heap.size w w' := by
  have HA := Lib.hid ha
  obtain ⟨X0, hX0⟩ : ∃ X0, X0 = B a := ⟨_, rfl⟩
  rw [← hX0]
  have HX0 := Lib.hid hX0
  clear hX0 ha
  go_enter Tryd.func47, Tryd.ntmps47
  go_wp2_with fail
  go_loopw [0, 5] (fun o v wr => ∃ (X : ByteArray) (k : Nat), k ≤ s.size ∧ o = .string X ∧ v = .int .i64 (k : Int) ∧ Hid (X = B (bothL a (s.data.toList.take k))) ∧ Below w.heap.size w wr) (fun _ v _ => s.size - (intOf v).toNat)
  case atStart => exact ⟨X0, 0, Nat.zero_le _, rfl, rfl, HX0, Below.refl _ _⟩
  case round =>
    obtain ⟨X, k, hk, rfl, rfl, H, hbw⟩ := hrel
    by_cases hlt : k < s.size
    · have HC : Hid (∀ w, Calls Tryd.prog 51 #[.string X, .int .u8 ((s[k]'hlt).toNat : Int)] w fun e w' => e = .returned (.string (B (bothL a (s.data.toList.take (k + 1))))) ∧ Below w.heap.size w w') := fun w => by
        rw [both_step a s k hlt]
        have := tmAdd_any X (s[k]'hlt) (by rw [H.out, B_size]; exact Nat.le_trans (srt_len (srt_bothL _ HA.out)) (by omega)) w
        rw [show X.data.toList = bothL a (s.data.toList.take k) by rw [H.out]; rfl] at this
        exact this
      obtain ⟨Y, hY⟩ : ∃ Y, Y = B (bothL a (s.data.toList.take (k + 1))) := ⟨_, rfl⟩
      rw [← hY] at HC
      have HY := Lib.hid hY
      clear hY
      go_wp2_with fail
      refine (HC.out _).mono ?_
      rintro e w1 ⟨rfl, b1⟩
      have hbw1 := below_trans hbw b1 hbw.size
      go_wp2_with fail
      go_roundw
      case rel => exact ⟨Y, k + 1, by omega, rfl, by go_num, HY, hbw1⟩
      case measure => simp [intOf]; omega
    · have HE : Hid (X = B (bothL a s.data.toList)) := by
        have := H.out
        rw [List.take_of_length_le (by simp; omega)] at this
        exact this
      go_wp2_with fail
      go_ret
      exact ⟨by rw [← HE.out]; rfl, hbw⟩

end Go.Proofs.YtinkioodkgccjaaDoor.T1
