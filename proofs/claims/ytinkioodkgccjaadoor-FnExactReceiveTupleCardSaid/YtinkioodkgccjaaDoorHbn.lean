/- Texts of the proof, put together: Cdh. No conditions. -/
import Derived.Test.YtinkioodkgccjaaDoorHaf
import Derived.Test.YtinkioodkgccjaaDoorHax
import Derived.Test.YtinkioodkgccjaaDoorHbj
import Derived.Test.YtinkioodkgccjaaDoorHbm

/- Tuples that are sent and received, in the specification. No conditions. -/
namespace Go.Proofs.YtinkioodkgccjaaDoor.T1
open Go.RowKit
set_option maxRecDepth 100000
set_option linter.unusedVariables false
set_option linter.unusedSimpArgs false

theorem B_app (l m : List UInt8) : B l ++ B m = B (l ++ m) := by apply B_eq; simp [B]
theorem S_B (t : Tm) : S t = B t.pr := rfl
theorem ext1 (l : List UInt8) (k : Nat) (h : k < l.length) : (B l).extract k (k + 1) = B [l[k]] := by
  apply B_eq
  rw [ByteArray.data_extract, Array.toList_extract, B_list, List.extract_eq_take_drop, List.drop_eq_getElem_cons h, show k + 1 - k = 1 by omega]
  rfl
theorem xgo {u v w : World} (h : Below u.heap.size u v) (k : Below v.heap.size v w) : Below u.heap.size u w := below_trans h k h.size

set_option maxHeartbeats 1000000 in
theorem cdText_any (c : UInt8) (w : World) : Calls Tryd.prog 29 #[.int .u8 (c.toNat : Int)] w fun e w' => e = .returned (.string (B [c])) ∧ Below w.heap.size w w' := by
  have hcv := conv1 c
  rw [show one c = B [c] from rfl] at hcv
  obtain ⟨X, hX⟩ : ∃ X, X = B [c] := ⟨_, rfl⟩
  obtain ⟨cc, hcc⟩ : ∃ cc : Int, cc = (c.toNat : Int) := ⟨_, rfl⟩
  rw [← hX, ← hcc] at hcv
  rw [← hX, ← hcc]
  clear hX hcc
  go_enter Tryd.func29, Tryd.ntmps29
  go_wp2_with fail
  go_ret
  exact ⟨rfl, (Below.refl _ _).alloc (Nat.le_refl _) _⟩
/-- A fresh letter for a text of names. -/
theorem fresh_at (l : List UInt8) (h : l.length ≤ 1000) (c : UInt8) (hc : c = fresh l) (w : World) : Calls Tryd.prog 30 #[.string (B l)] w fun e w' => e = .returned (.int .u8 (c.toNat : Int)) ∧ Below w.heap.size w w' :=
  (tmFresh_exact (B l) (by rw [B_size]; omega) w).mono fun e w' ⟨h1, h2⟩ => by rw [hc, ← h2]; exact ⟨h1, Below.refl _ _⟩

set_option maxHeartbeats 2000000 in
theorem cdSend_any (a : UInt8) (l : List UInt8) (p : Tm) (hl : l.length ≤ 100) (hp : p.ok nmE = true) (hpl : p.pr.length ≤ 700) (w : World) :
    Calls Tryd.prog 13 #[.string (B [a]), .string (B l), .string (S p)] w fun e w' => e = .returned (.string (S (sendC a l p))) ∧ Below w.heap.size w w' := by
  have HF := Lib.hid (tmFree_any p hp hpl)
  obtain ⟨c, hc⟩ : ∃ c, c = linkN a l p := ⟨_, rfl⟩
  have hfl := srt_len (srt_free p)
  have HR := Lib.hid (fun w => fresh_at ([a] ++ l ++ p.free) (by simp; omega) c (by rw [hc]; simp [linkN]) w)
  rw [← B_app, ← B_app] at HR
  have HT := Lib.hid (cdText_any c)
  have e0 : sendC a l p = sendW c a l p := by rw [hc]; rfl
  rw [e0]
  obtain ⟨cc, hcc⟩ : ∃ cc : Int, cc = (c.toNat : Int) := ⟨_, rfl⟩
  rw [← hcc] at HR HT
  obtain ⟨W, hW⟩ : ∃ W, W = B [c] := ⟨_, rfl⟩
  obtain ⟨A, hA⟩ : ∃ A, A = B [a] := ⟨_, rfl⟩
  obtain ⟨N, hN⟩ : ∃ N, N = B l := ⟨_, rfl⟩
  obtain ⟨F, hF⟩ : ∃ F, F = B p.free := ⟨_, rfl⟩
  obtain ⟨P, hP⟩ : ∃ P, P = S p := ⟨_, rfl⟩
  rw [← hW] at HT
  rw [← hA, ← hN, ← hF] at HR
  rw [← hF, ← hP] at HF
  rw [← hA, ← hN, ← hP]
  have sW : W.size = 1 := by rw [hW]; rfl
  have sA : A.size = 1 := by rw [hA]; rfl
  have sN : N.size = l.length := by rw [hN]; exact B_size _
  have sF : F.size ≤ 256 := by rw [hF, B_size]; exact hfl
  have sP : P.size = p.pr.length := by rw [hP]; exact S_size _
  obtain ⟨n, hn⟩ : ∃ n, n = l.length := ⟨_, rfl⟩
  have HNn := Lib.hid hn
  rw [← hn] at hl sN
  have HW := Lib.hid hW
  have HA := Lib.hid hA
  have HNN := Lib.hid hN
  have HP := Lib.hid hP
  clear hW hA hN hF hP hn hcc hc hfl e0 hp
  go_enter Tryd.func13, Tryd.ntmps13
  go_wp2_with fail
  with_reducible refine (HF.out _).mono ?_
  rintro e w1 ⟨rfl, b1⟩
  go_wp2_with fail
  with_reducible refine (HR.out _).mono ?_
  rintro e w2 ⟨rfl, b2⟩
  have bl2 := xgo b1 b2
  go_wp2_with fail
  with_reducible refine (HT.out _).mono ?_
  rintro e w3 ⟨rfl, b3⟩
  have bl3 := xgo bl2 b3
  clear b1 b2 b3 bl2
  go_wp2_with fail
  go_loop [8, 9] (fun o i => ∃ (X : ByteArray) (k : Nat), k ≤ n ∧ o = .string X ∧ X.size = 7 + 4 * k ∧ i = .int .i64 (k : Int) ∧ Hid (X = B ([35, c, 46, a, 33, c, 46] ++ ((l.take k).map fun b => [c, 33, b, 46]).flatten))) (fun _ i => n - (intOf i).toNat)
  case atStart =>
    refine ⟨_, 0, Nat.zero_le _, rfl, ?_, rfl, ?_⟩
    · simp only [ByteArray.size_append, sW, sA]; rfl
    · show _ = _
      rw [HW.out, HA.out]; simp only [List.take_zero, List.map_nil, List.flatten_nil, List.append_nil]; rfl
  case round =>
    obtain ⟨X, k, hk, rfl, hX, rfl, H⟩ := hrel
    by_cases hlt : k < n
    · have hkl : k < l.length := by rw [← HNn.out]; exact hlt
      have hw1 : IntKind.i64.wrap ((k : Int) + 1) = (k : Int) + 1 := IntWalk.i64_in _ (by omega)
      have sx : (N.extract k (k + 1)).size = 1 := by rw [ByteArray.size_extract]; omega
      have H' : Hid (X ++ (W ++ ⟨#[33]⟩ ++ N.extract k (k + 1) ++ ⟨#[46]⟩) = B ([35, c, 46, a, 33, c, 46] ++ ((l.take (k + 1)).map fun b => [c, 33, b, 46]).flatten)) := by
        show _ = _
        rw [H.out, HW.out, HNN.out, ext1 l k hkl, List.take_succ_eq_append_getElem hkl, List.map_append, List.flatten_append]
        show B _ ++ (B [c] ++ B [33] ++ B [l[k]] ++ B [46]) = _
        rw [B_app, B_app, B_app, B_app]; simp
      have hX' : (X ++ (W ++ ⟨#[33]⟩ ++ N.extract k (k + 1) ++ ⟨#[46]⟩)).size = 7 + 4 * (k + 1) := by
        simp only [ByteArray.size_append, sW, sx, hX]
        show _ + (1 + 1 + 1 + 1) = _
        omega
      have z1 : (⟨#[33]⟩ : ByteArray).size = 1 := rfl
      have z2 : (⟨#[46]⟩ : ByteArray).size = 1 := rfl
      go_wp2_with fail
      go_round
      case rel => exact ⟨_, k + 1, by omega, rfl, hX', by go_num, H'⟩
      case measure => simp [intOf]; omega
    · obtain rfl : k = n := by omega
      have HE : Hid (X ++ P = S (sendW c a l p)) := by
        show _ = _
        rw [H.out, List.take_of_length_le (by rw [← HNn.out]; exact Nat.le_refl _), HP.out, S_B, S_B, B_app]
        simp [sendW, Tm.pr, snds_pr, rcvs_pr]
      go_wp2_with fail
      go_ret
      exact ⟨by rw [← HE.out]; rfl, bl3⟩
set_option maxHeartbeats 2000000 in
theorem cdReceive_any (a : UInt8) (l : List UInt8) (p : Tm) (hl : l.length ≤ 100) (hp : p.ok nmE = true) (hpl : p.pr.length ≤ 700) (w : World) :
    Calls Tryd.prog 21 #[.string (B [a]), .string (B l), .string (S p)] w fun e w' => e = .returned (.string (S (recvC a l p))) ∧ Below w.heap.size w w' := by
  have HF := Lib.hid (tmFree_any p hp hpl)
  obtain ⟨c, hc⟩ : ∃ c, c = linkN a l p := ⟨_, rfl⟩
  have hfl := srt_len (srt_free p)
  have HR := Lib.hid (fun w => fresh_at ([a] ++ l ++ p.free) (by simp; omega) c (by rw [hc]; simp [linkN]) w)
  rw [← B_app, ← B_app] at HR
  have HT := Lib.hid (cdText_any c)
  have e0 : recvC a l p = recvW c a l p := by rw [hc]; rfl
  rw [e0]
  obtain ⟨cc, hcc⟩ : ∃ cc : Int, cc = (c.toNat : Int) := ⟨_, rfl⟩
  rw [← hcc] at HR HT
  obtain ⟨W, hW⟩ : ∃ W, W = B [c] := ⟨_, rfl⟩
  obtain ⟨A, hA⟩ : ∃ A, A = B [a] := ⟨_, rfl⟩
  obtain ⟨N, hN⟩ : ∃ N, N = B l := ⟨_, rfl⟩
  obtain ⟨F, hF⟩ : ∃ F, F = B p.free := ⟨_, rfl⟩
  obtain ⟨P, hP⟩ : ∃ P, P = S p := ⟨_, rfl⟩
  rw [← hW] at HT
  rw [← hA, ← hN, ← hF] at HR
  rw [← hF, ← hP] at HF
  rw [← hA, ← hN, ← hP]
  have sW : W.size = 1 := by rw [hW]; rfl
  have sA : A.size = 1 := by rw [hA]; rfl
  have sN : N.size = l.length := by rw [hN]; exact B_size _
  have sF : F.size ≤ 256 := by rw [hF, B_size]; exact hfl
  have sP : P.size = p.pr.length := by rw [hP]; exact S_size _
  obtain ⟨n, hn⟩ : ∃ n, n = l.length := ⟨_, rfl⟩
  have HNn := Lib.hid hn
  rw [← hn] at hl sN
  have HW := Lib.hid hW
  have HA := Lib.hid hA
  have HNN := Lib.hid hN
  have HP := Lib.hid hP
  clear hW hA hN hF hP hn hcc hc hfl e0 hp
  go_enter Tryd.func21, Tryd.ntmps21
  go_wp2_with fail
  with_reducible refine (HF.out _).mono ?_
  rintro e w1 ⟨rfl, b1⟩
  go_wp2_with fail
  with_reducible refine (HR.out _).mono ?_
  rintro e w2 ⟨rfl, b2⟩
  have bl2 := xgo b1 b2
  go_wp2_with fail
  with_reducible refine (HT.out _).mono ?_
  rintro e w3 ⟨rfl, b3⟩
  have bl3 := xgo bl2 b3
  clear b1 b2 b3 bl2
  go_wp2_with fail
  go_loop [8, 9] (fun o i => ∃ (X : ByteArray) (k : Nat), k ≤ n ∧ o = .string X ∧ X.size = 4 + 4 * k ∧ i = .int .i64 (k : Int) ∧ Hid (X = B ([a, 63, c, 46] ++ ((l.take k).map fun b => [c, 63, b, 46]).flatten))) (fun _ i => n - (intOf i).toNat)
  case atStart =>
    refine ⟨_, 0, Nat.zero_le _, rfl, ?_, rfl, ?_⟩
    · simp only [ByteArray.size_append, sW, sA]; rfl
    · show _ = _
      rw [HW.out, HA.out]; simp only [List.take_zero, List.map_nil, List.flatten_nil, List.append_nil]; rfl
  case round =>
    obtain ⟨X, k, hk, rfl, hX, rfl, H⟩ := hrel
    by_cases hlt : k < n
    · have hkl : k < l.length := by rw [← HNn.out]; exact hlt
      have hw1 : IntKind.i64.wrap ((k : Int) + 1) = (k : Int) + 1 := IntWalk.i64_in _ (by omega)
      have sx : (N.extract k (k + 1)).size = 1 := by rw [ByteArray.size_extract]; omega
      have H' : Hid (X ++ (W ++ ⟨#[63]⟩ ++ N.extract k (k + 1) ++ ⟨#[46]⟩) = B ([a, 63, c, 46] ++ ((l.take (k + 1)).map fun b => [c, 63, b, 46]).flatten)) := by
        show _ = _
        rw [H.out, HW.out, HNN.out, ext1 l k hkl, List.take_succ_eq_append_getElem hkl, List.map_append, List.flatten_append]
        show B _ ++ (B [c] ++ B [63] ++ B [l[k]] ++ B [46]) = _
        rw [B_app, B_app, B_app, B_app]; simp
      have hX' : (X ++ (W ++ ⟨#[63]⟩ ++ N.extract k (k + 1) ++ ⟨#[46]⟩)).size = 4 + 4 * (k + 1) := by
        simp only [ByteArray.size_append, sW, sx, hX]
        show _ + (1 + 1 + 1 + 1) = _
        omega
      have z1 : (⟨#[63]⟩ : ByteArray).size = 1 := rfl
      have z2 : (⟨#[46]⟩ : ByteArray).size = 1 := rfl
      go_wp2_with fail
      go_round
      case rel => exact ⟨_, k + 1, by omega, rfl, hX', by go_num, H'⟩
      case measure => simp [intOf]; omega
    · obtain rfl : k = n := by omega
      have HE : Hid (X ++ P = S (recvW c a l p)) := by
        show _ = _
        rw [H.out, List.take_of_length_le (by rw [← HNn.out]; exact Nat.le_refl _), HP.out, S_B, S_B, B_app]
        simp [recvW, Tm.pr, snds_pr, rcvs_pr]
      go_wp2_with fail
      go_ret
      exact ⟨by rw [← HE.out]; rfl, bl3⟩
end Go.Proofs.YtinkioodkgccjaaDoor.T1
