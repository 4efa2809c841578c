/- How many signs bind a name, in the program. -/
import Derived.Test.YtpahhlcfbmmocabCi
import Derived.Test.YtpahhlcfbmmocabNm
namespace Go.Proofs.Ytpahhlcfbmmocab.T1
open Go.RowKit
set_option maxRecDepth 100000
set_option linter.unusedVariables false

theorem kinds_bnd (t : Tm) : t.subs.countP (isK 63) + t.subs.countP (isK 35) = t.bnd.length := by
  induction t <;> simp_all [Tm.subs, Tm.bnd, isK, Tm.kind] <;> omega
set_option maxHeartbeats 2000000 in
theorem bindersIn_any (t : Tm) (ht : t.size ≤ 1000) : ∀ w, Calls Try.prog 51 #[.iface (tyOf t) (pay t)] w fun e w' => e = .returned (.int .i64 (t.bnd.length : Nat)) ∧ Below w.heap.size w w' := by
  intro w
  have h1 := countKind_any t ht (one 63)
  have h2 := countKind_any t ht (one 35)
  rw [show (fun u : Tm => (one u.kind).toList == (one 63).toList) = isK 63 from by funext u; rw [one_eq]; rfl] at h1
  rw [show (fun u : Tm => (one u.kind).toList == (one 35).toList) = isK 35 from by funext u; rw [one_eq]; rfl] at h2
  have hk := kinds_bnd t
  have hb := bnd_len t
  obtain ⟨T, hT⟩ : ∃ T, T = tyOf t := ⟨_, rfl⟩
  obtain ⟨V, hV⟩ : ∃ V, V = pay t := ⟨_, rfl⟩
  obtain ⟨N, hN⟩ : ∃ N, N = t.subs.countP (isK 63) := ⟨_, rfl⟩
  obtain ⟨M, hM⟩ : ∃ M, M = t.subs.countP (isK 35) := ⟨_, rfl⟩
  obtain ⟨K, hK⟩ : ∃ K, K = t.bnd.length := ⟨_, rfl⟩
  rw [← hT, ← hV, ← hN] at h1
  rw [← hT, ← hV, ← hM] at h2
  rw [← hN, ← hM, ← hK] at hk
  rw [← hK] at hb
  rw [← hT, ← hV, ← hK]
  have H1 : Hid (∀ w, Calls Try.prog 60 #[.iface T V, .string ⟨#[63]⟩] w fun e w' => e = .returned (.int .i64 (N : Int)) ∧ Below w.heap.size w w') := h1
  have H2 : Hid (∀ w, Calls Try.prog 60 #[.iface T V, .string ⟨#[35]⟩] w fun e w' => e = .returned (.int .i64 (M : Int)) ∧ Below w.heap.size w w') := h2
  have hn : N ≤ 1000 := by omega
  have hm : M ≤ 1000 := by omega
  have HK := Lib.hid hk
  clear h1 h2 hT hV hN hM hK hk hb ht
  go_enter Try.func51, Try.ntmps51
  go_wp2_with fail
  refine (H1.out _).mono ?_
  rintro e w1 ⟨rfl, b1⟩
  go_wp2_with fail
  refine (H2.out _).mono ?_
  rintro e w2 ⟨rfl, b2⟩
  go_wp2_with fail
  go_ret
  exact ⟨ret_int (by have := HK.out; omega), below_trans b1 b2 b1.size⟩


end Go.Proofs.Ytpahhlcfbmmocab.T1
