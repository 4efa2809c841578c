/- Another process at a path, in the specification, for every process; a text, if it is a process. -/
import Derived.Test.YtpahhlcfbmmocabPp
namespace Go.Proofs.Ytpahhlcfbmmocab.T1
open Go.RowKit
set_option maxRecDepth 100000
set_option linter.unusedVariables false

theorem with_S1 (t p r : Tm) (h : t.parts = [p]) : (S t).extract 0 t.hd ++ S r = S (t.withP 0 r) := by
  apply S_of
  rw [ByteArray.data_append, Array.toList_append, ByteArray.data_extract, Array.toList_extract, S_list, S_list]
  cases t <;> simp [Tm.parts] at h <;> simp [Tm.pr, Tm.hd, Tm.withP, List.extract_eq_take_drop]
theorem with_S2 (t p q r s : Tm) (m : UInt8) (h : t.parts = [p, q]) (hm : t.kind = m) : one 40 ++ S r ++ one m ++ S s ++ one 41 = S ((t.withP 0 r).withP 1 s) := by
  subst hm
  apply S_of
  simp only [ByteArray.data_append, Array.toList_append, S_list]
  cases t <;> simp [Tm.parts] at h <;> simp [Tm.pr, Tm.withP, one, Tm.kind]
theorem hd_le (t p : Tm) (h : t.parts = [p]) : t.hd ≤ t.pr.length := by cases t <;> simp [Tm.parts] at h <;> simp [Tm.pr, Tm.hd] <;> omega
theorem kd_one (t p : Tm) (h : t.parts = [p]) : t.kind ≠ 48 ∧ t.kind ≠ 43 ∧ t.kind ≠ 38 := by cases t <;> simp [Tm.parts] at h <;> simp [Tm.kind]
theorem kd_two (t p q : Tm) (h : t.parts = [p, q]) : t.kind = 43 ∨ t.kind = 38 := by cases t <;> simp [Tm.parts] at h <;> simp [Tm.kind]
theorem u8_lit (c : UInt8) (n : Nat) (hn : n < 256) (h : c ≠ UInt8.ofNat n) : (((c.toNat : Nat) : Int) == (n : Int)) = false := by
  rw [beq_eq_false_iff_ne]; intro e; exact h (u8_ext (by rw [UInt8.toNat_ofNat']; omega))
theorem tmWith_1 (t p r : Tm) (h : t.parts = [p]) (ho : t.ok nmE = true) (hl : t.pr.length ≤ 700) (hr : r.pr.length ≤ 1000) (g n cap : Nat) (w : World) (hn : 1 ≤ n) (c0 : w.cell? ⟨g, 0, none⟩ = some (.string (S r))) :
    Calls Try.prog 78 #[.string (S t), .slice (some ⟨g, 0, none⟩) n cap] w fun e w' => e = .returned (.string (S (t.withP 0 r))) ∧ Below w.heap.size w w' := by
  have hk := kd_one t p h
  have := tw_one (S t) (S r) t.kind.toNat t.hd (by rw [S_size]; exact hl) (by rw [S_size]; exact hr) (by rw [S_size]; exact hd_le t p h) (u8_lit _ 48 (by decide) hk.1) (u8_lit _ 43 (by decide) hk.2.1) (u8_lit _ 38 (by decide) hk.2.2) (tmKind_any t ho hl) (tmHead_any t ho hl) g n cap hn w c0
  rw [with_S1 t p r h] at this
  exact this
theorem tmWith_2 (t p q r s : Tm) (h : t.parts = [p, q]) (ho : t.ok nmE = true) (hl : t.pr.length ≤ 700) (hr : r.pr.length ≤ 1000) (hs : s.pr.length ≤ 1000) (g n cap : Nat) (w : World) (hn : 2 ≤ n) (c0 : w.cell? ⟨g, 0, none⟩ = some (.string (S r))) (c1 : w.cell? ⟨g, 1, none⟩ = some (.string (S s))) :
    Calls Try.prog 78 #[.string (S t), .slice (some ⟨g, 0, none⟩) n cap] w fun e w' => e = .returned (.string (S ((t.withP 0 r).withP 1 s))) ∧ Below w.heap.size w w' := by
  have hm : (((t.kind.toNat : Nat) : Int) = 43 ∧ t.kind = 43) ∨ (((t.kind.toNat : Nat) : Int) = 38 ∧ t.kind = 38) := by
    rcases kd_two t p q h with e | e <;> rw [e]
    · exact .inl ⟨rfl, rfl⟩
    · exact .inr ⟨rfl, rfl⟩
  have := tw_two (S t) (S r) (S s) t.kind.toNat t.kind (by rw [S_size]; exact hr) (by rw [S_size]; exact hs) hm (tmKind_any t ho hl) g n cap hn w c0 c1
  rw [with_S2 t p q r s t.kind h rfl] at this
  exact this

theorem good_of {t : Tm} (h1 : t.ok nmL = true) (h2 : t.pr.length ≤ 300) (h3 : t.size ≤ 60) : good t.pr = some t :=
  good_yes h2 ((E_some nmL_nm).2 ⟨by rw [List.append_nil], h1⟩) h3
theorem good_not {t : Tm} (hE : t.ok nmE = true) (h : ¬ (t.ok nmL = true ∧ t.pr.length ≤ 300 ∧ t.size ≤ 60)) : good t.pr = none := by
  cases hg : good t.pr with
  | none => rfl
  | some t' =>
    obtain ⟨g1, g2, g3, g4⟩ := good_out hg
    have := (pr_inj nmE_nm t t' [] [] hE (ok_EL t' g3) (by rw [g2])).1
    subst this
    exact absurd ⟨g3, g1, g4⟩ h
set_option maxHeartbeats 1000000 in
theorem if_yes (s : ByteArray) (HG : ∀ w, Calls Try.prog 30 #[.string s] w fun e w' => e = .returned (.bool true) ∧ Below w.heap.size w w') (w : World) : Calls Try.prog 41 #[.string s] w fun e w' => e = .returned (.tuple #[.string s, .bool true]) ∧ Below w.heap.size w w' := by
  have H := Lib.hid HG
  clear HG
  go_enter Try.func41, Try.ntmps41
  go_wp2_with fail
  refine (H.out _).mono ?_
  rintro e w1 ⟨rfl, bl⟩
  go_wp2_with fail
  go_ret2
  exact ⟨rfl, bl⟩
set_option maxHeartbeats 1000000 in
theorem if_no (s : ByteArray) (HG : ∀ w, Calls Try.prog 30 #[.string s] w fun e w' => e = .returned (.bool false) ∧ Below w.heap.size w w') (w : World) : Calls Try.prog 41 #[.string s] w fun e w' => e = .returned (.tuple #[.string ⟨#[]⟩, .bool false]) ∧ Below w.heap.size w w' := by
  have H := Lib.hid HG
  clear HG
  go_enter Try.func41, Try.ntmps41
  go_wp2_with fail
  refine (H.out _).mono ?_
  rintro e w1 ⟨rfl, bl⟩
  go_wp2_with fail
  go_ret2
  exact ⟨rfl, bl⟩
/-- What is left by the question whether a tree is a process. -/
def okT (t : Tm) : Bool := t.ok nmL && decide (t.pr.length ≤ 300) && decide (t.size ≤ 60)
theorem okT_iff (t : Tm) : okT t = true ↔ t.ok nmL = true ∧ t.pr.length ≤ 300 ∧ t.size ≤ 60 := by simp [okT, and_assoc]
theorem tmIf_any (t : Tm) (hE : t.ok nmE = true) (hl : t.pr.length ≤ 100000) (w : World) : Calls Try.prog 41 #[.string (S t)] w fun e w' => e = .returned (if okT t then .tuple #[.string (S t), .bool true] else .tuple #[.string ⟨#[]⟩, .bool false]) ∧ Below w.heap.size w w' := by
  have hs : (S t).size ≤ 9223372036854775807 := by rw [S_size]; omega
  by_cases h : okT t = true
  · rw [if_pos h]
    have h' := (okT_iff t).1 h
    exact if_yes _ (fun w => tmGood_some (t := t) (by rw [S_list]; exact good_of h'.1 h'.2.1 h'.2.2) w hs) w
  · rw [if_neg h]
    exact if_no _ (fun w => tmGood_none (by rw [S_list]; exact good_not hE (fun h' => h ((okT_iff t).2 h'))) w hs) w

end Go.Proofs.Ytpahhlcfbmmocab.T1
