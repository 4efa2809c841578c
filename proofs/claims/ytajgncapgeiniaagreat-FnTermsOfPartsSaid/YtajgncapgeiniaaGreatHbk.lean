/- Texts of the proof, put together: Pq, CReplaceAt. No conditions. -/
import Derived.Test.YtajgncapgeiniaaGreatHbd
import Derived.Test.YtajgncapgeiniaaGreatProg
import Derived.WalkKit
import Derived.ProofKit
import Derived.OpenShut
import Derived.ShutString
import Derived.ChangeOld
import Derived.Below

/- Another process at a path, in the specification, for every process; a text, if it is a process. -/
namespace Go.Proofs.YtajgncapgeiniaaGreat.T1
open Go.RowKit
set_option maxRecDepth 100000
set_option linter.unusedVariables false

theorem with_S1 (t p r : Tm) (h : t.parts = [p]) : (S t).extract 0 t.hd ++ S r = S (t.withP 0 r) := by
  apply S_of
  rw [ByteArray.data_append, Array.toList_append, ByteArray.data_extract, Array.toList_extract, S_list, S_list]
  cases t <;> simp [Tm.parts] at h <;> simp [Tm.pr, Tm.hd, Tm.withP, List.extract_eq_take_drop]
theorem with_S2 (t p q r s : Tm) (m : UInt8) (h : t.parts = [p, q]) (hm : t.kind = m) : one 40 ++ S r ++ one m ++ S s ++ one 41 = S ((t.withP 0 r).withP 1 s) := by
  subst hm
  apply S_of
  simp only [ByteArray.data_append, Array.toList_append, S_list]
  cases t <;> simp [Tm.parts] at h <;> simp [Tm.pr, Tm.withP, one, Tm.kind]
theorem hd_le (t p : Tm) (h : t.parts = [p]) : t.hd ≤ t.pr.length := by cases t <;> simp [Tm.parts] at h <;> simp [Tm.pr, Tm.hd] <;> omega
theorem kd_one (t p : Tm) (h : t.parts = [p]) : t.kind ≠ 48 ∧ t.kind ≠ 43 ∧ t.kind ≠ 38 := by cases t <;> simp [Tm.parts] at h <;> simp [Tm.kind]
theorem kd_two (t p q : Tm) (h : t.parts = [p, q]) : t.kind = 43 ∨ t.kind = 38 := by cases t <;> simp [Tm.parts] at h <;> simp [Tm.kind]
theorem u8_lit (c : UInt8) (n : Nat) (hn : n < 256) (h : c ≠ UInt8.ofNat n) : (((c.toNat : Nat) : Int) == (n : Int)) = false := by
  rw [beq_eq_false_iff_ne]; intro e; exact h (u8_ext (by rw [UInt8.toNat_ofNat']; omega))
theorem tmWith_1 (t p r : Tm) (h : t.parts = [p]) (ho : t.ok nmE = true) (hl : t.pr.length ≤ 700) (hr : r.pr.length ≤ 1000) (g n cap : Nat) (w : World) (hn : 1 ≤ n) (c0 : w.cell? ⟨g, 0, none⟩ = some (.string (S r))) :
    Calls Tryz.prog 110 #[.string (S t), .slice (some ⟨g, 0, none⟩) n cap] w fun e w' => e = .returned (.string (S (t.withP 0 r))) ∧ Below w.heap.size w w' := by
  have hk := kd_one t p h
  have := tw_one (S t) (S r) t.kind.toNat t.hd (by rw [S_size]; exact hl) (by rw [S_size]; exact hr) (by rw [S_size]; exact hd_le t p h) (u8_lit _ 48 (by decide) hk.1) (u8_lit _ 43 (by decide) hk.2.1) (u8_lit _ 38 (by decide) hk.2.2) (tmKind_any t ho hl) (tmHead_any t ho hl) g n cap hn w c0
  rw [with_S1 t p r h] at this
  exact this
theorem tmWith_2 (t p q r s : Tm) (h : t.parts = [p, q]) (ho : t.ok nmE = true) (hl : t.pr.length ≤ 700) (hr : r.pr.length ≤ 1000) (hs : s.pr.length ≤ 1000) (g n cap : Nat) (w : World) (hn : 2 ≤ n) (c0 : w.cell? ⟨g, 0, none⟩ = some (.string (S r))) (c1 : w.cell? ⟨g, 1, none⟩ = some (.string (S s))) :
    Calls Tryz.prog 110 #[.string (S t), .slice (some ⟨g, 0, none⟩) n cap] w fun e w' => e = .returned (.string (S ((t.withP 0 r).withP 1 s))) ∧ Below w.heap.size w w' := by
  have hm : (((t.kind.toNat : Nat) : Int) = 43 ∧ t.kind = 43) ∨ (((t.kind.toNat : Nat) : Int) = 38 ∧ t.kind = 38) := by
    rcases kd_two t p q h with e | e <;> rw [e]
    · exact .inl ⟨rfl, rfl⟩
    · exact .inr ⟨rfl, rfl⟩
  have := tw_two (S t) (S r) (S s) t.kind.toNat t.kind (by rw [S_size]; exact hr) (by rw [S_size]; exact hs) hm (tmKind_any t ho hl) g n cap hn w c0 c1
  rw [with_S2 t p q r s t.kind h rfl] at this
  exact this

theorem tmPut_any (q : Tm) (hq : q.pr.length ≤ 700) (l : List UInt8) : ∀ (t r : Tm), t.ok nmE = true → t.pr.length ≤ 300 → putP t l q = some r → ∀ w, Calls Tryz.prog 69 #[.string (S t), .string (B l), .string (S q)] w fun e w' => e = .returned (.string (S r)) ∧ Below w.heap.size w w' := by
  induction l with
  | nil =>
    intro t r _ _ h w
    simp only [putP, Option.some.injEq] at h
    subst h
    exact tp_nil _ _ w
  | cons c l ih =>
    intro t r ho hl3 h w
    have hl : t.pr.length ≤ 700 := by omega
    have hX : 0 < (B (c :: l)).size := by rw [B_size]; simp
    have hc : (B (c :: l))[0]'hX = c := byte_of (B_list _) 0 hX (by simp)
    have he := cons_empty c l
    simp only [putP] at h
    cases hs : stepN t c.toNat with
    | none => rw [hs] at h; cases h
    | some p =>
      rw [hs] at h
      cases hp : putP p l q with
      | none => simp [hp] at h
      | some r' =>
        simp [hp] at h
        subst h
        have hsub := sub_parts t p (stepN_mem t p _ hs)
        have hb := (putP_ok l p q r' hp).2.1
        have hr' : r'.pr.length ≤ 1000 := by have := hsub.2; omega
        have hI := ih p r' (hsub.1 nmE ho) (by have := hsub.2; omega) hp
        rw [← cons_ext c l] at hI
        have hPT := tmParts_any t ho hl
        rcases step_cases t p c.toNat hs with ⟨h1, h2⟩ | ⟨u, h1, h2⟩ | ⟨u, h1, h2⟩
        · rw [h1] at hPT
          rw [h2]
          exact tp_one _ _ _ _ _ _ hX he (by rw [hc, h2]; rfl) hPT hI (fun g n cap w hn hc => tmWith_1 t p r' h1 ho hl hr' g n cap w hn hc) w
        · rw [h1] at hPT
          rw [h2]
          have hu : u.pr.length ≤ 1000 := by have := (sub_parts t u (by rw [h1]; simp)).2; omega
          exact tp_twoA _ _ _ _ _ _ _ hX he (by rw [hc, h2]; rfl) hPT hI (fun g n cap w hn hc hc1 => by have := tmWith_2 t p u r' u h1 ho hl hr' hu g n cap w hn hc hc1; rw [with_same0 t p u r' h1] at this; exact this) w
        · rw [h1] at hPT
          rw [h2]
          have hu : u.pr.length ≤ 1000 := by have := (sub_parts t u (by rw [h1]; simp)).2; omega
          exact tp_twoB _ _ _ _ _ _ _ hX he (by rw [hc, h2]; rfl) hPT hI (fun g n cap w hn hc hc1 => by have := tmWith_2 t u p u r' h1 ho hl hu hr' g n cap w hn hc hc1; rw [with_same1 t u p r' h1] at this; exact this) w

theorem good_of {t : Tm} (h1 : t.ok nmL = true) (h2 : t.pr.length ≤ 300) (h3 : t.size ≤ 60) : good t.pr = some t :=
  good_yes h2 ((E_some nmL_nm).2 ⟨by rw [List.append_nil], h1⟩) h3
theorem good_not {t : Tm} (hE : t.ok nmE = true) (h : ¬ (t.ok nmL = true ∧ t.pr.length ≤ 300 ∧ t.size ≤ 60)) : good t.pr = none := by
  cases hg : good t.pr with
  | none => rfl
  | some t' =>
    obtain ⟨g1, g2, g3, g4⟩ := good_out hg
    have := (pr_inj nmE_nm t t' [] [] hE (ok_EL t' g3) (by rw [g2])).1
    subst this
    exact absurd ⟨g3, g1, g4⟩ h
set_option maxHeartbeats 1000000 in
theorem if_yes (s : ByteArray) (HG : ∀ w, Calls Tryz.prog 52 #[.string s] w fun e w' => e = .returned (.bool true) ∧ Below w.heap.size w w') (w : World) : Calls Tryz.prog 68 #[.string s] w fun e w' => e = .returned (.tuple #[.string s, .bool true]) ∧ Below w.heap.size w w' := by
  have H := Lib.hid HG
  clear HG
  go_enter Tryz.func68, Tryz.ntmps68
  go_wp2_with fail
  refine (H.out _).mono ?_
  rintro e w1 ⟨rfl, bl⟩
  go_wp2_with fail
  go_ret2
  exact ⟨rfl, bl⟩
set_option maxHeartbeats 1000000 in
theorem if_no (s : ByteArray) (HG : ∀ w, Calls Tryz.prog 52 #[.string s] w fun e w' => e = .returned (.bool false) ∧ Below w.heap.size w w') (w : World) : Calls Tryz.prog 68 #[.string s] w fun e w' => e = .returned (.tuple #[.string ⟨#[]⟩, .bool false]) ∧ Below w.heap.size w w' := by
  have H := Lib.hid HG
  clear HG
  go_enter Tryz.func68, Tryz.ntmps68
  go_wp2_with fail
  refine (H.out _).mono ?_
  rintro e w1 ⟨rfl, bl⟩
  go_wp2_with fail
  go_ret2
  exact ⟨rfl, bl⟩
/-- What is left by the question whether a tree is a process. -/
def okT (t : Tm) : Bool := t.ok nmL && decide (t.pr.length ≤ 300) && decide (t.size ≤ 60)
theorem okT_iff (t : Tm) : okT t = true ↔ t.ok nmL = true ∧ t.pr.length ≤ 300 ∧ t.size ≤ 60 := by simp [okT, and_assoc]
theorem tmIf_any (t : Tm) (hE : t.ok nmE = true) (hl : t.pr.length ≤ 100000) (w : World) : Calls Tryz.prog 68 #[.string (S t)] w fun e w' => e = .returned (if okT t then .tuple #[.string (S t), .bool true] else .tuple #[.string ⟨#[]⟩, .bool false]) ∧ Below w.heap.size w w' := by
  have hs : (S t).size ≤ 9223372036854775807 := by rw [S_size]; omega
  by_cases h : okT t = true
  · rw [if_pos h]
    have h' := (okT_iff t).1 h
    exact if_yes _ (fun w => tmGood_some (t := t) (by rw [S_list]; exact good_of h'.1 h'.2.1 h'.2.2) w hs) w
  · rw [if_neg h]
    exact if_no _ (fun w => tmGood_none (by rw [S_list]; exact good_not hE (fun h' => h ((okT_iff t).2 h'))) w hs) w

end Go.Proofs.YtajgncapgeiniaaGreat.T1

/- What ReplaceAt answers on both sides. No conditions. -/
namespace Go.Proofs.YtajgncapgeiniaaGreat
namespace LawReplaceAt
open Go.ChangeShapes Go.WideShapes Go.ChangeAt Go.RowKit Go.Proofs.YtajgncapgeiniaaGreat.T1
open Go.ChangeMaps (open_string shut_string)
set_option linter.unusedVariables false

theorem blw {u v w : World} (h : Below u.heap.size u v) (k : Below v.heap.size v w) : Below u.heap.size u w := below_trans h k h.size
set_option maxHeartbeats 1000000 in
theorem s_n1 (s k q : ByteArray)  (G1 : ∀ w, Calls Tryz.prog 52 #[.string s] w fun e w' => e = .returned (.bool false) ∧ Below w.heap.size w w') (w : World) : Calls Tryz.prog 25 #[.string s, .string k, .string q] w fun e w' => e = .returned (.tuple #[.string ⟨#[]⟩, .bool false]) ∧ Below w.heap.size w w' := by
  have G1' := Lib.hid G1
  clear G1
  go_enter Tryz.func25, Tryz.ntmps25
  go_wp2_with fail
  refine (G1'.out _).mono ?_
  rintro e w1 ⟨rfl, b1⟩
  go_wp2_with fail
  go_ret2
  exact ⟨rfl, b1⟩
set_option maxHeartbeats 1000000 in
theorem s_n2 (s k q : ByteArray)  (G1 : ∀ w, Calls Tryz.prog 52 #[.string s] w fun e w' => e = .returned (.bool true) ∧ Below w.heap.size w w') (G2 : ∀ w, Calls Tryz.prog 52 #[.string q] w fun e w' => e = .returned (.bool false) ∧ Below w.heap.size w w') (w : World) : Calls Tryz.prog 25 #[.string s, .string k, .string q] w fun e w' => e = .returned (.tuple #[.string ⟨#[]⟩, .bool false]) ∧ Below w.heap.size w w' := by
  have G1' := Lib.hid G1
  have G2' := Lib.hid G2
  clear G1 G2
  go_enter Tryz.func25, Tryz.ntmps25
  go_wp2_with fail
  refine (G1'.out _).mono ?_
  rintro e w1 ⟨rfl, b1⟩
  go_wp2_with fail
  refine (G2'.out _).mono ?_
  rintro e w2 ⟨rfl, b2⟩
  have bl2 := blw b1 b2
  go_wp2_with fail
  go_ret2
  exact ⟨rfl, bl2⟩
set_option maxHeartbeats 1000000 in
theorem s_n3 (s k q : ByteArray)  (G1 : ∀ w, Calls Tryz.prog 52 #[.string s] w fun e w' => e = .returned (.bool true) ∧ Below w.heap.size w w') (G2 : ∀ w, Calls Tryz.prog 52 #[.string q] w fun e w' => e = .returned (.bool true) ∧ Below w.heap.size w w') (HA : ∀ w, Calls Tryz.prog 65 #[.string s, .string k] w fun e w' => e = .returned (.tuple #[.string ⟨#[]⟩, .bool false]) ∧ Below w.heap.size w w') (w : World) : Calls Tryz.prog 25 #[.string s, .string k, .string q] w fun e w' => e = .returned (.tuple #[.string ⟨#[]⟩, .bool false]) ∧ Below w.heap.size w w' := by
  have G1' := Lib.hid G1
  have G2' := Lib.hid G2
  have HA' := Lib.hid HA
  clear G1 G2 HA
  go_enter Tryz.func25, Tryz.ntmps25
  go_wp2_with fail
  refine (G1'.out _).mono ?_
  rintro e w1 ⟨rfl, b1⟩
  go_wp2_with fail
  refine (G2'.out _).mono ?_
  rintro e w2 ⟨rfl, b2⟩
  have bl2 := blw b1 b2
  go_wp2_with fail
  refine (HA'.out _).mono ?_
  rintro e w3 ⟨rfl, b3⟩
  have bl3 := blw bl2 b3
  go_wp2_with fail
  go_ret2
  exact ⟨rfl, bl3⟩
set_option maxHeartbeats 1000000 in
theorem s_yes (s k q : ByteArray) (X R Y : ByteArray) (y : Bool) (G1 : ∀ w, Calls Tryz.prog 52 #[.string s] w fun e w' => e = .returned (.bool true) ∧ Below w.heap.size w w') (G2 : ∀ w, Calls Tryz.prog 52 #[.string q] w fun e w' => e = .returned (.bool true) ∧ Below w.heap.size w w') (HA : ∀ w, Calls Tryz.prog 65 #[.string s, .string k] w fun e w' => e = .returned (.tuple #[.string X, .bool true]) ∧ Below w.heap.size w w') (HP : ∀ w, Calls Tryz.prog 69 #[.string s, .string k, .string q] w fun e w' => e = .returned (.string R) ∧ Below w.heap.size w w') (HI : ∀ w, Calls Tryz.prog 68 #[.string R] w fun e w' => e = .returned (.tuple #[.string Y, .bool y]) ∧ Below w.heap.size w w') (w : World) : Calls Tryz.prog 25 #[.string s, .string k, .string q] w fun e w' => e = .returned (.tuple #[.string Y, .bool y]) ∧ Below w.heap.size w w' := by
  have G1' := Lib.hid G1
  have G2' := Lib.hid G2
  have HA' := Lib.hid HA
  have HP' := Lib.hid HP
  have HI' := Lib.hid HI
  clear G1 G2 HA HP HI
  go_enter Tryz.func25, Tryz.ntmps25
  go_wp2_with fail
  refine (G1'.out _).mono ?_
  rintro e w1 ⟨rfl, b1⟩
  go_wp2_with fail
  refine (G2'.out _).mono ?_
  rintro e w2 ⟨rfl, b2⟩
  have bl2 := blw b1 b2
  go_wp2_with fail
  refine (HA'.out _).mono ?_
  rintro e w3 ⟨rfl, b3⟩
  have bl3 := blw bl2 b3
  go_wp2_with fail
  refine (HP'.out _).mono ?_
  rintro e w4 ⟨rfl, b4⟩
  have bl4 := blw bl3 b4
  go_wp2_with fail
  refine (HI'.out _).mono ?_
  rintro e w5 ⟨rfl, b5⟩
  have bl5 := blw bl4 b5
  go_wp2_with fail
  go_ret2
  exact ⟨rfl, bl5⟩
set_option maxHeartbeats 1000000 in
theorem i_n1 (s k q : ByteArray)  (G1 : ∀ w, Calls Tryz.prog 50 #[.string s] w fun e w' => e = .returned (.tuple #[.nilIface, .bool false]) ∧ Below w.heap.size w w') (G2 : ∀ w, Calls Tryz.prog 50 #[.string q] w fun e w' => e = .returned (.tuple #[.nilIface, .bool false]) ∧ Below w.heap.size w w') (w : World) : Calls Tryz.prog 23 #[.string s, .string k, .string q] w fun e w' => e = .returned (.tuple #[.string ⟨#[]⟩, .bool false]) ∧ Below w.heap.size w w' := by
  have G1' := Lib.hid G1
  have G2' := Lib.hid G2
  clear G1 G2
  go_enter Tryz.func23, Tryz.ntmps23
  go_wp2_with fail
  refine (G1'.out _).mono ?_
  rintro e w1 ⟨rfl, b1⟩
  go_wp2_with fail
  refine (G2'.out _).mono ?_
  rintro e w2 ⟨rfl, b2⟩
  have bl2 := blw b1 b2
  go_wp2_with fail
  go_ret2
  exact ⟨rfl, bl2⟩
set_option maxHeartbeats 1000000 in
theorem i_n1b (s k q : ByteArray) (T2 : TypeId) (V2 : Value) (G1 : ∀ w, Calls Tryz.prog 50 #[.string s] w fun e w' => e = .returned (.tuple #[.nilIface, .bool false]) ∧ Below w.heap.size w w') (G2 : ∀ w, Calls Tryz.prog 50 #[.string q] w fun e w' => e = .returned (.tuple #[.iface T2 V2, .bool true]) ∧ Below w.heap.size w w') (w : World) : Calls Tryz.prog 23 #[.string s, .string k, .string q] w fun e w' => e = .returned (.tuple #[.string ⟨#[]⟩, .bool false]) ∧ Below w.heap.size w w' := by
  have G1' := Lib.hid G1
  have G2' := Lib.hid G2
  clear G1 G2
  go_enter Tryz.func23, Tryz.ntmps23
  go_wp2_with fail
  refine (G1'.out _).mono ?_
  rintro e w1 ⟨rfl, b1⟩
  go_wp2_with fail
  refine (G2'.out _).mono ?_
  rintro e w2 ⟨rfl, b2⟩
  have bl2 := blw b1 b2
  go_wp2_with fail
  go_ret2
  exact ⟨rfl, bl2⟩
set_option maxHeartbeats 1000000 in
theorem i_n2 (s k q : ByteArray) (T1 : TypeId) (V1 : Value) (G1 : ∀ w, Calls Tryz.prog 50 #[.string s] w fun e w' => e = .returned (.tuple #[.iface T1 V1, .bool true]) ∧ Below w.heap.size w w') (G2 : ∀ w, Calls Tryz.prog 50 #[.string q] w fun e w' => e = .returned (.tuple #[.nilIface, .bool false]) ∧ Below w.heap.size w w') (w : World) : Calls Tryz.prog 23 #[.string s, .string k, .string q] w fun e w' => e = .returned (.tuple #[.string ⟨#[]⟩, .bool false]) ∧ Below w.heap.size w w' := by
  have G1' := Lib.hid G1
  have G2' := Lib.hid G2
  clear G1 G2
  go_enter Tryz.func23, Tryz.ntmps23
  go_wp2_with fail
  refine (G1'.out _).mono ?_
  rintro e w1 ⟨rfl, b1⟩
  go_wp2_with fail
  refine (G2'.out _).mono ?_
  rintro e w2 ⟨rfl, b2⟩
  have bl2 := blw b1 b2
  go_wp2_with fail
  go_ret2
  exact ⟨rfl, bl2⟩
set_option maxHeartbeats 1000000 in
theorem i_n3 (s k q : ByteArray) (T1 T2 : TypeId) (V1 V2 : Value) (G1 : ∀ w, Calls Tryz.prog 50 #[.string s] w fun e w' => e = .returned (.tuple #[.iface T1 V1, .bool true]) ∧ Below w.heap.size w w') (G2 : ∀ w, Calls Tryz.prog 50 #[.string q] w fun e w' => e = .returned (.tuple #[.iface T2 V2, .bool true]) ∧ Below w.heap.size w w') (HA : ∀ w, Calls Tryz.prog 66 #[.iface T1 V1, .string k, .iface T2 V2] w fun e w' => e = .returned (.tuple #[.nilIface, .bool false]) ∧ Below w.heap.size w w') (w : World) : Calls Tryz.prog 23 #[.string s, .string k, .string q] w fun e w' => e = .returned (.tuple #[.string ⟨#[]⟩, .bool false]) ∧ Below w.heap.size w w' := by
  have G1' := Lib.hid G1
  have G2' := Lib.hid G2
  have HA' := Lib.hid HA
  clear G1 G2 HA
  go_enter Tryz.func23, Tryz.ntmps23
  go_wp2_with fail
  refine (G1'.out _).mono ?_
  rintro e w1 ⟨rfl, b1⟩
  go_wp2_with fail
  refine (G2'.out _).mono ?_
  rintro e w2 ⟨rfl, b2⟩
  have bl2 := blw b1 b2
  go_wp2_with fail
  refine (HA'.out _).mono ?_
  rintro e w3 ⟨rfl, b3⟩
  have bl3 := blw bl2 b3
  go_wp2_with fail
  go_ret2
  exact ⟨rfl, bl3⟩
set_option maxHeartbeats 1000000 in
theorem i_yes (s k q : ByteArray) (T1 T2 T3 : TypeId) (V1 V2 V3 : Value) (Y : ByteArray) (y : Bool) (G1 : ∀ w, Calls Tryz.prog 50 #[.string s] w fun e w' => e = .returned (.tuple #[.iface T1 V1, .bool true]) ∧ Below w.heap.size w w') (G2 : ∀ w, Calls Tryz.prog 50 #[.string q] w fun e w' => e = .returned (.tuple #[.iface T2 V2, .bool true]) ∧ Below w.heap.size w w') (HA : ∀ w, Calls Tryz.prog 66 #[.iface T1 V1, .string k, .iface T2 V2] w fun e w' => e = .returned (.tuple #[.iface T3 V3, .bool true]) ∧ Below w.heap.size w w') (HI : ∀ w, Calls Tryz.prog 67 #[.iface T3 V3] w fun e w' => e = .returned (.tuple #[.string Y, .bool y]) ∧ Below w.heap.size w w') (w : World) : Calls Tryz.prog 23 #[.string s, .string k, .string q] w fun e w' => e = .returned (.tuple #[.string Y, .bool y]) ∧ Below w.heap.size w w' := by
  have G1' := Lib.hid G1
  have G2' := Lib.hid G2
  have HA' := Lib.hid HA
  have HI' := Lib.hid HI
  clear G1 G2 HA HI
  go_enter Tryz.func23, Tryz.ntmps23
  go_wp2_with fail
  refine (G1'.out _).mono ?_
  rintro e w1 ⟨rfl, b1⟩
  go_wp2_with fail
  refine (G2'.out _).mono ?_
  rintro e w2 ⟨rfl, b2⟩
  have bl2 := blw b1 b2
  go_wp2_with fail
  refine (HA'.out _).mono ?_
  rintro e w3 ⟨rfl, b3⟩
  have bl3 := blw bl2 b3
  go_wp2_with fail
  refine (HI'.out _).mono ?_
  rintro e w4 ⟨rfl, b4⟩
  have bl4 := blw bl3 b4
  go_wp2_with fail
  go_ret2
  exact ⟨rfl, bl4⟩

theorem out_if (b : Bool) (X Y : ByteArray) : (if b = true then (.tuple #[.string X, .bool true] : Value) else .tuple #[.string Y, .bool false]) = .tuple #[.string (if b then X else Y), .bool b] := by cases b <;> rfl
theorem both (s k q : ByteArray) (hm : s.size ≤ 9223372036854775807) (hmk : k.size ≤ 100000000) (hmq : q.size ≤ 9223372036854775807) : ∃ (n : ByteArray) (b : Bool), (∀ w, Calls Tryz.prog 25 #[.string s, .string k, .string q] w fun e w' => e = .returned (.tuple #[.string n, .bool b]) ∧ Below w.heap.size w w') ∧ (∀ w, Calls Tryz.prog 23 #[.string s, .string k, .string q] w fun e w' => e = .returned (.tuple #[.string n, .bool b]) ∧ Below w.heap.size w w') := by
  cases hg : good s.data.toList with
  | none =>
    have h1 := fun w => tmGood_none hg w hm
    have h2 := fun w => parse_none hg w hm
    cases hg2 : good q.data.toList with
    | none => exact ⟨_, _, s_n1 s k q h1, i_n1 s k q h2 (fun w => parse_none hg2 w hmq)⟩
    | some u => exact ⟨_, _, s_n1 s k q h1, i_n1b s k q _ _ h2 (fun w => parse_some hg2 w hmq)⟩
  | some t =>
    have h1 := fun w => tmGood_some hg w hm
    have h2 := fun w => parse_some hg w hm
    cases hg2 : good q.data.toList with
    | none => exact ⟨_, _, s_n2 s k q h1 (fun w => tmGood_none hg2 w hmq), i_n2 s k q _ _ h2 (fun w => parse_none hg2 w hmq)⟩
    | some u =>
      have h3 := fun w => tmGood_some hg2 w hmq
      have h4 := fun w => parse_some hg2 w hmq
      obtain ⟨es, hL, hE, h300, h60⟩ := good_S hg
      obtain ⟨eq, hL2, hE2, h3002, h602⟩ := good_S hg2
      have hA := fun w => tmAt_any t hE (by omega) k hmk w
      have hR := fun w => replaceAt_any u k.data.toList t w
      rw [B_of] at hR
      rw [← es] at hA
      cases hp : putP t k.data.toList u with
      | none =>
        have ha := (putP_none _ t u).1 hp
        rw [ha] at hA
        rw [hp] at hR
        exact ⟨_, _, s_n3 s k q h1 h3 (fun w => (hA w).mono fun e w' h => by
          rcases h with ⟨⟨p, h, _⟩ | ⟨_, h⟩, b⟩
          · cases h
          · exact ⟨h, b⟩), i_n3 s k q _ _ _ _ h2 h4 (fun w => (hR w).mono fun e w' h => by
          rcases h with ⟨⟨p, h, _⟩ | ⟨_, h⟩, b⟩
          · cases h
          · exact ⟨h, b⟩)⟩
      | some r =>
        rw [hp] at hR
        obtain ⟨p, ha⟩ : ∃ p, atP t k.data.toList = some p := by
          cases ha : atP t k.data.toList with
          | none => have := (putP_none _ t u).2 ha; rw [hp] at this; cases this
          | some p => exact ⟨p, rfl⟩
        rw [ha] at hA
        obtain ⟨o1, o2, o3⟩ := putP_ok _ t u r hp
        have hP := fun w => tmPut_any u (by omega) k.data.toList t r hE (by omega) hp w
        rw [B_of, ← es, ← eq] at hP
        have hI := fun w => tmIf_any r (o1 nmE hE hE2) (by omega) w
        have hX := fun w => processText_any r (by omega) (by omega) w
        refine ⟨if okT r then S r else ⟨#[]⟩, okT r, s_yes s k q (S p) (S r) _ _ h1 h3 (fun w => (hA w).mono fun e w' h => by
          rcases h with ⟨⟨p', h, h'⟩ | ⟨h, _⟩, b⟩
          · cases h; exact ⟨h', b⟩
          · cases h) hP (fun w => by rw [← out_if]; exact hI w), i_yes s k q _ _ _ _ _ _ _ _ h2 h4 (fun w => (hR w).mono fun e w' h => by
          rcases h with ⟨⟨p', h, h'⟩ | ⟨h, _⟩, b⟩
          · cases h; exact ⟨h', b⟩
          · cases h) (fun w => (hX w).mono fun e w' h => ?_)⟩
        have hrl := o1 nmL hL hL2
        rcases h with ⟨⟨g1, g2, rfl⟩ | ⟨g, rfl⟩, b⟩
        · have : okT r = true := (okT_iff r).2 ⟨hrl, g1, g2⟩
          rw [this]; exact ⟨rfl, b⟩
        · have : okT r = false := by
            cases h : okT r with
            | false => rfl
            | true => exact absurd ((okT_iff r).1 h).2 g
          rw [this]; exact ⟨rfl, b⟩
end LawReplaceAt
end Go.Proofs.YtajgncapgeiniaaGreat
