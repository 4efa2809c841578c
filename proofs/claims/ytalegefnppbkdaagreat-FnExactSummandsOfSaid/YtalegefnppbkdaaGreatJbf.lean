/- Texts of the proof, put together: Sn, Ns, Nu. No conditions. -/
import Derived.Test.YtalegefnppbkdaaGreatJab
import Derived.Test.YtalegefnppbkdaaGreatJai
import Derived.Test.YtalegefnppbkdaaGreatJas
import Derived.Test.YtalegefnppbkdaaGreatJba
namespace Go.Proofs.YtalegefnppbkdaaGreat.T1
set_option maxHeartbeats 4000000
open Go.RowKit
set_option maxRecDepth 100000
set_option linter.unusedVariables false
set_option linter.unusedSimpArgs false
theorem nm_two33 (s : ByteArray) (hs : 4 ≤ s.size) (hs3 : s.size ≤ 700) (HK : ∀ w, Calls Tryz.prog 71 #[.string s] w fun e w' => e = .returned (.int .u8 33) ∧ w = w') (w : World) : Calls Tryz.prog 143 #[.string s] w fun e w' => e = .returned (.string (s.extract 0 1 ++ s.extract 2 3)) ∧ Below w.heap.size w w' := by
 have H := Lib.hid HK
 clear HK
 go_enter Tryz.func143, Tryz.ntmps143
 go_wp2_with fail
 refine (H.out _).mono ?_
 rintro e w1 ⟨rfl, rfl⟩
 go_wp2_with fail
 go_quiet (fail)
 go_wp2_with fail
 go_ret
 exact ⟨rfl, below_drewN' (Below.refl _ _) _⟩
theorem nm_two61 (s : ByteArray) (hs : 4 ≤ s.size) (hs3 : s.size ≤ 700) (HK : ∀ w, Calls Tryz.prog 71 #[.string s] w fun e w' => e = .returned (.int .u8 61) ∧ w = w') (w : World) : Calls Tryz.prog 143 #[.string s] w fun e w' => e = .returned (.string (s.extract 1 2 ++ s.extract 3 4)) ∧ Below w.heap.size w w' := by
 have H := Lib.hid HK
 clear HK
 go_enter Tryz.func143, Tryz.ntmps143
 go_wp2_with fail
 refine (H.out _).mono ?_
 rintro e w1 ⟨rfl, rfl⟩
 go_wp2_with fail
 go_quiet (fail)
 go_wp2_with fail
 go_ret
 exact ⟨rfl, below_drewN' (Below.refl _ _) _⟩
theorem nm_one (s : ByteArray) (hs : 4 ≤ s.size) (hs3 : s.size ≤ 700) (HK : ∀ w, Calls Tryz.prog 71 #[.string s] w fun e w' => e = .returned (.int .u8 63) ∧ w = w') (w : World) : Calls Tryz.prog 143 #[.string s] w fun e w' => e = .returned (.string (s.extract 0 1)) ∧ Below w.heap.size w w' := by
 have H := Lib.hid HK
 clear HK
 go_enter Tryz.func143, Tryz.ntmps143
 go_wp2_with fail
 refine (H.out _).mono ?_
 rintro e w1 ⟨rfl, rfl⟩
 go_wp2_with fail
 go_ret
 exact ⟨rfl, Below.refl _ _⟩
theorem nm_no (s : ByteArray) (kd : Int) (b0 : (kd == 33) = false) (b1 : (kd == 63) = false) (b2 : (kd == 61) = false) (HK : ∀ w, Calls Tryz.prog 71 #[.string s] w fun e w' => e = .returned (.int .u8 kd) ∧ w = w') (w : World) : Calls Tryz.prog 143 #[.string s] w fun e w' => e = .returned (.string ⟨#[]⟩) ∧ Below w.heap.size w w' := by
 have H := Lib.hid HK
 clear HK
 go_enter Tryz.func143, Tryz.ntmps143
 go_wp2_with fail
 refine (H.out _).mono ?_
 rintro e w1 ⟨rfl, rfl⟩
 go_wp2_with fail
 go_ret
 exact ⟨rfl, Below.refl _ _⟩
theorem ext_one (t : Tm) (i : Nat) (h : i < t.pr.length) : (S t).extract i (i + 1) = B [t.pr[i]] := by
 apply B_eq
 rw [ByteArray.data_extract, Array.toList_extract, S_list, List.extract_eq_take_drop, show i + 1 - i = 1 by omega, List.drop_eq_getElem_cons h]
 rfl
theorem B_app (l m : List UInt8) : B l ++ B m = B (l ++ m) := by
 apply B_eq
 rw [ByteArray.data_append, Array.toList_append, B_list, B_list]
theorem tmNames_any (t : Tm) (ho : t.ok nmE = true) (hl : t.pr.length ≤ 700) (w : World) : Calls Tryz.prog 143 #[.string (S t)] w fun e w' => e = .returned (.string (B t.used)) ∧ Below w.heap.size w w' := by
 have HK := tmKind_any t ho hl
 have hs3 : (S t).size ≤ 700 := by rw [S_size]; exact hl
 cases t with
 | snd a b p =>
  have h := nm_two33 _ (by rw [S_size]; simp [Tm.pr]) hs3 HK w
  rw [ext_one _ 0 (by simp [Tm.pr]), ext_one _ 2 (by simp [Tm.pr]), B_app] at h
  exact h
 | mat a b p =>
  have h := nm_two61 _ (by rw [S_size]; simp [Tm.pr]) hs3 HK w
  rw [ext_one _ 1 (by simp [Tm.pr]), ext_one _ 3 (by simp [Tm.pr]), B_app] at h
  exact h
 | rcv a x p =>
  have h := nm_one _ (by rw [S_size]; simp [Tm.pr]) hs3 HK w
  rw [ext_one _ 0 (by simp [Tm.pr])] at h
  exact h
 | nil => exact nm_no _ 48 (by decide) (by decide) (by decide) HK w
 | tau p => exact nm_no _ 126 (by decide) (by decide) (by decide) HK w
 | sum p q => exact nm_no _ 43 (by decide) (by decide) (by decide) HK w
 | par p q => exact nm_no _ 38 (by decide) (by decide) (by decide) HK w
 | own x p => exact nm_no _ 35 (by decide) (by decide) (by decide) HK w
 | rep p => exact nm_no _ 42 (by decide) (by decide) (by decide) HK w
theorem ns_go {u v w : World} (h : Below u.heap.size u v) (k : Below v.heap.size v w) : Below u.heap.size u w := below_trans h k h.size
def strOf : Value → ByteArray
 | .string s => s
 | _ => ⟨#[]⟩
theorem u8_lit' (c : UInt8) (n : Nat) (hn : n < 256) (h : c ≠ UInt8.ofNat n) : (((c.toNat : Nat) : Int) == (n : Int)) = false := by
 rw [beq_eq_false_iff_ne]; intro e; exact h (u8_ext (by rw [UInt8.toNat_ofNat']; omega))
theorem mat_of_kind (t : Tm) (h : t.kind = 61) : ∃ a b p, t = .mat a b p := by
 cases t <;> simp [Tm.kind] at h
 exact ⟨_, _, _, rfl⟩
theorem strip_not (t : Tm) (h : t.kind ≠ 61) : t.strip = t := by cases t <;> first | rfl | (exact absurd rfl h)
theorem S_sub' (t p : Tm) (k : Nat) (h : t.parts = [p]) (hk : t.hd = k) : (S t).extract k (S t).size = S p := by
 subst hk
 refine ext_S (S_list t) _ _ p ?_
 rw [S_size]
 cases t <;> simp [Tm.parts] at h <;> subst h <;> simp [Tm.pr, Tm.hd]
theorem nfStrip_any (t : Tm) (ho : t.ok nmE = true) (hl : t.pr.length ≤ 700) (w : World) : Calls Tryz.prog 141 #[.string (S t)] w fun e w' => e = .returned (.string (S t.strip)) ∧ Below w.heap.size w w' := by
 obtain ⟨X0, hX0⟩ : ∃ X, X = S t := ⟨_, rfl⟩
 rw [← hX0]
 have HX0 := Lib.hid hX0
 have HO := Lib.hid ho
 have HL := Lib.hid hl
 clear hX0 ho hl
 go_enter Tryz.func141, Tryz.ntmps141
 go_wp2_with fail
 go_loopw [0] (fun v wr => ∃ (u : Tm) (X : ByteArray), v = .string X ∧ Hid (X = S u) ∧ Hid (u.ok nmE = true) ∧ Hid (u.pr.length ≤ 700) ∧ Hid (u.strip = t.strip) ∧ Below w.heap.size w wr) (fun v _ => (strOf v).size)
 case atStart => exact ⟨t, X0, rfl, HX0, HO, HL, rfl, Below.refl _ _⟩
 case round =>
  obtain ⟨u, X, rfl, hX, hu, hul, hs, hbw⟩ := hrel
  have hK : ∀ w, Calls Tryz.prog 71 #[.string X] w fun e w' => e = .returned (.int .u8 (u.kind.toNat : Int)) ∧ w = w' := by rw [hX.out]; exact tmKind_any u hu.out hul.out
  have hx3 : X.size ≤ 700 := by rw [hX.out, S_size]; exact hul.out
  by_cases hk : u.kind = 61
  ·obtain ⟨a, b, p, rfl⟩ := mat_of_kind u hk
   have HK : Hid (∀ w, Calls Tryz.prog 71 #[.string X] w fun e w' => e = .returned (.int .u8 61) ∧ w = w') := hK
   have hsz : 5 < X.size := by rw [hX.out, S_size]; have := pr_pos p; simp [Tm.pr]; omega
   have h1 : 1 < X.size := by omega
   have h3 : 3 < X.size := by omega
   have e1 : X[1]'h1 = a := by
    have := S_at (.mat a b p) 1 (by rw [← hX.out]; exact h1)
    simp only [hX.out]; exact this
   have e3 : X[3]'h3 = b := by
    have := S_at (.mat a b p) 3 (by rw [← hX.out]; exact h3)
    simp only [hX.out]; exact this
   have hi1 : (1 : Int) < (X.size : Int) := by omega
   have hi3 : (3 : Int) < (X.size : Int) := by omega
   have hi5 : (5 : Int) ≤ (X.size : Int) := by omega
   have q : (((X[1]'h1).toNat : Int) == ((X[3]'h3).toNat : Int)) = decide (a = b) := by rw [e1, e3, b8_beq]
   by_cases hab : a = b
   ·rw [decide_eq_true hab] at q
    have hP : Hid (X.extract 5 X.size = S p) := by show _ = _; rw [hX.out]; exact S_sub' (.mat a b p) p 5 rfl rfl
    have hs2 : Hid (p.strip = t.strip) := by have := hs.out; simp only [Tm.strip] at this; rw [if_pos hab] at this; exact this
    have ho2 : Hid (p.ok nmE = true) := by have := hu.out; simp only [Tm.ok, Bool.and_eq_true] at this; exact this.2
    have hl2 : Hid (p.pr.length ≤ 700) := by have := hul.out; simp only [Tm.pr, List.length_cons] at this; show _ ≤ _; omega
    have hms : (X.extract 5 X.size).size < X.size := by simp; omega
    clear hK hk e1 e3 hab hs hul hu
    go_wp2_with fail
    go_quiet ((go_at_call 71; exact Calls.quiet_of_same ((HK.out _).mono fun _ _ hh => ⟨hh.1, hh.2.symm⟩)))
    go_wp2_with fail
    go_roundw
    case rel => exact ⟨p, _, rfl, hP, ho2, hl2, hs2, below_drewN' hbw _⟩
    case measure => simp [strOf]; omega
   ·rw [decide_eq_false hab] at q
    have hs2 : Hid (X = S t.strip) := by
     have := hs.out; simp only [Tm.strip] at this; rw [if_neg hab] at this
     show _ = _; rw [← this]; exact hX.out
    clear hK hk e1 e3 hab hs hul hu
    go_wp2_with fail
    go_quiet ((go_at_call 71; exact Calls.quiet_of_same ((HK.out _).mono fun _ _ hh => ⟨hh.1, hh.2.symm⟩)))
    go_wp2_with fail
    go_ret
    exact ⟨by rw [← hs2.out]; rfl, below_drewN' hbw _⟩
  ·have hs2 : Hid (X = S t.strip) := by
    have := hs.out; rw [strip_not u hk] at this
    show _ = _; rw [← this]; exact hX.out
   obtain ⟨kd, hkd⟩ : ∃ kd, kd = ((u.kind.toNat : Nat) : Int) := ⟨_, rfl⟩
   have b1 : (kd == 61) = false := by rw [hkd]; exact u8_lit' _ 61 (by decide) hk
   rw [← hkd] at hK
   have HK := Lib.hid hK
   clear hK hk hkd hs hul hu
   go_wp2_with fail
   go_quiet ((go_at_call 71; exact Calls.quiet_of_same ((HK.out _).mono fun _ _ hh => ⟨hh.1, hh.2.symm⟩)))
   go_wp2_with fail
   go_ret
   exact ⟨by rw [← hs2.out]; rfl, below_drewN' hbw _⟩
theorem nd_0 (s0 s : ByteArray)  (HS : ∀ w, Calls Tryz.prog 141 #[.string s0] w fun e w' => e = .returned (.string s) ∧ Below w.heap.size w w') (HK : ∀ w, Calls Tryz.prog 71 #[.string s] w fun e w' => e = .returned (.int .u8 48) ∧ w = w') (w : World) : Calls Tryz.prog 142 #[.string s0] w fun e w' => e = .returned (.bool true) ∧ Below w.heap.size w w' := by
 have HS' := Lib.hid HS
 have HK' := Lib.hid HK
 clear HS HK
 go_enter Tryz.func142, Tryz.ntmps142
 go_wp2_with fail
 refine (HS'.out _).mono ?_
 rintro e w1 ⟨rfl, b1⟩
 go_wp2_with fail
 refine (HK'.out _).mono ?_
 rintro e w2 ⟨rfl, rfl⟩
 go_wp2_with fail
 go_ret
 exact ⟨rfl, b1⟩
theorem nd_f33 (s0 s : ByteArray)  (HS : ∀ w, Calls Tryz.prog 141 #[.string s0] w fun e w' => e = .returned (.string s) ∧ Below w.heap.size w w') (HK : ∀ w, Calls Tryz.prog 71 #[.string s] w fun e w' => e = .returned (.int .u8 33) ∧ w = w') (w : World) : Calls Tryz.prog 142 #[.string s0] w fun e w' => e = .returned (.bool false) ∧ Below w.heap.size w w' := by
 have HS' := Lib.hid HS
 have HK' := Lib.hid HK
 clear HS HK
 go_enter Tryz.func142, Tryz.ntmps142
 go_wp2_with fail
 refine (HS'.out _).mono ?_
 rintro e w1 ⟨rfl, b1⟩
 go_wp2_with fail
 refine (HK'.out _).mono ?_
 rintro e w2 ⟨rfl, rfl⟩
 go_wp2_with fail
 go_ret
 exact ⟨rfl, b1⟩
theorem nd_f63 (s0 s : ByteArray)  (HS : ∀ w, Calls Tryz.prog 141 #[.string s0] w fun e w' => e = .returned (.string s) ∧ Below w.heap.size w w') (HK : ∀ w, Calls Tryz.prog 71 #[.string s] w fun e w' => e = .returned (.int .u8 63) ∧ w = w') (w : World) : Calls Tryz.prog 142 #[.string s0] w fun e w' => e = .returned (.bool false) ∧ Below w.heap.size w w' := by
 have HS' := Lib.hid HS
 have HK' := Lib.hid HK
 clear HS HK
 go_enter Tryz.func142, Tryz.ntmps142
 go_wp2_with fail
 refine (HS'.out _).mono ?_
 rintro e w1 ⟨rfl, b1⟩
 go_wp2_with fail
 refine (HK'.out _).mono ?_
 rintro e w2 ⟨rfl, rfl⟩
 go_wp2_with fail
 go_ret
 exact ⟨rfl, b1⟩
theorem nd_f126 (s0 s : ByteArray)  (HS : ∀ w, Calls Tryz.prog 141 #[.string s0] w fun e w' => e = .returned (.string s) ∧ Below w.heap.size w w') (HK : ∀ w, Calls Tryz.prog 71 #[.string s] w fun e w' => e = .returned (.int .u8 126) ∧ w = w') (w : World) : Calls Tryz.prog 142 #[.string s0] w fun e w' => e = .returned (.bool false) ∧ Below w.heap.size w w' := by
 have HS' := Lib.hid HS
 have HK' := Lib.hid HK
 clear HS HK
 go_enter Tryz.func142, Tryz.ntmps142
 go_wp2_with fail
 refine (HS'.out _).mono ?_
 rintro e w1 ⟨rfl, b1⟩
 go_wp2_with fail
 refine (HK'.out _).mono ?_
 rintro e w2 ⟨rfl, rfl⟩
 go_wp2_with fail
 go_ret
 exact ⟨rfl, b1⟩
theorem nd_1T (s0 s : ByteArray) (kd : Int) (k0 : (kd == 48) = false) (k1 : (kd == 33) = false) (k2 : (kd == 63) = false) (k3 : (kd == 126) = false) (u : ByteArray) (HS : ∀ w, Calls Tryz.prog 141 #[.string s0] w fun e w' => e = .returned (.string s) ∧ Below w.heap.size w w') (HK : ∀ w, Calls Tryz.prog 71 #[.string s] w fun e w' => e = .returned (.int .u8 kd) ∧ w = w') (HP : ∀ w, Calls Tryz.prog 72 #[.string s] w fun e w' => ∃ b, e = .returned (.slice (some ⟨b, 0, none⟩) 1 1) ∧ w.heap.size ≤ b ∧ w'.heap[b]? = some (.cells #[.string u] 9 (0, 0)) ∧ Below w.heap.size w w') (H0 : ∀ w, Calls Tryz.prog 142 #[.string u] w fun e w' => e = .returned (.bool true) ∧ Below w.heap.size w w') (w : World) : Calls Tryz.prog 142 #[.string s0] w fun e w' => e = .returned (.bool true) ∧ Below w.heap.size w w' := by
 have HS' := Lib.hid HS
 have HK' := Lib.hid HK
 have HP' := Lib.hid HP
 have H0' := Lib.hid H0
 clear HS HK HP H0
 go_enter Tryz.func142, Tryz.ntmps142
 go_wp2_with fail
 refine (HS'.out _).mono ?_
 rintro e w1 ⟨rfl, b1⟩
 go_wp2_with fail
 refine (HK'.out _).mono ?_
 rintro e w2 ⟨rfl, rfl⟩
 go_wp2_with fail
 refine (HP'.out _).mono ?_
 rintro e w3 ⟨b, rfl, hb, hh, b3⟩
 have bl := ns_go b1 b3
 have c0 := cellOf1 hh
 have Hh := Lib.hid hh
 clear hh hb b3
 go_wp2_with fail
 refine wp_loop_rounds 2 ?_
 rw [rounds_succ]
 go_wp2_with fail
 refine (H0'.out _).mono ?_
 rintro e w4 ⟨rfl, b4⟩
 replace bl := ns_go bl b4
 go_wp2_with fail
 rw [rounds_succ]
 go_wp2_with fail
 go_ret
 exact ⟨rfl, bl⟩
theorem nd_1F (s0 s : ByteArray) (kd : Int) (k0 : (kd == 48) = false) (k1 : (kd == 33) = false) (k2 : (kd == 63) = false) (k3 : (kd == 126) = false) (u : ByteArray) (HS : ∀ w, Calls Tryz.prog 141 #[.string s0] w fun e w' => e = .returned (.string s) ∧ Below w.heap.size w w') (HK : ∀ w, Calls Tryz.prog 71 #[.string s] w fun e w' => e = .returned (.int .u8 kd) ∧ w = w') (HP : ∀ w, Calls Tryz.prog 72 #[.string s] w fun e w' => ∃ b, e = .returned (.slice (some ⟨b, 0, none⟩) 1 1) ∧ w.heap.size ≤ b ∧ w'.heap[b]? = some (.cells #[.string u] 9 (0, 0)) ∧ Below w.heap.size w w') (H0 : ∀ w, Calls Tryz.prog 142 #[.string u] w fun e w' => e = .returned (.bool false) ∧ Below w.heap.size w w') (w : World) : Calls Tryz.prog 142 #[.string s0] w fun e w' => e = .returned (.bool false) ∧ Below w.heap.size w w' := by
 have HS' := Lib.hid HS
 have HK' := Lib.hid HK
 have HP' := Lib.hid HP
 have H0' := Lib.hid H0
 clear HS HK HP H0
 go_enter Tryz.func142, Tryz.ntmps142
 go_wp2_with fail
 refine (HS'.out _).mono ?_
 rintro e w1 ⟨rfl, b1⟩
 go_wp2_with fail
 refine (HK'.out _).mono ?_
 rintro e w2 ⟨rfl, rfl⟩
 go_wp2_with fail
 refine (HP'.out _).mono ?_
 rintro e w3 ⟨b, rfl, hb, hh, b3⟩
 have bl := ns_go b1 b3
 have c0 := cellOf1 hh
 have Hh := Lib.hid hh
 clear hh hb b3
 go_wp2_with fail
 refine wp_loop_rounds 2 ?_
 rw [rounds_succ]
 go_wp2_with fail
 refine (H0'.out _).mono ?_
 rintro e w4 ⟨rfl, b4⟩
 replace bl := ns_go bl b4
 go_wp2_with fail
 go_ret
 exact ⟨rfl, bl⟩
theorem nd_2f (s0 s : ByteArray) (kd : Int) (k0 : (kd == 48) = false) (k1 : (kd == 33) = false) (k2 : (kd == 63) = false) (k3 : (kd == 126) = false) (u v : ByteArray) (HS : ∀ w, Calls Tryz.prog 141 #[.string s0] w fun e w' => e = .returned (.string s) ∧ Below w.heap.size w w') (HK : ∀ w, Calls Tryz.prog 71 #[.string s] w fun e w' => e = .returned (.int .u8 kd) ∧ w = w') (HP : ∀ w, Calls Tryz.prog 72 #[.string s] w fun e w' => ∃ b, e = .returned (.slice (some ⟨b, 0, none⟩) 2 2) ∧ w.heap.size ≤ b ∧ w'.heap[b]? = some (.cells #[.string u, .string v] 9 (0, 0)) ∧ Below w.heap.size w w') (H0 : ∀ w, Calls Tryz.prog 142 #[.string u] w fun e w' => e = .returned (.bool false) ∧ Below w.heap.size w w') (w : World) : Calls Tryz.prog 142 #[.string s0] w fun e w' => e = .returned (.bool false) ∧ Below w.heap.size w w' := by
 have HS' := Lib.hid HS
 have HK' := Lib.hid HK
 have HP' := Lib.hid HP
 have H0' := Lib.hid H0
 clear HS HK HP H0
 go_enter Tryz.func142, Tryz.ntmps142
 go_wp2_with fail
 refine (HS'.out _).mono ?_
 rintro e w1 ⟨rfl, b1⟩
 go_wp2_with fail
 refine (HK'.out _).mono ?_
 rintro e w2 ⟨rfl, rfl⟩
 go_wp2_with fail
 refine (HP'.out _).mono ?_
 rintro e w3 ⟨b, rfl, hb, hh, b3⟩
 have bl := ns_go b1 b3
 have c0 := cellOf2a hh
 have Hh := Lib.hid hh
 clear hh hb b3
 go_wp2_with fail
 refine wp_loop_rounds 3 ?_
 rw [rounds_succ]
 go_wp2_with fail
 refine (H0'.out _).mono ?_
 rintro e w4 ⟨rfl, b4⟩
 replace bl := ns_go bl b4
 go_wp2_with fail
 go_ret
 exact ⟨rfl, bl⟩
theorem nd_2bT (s0 s : ByteArray) (kd : Int) (k0 : (kd == 48) = false) (k1 : (kd == 33) = false) (k2 : (kd == 63) = false) (k3 : (kd == 126) = false) (u v : ByteArray) (HS : ∀ w, Calls Tryz.prog 141 #[.string s0] w fun e w' => e = .returned (.string s) ∧ Below w.heap.size w w') (HK : ∀ w, Calls Tryz.prog 71 #[.string s] w fun e w' => e = .returned (.int .u8 kd) ∧ w = w') (HP : ∀ w, Calls Tryz.prog 72 #[.string s] w fun e w' => ∃ b, e = .returned (.slice (some ⟨b, 0, none⟩) 2 2) ∧ w.heap.size ≤ b ∧ w'.heap[b]? = some (.cells #[.string u, .string v] 9 (0, 0)) ∧ Below w.heap.size w w') (H0 : ∀ w, Calls Tryz.prog 142 #[.string u] w fun e w' => e = .returned (.bool true) ∧ Below w.heap.size w w') (H1 : ∀ w, Calls Tryz.prog 142 #[.string v] w fun e w' => e = .returned (.bool true) ∧ Below w.heap.size w w') (w : World) : Calls Tryz.prog 142 #[.string s0] w fun e w' => e = .returned (.bool true) ∧ Below w.heap.size w w' := by
 have HS' := Lib.hid HS
 have HK' := Lib.hid HK
 have HP' := Lib.hid HP
 have H0' := Lib.hid H0
 have H1' := Lib.hid H1
 clear HS HK HP H0 H1
 go_enter Tryz.func142, Tryz.ntmps142
 go_wp2_with fail
 refine (HS'.out _).mono ?_
 rintro e w1 ⟨rfl, b1⟩
 go_wp2_with fail
 refine (HK'.out _).mono ?_
 rintro e w2 ⟨rfl, rfl⟩
 go_wp2_with fail
 refine (HP'.out _).mono ?_
 rintro e w3 ⟨b, rfl, hb, hh, b3⟩
 have bl := ns_go b1 b3
 have c0 := cellOf2a hh
 have Hh := Lib.hid hh
 clear hh hb b3
 go_wp2_with fail
 refine wp_loop_rounds 3 ?_
 rw [rounds_succ]
 go_wp2_with fail
 refine (H0'.out _).mono ?_
 rintro e w4 ⟨rfl, b4⟩
 replace bl := ns_go bl b4
 have h4 := (b4.block b (lt_of_block Hh.out)).trans Hh.out
 clear c0
 have c1 := cellOf2b h4
 clear h4 b4
 go_wp2_with fail
 rw [rounds_succ]
 go_wp2_with fail
 refine (H1'.out _).mono ?_
 rintro e w5 ⟨rfl, b5⟩
 replace bl := ns_go bl b5
 go_wp2_with fail
 rw [rounds_succ]
 go_wp2_with fail
 go_ret
 exact ⟨rfl, bl⟩
theorem nd_2bF (s0 s : ByteArray) (kd : Int) (k0 : (kd == 48) = false) (k1 : (kd == 33) = false) (k2 : (kd == 63) = false) (k3 : (kd == 126) = false) (u v : ByteArray) (HS : ∀ w, Calls Tryz.prog 141 #[.string s0] w fun e w' => e = .returned (.string s) ∧ Below w.heap.size w w') (HK : ∀ w, Calls Tryz.prog 71 #[.string s] w fun e w' => e = .returned (.int .u8 kd) ∧ w = w') (HP : ∀ w, Calls Tryz.prog 72 #[.string s] w fun e w' => ∃ b, e = .returned (.slice (some ⟨b, 0, none⟩) 2 2) ∧ w.heap.size ≤ b ∧ w'.heap[b]? = some (.cells #[.string u, .string v] 9 (0, 0)) ∧ Below w.heap.size w w') (H0 : ∀ w, Calls Tryz.prog 142 #[.string u] w fun e w' => e = .returned (.bool true) ∧ Below w.heap.size w w') (H1 : ∀ w, Calls Tryz.prog 142 #[.string v] w fun e w' => e = .returned (.bool false) ∧ Below w.heap.size w w') (w : World) : Calls Tryz.prog 142 #[.string s0] w fun e w' => e = .returned (.bool false) ∧ Below w.heap.size w w' := by
 have HS' := Lib.hid HS
 have HK' := Lib.hid HK
 have HP' := Lib.hid HP
 have H0' := Lib.hid H0
 have H1' := Lib.hid H1
 clear HS HK HP H0 H1
 go_enter Tryz.func142, Tryz.ntmps142
 go_wp2_with fail
 refine (HS'.out _).mono ?_
 rintro e w1 ⟨rfl, b1⟩
 go_wp2_with fail
 refine (HK'.out _).mono ?_
 rintro e w2 ⟨rfl, rfl⟩
 go_wp2_with fail
 refine (HP'.out _).mono ?_
 rintro e w3 ⟨b, rfl, hb, hh, b3⟩
 have bl := ns_go b1 b3
 have c0 := cellOf2a hh
 have Hh := Lib.hid hh
 clear hh hb b3
 go_wp2_with fail
 refine wp_loop_rounds 3 ?_
 rw [rounds_succ]
 go_wp2_with fail
 refine (H0'.out _).mono ?_
 rintro e w4 ⟨rfl, b4⟩
 replace bl := ns_go bl b4
 have h4 := (b4.block b (lt_of_block Hh.out)).trans Hh.out
 clear c0
 have c1 := cellOf2b h4
 clear h4 b4
 go_wp2_with fail
 rw [rounds_succ]
 go_wp2_with fail
 refine (H1'.out _).mono ?_
 rintro e w5 ⟨rfl, b5⟩
 replace bl := ns_go bl b5
 go_wp2_with fail
 go_ret
 exact ⟨rfl, bl⟩
theorem nfDead_any (n : Nat) : ∀ (t : Tm), t.size ≤ n → t.ok nmE = true → t.pr.length ≤ 700 → ∀ w, Calls Tryz.prog 142 #[.string (S t)] w fun e w' => e = .returned (.bool t.dead) ∧ Below w.heap.size w w' := by
 induction n with
 | zero => intro t h; have := size_pos t; omega
 | succ n ih =>
  intro t hn ho hl w
  obtain ⟨s1, s2, s3, _, _⟩ := strip_sub t
  have hS := nfStrip_any t ho hl
  have hne := strip_no t
  rw [← strip_dead t]
  have ho2 := s1 nmE ho
  obtain ⟨u, hu⟩ : ∃ u, u = t.strip := ⟨_, rfl⟩
  rw [← hu] at hS ho2 s2 s3 hne ⊢
  have hl2 : u.pr.length ≤ 700 := by omega
  have hK := tmKind_any u ho2 hl2
  have hP := tmParts_any u ho2 hl2
  clear hu s1
  cases u with
  | nil => exact nd_0 _ _ hS hK w
  | snd a b p => exact nd_f33 _ _ hS hK w
  | rcv a x p => exact nd_f63 _ _ hS hK w
  | tau p => exact nd_f126 _ _ hS hK w
  | own x p =>
   simp only [Tm.ok, Bool.and_eq_true] at ho2
   simp only [Tm.pr, List.length_cons] at hl2
   simp only [Tm.size] at s3
   have hI := ih p (by omega) ho2.2 (by omega)
   simp only [Tm.dead]
   cases hd : p.dead with
   | true => rw [hd] at hI; exact nd_1T _ _ 35 (by decide) (by decide) (by decide) (by decide) _ hS hK hP hI w
   | false => rw [hd] at hI; exact nd_1F _ _ 35 (by decide) (by decide) (by decide) (by decide) _ hS hK hP hI w
  | mat a b p =>
   simp only [Tm.ok, Bool.and_eq_true] at ho2
   simp only [Tm.pr, List.length_cons] at hl2
   simp only [Tm.size] at s3
   have hI := ih p (by omega) ho2.2 (by omega)
   simp only [Tm.dead]
   cases hd : p.dead with
   | true => rw [hd] at hI; exact nd_1T _ _ 61 (by decide) (by decide) (by decide) (by decide) _ hS hK hP hI w
   | false => rw [hd] at hI; exact nd_1F _ _ 61 (by decide) (by decide) (by decide) (by decide) _ hS hK hP hI w
  | rep p =>
   simp only [Tm.ok, Bool.and_eq_true] at ho2
   simp only [Tm.pr, List.length_cons] at hl2
   simp only [Tm.size] at s3
   have hI := ih p (by omega) ho2 (by omega)
   simp only [Tm.dead]
   cases hd : p.dead with
   | true => rw [hd] at hI; exact nd_1T _ _ 42 (by decide) (by decide) (by decide) (by decide) _ hS hK hP hI w
   | false => rw [hd] at hI; exact nd_1F _ _ 42 (by decide) (by decide) (by decide) (by decide) _ hS hK hP hI w
  | sum p q =>
   simp only [Tm.ok, Bool.and_eq_true] at ho2
   simp only [Tm.pr, List.length_cons, List.length_append] at hl2
   simp only [Tm.size] at s3
   have hI := ih p (by omega) ho2.1 (by omega)
   have hI2 := ih q (by omega) ho2.2 (by omega)
   simp only [Tm.dead]
   cases hd : p.dead with
   | false => rw [hd] at hI; exact nd_2f _ _ 43 (by decide) (by decide) (by decide) (by decide) _ _ hS hK hP hI w
   | true =>
    rw [hd] at hI
    simp only [Bool.true_and]
    cases hd2 : q.dead with
    | true => rw [hd2] at hI2; exact nd_2bT _ _ 43 (by decide) (by decide) (by decide) (by decide) _ _ hS hK hP hI hI2 w
    | false => rw [hd2] at hI2; exact nd_2bF _ _ 43 (by decide) (by decide) (by decide) (by decide) _ _ hS hK hP hI hI2 w
  | par p q =>
   simp only [Tm.ok, Bool.and_eq_true] at ho2
   simp only [Tm.pr, List.length_cons, List.length_append] at hl2
   simp only [Tm.size] at s3
   have hI := ih p (by omega) ho2.1 (by omega)
   have hI2 := ih q (by omega) ho2.2 (by omega)
   simp only [Tm.dead]
   cases hd : p.dead with
   | false => rw [hd] at hI; exact nd_2f _ _ 38 (by decide) (by decide) (by decide) (by decide) _ _ hS hK hP hI w
   | true =>
    rw [hd] at hI
    simp only [Bool.true_and]
    cases hd2 : q.dead with
    | true => rw [hd2] at hI2; exact nd_2bT _ _ 38 (by decide) (by decide) (by decide) (by decide) _ _ hS hK hP hI hI2 w
    | false => rw [hd2] at hI2; exact nd_2bF _ _ 38 (by decide) (by decide) (by decide) (by decide) _ _ hS hK hP hI hI2 w
theorem nu_dead (s0 s : ByteArray)  (HS : ∀ w, Calls Tryz.prog 141 #[.string s0] w fun e w' => e = .returned (.string s) ∧ Below w.heap.size w w') (HD : ∀ w, Calls Tryz.prog 142 #[.string s] w fun e w' => e = .returned (.bool true) ∧ Below w.heap.size w w') (w : World) : Calls Tryz.prog 104 #[.string s0] w fun e w' => e = .returned (.string ⟨#[]⟩) ∧ Below w.heap.size w w' := by
 have HS' := Lib.hid HS
 have HD' := Lib.hid HD
 clear HS HD
 go_enter Tryz.func104, Tryz.ntmps104
 go_wp2_with fail
 refine (HS'.out _).mono ?_
 rintro e w1 ⟨rfl, b1⟩
 have bl := b1
 clear b1
 go_wp2_with fail
 refine (HD'.out _).mono ?_
 rintro e w2 ⟨rfl, b2⟩
 replace bl := ns_go bl b2
 go_wp2_with fail
 go_ret
 exact ⟨rfl, bl⟩
theorem nu_two (s0 s : ByteArray) (u U1 X1 : ByteArray) (A : ByteArray) (a b : UInt8) (hA : A.data.toList = [a, b]) (Z0 : ByteArray) (Z1 : ByteArray) (HS : ∀ w, Calls Tryz.prog 141 #[.string s0] w fun e w' => e = .returned (.string s) ∧ Below w.heap.size w w') (HD : ∀ w, Calls Tryz.prog 142 #[.string s] w fun e w' => e = .returned (.bool false) ∧ Below w.heap.size w w') (HP : ∀ w, Calls Tryz.prog 72 #[.string s] w fun e w' => ∃ b, e = .returned (.slice (some ⟨b, 0, none⟩) 1 1) ∧ w.heap.size ≤ b ∧ w'.heap[b]? = some (.cells #[.string u] 9 (0, 0)) ∧ Below w.heap.size w w') (HU0 : ∀ w, Calls Tryz.prog 104 #[.string u] w fun e w' => e = .returned (.string U1) ∧ Below w.heap.size w w') (HX0 : ∀ w, Calls Tryz.prog 64 #[.string ⟨#[]⟩, .string U1] w fun e w' => e = .returned (.string X1) ∧ Below w.heap.size w w') (HB : ∀ w, Calls Tryz.prog 89 #[.string s] w fun e w' => e = .returned (.tuple #[.int .u8 0, .bool false]) ∧ w = w') (HN : ∀ w, Calls Tryz.prog 143 #[.string s] w fun e w' => e = .returned (.string A) ∧ Below w.heap.size w w') (HA0 : ∀ w, Calls Tryz.prog 91 #[.string X1, .int .u8 (a.toNat : Int)] w fun e w' => e = .returned (.string Z0) ∧ Below w.heap.size w w') (HA1 : ∀ w, Calls Tryz.prog 91 #[.string Z0, .int .u8 (b.toNat : Int)] w fun e w' => e = .returned (.string Z1) ∧ Below w.heap.size w w') (w : World) : Calls Tryz.prog 104 #[.string s0] w fun e w' => e = .returned (.string Z1) ∧ Below w.heap.size w w' := by
 have HS' := Lib.hid HS
 have HD' := Lib.hid HD
 have HP' := Lib.hid HP
 have HU0' := Lib.hid HU0
 have HX0' := Lib.hid HX0
 have HB' := Lib.hid HB
 have HN' := Lib.hid HN
 have HA0' := Lib.hid HA0
 have HA1' := Lib.hid HA1
 have HAA := Lib.hid hA
 clear hA HS HD HP HU0 HX0 HB HN HA0 HA1
 go_enter Tryz.func104, Tryz.ntmps104
 go_wp2_with fail
 refine (HS'.out _).mono ?_
 rintro e w1 ⟨rfl, b1⟩
 have bl := b1
 clear b1
 go_wp2_with fail
 refine (HD'.out _).mono ?_
 rintro e w2 ⟨rfl, b2⟩
 replace bl := ns_go bl b2
 go_wp2_with fail
 refine (HP'.out _).mono ?_
 rintro e w3 ⟨b, rfl, hb, hh, b3⟩
 replace bl := ns_go bl b3
 have c0 := cellOf1 hh
 have Hh := Lib.hid hh
 clear hh hb b3
 go_wp2_with fail
 refine wp_loop_rounds 2 ?_
 rw [rounds_succ]
 go_wp2_with fail
 refine (HU0'.out _).mono ?_
 rintro e w4 ⟨rfl, b4⟩
 replace bl := ns_go bl b4
 clear c0
 go_wp2_with fail
 refine (HX0'.out _).mono ?_
 rintro e w5 ⟨rfl, b5⟩
 replace bl := ns_go bl b5
 go_wp2_with fail
 rw [rounds_succ]
 go_wp2_with fail
 refine (HB'.out _).mono ?_
 rintro e w8 ⟨rfl, rfl⟩
 go_wp2_with fail
 refine (HN'.out _).mono ?_
 rintro e w10 ⟨rfl, b10⟩
 replace bl := ns_go bl b10
 obtain ⟨cap, W, hcv, bW, hr⟩ := conv_head A _ 2 HAA.out rfl w10
 replace bl := ns_go bl bW
 have Hr := Lib.hid hr
 obtain ⟨g, hg⟩ : ∃ g, g = w10.heap.size := ⟨_, rfl⟩
 rw [← hg] at hcv Hr
 clear hr bW hg
 go_wp2_with fail
 clear hcv
 refine wp_loop_rounds 3 ?_
 rw [rounds_succ]
 have q0 := Hr.out.cell 0 (by simp)
 simp only [List.getElem_cons_zero, List.getElem_cons_succ] at q0
 go_wp2_with fail
 refine (HA0'.out _).mono ?_
 rintro e w11 ⟨rfl, b11⟩
 replace bl := ns_go bl b11
 replace Hr := Lib.hid (Hr.out.below b11)
 clear q0
 go_wp2_with fail
 rw [rounds_succ]
 have q1 := Hr.out.cell 1 (by simp)
 simp only [List.getElem_cons_zero, List.getElem_cons_succ] at q1
 go_wp2_with fail
 refine (HA1'.out _).mono ?_
 rintro e w12 ⟨rfl, b12⟩
 replace bl := ns_go bl b12
 replace Hr := Lib.hid (Hr.out.below b12)
 clear q1
 go_wp2_with fail
 rw [rounds_succ]
 go_wp2_with fail
 go_ret
 exact ⟨rfl, bl⟩
theorem nu_rcv (s0 s : ByteArray) (u U1 X1 : ByteArray) (Y : ByteArray) (x : Int) (A : ByteArray) (a : UInt8) (hA : A.data.toList = [a]) (Z0 : ByteArray) (HS : ∀ w, Calls Tryz.prog 141 #[.string s0] w fun e w' => e = .returned (.string s) ∧ Below w.heap.size w w') (HD : ∀ w, Calls Tryz.prog 142 #[.string s] w fun e w' => e = .returned (.bool false) ∧ Below w.heap.size w w') (HP : ∀ w, Calls Tryz.prog 72 #[.string s] w fun e w' => ∃ b, e = .returned (.slice (some ⟨b, 0, none⟩) 1 1) ∧ w.heap.size ≤ b ∧ w'.heap[b]? = some (.cells #[.string u] 9 (0, 0)) ∧ Below w.heap.size w w') (HU0 : ∀ w, Calls Tryz.prog 104 #[.string u] w fun e w' => e = .returned (.string U1) ∧ Below w.heap.size w w') (HX0 : ∀ w, Calls Tryz.prog 64 #[.string ⟨#[]⟩, .string U1] w fun e w' => e = .returned (.string X1) ∧ Below w.heap.size w w') (HB : ∀ w, Calls Tryz.prog 89 #[.string s] w fun e w' => e = .returned (.tuple #[.int .u8 x, .bool true]) ∧ w = w') (HL : ∀ w, Calls Tryz.prog 90 #[.string X1, .int .u8 x] w fun e w' => e = .returned (.string Y) ∧ w = w') (HN : ∀ w, Calls Tryz.prog 143 #[.string s] w fun e w' => e = .returned (.string A) ∧ Below w.heap.size w w') (HA0 : ∀ w, Calls Tryz.prog 91 #[.string Y, .int .u8 (a.toNat : Int)] w fun e w' => e = .returned (.string Z0) ∧ Below w.heap.size w w') (w : World) : Calls Tryz.prog 104 #[.string s0] w fun e w' => e = .returned (.string Z0) ∧ Below w.heap.size w w' := by
 have HS' := Lib.hid HS
 have HD' := Lib.hid HD
 have HP' := Lib.hid HP
 have HU0' := Lib.hid HU0
 have HX0' := Lib.hid HX0
 have HB' := Lib.hid HB
 have HL' := Lib.hid HL
 have HN' := Lib.hid HN
 have HA0' := Lib.hid HA0
 have HAA := Lib.hid hA
 clear hA HS HD HP HU0 HX0 HB HL HN HA0
 go_enter Tryz.func104, Tryz.ntmps104
 go_wp2_with fail
 refine (HS'.out _).mono ?_
 rintro e w1 ⟨rfl, b1⟩
 have bl := b1
 clear b1
 go_wp2_with fail
 refine (HD'.out _).mono ?_
 rintro e w2 ⟨rfl, b2⟩
 replace bl := ns_go bl b2
 go_wp2_with fail
 refine (HP'.out _).mono ?_
 rintro e w3 ⟨b, rfl, hb, hh, b3⟩
 replace bl := ns_go bl b3
 have c0 := cellOf1 hh
 have Hh := Lib.hid hh
 clear hh hb b3
 go_wp2_with fail
 refine wp_loop_rounds 2 ?_
 rw [rounds_succ]
 go_wp2_with fail
 refine (HU0'.out _).mono ?_
 rintro e w4 ⟨rfl, b4⟩
 replace bl := ns_go bl b4
 clear c0
 go_wp2_with fail
 refine (HX0'.out _).mono ?_
 rintro e w5 ⟨rfl, b5⟩
 replace bl := ns_go bl b5
 go_wp2_with fail
 rw [rounds_succ]
 go_wp2_with fail
 refine (HB'.out _).mono ?_
 rintro e w8 ⟨rfl, rfl⟩
 go_wp2_with fail
 refine (HL'.out _).mono ?_
 rintro e w9 ⟨rfl, rfl⟩
 go_wp2_with fail
 refine (HN'.out _).mono ?_
 rintro e w10 ⟨rfl, b10⟩
 replace bl := ns_go bl b10
 obtain ⟨cap, W, hcv, bW, hr⟩ := conv_head A _ 1 HAA.out rfl w10
 replace bl := ns_go bl bW
 have Hr := Lib.hid hr
 obtain ⟨g, hg⟩ : ∃ g, g = w10.heap.size := ⟨_, rfl⟩
 rw [← hg] at hcv Hr
 clear hr bW hg
 go_wp2_with fail
 clear hcv
 refine wp_loop_rounds 2 ?_
 rw [rounds_succ]
 have q0 := Hr.out.cell 0 (by simp)
 simp only [List.getElem_cons_zero, List.getElem_cons_succ] at q0
 go_wp2_with fail
 refine (HA0'.out _).mono ?_
 rintro e w11 ⟨rfl, b11⟩
 replace bl := ns_go bl b11
 replace Hr := Lib.hid (Hr.out.below b11)
 clear q0
 go_wp2_with fail
 rw [rounds_succ]
 go_wp2_with fail
 go_ret
 exact ⟨rfl, bl⟩
theorem nu_own (s0 s : ByteArray) (u U1 X1 : ByteArray) (Y : ByteArray) (x : Int) (A : ByteArray) (a : UInt8) (hA : A.data.toList = []) (HS : ∀ w, Calls Tryz.prog 141 #[.string s0] w fun e w' => e = .returned (.string s) ∧ Below w.heap.size w w') (HD : ∀ w, Calls Tryz.prog 142 #[.string s] w fun e w' => e = .returned (.bool false) ∧ Below w.heap.size w w') (HP : ∀ w, Calls Tryz.prog 72 #[.string s] w fun e w' => ∃ b, e = .returned (.slice (some ⟨b, 0, none⟩) 1 1) ∧ w.heap.size ≤ b ∧ w'.heap[b]? = some (.cells #[.string u] 9 (0, 0)) ∧ Below w.heap.size w w') (HU0 : ∀ w, Calls Tryz.prog 104 #[.string u] w fun e w' => e = .returned (.string U1) ∧ Below w.heap.size w w') (HX0 : ∀ w, Calls Tryz.prog 64 #[.string ⟨#[]⟩, .string U1] w fun e w' => e = .returned (.string X1) ∧ Below w.heap.size w w') (HB : ∀ w, Calls Tryz.prog 89 #[.string s] w fun e w' => e = .returned (.tuple #[.int .u8 x, .bool true]) ∧ w = w') (HL : ∀ w, Calls Tryz.prog 90 #[.string X1, .int .u8 x] w fun e w' => e = .returned (.string Y) ∧ w = w') (HN : ∀ w, Calls Tryz.prog 143 #[.string s] w fun e w' => e = .returned (.string A) ∧ Below w.heap.size w w') (w : World) : Calls Tryz.prog 104 #[.string s0] w fun e w' => e = .returned (.string Y) ∧ Below w.heap.size w w' := by
 have HS' := Lib.hid HS
 have HD' := Lib.hid HD
 have HP' := Lib.hid HP
 have HU0' := Lib.hid HU0
 have HX0' := Lib.hid HX0
 have HB' := Lib.hid HB
 have HL' := Lib.hid HL
 have HN' := Lib.hid HN
 have HAA := Lib.hid hA
 clear hA HS HD HP HU0 HX0 HB HL HN
 go_enter Tryz.func104, Tryz.ntmps104
 go_wp2_with fail
 refine (HS'.out _).mono ?_
 rintro e w1 ⟨rfl, b1⟩
 have bl := b1
 clear b1
 go_wp2_with fail
 refine (HD'.out _).mono ?_
 rintro e w2 ⟨rfl, b2⟩
 replace bl := ns_go bl b2
 go_wp2_with fail
 refine (HP'.out _).mono ?_
 rintro e w3 ⟨b, rfl, hb, hh, b3⟩
 replace bl := ns_go bl b3
 have c0 := cellOf1 hh
 have Hh := Lib.hid hh
 clear hh hb b3
 go_wp2_with fail
 refine wp_loop_rounds 2 ?_
 rw [rounds_succ]
 go_wp2_with fail
 refine (HU0'.out _).mono ?_
 rintro e w4 ⟨rfl, b4⟩
 replace bl := ns_go bl b4
 clear c0
 go_wp2_with fail
 refine (HX0'.out _).mono ?_
 rintro e w5 ⟨rfl, b5⟩
 replace bl := ns_go bl b5
 go_wp2_with fail
 rw [rounds_succ]
 go_wp2_with fail
 refine (HB'.out _).mono ?_
 rintro e w8 ⟨rfl, rfl⟩
 go_wp2_with fail
 refine (HL'.out _).mono ?_
 rintro e w9 ⟨rfl, rfl⟩
 go_wp2_with fail
 refine (HN'.out _).mono ?_
 rintro e w10 ⟨rfl, b10⟩
 replace bl := ns_go bl b10
 obtain ⟨cap, W, hcv, bW, hr⟩ := conv_head A _ 0 HAA.out rfl w10
 replace bl := ns_go bl bW
 have Hr := Lib.hid hr
 obtain ⟨g, hg⟩ : ∃ g, g = w10.heap.size := ⟨_, rfl⟩
 rw [← hg] at hcv Hr
 clear hr bW hg
 go_wp2_with fail
 clear hcv
 refine wp_loop_rounds 1 ?_
 rw [rounds_succ]
 go_wp2_with fail
 go_ret
 exact ⟨rfl, bl⟩
theorem nu_tau (s0 s : ByteArray) (u U1 X1 : ByteArray) (A : ByteArray) (a : UInt8) (hA : A.data.toList = []) (HS : ∀ w, Calls Tryz.prog 141 #[.string s0] w fun e w' => e = .returned (.string s) ∧ Below w.heap.size w w') (HD : ∀ w, Calls Tryz.prog 142 #[.string s] w fun e w' => e = .returned (.bool false) ∧ Below w.heap.size w w') (HP : ∀ w, Calls Tryz.prog 72 #[.string s] w fun e w' => ∃ b, e = .returned (.slice (some ⟨b, 0, none⟩) 1 1) ∧ w.heap.size ≤ b ∧ w'.heap[b]? = some (.cells #[.string u] 9 (0, 0)) ∧ Below w.heap.size w w') (HU0 : ∀ w, Calls Tryz.prog 104 #[.string u] w fun e w' => e = .returned (.string U1) ∧ Below w.heap.size w w') (HX0 : ∀ w, Calls Tryz.prog 64 #[.string ⟨#[]⟩, .string U1] w fun e w' => e = .returned (.string X1) ∧ Below w.heap.size w w') (HB : ∀ w, Calls Tryz.prog 89 #[.string s] w fun e w' => e = .returned (.tuple #[.int .u8 0, .bool false]) ∧ w = w') (HN : ∀ w, Calls Tryz.prog 143 #[.string s] w fun e w' => e = .returned (.string A) ∧ Below w.heap.size w w') (w : World) : Calls Tryz.prog 104 #[.string s0] w fun e w' => e = .returned (.string X1) ∧ Below w.heap.size w w' := by
 have HS' := Lib.hid HS
 have HD' := Lib.hid HD
 have HP' := Lib.hid HP
 have HU0' := Lib.hid HU0
 have HX0' := Lib.hid HX0
 have HB' := Lib.hid HB
 have HN' := Lib.hid HN
 have HAA := Lib.hid hA
 clear hA HS HD HP HU0 HX0 HB HN
 go_enter Tryz.func104, Tryz.ntmps104
 go_wp2_with fail
 refine (HS'.out _).mono ?_
 rintro e w1 ⟨rfl, b1⟩
 have bl := b1
 clear b1
 go_wp2_with fail
 refine (HD'.out _).mono ?_
 rintro e w2 ⟨rfl, b2⟩
 replace bl := ns_go bl b2
 go_wp2_with fail
 refine (HP'.out _).mono ?_
 rintro e w3 ⟨b, rfl, hb, hh, b3⟩
 replace bl := ns_go bl b3
 have c0 := cellOf1 hh
 have Hh := Lib.hid hh
 clear hh hb b3
 go_wp2_with fail
 refine wp_loop_rounds 2 ?_
 rw [rounds_succ]
 go_wp2_with fail
 refine (HU0'.out _).mono ?_
 rintro e w4 ⟨rfl, b4⟩
 replace bl := ns_go bl b4
 clear c0
 go_wp2_with fail
 refine (HX0'.out _).mono ?_
 rintro e w5 ⟨rfl, b5⟩
 replace bl := ns_go bl b5
 go_wp2_with fail
 rw [rounds_succ]
 go_wp2_with fail
 refine (HB'.out _).mono ?_
 rintro e w8 ⟨rfl, rfl⟩
 go_wp2_with fail
 refine (HN'.out _).mono ?_
 rintro e w10 ⟨rfl, b10⟩
 replace bl := ns_go bl b10
 obtain ⟨cap, W, hcv, bW, hr⟩ := conv_head A _ 0 HAA.out rfl w10
 replace bl := ns_go bl bW
 have Hr := Lib.hid hr
 obtain ⟨g, hg⟩ : ∃ g, g = w10.heap.size := ⟨_, rfl⟩
 rw [← hg] at hcv Hr
 clear hr bW hg
 go_wp2_with fail
 clear hcv
 refine wp_loop_rounds 1 ?_
 rw [rounds_succ]
 go_wp2_with fail
 go_ret
 exact ⟨rfl, bl⟩
theorem nu_sum (s0 s : ByteArray) (u v U1 U2 X1 X2 : ByteArray) (A : ByteArray) (a : UInt8) (hA : A.data.toList = []) (HS : ∀ w, Calls Tryz.prog 141 #[.string s0] w fun e w' => e = .returned (.string s) ∧ Below w.heap.size w w') (HD : ∀ w, Calls Tryz.prog 142 #[.string s] w fun e w' => e = .returned (.bool false) ∧ Below w.heap.size w w') (HP : ∀ w, Calls Tryz.prog 72 #[.string s] w fun e w' => ∃ b, e = .returned (.slice (some ⟨b, 0, none⟩) 2 2) ∧ w.heap.size ≤ b ∧ w'.heap[b]? = some (.cells #[.string u, .string v] 9 (0, 0)) ∧ Below w.heap.size w w') (HU0 : ∀ w, Calls Tryz.prog 104 #[.string u] w fun e w' => e = .returned (.string U1) ∧ Below w.heap.size w w') (HX0 : ∀ w, Calls Tryz.prog 64 #[.string ⟨#[]⟩, .string U1] w fun e w' => e = .returned (.string X1) ∧ Below w.heap.size w w') (HU1 : ∀ w, Calls Tryz.prog 104 #[.string v] w fun e w' => e = .returned (.string U2) ∧ Below w.heap.size w w') (HX1 : ∀ w, Calls Tryz.prog 64 #[.string X1, .string U2] w fun e w' => e = .returned (.string X2) ∧ Below w.heap.size w w') (HB : ∀ w, Calls Tryz.prog 89 #[.string s] w fun e w' => e = .returned (.tuple #[.int .u8 0, .bool false]) ∧ w = w') (HN : ∀ w, Calls Tryz.prog 143 #[.string s] w fun e w' => e = .returned (.string A) ∧ Below w.heap.size w w') (w : World) : Calls Tryz.prog 104 #[.string s0] w fun e w' => e = .returned (.string X2) ∧ Below w.heap.size w w' := by
 have HS' := Lib.hid HS
 have HD' := Lib.hid HD
 have HP' := Lib.hid HP
 have HU0' := Lib.hid HU0
 have HX0' := Lib.hid HX0
 have HU1' := Lib.hid HU1
 have HX1' := Lib.hid HX1
 have HB' := Lib.hid HB
 have HN' := Lib.hid HN
 have HAA := Lib.hid hA
 clear hA HS HD HP HU0 HX0 HU1 HX1 HB HN
 go_enter Tryz.func104, Tryz.ntmps104
 go_wp2_with fail
 refine (HS'.out _).mono ?_
 rintro e w1 ⟨rfl, b1⟩
 have bl := b1
 clear b1
 go_wp2_with fail
 refine (HD'.out _).mono ?_
 rintro e w2 ⟨rfl, b2⟩
 replace bl := ns_go bl b2
 go_wp2_with fail
 refine (HP'.out _).mono ?_
 rintro e w3 ⟨b, rfl, hb, hh, b3⟩
 replace bl := ns_go bl b3
 have c0 := cellOf2a hh
 have Hh := Lib.hid hh
 clear hh hb b3
 go_wp2_with fail
 refine wp_loop_rounds 3 ?_
 rw [rounds_succ]
 go_wp2_with fail
 refine (HU0'.out _).mono ?_
 rintro e w4 ⟨rfl, b4⟩
 replace bl := ns_go bl b4
 have h4 := (b4.block b (lt_of_block Hh.out)).trans Hh.out
 clear c0
 have H4 := Lib.hid h4
 clear h4
 go_wp2_with fail
 refine (HX0'.out _).mono ?_
 rintro e w5 ⟨rfl, b5⟩
 replace bl := ns_go bl b5
 have h5 := (b5.block b (lt_of_block H4.out)).trans H4.out
 have c1 := cellOf2b h5
 clear h5
 go_wp2_with fail
 rw [rounds_succ]
 go_wp2_with fail
 refine (HU1'.out _).mono ?_
 rintro e w6 ⟨rfl, b6⟩
 replace bl := ns_go bl b6
 clear c1
 go_wp2_with fail
 refine (HX1'.out _).mono ?_
 rintro e w7 ⟨rfl, b7⟩
 replace bl := ns_go bl b7
 go_wp2_with fail
 rw [rounds_succ]
 go_wp2_with fail
 refine (HB'.out _).mono ?_
 rintro e w8 ⟨rfl, rfl⟩
 go_wp2_with fail
 refine (HN'.out _).mono ?_
 rintro e w10 ⟨rfl, b10⟩
 replace bl := ns_go bl b10
 obtain ⟨cap, W, hcv, bW, hr⟩ := conv_head A _ 0 HAA.out rfl w10
 replace bl := ns_go bl bW
 have Hr := Lib.hid hr
 obtain ⟨g, hg⟩ : ∃ g, g = w10.heap.size := ⟨_, rfl⟩
 rw [← hg] at hcv Hr
 clear hr bW hg
 go_wp2_with fail
 clear hcv
 refine wp_loop_rounds 1 ?_
 rw [rounds_succ]
 go_wp2_with fail
 go_ret
 exact ⟨rfl, bl⟩
theorem usd_dead (t : Tm) (h : t.dead = true) : t.strip.usd = [] := by
 rw [strip_usd]
 induction t with
 | nil => rfl
 | snd a b p ih => cases h
 | rcv a x p ih => cases h
 | tau p ih => cases h
 | sum p q ih ih2 => simp only [Tm.dead] at h; simp only [Tm.usd]; rw [if_pos h]
 | par p q ih ih2 => simp only [Tm.dead] at h; simp only [Tm.usd]; rw [if_pos h]
 | own x p ih => simp only [Tm.dead] at h; simp only [Tm.usd]; rw [if_pos h]
 | mat a b p ih => simp only [Tm.dead] at h; simp only [Tm.usd]; split; exact ih h; first | rfl | rw [if_pos h]
 | rep p ih => simp only [Tm.dead] at h; simp only [Tm.usd]; rw [if_pos h]
theorem bo_any (l m : List UInt8) (hl : Srt l) (hm : Srt m) (w : World) : Calls Tryz.prog 64 #[.string (B l), .string (B m)] w fun e w' => e = .returned (.string (B (bothL l m))) ∧ Below w.heap.size w w' := by
 have := tmBoth_any l (B m) hl (by rw [B_size]; have := srt_len hm; omega) w
 rw [B_list] at this
 exact this
theorem ad_any (l : List UInt8) (c : UInt8) (hl : Srt l) (w : World) : Calls Tryz.prog 91 #[.string (B l), .int .u8 (c.toNat : Int)] w fun e w' => e = .returned (.string (B (addL l c))) ∧ Below w.heap.size w w' := by
 have := tmAdd_any (B l) c (by rw [B_size]; have := srt_len hl; omega) w
 rw [B_list] at this
 exact this
theorem le_any (l : List UInt8) (c : UInt8) (hl : Srt l) (w : World) : Calls Tryz.prog 90 #[.string (B l), .int .u8 (c.toNat : Int)] w fun e w' => e = .returned (.string (B (lessL l c))) ∧ w = w' := by
 have := tmLess_any (B l) c (by rw [B_size]; have := srt_len hl; omega) w
 rw [B_list] at this
 exact this
theorem nfUsed_any (n : Nat) : ∀ (t : Tm), t.size ≤ n → t.ok nmE = true → t.pr.length ≤ 700 → ∀ w, Calls Tryz.prog 104 #[.string (S t)] w fun e w' => e = .returned (.string (B t.usd)) ∧ Below w.heap.size w w' := by
 induction n with
 | zero => intro t h; have := size_pos t; omega
 | succ n ih =>
  intro t hn ho hl w
  obtain ⟨s1, s2, s3, _, _⟩ := strip_sub t
  have hS := nfStrip_any t ho hl
  have hne := strip_no t
  rw [← strip_usd t]
  have ho2 := s1 nmE ho
  have hdd := usd_dead t
  rw [← strip_dead t] at hdd
  obtain ⟨u, hu⟩ : ∃ u, u = t.strip := ⟨_, rfl⟩
  rw [← hu] at hS ho2 s2 s3 hne hdd ⊢
  have hl2 : u.pr.length ≤ 700 := by omega
  have hD := nfDead_any u.size u (Nat.le_refl _) ho2 hl2
  have hP := tmParts_any u ho2 hl2
  have hB := tmBinds_any u ho2 hl2
  have hN := tmNames_any u ho2 hl2
  have e0 := srt_nil
  clear hu s1
  cases hdu : u.dead with
  | true =>
   rw [hdu] at hD
   rw [hdd hdu]
   exact nu_dead _ _ hS hD w
  | false =>
   rw [hdu] at hD
   cases u with
   | nil => cases hdu
   | snd a b p =>
    simp only [Tm.ok, Bool.and_eq_true] at ho2
    simp only [Tm.pr, List.length_cons] at hl2
    simp only [Tm.size] at s3
    have hI := ih p (by omega) ho2.2 (by omega)
    have hsb := srt_bothL p.usd srt_nil
    exact nu_two _ _ _ _ _ _ _ _ (B_list _) _ _ hS hD hP hI (bo_any [] p.usd srt_nil (srt_usd p)) hB hN (ad_any _ a hsb) (ad_any _ b (srt_addL hsb a)) w
   | mat a b p =>
    simp only [Tm.ok, Bool.and_eq_true] at ho2
    simp only [Tm.pr, List.length_cons] at hl2
    simp only [Tm.size] at s3
    have hI := ih p (by omega) ho2.2 (by omega)
    have hsb := srt_bothL p.usd srt_nil
    have hab : ¬ a = b := fun e => hne a p (by rw [e])
    simp only [Tm.dead] at hdu
    simp only [Tm.usd]
    rw [if_neg hab, hdu]
    exact nu_two _ _ _ _ _ _ _ _ (B_list _) _ _ hS hD hP hI (bo_any [] p.usd srt_nil (srt_usd p)) hB hN (ad_any _ a hsb) (ad_any _ b (srt_addL hsb a)) w
   | rcv a x p =>
    simp only [Tm.ok, Bool.and_eq_true] at ho2
    simp only [Tm.pr, List.length_cons] at hl2
    simp only [Tm.size] at s3
    have hI := ih p (by omega) ho2.2 (by omega)
    have hsb := srt_bothL p.usd srt_nil
    exact nu_rcv _ _ _ _ _ _ _ _ _ (B_list _) _ hS hD hP hI (bo_any [] p.usd srt_nil (srt_usd p)) hB (le_any _ x hsb) hN (ad_any _ a (srt_lessL hsb x)) w
   | own x p =>
    simp only [Tm.ok, Bool.and_eq_true] at ho2
    simp only [Tm.pr, List.length_cons] at hl2
    simp only [Tm.size] at s3
    have hI := ih p (by omega) ho2.2 (by omega)
    have hsb := srt_bothL p.usd srt_nil
    simp only [Tm.dead] at hdu
    simp only [Tm.usd]
    rw [hdu]
    exact nu_own _ _ _ _ _ _ _ _ 0 (B_list _) hS hD hP hI (bo_any [] p.usd srt_nil (srt_usd p)) hB (le_any _ x hsb) hN w
   | tau p =>
    simp only [Tm.ok, Bool.and_eq_true] at ho2
    simp only [Tm.pr, List.length_cons] at hl2
    simp only [Tm.size] at s3
    have hI := ih p (by omega) ho2 (by omega)
    have hsb := srt_bothL p.usd srt_nil
    exact nu_tau _ _ _ _ _ _ 0 (B_list _) hS hD hP hI (bo_any [] p.usd srt_nil (srt_usd p)) hB hN w
   | rep p =>
    simp only [Tm.ok, Bool.and_eq_true] at ho2
    simp only [Tm.pr, List.length_cons] at hl2
    simp only [Tm.size] at s3
    have hI := ih p (by omega) ho2 (by omega)
    have hsb := srt_bothL p.usd srt_nil
    simp only [Tm.dead] at hdu
    simp only [Tm.usd]
    rw [hdu]
    exact nu_tau _ _ _ _ _ _ 0 (B_list _) hS hD hP hI (bo_any [] p.usd srt_nil (srt_usd p)) hB hN w
   | sum p q =>
    simp only [Tm.ok, Bool.and_eq_true] at ho2
    simp only [Tm.pr, List.length_cons, List.length_append] at hl2
    simp only [Tm.size] at s3
    have hI := ih p (by omega) ho2.1 (by omega)
    have hI2 := ih q (by omega) ho2.2 (by omega)
    simp only [Tm.dead] at hdu
    simp only [Tm.usd]
    rw [hdu]
    exact nu_sum _ _ _ _ _ _ _ _ _ 0 (B_list _) hS hD hP hI (bo_any [] p.usd srt_nil (srt_usd p)) hI2 (bo_any _ q.usd (srt_bothL _ srt_nil) (srt_usd q)) hB hN w
   | par p q =>
    simp only [Tm.ok, Bool.and_eq_true] at ho2
    simp only [Tm.pr, List.length_cons, List.length_append] at hl2
    simp only [Tm.size] at s3
    have hI := ih p (by omega) ho2.1 (by omega)
    have hI2 := ih q (by omega) ho2.2 (by omega)
    simp only [Tm.dead] at hdu
    simp only [Tm.usd]
    rw [hdu]
    exact nu_sum _ _ _ _ _ _ _ _ _ 0 (B_list _) hS hD hP hI (bo_any [] p.usd srt_nil (srt_usd p)) hI2 (bo_any _ q.usd (srt_bothL _ srt_nil) (srt_usd q)) hB hN w
end Go.Proofs.YtalegefnppbkdaaGreat.T1
