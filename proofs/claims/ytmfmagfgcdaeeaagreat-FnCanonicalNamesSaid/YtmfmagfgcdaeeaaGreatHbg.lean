/- Texts of the proof, put together: Pq, Tz, Oc, Od. No conditions. -/
import Derived.Test.YtmfmagfgcdaeeaaGreatHaq
import Derived.Test.YtmfmagfgcdaeeaaGreatHaw
import Derived.Test.YtmfmagfgcdaeeaaGreatHbb
import Derived.Test.YtmfmagfgcdaeeaaGreatHbc
import Derived.Test.YtmfmagfgcdaeeaaGreatHbf

/- Another process at a path, in the specification, for every process; a text, if it is a process. -/
namespace Go.Proofs.YtmfmagfgcdaeeaaGreat.T1
open Go.RowKit
set_option maxRecDepth 100000
set_option linter.unusedVariables false

theorem with_S1 (t p r : Tm) (h : t.parts = [p]) : (S t).extract 0 t.hd ++ S r = S (t.withP 0 r) := by
  apply S_of
  rw [ByteArray.data_append, Array.toList_append, ByteArray.data_extract, Array.toList_extract, S_list, S_list]
  cases t <;> simp [Tm.parts] at h <;> simp [Tm.pr, Tm.hd, Tm.withP, List.extract_eq_take_drop]
theorem with_S2 (t p q r s : Tm) (m : UInt8) (h : t.parts = [p, q]) (hm : t.kind = m) : one 40 ++ S r ++ one m ++ S s ++ one 41 = S ((t.withP 0 r).withP 1 s) := by
  subst hm
  apply S_of
  simp only [ByteArray.data_append, Array.toList_append, S_list]
  cases t <;> simp [Tm.parts] at h <;> simp [Tm.pr, Tm.withP, one, Tm.kind]
theorem hd_le (t p : Tm) (h : t.parts = [p]) : t.hd ≤ t.pr.length := by cases t <;> simp [Tm.parts] at h <;> simp [Tm.pr, Tm.hd] <;> omega
theorem kd_one (t p : Tm) (h : t.parts = [p]) : t.kind ≠ 48 ∧ t.kind ≠ 43 ∧ t.kind ≠ 38 := by cases t <;> simp [Tm.parts] at h <;> simp [Tm.kind]
theorem kd_two (t p q : Tm) (h : t.parts = [p, q]) : t.kind = 43 ∨ t.kind = 38 := by cases t <;> simp [Tm.parts] at h <;> simp [Tm.kind]
theorem u8_lit (c : UInt8) (n : Nat) (hn : n < 256) (h : c ≠ UInt8.ofNat n) : (((c.toNat : Nat) : Int) == (n : Int)) = false := by
  rw [beq_eq_false_iff_ne]; intro e; exact h (u8_ext (by rw [UInt8.toNat_ofNat']; omega))
theorem tmWith_1 (t p r : Tm) (h : t.parts = [p]) (ho : t.ok nmE = true) (hl : t.pr.length ≤ 700) (hr : r.pr.length ≤ 1000) (g n cap : Nat) (w : World) (hn : 1 ≤ n) (c0 : w.cell? ⟨g, 0, none⟩ = some (.string (S r))) :
    Calls Tryz.prog 128 #[.string (S t), .slice (some ⟨g, 0, none⟩) n cap] w fun e w' => e = .returned (.string (S (t.withP 0 r))) ∧ Below w.heap.size w w' := by
  have hk := kd_one t p h
  have := tw_one (S t) (S r) t.kind.toNat t.hd (by rw [S_size]; exact hl) (by rw [S_size]; exact hr) (by rw [S_size]; exact hd_le t p h) (u8_lit _ 48 (by decide) hk.1) (u8_lit _ 43 (by decide) hk.2.1) (u8_lit _ 38 (by decide) hk.2.2) (tmKind_any t ho hl) (tmHead_any t ho hl) g n cap hn w c0
  rw [with_S1 t p r h] at this
  exact this
theorem tmWith_2 (t p q r s : Tm) (h : t.parts = [p, q]) (ho : t.ok nmE = true) (hl : t.pr.length ≤ 700) (hr : r.pr.length ≤ 1000) (hs : s.pr.length ≤ 1000) (g n cap : Nat) (w : World) (hn : 2 ≤ n) (c0 : w.cell? ⟨g, 0, none⟩ = some (.string (S r))) (c1 : w.cell? ⟨g, 1, none⟩ = some (.string (S s))) :
    Calls Tryz.prog 128 #[.string (S t), .slice (some ⟨g, 0, none⟩) n cap] w fun e w' => e = .returned (.string (S ((t.withP 0 r).withP 1 s))) ∧ Below w.heap.size w w' := by
  have hm : (((t.kind.toNat : Nat) : Int) = 43 ∧ t.kind = 43) ∨ (((t.kind.toNat : Nat) : Int) = 38 ∧ t.kind = 38) := by
    rcases kd_two t p q h with e | e <;> rw [e]
    · exact .inl ⟨rfl, rfl⟩
    · exact .inr ⟨rfl, rfl⟩
  have := tw_two (S t) (S r) (S s) t.kind.toNat t.kind (by rw [S_size]; exact hr) (by rw [S_size]; exact hs) hm (tmKind_any t ho hl) g n cap hn w c0 c1
  rw [with_S2 t p q r s t.kind h rfl] at this
  exact this

theorem good_of {t : Tm} (h1 : t.ok nmL = true) (h2 : t.pr.length ≤ 300) (h3 : t.size ≤ 60) : good t.pr = some t :=
  good_yes h2 ((E_some nmL_nm).2 ⟨by rw [List.append_nil], h1⟩) h3
theorem good_not {t : Tm} (hE : t.ok nmE = true) (h : ¬ (t.ok nmL = true ∧ t.pr.length ≤ 300 ∧ t.size ≤ 60)) : good t.pr = none := by
  cases hg : good t.pr with
  | none => rfl
  | some t' =>
    obtain ⟨g1, g2, g3, g4⟩ := good_out hg
    have := (pr_inj nmE_nm t t' [] [] hE (ok_EL t' g3) (by rw [g2])).1
    subst this
    exact absurd ⟨g3, g1, g4⟩ h
set_option maxHeartbeats 1000000 in
theorem if_yes (s : ByteArray) (HG : ∀ w, Calls Tryz.prog 66 #[.string s] w fun e w' => e = .returned (.bool true) ∧ Below w.heap.size w w') (w : World) : Calls Tryz.prog 70 #[.string s] w fun e w' => e = .returned (.tuple #[.string s, .bool true]) ∧ Below w.heap.size w w' := by
  have H := Lib.hid HG
  clear HG
  go_enter Tryz.func70, Tryz.ntmps70
  go_wp2_with fail
  refine (H.out _).mono ?_
  rintro e w1 ⟨rfl, bl⟩
  go_wp2_with fail
  go_ret2
  exact ⟨rfl, bl⟩
set_option maxHeartbeats 1000000 in
theorem if_no (s : ByteArray) (HG : ∀ w, Calls Tryz.prog 66 #[.string s] w fun e w' => e = .returned (.bool false) ∧ Below w.heap.size w w') (w : World) : Calls Tryz.prog 70 #[.string s] w fun e w' => e = .returned (.tuple #[.string ⟨#[]⟩, .bool false]) ∧ Below w.heap.size w w' := by
  have H := Lib.hid HG
  clear HG
  go_enter Tryz.func70, Tryz.ntmps70
  go_wp2_with fail
  refine (H.out _).mono ?_
  rintro e w1 ⟨rfl, bl⟩
  go_wp2_with fail
  go_ret2
  exact ⟨rfl, bl⟩
/-- What is left by the question whether a tree is a process. -/
def okT (t : Tm) : Bool := t.ok nmL && decide (t.pr.length ≤ 300) && decide (t.size ≤ 60)
theorem okT_iff (t : Tm) : okT t = true ↔ t.ok nmL = true ∧ t.pr.length ≤ 300 ∧ t.size ≤ 60 := by simp [okT, and_assoc]
theorem tmIf_any (t : Tm) (hE : t.ok nmE = true) (hl : t.pr.length ≤ 100000) (w : World) : Calls Tryz.prog 70 #[.string (S t)] w fun e w' => e = .returned (if okT t then .tuple #[.string (S t), .bool true] else .tuple #[.string ⟨#[]⟩, .bool false]) ∧ Below w.heap.size w w' := by
  have hs : (S t).size ≤ 9223372036854775807 := by rw [S_size]; omega
  by_cases h : okT t = true
  · rw [if_pos h]
    have h' := (okT_iff t).1 h
    exact if_yes _ (fun w => tmGood_some (t := t) (by rw [S_list]; exact good_of h'.1 h'.2.1 h'.2.2) w hs) w
  · rw [if_neg h]
    exact if_no _ (fun w => tmGood_none (by rw [S_list]; exact good_not hE (fun h' => h ((okT_iff t).2 h'))) w hs) w

end Go.Proofs.YtmfmagfgcdaeeaaGreat.T1

/- A free name renamed in the specification, for every process. -/
namespace Go.Proofs.YtmfmagfgcdaeeaaGreat.T1
open Go.RowKit
set_option maxRecDepth 100000
set_option linter.unusedVariables false
set_option linter.unusedSimpArgs false

theorem in_free (t : Tm) (o : UInt8) : ∀ w, Calls Tryz.prog 69 #[.string (B t.free), .int .u8 (o.toNat : Int)] w fun e w' => e = .returned (.bool (decide (o ∈ t.free))) ∧ w = w' := by
  intro w
  have h := tmIn_any (B t.free) (o.toNat : Int) w (by rw [B_size]; have := srt_len (srt_free t); omega)
  rw [inB_of, B_list] at h
  exact h
theorem S_sub (t p : Tm) (h : t.parts = [p]) : (S t).extract t.hd (S t).size = S p := by
  refine ext_S (S_list t) _ _ p ?_
  rw [S_size]
  cases t <;> simp [Tm.parts] at h <;> subst h <;> simp [Tm.pr, Tm.hd]
theorem B_S (l : List UInt8) (p t : Tm) (h : l ++ p.pr = t.pr) : B l ++ S p = S t := by
  apply S_of
  rw [ByteArray.data_append, Array.toList_append, S_list, B_list, h]
theorem head_l (t : Tm) (k : Nat) (l : List UInt8) (h : t.pr.take k = l) : ((S t).extract 0 k).data.toList = l := by
  rw [ByteArray.data_extract, Array.toList_extract, S_list, List.extract_eq_take_drop]; simpa using h
theorem u8q {o m : UInt8} (h : o ≠ m) : (((o.toNat : Nat) : Int) == ((m.toNat : Nat) : Int)) = false := by rw [b8_beq]; exact decide_eq_false h
theorem u8qt (o : UInt8) : (((o.toNat : Nat) : Int) == ((o.toNat : Nat) : Int)) = true := by simp
theorem u8n {o m : UInt8} (h : o ≠ m) : (((o.toNat : Nat) : Int) != ((m.toNat : Nat) : Int)) = true := by rw [bne, b8_beq]; simp [h]
theorem u8nf (o : UInt8) : (((o.toNat : Nat) : Int) != ((o.toNat : Nat) : Int)) = false := by simp
theorem conv2g (o m : UInt8) (v : World) (h : Nat) (c0 : v.cell? ⟨h, 0, none⟩ = some (.int .u8 (o.toNat : Int))) (c1 : v.cell? ⟨h, 1, none⟩ = some (.int .u8 (m.toNat : Int))) : (convert 22 9 (.slice (some ⟨h, 0, none⟩) 2 2)).run Tryz.prog v = .ok (.string (B [o, m])) v :=
  run_convert_bytes_back _ 22 9 5 ⟨h, 0, none⟩ 2 [o, m] Tryz.underlying22 Tryz.underlying5 Tryz.underlying9 (fun j hj => by
    rw [add0]
    rcases j with _ | _ | j
    · exact c0
    · exact c1
    · simp at hj; omega)
theorem R_okE {t : Tm} (o m : UInt8) (h : t.ok nmE = true) (hm : nmE m = true) : (R t o m).ok nmE = true := ren_okE _ _ _ _ h hm

set_option maxHeartbeats 4000000 in
theorem tmRename_any (n : Nat) : ∀ (t : Tm) (o m : UInt8), t.size ≤ n → t.ok nmE = true → t.pr.length ≤ 700 → nmE m = true → ∀ w, Calls Tryz.prog 76 #[.string (S t), .int .u8 (o.toNat : Int), .int .u8 (m.toNat : Int)] w fun e w' => e = .returned (.string (S (R t o m))) ∧ Below w.heap.size w w' := by
  induction n with
  | zero => intro t o m h; have := size_pos t; omega
  | succ n ih =>
    intro t o m hn ht hl hm w
    by_cases e : o = m
    · subst e
      rw [R_same _ _ _ (.inl rfl)]
      exact tr_same _ _ w
    have hq := u8q e
    have hF := tmFree_any t ht hl
    have hI := in_free t o
    by_cases hf : o ∈ t.free
    case neg =>
      rw [decide_eq_false hf] at hI
      rw [R_same _ _ _ (.inr hf)]
      exact tr_nofree _ _ _ _ hq hF hI w
    rw [decide_eq_true hf] at hI
    have hne : ¬ (o = m ∨ o ∉ t.free) := fun h => h.elim e (fun h => h hf)
    have hH := tmHead_any t ht hl
    have hB := tmBinds_any t ht hl
    have hK := tmKind_any t ht hl
    have hs3 : (S t).size ≤ 700 := by rw [S_size]; exact hl
    have hrl : ∀ (p : Tm) (o m : UInt8), p.pr.length ≤ 700 → (S (R p o m)).size ≤ 700 := fun p o m h => by rw [S_size, R_len]; exact h
    cases t with
    | nil => simp [Tm.free] at hf
    | snd a b p =>
      simp only [Tm.size] at hn
      have ht0 := ht
      have hlp : p.pr.length + 4 = (Tm.pr (Tm.snd a b p)).length := by simp [Tm.pr]
      simp only [Tm.ok, Bool.and_eq_true] at ht
      have hR := ih p o m (by omega) ht.2 (by omega) hm
      have hx := S_sub (.snd a b p) p rfl
      rw [← hx] at hR
      rw [R_snd hne]
      have := tr_snd (S (.snd a b p)) _ _ _ a b (sw a o m) (sw b o m) (S (R p o m)) (B [sw a o m, 33, sw b o m, 46]) (hrl p o m (by omega)) rfl (by rw [S_size]; omega) hs3 hq (head_l (.snd a b p) 4 _ rfl) hF hI hH hB hK (swap_any a o m) (swap_any b o m) hR w
      rw [B_S _ _ (.snd (sw a o m) (sw b o m) (R p o m)) rfl] at this
      exact this
    | mat a b p =>
      simp only [Tm.size] at hn
      have ht0 := ht
      have hlp : p.pr.length + 5 = (Tm.pr (Tm.mat a b p)).length := by simp [Tm.pr]
      simp only [Tm.ok, Bool.and_eq_true] at ht
      have hR := ih p o m (by omega) ht.2 (by omega) hm
      have hx := S_sub (.mat a b p) p rfl
      rw [← hx] at hR
      rw [R_mat hne]
      have := tr_mat (S (.mat a b p)) _ _ _ a b (sw a o m) (sw b o m) (S (R p o m)) (B [91, sw a o m, 61, sw b o m, 93]) (hrl p o m (by omega)) rfl (by rw [S_size]; omega) hs3 hq (head_l (.mat a b p) 5 _ rfl) hF hI hH hB hK (swap_any a o m) (swap_any b o m) hR w
      rw [B_S _ _ (.mat (sw a o m) (sw b o m) (R p o m)) rfl] at this
      exact this
    | tau p =>
      simp only [Tm.size] at hn
      have ht0 := ht
      have hlp : p.pr.length + 2 = (Tm.pr (Tm.tau p)).length := by simp [Tm.pr]
      simp only [Tm.ok, Bool.and_eq_true] at ht
      have hR := ih p o m (by omega) ht (by omega) hm
      have hx := S_sub (.tau p) p rfl
      rw [← hx] at hR
      rw [R_tau hne]
      have := tr_tau (S (.tau p)) _ _ _ (S (R p o m)) (B [126, 46]) (hrl p o m (by omega)) rfl (by rw [S_size]; omega) hs3 hq (head_l (.tau p) 2 _ rfl) hF hI hH hB hK hR w
      rw [B_S _ _ (.tau (R p o m)) rfl] at this
      exact this
    | rep p =>
      simp only [Tm.size] at hn
      have ht0 := ht
      have hlp : p.pr.length + 1 = (Tm.pr (Tm.rep p)).length := by simp [Tm.pr]
      simp only [Tm.ok, Bool.and_eq_true] at ht
      have hR := ih p o m (by omega) ht (by omega) hm
      have hx := S_sub (.rep p) p rfl
      rw [← hx] at hR
      rw [R_rep hne]
      have := tr_rep (S (.rep p)) _ _ _ (S (R p o m)) (B [42]) (hrl p o m (by omega)) rfl (by rw [S_size]; omega) hs3 hq (head_l (.rep p) 1 _ rfl) hF hI hH hB hK hR w
      rw [B_S _ _ (.rep (R p o m)) rfl] at this
      exact this
    | sum p q =>
      simp only [Tm.size] at hn
      have ht0 := ht
      have hlp : p.pr.length + q.pr.length + 3 = (Tm.pr (.sum p q)).length := by simp [Tm.pr]; omega
      simp only [Tm.ok, Bool.and_eq_true] at ht
      have hR1 := ih p o m (by omega) ht.1 (by omega) hm
      have hR2 := ih q o m (by omega) ht.2 (by omega) hm
      have hP := tmParts_any (.sum p q) ht0 hl
      rw [R_sum hne]
      exact tr_sum (S (.sum p q)) _ _ _ (S p) (S q) (S (R p o m)) (S (R q o m)) (S (.sum (R p o m) (R q o m))) (by rw [S_size]; omega) hs3 hq (head_l (.sum p q) 1 _ rfl) hF hI hH hB hK hP hR1 hR2 (fun g n cap w hn c0 c1 => tmWith_2 (.sum p q) p q (R p o m) (R q o m) rfl ht0 hl (by rw [R_len]; omega) (by rw [R_len]; omega) g n cap w hn c0 c1) w
    | par p q =>
      simp only [Tm.size] at hn
      have ht0 := ht
      have hlp : p.pr.length + q.pr.length + 3 = (Tm.pr (.par p q)).length := by simp [Tm.pr]; omega
      simp only [Tm.ok, Bool.and_eq_true] at ht
      have hR1 := ih p o m (by omega) ht.1 (by omega) hm
      have hR2 := ih q o m (by omega) ht.2 (by omega) hm
      have hP := tmParts_any (.par p q) ht0 hl
      rw [R_par hne]
      exact tr_par (S (.par p q)) _ _ _ (S p) (S q) (S (R p o m)) (S (R q o m)) (S (.par (R p o m) (R q o m))) (by rw [S_size]; omega) hs3 hq (head_l (.par p q) 1 _ rfl) hF hI hH hB hK hP hR1 hR2 (fun g n cap w hn c0 c1 => tmWith_2 (.par p q) p q (R p o m) (R q o m) rfl ht0 hl (by rw [R_len]; omega) (by rw [R_len]; omega) g n cap w hn c0 c1) w
    | rcv a x p =>
      simp only [Tm.size] at hn
      have hlp : p.pr.length + 4 = (Tm.pr (Tm.rcv a x p)).length := by simp [Tm.pr]
      simp only [Tm.ok, Bool.and_eq_true] at ht
      have hx := S_sub (.rcv a x p) p rfl
      have hx' : (S (.rcv a x p)).extract 4 (S (.rcv a x p)).size = S p := hx
      rw [R_rcv hne]
      have hszs : 4 ≤ (S (.rcv a x p)).size := by rw [S_size]; omega
      by_cases hxm : x = m
      · subst hxm
        have hF2 := tmFree_any p ht.2 (by omega)
        have hI2 := in_free p o
        rw [← hx'] at hF2
        by_cases hfp : o ∈ p.free
        · rw [decide_eq_true hfp] at hI2
          have hc : x = x ∧ o ∈ p.free := ⟨rfl, hfp⟩
          obtain ⟨y, hy⟩ : ∃ y, y = capX p x o x := ⟨_, rfl⟩
          have hyf : y = fresh (bothL p.free [o, x]) := by rw [hy]; unfold capX; rw [if_pos hc]
          have hyE : nmE y = true := by rw [hyf]; exact fresh_nm _
          have hBo := tmBoth_any p.free (B [o, x]) (srt_free p) (by rw [B_size]; simp)
          rw [B_list] at hBo
          have hFs := fun w => tmFresh_exact (B (bothL p.free [o, x])) (by rw [B_size]; have := srt_len (srt_bothL [o, x] (srt_free p)); omega) w
          rw [B_list, ← hyf] at hFs
          have hR1 := ih p x y (by omega) ht.2 (by omega) hyE
          rw [← hx'] at hR1
          by_cases hyo : y = o
          · have hRB : RB p x o x = R p x y := by unfold RB; rw [← hy, if_pos hyo, if_pos hc]
            rw [hRB, ← hy]
            have := tb_capSR (S (.rcv a x p)) _ (B [sw a o x, 63, y, 46]) _ a (sw a o x) x y (B [o, x]) (S (R p x y)) _ _ (hrl _ _ _ (by omega)) (u8qt x) (by rw [hyo]; exact u8nf o) hszs hs3 hq (head_l (.rcv a x p) 4 _ rfl) rfl hF hI hH hB hK hF2 hI2 (conv2 o x) (conv2d o x) (conv2g o x) hBo hFs hR1 (swap_any a o x) w
            rw [B_S _ _ (.rcv (sw a o x) y (R p x y)) rfl] at this
            exact this
          · have hRB : RB p x o x = R (R p x y) o x := by unfold RB; rw [← hy, if_neg hyo, if_pos hc]
            have hR := ih (R p x y) o x (by rw [R_size]; omega) (R_okE _ _ ht.2 hyE) (by rw [R_len]; omega) hm
            rw [hRB, ← hy]
            have := tb_capR (S (.rcv a x p)) _ (B [sw a o x, 63, y, 46]) _ a (sw a o x) x y (B [o, x]) (S (R (R p x y) o x)) (S (R p x y)) _ _ (hrl _ _ _ (by rw [R_len]; omega)) (u8qt x) (u8n hyo) hszs hs3 hq (head_l (.rcv a x p) 4 _ rfl) rfl hF hI hH hB hK hF2 hI2 (conv2 o x) (conv2d o x) (conv2g o x) hBo hFs hR1 hR (swap_any a o x) w
            rw [B_S _ _ (.rcv (sw a o x) y (R (R p x y) o x)) rfl] at this
            exact this
        · rw [decide_eq_false hfp] at hI2
          have hc : ¬ (x = x ∧ o ∈ p.free) := fun h => hfp h.2
          have hX : capX p x o x = x := by unfold capX; rw [if_neg hc]
          have hRB : RB p x o x = R p o x := by unfold RB; rw [hX, if_neg (fun h => e h.symm), if_neg hc]
          have hR := ih p o x (by omega) ht.2 (by omega) hm
          rw [← hx'] at hR
          rw [hX, hRB]
          have := tb_noR (S (.rcv a x p)) _ (B [sw a o x, 63, x, 46]) _ a (sw a o x) x (S (R p o x)) _ (hrl _ _ _ (by omega)) (u8qt x) (u8n (fun h => e h.symm)) hszs hs3 hq (head_l (.rcv a x p) 4 _ rfl) rfl hF hI hH hB hK hF2 hI2 hR (swap_any a o x) w
          rw [B_S _ _ (.rcv (sw a o x) x (R p o x)) rfl] at this
          exact this
      · have hc : ¬ (x = m ∧ o ∈ p.free) := fun h => hxm h.1
        have hX : capX p x o m = x := by unfold capX; rw [if_neg hc]
        by_cases hxo : x = o
        · subst hxo
          have hRB : RB p x x m = p := by unfold RB; rw [hX, if_pos rfl, if_neg hc]
          rw [hX, hRB]
          have := tb_skipR (S (.rcv a x p)) _ (B [sw a x m, 63, x, 46]) _ a (sw a x m) x (u8q hxm) (u8nf x) hszs hs3 hq (head_l (.rcv a x p) 4 _ rfl) rfl hF hI hH hB hK (swap_any a x m) w
          rw [hx', B_S _ _ (.rcv (sw a x m) x p) rfl] at this
          exact this
        · have hRB : RB p x o m = R p o m := by unfold RB; rw [hX, if_neg hxo, if_neg hc]
          have hR := ih p o m (by omega) ht.2 (by omega) hm
          rw [← hx'] at hR
          rw [hX, hRB]
          have := tb_renR (S (.rcv a x p)) _ (B [sw a o m, 63, x, 46]) _ _ a (sw a o m) x (S (R p o m)) (hrl _ _ _ (by omega)) (u8q hxm) (u8n hxo) hszs hs3 hq (head_l (.rcv a x p) 4 _ rfl) rfl hF hI hH hB hK hR (swap_any a o m) w
          rw [B_S _ _ (.rcv (sw a o m) x (R p o m)) rfl] at this
          exact this
    | own x p =>
      simp only [Tm.size] at hn
      have hlp : p.pr.length + 3 = (Tm.pr (Tm.own x p)).length := by simp [Tm.pr]
      simp only [Tm.ok, Bool.and_eq_true] at ht
      have hx := S_sub (.own x p) p rfl
      have hx' : (S (.own x p)).extract 3 (S (.own x p)).size = S p := hx
      rw [R_own hne]
      have hszs : 3 ≤ (S (.own x p)).size := by rw [S_size]; omega
      by_cases hxm : x = m
      · subst hxm
        have hF2 := tmFree_any p ht.2 (by omega)
        have hI2 := in_free p o
        rw [← hx'] at hF2
        by_cases hfp : o ∈ p.free
        · rw [decide_eq_true hfp] at hI2
          have hc : x = x ∧ o ∈ p.free := ⟨rfl, hfp⟩
          obtain ⟨y, hy⟩ : ∃ y, y = capX p x o x := ⟨_, rfl⟩
          have hyf : y = fresh (bothL p.free [o, x]) := by rw [hy]; unfold capX; rw [if_pos hc]
          have hyE : nmE y = true := by rw [hyf]; exact fresh_nm _
          have hBo := tmBoth_any p.free (B [o, x]) (srt_free p) (by rw [B_size]; simp)
          rw [B_list] at hBo
          have hFs := fun w => tmFresh_exact (B (bothL p.free [o, x])) (by rw [B_size]; have := srt_len (srt_bothL [o, x] (srt_free p)); omega) w
          rw [B_list, ← hyf] at hFs
          have hR1 := ih p x y (by omega) ht.2 (by omega) hyE
          rw [← hx'] at hR1
          by_cases hyo : y = o
          · have hRB : RB p x o x = R p x y := by unfold RB; rw [← hy, if_pos hyo, if_pos hc]
            rw [hRB, ← hy]
            have := tb_capSO (S (.own x p)) _ (B [35, y, 46]) _ x y (B [o, x]) (S (R p x y)) _ _ (hrl _ _ _ (by omega)) (u8qt x) (by rw [hyo]; exact u8nf o) hszs hs3 hq (head_l (.own x p) 3 _ rfl) rfl hF hI hH hB hK hF2 hI2 (conv2 o x) (conv2d o x) (conv2g o x) hBo hFs hR1 w
            rw [B_S _ _ (.own y (R p x y)) rfl] at this
            exact this
          · have hRB : RB p x o x = R (R p x y) o x := by unfold RB; rw [← hy, if_neg hyo, if_pos hc]
            have hR := ih (R p x y) o x (by rw [R_size]; omega) (R_okE _ _ ht.2 hyE) (by rw [R_len]; omega) hm
            rw [hRB, ← hy]
            have := tb_capO (S (.own x p)) _ (B [35, y, 46]) _ x y (B [o, x]) (S (R (R p x y) o x)) (S (R p x y)) _ _ (hrl _ _ _ (by rw [R_len]; omega)) (u8qt x) (u8n hyo) hszs hs3 hq (head_l (.own x p) 3 _ rfl) rfl hF hI hH hB hK hF2 hI2 (conv2 o x) (conv2d o x) (conv2g o x) hBo hFs hR1 hR w
            rw [B_S _ _ (.own y (R (R p x y) o x)) rfl] at this
            exact this
        · rw [decide_eq_false hfp] at hI2
          have hc : ¬ (x = x ∧ o ∈ p.free) := fun h => hfp h.2
          have hX : capX p x o x = x := by unfold capX; rw [if_neg hc]
          have hRB : RB p x o x = R p o x := by unfold RB; rw [hX, if_neg (fun h => e h.symm), if_neg hc]
          have hR := ih p o x (by omega) ht.2 (by omega) hm
          rw [← hx'] at hR
          rw [hX, hRB]
          have := tb_noO (S (.own x p)) _ (B [35, x, 46]) _ x (S (R p o x)) _ (hrl _ _ _ (by omega)) (u8qt x) (u8n (fun h => e h.symm)) hszs hs3 hq (head_l (.own x p) 3 _ rfl) rfl hF hI hH hB hK hF2 hI2 hR w
          rw [B_S _ _ (.own x (R p o x)) rfl] at this
          exact this
      · have hc : ¬ (x = m ∧ o ∈ p.free) := fun h => hxm h.1
        have hX : capX p x o m = x := by unfold capX; rw [if_neg hc]
        by_cases hxo : x = o
        · subst hxo
          have hRB : RB p x x m = p := by unfold RB; rw [hX, if_pos rfl, if_neg hc]
          rw [hX, hRB]
          have := tb_skipO (S (.own x p)) _ (B [35, x, 46]) _ x (u8q hxm) (u8nf x) hszs hs3 hq (head_l (.own x p) 3 _ rfl) rfl hF hI hH hB hK w
          rw [hx', B_S _ _ (.own x p) rfl] at this
          exact this
        · have hRB : RB p x o m = R p o m := by unfold RB; rw [hX, if_neg hxo, if_neg hc]
          have hR := ih p o m (by omega) ht.2 (by omega) hm
          rw [← hx'] at hR
          rw [hX, hRB]
          have := tb_renO (S (.own x p)) _ (B [35, x, 46]) _ _ x (S (R p o m)) (hrl _ _ _ (by omega)) (u8q hxm) (u8n hxo) hszs hs3 hq (head_l (.own x p) 3 _ rfl) rfl hF hI hH hB hK hR w
          rw [B_S _ _ (.own x (R p o m)) rfl] at this
          exact this

end Go.Proofs.YtmfmagfgcdaeeaaGreat.T1

/- The threads of a level gathered: in the specification. -/
namespace Go.Proofs.YtmfmagfgcdaeeaaGreat.T1
open Go.RowKit
set_option maxRecDepth 100000
set_option linter.unusedVariables false
set_option linter.unusedSimpArgs false

/-- Behind the call only two blocks, of the old ones, may have turned. -/
structure Two (b : Nat) (r : Option Nat) (w w' : World) : Prop where
  os : w'.os = w.os
  tape : w'.tape = w.tape
  output : w'.output = w.output
  size : w.heap.size ≤ w'.heap.size
  block : ∀ k, k < w.heap.size → k ≠ b → some k ≠ r → w'.heap[k]? = w.heap[k]?
theorem Two.of_below {b : Nat} {r : Option Nat} {u v : World} (h : Below u.heap.size u v) : Two b r u v := ⟨h.os, h.tape, h.output, h.size, fun k hk _ _ => h.block k hk⟩
theorem Two.trans {b : Nat} {r r' : Option Nat} {u v w : World} (h : Two b r u v) (k : Two b r' v w) (hr : r' = r ∨ ∃ m, r' = some m ∧ u.heap.size ≤ m) : Two b r u w :=
  ⟨k.os.trans h.os, k.tape.trans h.tape, k.output.trans h.output, Nat.le_trans h.size k.size, fun i hi hb hn => (k.block i (Nat.lt_of_lt_of_le hi h.size) hb (by
    rcases hr with e | ⟨m, e, hm⟩
    · rw [e]; exact hn
    · rw [e]; intro e2; cases e2; omega)).trans (h.block i hi hb hn)⟩
theorem Two.set {b : Nat} {r : Option Nat} {u v : World} (h : Two b r u v) (o : Nat) (x : Value) : Two b r u (v.setCell ⟨b, o, none⟩ x) :=
  ⟨h.os, h.tape, h.output, Nat.le_trans h.size (by simp [World.setCell]), fun k hk hb hn => (Below.heap_setCell _ _ _ _ hb).trans (h.block k hk hb hn)⟩
theorem Two.grown {b : Nat} {r : Option Nat} {u v w : World} (h : Two b r u v) (g : v.grownBy w r) : Two b r u w :=
  ⟨g.os.trans h.os, g.tape.trans h.tape, g.output.trans h.output, Nat.le_trans h.size g.size, fun k hk hb hn => (g.block k (Nat.lt_of_lt_of_le hk h.size) hn).trans (h.block k hk hb hn)⟩
theorem Two.alloc {b : Nat} {r : Option Nat} {u v : World} (h : Two b r u v) (o : Obj) : Two b r u (v.alloc o) :=
  ⟨h.os, h.tape, h.output, Nat.le_trans h.size (by simp), fun k hk hb hn => (Below.heap_alloc _ _ _ (Nat.lt_of_lt_of_le hk h.size)).trans (h.block k hk hb hn)⟩
theorem Two.drew {b : Nat} {r : Option Nat} {u v : World} (h : Two b r u v) : Two b r u v.drew := ⟨h.os, h.tape, h.output, h.size, h.block⟩
/-- Block b holds the names at the front and the row of the threads. -/
def LvAt (w : World) (b : Nat) (F : ByteArray) (v : Value) : Prop := w.heap[b]? = some (.cells #[.string F, v] 174 (0, 0))
theorem LvAt.c0 {w : World} {b : Nat} {F : ByteArray} {v : Value} (h : LvAt w b F v) : w.cell? ⟨b, 0, none⟩ = some (.string F) := by unfold LvAt at h; simp [World.cell?, h]
theorem LvAt.c1 {w : World} {b : Nat} {F : ByteArray} {v : Value} (h : LvAt w b F v) : w.cell? ⟨b, 1, none⟩ = some v := by unfold LvAt at h; simp [World.cell?, h]
theorem LvAt.f0 {w : World} {b : Nat} {F : ByteArray} {v : Value} (h : LvAt w b F v) : w.frozen? ⟨b, 0, none⟩ = false := by unfold LvAt at h; simp [World.frozen?, h]
theorem LvAt.f1 {w : World} {b : Nat} {F : ByteArray} {v : Value} (h : LvAt w b F v) : w.frozen? ⟨b, 1, none⟩ = false := by unfold LvAt at h; simp [World.frozen?, h]
theorem LvAt.lt {w : World} {b : Nat} {F : ByteArray} {v : Value} (h : LvAt w b F v) : b < w.heap.size := lt_of_block h
theorem LvAt.below {w w' : World} {b : Nat} {F : ByteArray} {v : Value} (h : LvAt w b F v) (k : Below w.heap.size w w') : LvAt w' b F v := (k.block b h.lt).trans h
end Go.Proofs.YtmfmagfgcdaeeaaGreat.T1

/- The threads of a level gathered, for every process: in the specification. -/
namespace Go.Proofs.YtmfmagfgcdaeeaaGreat.T1
open Go.RowKit
set_option maxRecDepth 100000
set_option linter.unusedVariables false
set_option linter.unusedSimpArgs false

end Go.Proofs.YtmfmagfgcdaeeaaGreat.T1
