/- Texts of the proof, put together: Gn, Gk, Ge, Yp. No conditions. -/
import Derived.Test.YtpabmidjfpabdaaGreatHad
import Derived.Test.YtpabmidjfpabdaaGreatHaq

/- Processes with few free names at each place: renaming keeps to letters, and renaming back gives an alike one. No conditions. -/
namespace Go.Proofs.YtpabmidjfpabdaaGreat.T1

/-- At each place at most k names are free. -/
def Tm.few (k : Nat) : Tm → Prop
  | .nil => True
  | .snd a b p => (Tm.snd a b p).free.length ≤ k ∧ p.few k
  | .rcv a x p => (Tm.rcv a x p).free.length ≤ k ∧ p.few k
  | .tau p => (Tm.tau p).free.length ≤ k ∧ p.few k
  | .sum p q => (Tm.sum p q).free.length ≤ k ∧ p.few k ∧ q.few k
  | .par p q => (Tm.par p q).free.length ≤ k ∧ p.few k ∧ q.few k
  | .own x p => (Tm.own x p).free.length ≤ k ∧ p.few k
  | .mat a b p => (Tm.mat a b p).free.length ≤ k ∧ p.few k
  | .rep p => (Tm.rep p).free.length ≤ k ∧ p.few k
theorem few_len {k : Nat} {t : Tm} (h : t.few k) : t.free.length ≤ k := by
  cases t <;> first | exact h.1 | exact Nat.zero_le _
theorem fresh_letter {s : List UInt8} (hs : Srt s) (hl : s.length ≤ 25) : nmL (fresh s) = true := by
  rcases fresh_oth s with ⟨c, r, h1, h2, h3⟩ | ⟨h1, h2⟩
  · rw [h2]
    have : c ∈ othL s := by rw [h1]; simp
    have := ((mem_oth s c).1 this).1
    simp [nmL]; exact this
  · exfalso
    have := srt_sub (l := lowL) (m := s) lowL_srt hs (fun z hz => by
      by_cases hm : z ∈ s
      · exact hm
      · have : z ∈ othL s := (mem_oth s z).2 ⟨(mem_low z).1 hz, hm⟩
        rw [h1] at this; cases this)
    have h2 : lowL.length = 26 := by unfold lowL; simp
    omega
theorem R_len_free {t : Tm} {o m : UInt8} (hr : Roomy t o m) : (R t o m).free.length ≤ t.free.length := by
  by_cases h : o = m ∨ o ∉ t.free
  · rw [R_same _ _ _ h]; exact Nat.le_refl _
  · have hne : o ≠ m := fun e => h (.inl e)
    have hof : o ∈ t.free := Decidable.byContradiction fun e => h (.inr e)
    have h1 := srt_sub (l := (R t o m).free) (m := addL (t.free.erase o) m) (srt_free _) (srt_addL (List.Pairwise.sublist List.erase_sublist (srt_free t)) m) (fun z hz => by
      rw [R_free _ t o m (Nat.le_refl _) hr hne] at hz
      rw [mem_addL]
      rcases hz with ⟨hz, hn⟩ | ⟨rfl, _⟩
      · exact .inl ((List.mem_erase_of_ne hn).2 hz)
      · exact .inr rfl)
    have h2 := addL_len m (t.free.erase o)
    have h3 := List.length_erase_of_mem hof
    have h4 := List.length_pos_of_mem hof
    omega
theorem two_len (l : List UInt8) (o m : UInt8) : (bothL l [o, m]).length ≤ l.length + 2 := by
  have := addL_len m (addL l o)
  have := addL_len o l
  show (addL (addL l o) m).length ≤ _
  omega
theorem roomy_few {k : Nat} (hk : k ≤ 23) {t : Tm} (h : t.few k) (hb : t.bdp ≤ 60) (o m : UInt8) : Roomy t o m := by
  unfold Roomy
  have := two_len t.free o m
  have := few_len h
  omega
theorem R_few (k : Nat) (hk : k ≤ 23) (n : Nat) : ∀ (t : Tm) (o m : UInt8), t.size ≤ n → t.few k → t.bdp ≤ 60 → nmL o = true → nmL m = true → t.ok nmL = true → (R t o m).few k ∧ (R t o m).ok nmL = true := by
  induction n with
  | zero => intro t o m h; have := size_pos t; omega
  | succ n ih =>
    intro t o m hn hf hd ho hm hok
    by_cases h : o = m ∨ o ∉ t.free
    · rw [R_same _ _ _ h]; exact ⟨hf, hok⟩
    · have hr := roomy_few hk hf hd o m
      have hl := Nat.le_trans (R_len_free hr) (few_len hf)
      have hb : ∀ (p : Tm) (x : UInt8), p.size ≤ n → p.few k → p.bdp ≤ 60 → nmL x = true → p.ok nmL = true → (RB p x o m).few k ∧ (RB p x o m).ok nmL = true ∧ nmL (capX p x o m) = true := by
        intro p x h1 h2 h3 h4 h5
        have hc : nmL (capX p x o m) = true := by
          unfold capX; split
          · refine fresh_letter (srt_bothL _ (srt_free p)) ?_
            have := two_len p.free o m
            have := few_len h2
            omega
          · exact h4
        have hq : (if x = m ∧ o ∈ p.free then R p x (capX p x o m) else p).few k ∧ (if x = m ∧ o ∈ p.free then R p x (capX p x o m) else p).ok nmL = true ∧ (if x = m ∧ o ∈ p.free then R p x (capX p x o m) else p).size ≤ n ∧ (if x = m ∧ o ∈ p.free then R p x (capX p x o m) else p).bdp ≤ 60 := by
          split
          · have := ih p x (capX p x o m) h1 h2 h3 h4 hc h5
            exact ⟨this.1, this.2, by rw [R_size]; exact h1, by rw [R_bdp _ _ _ _ (Nat.le_refl _)]; exact h3⟩
          · exact ⟨h2, h5, h1, h3⟩
        unfold RB
        split
        · exact ⟨hq.1, hq.2.1, hc⟩
        · have := ih _ o m hq.2.2.1 hq.1 hq.2.2.2 ho hm hq.2.1
          exact ⟨this.1, this.2, hc⟩
      have sw' : ∀ c, nmL c = true → nmL (sw c o m) = true := fun c hc => sw_ok hc hm
      cases t with
      | nil => exact absurd (.inr (by simp [Tm.free])) h
      | snd a b p =>
        simp only [Tm.size, Tm.bdp, Tm.ok, Bool.and_eq_true, Tm.few] at hn hd hok hf
        have := ih p o m (by omega) hf.2 (by omega) ho hm hok.2
        rw [R_snd h] at hl ⊢
        exact ⟨⟨hl, this.1⟩, by simp only [Tm.ok, Bool.and_eq_true]; exact ⟨⟨sw' _ hok.1.1, sw' _ hok.1.2⟩, this.2⟩⟩
      | rcv a x p =>
        simp only [Tm.size, Tm.bdp, Tm.ok, Bool.and_eq_true, Tm.few] at hn hd hok hf
        have := hb p x (by omega) hf.2 (by omega) hok.1.2 hok.2
        rw [R_rcv h] at hl ⊢
        exact ⟨⟨hl, this.1⟩, by simp only [Tm.ok, Bool.and_eq_true]; exact ⟨⟨sw' _ hok.1.1, this.2.2⟩, this.2.1⟩⟩
      | tau p =>
        simp only [Tm.size, Tm.bdp, Tm.ok, Tm.few] at hn hd hok hf
        have := ih p o m (by omega) hf.2 (by omega) ho hm hok
        rw [R_tau h] at hl ⊢
        exact ⟨⟨hl, this.1⟩, by simp only [Tm.ok]; exact this.2⟩
      | sum p q =>
        simp only [Tm.size, Tm.bdp, Tm.ok, Bool.and_eq_true, Tm.few] at hn hd hok hf
        have h1 := ih p o m (by omega) hf.2.1 (by omega) ho hm hok.1
        have h2 := ih q o m (by omega) hf.2.2 (by omega) ho hm hok.2
        rw [R_sum h] at hl ⊢
        exact ⟨⟨hl, h1.1, h2.1⟩, by simp only [Tm.ok, Bool.and_eq_true]; exact ⟨h1.2, h2.2⟩⟩
      | par p q =>
        simp only [Tm.size, Tm.bdp, Tm.ok, Bool.and_eq_true, Tm.few] at hn hd hok hf
        have h1 := ih p o m (by omega) hf.2.1 (by omega) ho hm hok.1
        have h2 := ih q o m (by omega) hf.2.2 (by omega) ho hm hok.2
        rw [R_par h] at hl ⊢
        exact ⟨⟨hl, h1.1, h2.1⟩, by simp only [Tm.ok, Bool.and_eq_true]; exact ⟨h1.2, h2.2⟩⟩
      | own x p =>
        simp only [Tm.size, Tm.bdp, Tm.ok, Bool.and_eq_true, Tm.few] at hn hd hok hf
        have := hb p x (by omega) hf.2 (by omega) hok.1 hok.2
        rw [R_own h] at hl ⊢
        exact ⟨⟨hl, this.1⟩, by simp only [Tm.ok, Bool.and_eq_true]; exact ⟨this.2.2, this.2.1⟩⟩
      | mat a b p =>
        simp only [Tm.size, Tm.bdp, Tm.ok, Bool.and_eq_true, Tm.few] at hn hd hok hf
        have := ih p o m (by omega) hf.2 (by omega) ho hm hok.2
        rw [R_mat h] at hl ⊢
        exact ⟨⟨hl, this.1⟩, by simp only [Tm.ok, Bool.and_eq_true]; exact ⟨⟨sw' _ hok.1.1, sw' _ hok.1.2⟩, this.2⟩⟩
      | rep p =>
        simp only [Tm.size, Tm.bdp, Tm.ok, Tm.few] at hn hd hok hf
        have := ih p o m (by omega) hf.2 (by omega) ho hm hok
        rw [R_rep h] at hl ⊢
        exact ⟨⟨hl, this.1⟩, by simp only [Tm.ok]; exact this.2⟩

/-! ### renaming back -/
theorem can_back {t : Tm} {o m : UInt8} (hr : Roomy t o m) (hr2 : Roomy (R t o m) m o) (hm : m ∉ t.free) (ns : List UInt8) : can (R (R t o m) m o) id ns = can t id ns := by
  by_cases e : o = m
  · subst e; rw [R_same t _ _ (.inl rfl), R_same t _ _ (.inl rfl)]
  · rw [can_R _ (R t o m) m o id ns (Nat.le_refl _) hr2 (.inl (fun h => by
      rw [R_free _ t o m (Nat.le_refl _) hr e] at h
      rcases h with ⟨_, h⟩ | ⟨h, _⟩
      · exact h rfl
      · exact e h))]
    rw [can_R _ t o m _ ns (Nat.le_refl _) hr (.inl hm)]
    refine can_congr t _ _ ns fun z hz => ?_
    show upd (upd id m o) o (upd id m o m) z = z
    unfold upd
    have : z ≠ m := fun e => hm (e ▸ hz)
    simp
    grind

/-! ### the letters of what is drawn -/
def nm5 (c : UInt8) : Bool := c == 97 || c == 98 || c == 99 || c == 120 || c == 121
def AB (c : UInt8) : Bool := nm5 c || !nmL c
theorem ok_AB {t : Tm} (h : t.ok nmL = true) (ha : ∀ c ∈ t.pr, AB c = true) : t.ok nm5 = true := by
  have key : ∀ c, nmL c = true → AB c = true → nm5 c = true := fun c h1 h2 => by unfold AB at h2; rw [h1] at h2; simpa using h2
  induction t with
  | nil => rfl
  | snd a b p ih =>
    simp only [Tm.ok, Bool.and_eq_true, Tm.pr, List.mem_cons] at *
    exact ⟨⟨key _ h.1.1 (ha _ (by simp)), key _ h.1.2 (ha _ (by simp))⟩, ih h.2 (fun c hc => ha _ (by simp [hc]))⟩
  | rcv a b p ih =>
    simp only [Tm.ok, Bool.and_eq_true, Tm.pr, List.mem_cons] at *
    exact ⟨⟨key _ h.1.1 (ha _ (by simp)), key _ h.1.2 (ha _ (by simp))⟩, ih h.2 (fun c hc => ha _ (by simp [hc]))⟩
  | mat a b p ih =>
    simp only [Tm.ok, Bool.and_eq_true, Tm.pr, List.mem_cons] at *
    exact ⟨⟨key _ h.1.1 (ha _ (by simp)), key _ h.1.2 (ha _ (by simp))⟩, ih h.2 (fun c hc => ha _ (by simp [hc]))⟩
  | own b p ih =>
    simp only [Tm.ok, Bool.and_eq_true, Tm.pr, List.mem_cons] at *
    exact ⟨key _ h.1 (ha _ (by simp)), ih h.2 (fun c hc => ha _ (by simp [hc]))⟩
  | tau p ih =>
    simp only [Tm.ok, Tm.pr, List.mem_cons] at *
    exact ih h (fun c hc => ha _ (by simp [hc]))
  | rep p ih =>
    simp only [Tm.ok, Tm.pr, List.mem_cons] at *
    exact ih h (fun c hc => ha _ (by simp [hc]))
  | sum p q ih ih2 =>
    simp only [Tm.ok, Bool.and_eq_true, Tm.pr, List.mem_cons, List.mem_append] at *
    exact ⟨ih h.1 (fun c hc => ha _ (by simp [hc])), ih2 h.2 (fun c hc => ha _ (by simp [hc]))⟩
  | par p q ih ih2 =>
    simp only [Tm.ok, Bool.and_eq_true, Tm.pr, List.mem_cons, List.mem_append] at *
    exact ⟨ih h.1 (fun c hc => ha _ (by simp [hc])), ih2 h.2 (fun c hc => ha _ (by simp [hc]))⟩
theorem free_in {nm : UInt8 → Bool} (t : Tm) (h : t.ok nm = true) : ∀ z ∈ t.free, nm z = true := by
  induction t with
  | nil => intro z hz; simp [Tm.free] at hz
  | snd a b p ih => intro z hz; simp only [Tm.ok, Bool.and_eq_true] at h; rw [mf_snd] at hz; have := ih h.2; grind
  | rcv a b p ih => intro z hz; simp only [Tm.ok, Bool.and_eq_true] at h; rw [mf_rcv] at hz; have := ih h.2; grind
  | mat a b p ih => intro z hz; simp only [Tm.ok, Bool.and_eq_true] at h; rw [mf_mat] at hz; have := ih h.2; grind
  | own b p ih => intro z hz; simp only [Tm.ok, Bool.and_eq_true] at h; rw [mf_own] at hz; have := ih h.2; grind
  | tau p ih => intro z hz; simp only [Tm.ok] at h; rw [mf_tau] at hz; exact ih h z hz
  | rep p ih => intro z hz; simp only [Tm.ok] at h; rw [mf_rep] at hz; exact ih h z hz
  | sum p q ih ih2 => intro z hz; simp only [Tm.ok, Bool.and_eq_true] at h; rw [mf_sum] at hz; have := ih h.1; have := ih2 h.2; grind
  | par p q ih ih2 => intro z hz; simp only [Tm.ok, Bool.and_eq_true] at h; rw [mf_par] at hz; have := ih h.1; have := ih2 h.2; grind
theorem len5 {t : Tm} (h : t.ok nm5 = true) : t.free.length ≤ 5 := by
  have := srt_sub (l := t.free) (m := [97, 98, 99, 120, 121]) (srt_free t) (by unfold Srt; decide) (fun z hz => by
    have := free_in t h z hz
    simp [nm5] at this ⊢
    grind)
  simpa using this
theorem few5 (t : Tm) (h : t.ok nm5 = true) : t.few 5 := by
  induction t with
  | nil => trivial
  | snd a b p ih => exact ⟨len5 h, ih (by simp only [Tm.ok, Bool.and_eq_true] at h; exact h.2)⟩
  | rcv a b p ih => exact ⟨len5 h, ih (by simp only [Tm.ok, Bool.and_eq_true] at h; exact h.2)⟩
  | mat a b p ih => exact ⟨len5 h, ih (by simp only [Tm.ok, Bool.and_eq_true] at h; exact h.2)⟩
  | own b p ih => exact ⟨len5 h, ih (by simp only [Tm.ok, Bool.and_eq_true] at h; exact h.2)⟩
  | tau p ih => exact ⟨len5 h, ih (by simp only [Tm.ok] at h; exact h)⟩
  | rep p ih => exact ⟨len5 h, ih (by simp only [Tm.ok] at h; exact h)⟩
  | sum p q ih ih2 => exact ⟨len5 h, ih (by simp only [Tm.ok, Bool.and_eq_true] at h; exact h.1), ih2 (by simp only [Tm.ok, Bool.and_eq_true] at h; exact h.2)⟩
  | par p q ih ih2 => exact ⟨len5 h, ih (by simp only [Tm.ok, Bool.and_eq_true] at h; exact h.1), ih2 (by simp only [Tm.ok, Bool.and_eq_true] at h; exact h.2)⟩
end Go.Proofs.YtpabmidjfpabdaaGreat.T1

/- Choices that are drawn: numbers below a bound, elements of lists, names. No conditions. -/
namespace Go.Proofs.YtpabmidjfpabdaaGreat.T1
open Go.RowKit
set_option maxRecDepth 100000
set_option linter.unusedVariables false
set_option linter.unusedSimpArgs false

set_option maxHeartbeats 1000000 in
theorem pick_any (c k n : Nat) (hk : k ≤ 900000) (hn : n ≤ 1000000) (w : World) (hC : Cur w c k) : Calls Tryz.prog 45 #[.pointer (some ⟨c, 0, none⟩), .int .i64 (n : Int)] w (Dr (IsUpTo (n + 1 - (if 1 ≤ n then 1 else 0))) c (k + 2) w) := by
  have HC := Lib.hid hC
  clear hC
  by_cases h1 : n ≤ 1
  · have h2 : decide ((n : Int) ≤ 1) = true := by simp; omega
    have hn1 : 0 < n + 1 - (if 1 ≤ n then 1 else 0) := by split <;> omega
    generalize n + 1 - (if 1 ≤ n then 1 else 0) = N at hn1 ⊢
    go_enter Tryz.func45, Tryz.ntmps45
    go_wp2_with fail
    go_ret
    exact ⟨.int .i64 0, rfl, ⟨0, hn1, rfl⟩, HC.out.mono (by omega), Only.refl _ _⟩
  · have h2 : decide ((n : Int) ≤ 1) = false := by simp; omega
    have hN : n + 1 - (if 1 ≤ n then 1 else 0) = n := by rw [if_pos (by omega)]; omega
    rw [hN]
    clear hN
    have H := Lib.hid (drNext_any c k (by omega) w HC.out)
    by_cases h3 : 200 < n
    · have h4 : decide (200 < (n : Int)) = true := by simp; omega
      go_enter Tryz.func45, Tryz.ntmps45
      go_wp2_with fail
      refine H.out.mono ?_
      rintro e w1 ⟨v, rfl, ⟨r, hr, rfl⟩, C1, O1⟩
      have H2 := Lib.hid (drNext_any c (k + 1) (by omega) w1 C1)
      have O1' := Lib.hid O1
      have hw1 : IntKind.i64.wrap ((r : Int) * 256) = (r : Int) * 256 := by rw [IntKind.wrap_i64] <;> omega
      clear C1 O1
      go_wp2_with fail
      refine H2.out.mono ?_
      rintro e w2 ⟨v, rfl, ⟨r2, hr2, rfl⟩, C2, O2⟩
      have hw2 : IntKind.i64.wrap ((r : Int) * 256 + (r2 : Int)) = (r : Int) * 256 + (r2 : Int) := by rw [IntKind.wrap_i64] <;> omega
      have hnz : (n : Int) ≠ 0 := by omega
      have C2' := Lib.hid C2
      have O2' := Lib.hid O2
      clear C2 O2
      go_wp2_with fail
      go_ret
      refine ⟨.int .i64 (((r : Int) * 256 + (r2 : Int)) % (n : Int)), rfl, ⟨(r * 256 + r2) % n, Nat.mod_lt _ (by omega), by simp⟩, C2'.out.mono (by omega), O1'.out.trans O2'.out⟩
    · have h4 : decide (200 < (n : Int)) = false := by simp; omega
      go_enter Tryz.func45, Tryz.ntmps45
      go_wp2_with fail
      refine H.out.mono ?_
      rintro e w1 ⟨v, rfl, ⟨r, hr, rfl⟩, C1, O1⟩
      have C1' := Lib.hid C1
      have O1' := Lib.hid O1
      have hnz : (n : Int) ≠ 0 := by omega
      clear C1 O1
      go_wp2_with fail
      go_ret
      exact ⟨.int .i64 ((r : Int) % (n : Int)), rfl, ⟨r % n, Nat.mod_lt _ (by omega), by simp⟩, C1'.out.mono (by omega), O1'.out⟩
theorem pick_lt (c k n : Nat) (h0 : 1 ≤ n) (hk : k ≤ 900000) (hn : n ≤ 1000000) (w : World) (hC : Cur w c k) : Calls Tryz.prog 45 #[.pointer (some ⟨c, 0, none⟩), .int .i64 (n : Int)] w (Dr (IsUpTo n) c (k + 2) w) := by
  have h := pick_any c k n hk hn w hC
  rw [if_pos h0] at h
  exact h
def IsBool (v : Value) : Prop := ∃ b : Bool, v = .bool b
theorem one_any (c k n : Nat) (h0 : 1 ≤ n) (hk : k ≤ 900000) (hn : n ≤ 1000000) (w : World) (hC : Cur w c k) : Calls Tryz.prog 23 #[.pointer (some ⟨c, 0, none⟩), .int .i64 (n : Int)] w (Dr IsBool c (k + 2) w) := by
  have H := Lib.hid (pick_lt c k n h0 hk hn w hC)
  clear hC
  go_enter Tryz.func23, Tryz.ntmps23
  go_wp2_with fail
  refine H.out.mono ?_
  rintro e w1 ⟨v, rfl, ⟨r, hr, rfl⟩, C1, O1⟩
  have C1' := Lib.hid C1
  have O1' := Lib.hid O1
  clear C1 O1
  go_wp2_with fail
  go_ret
  exact ⟨.bool ((r : Int) == 0), rfl, ⟨_, rfl⟩, C1'.out, O1'.out⟩
/-- A text of at most n bytes over the letters and signs of what is drawn. -/
def Ab (n : Nat) (v : Value) : Prop := ∃ s : ByteArray, v = .string s ∧ s.size ≤ n ∧ ∀ b ∈ s.data.toList, AB b = true
def IsNm (v : Value) : Prop := ∃ ch : UInt8, nm5 ch = true ∧ v = .string (one ch)
set_option maxHeartbeats 1000000 in
theorem of_any (P : Value → Prop) (c k g m : Nat) (h0 : 1 ≤ m) (hk : k ≤ 900000) (hn : m ≤ 1000000) (w : World) (hg : g ≠ c) (hx : ∀ j, j < m → ∃ s : ByteArray, P (.string s) ∧ w.cell? ⟨g, j, none⟩ = some (.string s)) (hC : Cur w c k) :
    Calls Tryz.prog 24 #[.pointer (some ⟨c, 0, none⟩), .slice (some ⟨g, 0, none⟩) m m] w (Dr P c (k + 2) w) := by
  have H := Lib.hid (pick_lt c k m h0 hk hn w hC)
  have HX := Lib.hid hx
  clear hC hx
  go_enter Tryz.func24, Tryz.ntmps24
  go_wp2_with fail
  refine H.out.mono ?_
  rintro e w1 ⟨v, rfl, ⟨r, hr, rfl⟩, C1, O1⟩
  obtain ⟨s, hP, hc⟩ := HX.out r hr
  have hc1 : w1.cell? ⟨g, r, none⟩ = some (.string s) := by
    rw [← hc]
    unfold World.cell?
    rw [O1.block g (by
      unfold World.cell? at hc
      rcases h : w.heap[g]? with _ | o
      · rw [h] at hc; cases hc
      · exact lt_of_block h) hg]
  have C1' := Lib.hid C1
  have O1' := Lib.hid O1
  have hP' := Lib.hid hP
  have hr' : (r : Int) < (m : Int) := by omega
  clear C1 O1 hP hc
  go_wp2_with fail
  go_ret
  exact ⟨.string s, rfl, hP'.out, C1'.out, O1'.out⟩
theorem alloc_cell {w : World} {cs : Array Value} {T : TypeId} {j : Nat} {v : Value} (h : cs[j]? = some v) : (w.alloc (.cells cs T)).cell? ⟨w.heap.size, j, none⟩ = some v := by
  have hb : (w.alloc (.cells cs T)).heap[w.heap.size]? = some (.cells cs T (0, 0)) := by
    show (w.heap.push _)[w.heap.size]? = _
    rw [Array.getElem?_push_size]
  unfold World.cell?
  simp only [hb]
  exact h
set_option maxHeartbeats 1000000 in
theorem drName_any (c k : Nat) (hk : k ≤ 900000) (w : World) (hC : Cur w c k) : Calls Tryz.prog 22 #[.pointer (some ⟨c, 0, none⟩)] w (Dr IsNm c (k + 2) w) := by
  have HC := Lib.hid hC
  clear hC
  go_enter Tryz.func22, Tryz.ntmps22
  go_wp2_with fail
  refine (of_any IsNm c k w.heap.size 7 (by decide) hk (by decide) _ (Nat.ne_of_gt HC.out.lt) ?_ (HC.out.below ((Below.refl _ _).alloc (Nat.le_refl _) _))).mono ?_
  · intro j hj
    rcases (show j = 0 ∨ j = 1 ∨ j = 2 ∨ j = 3 ∨ j = 4 ∨ j = 5 ∨ j = 6 from by omega) with rfl | rfl | rfl | rfl | rfl | rfl | rfl
    · exact ⟨_, ⟨97, by decide, rfl⟩, alloc_cell rfl⟩
    · exact ⟨_, ⟨98, by decide, rfl⟩, alloc_cell rfl⟩
    · exact ⟨_, ⟨99, by decide, rfl⟩, alloc_cell rfl⟩
    · exact ⟨_, ⟨97, by decide, rfl⟩, alloc_cell rfl⟩
    · exact ⟨_, ⟨98, by decide, rfl⟩, alloc_cell rfl⟩
    · exact ⟨_, ⟨120, by decide, rfl⟩, alloc_cell rfl⟩
    · exact ⟨_, ⟨121, by decide, rfl⟩, alloc_cell rfl⟩
  · rintro e w1 ⟨v, rfl, ⟨ch, hch, rfl⟩, C1, O1⟩
    have C1' := Lib.hid C1
    have O1' := Lib.hid ((Only.refl c w).alloc _ |>.trans O1)
    clear C1 O1
    go_wp2_with fail
    go_ret
    exact ⟨.string (one ch), rfl, ⟨ch, hch, rfl⟩, C1'.out, O1'.out⟩
end Go.Proofs.YtpabmidjfpabdaaGreat.T1

/- The processes that are drawn: texts over few letters, of bounded length. No conditions. -/
namespace Go.Proofs.YtpabmidjfpabdaaGreat.T1
open Go.RowKit
set_option maxRecDepth 100000
set_option linter.unusedVariables false
set_option linter.unusedSimpArgs false

theorem ab_mono {n m : Nat} {v : Value} (h : Ab n v) (hm : n ≤ m) : Ab m v := by
  obtain ⟨s, e, h1, h2⟩ := h
  exact ⟨s, e, by omega, h2⟩
theorem ab_app {n m : Nat} {s t : ByteArray} (h : Ab n (.string s)) (k : Ab m (.string t)) : Ab (n + m) (.string (s ++ t)) := by
  obtain ⟨_, e, h1, h2⟩ := h
  obtain ⟨_, e2, k1, k2⟩ := k
  cases e; cases e2
  refine ⟨_, rfl, by rw [ByteArray.size_append]; omega, fun b hb => ?_⟩
  rw [ByteArray.data_append, Array.toList_append, List.mem_append] at hb
  rcases hb with hb | hb
  · exact h2 b hb
  · exact k2 b hb
theorem ab_lit (s : ByteArray) (n : Nat) (hn : s.size = n) (h : s.data.toList.all AB = true) : Ab n (.string s) := ⟨s, rfl, Nat.le_of_eq hn, fun b hb => List.all_eq_true.1 h b hb⟩
theorem ab_nm {ch : UInt8} (h : nm5 ch = true) : Ab 1 (.string (one ch)) := ⟨_, rfl, Nat.le_refl _, fun b hb => by
  have : b = ch := by simpa [one] using hb
  subst this; unfold AB; rw [h]; rfl⟩
theorem ab_of {n : Nat} {s : ByteArray} (h : Ab n (.string s)) : s.size ≤ n := by obtain ⟨_, e, h, _⟩ := h; cases e; exact h

def SureT (n : Nat) : Prop := ∀ (c k : Nat) (b : Bool) (w : World), k + 30 * n ≤ 100000 → Cur w c k → Calls Tryz.prog 50 #[.pointer (some ⟨c, 0, none⟩), .int .i64 (n : Int), .bool b] w (Dr (Ab (6 * n)) c (k + 30 * n) w)
def GrdT (n : Nat) : Prop := ∀ (c k : Nat) (b : Bool) (w : World), k + 30 * n + 12 ≤ 100000 → Cur w c k → Calls Tryz.prog 82 #[.pointer (some ⟨c, 0, none⟩), .int .i64 (n : Int), .bool b] w (Dr (Ab (6 * n)) c (k + (30 * n + 12)) w)

set_option maxHeartbeats 4000000 in
theorem sure_low (n : Nat) (h1 : 1 ≤ n) (h2 : n < 2) : SureT n := by
  intro c k b w hk hC
  have HC := Lib.hid hC
  have HK := Lib.hid hk
  have C0 := HC
  have O0 : Hid (Only c w w) := Only.refl c w
  clear hC hk
  have hd : decide ((n : Int) < 2) = true := by simp; omega
  have HN := Lib.hid h1
  clear h1 h2
  go_enter Tryz.func50, Tryz.ntmps50
  go_wp2_with fail
  go_ret
  exact ⟨.string ⟨#[48]⟩, rfl, ab_mono (ab_lit ⟨#[48]⟩ 1 rfl (by decide)) (by have := HN.out; omega), HC.out.mono (by omega), O0.out⟩

set_option maxHeartbeats 8000000 in
theorem sure_step (n m : Nat) (hn : 2 ≤ n) (hm : m = n - 1) (hs : ∀ j, 1 ≤ j → j < n → SureT j) (hg : ∀ j, 1 ≤ j → j < n → GrdT j) (hn25 : n ≤ 1000) : SureT n := by
  intro c k b w hk hC
  have HC := Lib.hid hC
  have HK := Lib.hid hk
  have C0 := HC
  have O0 : Hid (Only c w w) := Only.refl c w
  clear hC hk
  have hd : decide ((n : Int) < 2) = false := by simp; omega
  have hw1 : IntKind.i64.wrap ((n : Int) - 1) = (m : Int) := by rw [IntKind.wrap_i64] <;> omega
  have HM := Lib.hid (And.intro hm (And.intro hn hn25))
  have HS1 := Lib.hid (hs m (by omega) (by omega))
  have HSA := Lib.hid hs
  have HGA := Lib.hid hg
  clear hs hg hm hn hn25
  go_enter Tryz.func50, Tryz.ntmps50
  go_wp2_with fail
  refine (pick_lt c k 16 (by decide) (by have q0 := HK.out; have q1 := HM.out; omega) (by decide) _ C0.out).mono ?_
  rintro e w1 ⟨v, rfl, ⟨r1, l1, rfl⟩, c1, o1⟩
  have C1 := Lib.hid c1
  have O1 := Lib.hid (O0.out.trans o1)
  have R1 := Lib.hid l1
  clear l1
  clear c1 o1
  rcases (show (r1 < 4) ∨ (4 ≤ r1 ∧ r1 < 8) ∨ (r1 = 8) ∨ (8 < r1 ∧ r1 < 12 ∧ 2 < n) ∨ (8 < r1 ∧ r1 < 12 ∧ ¬ 2 < n) ∨ (r1 = 12) ∨ (r1 = 13) ∨ (r1 = 14 ∧ 2 < n) ∨ (r1 = 14 ∧ ¬ 2 < n) ∨ (r1 = 15 ∧ 2 < n) ∨ (r1 = 15 ∧ ¬ 2 < n) from by have := R1.out; have := HM.out; omega) with hb | hb | hb | hb | hb | hb | hb | hb | hb | hb | hb
  · have HB := Lib.hid hb
    have : decide ((r1 : Int) < 4) = true := by simp; omega
    clear hb
    go_wp2_with fail
    refine (drName_any c (k + 2) (by have q0 := HK.out; have q1 := HM.out; have q2 := R1.out; have q3 := HB.out; omega) _ C1.out).mono ?_
    rintro e w2 ⟨v, rfl, ⟨x2, n2, rfl⟩, c2, o2⟩
    have C2 := Lib.hid c2
    have O2 := Lib.hid (O1.out.trans o2)
    have N2 := Lib.hid n2
    have m2 : (one x2).size = 1 := rfl
    clear n2
    clear c2 o2
    go_wp2_with fail
    refine (drName_any c ((k + 2) + 2) (by have q0 := HK.out; have q1 := HM.out; have q2 := R1.out; have q3 := HB.out; omega) _ C2.out).mono ?_
    rintro e w3 ⟨v, rfl, ⟨x3, n3, rfl⟩, c3, o3⟩
    have C3 := Lib.hid c3
    have O3 := Lib.hid (O2.out.trans o3)
    have N3 := Lib.hid n3
    have m3 : (one x3).size = 1 := rfl
    clear n3
    clear c3 o3
    go_wp2_with fail
    refine (HS1.out c (((k + 2) + 2) + 2) b _ (by have q0 := HK.out; have q1 := HM.out; have q2 := R1.out; have q3 := HB.out; omega) C3.out).mono ?_
    rintro e w4 ⟨v, rfl, A4, c4, o4⟩
    have C4 := Lib.hid c4
    have O4 := Lib.hid (O3.out.trans o4)
    have S4 := Lib.hid A4
    obtain ⟨s4, rfl, _, _⟩ := A4
    have z4 : s4.size ≤ 100000 := by have := ab_of S4.out; have := HK.out; have := HM.out; omega
    clear c4 o4
    go_wp2_with fail
    go_ret
    exact ⟨.string ((((one x2 ++ ⟨#[33]⟩) ++ one x3) ++ ⟨#[46]⟩) ++ s4), rfl, ab_mono (ab_app (ab_app (ab_app (ab_app (ab_nm N2.out) (ab_lit ⟨#[33]⟩ 1 rfl (by decide))) (ab_nm N3.out)) (ab_lit ⟨#[46]⟩ 1 rfl (by decide))) S4.out) (by have q0 := HK.out; have q1 := HM.out; have q2 := R1.out; have q3 := HB.out; omega), C4.out.mono (by have q0 := HK.out; have q1 := HM.out; have q2 := R1.out; have q3 := HB.out; omega), O4.out⟩
  · have HB := Lib.hid hb
    have : decide ((r1 : Int) < 4) = false := by simp; omega
    have : decide ((r1 : Int) < 8) = true := by simp; omega
    clear hb
    go_wp2_with fail
    refine (drName_any c (k + 2) (by have q0 := HK.out; have q1 := HM.out; have q2 := R1.out; have q3 := HB.out; omega) _ C1.out).mono ?_
    rintro e w2 ⟨v, rfl, ⟨x2, n2, rfl⟩, c2, o2⟩
    have C2 := Lib.hid c2
    have O2 := Lib.hid (O1.out.trans o2)
    have N2 := Lib.hid n2
    have m2 : (one x2).size = 1 := rfl
    clear n2
    clear c2 o2
    go_wp2_with fail
    refine (drName_any c ((k + 2) + 2) (by have q0 := HK.out; have q1 := HM.out; have q2 := R1.out; have q3 := HB.out; omega) _ C2.out).mono ?_
    rintro e w3 ⟨v, rfl, ⟨x3, n3, rfl⟩, c3, o3⟩
    have C3 := Lib.hid c3
    have O3 := Lib.hid (O2.out.trans o3)
    have N3 := Lib.hid n3
    have m3 : (one x3).size = 1 := rfl
    clear n3
    clear c3 o3
    go_wp2_with fail
    refine (HS1.out c (((k + 2) + 2) + 2) b _ (by have q0 := HK.out; have q1 := HM.out; have q2 := R1.out; have q3 := HB.out; omega) C3.out).mono ?_
    rintro e w4 ⟨v, rfl, A4, c4, o4⟩
    have C4 := Lib.hid c4
    have O4 := Lib.hid (O3.out.trans o4)
    have S4 := Lib.hid A4
    obtain ⟨s4, rfl, _, _⟩ := A4
    have z4 : s4.size ≤ 100000 := by have := ab_of S4.out; have := HK.out; have := HM.out; omega
    clear c4 o4
    go_wp2_with fail
    go_ret
    exact ⟨.string ((((one x2 ++ ⟨#[63]⟩) ++ one x3) ++ ⟨#[46]⟩) ++ s4), rfl, ab_mono (ab_app (ab_app (ab_app (ab_app (ab_nm N2.out) (ab_lit ⟨#[63]⟩ 1 rfl (by decide))) (ab_nm N3.out)) (ab_lit ⟨#[46]⟩ 1 rfl (by decide))) S4.out) (by have q0 := HK.out; have q1 := HM.out; have q2 := R1.out; have q3 := HB.out; omega), C4.out.mono (by have q0 := HK.out; have q1 := HM.out; have q2 := R1.out; have q3 := HB.out; omega), O4.out⟩
  · have HB := Lib.hid hb
    have : decide ((r1 : Int) < 4) = false := by simp; omega
    have : decide ((r1 : Int) < 8) = false := by simp; omega
    have : ((r1 : Int) == 8) = true := by simp; omega
    clear hb
    go_wp2_with fail
    refine (HS1.out c (k + 2) b _ (by have q0 := HK.out; have q1 := HM.out; have q2 := R1.out; have q3 := HB.out; omega) C1.out).mono ?_
    rintro e w2 ⟨v, rfl, A2, c2, o2⟩
    have C2 := Lib.hid c2
    have O2 := Lib.hid (O1.out.trans o2)
    have S2 := Lib.hid A2
    obtain ⟨s2, rfl, _, _⟩ := A2
    have z2 : s2.size ≤ 100000 := by have := ab_of S2.out; have := HK.out; have := HM.out; omega
    clear c2 o2
    go_wp2_with fail
    go_ret
    exact ⟨.string (⟨#[126, 46]⟩ ++ s2), rfl, ab_mono (ab_app (ab_lit ⟨#[126, 46]⟩ 2 rfl (by decide)) S2.out) (by have q0 := HK.out; have q1 := HM.out; have q2 := R1.out; have q3 := HB.out; omega), C2.out.mono (by have q0 := HK.out; have q1 := HM.out; have q2 := R1.out; have q3 := HB.out; omega), O2.out⟩
  · have HB := Lib.hid hb
    have : decide ((r1 : Int) < 4) = false := by simp; omega
    have : decide ((r1 : Int) < 8) = false := by simp; omega
    have : ((r1 : Int) == 8) = false := by simp; omega
    have : decide ((r1 : Int) < 12) = true := by simp; omega
    have : decide (2 < (n : Int)) = true := by simp; omega
    clear hb
    obtain ⟨p, hp⟩ : ∃ p, p = n - 2 := ⟨_, rfl⟩
    have hw2 : IntKind.i64.wrap ((n : Int) - 2) = (p : Int) := by have q := HM.out; have q2 := HB.out; rw [IntKind.wrap_i64] <;> omega
    have HP := Lib.hid hp
    clear hp
    go_wp2_with fail
    refine (pick_lt c (k + 2) p (by have q0 := HK.out; have q1 := HM.out; have q2 := R1.out; have q3 := HB.out; have q4 := HP.out; omega) (by have q0 := HK.out; have q1 := HM.out; have q2 := R1.out; have q3 := HB.out; have q4 := HP.out; omega) (by have q0 := HK.out; have q1 := HM.out; have q2 := R1.out; have q3 := HB.out; have q4 := HP.out; omega) _ C1.out).mono ?_
    rintro e w2 ⟨v, rfl, ⟨r2, l2, rfl⟩, c2, o2⟩
    have C2 := Lib.hid c2
    have O2 := Lib.hid (O1.out.trans o2)
    have R2 := Lib.hid l2
    clear l2
    clear c2 o2
    obtain ⟨l, hl⟩ : ∃ l, l = 1 + r2 := ⟨_, rfl⟩
    obtain ⟨d, hd2⟩ : ∃ d, d = m - l := ⟨_, rfl⟩
    have HL := Lib.hid (And.intro hl hd2)
    have hw3 : IntKind.i64.wrap (1 + (r2 : Int)) = (l : Int) := by have q := HM.out; have q2 := R2.out; have q3 := HP.out; rw [IntKind.wrap_i64] <;> omega
    have hw4 : IntKind.i64.wrap ((m : Int) - (l : Int)) = (d : Int) := by have q := HM.out; have q2 := R2.out; have q3 := HP.out; have q4 := HB.out; rw [IntKind.wrap_i64] <;> omega
    have H1 := Lib.hid (HSA.out l (by have q0 := HK.out; have q1 := HM.out; have q2 := R1.out; have q3 := HB.out; have q4 := HP.out; have q5 := R2.out; have q6 := HL.out; omega) (by have q0 := HK.out; have q1 := HM.out; have q2 := R1.out; have q3 := HB.out; have q4 := HP.out; have q5 := R2.out; have q6 := HL.out; omega))
    have H2 := Lib.hid (HSA.out d (by have q0 := HK.out; have q1 := HM.out; have q2 := R1.out; have q3 := HB.out; have q4 := HP.out; have q5 := R2.out; have q6 := HL.out; omega) (by have q0 := HK.out; have q1 := HM.out; have q2 := R1.out; have q3 := HB.out; have q4 := HP.out; have q5 := R2.out; have q6 := HL.out; omega))
    clear hl hd2
    go_wp2_with fail
    refine (H1.out c ((k + 2) + 2) b _ (by have q0 := HK.out; have q1 := HM.out; have q2 := R1.out; have q3 := HB.out; have q4 := HP.out; have q5 := R2.out; have q6 := HL.out; omega) C2.out).mono ?_
    rintro e w3 ⟨v, rfl, A3, c3, o3⟩
    have C3 := Lib.hid c3
    have O3 := Lib.hid (O2.out.trans o3)
    have S3 := Lib.hid A3
    obtain ⟨s3, rfl, _, _⟩ := A3
    have z3 : s3.size ≤ 100000 := by have := ab_of S3.out; have := HK.out; have := HM.out; have := R2.out; have := HP.out; have := HL.out; omega
    clear c3 o3
    go_wp2_with fail
    refine (H2.out c (((k + 2) + 2) + 30 * l) b _ (by have q0 := HK.out; have q1 := HM.out; have q2 := R1.out; have q3 := HB.out; have q4 := HP.out; have q5 := R2.out; have q6 := HL.out; omega) C3.out).mono ?_
    rintro e w4 ⟨v, rfl, A4, c4, o4⟩
    have C4 := Lib.hid c4
    have O4 := Lib.hid (O3.out.trans o4)
    have S4 := Lib.hid A4
    obtain ⟨s4, rfl, _, _⟩ := A4
    have z4 : s4.size ≤ 100000 := by have := ab_of S4.out; have := HK.out; have := HM.out; have := R2.out; have := HP.out; have := HL.out; omega
    clear c4 o4
    go_wp2_with fail
    go_ret
    exact ⟨.string ((((⟨#[40]⟩ ++ s3) ++ ⟨#[38]⟩) ++ s4) ++ ⟨#[41]⟩), rfl, ab_mono (ab_app (ab_app (ab_app (ab_app (ab_lit ⟨#[40]⟩ 1 rfl (by decide)) S3.out) (ab_lit ⟨#[38]⟩ 1 rfl (by decide))) S4.out) (ab_lit ⟨#[41]⟩ 1 rfl (by decide))) (by have q0 := HK.out; have q1 := HM.out; have q2 := R1.out; have q3 := HB.out; have q4 := HP.out; have q5 := R2.out; have q6 := HL.out; omega), C4.out.mono (by have q0 := HK.out; have q1 := HM.out; have q2 := R1.out; have q3 := HB.out; have q4 := HP.out; have q5 := R2.out; have q6 := HL.out; omega), O4.out⟩
  · have HB := Lib.hid hb
    have : decide ((r1 : Int) < 4) = false := by simp; omega
    have : decide ((r1 : Int) < 8) = false := by simp; omega
    have : ((r1 : Int) == 8) = false := by simp; omega
    have : decide ((r1 : Int) < 12) = true := by simp; omega
    have : ((r1 : Int) == 12) = false := by simp; omega
    have : ((r1 : Int) == 13) = false := by simp; omega
    have : ((r1 : Int) == 14) = false := by simp; omega
    have : ((r1 : Int) == 15) = false := by simp; omega
    have : decide (2 < (n : Int)) = false := by simp; omega
    clear hb
    go_wp2_with fail
    go_ret
    exact ⟨.string ⟨#[48]⟩, rfl, ab_mono (ab_lit ⟨#[48]⟩ 1 rfl (by decide)) (by have q0 := HK.out; have q1 := HM.out; have q2 := R1.out; have q3 := HB.out; omega), C1.out.mono (by have q0 := HK.out; have q1 := HM.out; have q2 := R1.out; have q3 := HB.out; omega), O1.out⟩
  · have HB := Lib.hid hb
    have : decide ((r1 : Int) < 4) = false := by simp; omega
    have : decide ((r1 : Int) < 8) = false := by simp; omega
    have : ((r1 : Int) == 8) = false := by simp; omega
    have : decide ((r1 : Int) < 12) = false := by simp; omega
    have : ((r1 : Int) == 12) = true := by simp; omega
    clear hb
    go_wp2_with fail
    refine (drName_any c (k + 2) (by have q0 := HK.out; have q1 := HM.out; have q2 := R1.out; have q3 := HB.out; omega) _ C1.out).mono ?_
    rintro e w2 ⟨v, rfl, ⟨x2, n2, rfl⟩, c2, o2⟩
    have C2 := Lib.hid c2
    have O2 := Lib.hid (O1.out.trans o2)
    have N2 := Lib.hid n2
    have m2 : (one x2).size = 1 := rfl
    clear n2
    clear c2 o2
    go_wp2_with fail
    refine (HS1.out c ((k + 2) + 2) b _ (by have q0 := HK.out; have q1 := HM.out; have q2 := R1.out; have q3 := HB.out; omega) C2.out).mono ?_
    rintro e w3 ⟨v, rfl, A3, c3, o3⟩
    have C3 := Lib.hid c3
    have O3 := Lib.hid (O2.out.trans o3)
    have S3 := Lib.hid A3
    obtain ⟨s3, rfl, _, _⟩ := A3
    have z3 : s3.size ≤ 100000 := by have := ab_of S3.out; have := HK.out; have := HM.out; omega
    clear c3 o3
    go_wp2_with fail
    go_ret
    exact ⟨.string (((⟨#[35]⟩ ++ one x2) ++ ⟨#[46]⟩) ++ s3), rfl, ab_mono (ab_app (ab_app (ab_app (ab_lit ⟨#[35]⟩ 1 rfl (by decide)) (ab_nm N2.out)) (ab_lit ⟨#[46]⟩ 1 rfl (by decide))) S3.out) (by have q0 := HK.out; have q1 := HM.out; have q2 := R1.out; have q3 := HB.out; omega), C3.out.mono (by have q0 := HK.out; have q1 := HM.out; have q2 := R1.out; have q3 := HB.out; omega), O3.out⟩
  · have HB := Lib.hid hb
    have : decide ((r1 : Int) < 4) = false := by simp; omega
    have : decide ((r1 : Int) < 8) = false := by simp; omega
    have : ((r1 : Int) == 8) = false := by simp; omega
    have : decide ((r1 : Int) < 12) = false := by simp; omega
    have : ((r1 : Int) == 12) = false := by simp; omega
    have : ((r1 : Int) == 13) = true := by simp; omega
    clear hb
    go_wp2_with fail
    refine (drName_any c (k + 2) (by have q0 := HK.out; have q1 := HM.out; have q2 := R1.out; have q3 := HB.out; omega) _ C1.out).mono ?_
    rintro e w2 ⟨v, rfl, ⟨x2, n2, rfl⟩, c2, o2⟩
    have C2 := Lib.hid c2
    have O2 := Lib.hid (O1.out.trans o2)
    have N2 := Lib.hid n2
    have m2 : (one x2).size = 1 := rfl
    clear n2
    clear c2 o2
    go_wp2_with fail
    refine (drName_any c ((k + 2) + 2) (by have q0 := HK.out; have q1 := HM.out; have q2 := R1.out; have q3 := HB.out; omega) _ C2.out).mono ?_
    rintro e w3 ⟨v, rfl, ⟨x3, n3, rfl⟩, c3, o3⟩
    have C3 := Lib.hid c3
    have O3 := Lib.hid (O2.out.trans o3)
    have N3 := Lib.hid n3
    have m3 : (one x3).size = 1 := rfl
    clear n3
    clear c3 o3
    go_wp2_with fail
    refine (HS1.out c (((k + 2) + 2) + 2) b _ (by have q0 := HK.out; have q1 := HM.out; have q2 := R1.out; have q3 := HB.out; omega) C3.out).mono ?_
    rintro e w4 ⟨v, rfl, A4, c4, o4⟩
    have C4 := Lib.hid c4
    have O4 := Lib.hid (O3.out.trans o4)
    have S4 := Lib.hid A4
    obtain ⟨s4, rfl, _, _⟩ := A4
    have z4 : s4.size ≤ 100000 := by have := ab_of S4.out; have := HK.out; have := HM.out; omega
    clear c4 o4
    go_wp2_with fail
    go_ret
    exact ⟨.string (((((⟨#[91]⟩ ++ one x2) ++ ⟨#[61]⟩) ++ one x3) ++ ⟨#[93]⟩) ++ s4), rfl, ab_mono (ab_app (ab_app (ab_app (ab_app (ab_app (ab_lit ⟨#[91]⟩ 1 rfl (by decide)) (ab_nm N2.out)) (ab_lit ⟨#[61]⟩ 1 rfl (by decide))) (ab_nm N3.out)) (ab_lit ⟨#[93]⟩ 1 rfl (by decide))) S4.out) (by have q0 := HK.out; have q1 := HM.out; have q2 := R1.out; have q3 := HB.out; omega), C4.out.mono (by have q0 := HK.out; have q1 := HM.out; have q2 := R1.out; have q3 := HB.out; omega), O4.out⟩
  · have HB := Lib.hid hb
    have : decide ((r1 : Int) < 4) = false := by simp; omega
    have : decide ((r1 : Int) < 8) = false := by simp; omega
    have : ((r1 : Int) == 8) = false := by simp; omega
    have : decide ((r1 : Int) < 12) = false := by simp; omega
    have : ((r1 : Int) == 12) = false := by simp; omega
    have : ((r1 : Int) == 13) = false := by simp; omega
    have : ((r1 : Int) == 14) = true := by simp; omega
    have : decide (2 < (n : Int)) = true := by simp; omega
    clear hb
    obtain ⟨p, hp⟩ : ∃ p, p = n - 2 := ⟨_, rfl⟩
    have hw2 : IntKind.i64.wrap ((n : Int) - 2) = (p : Int) := by have q := HM.out; have q2 := HB.out; rw [IntKind.wrap_i64] <;> omega
    have HP := Lib.hid hp
    clear hp
    go_wp2_with fail
    refine (pick_lt c (k + 2) p (by have q0 := HK.out; have q1 := HM.out; have q2 := R1.out; have q3 := HB.out; have q4 := HP.out; omega) (by have q0 := HK.out; have q1 := HM.out; have q2 := R1.out; have q3 := HB.out; have q4 := HP.out; omega) (by have q0 := HK.out; have q1 := HM.out; have q2 := R1.out; have q3 := HB.out; have q4 := HP.out; omega) _ C1.out).mono ?_
    rintro e w2 ⟨v, rfl, ⟨r2, l2, rfl⟩, c2, o2⟩
    have C2 := Lib.hid c2
    have O2 := Lib.hid (O1.out.trans o2)
    have R2 := Lib.hid l2
    clear l2
    clear c2 o2
    obtain ⟨l, hl⟩ : ∃ l, l = 1 + r2 := ⟨_, rfl⟩
    obtain ⟨d, hd2⟩ : ∃ d, d = m - l := ⟨_, rfl⟩
    have HL := Lib.hid (And.intro hl hd2)
    have hw3 : IntKind.i64.wrap (1 + (r2 : Int)) = (l : Int) := by have q := HM.out; have q2 := R2.out; have q3 := HP.out; rw [IntKind.wrap_i64] <;> omega
    have hw4 : IntKind.i64.wrap ((m : Int) - (l : Int)) = (d : Int) := by have q := HM.out; have q2 := R2.out; have q3 := HP.out; have q4 := HB.out; rw [IntKind.wrap_i64] <;> omega
    have H1 := Lib.hid (HGA.out l (by have q0 := HK.out; have q1 := HM.out; have q2 := R1.out; have q3 := HB.out; have q4 := HP.out; have q5 := R2.out; have q6 := HL.out; omega) (by have q0 := HK.out; have q1 := HM.out; have q2 := R1.out; have q3 := HB.out; have q4 := HP.out; have q5 := R2.out; have q6 := HL.out; omega))
    have H2 := Lib.hid (HGA.out d (by have q0 := HK.out; have q1 := HM.out; have q2 := R1.out; have q3 := HB.out; have q4 := HP.out; have q5 := R2.out; have q6 := HL.out; omega) (by have q0 := HK.out; have q1 := HM.out; have q2 := R1.out; have q3 := HB.out; have q4 := HP.out; have q5 := R2.out; have q6 := HL.out; omega))
    clear hl hd2
    go_wp2_with fail
    refine (H1.out c ((k + 2) + 2) b _ (by have q0 := HK.out; have q1 := HM.out; have q2 := R1.out; have q3 := HB.out; have q4 := HP.out; have q5 := R2.out; have q6 := HL.out; omega) C2.out).mono ?_
    rintro e w3 ⟨v, rfl, A3, c3, o3⟩
    have C3 := Lib.hid c3
    have O3 := Lib.hid (O2.out.trans o3)
    have S3 := Lib.hid A3
    obtain ⟨s3, rfl, _, _⟩ := A3
    have z3 : s3.size ≤ 100000 := by have := ab_of S3.out; have := HK.out; have := HM.out; have := R2.out; have := HP.out; have := HL.out; omega
    clear c3 o3
    go_wp2_with fail
    refine (H2.out c (((k + 2) + 2) + (30 * l + 12)) b _ (by have q0 := HK.out; have q1 := HM.out; have q2 := R1.out; have q3 := HB.out; have q4 := HP.out; have q5 := R2.out; have q6 := HL.out; omega) C3.out).mono ?_
    rintro e w4 ⟨v, rfl, A4, c4, o4⟩
    have C4 := Lib.hid c4
    have O4 := Lib.hid (O3.out.trans o4)
    have S4 := Lib.hid A4
    obtain ⟨s4, rfl, _, _⟩ := A4
    have z4 : s4.size ≤ 100000 := by have := ab_of S4.out; have := HK.out; have := HM.out; have := R2.out; have := HP.out; have := HL.out; omega
    clear c4 o4
    go_wp2_with fail
    go_ret
    exact ⟨.string ((((⟨#[40]⟩ ++ s3) ++ ⟨#[43]⟩) ++ s4) ++ ⟨#[41]⟩), rfl, ab_mono (ab_app (ab_app (ab_app (ab_app (ab_lit ⟨#[40]⟩ 1 rfl (by decide)) S3.out) (ab_lit ⟨#[43]⟩ 1 rfl (by decide))) S4.out) (ab_lit ⟨#[41]⟩ 1 rfl (by decide))) (by have q0 := HK.out; have q1 := HM.out; have q2 := R1.out; have q3 := HB.out; have q4 := HP.out; have q5 := R2.out; have q6 := HL.out; omega), C4.out.mono (by have q0 := HK.out; have q1 := HM.out; have q2 := R1.out; have q3 := HB.out; have q4 := HP.out; have q5 := R2.out; have q6 := HL.out; omega), O4.out⟩
  · have HB := Lib.hid hb
    have : decide ((r1 : Int) < 4) = false := by simp; omega
    have : decide ((r1 : Int) < 8) = false := by simp; omega
    have : ((r1 : Int) == 8) = false := by simp; omega
    have : decide ((r1 : Int) < 12) = false := by simp; omega
    have : ((r1 : Int) == 12) = false := by simp; omega
    have : ((r1 : Int) == 13) = false := by simp; omega
    have : ((r1 : Int) == 14) = true := by simp; omega
    have : ((r1 : Int) == 15) = false := by simp; omega
    have : decide (2 < (n : Int)) = false := by simp; omega
    clear hb
    go_wp2_with fail
    go_ret
    exact ⟨.string ⟨#[48]⟩, rfl, ab_mono (ab_lit ⟨#[48]⟩ 1 rfl (by decide)) (by have q0 := HK.out; have q1 := HM.out; have q2 := R1.out; have q3 := HB.out; omega), C1.out.mono (by have q0 := HK.out; have q1 := HM.out; have q2 := R1.out; have q3 := HB.out; omega), O1.out⟩
  · have HB := Lib.hid hb
    have : decide ((r1 : Int) < 4) = false := by simp; omega
    have : decide ((r1 : Int) < 8) = false := by simp; omega
    have : ((r1 : Int) == 8) = false := by simp; omega
    have : decide ((r1 : Int) < 12) = false := by simp; omega
    have : ((r1 : Int) == 12) = false := by simp; omega
    have : ((r1 : Int) == 13) = false := by simp; omega
    have : ((r1 : Int) == 14) = false := by simp; omega
    have : ((r1 : Int) == 15) = true := by simp; omega
    have : decide (2 < (n : Int)) = true := by simp; omega
    clear hb
    obtain ⟨p, hp⟩ : ∃ p, p = n - 2 := ⟨_, rfl⟩
    have hw2 : IntKind.i64.wrap ((n : Int) - 2) = (p : Int) := by have q := HM.out; have q2 := HB.out; rw [IntKind.wrap_i64] <;> omega
    have HP := Lib.hid hp
    clear hp
    have H1 := Lib.hid (HSA.out p (by have q0 := HK.out; have q1 := HM.out; have q2 := R1.out; have q3 := HB.out; have q4 := HP.out; omega) (by have q0 := HK.out; have q1 := HM.out; have q2 := R1.out; have q3 := HB.out; have q4 := HP.out; omega))
    cases b with
    | true =>
      go_wp2_with fail
      refine (drName_any c (k + 2) (by have q0 := HK.out; have q1 := HM.out; have q2 := R1.out; have q3 := HB.out; have q4 := HP.out; omega) _ C1.out).mono ?_
      rintro e w2 ⟨v, rfl, ⟨x2, n2, rfl⟩, c2, o2⟩
      have C2 := Lib.hid c2
      have O2 := Lib.hid (O1.out.trans o2)
      have N2 := Lib.hid n2
      have m2 : (one x2).size = 1 := rfl
      clear n2
      clear c2 o2
      go_wp2_with fail
      refine (drName_any c ((k + 2) + 2) (by have q0 := HK.out; have q1 := HM.out; have q2 := R1.out; have q3 := HB.out; have q4 := HP.out; omega) _ C2.out).mono ?_
      rintro e w3 ⟨v, rfl, ⟨x3, n3, rfl⟩, c3, o3⟩
      have C3 := Lib.hid c3
      have O3 := Lib.hid (O2.out.trans o3)
      have N3 := Lib.hid n3
      have m3 : (one x3).size = 1 := rfl
      clear n3
      clear c3 o3
      go_wp2_with fail
      refine (H1.out c (((k + 2) + 2) + 2) true _ (by have q0 := HK.out; have q1 := HM.out; have q2 := R1.out; have q3 := HB.out; have q4 := HP.out; omega) C3.out).mono ?_
      rintro e w4 ⟨v, rfl, A4, c4, o4⟩
      have C4 := Lib.hid c4
      have O4 := Lib.hid (O3.out.trans o4)
      have S4 := Lib.hid A4
      obtain ⟨s4, rfl, _, _⟩ := A4
      have z4 : s4.size ≤ 100000 := by have := ab_of S4.out; have := HK.out; have := HM.out; have := HP.out; omega
      clear c4 o4
      go_wp2_with fail
      go_ret
      exact ⟨.string (((((⟨#[42]⟩ ++ one x2) ++ ⟨#[63]⟩) ++ one x3) ++ ⟨#[46]⟩) ++ s4), rfl, ab_mono (ab_app (ab_app (ab_app (ab_app (ab_app (ab_lit ⟨#[42]⟩ 1 rfl (by decide)) (ab_nm N2.out)) (ab_lit ⟨#[63]⟩ 1 rfl (by decide))) (ab_nm N3.out)) (ab_lit ⟨#[46]⟩ 1 rfl (by decide))) S4.out) (by have q0 := HK.out; have q1 := HM.out; have q2 := R1.out; have q3 := HB.out; have q4 := HP.out; omega), C4.out.mono (by have q0 := HK.out; have q1 := HM.out; have q2 := R1.out; have q3 := HB.out; have q4 := HP.out; omega), O4.out⟩
    | false =>
      go_wp2_with fail
      refine (HS1.out c (k + 2) false _ (by have q0 := HK.out; have q1 := HM.out; have q2 := R1.out; have q3 := HB.out; have q4 := HP.out; omega) C1.out).mono ?_
      rintro e w2 ⟨v, rfl, A2, c2, o2⟩
      have C2 := Lib.hid c2
      have O2 := Lib.hid (O1.out.trans o2)
      have S2 := Lib.hid A2
      obtain ⟨s2, rfl, _, _⟩ := A2
      have z2 : s2.size ≤ 100000 := by have := ab_of S2.out; have := HK.out; have := HM.out; omega
      clear c2 o2
      go_wp2_with fail
      go_ret
      exact ⟨.string (⟨#[42]⟩ ++ s2), rfl, ab_mono (ab_app (ab_lit ⟨#[42]⟩ 1 rfl (by decide)) S2.out) (by have q0 := HK.out; have q1 := HM.out; have q2 := R1.out; have q3 := HB.out; have q4 := HP.out; omega), C2.out.mono (by have q0 := HK.out; have q1 := HM.out; have q2 := R1.out; have q3 := HB.out; have q4 := HP.out; omega), O2.out⟩
  · have HB := Lib.hid hb
    have : decide ((r1 : Int) < 4) = false := by simp; omega
    have : decide ((r1 : Int) < 8) = false := by simp; omega
    have : ((r1 : Int) == 8) = false := by simp; omega
    have : decide ((r1 : Int) < 12) = false := by simp; omega
    have : ((r1 : Int) == 12) = false := by simp; omega
    have : ((r1 : Int) == 13) = false := by simp; omega
    have : ((r1 : Int) == 14) = false := by simp; omega
    have : ((r1 : Int) == 15) = true := by simp; omega
    have : decide (2 < (n : Int)) = false := by simp; omega
    clear hb
    go_wp2_with fail
    go_ret
    exact ⟨.string ⟨#[48]⟩, rfl, ab_mono (ab_lit ⟨#[48]⟩ 1 rfl (by decide)) (by have q0 := HK.out; have q1 := HM.out; have q2 := R1.out; have q3 := HB.out; omega), C1.out.mono (by have q0 := HK.out; have q1 := HM.out; have q2 := R1.out; have q3 := HB.out; omega), O1.out⟩

set_option maxHeartbeats 8000000 in
theorem grd_step (n m : Nat) (hn : 1 ≤ n) (hm : m = n - 1) (hs0 : SureT n) (hs : 1 ≤ m → SureT m) (hn25 : n ≤ 1000) : GrdT n := by
  intro c k b w hk hC
  have HC := Lib.hid hC
  have HK := Lib.hid hk
  have C0 := HC
  have O0 : Hid (Only c w w) := Only.refl c w
  clear hC hk
  have HM := Lib.hid (And.intro hm (And.intro hn hn25))
  have HS0 := Lib.hid hs0
  have HSA := Lib.hid hs
  clear hs hs0 hn25
  by_cases h2 : n < 2
  · have hd : decide ((n : Int) < 2) = true := by simp; omega
    clear h2 hm hn
    cases b with
    | true =>
      go_enter Tryz.func82, Tryz.ntmps82
      go_wp2_with fail
      go_ret
      exact ⟨.string ⟨#[48]⟩, rfl, ab_mono (ab_lit ⟨#[48]⟩ 1 rfl (by decide)) (by have := HM.out; omega), HC.out.mono (by omega), O0.out⟩
    | false =>
      go_enter Tryz.func82, Tryz.ntmps82
      go_wp2_with fail
      refine (one_any c k 4 (by decide) (by have q0 := HK.out; have q1 := HM.out; omega) (by decide) _ C0.out).mono ?_
      rintro e w1 ⟨v, rfl, ⟨y1, rfl⟩, c1, o1⟩
      have C1 := Lib.hid c1
      have O1 := Lib.hid (O0.out.trans o1)
      clear c1 o1
      cases y1 with
      | true =>
        go_wp2_with fail
        refine (HS0.out c (k + 2) false _ (by have q0 := HK.out; have q1 := HM.out; omega) C1.out).mono ?_
        rintro e w2 ⟨v, rfl, A2, c2, o2⟩
        have C2 := Lib.hid c2
        have O2 := Lib.hid (O1.out.trans o2)
        have S2 := Lib.hid A2
        obtain ⟨s2, rfl, _, _⟩ := A2
        have z2 : s2.size ≤ 100000 := by have := ab_of S2.out; have := HK.out; have := HM.out; omega
        clear c2 o2
        go_wp2_with fail
        go_ret
        exact ⟨.string s2, rfl, ab_mono S2.out (by have q0 := HK.out; have q1 := HM.out; omega), C2.out.mono (by have q0 := HK.out; have q1 := HM.out; omega), O2.out⟩
      | false =>
        go_wp2_with fail
        go_ret
        exact ⟨.string ⟨#[48]⟩, rfl, ab_mono (ab_lit ⟨#[48]⟩ 1 rfl (by decide)) (by have := HM.out; omega), C1.out.mono (by omega), O1.out⟩
  · have hd : decide ((n : Int) < 2) = false := by simp; omega
    have hw1 : IntKind.i64.wrap ((n : Int) - 1) = (m : Int) := by have q := HM.out; rw [IntKind.wrap_i64] <;> omega
    have HS1 := Lib.hid (HSA.out (by omega))
    have HN2 := Lib.hid (Nat.le_of_not_lt h2)
    clear h2 hm hn
    cases b with
    | true =>
      go_enter Tryz.func82, Tryz.ntmps82
      go_wp2_with fail
      refine (HS1.out c k true _ (by have q0 := HK.out; have q1 := HM.out; have q2 := HN2.out; omega) C0.out).mono ?_
      rintro e w1 ⟨v, rfl, A1, c1, o1⟩
      have C1 := Lib.hid c1
      have O1 := Lib.hid (O0.out.trans o1)
      have S1 := Lib.hid A1
      obtain ⟨s1, rfl, _, _⟩ := A1
      have z1 : s1.size ≤ 100000 := by have := ab_of S1.out; have := HK.out; have := HM.out; omega
      clear c1 o1
      go_wp2_with fail
      refine (pick_lt c (k + 30 * m) 5 (by decide) (by have q0 := HK.out; have q1 := HM.out; have q2 := HN2.out; omega) (by decide) _ C1.out).mono ?_
      rintro e w2 ⟨v, rfl, ⟨r2, l2, rfl⟩, c2, o2⟩
      have C2 := Lib.hid c2
      have O2 := Lib.hid (O1.out.trans o2)
      have R2 := Lib.hid l2
      clear l2
      clear c2 o2
      rcases (show (r2 = 0 ∨ r2 = 1) ∨ (r2 = 2 ∨ r2 = 3) ∨ r2 = 4 from by have := R2.out; omega) with (rfl | rfl) | (rfl | rfl) | rfl
      · go_wp2_with fail
        refine (drName_any c ((k + 30 * m) + 2) (by have q0 := HK.out; have q1 := HM.out; have q2 := HN2.out; omega) _ C2.out).mono ?_
        rintro e w3 ⟨v, rfl, ⟨x3, n3, rfl⟩, c3, o3⟩
        have C3 := Lib.hid c3
        have O3 := Lib.hid (O2.out.trans o3)
        have N3 := Lib.hid n3
        have m3 : (one x3).size = 1 := rfl
        clear n3
        clear c3 o3
        go_wp2_with fail
        refine (drName_any c (((k + 30 * m) + 2) + 2) (by have q0 := HK.out; have q1 := HM.out; have q2 := HN2.out; omega) _ C3.out).mono ?_
        rintro e w4 ⟨v, rfl, ⟨x4, n4, rfl⟩, c4, o4⟩
        have C4 := Lib.hid c4
        have O4 := Lib.hid (O3.out.trans o4)
        have N4 := Lib.hid n4
        have m4 : (one x4).size = 1 := rfl
        clear n4
        clear c4 o4
        go_wp2_with fail
        go_ret
        exact ⟨.string ((((one x3 ++ ⟨#[33]⟩) ++ one x4) ++ ⟨#[46]⟩) ++ s1), rfl, ab_mono (ab_app (ab_app (ab_app (ab_app (ab_nm N3.out) (ab_lit ⟨#[33]⟩ 1 rfl (by decide))) (ab_nm N4.out)) (ab_lit ⟨#[46]⟩ 1 rfl (by decide))) S1.out) (by have q0 := HK.out; have q1 := HM.out; have q2 := HN2.out; omega), C4.out.mono (by have q0 := HK.out; have q1 := HM.out; have q2 := HN2.out; omega), O4.out⟩
      · go_wp2_with fail
        refine (drName_any c ((k + 30 * m) + 2) (by have q0 := HK.out; have q1 := HM.out; have q2 := HN2.out; omega) _ C2.out).mono ?_
        rintro e w3 ⟨v, rfl, ⟨x3, n3, rfl⟩, c3, o3⟩
        have C3 := Lib.hid c3
        have O3 := Lib.hid (O2.out.trans o3)
        have N3 := Lib.hid n3
        have m3 : (one x3).size = 1 := rfl
        clear n3
        clear c3 o3
        go_wp2_with fail
        refine (drName_any c (((k + 30 * m) + 2) + 2) (by have q0 := HK.out; have q1 := HM.out; have q2 := HN2.out; omega) _ C3.out).mono ?_
        rintro e w4 ⟨v, rfl, ⟨x4, n4, rfl⟩, c4, o4⟩
        have C4 := Lib.hid c4
        have O4 := Lib.hid (O3.out.trans o4)
        have N4 := Lib.hid n4
        have m4 : (one x4).size = 1 := rfl
        clear n4
        clear c4 o4
        go_wp2_with fail
        go_ret
        exact ⟨.string ((((one x3 ++ ⟨#[33]⟩) ++ one x4) ++ ⟨#[46]⟩) ++ s1), rfl, ab_mono (ab_app (ab_app (ab_app (ab_app (ab_nm N3.out) (ab_lit ⟨#[33]⟩ 1 rfl (by decide))) (ab_nm N4.out)) (ab_lit ⟨#[46]⟩ 1 rfl (by decide))) S1.out) (by have q0 := HK.out; have q1 := HM.out; have q2 := HN2.out; omega), C4.out.mono (by have q0 := HK.out; have q1 := HM.out; have q2 := HN2.out; omega), O4.out⟩
      · go_wp2_with fail
        refine (drName_any c ((k + 30 * m) + 2) (by have q0 := HK.out; have q1 := HM.out; have q2 := HN2.out; omega) _ C2.out).mono ?_
        rintro e w3 ⟨v, rfl, ⟨x3, n3, rfl⟩, c3, o3⟩
        have C3 := Lib.hid c3
        have O3 := Lib.hid (O2.out.trans o3)
        have N3 := Lib.hid n3
        have m3 : (one x3).size = 1 := rfl
        clear n3
        clear c3 o3
        go_wp2_with fail
        refine (drName_any c (((k + 30 * m) + 2) + 2) (by have q0 := HK.out; have q1 := HM.out; have q2 := HN2.out; omega) _ C3.out).mono ?_
        rintro e w4 ⟨v, rfl, ⟨x4, n4, rfl⟩, c4, o4⟩
        have C4 := Lib.hid c4
        have O4 := Lib.hid (O3.out.trans o4)
        have N4 := Lib.hid n4
        have m4 : (one x4).size = 1 := rfl
        clear n4
        clear c4 o4
        go_wp2_with fail
        go_ret
        exact ⟨.string ((((one x3 ++ ⟨#[63]⟩) ++ one x4) ++ ⟨#[46]⟩) ++ s1), rfl, ab_mono (ab_app (ab_app (ab_app (ab_app (ab_nm N3.out) (ab_lit ⟨#[63]⟩ 1 rfl (by decide))) (ab_nm N4.out)) (ab_lit ⟨#[46]⟩ 1 rfl (by decide))) S1.out) (by have q0 := HK.out; have q1 := HM.out; have q2 := HN2.out; omega), C4.out.mono (by have q0 := HK.out; have q1 := HM.out; have q2 := HN2.out; omega), O4.out⟩
      · go_wp2_with fail
        refine (drName_any c ((k + 30 * m) + 2) (by have q0 := HK.out; have q1 := HM.out; have q2 := HN2.out; omega) _ C2.out).mono ?_
        rintro e w3 ⟨v, rfl, ⟨x3, n3, rfl⟩, c3, o3⟩
        have C3 := Lib.hid c3
        have O3 := Lib.hid (O2.out.trans o3)
        have N3 := Lib.hid n3
        have m3 : (one x3).size = 1 := rfl
        clear n3
        clear c3 o3
        go_wp2_with fail
        refine (drName_any c (((k + 30 * m) + 2) + 2) (by have q0 := HK.out; have q1 := HM.out; have q2 := HN2.out; omega) _ C3.out).mono ?_
        rintro e w4 ⟨v, rfl, ⟨x4, n4, rfl⟩, c4, o4⟩
        have C4 := Lib.hid c4
        have O4 := Lib.hid (O3.out.trans o4)
        have N4 := Lib.hid n4
        have m4 : (one x4).size = 1 := rfl
        clear n4
        clear c4 o4
        go_wp2_with fail
        go_ret
        exact ⟨.string ((((one x3 ++ ⟨#[63]⟩) ++ one x4) ++ ⟨#[46]⟩) ++ s1), rfl, ab_mono (ab_app (ab_app (ab_app (ab_app (ab_nm N3.out) (ab_lit ⟨#[63]⟩ 1 rfl (by decide))) (ab_nm N4.out)) (ab_lit ⟨#[46]⟩ 1 rfl (by decide))) S1.out) (by have q0 := HK.out; have q1 := HM.out; have q2 := HN2.out; omega), C4.out.mono (by have q0 := HK.out; have q1 := HM.out; have q2 := HN2.out; omega), O4.out⟩
      · go_wp2_with fail
        go_ret
        exact ⟨.string (⟨#[126, 46]⟩ ++ s1), rfl, ab_mono (ab_app (ab_lit ⟨#[126, 46]⟩ 2 rfl (by decide)) S1.out) (by have q0 := HK.out; have q1 := HM.out; have q2 := HN2.out; omega), C2.out.mono (by have q0 := HK.out; have q1 := HM.out; have q2 := HN2.out; omega), O2.out⟩
    | false =>
      go_enter Tryz.func82, Tryz.ntmps82
      go_wp2_with fail
      refine (one_any c k 4 (by decide) (by have q0 := HK.out; have q1 := HM.out; omega) (by decide) _ C0.out).mono ?_
      rintro e w1 ⟨v, rfl, ⟨y1, rfl⟩, c1, o1⟩
      have C1 := Lib.hid c1
      have O1 := Lib.hid (O0.out.trans o1)
      clear c1 o1
      cases y1 with
      | true =>
        go_wp2_with fail
        refine (HS0.out c (k + 2) false _ (by have q0 := HK.out; have q1 := HM.out; omega) C1.out).mono ?_
        rintro e w2 ⟨v, rfl, A2, c2, o2⟩
        have C2 := Lib.hid c2
        have O2 := Lib.hid (O1.out.trans o2)
        have S2 := Lib.hid A2
        obtain ⟨s2, rfl, _, _⟩ := A2
        have z2 : s2.size ≤ 100000 := by have := ab_of S2.out; have := HK.out; have := HM.out; omega
        clear c2 o2
        go_wp2_with fail
        go_ret
        exact ⟨.string s2, rfl, ab_mono S2.out (by have q0 := HK.out; have q1 := HM.out; omega), C2.out.mono (by have q0 := HK.out; have q1 := HM.out; omega), O2.out⟩
      | false =>
        go_wp2_with fail
        refine (HS1.out c (k + 2) false _ (by have q0 := HK.out; have q1 := HM.out; have q2 := HN2.out; omega) C1.out).mono ?_
        rintro e w2 ⟨v, rfl, A2, c2, o2⟩
        have C2 := Lib.hid c2
        have O2 := Lib.hid (O1.out.trans o2)
        have S2 := Lib.hid A2
        obtain ⟨s2, rfl, _, _⟩ := A2
        have z2 : s2.size ≤ 100000 := by have := ab_of S2.out; have := HK.out; have := HM.out; omega
        clear c2 o2
        go_wp2_with fail
        refine (pick_lt c ((k + 2) + 30 * m) 5 (by decide) (by have q0 := HK.out; have q1 := HM.out; have q2 := HN2.out; omega) (by decide) _ C2.out).mono ?_
        rintro e w3 ⟨v, rfl, ⟨r3, l3, rfl⟩, c3, o3⟩
        have C3 := Lib.hid c3
        have O3 := Lib.hid (O2.out.trans o3)
        have R3 := Lib.hid l3
        clear l3
        clear c3 o3
        rcases (show (r3 = 0 ∨ r3 = 1) ∨ (r3 = 2 ∨ r3 = 3) ∨ r3 = 4 from by have := R3.out; omega) with (rfl | rfl) | (rfl | rfl) | rfl
        · go_wp2_with fail
          refine (drName_any c (((k + 2) + 30 * m) + 2) (by have q0 := HK.out; have q1 := HM.out; have q2 := HN2.out; omega) _ C3.out).mono ?_
          rintro e w4 ⟨v, rfl, ⟨x4, n4, rfl⟩, c4, o4⟩
          have C4 := Lib.hid c4
          have O4 := Lib.hid (O3.out.trans o4)
          have N4 := Lib.hid n4
          have m4 : (one x4).size = 1 := rfl
          clear n4
          clear c4 o4
          go_wp2_with fail
          refine (drName_any c ((((k + 2) + 30 * m) + 2) + 2) (by have q0 := HK.out; have q1 := HM.out; have q2 := HN2.out; omega) _ C4.out).mono ?_
          rintro e w5 ⟨v, rfl, ⟨x5, n5, rfl⟩, c5, o5⟩
          have C5 := Lib.hid c5
          have O5 := Lib.hid (O4.out.trans o5)
          have N5 := Lib.hid n5
          have m5 : (one x5).size = 1 := rfl
          clear n5
          clear c5 o5
          go_wp2_with fail
          go_ret
          exact ⟨.string ((((one x4 ++ ⟨#[33]⟩) ++ one x5) ++ ⟨#[46]⟩) ++ s2), rfl, ab_mono (ab_app (ab_app (ab_app (ab_app (ab_nm N4.out) (ab_lit ⟨#[33]⟩ 1 rfl (by decide))) (ab_nm N5.out)) (ab_lit ⟨#[46]⟩ 1 rfl (by decide))) S2.out) (by have q0 := HK.out; have q1 := HM.out; have q2 := HN2.out; omega), C5.out.mono (by have q0 := HK.out; have q1 := HM.out; have q2 := HN2.out; omega), O5.out⟩
        · go_wp2_with fail
          refine (drName_any c (((k + 2) + 30 * m) + 2) (by have q0 := HK.out; have q1 := HM.out; have q2 := HN2.out; omega) _ C3.out).mono ?_
          rintro e w4 ⟨v, rfl, ⟨x4, n4, rfl⟩, c4, o4⟩
          have C4 := Lib.hid c4
          have O4 := Lib.hid (O3.out.trans o4)
          have N4 := Lib.hid n4
          have m4 : (one x4).size = 1 := rfl
          clear n4
          clear c4 o4
          go_wp2_with fail
          refine (drName_any c ((((k + 2) + 30 * m) + 2) + 2) (by have q0 := HK.out; have q1 := HM.out; have q2 := HN2.out; omega) _ C4.out).mono ?_
          rintro e w5 ⟨v, rfl, ⟨x5, n5, rfl⟩, c5, o5⟩
          have C5 := Lib.hid c5
          have O5 := Lib.hid (O4.out.trans o5)
          have N5 := Lib.hid n5
          have m5 : (one x5).size = 1 := rfl
          clear n5
          clear c5 o5
          go_wp2_with fail
          go_ret
          exact ⟨.string ((((one x4 ++ ⟨#[33]⟩) ++ one x5) ++ ⟨#[46]⟩) ++ s2), rfl, ab_mono (ab_app (ab_app (ab_app (ab_app (ab_nm N4.out) (ab_lit ⟨#[33]⟩ 1 rfl (by decide))) (ab_nm N5.out)) (ab_lit ⟨#[46]⟩ 1 rfl (by decide))) S2.out) (by have q0 := HK.out; have q1 := HM.out; have q2 := HN2.out; omega), C5.out.mono (by have q0 := HK.out; have q1 := HM.out; have q2 := HN2.out; omega), O5.out⟩
        · go_wp2_with fail
          refine (drName_any c (((k + 2) + 30 * m) + 2) (by have q0 := HK.out; have q1 := HM.out; have q2 := HN2.out; omega) _ C3.out).mono ?_
          rintro e w4 ⟨v, rfl, ⟨x4, n4, rfl⟩, c4, o4⟩
          have C4 := Lib.hid c4
          have O4 := Lib.hid (O3.out.trans o4)
          have N4 := Lib.hid n4
          have m4 : (one x4).size = 1 := rfl
          clear n4
          clear c4 o4
          go_wp2_with fail
          refine (drName_any c ((((k + 2) + 30 * m) + 2) + 2) (by have q0 := HK.out; have q1 := HM.out; have q2 := HN2.out; omega) _ C4.out).mono ?_
          rintro e w5 ⟨v, rfl, ⟨x5, n5, rfl⟩, c5, o5⟩
          have C5 := Lib.hid c5
          have O5 := Lib.hid (O4.out.trans o5)
          have N5 := Lib.hid n5
          have m5 : (one x5).size = 1 := rfl
          clear n5
          clear c5 o5
          go_wp2_with fail
          go_ret
          exact ⟨.string ((((one x4 ++ ⟨#[63]⟩) ++ one x5) ++ ⟨#[46]⟩) ++ s2), rfl, ab_mono (ab_app (ab_app (ab_app (ab_app (ab_nm N4.out) (ab_lit ⟨#[63]⟩ 1 rfl (by decide))) (ab_nm N5.out)) (ab_lit ⟨#[46]⟩ 1 rfl (by decide))) S2.out) (by have q0 := HK.out; have q1 := HM.out; have q2 := HN2.out; omega), C5.out.mono (by have q0 := HK.out; have q1 := HM.out; have q2 := HN2.out; omega), O5.out⟩
        · go_wp2_with fail
          refine (drName_any c (((k + 2) + 30 * m) + 2) (by have q0 := HK.out; have q1 := HM.out; have q2 := HN2.out; omega) _ C3.out).mono ?_
          rintro e w4 ⟨v, rfl, ⟨x4, n4, rfl⟩, c4, o4⟩
          have C4 := Lib.hid c4
          have O4 := Lib.hid (O3.out.trans o4)
          have N4 := Lib.hid n4
          have m4 : (one x4).size = 1 := rfl
          clear n4
          clear c4 o4
          go_wp2_with fail
          refine (drName_any c ((((k + 2) + 30 * m) + 2) + 2) (by have q0 := HK.out; have q1 := HM.out; have q2 := HN2.out; omega) _ C4.out).mono ?_
          rintro e w5 ⟨v, rfl, ⟨x5, n5, rfl⟩, c5, o5⟩
          have C5 := Lib.hid c5
          have O5 := Lib.hid (O4.out.trans o5)
          have N5 := Lib.hid n5
          have m5 : (one x5).size = 1 := rfl
          clear n5
          clear c5 o5
          go_wp2_with fail
          go_ret
          exact ⟨.string ((((one x4 ++ ⟨#[63]⟩) ++ one x5) ++ ⟨#[46]⟩) ++ s2), rfl, ab_mono (ab_app (ab_app (ab_app (ab_app (ab_nm N4.out) (ab_lit ⟨#[63]⟩ 1 rfl (by decide))) (ab_nm N5.out)) (ab_lit ⟨#[46]⟩ 1 rfl (by decide))) S2.out) (by have q0 := HK.out; have q1 := HM.out; have q2 := HN2.out; omega), C5.out.mono (by have q0 := HK.out; have q1 := HM.out; have q2 := HN2.out; omega), O5.out⟩
        · go_wp2_with fail
          go_ret
          exact ⟨.string (⟨#[126, 46]⟩ ++ s2), rfl, ab_mono (ab_app (ab_lit ⟨#[126, 46]⟩ 2 rfl (by decide)) S2.out) (by have q0 := HK.out; have q1 := HM.out; have q2 := HN2.out; omega), C3.out.mono (by have q0 := HK.out; have q1 := HM.out; have q2 := HN2.out; omega), O3.out⟩

theorem draws_all (N : Nat) : ∀ n, n ≤ N → 1 ≤ n → n ≤ 1000 → SureT n ∧ GrdT n := by
  induction N with
  | zero => intro n h h1; omega
  | succ N ih =>
    intro n hn h1 hk
    have hs : SureT n := by
      by_cases h2 : n < 2
      · exact sure_low n h1 h2
      · exact sure_step n (n - 1) (by omega) rfl (fun j a b => (ih j (by omega) a (by omega)).1) (fun j a b => (ih j (by omega) a (by omega)).2) hk
    exact ⟨hs, grd_step n (n - 1) h1 rfl hs (fun h => (ih (n - 1) (by omega) h (by omega)).1) hk⟩
theorem sure_any (n : Nat) (h1 : 1 ≤ n) (h2 : n ≤ 1000) : SureT n := (draws_all n n (Nat.le_refl _) h1 h2).1
end Go.Proofs.YtpabmidjfpabdaaGreat.T1

/- The facts of one renaming, forth and back: plain. No conditions. -/
namespace Go.Proofs.YtpabmidjfpabdaaGreat.T1
theorem bdp_60 {t : Tm} (h : t.size ≤ 60) : t.bdp ≤ 60 := by
  have h1 := bdp_bnd t
  have h2 : ∀ t : Tm, t.bnd.length ≤ t.size := by
    intro t
    induction t <;> simp only [Tm.bnd, Tm.size, List.length_cons, List.length_append, List.length_nil] <;> omega
  have := h2 t
  omega
/-- The facts of one renaming, forth and back. -/
structure RenF (t : Tm) (o m : UInt8) : Prop where
  ok : (R t o m).ok nmL = true
  len : (R t o m).pr.length ≤ 300
  sz : (R t o m).size ≤ 60
  same : o ∉ t.free → R t o m = t
  name : o ∈ t.free → m ∈ (R t o m).free
  gone : o ∈ t.free → o ≠ m → o ∉ (R t o m).free
  new : ∀ c ∈ (R t o m).free, c ∈ t.free ++ [m]
  old : ∀ c ∈ t.free, c ∈ (R t o m).free ++ [o]
  back : m ∉ t.free → (R (R t o m) m o).ok nmL = true
  alike : m ∉ t.free → can t id marks = can (R (R t o m) m o) id marks
theorem renF (t : Tm) (o m : UInt8) (hL : t.ok nmL = true) (h300 : t.pr.length ≤ 300) (h60 : t.size ≤ 60) (hp : ∀ c ∈ t.pr, AB c = true) (ho : nmL o = true) (hm : nmL m = true) : RenF t o m := by
  have h5 : t.few 23 := by
    have key : ∀ t : Tm, t.few 5 → t.few 23 := by
      intro t
      induction t with
      | nil => exact fun h => h
      | snd a b p ih => exact fun h => ⟨Nat.le_trans h.1 (by decide), ih h.2⟩
      | rcv a b p ih => exact fun h => ⟨Nat.le_trans h.1 (by decide), ih h.2⟩
      | tau p ih => exact fun h => ⟨Nat.le_trans h.1 (by decide), ih h.2⟩
      | own a p ih => exact fun h => ⟨Nat.le_trans h.1 (by decide), ih h.2⟩
      | mat a b p ih => exact fun h => ⟨Nat.le_trans h.1 (by decide), ih h.2⟩
      | rep p ih => exact fun h => ⟨Nat.le_trans h.1 (by decide), ih h.2⟩
      | sum p q ih ih2 => exact fun h => ⟨Nat.le_trans h.1 (by decide), ih h.2.1, ih2 h.2.2⟩
      | par p q ih ih2 => exact fun h => ⟨Nat.le_trans h.1 (by decide), ih h.2.1, ih2 h.2.2⟩
    exact key t (few5 t (ok_AB hL hp))
  have hb := bdp_60 h60
  obtain ⟨f1, k1⟩ := R_few 23 (by decide) t.size t o m (Nat.le_refl _) h5 hb ho hm hL
  have hr := roomy_few (by decide) h5 hb o m
  have hb2 : (R t o m).bdp ≤ 60 := by rw [R_bdp _ _ _ _ (Nat.le_refl _)]; exact hb
  have hr2 := roomy_few (by decide) f1 hb2 m o
  obtain ⟨f2, k2⟩ := R_few 23 (by decide) _ (R t o m) m o (Nat.le_refl _) f1 hb2 hm ho k1
  have hfr : ∀ z, z ∈ (R t o m).free ↔ (if o = m then z ∈ t.free else ((z ∈ t.free ∧ z ≠ o) ∨ (z = m ∧ o ∈ t.free))) := by
    intro z
    by_cases e : o = m
    · rw [if_pos e, R_same _ _ _ (.inl e)]
    · rw [if_neg e]; exact R_free _ t o m (Nat.le_refl _) hr e z
  refine ⟨k1, by rw [R_len]; exact h300, by rw [R_size]; exact h60, fun h => R_same _ _ _ (.inr h), ?_, ?_, ?_, ?_, fun _ => k2, fun h => (can_back hr hr2 h marks).symm⟩
  · intro h; rw [hfr]; split
    · rename_i e; rw [← e]; exact h
    · exact .inr ⟨rfl, h⟩
  · intro h e; rw [hfr, if_neg e]; grind
  · intro c hc; rw [hfr] at hc; rw [List.mem_append, List.mem_singleton]; split at hc <;> grind
  · intro c hc; rw [List.mem_append, List.mem_singleton, hfr]; split <;> grind
end Go.Proofs.YtpabmidjfpabdaaGreat.T1
