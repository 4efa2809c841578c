/- Where a process ends in a text: plain lemmas. -/
import Derived.Test.YtpabmidjfpabdaaPure
namespace Go.Proofs.Ytpabmidjfpabdaa.T1
/-- Where the process ends that begins at a place, or -1. -/
noncomputable def endOf (nm : UInt8 → Bool) (s : ByteArray) (at_ : Nat) : Int := match E nm (s.data.toList.drop at_) with
  | some (_, r) => (s.size : Int) - r.length
  | none => -1
theorem drop_at (s : ByteArray) (k : Nat) (h : k < s.size) : s.data.toList.drop k = s[k] :: s.data.toList.drop (k + 1) := by
  rw [List.drop_eq_getElem_cons (by simpa using h)]; rfl


section
variable {nm : UInt8 → Bool} (hn : Nm nm) {s : ByteArray} {a : Nat}
theorem endOf_cases (nm : UInt8 → Bool) (hn : Nm nm) (s : ByteArray) (a : Nat) : (endOf nm s a = -1 ∧ E nm (s.data.toList.drop a) = none) ∨ ∃ t m, a < m ∧ m ≤ s.size ∧ endOf nm s a = (m : Int) ∧ E nm (s.data.toList.drop a) = some (t, s.data.toList.drop m) := by
  unfold endOf
  cases he : E nm (s.data.toList.drop a) with
  | none => exact .inl ⟨rfl, rfl⟩
  | some x =>
    obtain ⟨t, r⟩ := x
    obtain ⟨h1, h2⟩ := E_lt hn he
    have h3 : (s.data.toList.drop a).length = s.size - a := by simp
    have h4 : a ≤ s.size := by
      rcases Nat.lt_or_ge s.size a with h | h
      · omega
      · exact h
    refine .inr ⟨t, s.size - r.length, by omega, by omega, by simp only []; omega, ?_⟩
    rw [List.drop_drop] at h2
    rw [show s.size - r.length = a + ((s.data.toList.drop a).length - r.length) by omega, h2]
include hn
theorem endOf_ge (h : s.size ≤ a) : endOf nm s a = -1 := by
  rw [endOf, List.drop_of_length_le (by simpa using h), E_mt hn]
theorem endOf_zero (hlt : a < s.size) (h : s[a] = 48) : endOf nm s a = (a : Int) + 1 := by
  rw [endOf, drop_at s a hlt, h, E_zero hn]
  simp; omega
omit hn in
theorem endOf_map {b : Nat} {f : Tm → Tm} (h : E nm (s.data.toList.drop a) = (E nm (s.data.toList.drop b)).map fun x => (f x.1, x.2)) : endOf nm s b = endOf nm s a := by
  unfold endOf; rw [h]; cases E nm (s.data.toList.drop b) <;> rfl
omit hn in
theorem endOf_none (h : E nm (s.data.toList.drop a) = none) : endOf nm s a = -1 := by
  unfold endOf; rw [h]
theorem endOf_rep (hlt : a < s.size) (h : s[a] = 42) : endOf nm s (a + 1) = endOf nm s a :=
  endOf_map (by rw [drop_at s a hlt, h, E_rep hn])
theorem endOf_tau (hlt : a + 1 < s.size) (h : s[a] = 126) (h1 : s[a + 1] = 46) : endOf nm s (a + 2) = endOf nm s a :=
  endOf_map (by rw [drop_at s a (by omega), drop_at s (a + 1) hlt, h, h1, E_tau hn])
theorem endOf_tau_no (hlt : a < s.size) (h : s[a] = 126) (h1 : ∀ _ : a + 1 < s.size, s[a + 1] = 46 → False) : endOf nm s a = -1 := by
  refine endOf_none ?_
  rw [drop_at s a hlt, h]
  refine E_tau_no hn fun l' e => ?_
  have hb : a + 1 < s.size := by
    rcases Nat.lt_or_ge (a + 1) s.size with h | h
    · exact h
    · rw [List.drop_of_length_le (by simpa using h)] at e; cases e
  rw [drop_at s (a + 1) hb] at e
  simp only [List.cons.injEq] at e
  exact h1 hb e.1
theorem endOf_own (hlt : a + 2 < s.size) (h : s[a] = 35) (h1 : nm s[a + 1] = true) (h2 : s[a + 2] = 46) : endOf nm s (a + 3) = endOf nm s a :=
  endOf_map (by rw [drop_at s a (by omega), drop_at s (a + 1) (by omega), drop_at s (a + 2) hlt, h, h2, E_own hn h1])
omit hn in
theorem drop_cons_lt {s : ByteArray} {a : Nat} {c : UInt8} {l : List UInt8} (e : s.data.toList.drop a = c :: l) : ∃ h : a < s.size, s[a] = c ∧ s.data.toList.drop (a + 1) = l := by
  have hb : a < s.size := by
    rcases Nat.lt_or_ge a s.size with h | h
    · exact h
    · rw [List.drop_of_length_le (by simpa using h)] at e; cases e
  rw [drop_at s a hb] at e
  simp only [List.cons.injEq] at e
  exact ⟨hb, e⟩
theorem endOf_own_no (hlt : a < s.size) (h : s[a] = 35) (h1 : ∀ _ : a + 2 < s.size, nm s[a + 1] = true → s[a + 2] = 46 → False) : endOf nm s a = -1 := by
  refine endOf_none ?_
  rw [drop_at s a hlt, h]
  refine E_own_no hn fun x l' e => ?_
  obtain ⟨b1, e1, e⟩ := drop_cons_lt e
  obtain ⟨b2, e2, e⟩ := drop_cons_lt e
  cases hx : nm x with
  | false => rfl
  | true => exact (h1 b2 (by rw [e1]; exact hx) e2).elim
theorem endOf_mat (hlt : a + 4 < s.size) (h : s[a] = 91) (h1 : nm s[a + 1] = true) (h2 : s[a + 2] = 61) (h3 : nm s[a + 3] = true) (h4 : s[a + 4] = 93) : endOf nm s (a + 5) = endOf nm s a :=
  endOf_map (by rw [drop_at s a (by omega), drop_at s (a + 1) (by omega), drop_at s (a + 2) (by omega), drop_at s (a + 3) (by omega), drop_at s (a + 4) (by omega), h, h2, h4, E_mat hn h1 h3])
theorem endOf_mat_no (hlt : a < s.size) (h : s[a] = 91) (h1 : ∀ _ : a + 4 < s.size, nm s[a + 1] = true → s[a + 2] = 61 → nm s[a + 3] = true → s[a + 4] = 93 → False) : endOf nm s a = -1 := by
  refine endOf_none ?_
  rw [drop_at s a hlt, h]
  refine E_mat_no hn fun x y l' e hx => ?_
  obtain ⟨b1, e1, e⟩ := drop_cons_lt e
  obtain ⟨b2, e2, e⟩ := drop_cons_lt e
  obtain ⟨b3, e3, e⟩ := drop_cons_lt e
  obtain ⟨b4, e4, e⟩ := drop_cons_lt e
  cases hy : nm y with
  | false => rfl
  | true => exact (h1 b4 (by rw [e1]; exact hx) e2 (by rw [e3]; exact hy) e4).elim
theorem endOf_snd (hlt : a + 3 < s.size) (h : nm s[a] = true) (h1 : s[a + 1] = 33) (h2 : nm s[a + 2] = true) (h3 : s[a + 3] = 46) : endOf nm s (a + 4) = endOf nm s a :=
  endOf_map (by rw [drop_at s a (by omega), drop_at s (a + 1) (by omega), drop_at s (a + 2) (by omega), drop_at s (a + 3) (by omega), h1, h3, E_snd hn h h2])
theorem endOf_rcv (hlt : a + 3 < s.size) (h : nm s[a] = true) (h1 : s[a + 1] = 63) (h2 : nm s[a + 2] = true) (h3 : s[a + 3] = 46) : endOf nm s (a + 4) = endOf nm s a :=
  endOf_map (by rw [drop_at s a (by omega), drop_at s (a + 1) (by omega), drop_at s (a + 2) (by omega), drop_at s (a + 3) (by omega), h1, h3, E_rcv hn h h2])
theorem endOf_other (hlt : a < s.size) (h0 : s[a] ≠ 48) (h1 : s[a] ≠ 42) (h2 : s[a] ≠ 126) (h3 : s[a] ≠ 35) (h4 : s[a] ≠ 91) (h5 : s[a] ≠ 40)
    (h6 : ∀ _ : a + 3 < s.size, nm s[a] = true → (s[a + 1] = 33 ∨ s[a + 1] = 63) → nm s[a + 2] = true → s[a + 3] = 46 → False) : endOf nm s a = -1 := by
  refine endOf_none ?_
  rw [drop_at s a hlt]
  refine E_other hn h0 h1 h2 h3 h4 h5 fun m x l' e hm hc => ?_
  obtain ⟨b1, e1, e⟩ := drop_cons_lt e
  obtain ⟨b2, e2, e⟩ := drop_cons_lt e
  obtain ⟨b3, e3, e⟩ := drop_cons_lt e
  cases hx : nm x with
  | false => rfl
  | true => exact (h6 b3 hc (by rw [e1]; exact hm) (by rw [e2]; exact hx) e3).elim
theorem endOf_pair_no1 (hlt : a < s.size) (h : s[a] = 40) (h1 : E nm (s.data.toList.drop (a + 1)) = none) : endOf nm s a = -1 := by
  refine endOf_none ?_
  rw [drop_at s a hlt, h, E_pair_no1 hn h1]
theorem endOf_pair_no2 {m : Nat} {t : Tm} (hlt : a < s.size) (h : s[a] = 40) (h1 : E nm (s.data.toList.drop (a + 1)) = some (t, s.data.toList.drop m)) (h2 : ∀ _ : m < s.size, s[m] ≠ 43 ∧ s[m] ≠ 38) : endOf nm s a = -1 := by
  refine endOf_none ?_
  rw [drop_at s a hlt, h, E_pair_no2 hn h1]
  intro r'
  constructor
  · intro e
    obtain ⟨b1, e1, e⟩ := drop_cons_lt e
    exact (h2 b1).1 e1
  · intro e
    obtain ⟨b1, e1, e⟩ := drop_cons_lt e
    exact (h2 b1).2 e1
theorem endOf_pair_no3 {m : Nat} {t : Tm} (hlt : a < s.size) (hm : m < s.size) (h : s[a] = 40) (h1 : E nm (s.data.toList.drop (a + 1)) = some (t, s.data.toList.drop m)) (h2 : E nm (s.data.toList.drop (m + 1)) = none) : endOf nm s a = -1 := by
  refine endOf_none ?_
  rw [drop_at s m hm] at h1
  rw [drop_at s a hlt, h, E_pair_no3 hn h1 h2]
theorem endOf_pair_no4 {m n : Nat} {t q : Tm} (hlt : a < s.size) (hm : m < s.size) (h : s[a] = 40) (h1 : E nm (s.data.toList.drop (a + 1)) = some (t, s.data.toList.drop m)) (h2 : E nm (s.data.toList.drop (m + 1)) = some (q, s.data.toList.drop n)) (h3 : ∀ _ : n < s.size, s[n] ≠ 41) : endOf nm s a = -1 := by
  refine endOf_none ?_
  rw [drop_at s m hm] at h1
  rw [drop_at s a hlt, h, E_pair_no4 hn h1 h2]
  intro r' e
  obtain ⟨b1, e1, e⟩ := drop_cons_lt e
  exact h3 b1 e1
theorem E_pair {m n : Nat} {t q : Tm} (hlt : a < s.size) (hm : m < s.size) (hn' : n < s.size) (h : s[a] = 40) (h1 : E nm (s.data.toList.drop (a + 1)) = some (t, s.data.toList.drop m)) (h2 : E nm (s.data.toList.drop (m + 1)) = some (q, s.data.toList.drop n)) (h3 : s[m] = 43 ∨ s[m] = 38) (h4 : s[n] = 41) :
    E nm (s.data.toList.drop a) = some (if s[m] = 43 then .sum t q else .par t q, s.data.toList.drop (n + 1)) := by
  rw [drop_at s m hm] at h1
  rw [drop_at s n hn', h4] at h2
  rw [drop_at s a hlt, h]
  rcases h3 with h3 | h3
  · rw [h3] at h1 ⊢
    rw [E_sum hn h1 h2, if_pos rfl]
  · rw [h3] at h1 ⊢
    rw [E_par hn h1 h2, if_neg (by decide)]
theorem endOf_pair {m n : Nat} {t q : Tm} (hlt : a < s.size) (hm : m < s.size) (hn' : n < s.size) (h : s[a] = 40) (h1 : E nm (s.data.toList.drop (a + 1)) = some (t, s.data.toList.drop m)) (h2 : E nm (s.data.toList.drop (m + 1)) = some (q, s.data.toList.drop n)) (h3 : s[m] = 43 ∨ s[m] = 38) (h4 : s[n] = 41) : endOf nm s a = (n : Int) + 1 := by
  unfold endOf
  rw [E_pair hn hlt hm hn' h h1 h2 h3 h4]
  simp; omega
end

end Go.Proofs.Ytpabmidjfpabdaa.T1
