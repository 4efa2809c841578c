/- Texts of the proof, put together: Cn, Cda. No conditions. -/
import Derived.Test.YtohaddhjnghcpaaHac

/- Names bound in an order that is given: all at once, and step by step: plain lemmas. -/
namespace Go.Proofs.Ytohaddhjnghcpaa.T1
set_option linter.unusedVariables false

/-- The letters that are not in a list, in order. -/
def othL (l : List UInt8) : List UInt8 := ((List.range 26).map fun i => UInt8.ofNat (97 + i)).filter fun c => decide (c ∉ l)
def lowL : List UInt8 := (List.range 26).map fun i => UInt8.ofNat (97 + i)
theorem lowL_srt : Srt lowL := by unfold Srt lowL; decide +kernel
theorem othL_srt (l : List UInt8) : Srt (othL l) := List.Pairwise.filter _ lowL_srt
theorem mem_low (c : UInt8) : c ∈ lowL ↔ 97 ≤ c.toNat ∧ c.toNat ≤ 122 := by
  unfold lowL
  rw [List.mem_map]
  constructor
  · rintro ⟨i, hi, rfl⟩
    rw [List.mem_range] at hi
    rw [UInt8.toNat_ofNat']; omega
  · intro h
    exact ⟨c.toNat - 97, List.mem_range.2 (by omega), u8_ext (by rw [UInt8.toNat_ofNat']; omega)⟩
theorem mem_oth (l : List UInt8) (c : UInt8) : c ∈ othL l ↔ (97 ≤ c.toNat ∧ c.toNat ≤ 122) ∧ c ∉ l := by
  rw [← mem_low]; unfold othL lowL; rw [List.mem_filter]; simp
theorem fresh_oth (l : List UInt8) : (∃ c r, othL l = c :: r ∧ fresh l = c ∧ c.toNat ≤ 122) ∨ (othL l = [] ∧ 122 < (fresh l).toNat) := by
  rcases fresh_cases l with ⟨k, h1, h2, h3, h4⟩ | ⟨h0, h⟩
  · left
    have hs := othL_srt l
    have hmem : UInt8.ofNat (97 + k) ∈ othL l := (mem_oth _ _).2 ⟨by rw [UInt8.toNat_ofNat']; omega, h3⟩
    cases ho : othL l with
    | nil => rw [ho] at hmem; cases hmem
    | cons c r =>
      have hc : c = UInt8.ofNat (97 + k) := by
        rw [ho] at hs hmem
        rcases List.mem_cons.1 hmem with h | h
        · exact h.symm
        · have h5 := (List.pairwise_cons.1 hs).1 _ h
          have h6 := (mem_oth l c).1 (by rw [ho]; simp)
          rw [u8_lt, UInt8.toNat_ofNat'] at h5
          exact absurd (by have := h2 (c.toNat - 97) (by omega); rw [show UInt8.ofNat (97 + (c.toNat - 97)) = c from u8_ext (by rw [UInt8.toNat_ofNat']; omega)] at this; exact this) h6.2
      exact ⟨c, r, rfl, by rw [h4, hc], by rw [hc, UInt8.toNat_ofNat']; omega⟩
  · right
    refine ⟨?_, ?_⟩
    · cases ho : othL l with
      | nil => rfl
      | cons c r =>
        have h6 := (mem_oth l c).1 (by rw [ho]; simp)
        exact absurd (by have := h0 (c.toNat - 97) (by omega); rw [show UInt8.ofNat (97 + (c.toNat - 97)) = c from u8_ext (by rw [UInt8.toNat_ofNat']; omega)] at this; exact this) h6.2
    · rcases h with ⟨k, h1, _, _, h4⟩ | ⟨_, h4⟩
      · rw [h4, UInt8.toNat_ofNat']; omega
      · rw [h4]; decide
theorem oth_add {l : List UInt8} {c : UInt8} {r : List UInt8} (h : othL l = c :: r) : othL (addL l c) = r := by
  have hs := othL_srt l
  rw [h] at hs
  refine srt_ext (othL_srt _) (List.pairwise_cons.1 hs).2 fun x => ?_
  rw [mem_oth, mem_addL]
  have h1 := mem_oth l x
  rw [h, List.mem_cons] at h1
  have h2 : x ∈ r → x ≠ c := fun hx e => by have := (List.pairwise_cons.1 hs).1 x hx; rw [e, u8_lt] at this; omega
  grind
end Go.Proofs.Ytohaddhjnghcpaa.T1

/- Codings as trees: tuples that are sent and received, fresh letters one after the other: plain lemmas. No conditions. -/
namespace Go.Proofs.Ytohaddhjnghcpaa.T1

/-- Sends over one name, one after the other. -/
def snds (w : UInt8) : List UInt8 → Tm → Tm
  | [], p => p
  | b :: l, p => .snd w b (snds w l p)
def rcvs (w : UInt8) : List UInt8 → Tm → Tm
  | [], p => p
  | b :: l, p => .rcv w b (rcvs w l p)
def sendW (w a : UInt8) (l : List UInt8) (p : Tm) : Tm := .own w (.snd a w (snds w l p))
def recvW (w a : UInt8) (l : List UInt8) (p : Tm) : Tm := .rcv a w (rcvs w l p)
/-- The name over which a tuple goes. -/
def linkN (a : UInt8) (l : List UInt8) (p : Tm) : UInt8 := fresh (a :: (l ++ p.free))
def sendC (a : UInt8) (l : List UInt8) (p : Tm) : Tm := sendW (linkN a l p) a l p
def recvC (a : UInt8) (l : List UInt8) (p : Tm) : Tm := recvW (linkN a l p) a l p

theorem fresh_ext {l m : List UInt8} (h : ∀ x, x ∈ l ↔ x ∈ m) : fresh l = fresh m := by
  unfold fresh
  have e : ∀ x, decide (x ∉ l) = decide (x ∉ m) := fun x => by simp [h]
  simp only [e]
theorem oth_ext {l m : List UInt8} (h : ∀ x, x ∈ l ↔ x ∈ m) : othL l = othL m := by
  unfold othL
  have e : ∀ x, decide (x ∉ l) = decide (x ∉ m) := fun x => by simp [h]
  simp only [e]
theorem fresh_cons {l : List UInt8} {c : UInt8} {r : List UInt8} (h : othL l = c :: r) : fresh l = c := by
  rcases fresh_oth l with ⟨c', r', h1, h2, _⟩ | ⟨h1, _⟩
  · rw [h] at h1; cases h1; exact h2
  · rw [h] at h1; cases h1
theorem fresh_none {l : List UInt8} (h : othL l = []) : nmL (fresh l) = false := by
  rcases fresh_oth l with ⟨c', r', h1, h2, _⟩ | ⟨_, h1⟩
  · rw [h] at h1; cases h1
  · cases hh : nmL (fresh l) with
    | false => rfl
    | true => have := (nmL_iff _).1 hh; omega
theorem fresh_some {l : List UInt8} (h : othL l ≠ []) : nmL (fresh l) = true := by
  rcases fresh_oth l with ⟨c', r', h1, h2, h3⟩ | ⟨h1, _⟩
  · have := (mem_oth l c').1 (by rw [h1]; simp)
    rw [h2]; exact (nmL_iff _).2 this.1
  · exact absurd h1 h
/-- Fresh letters one after the other. -/
def frs : Nat → List UInt8 → List UInt8
  | 0, _ => []
  | n + 1, l => fresh l :: frs n (l ++ [fresh l])
theorem oth_next {l : List UInt8} {c : UInt8} {r : List UInt8} (h : othL l = c :: r) : othL (l ++ [c]) = r := by
  rw [← oth_add h]
  exact oth_ext fun x => by rw [mem_addL]; simp
theorem frs_take (n : Nat) : ∀ l, n ≤ (othL l).length → frs n l = (othL l).take n := by
  induction n with
  | zero => intro l _; simp [frs]
  | succ n ih =>
    intro l h
    cases ho : othL l with
    | nil => rw [ho] at h; simp at h
    | cons c r =>
      rw [ho] at h
      simp only [frs, fresh_cons ho, List.take_succ_cons]
      rw [ih _ (by rw [oth_next ho]; simpa using h), oth_next ho]
theorem frs_no (n : Nat) : ∀ l, (othL l).length < n → ∃ c ∈ frs n l, nmL c = false := by
  induction n with
  | zero => intro l h; omega
  | succ n ih =>
    intro l h
    cases ho : othL l with
    | nil => exact ⟨fresh l, by simp [frs], fresh_none ho⟩
    | cons c r =>
      rw [ho] at h
      obtain ⟨d, h1, h2⟩ := ih (l ++ [c]) (by rw [oth_next ho]; simpa using h)
      exact ⟨d, by simp only [frs, fresh_cons ho, List.mem_cons]; exact .inr h1, h2⟩
theorem less_len {c : UInt8} : ∀ {l : List UInt8}, Srt l → l.length ≤ (l.filter fun x => decide (x ≠ c)).length + 1 := by
  intro l
  induction l with
  | nil => intro _; simp
  | cons d r ih =>
    intro h
    have h' := List.pairwise_cons.1 h
    by_cases hc : d = c
    · subst hc
      have : (r.filter fun x => decide (x ≠ d)) = r := by
        rw [List.filter_eq_self]
        intro x hx
        have := h'.1 x hx
        refine decide_eq_true fun e => ?_
        rw [e, u8_lt] at this; omega
      rw [List.filter_cons, this]; simp
    · rw [List.filter_cons, if_pos (decide_eq_true hc)]
      have := ih h'.2
      simp only [List.length_cons]; omega
theorem oth_len : ∀ l : List UInt8, 26 ≤ (othL l).length + l.length := by
  intro l
  induction l with
  | nil => decide +kernel
  | cons c l ih =>
    have h : othL (c :: l) = (othL l).filter fun x => decide (x ≠ c) := by
      refine srt_ext (othL_srt _) (List.Pairwise.filter _ (othL_srt l)) fun x => ?_
      rw [List.mem_filter, mem_oth, mem_oth]
      simp; grind
    rw [h]
    have := less_len (c := c) (othL_srt l)
    simp only [List.length_cons]; omega

theorem snds_ok (nm : UInt8 → Bool) (w : UInt8) (l : List UInt8) (p : Tm) : (snds w l p).ok nm = ((l.all fun b => nm w && nm b) && p.ok nm) := by
  induction l with
  | nil => simp [snds]
  | cons b l ih => simp only [snds, Tm.ok, ih, List.all_cons, Bool.and_assoc]
theorem rcvs_ok (nm : UInt8 → Bool) (w : UInt8) (l : List UInt8) (p : Tm) : (rcvs w l p).ok nm = ((l.all fun b => nm w && nm b) && p.ok nm) := by
  induction l with
  | nil => simp [rcvs]
  | cons b l ih => simp only [rcvs, Tm.ok, ih, List.all_cons, Bool.and_assoc]
theorem snds_pr (w : UInt8) (l : List UInt8) (p : Tm) : (snds w l p).pr = (l.map fun b => [w, 33, b, 46]).flatten ++ p.pr := by
  induction l with
  | nil => simp [snds]
  | cons b l ih => simp [snds, Tm.pr, ih]
theorem rcvs_pr (w : UInt8) (l : List UInt8) (p : Tm) : (rcvs w l p).pr = (l.map fun b => [w, 63, b, 46]).flatten ++ p.pr := by
  induction l with
  | nil => simp [rcvs]
  | cons b l ih => simp [rcvs, Tm.pr, ih]
theorem snds_len (w : UInt8) (l : List UInt8) (p : Tm) : (snds w l p).pr.length = 4 * l.length + p.pr.length := by
  induction l with
  | nil => simp [snds]
  | cons b l ih => simp [snds, Tm.pr, ih]; omega
theorem rcvs_len (w : UInt8) (l : List UInt8) (p : Tm) : (rcvs w l p).pr.length = 4 * l.length + p.pr.length := by
  induction l with
  | nil => simp [rcvs]
  | cons b l ih => simp [rcvs, Tm.pr, ih]; omega
theorem sendW_len (w a : UInt8) (l : List UInt8) (p : Tm) : (sendW w a l p).pr.length = 7 + 4 * l.length + p.pr.length := by
  simp [sendW, Tm.pr, snds_len]; omega
theorem recvW_len (w a : UInt8) (l : List UInt8) (p : Tm) : (recvW w a l p).pr.length = 4 + 4 * l.length + p.pr.length := by
  simp [recvW, Tm.pr, rcvs_len]; omega
theorem sendW_ok {nm : UInt8 → Bool} {w a : UInt8} {l : List UInt8} {p : Tm} (hw : nm w = true) (ha : nm a = true) (hl : ∀ c ∈ l, nm c = true) (hp : p.ok nm = true) : (sendW w a l p).ok nm = true := by
  simp only [sendW, Tm.ok, snds_ok, hw, ha, hp, Bool.and_true, Bool.true_and, List.all_eq_true]
  exact hl
theorem recvW_ok {nm : UInt8 → Bool} {w a : UInt8} {l : List UInt8} {p : Tm} (hw : nm w = true) (ha : nm a = true) (hl : ∀ c ∈ l, nm c = true) (hp : p.ok nm = true) : (recvW w a l p).ok nm = true := by
  simp only [recvW, Tm.ok, rcvs_ok, hw, ha, hp, Bool.and_true, Bool.true_and, List.all_eq_true]
  exact hl
theorem sendC_okE {a : UInt8} {l : List UInt8} {p : Tm} (ha : nmE a = true) (hl : ∀ c ∈ l, nmE c = true) (hp : p.ok nmE = true) : (sendC a l p).ok nmE = true := sendW_ok (fresh_nm _) ha hl hp
theorem nmE_of {c : UInt8} (h : nmL c = true) : nmE c = true := by
  have := (nmL_iff c).1 h
  simp [nmE, this]
theorem okE_of {p : Tm} (h : p.ok nmL = true) : p.ok nmE = true := by
  induction p <;> simp only [Tm.ok, Bool.and_eq_true] at h ⊢ <;> grind [nmE_of]

/-- The names that the program holds as taken for a tuple. -/
def takenT (a : UInt8) (l : List UInt8) (p : Tm) : List UInt8 := addL (bothL p.free (bothL [] l)) a
theorem mem_takenT (a : UInt8) (l : List UInt8) (p : Tm) (x : UInt8) : x ∈ takenT a l p ↔ x ∈ a :: (l ++ p.free) := by
  unfold takenT; rw [mem_addL, mem_bothL, mem_bothL]; simp; grind
theorem linkN_eq (a : UInt8) (l : List UInt8) (p : Tm) : linkN a l p = fresh (takenT a l p) := fresh_ext fun x => (mem_takenT a l p x).symm

end Go.Proofs.Ytohaddhjnghcpaa.T1
