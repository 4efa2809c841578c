/- Texts of the proof, put together: Cn, Cda. No conditions. -/
import Derived.Test.YtohaddhjnghcpaaDoorHbd

/- Names bound in an order that is given: all at once, and step by step: plain lemmas. -/
namespace Go.Proofs.YtohaddhjnghcpaaDoor.T1
set_option linter.unusedVariables false

/-- The letters that are not in a list, in order. -/
def othL (l : List UInt8) : List UInt8 := ((List.range 26).map fun i => UInt8.ofNat (97 + i)).filter fun c => decide (c ∉ l)
def lowL : List UInt8 := (List.range 26).map fun i => UInt8.ofNat (97 + i)
theorem lowL_srt : Srt lowL := by unfold Srt lowL; decide +kernel
theorem othL_srt (l : List UInt8) : Srt (othL l) := List.Pairwise.filter _ lowL_srt
theorem mem_low (c : UInt8) : c ∈ lowL ↔ 97 ≤ c.toNat ∧ c.toNat ≤ 122 := by
  unfold lowL
  rw [List.mem_map]
  constructor
  · rintro ⟨i, hi, rfl⟩
    rw [List.mem_range] at hi
    rw [UInt8.toNat_ofNat']; omega
  · intro h
    exact ⟨c.toNat - 97, List.mem_range.2 (by omega), u8_ext (by rw [UInt8.toNat_ofNat']; omega)⟩
theorem mem_oth (l : List UInt8) (c : UInt8) : c ∈ othL l ↔ (97 ≤ c.toNat ∧ c.toNat ≤ 122) ∧ c ∉ l := by
  rw [← mem_low]; unfold othL lowL; rw [List.mem_filter]; simp
theorem fresh_oth (l : List UInt8) : (∃ c r, othL l = c :: r ∧ fresh l = c ∧ c.toNat ≤ 122) ∨ (othL l = [] ∧ 122 < (fresh l).toNat) := by
  rcases fresh_cases l with ⟨k, h1, h2, h3, h4⟩ | ⟨h0, h⟩
  · left
    have hs := othL_srt l
    have hmem : UInt8.ofNat (97 + k) ∈ othL l := (mem_oth _ _).2 ⟨by rw [UInt8.toNat_ofNat']; omega, h3⟩
    cases ho : othL l with
    | nil => rw [ho] at hmem; cases hmem
    | cons c r =>
      have hc : c = UInt8.ofNat (97 + k) := by
        rw [ho] at hs hmem
        rcases List.mem_cons.1 hmem with h | h
        · exact h.symm
        · have h5 := (List.pairwise_cons.1 hs).1 _ h
          have h6 := (mem_oth l c).1 (by rw [ho]; simp)
          rw [u8_lt, UInt8.toNat_ofNat'] at h5
          exact absurd (by have := h2 (c.toNat - 97) (by omega); rw [show UInt8.ofNat (97 + (c.toNat - 97)) = c from u8_ext (by rw [UInt8.toNat_ofNat']; omega)] at this; exact this) h6.2
      exact ⟨c, r, rfl, by rw [h4, hc], by rw [hc, UInt8.toNat_ofNat']; omega⟩
  · right
    refine ⟨?_, ?_⟩
    · cases ho : othL l with
      | nil => rfl
      | cons c r =>
        have h6 := (mem_oth l c).1 (by rw [ho]; simp)
        exact absurd (by have := h0 (c.toNat - 97) (by omega); rw [show UInt8.ofNat (97 + (c.toNat - 97)) = c from u8_ext (by rw [UInt8.toNat_ofNat']; omega)] at this; exact this) h6.2
    · rcases h with ⟨k, h1, _, _, h4⟩ | ⟨_, h4⟩
      · rw [h4, UInt8.toNat_ofNat']; omega
      · rw [h4]; decide
end Go.Proofs.YtohaddhjnghcpaaDoor.T1

/- Codings as trees: tuples that are sent and received, fresh letters one after the other: plain lemmas. No conditions. -/
namespace Go.Proofs.YtohaddhjnghcpaaDoor.T1

/-- Sends over one name, one after the other. -/
def snds (w : UInt8) : List UInt8 → Tm → Tm
  | [], p => p
  | b :: l, p => .snd w b (snds w l p)
def rcvs (w : UInt8) : List UInt8 → Tm → Tm
  | [], p => p
  | b :: l, p => .rcv w b (rcvs w l p)
def sendW (w a : UInt8) (l : List UInt8) (p : Tm) : Tm := .own w (.snd a w (snds w l p))
def recvW (w a : UInt8) (l : List UInt8) (p : Tm) : Tm := .rcv a w (rcvs w l p)
/-- The name over which a tuple goes. -/
def linkN (a : UInt8) (l : List UInt8) (p : Tm) : UInt8 := fresh (a :: (l ++ p.free))
def sendC (a : UInt8) (l : List UInt8) (p : Tm) : Tm := sendW (linkN a l p) a l p
def recvC (a : UInt8) (l : List UInt8) (p : Tm) : Tm := recvW (linkN a l p) a l p

theorem fresh_ext {l m : List UInt8} (h : ∀ x, x ∈ l ↔ x ∈ m) : fresh l = fresh m := by
  unfold fresh
  have e : ∀ x, decide (x ∉ l) = decide (x ∉ m) := fun x => by simp [h]
  simp only [e]
theorem fresh_none {l : List UInt8} (h : othL l = []) : nmL (fresh l) = false := by
  rcases fresh_oth l with ⟨c', r', h1, h2, _⟩ | ⟨_, h1⟩
  · rw [h] at h1; cases h1
  · cases hh : nmL (fresh l) with
    | false => rfl
    | true => have := (nmL_iff _).1 hh; omega
theorem fresh_some {l : List UInt8} (h : othL l ≠ []) : nmL (fresh l) = true := by
  rcases fresh_oth l with ⟨c', r', h1, h2, h3⟩ | ⟨h1, _⟩
  · have := (mem_oth l c').1 (by rw [h1]; simp)
    rw [h2]; exact (nmL_iff _).2 this.1
  · exact absurd h1 h
theorem snds_ok (nm : UInt8 → Bool) (w : UInt8) (l : List UInt8) (p : Tm) : (snds w l p).ok nm = ((l.all fun b => nm w && nm b) && p.ok nm) := by
  induction l with
  | nil => simp [snds]
  | cons b l ih => simp only [snds, Tm.ok, ih, List.all_cons, Bool.and_assoc]
theorem rcvs_ok (nm : UInt8 → Bool) (w : UInt8) (l : List UInt8) (p : Tm) : (rcvs w l p).ok nm = ((l.all fun b => nm w && nm b) && p.ok nm) := by
  induction l with
  | nil => simp [rcvs]
  | cons b l ih => simp only [rcvs, Tm.ok, ih, List.all_cons, Bool.and_assoc]
theorem snds_pr (w : UInt8) (l : List UInt8) (p : Tm) : (snds w l p).pr = (l.map fun b => [w, 33, b, 46]).flatten ++ p.pr := by
  induction l with
  | nil => simp [snds]
  | cons b l ih => simp [snds, Tm.pr, ih]
theorem rcvs_pr (w : UInt8) (l : List UInt8) (p : Tm) : (rcvs w l p).pr = (l.map fun b => [w, 63, b, 46]).flatten ++ p.pr := by
  induction l with
  | nil => simp [rcvs]
  | cons b l ih => simp [rcvs, Tm.pr, ih]
theorem snds_len (w : UInt8) (l : List UInt8) (p : Tm) : (snds w l p).pr.length = 4 * l.length + p.pr.length := by
  induction l with
  | nil => simp [snds]
  | cons b l ih => simp [snds, Tm.pr, ih]; omega
theorem rcvs_len (w : UInt8) (l : List UInt8) (p : Tm) : (rcvs w l p).pr.length = 4 * l.length + p.pr.length := by
  induction l with
  | nil => simp [rcvs]
  | cons b l ih => simp [rcvs, Tm.pr, ih]; omega
theorem sendW_len (w a : UInt8) (l : List UInt8) (p : Tm) : (sendW w a l p).pr.length = 7 + 4 * l.length + p.pr.length := by
  simp [sendW, Tm.pr, snds_len]; omega
theorem recvW_len (w a : UInt8) (l : List UInt8) (p : Tm) : (recvW w a l p).pr.length = 4 + 4 * l.length + p.pr.length := by
  simp [recvW, Tm.pr, rcvs_len]; omega
theorem sendW_ok {nm : UInt8 → Bool} {w a : UInt8} {l : List UInt8} {p : Tm} (hw : nm w = true) (ha : nm a = true) (hl : ∀ c ∈ l, nm c = true) (hp : p.ok nm = true) : (sendW w a l p).ok nm = true := by
  simp only [sendW, Tm.ok, snds_ok, hw, ha, hp, Bool.and_true, Bool.true_and, List.all_eq_true]
  exact hl
theorem recvW_ok {nm : UInt8 → Bool} {w a : UInt8} {l : List UInt8} {p : Tm} (hw : nm w = true) (ha : nm a = true) (hl : ∀ c ∈ l, nm c = true) (hp : p.ok nm = true) : (recvW w a l p).ok nm = true := by
  simp only [recvW, Tm.ok, rcvs_ok, hw, ha, hp, Bool.and_true, Bool.true_and, List.all_eq_true]
  exact hl
theorem sendW_no {w a : UInt8} {l : List UInt8} {p : Tm} (hw : nmL w = false) : (sendW w a l p).ok nmL = false := by simp [sendW, Tm.ok, hw]
theorem recvW_no {w a : UInt8} {l : List UInt8} {p : Tm} (hw : nmL w = false) : (recvW w a l p).ok nmL = false := by simp [recvW, Tm.ok, hw]
theorem sendC_okE {a : UInt8} {l : List UInt8} {p : Tm} (ha : nmE a = true) (hl : ∀ c ∈ l, nmE c = true) (hp : p.ok nmE = true) : (sendC a l p).ok nmE = true := sendW_ok (fresh_nm _) ha hl hp
theorem recvC_okE {a : UInt8} {l : List UInt8} {p : Tm} (ha : nmE a = true) (hl : ∀ c ∈ l, nmE c = true) (hp : p.ok nmE = true) : (recvC a l p).ok nmE = true := recvW_ok (fresh_nm _) ha hl hp
theorem nmE_of {c : UInt8} (h : nmL c = true) : nmE c = true := by
  have := (nmL_iff c).1 h
  simp [nmE, this]
/-- The names that the program holds as taken for a tuple. -/
def takenT (a : UInt8) (l : List UInt8) (p : Tm) : List UInt8 := addL (bothL p.free (bothL [] l)) a
theorem mem_takenT (a : UInt8) (l : List UInt8) (p : Tm) (x : UInt8) : x ∈ takenT a l p ↔ x ∈ a :: (l ++ p.free) := by
  unfold takenT; rw [mem_addL, mem_bothL, mem_bothL]; simp; grind
theorem linkN_eq (a : UInt8) (l : List UInt8) (p : Tm) : linkN a l p = fresh (takenT a l p) := fresh_ext fun x => (mem_takenT a l p x).symm

end Go.Proofs.YtohaddhjnghcpaaDoor.T1
