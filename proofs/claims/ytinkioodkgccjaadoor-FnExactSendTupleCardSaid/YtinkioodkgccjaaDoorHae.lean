/- Texts of the proof, put together: Cn. No conditions. -/
import Derived.Test.YtinkioodkgccjaaDoorHad

/- Names bound in an order that is given: all at once, and step by step: plain lemmas. -/
namespace Go.Proofs.YtinkioodkgccjaaDoor.T1
set_option linter.unusedVariables false

/-- The letters that are not in a list, in order. -/
def othL (l : List UInt8) : List UInt8 := ((List.range 26).map fun i => UInt8.ofNat (97 + i)).filter fun c => decide (c ∉ l)
def lowL : List UInt8 := (List.range 26).map fun i => UInt8.ofNat (97 + i)
theorem lowL_srt : Srt lowL := by unfold Srt lowL; decide +kernel
theorem othL_srt (l : List UInt8) : Srt (othL l) := List.Pairwise.filter _ lowL_srt
theorem mem_low (c : UInt8) : c ∈ lowL ↔ 97 ≤ c.toNat ∧ c.toNat ≤ 122 := by
  unfold lowL
  rw [List.mem_map]
  constructor
  · rintro ⟨i, hi, rfl⟩
    rw [List.mem_range] at hi
    rw [UInt8.toNat_ofNat']; omega
  · intro h
    exact ⟨c.toNat - 97, List.mem_range.2 (by omega), u8_ext (by rw [UInt8.toNat_ofNat']; omega)⟩
theorem mem_oth (l : List UInt8) (c : UInt8) : c ∈ othL l ↔ (97 ≤ c.toNat ∧ c.toNat ≤ 122) ∧ c ∉ l := by
  rw [← mem_low]; unfold othL lowL; rw [List.mem_filter]; simp
theorem fresh_oth (l : List UInt8) : (∃ c r, othL l = c :: r ∧ fresh l = c ∧ c.toNat ≤ 122) ∨ (othL l = [] ∧ 122 < (fresh l).toNat) := by
  rcases fresh_cases l with ⟨k, h1, h2, h3, h4⟩ | ⟨h0, h⟩
  · left
    have hs := othL_srt l
    have hmem : UInt8.ofNat (97 + k) ∈ othL l := (mem_oth _ _).2 ⟨by rw [UInt8.toNat_ofNat']; omega, h3⟩
    cases ho : othL l with
    | nil => rw [ho] at hmem; cases hmem
    | cons c r =>
      have hc : c = UInt8.ofNat (97 + k) := by
        rw [ho] at hs hmem
        rcases List.mem_cons.1 hmem with h | h
        · exact h.symm
        · have h5 := (List.pairwise_cons.1 hs).1 _ h
          have h6 := (mem_oth l c).1 (by rw [ho]; simp)
          rw [u8_lt, UInt8.toNat_ofNat'] at h5
          exact absurd (by have := h2 (c.toNat - 97) (by omega); rw [show UInt8.ofNat (97 + (c.toNat - 97)) = c from u8_ext (by rw [UInt8.toNat_ofNat']; omega)] at this; exact this) h6.2
      exact ⟨c, r, rfl, by rw [h4, hc], by rw [hc, UInt8.toNat_ofNat']; omega⟩
  · right
    refine ⟨?_, ?_⟩
    · cases ho : othL l with
      | nil => rfl
      | cons c r =>
        have h6 := (mem_oth l c).1 (by rw [ho]; simp)
        exact absurd (by have := h0 (c.toNat - 97) (by omega); rw [show UInt8.ofNat (97 + (c.toNat - 97)) = c from u8_ext (by rw [UInt8.toNat_ofNat']; omega)] at this; exact this) h6.2
    · rcases h with ⟨k, h1, _, _, h4⟩ | ⟨_, h4⟩
      · rw [h4, UInt8.toNat_ofNat']; omega
      · rw [h4]; decide
end Go.Proofs.YtinkioodkgccjaaDoor.T1
