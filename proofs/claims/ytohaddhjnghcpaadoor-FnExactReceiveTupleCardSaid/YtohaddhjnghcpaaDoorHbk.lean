/- Texts of the proof, put together: Cu. No conditions. -/
import Derived.Test.YtohaddhjnghcpaaDoorHbe

/- Tuples of letters: plain lemmas. No conditions. -/
namespace Go.Proofs.YtohaddhjnghcpaaDoor.T1

/-- A tuple of letters. -/
def tupB (l : List UInt8) : Bool := decide (1 ≤ l.length) && decide (l.length ≤ 4) && l.all nmL
theorem tupB_iff (l : List UInt8) : tupB l = true ↔ (1 ≤ l.length ∧ l.length ≤ 4) ∧ ∀ c ∈ l, nmL c = true := by simp [tupB]
/-- No letter comes a second time, nor is one of m. -/
def ndp : List UInt8 → List UInt8 → Bool
  | _, [] => true
  | m, c :: l => !decide (c ∈ m) && ndp (m ++ [c]) l
theorem addL_lenE (c : UInt8) : ∀ l : List UInt8, Srt l → (addL l c).length = if c ∈ l then l.length else l.length + 1 := by
  intro l
  induction l with
  | nil => intro _; simp [addL]
  | cons x r ih =>
    intro hs
    have hs' := List.pairwise_cons.1 hs
    simp only [addL]
    by_cases h1 : x < c
    · have hne : c ≠ x := fun e => by rw [e, u8_lt] at h1; omega
      rw [if_pos h1, List.length_cons, ih hs'.2]
      by_cases h2 : c ∈ r
      · rw [if_pos h2, if_pos (List.mem_cons_of_mem _ h2)]; rfl
      · rw [if_neg h2, if_neg (by simp [hne, h2])]; rfl
    · rw [if_neg h1]
      by_cases h2 : x = c
      · rw [if_pos h2, if_pos (by simp [h2])]
      · rw [if_neg h2]
        have h3 : c ∉ x :: r := fun h => by
          rcases List.mem_cons.1 h with e | e
          · exact h2 e.symm
          · exact h1 (hs'.1 c e)
        rw [if_neg h3]; rfl
theorem both_len (l : List UInt8) : ∀ M, Srt M → (bothL M l).length ≤ M.length + l.length := by
  induction l with
  | nil => intro M _; exact Nat.le_refl _
  | cons c l ih =>
    intro M hM
    have h1 := ih (addL M c) (srt_addL hM c)
    have h2 := addL_lenE c M hM
    show (bothL (addL M c) l).length ≤ _
    split at h2 <;> simp only [List.length_cons] <;> omega
theorem ndp_len (l : List UInt8) : ∀ (m M : List UInt8), Srt M → (∀ x, x ∈ m ↔ x ∈ M) → (ndp m l = true ↔ (bothL M l).length = M.length + l.length) := by
  induction l with
  | nil => intro m M _ _; exact ⟨fun _ => rfl, fun _ => rfl⟩
  | cons c l ih =>
    intro m M hM hm
    show _ ↔ (bothL (addL M c) l).length = M.length + (l.length + 1)
    have h2 := addL_lenE c M hM
    have hs := srt_addL hM c
    by_cases hc : c ∈ M
    · rw [if_pos hc] at h2
      have h3 := both_len l (addL M c) hs
      have h4 : ndp m (c :: l) = false := by simp [ndp, (hm c).2 hc]
      rw [h4]
      constructor
      · intro h; cases h
      · intro h; omega
    · rw [if_neg hc] at h2
      have h4 : ndp m (c :: l) = ndp (m ++ [c]) l := by simp [ndp, (hm c), hc]
      rw [h4, ih (m ++ [c]) (addL M c) hs (fun x => by rw [mem_addL, ← hm x]; simp), h2]
      constructor <;> intro h <;> omega
/-- A list of texts of one letter each. -/
theorem pcs_one : ∀ (L : List ByteArray), (∀ x ∈ L, ∃ c, nmL c = true ∧ x.data.toList = [c]) → ∀ c ∈ (L.map (·.data.toList)).flatten, nmL c = true := by
  intro L h c hc
  obtain ⟨l, hl, hcl⟩ := List.mem_flatten.1 hc
  obtain ⟨x, hx, rfl⟩ := List.mem_map.1 hl
  obtain ⟨d, hd, e⟩ := h x hx
  rw [e] at hcl
  simp at hcl
  rw [hcl]; exact hd
/-- The first text that is not one letter. -/
theorem pcs_bad : ∀ (L : List ByteArray), ¬ (∀ x ∈ L, ∃ c, nmL c = true ∧ x.data.toList = [c]) → ∃ (l : List UInt8) (k : Nat) (hk : k < L.length), l.length = k ∧ (∀ c ∈ l, nmL c = true) ∧ (∀ i (h : i < k) (h' : i < l.length), (L[i]'(by omega)).data.toList = [l[i]]) ∧ ∀ c, nmL c = true → (L[k]'hk).data.toList ≠ [c] := by
  intro L
  induction L with
  | nil => intro h; exact absurd (fun x hx => by cases hx) h
  | cons y L ih =>
    intro h
    by_cases hy : ∃ c, nmL c = true ∧ y.data.toList = [c]
    · obtain ⟨c, hc, e⟩ := hy
      obtain ⟨l, k, hk, h1, h2, h3, h4⟩ := ih fun hL => h fun x hx => by
        rcases List.mem_cons.1 hx with rfl | hx
        · exact ⟨c, hc, e⟩
        · exact hL x hx
      refine ⟨c :: l, k + 1, by simp; omega, by simp [h1], by simp [hc]; exact h2, ?_, by simpa using h4⟩
      intro i hi hi'
      cases i with
      | zero => simpa using e
      | succ i => simpa using h3 i (by omega) (by simpa using hi')
    · exact ⟨[], 0, by simp, rfl, by simp, fun i hi => by omega, fun c hc e => hy ⟨c, hc, by simpa using e⟩⟩
end Go.Proofs.YtohaddhjnghcpaaDoor.T1
