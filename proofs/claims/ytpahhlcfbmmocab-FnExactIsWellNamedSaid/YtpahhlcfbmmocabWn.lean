/- No name is bound twice, or bound and free: plain lemmas. -/
import Derived.Test.YtpahhlcfbmmocabNm
namespace Go.Proofs.Ytpahhlcfbmmocab.T1

def Tm.wellN (t : Tm) : Prop := t.bnd.Nodup ∧ ∀ x ∈ t.bnd, x ∉ t.free
theorem addL_mem {l : List UInt8} (h : Srt l) {c : UInt8} (hc : c ∈ l) : addL l c = l := srt_ext (srt_addL h c) h fun x => by
  rw [mem_addL]
  constructor
  · rintro (h | rfl)
    · exact h
    · exact hc
  · exact .inl
theorem addL_new (l : List UInt8) (c : UInt8) (hc : c ∉ l) : (addL l c).length = l.length + 1 := by
  induction l with
  | nil => rfl
  | cons x l ih =>
    unfold addL
    split
    · simp [ih (fun h => hc (by simp [h]))]
    · split
      · rename_i h; exact absurd (by simp [h]) hc
      · simp
theorem both_len (m : List UInt8) : ∀ (l : List UInt8), Srt l → (bothL l m).length ≤ l.length + m.length ∧ ((bothL l m).length = l.length + m.length ↔ m.Nodup ∧ ∀ x ∈ m, x ∉ l) := by
  induction m with
  | nil => intro l _; simp [bothL]
  | cons c m ih =>
    intro l h
    have h1 := ih (addL l c) (srt_addL h c)
    show (bothL (addL l c) m).length ≤ _ ∧ _
    by_cases hc : c ∈ l
    · rw [addL_mem h hc] at h1
      show (bothL (addL l c) m).length ≤ _ ∧ ((bothL (addL l c) m).length = _ ↔ _)
      rw [addL_mem h hc]
      refine ⟨by simp; omega, ⟨fun e => ?_, fun e => absurd hc (e.2 c (by simp))⟩⟩
      simp at e; omega
    · have h2 := addL_new l c hc
      show (bothL (addL l c) m).length ≤ _ ∧ ((bothL (addL l c) m).length = _ ↔ _)
      refine ⟨by simp; omega, ?_⟩
      rw [show l.length + (c :: m).length = (addL l c).length + m.length by simp; omega, h1.2]
      simp only [List.nodup_cons, mem_addL, List.mem_cons]
      constructor
      · rintro ⟨h3, h4⟩
        refine ⟨⟨fun hm => h4 c hm (.inr rfl), h3⟩, ?_⟩
        rintro x (rfl | hx)
        · exact hc
        · exact fun hl => h4 x hx (.inl hl)
      · rintro ⟨⟨h3, h4⟩, h5⟩
        refine ⟨h4, fun x hx => ?_⟩
        rintro (hl | rfl)
        · exact h5 x (.inr hx) hl
        · exact h3 hx
theorem disj_bits {l m : List UInt8} (h : Lets l) (k : Lets m) : setN l &&& setN m = 0 ↔ ∀ x ∈ l, x ∉ m := by
  constructor
  · intro e x hx hm
    have h1 := (setN_bit l h (x.toNat - 97)).2 ⟨x, hx, by have := h x hx; omega⟩
    have h2 := (setN_bit m k (x.toNat - 97)).2 ⟨x, hm, by have := h x hx; omega⟩
    have h3 := congrArg (fun n => n.testBit (x.toNat - 97)) e
    simp [Nat.testBit_and, h1, h2] at h3
  · intro e
    refine Nat.eq_of_testBit_eq fun i => ?_
    rw [Nat.zero_testBit, Nat.testBit_and, Bool.eq_false_iff]
    intro h1
    rw [Bool.and_eq_true] at h1
    obtain ⟨x, hx, e1⟩ := (setN_bit l h i).1 h1.1
    obtain ⟨y, hy, e2⟩ := (setN_bit m k i).1 h1.2
    obtain rfl : x = y := u8_ext (by omega)
    exact e x hx hy
theorem wellN_iff (t : Tm) (ho : t.ok nmL = true) : t.wellN ↔ t.bnd.length = (bothL [] t.bnd).length ∧ setN t.bnd &&& setN t.free = 0 := by
  unfold Tm.wellN
  rw [disj_bits (lets_bnd t ho) (lets_free t ho)]
  have := (both_len t.bnd [] srt_nil).2
  simp only [List.length_nil, Nat.zero_add, List.not_mem_nil, not_false_eq_true, implies_true, and_true] at this
  rw [← this]
  constructor
  · rintro ⟨h1, h2⟩; exact ⟨h1.symm, h2⟩
  · rintro ⟨h1, h2⟩; exact ⟨h1.symm, h2⟩
theorem setN_nilboth (l : List UInt8) (h : Lets l) : setN (bothL [] l) = setN l := by rw [setN_bothL lets_nil0 h]; simp [setN]

end Go.Proofs.Ytpahhlcfbmmocab.T1
