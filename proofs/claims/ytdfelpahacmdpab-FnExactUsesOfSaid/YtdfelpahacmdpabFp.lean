/- The first letter that is not in a list; a sign beyond the letters, if all are: plain lemmas. -/
import Derived.Test.YtdfelpahacmdpabNm
namespace Go.Proofs.Ytdfelpahacmdpab.T1

def fresh (s : List UInt8) : UInt8 :=
  match (List.range 26).find? (fun i => decide (UInt8.ofNat (97 + i) ∉ s)) with
  | some i => UInt8.ofNat (97 + i)
  | none => match (List.range 63).find? (fun i => decide (UInt8.ofNat (128 + i) ∉ s)) with
    | some i => UInt8.ofNat (128 + i)
    | none => 191
theorem find_first (p : Nat → Bool) (n k : Nat) (hk : k < n) (h1 : ∀ i, i < k → p i = false) (h2 : p k = true) : (List.range n).find? p = some k := by
  rw [List.find?_eq_some_iff_append]
  refine ⟨h2, List.range k, (List.range (n - k - 1)).map (k + 1 + ·), ?_, ?_⟩
  · have e : n = k + (1 + (n - k - 1)) := by omega
    conv => lhs; rw [e, List.range_add, List.range_add]
    simp [Nat.add_assoc]
  · intro a ha
    rw [List.mem_range] at ha
    rw [h1 a ha]; rfl
theorem find_all (p : Nat → Bool) (n : Nat) (h1 : ∀ i, i < n → p i = false) : (List.range n).find? p = none := by
  rw [List.find?_eq_none]
  intro x hx
  rw [List.mem_range] at hx
  rw [h1 x hx]; decide
theorem fresh_low (s : List UInt8) (k : Nat) (hk : k < 26) (h1 : ∀ i, i < k → UInt8.ofNat (97 + i) ∈ s) (h2 : UInt8.ofNat (97 + k) ∉ s) : fresh s = UInt8.ofNat (97 + k) := by
  unfold fresh
  rw [find_first _ 26 k hk (fun i hi => decide_eq_false (not_not_intro (h1 i hi))) (decide_eq_true h2)]
theorem fresh_high (s : List UInt8) (k : Nat) (hk : k < 63) (h0 : ∀ i, i < 26 → UInt8.ofNat (97 + i) ∈ s) (h1 : ∀ i, i < k → UInt8.ofNat (128 + i) ∈ s) (h2 : UInt8.ofNat (128 + k) ∉ s) : fresh s = UInt8.ofNat (128 + k) := by
  unfold fresh
  rw [find_all _ 26 (fun i hi => decide_eq_false (not_not_intro (h0 i hi))), find_first _ 63 k hk (fun i hi => decide_eq_false (not_not_intro (h1 i hi))) (decide_eq_true h2)]
theorem fresh_last (s : List UInt8) (h0 : ∀ i, i < 26 → UInt8.ofNat (97 + i) ∈ s) (h1 : ∀ i, i < 63 → UInt8.ofNat (128 + i) ∈ s) : fresh s = 191 := by
  unfold fresh
  rw [find_all _ 26 (fun i hi => decide_eq_false (not_not_intro (h0 i hi))), find_all _ 63 (fun i hi => decide_eq_false (not_not_intro (h1 i hi)))]
theorem find_cases (p : Nat → Bool) (n : Nat) : (∃ k, k < n ∧ (∀ i, i < k → p i = false) ∧ p k = true) ∨ ∀ i, i < n → p i = false := by
  induction n with
  | zero => exact .inr fun i h => by omega
  | succ n ih =>
    rcases ih with ⟨k, h1, h2⟩ | h
    · exact .inl ⟨k, by omega, h2⟩
    · cases hn : p n with
      | true => exact .inl ⟨n, by omega, h, hn⟩
      | false =>
        refine .inr fun i hi => ?_
        rcases Nat.lt_or_ge i n with h' | h'
        · exact h i h'
        · rw [show i = n by omega]; exact hn
theorem fresh_cases (s : List UInt8) : (∃ k, k < 26 ∧ (∀ i, i < k → UInt8.ofNat (97 + i) ∈ s) ∧ UInt8.ofNat (97 + k) ∉ s ∧ fresh s = UInt8.ofNat (97 + k)) ∨
    ((∀ i, i < 26 → UInt8.ofNat (97 + i) ∈ s) ∧ ((∃ k, k < 63 ∧ (∀ i, i < k → UInt8.ofNat (128 + i) ∈ s) ∧ UInt8.ofNat (128 + k) ∉ s ∧ fresh s = UInt8.ofNat (128 + k)) ∨ ((∀ i, i < 63 → UInt8.ofNat (128 + i) ∈ s) ∧ fresh s = 191))) := by
  rcases find_cases (fun i => decide (UInt8.ofNat (97 + i) ∉ s)) 26 with ⟨k, h1, h2, h3⟩ | h
  · have h2' : ∀ i, i < k → UInt8.ofNat (97 + i) ∈ s := fun i hi => Decidable.not_not.1 (of_decide_eq_false (h2 i hi))
    have h3' : UInt8.ofNat (97 + k) ∉ s := of_decide_eq_true h3
    exact .inl ⟨k, h1, h2', h3', fresh_low s k h1 h2' h3'⟩
  · have h' : ∀ i, i < 26 → UInt8.ofNat (97 + i) ∈ s := fun i hi => Decidable.not_not.1 (of_decide_eq_false (h i hi))
    refine .inr ⟨h', ?_⟩
    rcases find_cases (fun i => decide (UInt8.ofNat (128 + i) ∉ s)) 63 with ⟨k, h1, h2, h3⟩ | h
    · have h2' : ∀ i, i < k → UInt8.ofNat (128 + i) ∈ s := fun i hi => Decidable.not_not.1 (of_decide_eq_false (h2 i hi))
      have h3' : UInt8.ofNat (128 + k) ∉ s := of_decide_eq_true h3
      exact .inl ⟨k, h1, h2', h3', fresh_high s k h1 h' h2' h3'⟩
    · have h'' : ∀ i, i < 63 → UInt8.ofNat (128 + i) ∈ s := fun i hi => Decidable.not_not.1 (of_decide_eq_false (h i hi))
      exact .inr ⟨h'', fresh_last s h' h''⟩

end Go.Proofs.Ytdfelpahacmdpab.T1
