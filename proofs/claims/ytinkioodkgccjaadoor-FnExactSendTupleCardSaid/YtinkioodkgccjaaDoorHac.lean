/- Texts of the proof, put together: Nm, Fp, Rn. No conditions. -/
import Derived.Test.YtinkioodkgccjaaDoorHaa

/- Names in order, free and bound names of a tree: plain lemmas. -/
namespace Go.Proofs.YtinkioodkgccjaaDoor.T1

/-- A text of one byte. -/
def one (k : UInt8) : ByteArray := ⟨#[k]⟩
/-- A letter put into a list in order, none twice. -/
def addL : List UInt8 → UInt8 → List UInt8
  | [], c => [c]
  | x :: l, c => if x < c then x :: addL l c else if x = c then x :: l else c :: x :: l
def lessL (l : List UInt8) (c : UInt8) : List UInt8 := l.filter fun x => x != c
def bothL (l m : List UInt8) : List UInt8 := m.foldl addL l
def Srt (l : List UInt8) : Prop := l.Pairwise (· < ·)

theorem u8_lt (a b : UInt8) : a < b ↔ a.toNat < b.toNat := UInt8.lt_iff_toNat_lt
theorem u8_ext {a b : UInt8} (h : a.toNat = b.toNat) : a = b := UInt8.toNat_inj.1 h
theorem mem_addL (l : List UInt8) (c x : UInt8) : x ∈ addL l c ↔ x ∈ l ∨ x = c := by
  induction l with
  | nil => simp [addL]
  | cons y l ih =>
    unfold addL
    split
    · simp [ih, or_assoc]
    · split
      · rename_i h; subst h; simp; intro h; exact .inl h
      · simp; constructor
        · rintro (h | h | h)
          · exact .inr h
          · exact .inl (.inl h)
          · exact .inl (.inr h)
        · rintro ((h | h) | h)
          · exact .inr (.inl h)
          · exact .inr (.inr h)
          · exact .inl h
theorem srt_addL {l : List UInt8} (h : Srt l) (c : UInt8) : Srt (addL l c) := by
  induction l with
  | nil => simp [addL, Srt]
  | cons y l ih =>
    have h' := h
    unfold Srt at h
    rw [List.pairwise_cons] at h
    unfold addL
    split
    · rename_i hy
      unfold Srt
      rw [List.pairwise_cons]
      refine ⟨fun a ha => ?_, ih h.2⟩
      rcases (mem_addL _ _ _).1 ha with ha | rfl
      · exact h.1 a ha
      · exact hy
    · split
      · exact h'
      · rename_i h1 h2
        unfold Srt
        rw [List.pairwise_cons]
        refine ⟨fun a ha => ?_, h'⟩
        have hc : c < y := by
          rw [u8_lt] at h1 ⊢
          have : y.toNat ≠ c.toNat := fun e => h2 (u8_ext e)
          omega
        rcases List.mem_cons.1 ha with rfl | ha
        · exact hc
        · have := h.1 a ha
          rw [u8_lt] at this hc ⊢; omega
theorem mem_bothL (m : List UInt8) : ∀ (l : List UInt8) (x : UInt8), x ∈ bothL l m ↔ x ∈ l ∨ x ∈ m := by
  induction m with
  | nil => intro l x; simp [bothL]
  | cons y m ih => intro l x; show x ∈ bothL (addL l y) m ↔ _; rw [ih, mem_addL]; simp [or_assoc]
theorem srt_bothL (m : List UInt8) : ∀ {l : List UInt8}, Srt l → Srt (bothL l m) := by
  induction m with
  | nil => intro l h; exact h
  | cons y m ih => intro l h; exact ih (srt_addL h y)
theorem mem_lessL (l : List UInt8) (c x : UInt8) : x ∈ lessL l c ↔ x ∈ l ∧ x ≠ c := by simp [lessL]
theorem srt_lessL {l : List UInt8} (h : Srt l) (c : UInt8) : Srt (lessL l c) := List.Pairwise.filter _ h
theorem srt_nil : Srt [] := List.Pairwise.nil
theorem srt_ext : ∀ {l m : List UInt8}, Srt l → Srt m → (∀ x, x ∈ l ↔ x ∈ m) → l = m := by
  intro l
  induction l with
  | nil =>
    intro m _ _ h
    cases m with
    | nil => rfl
    | cons y m => have := (h y).2 (by simp); simp at this
  | cons x l ih =>
    intro m hl hm h
    cases m with
    | nil => have := (h x).1 (by simp); simp at this
    | cons y m =>
      unfold Srt at hl hm
      rw [List.pairwise_cons] at hl hm
      have hxy : x = y := by
        rcases List.mem_cons.1 ((h x).1 (by simp)) with e | hx
        · exact e
        · rcases List.mem_cons.1 ((h y).2 (by simp)) with e | hy
          · exact e.symm
          · have h1 := hm.1 x hx
            have h2 := hl.1 y hy
            rw [u8_lt] at h1 h2; omega
      subst hxy
      rw [ih hl.2 hm.2 fun z => ?_]
      constructor
      · intro hz
        rcases List.mem_cons.1 ((h z).1 (by simp [hz])) with rfl | hz'
        · have := hl.1 z hz; rw [u8_lt] at this; omega
        · exact hz'
      · intro hz
        rcases List.mem_cons.1 ((h z).2 (by simp [hz])) with rfl | hz'
        · have := hm.1 z hz; rw [u8_lt] at this; omega
        · exact hz'
theorem srt_lenA : ∀ (l : List UInt8) (b : Nat), Srt l → (∀ x ∈ l, b ≤ x.toNat) → l.length + b ≤ 256 ∨ l = [] := by
  intro l
  induction l with
  | nil => intro _ _ _; exact .inr rfl
  | cons x l ih =>
    intro b h hb
    unfold Srt at h
    rw [List.pairwise_cons] at h
    have h1 := x.toNat_lt
    have h2 := hb x (by simp)
    left
    rcases ih (x.toNat + 1) h.2 (fun y hy => by have := h.1 y hy; rw [u8_lt] at this; omega) with h3 | rfl
    · simp; omega
    · simp; omega
theorem srt_len {l : List UInt8} (h : Srt l) : l.length ≤ 256 := by
  rcases srt_lenA l 0 h (fun _ _ => Nat.zero_le _) with h | rfl
  · omega
  · simp
theorem addL_at (c : UInt8) : ∀ (l : List UInt8) (k : Nat) (_ : k ≤ l.length) (_ : ∀ i (hi : i < l.length), i < k → l[i] < c) (_ : ∀ hk : k < l.length, ¬ l[k] < c),
    addL l c = if h : k < l.length then (if l[k] = c then l else l.take k ++ c :: l.drop k) else l ++ [c] := by
  intro l
  induction l with
  | nil => intro k hk _ _; simp [addL]
  | cons x l ih =>
    intro k hk h1 h2
    cases k with
    | zero =>
      have := h2 (by simp)
      simp only [List.getElem_cons_zero] at this
      unfold addL
      rw [if_neg this]
      simp
    | succ k =>
      have hx := h1 0 (by simp) (by omega)
      simp only [List.getElem_cons_zero] at hx
      unfold addL
      rw [if_pos hx, ih k (by simpa using hk) (fun i hi hik => by have := h1 (i + 1) (by simpa using hi) (by omega); rwa [List.getElem_cons_succ] at this) (fun hk' => by have := h2 (by simpa using hk'); rwa [List.getElem_cons_succ] at this)]
      by_cases hlt : k < l.length
      · rw [dif_pos hlt, dif_pos (by simpa using hlt)]
        simp only [List.getElem_cons_succ, List.take_succ_cons, List.drop_succ_cons, List.cons_append]
        split <;> rfl
      · rw [dif_neg hlt, dif_neg (by simpa using hlt)]
        rfl
/-- Letters alone. -/
def Lets (l : List UInt8) : Prop := ∀ c ∈ l, 97 ≤ c.toNat ∧ c.toNat ≤ 122
theorem nmL_iff (c : UInt8) : nmL c = true ↔ 97 ≤ c.toNat ∧ c.toNat ≤ 122 := by simp [nmL]

/-- A set of letters, a bit for each. -/
def setN : List UInt8 → Nat
  | [] => 0
  | c :: l => setN l ||| 2 ^ (c.toNat - 97)
theorem setN_bit (l : List UInt8) (h : Lets l) (i : Nat) : (setN l).testBit i = true ↔ ∃ c ∈ l, c.toNat = 97 + i := by
  induction l with
  | nil => simp [setN]
  | cons c l ih =>
    have hc := h c (by simp)
    rw [setN, Nat.testBit_or, Nat.testBit_two_pow, Bool.or_eq_true, ih (fun x hx => h x (by simp [hx])), decide_eq_true_iff]
    constructor
    · rintro (⟨d, hd, e⟩ | e)
      · exact ⟨d, by simp [hd], e⟩
      · exact ⟨c, by simp, by omega⟩
    · rintro ⟨d, hd, e⟩
      rcases List.mem_cons.1 hd with rfl | hd
      · exact .inr (by omega)
      · exact .inl ⟨d, hd, e⟩
theorem setN_lt (l : List UInt8) (h : Lets l) : setN l < 2 ^ 26 := by
  induction l with
  | nil => simp [setN]
  | cons c l ih =>
    have hc := h c (by simp)
    exact Nat.or_lt_two_pow (ih fun x hx => h x (by simp [hx])) (Nat.pow_lt_pow_right (by decide) (by omega))
theorem setN_lt32 (l : List UInt8) (h : Lets l) : setN l < 2 ^ 32 := Nat.lt_of_lt_of_le (setN_lt l h) (by decide)
theorem lets_bothL {l m : List UInt8} (h : Lets l) (k : Lets m) : Lets (bothL l m) := fun c hc => by
  rcases (mem_bothL _ _ _).1 hc with hc | hc
  · exact h c hc
  · exact k c hc
theorem lets_addL {l : List UInt8} {c : UInt8} (h : Lets l) (k : 97 ≤ c.toNat ∧ c.toNat ≤ 122) : Lets (addL l c) := fun x hx => by
  rcases (mem_addL _ _ _).1 hx with hx | rfl
  · exact h x hx
  · exact k
theorem lets_lessL {l : List UInt8} (h : Lets l) (c : UInt8) : Lets (lessL l c) := fun x hx => h x ((mem_lessL _ _ _).1 hx).1
theorem lets_nil0 : Lets [] := fun _ h => by simp at h
theorem bits_ext {a b : Nat} (h : ∀ i, a.testBit i = true ↔ b.testBit i = true) : a = b :=
  Nat.eq_of_testBit_eq fun i => Bool.eq_iff_iff.2 (h i)
theorem setN_addL {l : List UInt8} {c : UInt8} (h : Lets l) (k : 97 ≤ c.toNat ∧ c.toNat ≤ 122) : setN (addL l c) = setN l ||| 2 ^ (c.toNat - 97) := by
  refine bits_ext fun i => ?_
  rw [setN_bit _ (lets_addL h k), Nat.testBit_or, Nat.testBit_two_pow, Bool.or_eq_true, setN_bit _ h, decide_eq_true_iff]
  constructor
  · rintro ⟨d, hd, e⟩
    rcases (mem_addL _ _ _).1 hd with hd | rfl
    · exact .inl ⟨d, hd, e⟩
    · exact .inr (by omega)
  · rintro (⟨d, hd, e⟩ | e)
    · exact ⟨d, (mem_addL _ _ _).2 (.inl hd), e⟩
    · exact ⟨c, (mem_addL _ _ _).2 (.inr rfl), by omega⟩
theorem setN_bothL {l m : List UInt8} (h : Lets l) (k : Lets m) : setN (bothL l m) = setN l ||| setN m := by
  refine bits_ext fun i => ?_
  rw [setN_bit _ (lets_bothL h k), Nat.testBit_or, Bool.or_eq_true, setN_bit _ h, setN_bit _ k]
  constructor
  · rintro ⟨d, hd, e⟩
    rcases (mem_bothL _ _ _).1 hd with hd | hd
    · exact .inl ⟨d, hd, e⟩
    · exact .inr ⟨d, hd, e⟩
  · rintro (⟨d, hd, e⟩ | ⟨d, hd, e⟩)
    · exact ⟨d, (mem_bothL _ _ _).2 (.inl hd), e⟩
    · exact ⟨d, (mem_bothL _ _ _).2 (.inr hd), e⟩
theorem setN_lessL {l : List UInt8} {c : UInt8} (h : Lets l) (k : 97 ≤ c.toNat ∧ c.toNat ≤ 122) : setN (lessL l c) = setN l &&& (4294967295 - 2 ^ (c.toNat - 97)) := by
  have hp : 2 ^ (c.toNat - 97) < 2 ^ 32 := Nat.pow_lt_pow_right (by decide) (by omega)
  refine bits_ext fun i => ?_
  rw [setN_bit _ (lets_lessL h c), Nat.testBit_and, Bool.and_eq_true, setN_bit _ h]
  rw [show (4294967295 - 2 ^ (c.toNat - 97) : Nat) = 2 ^ 32 - (2 ^ (c.toNat - 97) + 1) by omega, Nat.testBit_two_pow_sub_succ hp, Nat.testBit_two_pow]
  simp only [Bool.and_eq_true, decide_eq_true_eq, Bool.not_eq_true', decide_eq_false_iff_not]
  constructor
  · rintro ⟨d, hd, e⟩
    obtain ⟨h1, h2⟩ := (mem_lessL _ _ _).1 hd
    have h3 := h d h1
    have : d.toNat ≠ c.toNat := fun e => h2 (u8_ext e)
    exact ⟨⟨d, h1, e⟩, by omega, by omega⟩
  · rintro ⟨⟨d, hd, e⟩, h1, h2⟩
    exact ⟨d, (mem_lessL _ _ _).2 ⟨hd, fun e' => h2 (by rw [← e']; omega)⟩, e⟩

namespace Tm
/-- The free names, in order. -/
def free : Tm → List UInt8
  | nil => []
  | snd a b p => addL (addL (bothL [] p.free) a) b
  | rcv a x p => addL (lessL (bothL [] p.free) x) a
  | tau p => bothL [] p.free
  | sum p q => bothL (bothL [] p.free) q.free
  | par p q => bothL (bothL [] p.free) q.free
  | own x p => lessL (bothL [] p.free) x
  | mat a b p => addL (addL (bothL [] p.free) a) b
  | rep p => bothL [] p.free
/-- The name that the first sign binds. -/
def binds : Tm → Option UInt8
  | rcv _ x _ => some x
  | own x _ => some x
  | _ => none
end Tm
theorem srt_free (t : Tm) : Srt t.free := by
  induction t with
  | nil => exact srt_nil
  | snd a b p => exact srt_addL (srt_addL (srt_bothL _ srt_nil) a) b
  | rcv a x p => exact srt_addL (srt_lessL (srt_bothL _ srt_nil) x) a
  | tau p => exact srt_bothL _ srt_nil
  | sum p q => exact srt_bothL _ (srt_bothL _ srt_nil)
  | par p q => exact srt_bothL _ (srt_bothL _ srt_nil)
  | own x p => exact srt_lessL (srt_bothL _ srt_nil) x
  | mat a b p => exact srt_addL (srt_addL (srt_bothL _ srt_nil) a) b
  | rep p => exact srt_bothL _ srt_nil
theorem both_nil {l : List UInt8} (h : Srt l) : bothL [] l = l := srt_ext (srt_bothL _ srt_nil) h fun x => by rw [mem_bothL]; simp
theorem lets_free (t : Tm) (ho : t.ok nmL = true) : Lets t.free := by
  induction t with
  | nil => exact lets_nil0
  | snd a b p ih =>
    simp only [Tm.ok, Bool.and_eq_true] at ho
    exact lets_addL (lets_addL (lets_bothL lets_nil0 (ih ho.2)) ((nmL_iff a).1 ho.1.1)) ((nmL_iff b).1 ho.1.2)
  | rcv a x p ih =>
    simp only [Tm.ok, Bool.and_eq_true] at ho
    exact lets_addL (lets_lessL (lets_bothL lets_nil0 (ih ho.2)) x) ((nmL_iff a).1 ho.1.1)
  | tau p ih => exact lets_bothL lets_nil0 (ih ho)
  | sum p q ih ih2 =>
    simp only [Tm.ok, Bool.and_eq_true] at ho
    exact lets_bothL (lets_bothL lets_nil0 (ih ho.1)) (ih2 ho.2)
  | par p q ih ih2 =>
    simp only [Tm.ok, Bool.and_eq_true] at ho
    exact lets_bothL (lets_bothL lets_nil0 (ih ho.1)) (ih2 ho.2)
  | own x p ih =>
    simp only [Tm.ok, Bool.and_eq_true] at ho
    exact lets_lessL (lets_bothL lets_nil0 (ih ho.2)) x
  | mat a b p ih =>
    simp only [Tm.ok, Bool.and_eq_true] at ho
    exact lets_addL (lets_addL (lets_bothL lets_nil0 (ih ho.2)) ((nmL_iff a).1 ho.1.1)) ((nmL_iff b).1 ho.1.2)
  | rep p ih => exact lets_bothL lets_nil0 (ih ho)
end Go.Proofs.YtinkioodkgccjaaDoor.T1

/- The first letter that is not in a list; a sign beyond the letters, if all are: plain lemmas. -/
namespace Go.Proofs.YtinkioodkgccjaaDoor.T1

def fresh (s : List UInt8) : UInt8 :=
  match (List.range 26).find? (fun i => decide (UInt8.ofNat (97 + i) ∉ s)) with
  | some i => UInt8.ofNat (97 + i)
  | none => match (List.range 63).find? (fun i => decide (UInt8.ofNat (128 + i) ∉ s)) with
    | some i => UInt8.ofNat (128 + i)
    | none => 191
theorem find_first (p : Nat → Bool) (n k : Nat) (hk : k < n) (h1 : ∀ i, i < k → p i = false) (h2 : p k = true) : (List.range n).find? p = some k := by
  rw [List.find?_eq_some_iff_append]
  refine ⟨h2, List.range k, (List.range (n - k - 1)).map (k + 1 + ·), ?_, ?_⟩
  · have e : n = k + (1 + (n - k - 1)) := by omega
    conv => lhs; rw [e, List.range_add, List.range_add]
    simp [Nat.add_assoc]
  · intro a ha
    rw [List.mem_range] at ha
    rw [h1 a ha]; rfl
theorem find_all (p : Nat → Bool) (n : Nat) (h1 : ∀ i, i < n → p i = false) : (List.range n).find? p = none := by
  rw [List.find?_eq_none]
  intro x hx
  rw [List.mem_range] at hx
  rw [h1 x hx]; decide
theorem fresh_low (s : List UInt8) (k : Nat) (hk : k < 26) (h1 : ∀ i, i < k → UInt8.ofNat (97 + i) ∈ s) (h2 : UInt8.ofNat (97 + k) ∉ s) : fresh s = UInt8.ofNat (97 + k) := by
  unfold fresh
  rw [find_first _ 26 k hk (fun i hi => decide_eq_false (not_not_intro (h1 i hi))) (decide_eq_true h2)]
theorem fresh_high (s : List UInt8) (k : Nat) (hk : k < 63) (h0 : ∀ i, i < 26 → UInt8.ofNat (97 + i) ∈ s) (h1 : ∀ i, i < k → UInt8.ofNat (128 + i) ∈ s) (h2 : UInt8.ofNat (128 + k) ∉ s) : fresh s = UInt8.ofNat (128 + k) := by
  unfold fresh
  rw [find_all _ 26 (fun i hi => decide_eq_false (not_not_intro (h0 i hi))), find_first _ 63 k hk (fun i hi => decide_eq_false (not_not_intro (h1 i hi))) (decide_eq_true h2)]
theorem fresh_last (s : List UInt8) (h0 : ∀ i, i < 26 → UInt8.ofNat (97 + i) ∈ s) (h1 : ∀ i, i < 63 → UInt8.ofNat (128 + i) ∈ s) : fresh s = 191 := by
  unfold fresh
  rw [find_all _ 26 (fun i hi => decide_eq_false (not_not_intro (h0 i hi))), find_all _ 63 (fun i hi => decide_eq_false (not_not_intro (h1 i hi)))]
theorem find_cases (p : Nat → Bool) (n : Nat) : (∃ k, k < n ∧ (∀ i, i < k → p i = false) ∧ p k = true) ∨ ∀ i, i < n → p i = false := by
  induction n with
  | zero => exact .inr fun i h => by omega
  | succ n ih =>
    rcases ih with ⟨k, h1, h2⟩ | h
    · exact .inl ⟨k, by omega, h2⟩
    · cases hn : p n with
      | true => exact .inl ⟨n, by omega, h, hn⟩
      | false =>
        refine .inr fun i hi => ?_
        rcases Nat.lt_or_ge i n with h' | h'
        · exact h i h'
        · rw [show i = n by omega]; exact hn
theorem fresh_cases (s : List UInt8) : (∃ k, k < 26 ∧ (∀ i, i < k → UInt8.ofNat (97 + i) ∈ s) ∧ UInt8.ofNat (97 + k) ∉ s ∧ fresh s = UInt8.ofNat (97 + k)) ∨
    ((∀ i, i < 26 → UInt8.ofNat (97 + i) ∈ s) ∧ ((∃ k, k < 63 ∧ (∀ i, i < k → UInt8.ofNat (128 + i) ∈ s) ∧ UInt8.ofNat (128 + k) ∉ s ∧ fresh s = UInt8.ofNat (128 + k)) ∨ ((∀ i, i < 63 → UInt8.ofNat (128 + i) ∈ s) ∧ fresh s = 191))) := by
  rcases find_cases (fun i => decide (UInt8.ofNat (97 + i) ∉ s)) 26 with ⟨k, h1, h2, h3⟩ | h
  · have h2' : ∀ i, i < k → UInt8.ofNat (97 + i) ∈ s := fun i hi => Decidable.not_not.1 (of_decide_eq_false (h2 i hi))
    have h3' : UInt8.ofNat (97 + k) ∉ s := of_decide_eq_true h3
    exact .inl ⟨k, h1, h2', h3', fresh_low s k h1 h2' h3'⟩
  · have h' : ∀ i, i < 26 → UInt8.ofNat (97 + i) ∈ s := fun i hi => Decidable.not_not.1 (of_decide_eq_false (h i hi))
    refine .inr ⟨h', ?_⟩
    rcases find_cases (fun i => decide (UInt8.ofNat (128 + i) ∉ s)) 63 with ⟨k, h1, h2, h3⟩ | h
    · have h2' : ∀ i, i < k → UInt8.ofNat (128 + i) ∈ s := fun i hi => Decidable.not_not.1 (of_decide_eq_false (h2 i hi))
      have h3' : UInt8.ofNat (128 + k) ∉ s := of_decide_eq_true h3
      exact .inl ⟨k, h1, h2', h3', fresh_high s k h1 h' h2' h3'⟩
    · have h'' : ∀ i, i < 63 → UInt8.ofNat (128 + i) ∈ s := fun i hi => Decidable.not_not.1 (of_decide_eq_false (h i hi))
      exact .inr ⟨h'', fresh_last s h' h''⟩

end Go.Proofs.YtinkioodkgccjaaDoor.T1

/- A free name renamed, with no capture: plain lemmas. -/
namespace Go.Proofs.YtinkioodkgccjaaDoor.T1

def sw (c o m : UInt8) : UInt8 := if c = o then m else c
/-- The name that a sign binds behind the look for a capture. -/
def capX (p : Tm) (x o m : UInt8) : UInt8 := if x = m ∧ o ∈ p.free then fresh (bothL p.free [o, m]) else x
/-- A free name renamed, in n steps at most. -/
def ren : Nat → Tm → UInt8 → UInt8 → Tm
  | 0, t, _, _ => t
  | n + 1, t, o, m =>
    if o = m ∨ o ∉ t.free then t else
    match t with
    | .nil => .nil
    | .snd a b p => .snd (sw a o m) (sw b o m) (ren n p o m)
    | .rcv a x p => .rcv (sw a o m) (capX p x o m) (if capX p x o m = o then (if x = m ∧ o ∈ p.free then ren n p x (capX p x o m) else p) else ren n (if x = m ∧ o ∈ p.free then ren n p x (capX p x o m) else p) o m)
    | .tau p => .tau (ren n p o m)
    | .sum p q => .sum (ren n p o m) (ren n q o m)
    | .par p q => .par (ren n p o m) (ren n q o m)
    | .own x p => .own (capX p x o m) (if capX p x o m = o then (if x = m ∧ o ∈ p.free then ren n p x (capX p x o m) else p) else ren n (if x = m ∧ o ∈ p.free then ren n p x (capX p x o m) else p) o m)
    | .mat a b p => .mat (sw a o m) (sw b o m) (ren n p o m)
    | .rep p => .rep (ren n p o m)
theorem nmE_iff (c : UInt8) : nmE c = true ↔ (97 ≤ c.toNat ∧ c.toNat ≤ 122) ∨ (65 ≤ c.toNat ∧ c.toNat ≤ 90) ∨ 128 ≤ c.toNat := by simp [nmE, or_assoc]
theorem fresh_nm (s : List UInt8) : nmE (fresh s) = true := by
  rw [nmE_iff]
  rcases fresh_cases s with ⟨k, h1, _, _, h4⟩ | ⟨_, ⟨k, h1, _, _, h4⟩ | ⟨_, h4⟩⟩
  · rw [h4, UInt8.toNat_ofNat']; omega
  · rw [h4, UInt8.toNat_ofNat']; omega
  · rw [h4]; decide
end Go.Proofs.YtinkioodkgccjaaDoor.T1
