/- Texts of the proof, put together: Nm, Fp, Rn, Wn. No conditions. -/
import Derived.Test.YtpabmidjfpabdaaGreatHaa

/- Names in order, free and bound names of a tree: plain lemmas. -/
namespace Go.Proofs.YtpabmidjfpabdaaGreat.T1

/-- A text of one byte. -/
def one (k : UInt8) : ByteArray := ⟨#[k]⟩
/-- A letter put into a list in order, none twice. -/
def addL : List UInt8 → UInt8 → List UInt8
  | [], c => [c]
  | x :: l, c => if x < c then x :: addL l c else if x = c then x :: l else c :: x :: l
def lessL (l : List UInt8) (c : UInt8) : List UInt8 := l.filter fun x => x != c
def bothL (l m : List UInt8) : List UInt8 := m.foldl addL l
def Srt (l : List UInt8) : Prop := l.Pairwise (· < ·)

theorem u8_lt (a b : UInt8) : a < b ↔ a.toNat < b.toNat := UInt8.lt_iff_toNat_lt
theorem u8_ext {a b : UInt8} (h : a.toNat = b.toNat) : a = b := UInt8.toNat_inj.1 h
theorem mem_addL (l : List UInt8) (c x : UInt8) : x ∈ addL l c ↔ x ∈ l ∨ x = c := by
  induction l with
  | nil => simp [addL]
  | cons y l ih =>
    unfold addL
    split
    · simp [ih, or_assoc]
    · split
      · rename_i h; subst h; simp; intro h; exact .inl h
      · simp; constructor
        · rintro (h | h | h)
          · exact .inr h
          · exact .inl (.inl h)
          · exact .inl (.inr h)
        · rintro ((h | h) | h)
          · exact .inr (.inl h)
          · exact .inr (.inr h)
          · exact .inl h
theorem srt_addL {l : List UInt8} (h : Srt l) (c : UInt8) : Srt (addL l c) := by
  induction l with
  | nil => simp [addL, Srt]
  | cons y l ih =>
    have h' := h
    unfold Srt at h
    rw [List.pairwise_cons] at h
    unfold addL
    split
    · rename_i hy
      unfold Srt
      rw [List.pairwise_cons]
      refine ⟨fun a ha => ?_, ih h.2⟩
      rcases (mem_addL _ _ _).1 ha with ha | rfl
      · exact h.1 a ha
      · exact hy
    · split
      · exact h'
      · rename_i h1 h2
        unfold Srt
        rw [List.pairwise_cons]
        refine ⟨fun a ha => ?_, h'⟩
        have hc : c < y := by
          rw [u8_lt] at h1 ⊢
          have : y.toNat ≠ c.toNat := fun e => h2 (u8_ext e)
          omega
        rcases List.mem_cons.1 ha with rfl | ha
        · exact hc
        · have := h.1 a ha
          rw [u8_lt] at this hc ⊢; omega
theorem mem_bothL (m : List UInt8) : ∀ (l : List UInt8) (x : UInt8), x ∈ bothL l m ↔ x ∈ l ∨ x ∈ m := by
  induction m with
  | nil => intro l x; simp [bothL]
  | cons y m ih => intro l x; show x ∈ bothL (addL l y) m ↔ _; rw [ih, mem_addL]; simp [or_assoc]
theorem srt_bothL (m : List UInt8) : ∀ {l : List UInt8}, Srt l → Srt (bothL l m) := by
  induction m with
  | nil => intro l h; exact h
  | cons y m ih => intro l h; exact ih (srt_addL h y)
theorem mem_lessL (l : List UInt8) (c x : UInt8) : x ∈ lessL l c ↔ x ∈ l ∧ x ≠ c := by simp [lessL]
theorem srt_lessL {l : List UInt8} (h : Srt l) (c : UInt8) : Srt (lessL l c) := List.Pairwise.filter _ h
theorem srt_nil : Srt [] := List.Pairwise.nil
theorem srt_ext : ∀ {l m : List UInt8}, Srt l → Srt m → (∀ x, x ∈ l ↔ x ∈ m) → l = m := by
  intro l
  induction l with
  | nil =>
    intro m _ _ h
    cases m with
    | nil => rfl
    | cons y m => have := (h y).2 (by simp); simp at this
  | cons x l ih =>
    intro m hl hm h
    cases m with
    | nil => have := (h x).1 (by simp); simp at this
    | cons y m =>
      unfold Srt at hl hm
      rw [List.pairwise_cons] at hl hm
      have hxy : x = y := by
        rcases List.mem_cons.1 ((h x).1 (by simp)) with e | hx
        · exact e
        · rcases List.mem_cons.1 ((h y).2 (by simp)) with e | hy
          · exact e.symm
          · have h1 := hm.1 x hx
            have h2 := hl.1 y hy
            rw [u8_lt] at h1 h2; omega
      subst hxy
      rw [ih hl.2 hm.2 fun z => ?_]
      constructor
      · intro hz
        rcases List.mem_cons.1 ((h z).1 (by simp [hz])) with rfl | hz'
        · have := hl.1 z hz; rw [u8_lt] at this; omega
        · exact hz'
      · intro hz
        rcases List.mem_cons.1 ((h z).2 (by simp [hz])) with rfl | hz'
        · have := hm.1 z hz; rw [u8_lt] at this; omega
        · exact hz'
theorem srt_lenA : ∀ (l : List UInt8) (b : Nat), Srt l → (∀ x ∈ l, b ≤ x.toNat) → l.length + b ≤ 256 ∨ l = [] := by
  intro l
  induction l with
  | nil => intro _ _ _; exact .inr rfl
  | cons x l ih =>
    intro b h hb
    unfold Srt at h
    rw [List.pairwise_cons] at h
    have h1 := x.toNat_lt
    have h2 := hb x (by simp)
    left
    rcases ih (x.toNat + 1) h.2 (fun y hy => by have := h.1 y hy; rw [u8_lt] at this; omega) with h3 | rfl
    · simp; omega
    · simp; omega
theorem srt_len {l : List UInt8} (h : Srt l) : l.length ≤ 256 := by
  rcases srt_lenA l 0 h (fun _ _ => Nat.zero_le _) with h | rfl
  · omega
  · simp
theorem addL_at (c : UInt8) : ∀ (l : List UInt8) (k : Nat) (_ : k ≤ l.length) (_ : ∀ i (hi : i < l.length), i < k → l[i] < c) (_ : ∀ hk : k < l.length, ¬ l[k] < c),
    addL l c = if h : k < l.length then (if l[k] = c then l else l.take k ++ c :: l.drop k) else l ++ [c] := by
  intro l
  induction l with
  | nil => intro k hk _ _; simp [addL]
  | cons x l ih =>
    intro k hk h1 h2
    cases k with
    | zero =>
      have := h2 (by simp)
      simp only [List.getElem_cons_zero] at this
      unfold addL
      rw [if_neg this]
      simp
    | succ k =>
      have hx := h1 0 (by simp) (by omega)
      simp only [List.getElem_cons_zero] at hx
      unfold addL
      rw [if_pos hx, ih k (by simpa using hk) (fun i hi hik => by have := h1 (i + 1) (by simpa using hi) (by omega); rwa [List.getElem_cons_succ] at this) (fun hk' => by have := h2 (by simpa using hk'); rwa [List.getElem_cons_succ] at this)]
      by_cases hlt : k < l.length
      · rw [dif_pos hlt, dif_pos (by simpa using hlt)]
        simp only [List.getElem_cons_succ, List.take_succ_cons, List.drop_succ_cons, List.cons_append]
        split <;> rfl
      · rw [dif_neg hlt, dif_neg (by simpa using hlt)]
        rfl
/-- Letters alone. -/
def Lets (l : List UInt8) : Prop := ∀ c ∈ l, 97 ≤ c.toNat ∧ c.toNat ≤ 122
theorem nmL_iff (c : UInt8) : nmL c = true ↔ 97 ≤ c.toNat ∧ c.toNat ≤ 122 := by simp [nmL]

/-- A set of letters, a bit for each. -/
def setN : List UInt8 → Nat
  | [] => 0
  | c :: l => setN l ||| 2 ^ (c.toNat - 97)
theorem setN_bit (l : List UInt8) (h : Lets l) (i : Nat) : (setN l).testBit i = true ↔ ∃ c ∈ l, c.toNat = 97 + i := by
  induction l with
  | nil => simp [setN]
  | cons c l ih =>
    have hc := h c (by simp)
    rw [setN, Nat.testBit_or, Nat.testBit_two_pow, Bool.or_eq_true, ih (fun x hx => h x (by simp [hx])), decide_eq_true_iff]
    constructor
    · rintro (⟨d, hd, e⟩ | e)
      · exact ⟨d, by simp [hd], e⟩
      · exact ⟨c, by simp, by omega⟩
    · rintro ⟨d, hd, e⟩
      rcases List.mem_cons.1 hd with rfl | hd
      · exact .inr (by omega)
      · exact .inl ⟨d, hd, e⟩
theorem setN_lt (l : List UInt8) (h : Lets l) : setN l < 2 ^ 26 := by
  induction l with
  | nil => simp [setN]
  | cons c l ih =>
    have hc := h c (by simp)
    exact Nat.or_lt_two_pow (ih fun x hx => h x (by simp [hx])) (Nat.pow_lt_pow_right (by decide) (by omega))
theorem setN_lt32 (l : List UInt8) (h : Lets l) : setN l < 2 ^ 32 := Nat.lt_of_lt_of_le (setN_lt l h) (by decide)
theorem lets_bothL {l m : List UInt8} (h : Lets l) (k : Lets m) : Lets (bothL l m) := fun c hc => by
  rcases (mem_bothL _ _ _).1 hc with hc | hc
  · exact h c hc
  · exact k c hc
theorem lets_addL {l : List UInt8} {c : UInt8} (h : Lets l) (k : 97 ≤ c.toNat ∧ c.toNat ≤ 122) : Lets (addL l c) := fun x hx => by
  rcases (mem_addL _ _ _).1 hx with hx | rfl
  · exact h x hx
  · exact k
theorem lets_lessL {l : List UInt8} (h : Lets l) (c : UInt8) : Lets (lessL l c) := fun x hx => h x ((mem_lessL _ _ _).1 hx).1
theorem lets_nil0 : Lets [] := fun _ h => by simp at h
theorem bits_ext {a b : Nat} (h : ∀ i, a.testBit i = true ↔ b.testBit i = true) : a = b :=
  Nat.eq_of_testBit_eq fun i => Bool.eq_iff_iff.2 (h i)
theorem setN_addL {l : List UInt8} {c : UInt8} (h : Lets l) (k : 97 ≤ c.toNat ∧ c.toNat ≤ 122) : setN (addL l c) = setN l ||| 2 ^ (c.toNat - 97) := by
  refine bits_ext fun i => ?_
  rw [setN_bit _ (lets_addL h k), Nat.testBit_or, Nat.testBit_two_pow, Bool.or_eq_true, setN_bit _ h, decide_eq_true_iff]
  constructor
  · rintro ⟨d, hd, e⟩
    rcases (mem_addL _ _ _).1 hd with hd | rfl
    · exact .inl ⟨d, hd, e⟩
    · exact .inr (by omega)
  · rintro (⟨d, hd, e⟩ | e)
    · exact ⟨d, (mem_addL _ _ _).2 (.inl hd), e⟩
    · exact ⟨c, (mem_addL _ _ _).2 (.inr rfl), by omega⟩
theorem setN_bothL {l m : List UInt8} (h : Lets l) (k : Lets m) : setN (bothL l m) = setN l ||| setN m := by
  refine bits_ext fun i => ?_
  rw [setN_bit _ (lets_bothL h k), Nat.testBit_or, Bool.or_eq_true, setN_bit _ h, setN_bit _ k]
  constructor
  · rintro ⟨d, hd, e⟩
    rcases (mem_bothL _ _ _).1 hd with hd | hd
    · exact .inl ⟨d, hd, e⟩
    · exact .inr ⟨d, hd, e⟩
  · rintro (⟨d, hd, e⟩ | ⟨d, hd, e⟩)
    · exact ⟨d, (mem_bothL _ _ _).2 (.inl hd), e⟩
    · exact ⟨d, (mem_bothL _ _ _).2 (.inr hd), e⟩
theorem setN_lessL {l : List UInt8} {c : UInt8} (h : Lets l) (k : 97 ≤ c.toNat ∧ c.toNat ≤ 122) : setN (lessL l c) = setN l &&& (4294967295 - 2 ^ (c.toNat - 97)) := by
  have hp : 2 ^ (c.toNat - 97) < 2 ^ 32 := Nat.pow_lt_pow_right (by decide) (by omega)
  refine bits_ext fun i => ?_
  rw [setN_bit _ (lets_lessL h c), Nat.testBit_and, Bool.and_eq_true, setN_bit _ h]
  rw [show (4294967295 - 2 ^ (c.toNat - 97) : Nat) = 2 ^ 32 - (2 ^ (c.toNat - 97) + 1) by omega, Nat.testBit_two_pow_sub_succ hp, Nat.testBit_two_pow]
  simp only [Bool.and_eq_true, decide_eq_true_eq, Bool.not_eq_true', decide_eq_false_iff_not]
  constructor
  · rintro ⟨d, hd, e⟩
    obtain ⟨h1, h2⟩ := (mem_lessL _ _ _).1 hd
    have h3 := h d h1
    have : d.toNat ≠ c.toNat := fun e => h2 (u8_ext e)
    exact ⟨⟨d, h1, e⟩, by omega, by omega⟩
  · rintro ⟨⟨d, hd, e⟩, h1, h2⟩
    exact ⟨d, (mem_lessL _ _ _).2 ⟨hd, fun e' => h2 (by rw [← e']; omega)⟩, e⟩

namespace Tm
/-- The free names, in order. -/
def free : Tm → List UInt8
  | nil => []
  | snd a b p => addL (addL (bothL [] p.free) a) b
  | rcv a x p => addL (lessL (bothL [] p.free) x) a
  | tau p => bothL [] p.free
  | sum p q => bothL (bothL [] p.free) q.free
  | par p q => bothL (bothL [] p.free) q.free
  | own x p => lessL (bothL [] p.free) x
  | mat a b p => addL (addL (bothL [] p.free) a) b
  | rep p => bothL [] p.free
/-- The names that signs bind, in the order of the signs. -/
def bnd : Tm → List UInt8
  | nil => []
  | snd _ _ p => p.bnd
  | rcv _ x p => x :: p.bnd
  | tau p => p.bnd
  | sum p q => p.bnd ++ q.bnd
  | par p q => p.bnd ++ q.bnd
  | own x p => x :: p.bnd
  | mat _ _ p => p.bnd
  | rep p => p.bnd
/-- The name that the first sign binds. -/
def binds : Tm → Option UInt8
  | rcv _ x _ => some x
  | own x _ => some x
  | _ => none
end Tm
theorem srt_free (t : Tm) : Srt t.free := by
  induction t with
  | nil => exact srt_nil
  | snd a b p => exact srt_addL (srt_addL (srt_bothL _ srt_nil) a) b
  | rcv a x p => exact srt_addL (srt_lessL (srt_bothL _ srt_nil) x) a
  | tau p => exact srt_bothL _ srt_nil
  | sum p q => exact srt_bothL _ (srt_bothL _ srt_nil)
  | par p q => exact srt_bothL _ (srt_bothL _ srt_nil)
  | own x p => exact srt_lessL (srt_bothL _ srt_nil) x
  | mat a b p => exact srt_addL (srt_addL (srt_bothL _ srt_nil) a) b
  | rep p => exact srt_bothL _ srt_nil
theorem both_nil {l : List UInt8} (h : Srt l) : bothL [] l = l := srt_ext (srt_bothL _ srt_nil) h fun x => by rw [mem_bothL]; simp
theorem lets_free (t : Tm) (ho : t.ok nmL = true) : Lets t.free := by
  induction t with
  | nil => exact lets_nil0
  | snd a b p ih =>
    simp only [Tm.ok, Bool.and_eq_true] at ho
    exact lets_addL (lets_addL (lets_bothL lets_nil0 (ih ho.2)) ((nmL_iff a).1 ho.1.1)) ((nmL_iff b).1 ho.1.2)
  | rcv a x p ih =>
    simp only [Tm.ok, Bool.and_eq_true] at ho
    exact lets_addL (lets_lessL (lets_bothL lets_nil0 (ih ho.2)) x) ((nmL_iff a).1 ho.1.1)
  | tau p ih => exact lets_bothL lets_nil0 (ih ho)
  | sum p q ih ih2 =>
    simp only [Tm.ok, Bool.and_eq_true] at ho
    exact lets_bothL (lets_bothL lets_nil0 (ih ho.1)) (ih2 ho.2)
  | par p q ih ih2 =>
    simp only [Tm.ok, Bool.and_eq_true] at ho
    exact lets_bothL (lets_bothL lets_nil0 (ih ho.1)) (ih2 ho.2)
  | own x p ih =>
    simp only [Tm.ok, Bool.and_eq_true] at ho
    exact lets_lessL (lets_bothL lets_nil0 (ih ho.2)) x
  | mat a b p ih =>
    simp only [Tm.ok, Bool.and_eq_true] at ho
    exact lets_addL (lets_addL (lets_bothL lets_nil0 (ih ho.2)) ((nmL_iff a).1 ho.1.1)) ((nmL_iff b).1 ho.1.2)
  | rep p ih => exact lets_bothL lets_nil0 (ih ho)
theorem lets_bnd (t : Tm) (ho : t.ok nmL = true) : Lets t.bnd := by
  induction t with
  | nil => exact lets_nil0
  | snd a b p ih => simp only [Tm.ok, Bool.and_eq_true] at ho; exact ih ho.2
  | rcv a x p ih =>
    simp only [Tm.ok, Bool.and_eq_true] at ho
    intro c hc
    rcases List.mem_cons.1 hc with rfl | hc
    · exact (nmL_iff _).1 ho.1.2
    · exact ih ho.2 c hc
  | tau p ih => exact ih ho
  | sum p q ih ih2 =>
    simp only [Tm.ok, Bool.and_eq_true] at ho
    intro c hc
    rcases List.mem_append.1 hc with hc | hc
    · exact ih ho.1 c hc
    · exact ih2 ho.2 c hc
  | par p q ih ih2 =>
    simp only [Tm.ok, Bool.and_eq_true] at ho
    intro c hc
    rcases List.mem_append.1 hc with hc | hc
    · exact ih ho.1 c hc
    · exact ih2 ho.2 c hc
  | own x p ih =>
    simp only [Tm.ok, Bool.and_eq_true] at ho
    intro c hc
    rcases List.mem_cons.1 hc with rfl | hc
    · exact (nmL_iff _).1 ho.1
    · exact ih ho.2 c hc
  | mat a b p ih => simp only [Tm.ok, Bool.and_eq_true] at ho; exact ih ho.2
  | rep p ih => exact ih ho
theorem bnd_len (t : Tm) : t.bnd.length ≤ t.size := by
  induction t <;> simp_all [Tm.bnd, Tm.size] <;> omega

end Go.Proofs.YtpabmidjfpabdaaGreat.T1

/- The first letter that is not in a list; a sign beyond the letters, if all are: plain lemmas. -/
namespace Go.Proofs.YtpabmidjfpabdaaGreat.T1

def fresh (s : List UInt8) : UInt8 :=
  match (List.range 26).find? (fun i => decide (UInt8.ofNat (97 + i) ∉ s)) with
  | some i => UInt8.ofNat (97 + i)
  | none => match (List.range 63).find? (fun i => decide (UInt8.ofNat (128 + i) ∉ s)) with
    | some i => UInt8.ofNat (128 + i)
    | none => 191
theorem find_first (p : Nat → Bool) (n k : Nat) (hk : k < n) (h1 : ∀ i, i < k → p i = false) (h2 : p k = true) : (List.range n).find? p = some k := by
  rw [List.find?_eq_some_iff_append]
  refine ⟨h2, List.range k, (List.range (n - k - 1)).map (k + 1 + ·), ?_, ?_⟩
  · have e : n = k + (1 + (n - k - 1)) := by omega
    conv => lhs; rw [e, List.range_add, List.range_add]
    simp [Nat.add_assoc]
  · intro a ha
    rw [List.mem_range] at ha
    rw [h1 a ha]; rfl
theorem find_all (p : Nat → Bool) (n : Nat) (h1 : ∀ i, i < n → p i = false) : (List.range n).find? p = none := by
  rw [List.find?_eq_none]
  intro x hx
  rw [List.mem_range] at hx
  rw [h1 x hx]; decide
theorem fresh_low (s : List UInt8) (k : Nat) (hk : k < 26) (h1 : ∀ i, i < k → UInt8.ofNat (97 + i) ∈ s) (h2 : UInt8.ofNat (97 + k) ∉ s) : fresh s = UInt8.ofNat (97 + k) := by
  unfold fresh
  rw [find_first _ 26 k hk (fun i hi => decide_eq_false (not_not_intro (h1 i hi))) (decide_eq_true h2)]
theorem fresh_high (s : List UInt8) (k : Nat) (hk : k < 63) (h0 : ∀ i, i < 26 → UInt8.ofNat (97 + i) ∈ s) (h1 : ∀ i, i < k → UInt8.ofNat (128 + i) ∈ s) (h2 : UInt8.ofNat (128 + k) ∉ s) : fresh s = UInt8.ofNat (128 + k) := by
  unfold fresh
  rw [find_all _ 26 (fun i hi => decide_eq_false (not_not_intro (h0 i hi))), find_first _ 63 k hk (fun i hi => decide_eq_false (not_not_intro (h1 i hi))) (decide_eq_true h2)]
theorem fresh_last (s : List UInt8) (h0 : ∀ i, i < 26 → UInt8.ofNat (97 + i) ∈ s) (h1 : ∀ i, i < 63 → UInt8.ofNat (128 + i) ∈ s) : fresh s = 191 := by
  unfold fresh
  rw [find_all _ 26 (fun i hi => decide_eq_false (not_not_intro (h0 i hi))), find_all _ 63 (fun i hi => decide_eq_false (not_not_intro (h1 i hi)))]
theorem find_cases (p : Nat → Bool) (n : Nat) : (∃ k, k < n ∧ (∀ i, i < k → p i = false) ∧ p k = true) ∨ ∀ i, i < n → p i = false := by
  induction n with
  | zero => exact .inr fun i h => by omega
  | succ n ih =>
    rcases ih with ⟨k, h1, h2⟩ | h
    · exact .inl ⟨k, by omega, h2⟩
    · cases hn : p n with
      | true => exact .inl ⟨n, by omega, h, hn⟩
      | false =>
        refine .inr fun i hi => ?_
        rcases Nat.lt_or_ge i n with h' | h'
        · exact h i h'
        · rw [show i = n by omega]; exact hn
theorem fresh_cases (s : List UInt8) : (∃ k, k < 26 ∧ (∀ i, i < k → UInt8.ofNat (97 + i) ∈ s) ∧ UInt8.ofNat (97 + k) ∉ s ∧ fresh s = UInt8.ofNat (97 + k)) ∨
    ((∀ i, i < 26 → UInt8.ofNat (97 + i) ∈ s) ∧ ((∃ k, k < 63 ∧ (∀ i, i < k → UInt8.ofNat (128 + i) ∈ s) ∧ UInt8.ofNat (128 + k) ∉ s ∧ fresh s = UInt8.ofNat (128 + k)) ∨ ((∀ i, i < 63 → UInt8.ofNat (128 + i) ∈ s) ∧ fresh s = 191))) := by
  rcases find_cases (fun i => decide (UInt8.ofNat (97 + i) ∉ s)) 26 with ⟨k, h1, h2, h3⟩ | h
  · have h2' : ∀ i, i < k → UInt8.ofNat (97 + i) ∈ s := fun i hi => Decidable.not_not.1 (of_decide_eq_false (h2 i hi))
    have h3' : UInt8.ofNat (97 + k) ∉ s := of_decide_eq_true h3
    exact .inl ⟨k, h1, h2', h3', fresh_low s k h1 h2' h3'⟩
  · have h' : ∀ i, i < 26 → UInt8.ofNat (97 + i) ∈ s := fun i hi => Decidable.not_not.1 (of_decide_eq_false (h i hi))
    refine .inr ⟨h', ?_⟩
    rcases find_cases (fun i => decide (UInt8.ofNat (128 + i) ∉ s)) 63 with ⟨k, h1, h2, h3⟩ | h
    · have h2' : ∀ i, i < k → UInt8.ofNat (128 + i) ∈ s := fun i hi => Decidable.not_not.1 (of_decide_eq_false (h2 i hi))
      have h3' : UInt8.ofNat (128 + k) ∉ s := of_decide_eq_true h3
      exact .inl ⟨k, h1, h2', h3', fresh_high s k h1 h' h2' h3'⟩
    · have h'' : ∀ i, i < 63 → UInt8.ofNat (128 + i) ∈ s := fun i hi => Decidable.not_not.1 (of_decide_eq_false (h i hi))
      exact .inr ⟨h'', fresh_last s h' h''⟩

end Go.Proofs.YtpabmidjfpabdaaGreat.T1

/- A free name renamed, with no capture: plain lemmas. -/
namespace Go.Proofs.YtpabmidjfpabdaaGreat.T1

def sw (c o m : UInt8) : UInt8 := if c = o then m else c
/-- The name that a sign binds behind the look for a capture. -/
def capX (p : Tm) (x o m : UInt8) : UInt8 := if x = m ∧ o ∈ p.free then fresh (bothL p.free [o, m]) else x
/-- A free name renamed, in n steps at most. -/
def ren : Nat → Tm → UInt8 → UInt8 → Tm
  | 0, t, _, _ => t
  | n + 1, t, o, m =>
    if o = m ∨ o ∉ t.free then t else
    match t with
    | .nil => .nil
    | .snd a b p => .snd (sw a o m) (sw b o m) (ren n p o m)
    | .rcv a x p => .rcv (sw a o m) (capX p x o m) (if capX p x o m = o then (if x = m ∧ o ∈ p.free then ren n p x (capX p x o m) else p) else ren n (if x = m ∧ o ∈ p.free then ren n p x (capX p x o m) else p) o m)
    | .tau p => .tau (ren n p o m)
    | .sum p q => .sum (ren n p o m) (ren n q o m)
    | .par p q => .par (ren n p o m) (ren n q o m)
    | .own x p => .own (capX p x o m) (if capX p x o m = o then (if x = m ∧ o ∈ p.free then ren n p x (capX p x o m) else p) else ren n (if x = m ∧ o ∈ p.free then ren n p x (capX p x o m) else p) o m)
    | .mat a b p => .mat (sw a o m) (sw b o m) (ren n p o m)
    | .rep p => .rep (ren n p o m)
theorem ren_same (n : Nat) (t : Tm) (o m : UInt8) (h : o = m ∨ o ∉ t.free) : ren n t o m = t := by
  cases n with
  | zero => rfl
  | succ n => unfold ren; rw [if_pos h]
/-- The part of a sign that binds, renamed. -/
def renB (n : Nat) (p : Tm) (x o m : UInt8) : Tm := if capX p x o m = o then (if x = m ∧ o ∈ p.free then ren n p x (capX p x o m) else p) else ren n (if x = m ∧ o ∈ p.free then ren n p x (capX p x o m) else p) o m

theorem ren_len (n : Nat) : ∀ (t : Tm) (o m : UInt8), (ren n t o m).pr.length = t.pr.length ∧ (ren n t o m).size = t.size := by
  induction n with
  | zero => intro t o m; exact ⟨rfl, rfl⟩
  | succ n ih =>
    intro t o m
    unfold ren
    split
    · exact ⟨rfl, rfl⟩
    · have hb : ∀ p x, (renB n p x o m).pr.length = p.pr.length ∧ (renB n p x o m).size = p.size := by
        intro p x
        unfold renB
        split <;> split <;> simp [ih]
      cases t with
      | rcv a x p => have h := hb p x; unfold renB at h; simp only [Tm.pr, Tm.size, List.length_cons]; exact ⟨by rw [h.1], by rw [h.2]⟩
      | own x p => have h := hb p x; unfold renB at h; simp only [Tm.pr, Tm.size, List.length_cons]; exact ⟨by rw [h.1], by rw [h.2]⟩
      | nil => exact ⟨rfl, rfl⟩
      | snd a b p => simp [Tm.pr, Tm.size, ih]
      | tau p => simp [Tm.pr, Tm.size, ih]
      | sum p q => simp [Tm.pr, Tm.size, ih]
      | par p q => simp [Tm.pr, Tm.size, ih]
      | mat a b p => simp [Tm.pr, Tm.size, ih]
      | rep p => simp [Tm.pr, Tm.size, ih]
theorem nmE_iff (c : UInt8) : nmE c = true ↔ (97 ≤ c.toNat ∧ c.toNat ≤ 122) ∨ (65 ≤ c.toNat ∧ c.toNat ≤ 90) ∨ 128 ≤ c.toNat := by simp [nmE, or_assoc]
theorem fresh_nm (s : List UInt8) : nmE (fresh s) = true := by
  rw [nmE_iff]
  rcases fresh_cases s with ⟨k, h1, _, _, h4⟩ | ⟨_, ⟨k, h1, _, _, h4⟩ | ⟨_, h4⟩⟩
  · rw [h4, UInt8.toNat_ofNat']; omega
  · rw [h4, UInt8.toNat_ofNat']; omega
  · rw [h4]; decide
theorem sw_ok {nm : UInt8 → Bool} {c o m : UInt8} (h : nm c = true) (hm : nm m = true) : nm (sw c o m) = true := by unfold sw; split <;> assumption
theorem capX_ok {p : Tm} {x o m : UInt8} (h : nmE x = true) : nmE (capX p x o m) = true := by
  unfold capX; split
  · exact fresh_nm _
  · exact h
theorem ren_okE (n : Nat) : ∀ (t : Tm) (o m : UInt8), t.ok nmE = true → nmE m = true → (ren n t o m).ok nmE = true := by
  induction n with
  | zero => intro t o m h _; exact h
  | succ n ih =>
    intro t o m h hm
    unfold ren
    split
    · exact h
    · have hb : ∀ p x, p.ok nmE = true → nmE x = true → (renB n p x o m).ok nmE = true := by
        intro p x hp hx
        unfold renB
        have hc := capX_ok (p := p) (o := o) (m := m) hx
        split <;> split
        · exact ih _ _ _ hp hc
        · exact hp
        · exact ih _ _ _ (ih _ _ _ hp hc) hm
        · exact ih _ _ _ hp hm
      cases t <;> simp only [Tm.ok, Bool.and_eq_true] at h ⊢
      · exact ⟨⟨sw_ok h.1.1 hm, sw_ok h.1.2 hm⟩, ih _ _ _ h.2 hm⟩
      · exact ⟨⟨sw_ok h.1.1 hm, capX_ok h.1.2⟩, hb _ _ h.2 h.1.2⟩
      · exact ih _ _ _ h hm
      · exact ⟨ih _ _ _ h.1 hm, ih _ _ _ h.2 hm⟩
      · exact ⟨ih _ _ _ h.1 hm, ih _ _ _ h.2 hm⟩
      · exact ⟨capX_ok h.1, hb _ _ h.2 h.1⟩
      · exact ⟨⟨sw_ok h.1.1 hm, sw_ok h.1.2 hm⟩, ih _ _ _ h.2 hm⟩
      · exact ih _ _ _ h hm
theorem sw_rev {c o m : UInt8} (ho : nmL o = true) (h : nmL (sw c o m) = true) : nmL c = true := by
  unfold sw at h; split at h
  · rename_i e; rw [e]; exact ho
  · exact h
/-- What is well spelt behind a renaming was so ahead of it. -/
theorem ren_rev (n : Nat) : ∀ (t : Tm) (o m : UInt8), nmL o = true → nmL m = true → (ren n t o m).ok nmL = true → t.ok nmL = true := by
  induction n with
  | zero => intro t o m _ _ h; exact h
  | succ n ih =>
    intro t o m ho hm h
    unfold ren at h
    split at h
    · exact h
    · have hb : ∀ p x, nmL (capX p x o m) = true → (renB n p x o m).ok nmL = true → p.ok nmL = true ∧ nmL x = true := by
        intro p x hx hp
        have hx' : nmL x = true := by
          unfold capX at hx
          split at hx
          · rename_i hc; rw [hc.1]; exact hm
          · exact hx
        refine ⟨?_, hx'⟩
        unfold renB at hp
        split at hp
        · split at hp
          · exact ih _ _ _ hx' hx hp
          · exact hp
        · have hp2 := ih _ _ _ ho hm hp
          split at hp2
          · exact ih _ _ _ hx' hx hp2
          · exact hp2
      cases t <;> simp only [Tm.ok, Bool.and_eq_true] at h ⊢
      · exact ⟨⟨sw_rev ho h.1.1, sw_rev ho h.1.2⟩, ih _ _ _ ho hm h.2⟩
      · exact ⟨⟨sw_rev ho h.1.1, (hb _ _ h.1.2 h.2).2⟩, (hb _ _ h.1.2 h.2).1⟩
      · exact ih _ _ _ ho hm h
      · exact ⟨ih _ _ _ ho hm h.1, ih _ _ _ ho hm h.2⟩
      · exact ⟨ih _ _ _ ho hm h.1, ih _ _ _ ho hm h.2⟩
      · exact ⟨(hb _ _ h.1 h.2).2, (hb _ _ h.1 h.2).1⟩
      · exact ⟨⟨sw_rev ho h.1.1, sw_rev ho h.1.2⟩, ih _ _ _ ho hm h.2⟩
      · exact ih _ _ _ ho hm h

end Go.Proofs.YtpabmidjfpabdaaGreat.T1

/- No name is bound twice, or bound and free: plain lemmas. -/
namespace Go.Proofs.YtpabmidjfpabdaaGreat.T1

def Tm.wellN (t : Tm) : Prop := t.bnd.Nodup ∧ ∀ x ∈ t.bnd, x ∉ t.free
theorem addL_mem {l : List UInt8} (h : Srt l) {c : UInt8} (hc : c ∈ l) : addL l c = l := srt_ext (srt_addL h c) h fun x => by
  rw [mem_addL]
  constructor
  · rintro (h | rfl)
    · exact h
    · exact hc
  · exact .inl
theorem addL_new (l : List UInt8) (c : UInt8) (hc : c ∉ l) : (addL l c).length = l.length + 1 := by
  induction l with
  | nil => rfl
  | cons x l ih =>
    unfold addL
    split
    · simp [ih (fun h => hc (by simp [h]))]
    · split
      · rename_i h; exact absurd (by simp [h]) hc
      · simp
theorem both_len (m : List UInt8) : ∀ (l : List UInt8), Srt l → (bothL l m).length ≤ l.length + m.length ∧ ((bothL l m).length = l.length + m.length ↔ m.Nodup ∧ ∀ x ∈ m, x ∉ l) := by
  induction m with
  | nil => intro l _; simp [bothL]
  | cons c m ih =>
    intro l h
    have h1 := ih (addL l c) (srt_addL h c)
    show (bothL (addL l c) m).length ≤ _ ∧ _
    by_cases hc : c ∈ l
    · rw [addL_mem h hc] at h1
      show (bothL (addL l c) m).length ≤ _ ∧ ((bothL (addL l c) m).length = _ ↔ _)
      rw [addL_mem h hc]
      refine ⟨by simp; omega, ⟨fun e => ?_, fun e => absurd hc (e.2 c (by simp))⟩⟩
      simp at e; omega
    · have h2 := addL_new l c hc
      show (bothL (addL l c) m).length ≤ _ ∧ ((bothL (addL l c) m).length = _ ↔ _)
      refine ⟨by simp; omega, ?_⟩
      rw [show l.length + (c :: m).length = (addL l c).length + m.length by simp; omega, h1.2]
      simp only [List.nodup_cons, mem_addL, List.mem_cons]
      constructor
      · rintro ⟨h3, h4⟩
        refine ⟨⟨fun hm => h4 c hm (.inr rfl), h3⟩, ?_⟩
        rintro x (rfl | hx)
        · exact hc
        · exact fun hl => h4 x hx (.inl hl)
      · rintro ⟨⟨h3, h4⟩, h5⟩
        refine ⟨h4, fun x hx => ?_⟩
        rintro (hl | rfl)
        · exact h5 x (.inr hx) hl
        · exact h3 hx
theorem disj_bits {l m : List UInt8} (h : Lets l) (k : Lets m) : setN l &&& setN m = 0 ↔ ∀ x ∈ l, x ∉ m := by
  constructor
  · intro e x hx hm
    have h1 := (setN_bit l h (x.toNat - 97)).2 ⟨x, hx, by have := h x hx; omega⟩
    have h2 := (setN_bit m k (x.toNat - 97)).2 ⟨x, hm, by have := h x hx; omega⟩
    have h3 := congrArg (fun n => n.testBit (x.toNat - 97)) e
    simp [Nat.testBit_and, h1, h2] at h3
  · intro e
    refine Nat.eq_of_testBit_eq fun i => ?_
    rw [Nat.zero_testBit, Nat.testBit_and, Bool.eq_false_iff]
    intro h1
    rw [Bool.and_eq_true] at h1
    obtain ⟨x, hx, e1⟩ := (setN_bit l h i).1 h1.1
    obtain ⟨y, hy, e2⟩ := (setN_bit m k i).1 h1.2
    obtain rfl : x = y := u8_ext (by omega)
    exact e x hx hy
theorem wellN_iff (t : Tm) (ho : t.ok nmL = true) : t.wellN ↔ t.bnd.length = (bothL [] t.bnd).length ∧ setN t.bnd &&& setN t.free = 0 := by
  unfold Tm.wellN
  rw [disj_bits (lets_bnd t ho) (lets_free t ho)]
  have := (both_len t.bnd [] srt_nil).2
  simp only [List.length_nil, Nat.zero_add, List.not_mem_nil, not_false_eq_true, implies_true, and_true] at this
  rw [← this]
  constructor
  · rintro ⟨h1, h2⟩; exact ⟨h1.symm, h2⟩
  · rintro ⟨h1, h2⟩; exact ⟨h1.symm, h2⟩
theorem setN_nilboth (l : List UInt8) (h : Lets l) : setN (bothL [] l) = setN l := by rw [setN_bothL lets_nil0 h]; simp [setN]

end Go.Proofs.YtpabmidjfpabdaaGreat.T1
