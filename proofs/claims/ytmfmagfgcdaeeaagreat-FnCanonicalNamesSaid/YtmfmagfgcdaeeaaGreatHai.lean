/- Texts of the proof, put together: Nm, Fp, Rn, Rf, Np, Nq, Wn. No conditions. -/
import Derived.Test.YtmfmagfgcdaeeaaGreatHaa

/- Names in order, free and bound names of a tree: plain lemmas. -/
namespace Go.Proofs.YtmfmagfgcdaeeaaGreat.T1

/-- A text of one byte. -/
def one (k : UInt8) : ByteArray := ⟨#[k]⟩
/-- A letter put into a list in order, none twice. -/
def addL : List UInt8 → UInt8 → List UInt8
  | [], c => [c]
  | x :: l, c => if x < c then x :: addL l c else if x = c then x :: l else c :: x :: l
def lessL (l : List UInt8) (c : UInt8) : List UInt8 := l.filter fun x => x != c
def bothL (l m : List UInt8) : List UInt8 := m.foldl addL l
def Srt (l : List UInt8) : Prop := l.Pairwise (· < ·)

theorem u8_lt (a b : UInt8) : a < b ↔ a.toNat < b.toNat := UInt8.lt_iff_toNat_lt
theorem u8_ext {a b : UInt8} (h : a.toNat = b.toNat) : a = b := UInt8.toNat_inj.1 h
theorem mem_addL (l : List UInt8) (c x : UInt8) : x ∈ addL l c ↔ x ∈ l ∨ x = c := by
  induction l with
  | nil => simp [addL]
  | cons y l ih =>
    unfold addL
    split
    · simp [ih, or_assoc]
    · split
      · rename_i h; subst h; simp; intro h; exact .inl h
      · simp; constructor
        · rintro (h | h | h)
          · exact .inr h
          · exact .inl (.inl h)
          · exact .inl (.inr h)
        · rintro ((h | h) | h)
          · exact .inr (.inl h)
          · exact .inr (.inr h)
          · exact .inl h
theorem srt_addL {l : List UInt8} (h : Srt l) (c : UInt8) : Srt (addL l c) := by
  induction l with
  | nil => simp [addL, Srt]
  | cons y l ih =>
    have h' := h
    unfold Srt at h
    rw [List.pairwise_cons] at h
    unfold addL
    split
    · rename_i hy
      unfold Srt
      rw [List.pairwise_cons]
      refine ⟨fun a ha => ?_, ih h.2⟩
      rcases (mem_addL _ _ _).1 ha with ha | rfl
      · exact h.1 a ha
      · exact hy
    · split
      · exact h'
      · rename_i h1 h2
        unfold Srt
        rw [List.pairwise_cons]
        refine ⟨fun a ha => ?_, h'⟩
        have hc : c < y := by
          rw [u8_lt] at h1 ⊢
          have : y.toNat ≠ c.toNat := fun e => h2 (u8_ext e)
          omega
        rcases List.mem_cons.1 ha with rfl | ha
        · exact hc
        · have := h.1 a ha
          rw [u8_lt] at this hc ⊢; omega
theorem mem_bothL (m : List UInt8) : ∀ (l : List UInt8) (x : UInt8), x ∈ bothL l m ↔ x ∈ l ∨ x ∈ m := by
  induction m with
  | nil => intro l x; simp [bothL]
  | cons y m ih => intro l x; show x ∈ bothL (addL l y) m ↔ _; rw [ih, mem_addL]; simp [or_assoc]
theorem srt_bothL (m : List UInt8) : ∀ {l : List UInt8}, Srt l → Srt (bothL l m) := by
  induction m with
  | nil => intro l h; exact h
  | cons y m ih => intro l h; exact ih (srt_addL h y)
theorem mem_lessL (l : List UInt8) (c x : UInt8) : x ∈ lessL l c ↔ x ∈ l ∧ x ≠ c := by simp [lessL]
theorem srt_lessL {l : List UInt8} (h : Srt l) (c : UInt8) : Srt (lessL l c) := List.Pairwise.filter _ h
theorem srt_nil : Srt [] := List.Pairwise.nil
theorem srt_ext : ∀ {l m : List UInt8}, Srt l → Srt m → (∀ x, x ∈ l ↔ x ∈ m) → l = m := by
  intro l
  induction l with
  | nil =>
    intro m _ _ h
    cases m with
    | nil => rfl
    | cons y m => have := (h y).2 (by simp); simp at this
  | cons x l ih =>
    intro m hl hm h
    cases m with
    | nil => have := (h x).1 (by simp); simp at this
    | cons y m =>
      unfold Srt at hl hm
      rw [List.pairwise_cons] at hl hm
      have hxy : x = y := by
        rcases List.mem_cons.1 ((h x).1 (by simp)) with e | hx
        · exact e
        · rcases List.mem_cons.1 ((h y).2 (by simp)) with e | hy
          · exact e.symm
          · have h1 := hm.1 x hx
            have h2 := hl.1 y hy
            rw [u8_lt] at h1 h2; omega
      subst hxy
      rw [ih hl.2 hm.2 fun z => ?_]
      constructor
      · intro hz
        rcases List.mem_cons.1 ((h z).1 (by simp [hz])) with rfl | hz'
        · have := hl.1 z hz; rw [u8_lt] at this; omega
        · exact hz'
      · intro hz
        rcases List.mem_cons.1 ((h z).2 (by simp [hz])) with rfl | hz'
        · have := hm.1 z hz; rw [u8_lt] at this; omega
        · exact hz'
theorem srt_lenA : ∀ (l : List UInt8) (b : Nat), Srt l → (∀ x ∈ l, b ≤ x.toNat) → l.length + b ≤ 256 ∨ l = [] := by
  intro l
  induction l with
  | nil => intro _ _ _; exact .inr rfl
  | cons x l ih =>
    intro b h hb
    unfold Srt at h
    rw [List.pairwise_cons] at h
    have h1 := x.toNat_lt
    have h2 := hb x (by simp)
    left
    rcases ih (x.toNat + 1) h.2 (fun y hy => by have := h.1 y hy; rw [u8_lt] at this; omega) with h3 | rfl
    · simp; omega
    · simp; omega
theorem srt_len {l : List UInt8} (h : Srt l) : l.length ≤ 256 := by
  rcases srt_lenA l 0 h (fun _ _ => Nat.zero_le _) with h | rfl
  · omega
  · simp
theorem addL_at (c : UInt8) : ∀ (l : List UInt8) (k : Nat) (_ : k ≤ l.length) (_ : ∀ i (hi : i < l.length), i < k → l[i] < c) (_ : ∀ hk : k < l.length, ¬ l[k] < c),
    addL l c = if h : k < l.length then (if l[k] = c then l else l.take k ++ c :: l.drop k) else l ++ [c] := by
  intro l
  induction l with
  | nil => intro k hk _ _; simp [addL]
  | cons x l ih =>
    intro k hk h1 h2
    cases k with
    | zero =>
      have := h2 (by simp)
      simp only [List.getElem_cons_zero] at this
      unfold addL
      rw [if_neg this]
      simp
    | succ k =>
      have hx := h1 0 (by simp) (by omega)
      simp only [List.getElem_cons_zero] at hx
      unfold addL
      rw [if_pos hx, ih k (by simpa using hk) (fun i hi hik => by have := h1 (i + 1) (by simpa using hi) (by omega); rwa [List.getElem_cons_succ] at this) (fun hk' => by have := h2 (by simpa using hk'); rwa [List.getElem_cons_succ] at this)]
      by_cases hlt : k < l.length
      · rw [dif_pos hlt, dif_pos (by simpa using hlt)]
        simp only [List.getElem_cons_succ, List.take_succ_cons, List.drop_succ_cons, List.cons_append]
        split <;> rfl
      · rw [dif_neg hlt, dif_neg (by simpa using hlt)]
        rfl
/-- Letters alone. -/
def Lets (l : List UInt8) : Prop := ∀ c ∈ l, 97 ≤ c.toNat ∧ c.toNat ≤ 122
theorem nmL_iff (c : UInt8) : nmL c = true ↔ 97 ≤ c.toNat ∧ c.toNat ≤ 122 := by simp [nmL]

/-- A set of letters, a bit for each. -/
def setN : List UInt8 → Nat
  | [] => 0
  | c :: l => setN l ||| 2 ^ (c.toNat - 97)
theorem setN_bit (l : List UInt8) (h : Lets l) (i : Nat) : (setN l).testBit i = true ↔ ∃ c ∈ l, c.toNat = 97 + i := by
  induction l with
  | nil => simp [setN]
  | cons c l ih =>
    have hc := h c (by simp)
    rw [setN, Nat.testBit_or, Nat.testBit_two_pow, Bool.or_eq_true, ih (fun x hx => h x (by simp [hx])), decide_eq_true_iff]
    constructor
    · rintro (⟨d, hd, e⟩ | e)
      · exact ⟨d, by simp [hd], e⟩
      · exact ⟨c, by simp, by omega⟩
    · rintro ⟨d, hd, e⟩
      rcases List.mem_cons.1 hd with rfl | hd
      · exact .inr (by omega)
      · exact .inl ⟨d, hd, e⟩
theorem setN_lt (l : List UInt8) (h : Lets l) : setN l < 2 ^ 26 := by
  induction l with
  | nil => simp [setN]
  | cons c l ih =>
    have hc := h c (by simp)
    exact Nat.or_lt_two_pow (ih fun x hx => h x (by simp [hx])) (Nat.pow_lt_pow_right (by decide) (by omega))
theorem setN_lt32 (l : List UInt8) (h : Lets l) : setN l < 2 ^ 32 := Nat.lt_of_lt_of_le (setN_lt l h) (by decide)
theorem lets_bothL {l m : List UInt8} (h : Lets l) (k : Lets m) : Lets (bothL l m) := fun c hc => by
  rcases (mem_bothL _ _ _).1 hc with hc | hc
  · exact h c hc
  · exact k c hc
theorem lets_addL {l : List UInt8} {c : UInt8} (h : Lets l) (k : 97 ≤ c.toNat ∧ c.toNat ≤ 122) : Lets (addL l c) := fun x hx => by
  rcases (mem_addL _ _ _).1 hx with hx | rfl
  · exact h x hx
  · exact k
theorem lets_lessL {l : List UInt8} (h : Lets l) (c : UInt8) : Lets (lessL l c) := fun x hx => h x ((mem_lessL _ _ _).1 hx).1
theorem lets_nil0 : Lets [] := fun _ h => by simp at h
theorem bits_ext {a b : Nat} (h : ∀ i, a.testBit i = true ↔ b.testBit i = true) : a = b :=
  Nat.eq_of_testBit_eq fun i => Bool.eq_iff_iff.2 (h i)
theorem setN_addL {l : List UInt8} {c : UInt8} (h : Lets l) (k : 97 ≤ c.toNat ∧ c.toNat ≤ 122) : setN (addL l c) = setN l ||| 2 ^ (c.toNat - 97) := by
  refine bits_ext fun i => ?_
  rw [setN_bit _ (lets_addL h k), Nat.testBit_or, Nat.testBit_two_pow, Bool.or_eq_true, setN_bit _ h, decide_eq_true_iff]
  constructor
  · rintro ⟨d, hd, e⟩
    rcases (mem_addL _ _ _).1 hd with hd | rfl
    · exact .inl ⟨d, hd, e⟩
    · exact .inr (by omega)
  · rintro (⟨d, hd, e⟩ | e)
    · exact ⟨d, (mem_addL _ _ _).2 (.inl hd), e⟩
    · exact ⟨c, (mem_addL _ _ _).2 (.inr rfl), by omega⟩
theorem setN_bothL {l m : List UInt8} (h : Lets l) (k : Lets m) : setN (bothL l m) = setN l ||| setN m := by
  refine bits_ext fun i => ?_
  rw [setN_bit _ (lets_bothL h k), Nat.testBit_or, Bool.or_eq_true, setN_bit _ h, setN_bit _ k]
  constructor
  · rintro ⟨d, hd, e⟩
    rcases (mem_bothL _ _ _).1 hd with hd | hd
    · exact .inl ⟨d, hd, e⟩
    · exact .inr ⟨d, hd, e⟩
  · rintro (⟨d, hd, e⟩ | ⟨d, hd, e⟩)
    · exact ⟨d, (mem_bothL _ _ _).2 (.inl hd), e⟩
    · exact ⟨d, (mem_bothL _ _ _).2 (.inr hd), e⟩
theorem setN_lessL {l : List UInt8} {c : UInt8} (h : Lets l) (k : 97 ≤ c.toNat ∧ c.toNat ≤ 122) : setN (lessL l c) = setN l &&& (4294967295 - 2 ^ (c.toNat - 97)) := by
  have hp : 2 ^ (c.toNat - 97) < 2 ^ 32 := Nat.pow_lt_pow_right (by decide) (by omega)
  refine bits_ext fun i => ?_
  rw [setN_bit _ (lets_lessL h c), Nat.testBit_and, Bool.and_eq_true, setN_bit _ h]
  rw [show (4294967295 - 2 ^ (c.toNat - 97) : Nat) = 2 ^ 32 - (2 ^ (c.toNat - 97) + 1) by omega, Nat.testBit_two_pow_sub_succ hp, Nat.testBit_two_pow]
  simp only [Bool.and_eq_true, decide_eq_true_eq, Bool.not_eq_true', decide_eq_false_iff_not]
  constructor
  · rintro ⟨d, hd, e⟩
    obtain ⟨h1, h2⟩ := (mem_lessL _ _ _).1 hd
    have h3 := h d h1
    have : d.toNat ≠ c.toNat := fun e => h2 (u8_ext e)
    exact ⟨⟨d, h1, e⟩, by omega, by omega⟩
  · rintro ⟨⟨d, hd, e⟩, h1, h2⟩
    exact ⟨d, (mem_lessL _ _ _).2 ⟨hd, fun e' => h2 (by rw [← e']; omega)⟩, e⟩

namespace Tm
/-- The free names, in order. -/
def free : Tm → List UInt8
  | nil => []
  | snd a b p => addL (addL (bothL [] p.free) a) b
  | rcv a x p => addL (lessL (bothL [] p.free) x) a
  | tau p => bothL [] p.free
  | sum p q => bothL (bothL [] p.free) q.free
  | par p q => bothL (bothL [] p.free) q.free
  | own x p => lessL (bothL [] p.free) x
  | mat a b p => addL (addL (bothL [] p.free) a) b
  | rep p => bothL [] p.free
/-- The names that signs bind, in the order of the signs. -/
def bnd : Tm → List UInt8
  | nil => []
  | snd _ _ p => p.bnd
  | rcv _ x p => x :: p.bnd
  | tau p => p.bnd
  | sum p q => p.bnd ++ q.bnd
  | par p q => p.bnd ++ q.bnd
  | own x p => x :: p.bnd
  | mat _ _ p => p.bnd
  | rep p => p.bnd
/-- The name that the first sign binds. -/
def binds : Tm → Option UInt8
  | rcv _ x _ => some x
  | own x _ => some x
  | _ => none
end Tm
theorem srt_free (t : Tm) : Srt t.free := by
  induction t with
  | nil => exact srt_nil
  | snd a b p => exact srt_addL (srt_addL (srt_bothL _ srt_nil) a) b
  | rcv a x p => exact srt_addL (srt_lessL (srt_bothL _ srt_nil) x) a
  | tau p => exact srt_bothL _ srt_nil
  | sum p q => exact srt_bothL _ (srt_bothL _ srt_nil)
  | par p q => exact srt_bothL _ (srt_bothL _ srt_nil)
  | own x p => exact srt_lessL (srt_bothL _ srt_nil) x
  | mat a b p => exact srt_addL (srt_addL (srt_bothL _ srt_nil) a) b
  | rep p => exact srt_bothL _ srt_nil
theorem both_nil {l : List UInt8} (h : Srt l) : bothL [] l = l := srt_ext (srt_bothL _ srt_nil) h fun x => by rw [mem_bothL]; simp
theorem lets_free (t : Tm) (ho : t.ok nmL = true) : Lets t.free := by
  induction t with
  | nil => exact lets_nil0
  | snd a b p ih =>
    simp only [Tm.ok, Bool.and_eq_true] at ho
    exact lets_addL (lets_addL (lets_bothL lets_nil0 (ih ho.2)) ((nmL_iff a).1 ho.1.1)) ((nmL_iff b).1 ho.1.2)
  | rcv a x p ih =>
    simp only [Tm.ok, Bool.and_eq_true] at ho
    exact lets_addL (lets_lessL (lets_bothL lets_nil0 (ih ho.2)) x) ((nmL_iff a).1 ho.1.1)
  | tau p ih => exact lets_bothL lets_nil0 (ih ho)
  | sum p q ih ih2 =>
    simp only [Tm.ok, Bool.and_eq_true] at ho
    exact lets_bothL (lets_bothL lets_nil0 (ih ho.1)) (ih2 ho.2)
  | par p q ih ih2 =>
    simp only [Tm.ok, Bool.and_eq_true] at ho
    exact lets_bothL (lets_bothL lets_nil0 (ih ho.1)) (ih2 ho.2)
  | own x p ih =>
    simp only [Tm.ok, Bool.and_eq_true] at ho
    exact lets_lessL (lets_bothL lets_nil0 (ih ho.2)) x
  | mat a b p ih =>
    simp only [Tm.ok, Bool.and_eq_true] at ho
    exact lets_addL (lets_addL (lets_bothL lets_nil0 (ih ho.2)) ((nmL_iff a).1 ho.1.1)) ((nmL_iff b).1 ho.1.2)
  | rep p ih => exact lets_bothL lets_nil0 (ih ho)
theorem lets_bnd (t : Tm) (ho : t.ok nmL = true) : Lets t.bnd := by
  induction t with
  | nil => exact lets_nil0
  | snd a b p ih => simp only [Tm.ok, Bool.and_eq_true] at ho; exact ih ho.2
  | rcv a x p ih =>
    simp only [Tm.ok, Bool.and_eq_true] at ho
    intro c hc
    rcases List.mem_cons.1 hc with rfl | hc
    · exact (nmL_iff _).1 ho.1.2
    · exact ih ho.2 c hc
  | tau p ih => exact ih ho
  | sum p q ih ih2 =>
    simp only [Tm.ok, Bool.and_eq_true] at ho
    intro c hc
    rcases List.mem_append.1 hc with hc | hc
    · exact ih ho.1 c hc
    · exact ih2 ho.2 c hc
  | par p q ih ih2 =>
    simp only [Tm.ok, Bool.and_eq_true] at ho
    intro c hc
    rcases List.mem_append.1 hc with hc | hc
    · exact ih ho.1 c hc
    · exact ih2 ho.2 c hc
  | own x p ih =>
    simp only [Tm.ok, Bool.and_eq_true] at ho
    intro c hc
    rcases List.mem_cons.1 hc with rfl | hc
    · exact (nmL_iff _).1 ho.1
    · exact ih ho.2 c hc
  | mat a b p ih => simp only [Tm.ok, Bool.and_eq_true] at ho; exact ih ho.2
  | rep p ih => exact ih ho
theorem bnd_len (t : Tm) : t.bnd.length ≤ t.size := by
  induction t <;> simp_all [Tm.bnd, Tm.size] <;> omega

end Go.Proofs.YtmfmagfgcdaeeaaGreat.T1

/- The first letter that is not in a list; a sign beyond the letters, if all are: plain lemmas. -/
namespace Go.Proofs.YtmfmagfgcdaeeaaGreat.T1

def fresh (s : List UInt8) : UInt8 :=
  match (List.range 26).find? (fun i => decide (UInt8.ofNat (97 + i) ∉ s)) with
  | some i => UInt8.ofNat (97 + i)
  | none => match (List.range 63).find? (fun i => decide (UInt8.ofNat (128 + i) ∉ s)) with
    | some i => UInt8.ofNat (128 + i)
    | none => 191
theorem find_first (p : Nat → Bool) (n k : Nat) (hk : k < n) (h1 : ∀ i, i < k → p i = false) (h2 : p k = true) : (List.range n).find? p = some k := by
  rw [List.find?_eq_some_iff_append]
  refine ⟨h2, List.range k, (List.range (n - k - 1)).map (k + 1 + ·), ?_, ?_⟩
  · have e : n = k + (1 + (n - k - 1)) := by omega
    conv => lhs; rw [e, List.range_add, List.range_add]
    simp [Nat.add_assoc]
  · intro a ha
    rw [List.mem_range] at ha
    rw [h1 a ha]; rfl
theorem find_all (p : Nat → Bool) (n : Nat) (h1 : ∀ i, i < n → p i = false) : (List.range n).find? p = none := by
  rw [List.find?_eq_none]
  intro x hx
  rw [List.mem_range] at hx
  rw [h1 x hx]; decide
theorem fresh_low (s : List UInt8) (k : Nat) (hk : k < 26) (h1 : ∀ i, i < k → UInt8.ofNat (97 + i) ∈ s) (h2 : UInt8.ofNat (97 + k) ∉ s) : fresh s = UInt8.ofNat (97 + k) := by
  unfold fresh
  rw [find_first _ 26 k hk (fun i hi => decide_eq_false (not_not_intro (h1 i hi))) (decide_eq_true h2)]
theorem fresh_high (s : List UInt8) (k : Nat) (hk : k < 63) (h0 : ∀ i, i < 26 → UInt8.ofNat (97 + i) ∈ s) (h1 : ∀ i, i < k → UInt8.ofNat (128 + i) ∈ s) (h2 : UInt8.ofNat (128 + k) ∉ s) : fresh s = UInt8.ofNat (128 + k) := by
  unfold fresh
  rw [find_all _ 26 (fun i hi => decide_eq_false (not_not_intro (h0 i hi))), find_first _ 63 k hk (fun i hi => decide_eq_false (not_not_intro (h1 i hi))) (decide_eq_true h2)]
theorem fresh_last (s : List UInt8) (h0 : ∀ i, i < 26 → UInt8.ofNat (97 + i) ∈ s) (h1 : ∀ i, i < 63 → UInt8.ofNat (128 + i) ∈ s) : fresh s = 191 := by
  unfold fresh
  rw [find_all _ 26 (fun i hi => decide_eq_false (not_not_intro (h0 i hi))), find_all _ 63 (fun i hi => decide_eq_false (not_not_intro (h1 i hi)))]
theorem find_cases (p : Nat → Bool) (n : Nat) : (∃ k, k < n ∧ (∀ i, i < k → p i = false) ∧ p k = true) ∨ ∀ i, i < n → p i = false := by
  induction n with
  | zero => exact .inr fun i h => by omega
  | succ n ih =>
    rcases ih with ⟨k, h1, h2⟩ | h
    · exact .inl ⟨k, by omega, h2⟩
    · cases hn : p n with
      | true => exact .inl ⟨n, by omega, h, hn⟩
      | false =>
        refine .inr fun i hi => ?_
        rcases Nat.lt_or_ge i n with h' | h'
        · exact h i h'
        · rw [show i = n by omega]; exact hn
theorem fresh_cases (s : List UInt8) : (∃ k, k < 26 ∧ (∀ i, i < k → UInt8.ofNat (97 + i) ∈ s) ∧ UInt8.ofNat (97 + k) ∉ s ∧ fresh s = UInt8.ofNat (97 + k)) ∨
    ((∀ i, i < 26 → UInt8.ofNat (97 + i) ∈ s) ∧ ((∃ k, k < 63 ∧ (∀ i, i < k → UInt8.ofNat (128 + i) ∈ s) ∧ UInt8.ofNat (128 + k) ∉ s ∧ fresh s = UInt8.ofNat (128 + k)) ∨ ((∀ i, i < 63 → UInt8.ofNat (128 + i) ∈ s) ∧ fresh s = 191))) := by
  rcases find_cases (fun i => decide (UInt8.ofNat (97 + i) ∉ s)) 26 with ⟨k, h1, h2, h3⟩ | h
  · have h2' : ∀ i, i < k → UInt8.ofNat (97 + i) ∈ s := fun i hi => Decidable.not_not.1 (of_decide_eq_false (h2 i hi))
    have h3' : UInt8.ofNat (97 + k) ∉ s := of_decide_eq_true h3
    exact .inl ⟨k, h1, h2', h3', fresh_low s k h1 h2' h3'⟩
  · have h' : ∀ i, i < 26 → UInt8.ofNat (97 + i) ∈ s := fun i hi => Decidable.not_not.1 (of_decide_eq_false (h i hi))
    refine .inr ⟨h', ?_⟩
    rcases find_cases (fun i => decide (UInt8.ofNat (128 + i) ∉ s)) 63 with ⟨k, h1, h2, h3⟩ | h
    · have h2' : ∀ i, i < k → UInt8.ofNat (128 + i) ∈ s := fun i hi => Decidable.not_not.1 (of_decide_eq_false (h2 i hi))
      have h3' : UInt8.ofNat (128 + k) ∉ s := of_decide_eq_true h3
      exact .inl ⟨k, h1, h2', h3', fresh_high s k h1 h' h2' h3'⟩
    · have h'' : ∀ i, i < 63 → UInt8.ofNat (128 + i) ∈ s := fun i hi => Decidable.not_not.1 (of_decide_eq_false (h i hi))
      exact .inr ⟨h'', fresh_last s h' h''⟩

end Go.Proofs.YtmfmagfgcdaeeaaGreat.T1

/- A free name renamed, with no capture: plain lemmas. -/
namespace Go.Proofs.YtmfmagfgcdaeeaaGreat.T1

def sw (c o m : UInt8) : UInt8 := if c = o then m else c
/-- The name that a sign binds behind the look for a capture. -/
def capX (p : Tm) (x o m : UInt8) : UInt8 := if x = m ∧ o ∈ p.free then fresh (bothL p.free [o, m]) else x
/-- A free name renamed, in n steps at most. -/
def ren : Nat → Tm → UInt8 → UInt8 → Tm
  | 0, t, _, _ => t
  | n + 1, t, o, m =>
    if o = m ∨ o ∉ t.free then t else
    match t with
    | .nil => .nil
    | .snd a b p => .snd (sw a o m) (sw b o m) (ren n p o m)
    | .rcv a x p => .rcv (sw a o m) (capX p x o m) (if capX p x o m = o then (if x = m ∧ o ∈ p.free then ren n p x (capX p x o m) else p) else ren n (if x = m ∧ o ∈ p.free then ren n p x (capX p x o m) else p) o m)
    | .tau p => .tau (ren n p o m)
    | .sum p q => .sum (ren n p o m) (ren n q o m)
    | .par p q => .par (ren n p o m) (ren n q o m)
    | .own x p => .own (capX p x o m) (if capX p x o m = o then (if x = m ∧ o ∈ p.free then ren n p x (capX p x o m) else p) else ren n (if x = m ∧ o ∈ p.free then ren n p x (capX p x o m) else p) o m)
    | .mat a b p => .mat (sw a o m) (sw b o m) (ren n p o m)
    | .rep p => .rep (ren n p o m)
theorem ren_same (n : Nat) (t : Tm) (o m : UInt8) (h : o = m ∨ o ∉ t.free) : ren n t o m = t := by
  cases n with
  | zero => rfl
  | succ n => unfold ren; rw [if_pos h]
/-- The part of a sign that binds, renamed. -/
def renB (n : Nat) (p : Tm) (x o m : UInt8) : Tm := if capX p x o m = o then (if x = m ∧ o ∈ p.free then ren n p x (capX p x o m) else p) else ren n (if x = m ∧ o ∈ p.free then ren n p x (capX p x o m) else p) o m

theorem ren_len (n : Nat) : ∀ (t : Tm) (o m : UInt8), (ren n t o m).pr.length = t.pr.length ∧ (ren n t o m).size = t.size := by
  induction n with
  | zero => intro t o m; exact ⟨rfl, rfl⟩
  | succ n ih =>
    intro t o m
    unfold ren
    split
    · exact ⟨rfl, rfl⟩
    · have hb : ∀ p x, (renB n p x o m).pr.length = p.pr.length ∧ (renB n p x o m).size = p.size := by
        intro p x
        unfold renB
        split <;> split <;> simp [ih]
      cases t with
      | rcv a x p => have h := hb p x; unfold renB at h; simp only [Tm.pr, Tm.size, List.length_cons]; exact ⟨by rw [h.1], by rw [h.2]⟩
      | own x p => have h := hb p x; unfold renB at h; simp only [Tm.pr, Tm.size, List.length_cons]; exact ⟨by rw [h.1], by rw [h.2]⟩
      | nil => exact ⟨rfl, rfl⟩
      | snd a b p => simp [Tm.pr, Tm.size, ih]
      | tau p => simp [Tm.pr, Tm.size, ih]
      | sum p q => simp [Tm.pr, Tm.size, ih]
      | par p q => simp [Tm.pr, Tm.size, ih]
      | mat a b p => simp [Tm.pr, Tm.size, ih]
      | rep p => simp [Tm.pr, Tm.size, ih]
theorem nmE_iff (c : UInt8) : nmE c = true ↔ (97 ≤ c.toNat ∧ c.toNat ≤ 122) ∨ (65 ≤ c.toNat ∧ c.toNat ≤ 90) ∨ 128 ≤ c.toNat := by simp [nmE, or_assoc]
theorem fresh_nm (s : List UInt8) : nmE (fresh s) = true := by
  rw [nmE_iff]
  rcases fresh_cases s with ⟨k, h1, _, _, h4⟩ | ⟨_, ⟨k, h1, _, _, h4⟩ | ⟨_, h4⟩⟩
  · rw [h4, UInt8.toNat_ofNat']; omega
  · rw [h4, UInt8.toNat_ofNat']; omega
  · rw [h4]; decide
theorem sw_ok {nm : UInt8 → Bool} {c o m : UInt8} (h : nm c = true) (hm : nm m = true) : nm (sw c o m) = true := by unfold sw; split <;> assumption
theorem capX_ok {p : Tm} {x o m : UInt8} (h : nmE x = true) : nmE (capX p x o m) = true := by
  unfold capX; split
  · exact fresh_nm _
  · exact h
theorem ren_okE (n : Nat) : ∀ (t : Tm) (o m : UInt8), t.ok nmE = true → nmE m = true → (ren n t o m).ok nmE = true := by
  induction n with
  | zero => intro t o m h _; exact h
  | succ n ih =>
    intro t o m h hm
    unfold ren
    split
    · exact h
    · have hb : ∀ p x, p.ok nmE = true → nmE x = true → (renB n p x o m).ok nmE = true := by
        intro p x hp hx
        unfold renB
        have hc := capX_ok (p := p) (o := o) (m := m) hx
        split <;> split
        · exact ih _ _ _ hp hc
        · exact hp
        · exact ih _ _ _ (ih _ _ _ hp hc) hm
        · exact ih _ _ _ hp hm
      cases t <;> simp only [Tm.ok, Bool.and_eq_true] at h ⊢
      · exact ⟨⟨sw_ok h.1.1 hm, sw_ok h.1.2 hm⟩, ih _ _ _ h.2 hm⟩
      · exact ⟨⟨sw_ok h.1.1 hm, capX_ok h.1.2⟩, hb _ _ h.2 h.1.2⟩
      · exact ih _ _ _ h hm
      · exact ⟨ih _ _ _ h.1 hm, ih _ _ _ h.2 hm⟩
      · exact ⟨ih _ _ _ h.1 hm, ih _ _ _ h.2 hm⟩
      · exact ⟨capX_ok h.1, hb _ _ h.2 h.1⟩
      · exact ⟨⟨sw_ok h.1.1 hm, sw_ok h.1.2 hm⟩, ih _ _ _ h.2 hm⟩
      · exact ih _ _ _ h hm
end Go.Proofs.YtmfmagfgcdaeeaaGreat.T1

/- A free name renamed: what it leaves free, and that the number of steps does not matter: plain lemmas. -/
namespace Go.Proofs.YtmfmagfgcdaeeaaGreat.T1
set_option linter.unusedVariables false

theorem mf_snd (a b : UInt8) (p : Tm) (z : UInt8) : z ∈ (Tm.snd a b p).free ↔ z = a ∨ z = b ∨ z ∈ p.free := by
  simp only [Tm.free, mem_addL, mem_bothL]; grind
theorem mf_rcv (a x : UInt8) (p : Tm) (z : UInt8) : z ∈ (Tm.rcv a x p).free ↔ z = a ∨ (z ∈ p.free ∧ z ≠ x) := by
  simp only [Tm.free, mem_addL, mem_bothL, mem_lessL]; grind
theorem mf_tau (p : Tm) (z : UInt8) : z ∈ (Tm.tau p).free ↔ z ∈ p.free := by
  simp only [Tm.free, mem_bothL]; grind
theorem mf_sum (p q : Tm) (z : UInt8) : z ∈ (Tm.sum p q).free ↔ z ∈ p.free ∨ z ∈ q.free := by
  simp only [Tm.free, mem_bothL]; grind
theorem mf_par (p q : Tm) (z : UInt8) : z ∈ (Tm.par p q).free ↔ z ∈ p.free ∨ z ∈ q.free := by
  simp only [Tm.free, mem_bothL]; grind
theorem mf_own (x : UInt8) (p : Tm) (z : UInt8) : z ∈ (Tm.own x p).free ↔ z ∈ p.free ∧ z ≠ x := by
  simp only [Tm.free, mem_bothL, mem_lessL]; grind
theorem mf_mat (a b : UInt8) (p : Tm) (z : UInt8) : z ∈ (Tm.mat a b p).free ↔ z = a ∨ z = b ∨ z ∈ p.free := by
  simp only [Tm.free, mem_addL, mem_bothL]; grind
theorem mf_rep (p : Tm) (z : UInt8) : z ∈ (Tm.rep p).free ↔ z ∈ p.free := by
  simp only [Tm.free, mem_bothL]; grind
theorem ren_fuel (n : Nat) : ∀ (k : Nat) (t : Tm) (o m : UInt8), t.size ≤ n → t.size ≤ k → ren n t o m = ren k t o m := by
  induction n with
  | zero => intro k t o m h; have := size_pos t; omega
  | succ n ih =>
    intro k t o m hn hk
    cases k with
    | zero => have := size_pos t; omega
    | succ k =>
      have hb : ∀ p x, p.size ≤ n → p.size ≤ k → renB n p x o m = renB k p x o m := by
        intro p x h1 h2
        unfold renB
        split <;> split
        · exact ih _ _ _ _ h1 h2
        · rfl
        · rw [ih k p x _ h1 h2]
          exact ih _ _ _ _ (by rw [(ren_len _ _ _ _).2]; exact h1) (by rw [(ren_len _ _ _ _).2]; exact h2)
        · exact ih _ _ _ _ h1 h2
      unfold ren
      split
      · rfl
      · cases t with
        | nil => rfl
        | snd a b p => simp only [Tm.size] at hn hk; simp only [ih k p o m (by omega) (by omega)]
        | rcv a x p => simp only [Tm.size] at hn hk; have h := hb p x (by omega) (by omega); unfold renB at h; simp only [h]
        | tau p => simp only [Tm.size] at hn hk; simp only [ih k p o m (by omega) (by omega)]
        | sum p q => simp only [Tm.size] at hn hk; simp only [ih k p o m (by omega) (by omega), ih k q o m (by omega) (by omega)]
        | par p q => simp only [Tm.size] at hn hk; simp only [ih k p o m (by omega) (by omega), ih k q o m (by omega) (by omega)]
        | own x p => simp only [Tm.size] at hn hk; have h := hb p x (by omega) (by omega); unfold renB at h; simp only [h]
        | mat a b p => simp only [Tm.size] at hn hk; simp only [ih k p o m (by omega) (by omega)]
        | rep p => simp only [Tm.size] at hn hk; simp only [ih k p o m (by omega) (by omega)]

/-- A free name renamed. -/
def R (t : Tm) (o m : UInt8) : Tm := ren t.size t o m
theorem R_size (t : Tm) (o m : UInt8) : (R t o m).size = t.size := (ren_len _ _ _ _).2
theorem R_len (t : Tm) (o m : UInt8) : (R t o m).pr.length = t.pr.length := (ren_len _ _ _ _).1
theorem ren_R {n : Nat} {t : Tm} (h : t.size ≤ n) (o m : UInt8) : ren n t o m = R t o m := ren_fuel _ _ _ _ _ h (Nat.le_refl _)
theorem R_same (t : Tm) (o m : UInt8) (h : o = m ∨ o ∉ t.free) : R t o m = t := ren_same _ _ _ _ h
/-- The part of a sign that binds, renamed. -/
def RB (p : Tm) (x o m : UInt8) : Tm := if capX p x o m = o then (if x = m ∧ o ∈ p.free then R p x (capX p x o m) else p) else R (if x = m ∧ o ∈ p.free then R p x (capX p x o m) else p) o m
theorem renB_RB {n : Nat} {p : Tm} (h : p.size ≤ n) (x o m : UInt8) : renB n p x o m = RB p x o m := by
  unfold renB RB
  split <;> split
  · rw [ren_R h]
  · rfl
  · rw [ren_R h, ren_R (by rw [R_size]; exact h)]
  · rw [ren_R h]
section
variable {o m : UInt8}
theorem R_snd {a b : UInt8} {p : Tm} (h : ¬ (o = m ∨ o ∉ (Tm.snd a b p).free)) : R (.snd a b p) o m = .snd (sw a o m) (sw b o m) (R p o m) := by
  show ren (p.size + 1) _ _ _ = _
  unfold ren; rw [if_neg h]; simp only [ren_R (Nat.le_refl p.size)]
theorem R_mat {a b : UInt8} {p : Tm} (h : ¬ (o = m ∨ o ∉ (Tm.mat a b p).free)) : R (.mat a b p) o m = .mat (sw a o m) (sw b o m) (R p o m) := by
  show ren (p.size + 1) _ _ _ = _
  unfold ren; rw [if_neg h]; simp only [ren_R (Nat.le_refl p.size)]
theorem R_rcv {a x : UInt8} {p : Tm} (h : ¬ (o = m ∨ o ∉ (Tm.rcv a x p).free)) : R (.rcv a x p) o m = .rcv (sw a o m) (capX p x o m) (RB p x o m) := by
  show ren (p.size + 1) _ _ _ = _
  rw [← renB_RB (Nat.le_refl p.size)]
  unfold ren renB; rw [if_neg h]
theorem R_own {x : UInt8} {p : Tm} (h : ¬ (o = m ∨ o ∉ (Tm.own x p).free)) : R (.own x p) o m = .own (capX p x o m) (RB p x o m) := by
  show ren (p.size + 1) _ _ _ = _
  rw [← renB_RB (Nat.le_refl p.size)]
  unfold ren renB; rw [if_neg h]
theorem R_tau {p : Tm} (h : ¬ (o = m ∨ o ∉ (Tm.tau p).free)) : R (.tau p) o m = .tau (R p o m) := by
  show ren (p.size + 1) _ _ _ = _
  unfold ren; rw [if_neg h]; simp only [ren_R (Nat.le_refl p.size)]
theorem R_rep {p : Tm} (h : ¬ (o = m ∨ o ∉ (Tm.rep p).free)) : R (.rep p) o m = .rep (R p o m) := by
  show ren (p.size + 1) _ _ _ = _
  unfold ren; rw [if_neg h]; simp only [ren_R (Nat.le_refl p.size)]
theorem R_sum {p q : Tm} (h : ¬ (o = m ∨ o ∉ (Tm.sum p q).free)) : R (.sum p q) o m = .sum (R p o m) (R q o m) := by
  show ren (p.size + q.size + 1) _ _ _ = _
  unfold ren; rw [if_neg h]; simp only [ren_R (Nat.le_add_right p.size q.size), ren_R (Nat.le_add_left q.size p.size)]
theorem R_par {p q : Tm} (h : ¬ (o = m ∨ o ∉ (Tm.par p q).free)) : R (.par p q) o m = .par (R p o m) (R q o m) := by
  show ren (p.size + q.size + 1) _ _ _ = _
  unfold ren; rw [if_neg h]; simp only [ren_R (Nat.le_add_right p.size q.size), ren_R (Nat.le_add_left q.size p.size)]
end

theorem R_bnd (n : Nat) : ∀ (t : Tm) (o m : UInt8), t.size ≤ n → (R t o m).bnd.length = t.bnd.length := by
  induction n with
  | zero => intro t o m h; have := size_pos t; omega
  | succ n ih =>
    intro t o m hn
    by_cases h : o = m ∨ o ∉ t.free
    · rw [R_same _ _ _ h]
    · have hb : ∀ p x, p.size ≤ n → (RB p x o m).bnd.length = p.bnd.length := by
        intro p x h1
        unfold RB
        split <;> split
        · exact ih _ _ _ h1
        · rfl
        · rw [ih _ _ _ (by rw [R_size]; exact h1)]; exact ih _ _ _ h1
        · exact ih _ _ _ h1
      cases t with
      | nil => exact absurd (.inr (by simp [Tm.free])) h
      | snd a b p => simp only [Tm.size] at hn; rw [R_snd h]; exact ih _ _ _ (by omega)
      | rcv a x p => simp only [Tm.size] at hn; rw [R_rcv h]; simp only [Tm.bnd, List.length_cons]; rw [hb p x (by omega)]
      | tau p => simp only [Tm.size] at hn; rw [R_tau h]; exact ih _ _ _ (by omega)
      | sum p q => simp only [Tm.size] at hn; rw [R_sum h]; simp only [Tm.bnd, List.length_append]; rw [ih p _ _ (by omega), ih q _ _ (by omega)]
      | par p q => simp only [Tm.size] at hn; rw [R_par h]; simp only [Tm.bnd, List.length_append]; rw [ih p _ _ (by omega), ih q _ _ (by omega)]
      | own x p => simp only [Tm.size] at hn; rw [R_own h]; simp only [Tm.bnd, List.length_cons]; rw [hb p x (by omega)]
      | mat a b p => simp only [Tm.size] at hn; rw [R_mat h]; exact ih _ _ _ (by omega)
      | rep p => simp only [Tm.size] at hn; rw [R_rep h]; exact ih _ _ _ (by omega)

/-- How deep signs that bind lie within each other. -/
def Tm.bdp : Tm → Nat
  | .nil => 0
  | .snd _ _ p => p.bdp
  | .rcv _ _ p => p.bdp + 1
  | .tau p => p.bdp
  | .sum p q => max p.bdp q.bdp
  | .par p q => max p.bdp q.bdp
  | .own _ p => p.bdp + 1
  | .mat _ _ p => p.bdp
  | .rep p => p.bdp
theorem bdp_bnd (t : Tm) : t.bdp ≤ t.bnd.length := by
  induction t <;> simp only [Tm.bdp, Tm.bnd, List.length_append, List.length_cons, List.length_nil] <;> omega
theorem R_bdp (n : Nat) : ∀ (t : Tm) (o m : UInt8), t.size ≤ n → (R t o m).bdp = t.bdp := by
  induction n with
  | zero => intro t o m h; have := size_pos t; omega
  | succ n ih =>
    intro t o m hn
    by_cases h : o = m ∨ o ∉ t.free
    · rw [R_same _ _ _ h]
    · have hb : ∀ p x, p.size ≤ n → (RB p x o m).bdp = p.bdp := by
        intro p x h1
        unfold RB
        split <;> split
        · exact ih _ _ _ h1
        · rfl
        · rw [ih _ _ _ (by rw [R_size]; exact h1)]; exact ih _ _ _ h1
        · exact ih _ _ _ h1
      cases t with
      | nil => exact absurd (.inr (by simp [Tm.free])) h
      | snd a b p => simp only [Tm.size] at hn; rw [R_snd h]; exact ih _ _ _ (by omega)
      | rcv a x p => simp only [Tm.size] at hn; rw [R_rcv h]; simp only [Tm.bdp]; rw [hb p x (by omega)]
      | tau p => simp only [Tm.size] at hn; rw [R_tau h]; exact ih _ _ _ (by omega)
      | sum p q => simp only [Tm.size] at hn; rw [R_sum h]; simp only [Tm.bdp]; rw [ih p _ _ (by omega), ih q _ _ (by omega)]
      | par p q => simp only [Tm.size] at hn; rw [R_par h]; simp only [Tm.bdp]; rw [ih p _ _ (by omega), ih q _ _ (by omega)]
      | own x p => simp only [Tm.size] at hn; rw [R_own h]; simp only [Tm.bdp]; rw [hb p x (by omega)]
      | mat a b p => simp only [Tm.size] at hn; rw [R_mat h]; exact ih _ _ _ (by omega)
      | rep p => simp only [Tm.size] at hn; rw [R_rep h]; exact ih _ _ _ (by omega)

theorem srt_sub : ∀ {m l : List UInt8}, Srt l → Srt m → (∀ z ∈ l, z ∈ m) → l.length ≤ m.length := by
  intro m
  induction m with
  | nil => intro l _ _ h; cases l with
    | nil => simp
    | cons a l => exact absurd (h a (by simp)) (by simp)
  | cons b m ih =>
    intro l hl hm h
    cases l with
    | nil => simp
    | cons a l =>
      have hl' := List.pairwise_cons.1 hl
      have hm' := List.pairwise_cons.1 hm
      by_cases e : a = b
      · subst e
        have := ih hl'.2 hm'.2 fun z hz => by
          rcases List.mem_cons.1 (h z (List.mem_cons_of_mem _ hz)) with h1 | h1
          · have := hl'.1 z hz; rw [h1, u8_lt] at this; omega
          · exact h1
        simp; exact this
      · have ha : a ∈ m := by
          rcases List.mem_cons.1 (h a (by simp)) with h1 | h1
          · exact absurd h1 e
          · exact h1
        have hba := hm'.1 a ha
        have := ih hl hm'.2 fun z hz => by
          rcases List.mem_cons.1 (h z hz) with h1 | h1
          · rcases List.mem_cons.1 hz with h2 | h2
            · exact absurd (h2 ▸ h1) e
            · have h3 := hl'.1 z h2
              rw [h1] at h3
              rw [u8_lt] at h3 hba; omega
          · exact h1
        simp only [List.length_cons] at this ⊢; omega
theorem addL_len (c : UInt8) : ∀ (l : List UInt8), (addL l c).length ≤ l.length + 1 := by
  intro l
  induction l with
  | nil => simp [addL]
  | cons d l ih => unfold addL; split <;> (try split) <;> simp only [List.length_cons] <;> omega
/-- There is room for one more name at each sign that binds. -/
def Roomy (t : Tm) (o m : UInt8) : Prop := (bothL t.free [o, m]).length + t.bdp ≤ 88
theorem mem_two (l : List UInt8) (o m z : UInt8) : z ∈ bothL l [o, m] ↔ z ∈ l ∨ z = o ∨ z = m := by rw [mem_bothL]; simp
theorem roomy_of {t p : Tm} {o m o' m' : UInt8} (y : UInt8) (h : Roomy t o m) (hb : p.bdp + 1 ≤ t.bdp) (hs : ∀ z, z ∈ p.free ∨ z = o' ∨ z = m' → z ∈ t.free ∨ z = o ∨ z = m ∨ z = y) : Roomy p o' m' := by
  unfold Roomy at h ⊢
  have h1 := srt_sub (l := bothL p.free [o', m']) (m := addL (bothL t.free [o, m]) y) (srt_bothL _ (srt_free p)) (srt_addL (srt_bothL _ (srt_free t)) y) (fun z hz => by
    rw [mem_addL, mem_two]
    have := hs z ((mem_two _ _ _ _).1 hz)
    grind)
  have h2 := addL_len y (bothL t.free [o, m])
  omega
theorem roomy_sub {t p : Tm} {o m o' m' : UInt8} (h : Roomy t o m) (hb : p.bdp ≤ t.bdp) (hs : ∀ z, z ∈ p.free ∨ z = o' ∨ z = m' → z ∈ t.free ∨ z = o ∨ z = m) : Roomy p o' m' := by
  unfold Roomy at h ⊢
  have h1 := srt_sub (l := bothL p.free [o', m']) (m := bothL t.free [o, m]) (srt_bothL _ (srt_free p)) (srt_bothL _ (srt_free t)) (fun z hz => by
    rw [mem_two]
    exact hs z ((mem_two _ _ _ _).1 hz))
  omega
def allL : List UInt8 := (List.range 26).map (fun i => UInt8.ofNat (97 + i)) ++ (List.range 63).map (fun i => UInt8.ofNat (128 + i))
theorem allL_srt : Srt allL := by unfold Srt allL; decide +kernel
theorem fresh_new {s : List UInt8} (hs : Srt s) (hl : s.length ≤ 88) : fresh s ∉ s := by
  rcases fresh_cases s with ⟨k, h1, _, h3, h4⟩ | ⟨h0, ⟨k, h1, _, h3, h4⟩ | ⟨h1, h4⟩⟩
  · rw [h4]; exact h3
  · rw [h4]; exact h3
  · have := srt_sub allL_srt hs (fun z hz => by
      unfold allL at hz
      rcases List.mem_append.1 hz with h | h
      · obtain ⟨i, hi, rfl⟩ := List.mem_map.1 h; exact h0 i (List.mem_range.1 hi)
      · obtain ⟨i, hi, rfl⟩ := List.mem_map.1 h; exact h1 i (List.mem_range.1 hi))
    have h2 : allL.length = 89 := by unfold allL; decide +kernel
    omega
/-- A sign that captures: the new name is none of those that matter. -/
theorem cap_new {p t : Tm} {x o m : UInt8} (hr : Roomy t o m) (hb : p.bdp + 1 ≤ t.bdp) (hs : ∀ z, z ∈ p.free → z = x ∨ z ∈ t.free) (hc : x = m ∧ o ∈ p.free) :
    capX p x o m ∉ p.free ∧ capX p x o m ≠ o ∧ capX p x o m ≠ m := by
  unfold capX
  rw [if_pos hc]
  have h := fresh_new (s := bothL p.free [o, m]) (srt_bothL _ (srt_free p)) (by
    unfold Roomy at hr
    have h1 := srt_sub (l := bothL p.free [o, m]) (m := bothL t.free [o, m]) (srt_bothL _ (srt_free p)) (srt_bothL _ (srt_free t)) (fun z hz => by
      rw [mem_two] at hz ⊢
      have := hs z
      grind)
    omega)
  rw [mem_two] at h
  grind

theorem R_free (n : Nat) : ∀ (t : Tm) (o m : UInt8), t.size ≤ n → Roomy t o m → o ≠ m → ∀ z, z ∈ (R t o m).free ↔ (z ∈ t.free ∧ z ≠ o) ∨ (z = m ∧ o ∈ t.free) := by
  induction n with
  | zero => intro t o m h; have := size_pos t; omega
  | succ n ih =>
    intro t o m hn hr hne z
    by_cases h : o = m ∨ o ∉ t.free
    · rw [R_same _ _ _ h]; grind
    · have hof : o ∈ t.free := by grind
      -- the part of a sign that binds: what is free behind it, the bound one apart
      have hb : ∀ (p : Tm) (x : UInt8), p.size ≤ n → p.bdp + 1 ≤ t.bdp → (∀ z, z ∈ p.free → z = x ∨ z ∈ t.free) → ∀ z, (z ∈ (RB p x o m).free ∧ z ≠ capX p x o m) ↔ (z ∈ p.free ∧ z ≠ x ∧ z ≠ o) ∨ (z = m ∧ o ∈ p.free ∧ o ≠ x) := by
        intro p x hp hbl hs z
        unfold RB
        by_cases hc : x = m ∧ o ∈ p.free
        · obtain ⟨y1, y2, y3⟩ := cap_new hr hbl hs hc
          rw [if_neg y2, if_pos hc]
          have r1 : Roomy p x (capX p x o m) := roomy_of (capX p x o m) hr hbl (fun z hz => by have := hs z; grind)
          have f1 := ih p x (capX p x o m) hp r1 (fun e => y3 (e.symm.trans hc.1))
          have r2 : Roomy (R p x (capX p x o m)) o m := roomy_of (capX p x o m) hr (by rw [R_bdp _ _ _ _ (Nat.le_refl _)]; exact hbl) (fun z hz => by have := hs z; have := f1 z; grind)
          have f2 := ih (R p x (capX p x o m)) o m (by rw [R_size]; exact hp) r2 hne z
          have g1 := f1 z
          have g2 := f1 o
          grind
        · have hx : capX p x o m = x := by unfold capX; rw [if_neg hc]
          rw [hx, if_neg hc]
          by_cases ho : x = o
          · rw [if_pos ho]; grind
          · rw [if_neg ho]
            have r1 : Roomy p o m := roomy_of x hr hbl (fun z hz => by have := hs z; grind)
            have f1 := ih p o m hp r1 hne z
            grind
      cases t with
      | nil => simp [Tm.free] at hof
      | snd a b p =>
        simp only [Tm.size] at hn
        have f := ih p o m (by omega) (roomy_sub hr (Nat.le_refl _) (fun z hz => by rw [mf_snd]; grind)) hne z
        rw [R_snd h, mf_snd, mf_snd]; rw [mf_snd] at hof; unfold sw; rw [f]; grind [mf_snd]
      | mat a b p =>
        simp only [Tm.size] at hn
        have f := ih p o m (by omega) (roomy_sub hr (Nat.le_refl _) (fun z hz => by rw [mf_mat]; grind)) hne z
        rw [R_mat h, mf_mat, mf_mat]; rw [mf_mat] at hof; unfold sw; rw [f]; grind [mf_mat]
      | rcv a x p =>
        simp only [Tm.size] at hn
        have f := hb p x (by omega) (by simp only [Tm.bdp]; try omega) (fun z hz => by rw [mf_rcv]; grind) z
        rw [R_rcv h, mf_rcv, mf_rcv, f]; rw [mf_rcv] at hof; unfold sw; grind [mf_rcv]
      | own x p =>
        simp only [Tm.size] at hn
        have f := hb p x (by omega) (by simp only [Tm.bdp]; try omega) (fun z hz => by rw [mf_own]; grind) z
        rw [R_own h, mf_own, mf_own, f]; rw [mf_own] at hof; grind [mf_own]
      | tau p =>
        simp only [Tm.size] at hn
        have f := ih p o m (by omega) (roomy_sub hr (Nat.le_refl _) (fun z hz => by rw [mf_tau]; grind)) hne z
        rw [R_tau h, mf_tau, mf_tau, f]; grind [mf_tau]
      | rep p =>
        simp only [Tm.size] at hn
        have f := ih p o m (by omega) (roomy_sub hr (Nat.le_refl _) (fun z hz => by rw [mf_rep]; grind)) hne z
        rw [R_rep h, mf_rep, mf_rep, f]; grind [mf_rep]
      | sum p q =>
        simp only [Tm.size] at hn
        have f := ih p o m (by omega) (roomy_sub hr (by simp only [Tm.bdp]; try omega) (fun z hz => by rw [mf_sum]; grind)) hne z
        have g := ih q o m (by omega) (roomy_sub hr (by simp only [Tm.bdp]; try omega) (fun z hz => by rw [mf_sum]; grind)) hne z
        rw [R_sum h, mf_sum, mf_sum, f, g]; grind [mf_sum]
      | par p q =>
        simp only [Tm.size] at hn
        have f := ih p o m (by omega) (roomy_sub hr (by simp only [Tm.bdp]; try omega) (fun z hz => by rw [mf_par]; grind)) hne z
        have g := ih q o m (by omega) (roomy_sub hr (by simp only [Tm.bdp]; try omega) (fun z hz => by rw [mf_par]; grind)) hne z
        rw [R_par h, mf_par, mf_par, f, g]; grind [mf_par]

end Go.Proofs.YtmfmagfgcdaeeaaGreat.T1

/- Congruence, plain: matches at the front, dead parts, names that are used, a process peeled. -/
namespace Go.Proofs.YtmfmagfgcdaeeaaGreat.T1
set_option linter.unusedVariables false

/-- Congruent to 0. -/
def Tm.dead : Tm → Bool
  | .nil => true
  | .snd _ _ _ => false
  | .rcv _ _ _ => false
  | .tau _ => false
  | .sum p q => p.dead && q.dead
  | .par p q => p.dead && q.dead
  | .own _ p => p.dead
  | .mat _ _ p => p.dead
  | .rep p => p.dead
/-- The free names where dead parts are left out. -/
def Tm.usd : Tm → List UInt8
  | .nil => []
  | .snd a b p => addL (addL (bothL [] p.usd) a) b
  | .rcv a x p => addL (lessL (bothL [] p.usd) x) a
  | .tau p => bothL [] p.usd
  | .sum p q => if p.dead && q.dead then [] else bothL (bothL [] p.usd) q.usd
  | .par p q => if p.dead && q.dead then [] else bothL (bothL [] p.usd) q.usd
  | .own x p => if p.dead then [] else lessL (bothL [] p.usd) x
  | .mat a b p => if a = b then p.usd else if p.dead then [] else addL (addL (bothL [] p.usd) a) b
  | .rep p => if p.dead then [] else bothL [] p.usd
/-- Without dead parts beside the first sign, and without names of its own at its front that it does not use. -/
def Tm.peel : Tm → Tm
  | .mat a b p => if a = b then p.peel else .mat a b p
  | .sum p q => if p.dead then q.peel else if q.dead then p.peel else .sum p q
  | .par p q => if p.dead then q.peel else if q.dead then p.peel else .par p q
  | .own x p => if x ∈ p.usd then .own x p else p.peel
  | t => t

theorem srt_usd (t : Tm) : Srt t.usd := by
  induction t with
  | nil => exact srt_nil
  | snd a b p ih => exact srt_addL (srt_addL (srt_bothL _ srt_nil) a) b
  | rcv a x p ih => exact srt_addL (srt_lessL (srt_bothL _ srt_nil) x) a
  | tau p ih => exact srt_bothL _ srt_nil
  | sum p q ih ih2 => unfold Tm.usd; split; exact srt_nil; exact srt_bothL _ (srt_bothL _ srt_nil)
  | par p q ih ih2 => unfold Tm.usd; split; exact srt_nil; exact srt_bothL _ (srt_bothL _ srt_nil)
  | own x p ih => unfold Tm.usd; split; exact srt_nil; exact srt_lessL (srt_bothL _ srt_nil) x
  | mat a b p ih => unfold Tm.usd; split; exact ih; split; exact srt_nil; exact srt_addL (srt_addL (srt_bothL _ srt_nil) a) b
  | rep p ih => unfold Tm.usd; split; exact srt_nil; exact srt_bothL _ srt_nil
/-- The parts of a sum that are no sums and not 0. -/
def Tm.sums : Nat → Tm → List Tm
  | 0, _ => []
  | n + 1, t => match t.peel with
    | .sum p q => Tm.sums n p ++ Tm.sums n q
    | u => if u.dead then [] else [u]
/-- Processes with one sign between them, brackets to the right. -/
def joinR (c : Tm → Tm → Tm) : List Tm → Tm
  | [] => .nil
  | [t] => t
  | t :: ts => c t (joinR c ts)

end Go.Proofs.YtmfmagfgcdaeeaaGreat.T1

/- Congruence, plain: a process and a simplified one that are the same but for names; what a renaming does to it. -/
namespace Go.Proofs.YtmfmagfgcdaeeaaGreat.T1
set_option linter.unusedVariables false

theorem dead_usd (t : Tm) : t.dead = true → t.usd = [] := by
  induction t with
  | nil => intro _; rfl
  | snd a b p ih => intro h; cases h
  | rcv a x p ih => intro h; cases h
  | tau p ih => intro h; cases h
  | sum p q ih ih2 => intro h; unfold Tm.usd; exact if_pos h
  | par p q ih ih2 => intro h; unfold Tm.usd; exact if_pos h
  | own x p ih => intro h; unfold Tm.usd; exact if_pos h
  | mat a b p ih =>
    intro h; unfold Tm.usd; split
    · exact ih h
    · exact if_pos h
  | rep p ih => intro h; unfold Tm.usd; exact if_pos h

theorem mu_snd (a b : UInt8) (p : Tm) (z : UInt8) : z ∈ (Tm.snd a b p).usd ↔ z = a ∨ z = b ∨ z ∈ p.usd := by
  show z ∈ addL (addL (bothL [] p.usd) a) b ↔ _; rw [mem_addL, mem_addL, mem_bothL]; grind
theorem mu_rcv (a x : UInt8) (p : Tm) (z : UInt8) : z ∈ (Tm.rcv a x p).usd ↔ z = a ∨ (z ∈ p.usd ∧ z ≠ x) := by
  show z ∈ addL (lessL (bothL [] p.usd) x) a ↔ _; rw [mem_addL, mem_lessL, mem_bothL]; grind
theorem mu_tau (p : Tm) (z : UInt8) : z ∈ (Tm.tau p).usd ↔ z ∈ p.usd := by
  show z ∈ bothL [] p.usd ↔ _; rw [mem_bothL]; simp
theorem mu_rep (p : Tm) (z : UInt8) : z ∈ (Tm.rep p).usd ↔ z ∈ p.usd := by
  show z ∈ (if p.dead then [] else bothL [] p.usd) ↔ _; split
  · rename_i h; rw [dead_usd _ h]
  · rw [mem_bothL]; simp
theorem mu_sum (p q : Tm) (z : UInt8) : z ∈ (Tm.sum p q).usd ↔ z ∈ p.usd ∨ z ∈ q.usd := by
  show z ∈ (if p.dead && q.dead then [] else bothL (bothL [] p.usd) q.usd) ↔ _; split
  · rename_i h; rw [Bool.and_eq_true] at h; rw [dead_usd _ h.1, dead_usd _ h.2]; simp
  · rw [mem_bothL, mem_bothL]; simp
theorem mu_par (p q : Tm) (z : UInt8) : z ∈ (Tm.par p q).usd ↔ z ∈ p.usd ∨ z ∈ q.usd := by
  show z ∈ (if p.dead && q.dead then [] else bothL (bothL [] p.usd) q.usd) ↔ _; split
  · rename_i h; rw [Bool.and_eq_true] at h; rw [dead_usd _ h.1, dead_usd _ h.2]; simp
  · rw [mem_bothL, mem_bothL]; simp
theorem mu_own (x : UInt8) (p : Tm) (z : UInt8) : z ∈ (Tm.own x p).usd ↔ z ∈ p.usd ∧ z ≠ x := by
  show z ∈ (if p.dead then [] else lessL (bothL [] p.usd) x) ↔ _; split
  · rename_i h; rw [dead_usd _ h]; simp
  · rw [mem_lessL, mem_bothL]; simp
theorem mu_mat (a b : UInt8) (p : Tm) (z : UInt8) : z ∈ (Tm.mat a b p).usd ↔ (a = b ∧ z ∈ p.usd) ∨ (a ≠ b ∧ p.dead = false ∧ (z = a ∨ z = b ∨ z ∈ p.usd)) := by
  show z ∈ (if a = b then p.usd else if p.dead then [] else addL (addL (bothL [] p.usd) a) b) ↔ _; split
  · rename_i h; simp [h]
  · rename_i h; split
    · rename_i h2; simp [h, h2]
    · rename_i h2; rw [mem_addL, mem_addL, mem_bothL]
      have : p.dead = false := by simpa using h2
      simp [h, this]; grind
theorem usd_free (t : Tm) : ∀ z, z ∈ t.usd → z ∈ t.free := by
  induction t with
  | nil => intro z h; simp [Tm.usd] at h
  | snd a b p ih => intro z h; rw [mu_snd] at h; rw [mf_snd]; have := ih z; grind
  | rcv a x p ih => intro z h; rw [mu_rcv] at h; rw [mf_rcv]; have := ih z; grind
  | tau p ih => intro z h; rw [mu_tau] at h; rw [mf_tau]; exact ih z h
  | sum p q ih ih2 => intro z h; rw [mu_sum] at h; rw [mf_sum]; have := ih z; have := ih2 z; grind
  | par p q ih ih2 => intro z h; rw [mu_par] at h; rw [mf_par]; have := ih z; have := ih2 z; grind
  | own x p ih => intro z h; rw [mu_own] at h; rw [mf_own]; have := ih z; grind
  | mat a b p ih => intro z h; rw [mu_mat] at h; rw [mf_mat]; have := ih z; grind
  | rep p ih => intro z h; rw [mu_rep] at h; rw [mf_rep]; exact ih z h

/-- Two names that are bound at the same place, beside others that belong together. -/
def bdE (E : UInt8 → UInt8 → Prop) (x x' : UInt8) : UInt8 → UInt8 → Prop := fun u v => (u = x ∧ v = x') ∨ (u ≠ x ∧ v ≠ x' ∧ E u v)
/-- A process and what is left of it without dead parts, names of its own that are not used and matches of a name with itself; names belong together as told. -/
def Sm : Tm → (UInt8 → UInt8 → Prop) → Tm → Prop
  | .nil, _, s => s = .nil
  | .snd a b p, E, s => ∃ a' b' p', s = .snd a' b' p' ∧ E a a' ∧ E b b' ∧ Sm p E p'
  | .rcv a x p, E, s => ∃ a' x' p', s = .rcv a' x' p' ∧ E a a' ∧ Sm p (bdE E x x') p'
  | .tau p, E, s => ∃ p', s = .tau p' ∧ Sm p E p'
  | .sum p q, E, s => if p.dead then Sm q E s else if q.dead then Sm p E s else ∃ p' q', s = .sum p' q' ∧ Sm p E p' ∧ Sm q E q'
  | .par p q, E, s => if p.dead then Sm q E s else if q.dead then Sm p E s else ∃ p' q', s = .par p' q' ∧ Sm p E p' ∧ Sm q E q'
  | .own x p, E, s => if x ∈ p.usd then ∃ x' p', s = .own x' p' ∧ Sm p (bdE E x x') p' else Sm p E s
  | .mat a b p, E, s => if a = b then Sm p E s else if p.dead then s = .nil else ∃ a' b' p', s = .mat a' b' p' ∧ E a a' ∧ E b b' ∧ Sm p E p'
  | .rep p, E, s => if p.dead then s = .nil else ∃ p', s = .rep p' ∧ Sm p E p'

theorem bdE_mono {E F : UInt8 → UInt8 → Prop} {l k : List UInt8} {x x' : UInt8} (h : ∀ u v, u ∈ l → E u v → F u v) (hk : ∀ u, u ∈ k → u ≠ x → u ∈ l) : ∀ u v, u ∈ k → bdE E x x' u v → bdE F x x' u v := by
  intro u v hu hb
  rcases hb with hb | ⟨h1, h2, h3⟩
  · exact .inl hb
  · exact .inr ⟨h1, h2, h u v (hk u hu h1) h3⟩
theorem Sm_mono (t : Tm) : ∀ (E F : UInt8 → UInt8 → Prop) (s : Tm), (∀ u v, u ∈ t.usd → E u v → F u v) → Sm t E s → Sm t F s := by
  induction t with
  | nil => intro E F s _ h; exact h
  | snd a b p ih =>
    rintro E F s h ⟨a', b', p', rfl, h1, h2, h3⟩
    exact ⟨a', b', p', rfl, h _ _ (by rw [mu_snd]; simp) h1, h _ _ (by rw [mu_snd]; simp) h2, ih E F p' (fun u v hu => h u v (by rw [mu_snd]; simp [hu])) h3⟩
  | rcv a x p ih =>
    rintro E F s h ⟨a', x', p', rfl, h1, h3⟩
    exact ⟨a', x', p', rfl, h _ _ (by rw [mu_rcv]; simp) h1, ih _ _ p' (bdE_mono h (fun u hu hx => by rw [mu_rcv]; exact .inr ⟨hu, hx⟩)) h3⟩
  | tau p ih =>
    rintro E F s h ⟨p', rfl, h3⟩
    exact ⟨p', rfl, ih E F p' (fun u v hu => h u v (by rw [mu_tau]; exact hu)) h3⟩
  | sum p q ih ih2 =>
    intro E F s h hs
    have hp : ∀ u v, u ∈ p.usd → E u v → F u v := fun u v hu => h u v (by rw [mu_sum]; exact .inl hu)
    have hq : ∀ u v, u ∈ q.usd → E u v → F u v := fun u v hu => h u v (by rw [mu_sum]; exact .inr hu)
    unfold Sm at hs ⊢
    split at hs
    · rename_i c; rw [if_pos c]; exact ih2 E F s hq hs
    · rename_i c; rw [if_neg c]
      split at hs
      · rename_i c; rw [if_pos c]; exact ih E F s hp hs
      · rename_i c; rw [if_neg c]
        obtain ⟨p', q', e, h1, h2⟩ := hs
        exact ⟨p', q', e, ih E F p' hp h1, ih2 E F q' hq h2⟩
  | par p q ih ih2 =>
    intro E F s h hs
    have hp : ∀ u v, u ∈ p.usd → E u v → F u v := fun u v hu => h u v (by rw [mu_par]; exact .inl hu)
    have hq : ∀ u v, u ∈ q.usd → E u v → F u v := fun u v hu => h u v (by rw [mu_par]; exact .inr hu)
    unfold Sm at hs ⊢
    split at hs
    · rename_i c; rw [if_pos c]; exact ih2 E F s hq hs
    · rename_i c; rw [if_neg c]
      split at hs
      · rename_i c; rw [if_pos c]; exact ih E F s hp hs
      · rename_i c; rw [if_neg c]
        obtain ⟨p', q', e, h1, h2⟩ := hs
        exact ⟨p', q', e, ih E F p' hp h1, ih2 E F q' hq h2⟩
  | own x p ih =>
    intro E F s h hs
    unfold Sm at hs ⊢
    split at hs
    · rename_i c; rw [if_pos c]
      obtain ⟨x', p', e, h1⟩ := hs
      exact ⟨x', p', e, ih _ _ p' (bdE_mono h (fun u hu hx => by rw [mu_own]; exact ⟨hu, hx⟩)) h1⟩
    · rename_i c; rw [if_neg c]
      exact ih E F s (fun u v hu => h u v (by rw [mu_own]; exact ⟨hu, fun e => c (e ▸ hu)⟩)) hs
  | mat a b p ih =>
    intro E F s h hs
    unfold Sm at hs ⊢
    split at hs
    · rename_i c; rw [if_pos c]; exact ih E F s (fun u v hu => h u v (by rw [mu_mat]; exact .inl ⟨c, hu⟩)) hs
    · rename_i c; rw [if_neg c]
      split at hs
      · rename_i d; rw [if_pos d]; exact hs
      · rename_i d; rw [if_neg d]
        have d' : p.dead = false := by simpa using d
        obtain ⟨a', b', p', e, h1, h2, h3⟩ := hs
        exact ⟨a', b', p', e, h _ _ (by rw [mu_mat]; exact .inr ⟨c, d', .inl rfl⟩) h1, h _ _ (by rw [mu_mat]; exact .inr ⟨c, d', .inr (.inl rfl)⟩) h2, ih E F p' (fun u v hu => h u v (by rw [mu_mat]; exact .inr ⟨c, d', .inr (.inr hu)⟩)) h3⟩
  | rep p ih =>
    intro E F s h hs
    unfold Sm at hs ⊢
    split at hs
    · rename_i c; rw [if_pos c]; exact hs
    · rename_i c; rw [if_neg c]
      obtain ⟨p', e, h1⟩ := hs
      exact ⟨p', e, ih E F p' (fun u v hu => h u v (by rw [mu_rep]; exact hu)) h1⟩

end Go.Proofs.YtmfmagfgcdaeeaaGreat.T1

/- No name is bound twice, or bound and free: plain lemmas. -/
namespace Go.Proofs.YtmfmagfgcdaeeaaGreat.T1

def Tm.wellN (t : Tm) : Prop := t.bnd.Nodup ∧ ∀ x ∈ t.bnd, x ∉ t.free
theorem addL_mem {l : List UInt8} (h : Srt l) {c : UInt8} (hc : c ∈ l) : addL l c = l := srt_ext (srt_addL h c) h fun x => by
  rw [mem_addL]
  constructor
  · rintro (h | rfl)
    · exact h
    · exact hc
  · exact .inl
theorem addL_new (l : List UInt8) (c : UInt8) (hc : c ∉ l) : (addL l c).length = l.length + 1 := by
  induction l with
  | nil => rfl
  | cons x l ih =>
    unfold addL
    split
    · simp [ih (fun h => hc (by simp [h]))]
    · split
      · rename_i h; exact absurd (by simp [h]) hc
      · simp
theorem both_len (m : List UInt8) : ∀ (l : List UInt8), Srt l → (bothL l m).length ≤ l.length + m.length ∧ ((bothL l m).length = l.length + m.length ↔ m.Nodup ∧ ∀ x ∈ m, x ∉ l) := by
  induction m with
  | nil => intro l _; simp [bothL]
  | cons c m ih =>
    intro l h
    have h1 := ih (addL l c) (srt_addL h c)
    show (bothL (addL l c) m).length ≤ _ ∧ _
    by_cases hc : c ∈ l
    · rw [addL_mem h hc] at h1
      show (bothL (addL l c) m).length ≤ _ ∧ ((bothL (addL l c) m).length = _ ↔ _)
      rw [addL_mem h hc]
      refine ⟨by simp; omega, ⟨fun e => ?_, fun e => absurd hc (e.2 c (by simp))⟩⟩
      simp at e; omega
    · have h2 := addL_new l c hc
      show (bothL (addL l c) m).length ≤ _ ∧ ((bothL (addL l c) m).length = _ ↔ _)
      refine ⟨by simp; omega, ?_⟩
      rw [show l.length + (c :: m).length = (addL l c).length + m.length by simp; omega, h1.2]
      simp only [List.nodup_cons, mem_addL, List.mem_cons]
      constructor
      · rintro ⟨h3, h4⟩
        refine ⟨⟨fun hm => h4 c hm (.inr rfl), h3⟩, ?_⟩
        rintro x (rfl | hx)
        · exact hc
        · exact fun hl => h4 x hx (.inl hl)
      · rintro ⟨⟨h3, h4⟩, h5⟩
        refine ⟨h4, fun x hx => ?_⟩
        rintro (hl | rfl)
        · exact h5 x (.inr hx) hl
        · exact h3 hx
theorem disj_bits {l m : List UInt8} (h : Lets l) (k : Lets m) : setN l &&& setN m = 0 ↔ ∀ x ∈ l, x ∉ m := by
  constructor
  · intro e x hx hm
    have h1 := (setN_bit l h (x.toNat - 97)).2 ⟨x, hx, by have := h x hx; omega⟩
    have h2 := (setN_bit m k (x.toNat - 97)).2 ⟨x, hm, by have := h x hx; omega⟩
    have h3 := congrArg (fun n => n.testBit (x.toNat - 97)) e
    simp [Nat.testBit_and, h1, h2] at h3
  · intro e
    refine Nat.eq_of_testBit_eq fun i => ?_
    rw [Nat.zero_testBit, Nat.testBit_and, Bool.eq_false_iff]
    intro h1
    rw [Bool.and_eq_true] at h1
    obtain ⟨x, hx, e1⟩ := (setN_bit l h i).1 h1.1
    obtain ⟨y, hy, e2⟩ := (setN_bit m k i).1 h1.2
    obtain rfl : x = y := u8_ext (by omega)
    exact e x hx hy
theorem wellN_iff (t : Tm) (ho : t.ok nmL = true) : t.wellN ↔ t.bnd.length = (bothL [] t.bnd).length ∧ setN t.bnd &&& setN t.free = 0 := by
  unfold Tm.wellN
  rw [disj_bits (lets_bnd t ho) (lets_free t ho)]
  have := (both_len t.bnd [] srt_nil).2
  simp only [List.length_nil, Nat.zero_add, List.not_mem_nil, not_false_eq_true, implies_true, and_true] at this
  rw [← this]
  constructor
  · rintro ⟨h1, h2⟩; exact ⟨h1.symm, h2⟩
  · rintro ⟨h1, h2⟩; exact ⟨h1.symm, h2⟩
theorem setN_nilboth (l : List UInt8) (h : Lets l) : setN (bothL [] l) = setN l := by rw [setN_bothL lets_nil0 h]; simp [setN]

end Go.Proofs.YtmfmagfgcdaeeaaGreat.T1
