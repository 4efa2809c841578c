/- The two numberings of sorts: by letters, and by the order of free names. Plain lemmas. -/
import Derived.Test.YtdfelpahacmdpabUh
namespace Go.Proofs.Ytdfelpahacmdpab.T1
set_option linter.unusedVariables false
set_option linter.unusedSimpArgs false

def lt6 (c : UInt8) : Nat := c.toNat - 97
/-- The place of a letter in a list, counted from s; 0 if it is not there. -/
def idx6 : List UInt8 → Nat → UInt8 → Nat
  | c :: cs, s, x => if c = x then s else idx6 cs (s + 1) x
  | [], _, _ => 0
theorem idx6_at : ∀ (F : List UInt8) (s i : Nat) (h : i < F.length), F.Nodup → idx6 F s F[i] = s + i
  | c :: cs, s, 0, _, _ => by simp [idx6]
  | c :: cs, s, i + 1, h, hn => by
    have h2 : i < cs.length := by simpa using h
    have hn2 := List.nodup_cons.1 hn
    have hne : ¬ c = cs[i] := fun e => hn2.1 (by rw [e]; exact List.getElem_mem h2)
    show (if c = cs[i] then s else idx6 cs (s + 1) cs[i]) = s + (i + 1)
    rw [if_neg hne, idx6_at cs (s + 1) i h2 hn2.2]; omega
theorem srt_nodup {F : List UInt8} (h : Srt F) : F.Nodup := h.imp fun {a b} hab => fun e => by subst e; exact absurd ((u8_lt _ _).1 hab) (Nat.lt_irrefl _)
theorem idx6_lt {F : List UInt8} (hF : F.Nodup) {x : UInt8} (h : x ∈ F) : idx6 F 0 x < F.length := by
  obtain ⟨i, hi, rfl⟩ := List.getElem_of_mem h
  rw [idx6_at F 0 i hi hF]; omega
def phi6 (F : List UInt8) (k : Nat) : Nat := if h : k < F.length then lt6 F[k] else k - F.length + 26
theorem phi6_in {F : List UInt8} {k : Nat} (h : k < F.length) : phi6 F k = lt6 F[k] := by unfold phi6; rw [dif_pos h]
theorem phi6_out {F : List UInt8} {k : Nat} (h : F.length ≤ k) : phi6 F k = k - F.length + 26 := by unfold phi6; rw [dif_neg (by omega)]
theorem phi6_inj {F : List UInt8} (hs : F.Nodup) (hl : Lets F) (i j : Nat) (e : phi6 F i = phi6 F j) : i = j := by
  rcases Nat.lt_or_ge i F.length with hi | hi <;> rcases Nat.lt_or_ge j F.length with hj | hj
  · rw [phi6_in hi, phi6_in hj] at e
    have a := hl _ (List.getElem_mem hi)
    have b := hl _ (List.getElem_mem hj)
    unfold lt6 at e
    have e2 : F[i] = F[j] := u8_ext (by omega)
    exact (List.getElem_inj hs).1 e2
  · rw [phi6_in hi, phi6_out hj] at e
    have a := hl _ (List.getElem_mem hi)
    unfold lt6 at e; omega
  · rw [phi6_out hi, phi6_in hj] at e
    have b := hl _ (List.getElem_mem hj)
    unfold lt6 at e; omega
  · rw [phi6_out hi, phi6_out hj] at e; omega
theorem phi6_step (F : List UInt8) (k : Nat) (h : F.length ≤ k) : phi6 F (k + 1) = phi6 F k + 1 := by rw [phi6_out h, phi6_out (by omega)]; omega
theorem phi6_idx {F : List UInt8} (hs : F.Nodup) {x : UInt8} (h : x ∈ F) : phi6 F (idx6 F 0 x) = lt6 x := by
  obtain ⟨i, hi, rfl⟩ := List.getElem_of_mem h
  rw [idx6_at F 0 i hi hs, Nat.zero_add, phi6_in hi]
/-- What the program asks is what the specification asks, by the other numbers. -/
theorem ask6_two (t : Tm) (hs : t.free.Nodup) : ask6 t lt6 26 = ((ask6 t (idx6 t.free 0) t.free.length).1.map (mp6 (phi6 t.free)), phi6 t.free (ask6 t (idx6 t.free 0) t.free.length).2) := by
  rw [← ask6_map (phi6 t.free) t.free.length (phi6_step t.free) t (idx6 t.free 0) t.free.length (Nat.le_refl _), phi6_out (Nat.le_refl _), Nat.sub_self, Nat.zero_add]
  exact ask6_congr t _ _ _ fun c hc => (phi6_idx hs hc).symm
/-- The asked sorts of a process, by letters: the same; carried; the level. -/
def same6 (t : Tm) (a b : UInt8) : Prop := Eqv (S6 (ask6 t lt6 26).1) (C6 (ask6 t lt6 26).1) (lt6 a) (lt6 b)
def carr6 (t : Tm) (a b : UInt8) : Prop := Car (S6 (ask6 t lt6 26).1) (C6 (ask6 t lt6 26).1) (lt6 a) (lt6 b)
def lev6 (t : Tm) (a : UInt8) (m : Nat) : Prop := Lev6 (S6 (ask6 t lt6 26).1) (C6 (ask6 t lt6 26).1) (lt6 a) m
def able6 (t : Tm) : Prop := ∀ i, ∃ m, Lev6 (S6 (ask6 t lt6 26).1) (C6 (ask6 t lt6 26).1) i m
section
variable {t : Tm} (hs : t.free.Nodup) (hl : Lets t.free)
theorem bounds6 (t : Tm) (f : UInt8 → Nat) (n : Nat) (h : ∀ c, c ∈ t.free → f c < n) : (∀ i j, S6 (ask6 t f n).1 i j → i < (ask6 t f n).2 ∧ j < (ask6 t f n).2) ∧ (∀ i j, C6 (ask6 t f n).1 i j → i < (ask6 t f n).2 ∧ j < (ask6 t f n).2) :=
  ⟨fun i j hij => ask6_lt t f n h _ hij, fun i j hij => ask6_lt t f n h _ hij⟩
include hs hl
theorem same6_idx {a b : UInt8} (ha : a ∈ t.free) (hb : b ∈ t.free) : same6 t a b ↔ Eqv (S6 (ask6 t (idx6 t.free 0) t.free.length).1) (C6 (ask6 t (idx6 t.free 0) t.free.length).1) (idx6 t.free 0 a) (idx6 t.free 0 b) := by
  unfold same6
  rw [ask6_two t hs, ← phi6_idx hs ha, ← phi6_idx hs hb]
  exact Eqv.map_iff (phi6_inj hs hl) _ _
theorem carr6_idx {a b : UInt8} (ha : a ∈ t.free) (hb : b ∈ t.free) : carr6 t a b ↔ Car (S6 (ask6 t (idx6 t.free 0) t.free.length).1) (C6 (ask6 t (idx6 t.free 0) t.free.length).1) (idx6 t.free 0 a) (idx6 t.free 0 b) := by
  unfold carr6
  rw [ask6_two t hs, ← phi6_idx hs ha, ← phi6_idx hs hb]
  exact Car.map_iff (phi6_inj hs hl) _ _
theorem lev6_idx {a : UInt8} (ha : a ∈ t.free) (m : Nat) : lev6 t a m ↔ Lev6 (S6 (ask6 t (idx6 t.free 0) t.free.length).1) (C6 (ask6 t (idx6 t.free 0) t.free.length).1) (idx6 t.free 0 a) m := by
  unfold lev6
  rw [ask6_two t hs, ← phi6_idx hs ha]
  exact Lev6.map_iff (phi6_inj hs hl) _ _
theorem able6_idx : able6 t ↔ ∀ i, i < (ask6 t (idx6 t.free 0) t.free.length).2 → ∃ m, Lev6 (S6 (ask6 t (idx6 t.free 0) t.free.length).1) (C6 (ask6 t (idx6 t.free 0) t.free.length).1) i m := by
  have hb := bounds6 t (idx6 t.free 0) t.free.length (fun c hc => idx6_lt hs hc)
  have hbl := bounds6 t lt6 26 (fun c hc => by have := hl c hc; unfold lt6; omega)
  unfold able6
  constructor
  · intro h i hi
    obtain ⟨m, hm⟩ := h (phi6 t.free i)
    rw [ask6_two t hs] at hm
    exact ⟨m, (Lev6.map_iff (phi6_inj hs hl) _ _).1 hm⟩
  · intro h x
    by_cases e : ∃ i, i < (ask6 t (idx6 t.free 0) t.free.length).2 ∧ x = phi6 t.free i
    · obtain ⟨i, hi, rfl⟩ := e
      obtain ⟨m, hm⟩ := h i hi
      rw [ask6_two t hs]
      exact ⟨m, (Lev6.map_iff (phi6_inj hs hl) _ _).2 hm⟩
    · refine ⟨0, .stop fun y hy => e ?_⟩
      obtain ⟨a, b, c, h1, _⟩ := hy
      rw [ask6_two t hs] at c h1
      obtain ⟨a, b, rfl, rfl, c2⟩ := C6_map.1 c
      rcases h1.back (phi6_inj hs hl) with rfl | ⟨i, j, rfl, h3, h4⟩
      · exact ⟨a, (hb.2 _ _ c2).1, rfl⟩
      · refine ⟨i, ?_, rfl⟩
        have hj : j = a := (phi6_inj hs hl _ _ h3).symm
        subst hj
        have key : ∀ {p q : Nat}, Eqv (S6 (ask6 t (idx6 t.free 0) t.free.length).1) (C6 (ask6 t (idx6 t.free 0) t.free.length).1) p q → p = q ∨ (p < (ask6 t (idx6 t.free 0) t.free.length).2 ∧ q < (ask6 t (idx6 t.free 0) t.free.length).2) := by
          intro p q hpq
          induction hpq with
          | base h => exact .inr (hb.1 _ _ h)
          | refl i => exact .inl rfl
          | symm _ ih => omega
          | trans _ _ ih ih2 => omega
          | carry a b _ ih => exact .inr ⟨(hb.2 _ _ a).2, (hb.2 _ _ b).2⟩
        have := (hb.2 _ _ c2).1
        have := key h4
        omega
end
theorem able6_lt (t : Tm) (hl : Lets t.free) : able6 t ↔ ∀ i, i < (ask6 t lt6 26).2 → ∃ m, Lev6 (S6 (ask6 t lt6 26).1) (C6 (ask6 t lt6 26).1) i m := by
  have hb := bounds6 t lt6 26 (fun c hc => by have := hl c hc; unfold lt6; omega)
  exact ⟨fun h i _ => h i, fun h i => by
    by_cases e : i < (ask6 t lt6 26).2
    · exact h i e
    · exact ⟨0, Lev6.outside hb.1 hb.2 (by omega)⟩⟩
end Go.Proofs.Ytdfelpahacmdpab.T1
