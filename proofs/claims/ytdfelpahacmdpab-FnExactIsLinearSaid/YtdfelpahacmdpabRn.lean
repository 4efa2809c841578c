/- A free name renamed, with no capture: plain lemmas. -/
import Derived.Test.YtdfelpahacmdpabFp
namespace Go.Proofs.Ytdfelpahacmdpab.T1

def sw (c o m : UInt8) : UInt8 := if c = o then m else c
/-- The name that a sign binds behind the look for a capture. -/
def capX (p : Tm) (x o m : UInt8) : UInt8 := if x = m ∧ o ∈ p.free then fresh (bothL p.free [o, m]) else x
/-- A free name renamed, in n steps at most. -/
def ren : Nat → Tm → UInt8 → UInt8 → Tm
  | 0, t, _, _ => t
  | n + 1, t, o, m =>
    if o = m ∨ o ∉ t.free then t else
    match t with
    | .nil => .nil
    | .snd a b p => .snd (sw a o m) (sw b o m) (ren n p o m)
    | .rcv a x p => .rcv (sw a o m) (capX p x o m) (if capX p x o m = o then (if x = m ∧ o ∈ p.free then ren n p x (capX p x o m) else p) else ren n (if x = m ∧ o ∈ p.free then ren n p x (capX p x o m) else p) o m)
    | .tau p => .tau (ren n p o m)
    | .sum p q => .sum (ren n p o m) (ren n q o m)
    | .par p q => .par (ren n p o m) (ren n q o m)
    | .own x p => .own (capX p x o m) (if capX p x o m = o then (if x = m ∧ o ∈ p.free then ren n p x (capX p x o m) else p) else ren n (if x = m ∧ o ∈ p.free then ren n p x (capX p x o m) else p) o m)
    | .mat a b p => .mat (sw a o m) (sw b o m) (ren n p o m)
    | .rep p => .rep (ren n p o m)
theorem ren_same (n : Nat) (t : Tm) (o m : UInt8) (h : o = m ∨ o ∉ t.free) : ren n t o m = t := by
  cases n with
  | zero => rfl
  | succ n => unfold ren; rw [if_pos h]
/-- The part of a sign that binds, renamed. -/
def renB (n : Nat) (p : Tm) (x o m : UInt8) : Tm := if capX p x o m = o then (if x = m ∧ o ∈ p.free then ren n p x (capX p x o m) else p) else ren n (if x = m ∧ o ∈ p.free then ren n p x (capX p x o m) else p) o m

theorem ren_len (n : Nat) : ∀ (t : Tm) (o m : UInt8), (ren n t o m).pr.length = t.pr.length ∧ (ren n t o m).size = t.size := by
  induction n with
  | zero => intro t o m; exact ⟨rfl, rfl⟩
  | succ n ih =>
    intro t o m
    unfold ren
    split
    · exact ⟨rfl, rfl⟩
    · have hb : ∀ p x, (renB n p x o m).pr.length = p.pr.length ∧ (renB n p x o m).size = p.size := by
        intro p x
        unfold renB
        split <;> split <;> simp [ih]
      cases t with
      | rcv a x p => have h := hb p x; unfold renB at h; simp only [Tm.pr, Tm.size, List.length_cons]; exact ⟨by rw [h.1], by rw [h.2]⟩
      | own x p => have h := hb p x; unfold renB at h; simp only [Tm.pr, Tm.size, List.length_cons]; exact ⟨by rw [h.1], by rw [h.2]⟩
      | nil => exact ⟨rfl, rfl⟩
      | snd a b p => simp [Tm.pr, Tm.size, ih]
      | tau p => simp [Tm.pr, Tm.size, ih]
      | sum p q => simp [Tm.pr, Tm.size, ih]
      | par p q => simp [Tm.pr, Tm.size, ih]
      | mat a b p => simp [Tm.pr, Tm.size, ih]
      | rep p => simp [Tm.pr, Tm.size, ih]
theorem nmE_iff (c : UInt8) : nmE c = true ↔ (97 ≤ c.toNat ∧ c.toNat ≤ 122) ∨ (65 ≤ c.toNat ∧ c.toNat ≤ 90) ∨ 128 ≤ c.toNat := by simp [nmE, or_assoc]
theorem fresh_nm (s : List UInt8) : nmE (fresh s) = true := by
  rw [nmE_iff]
  rcases fresh_cases s with ⟨k, h1, _, _, h4⟩ | ⟨_, ⟨k, h1, _, _, h4⟩ | ⟨_, h4⟩⟩
  · rw [h4, UInt8.toNat_ofNat']; omega
  · rw [h4, UInt8.toNat_ofNat']; omega
  · rw [h4]; decide
theorem sw_ok {nm : UInt8 → Bool} {c o m : UInt8} (h : nm c = true) (hm : nm m = true) : nm (sw c o m) = true := by unfold sw; split <;> assumption
theorem capX_ok {p : Tm} {x o m : UInt8} (h : nmE x = true) : nmE (capX p x o m) = true := by
  unfold capX; split
  · exact fresh_nm _
  · exact h
theorem ren_okE (n : Nat) : ∀ (t : Tm) (o m : UInt8), t.ok nmE = true → nmE m = true → (ren n t o m).ok nmE = true := by
  induction n with
  | zero => intro t o m h _; exact h
  | succ n ih =>
    intro t o m h hm
    unfold ren
    split
    · exact h
    · have hb : ∀ p x, p.ok nmE = true → nmE x = true → (renB n p x o m).ok nmE = true := by
        intro p x hp hx
        unfold renB
        have hc := capX_ok (p := p) (o := o) (m := m) hx
        split <;> split
        · exact ih _ _ _ hp hc
        · exact hp
        · exact ih _ _ _ (ih _ _ _ hp hc) hm
        · exact ih _ _ _ hp hm
      cases t <;> simp only [Tm.ok, Bool.and_eq_true] at h ⊢
      · exact ⟨⟨sw_ok h.1.1 hm, sw_ok h.1.2 hm⟩, ih _ _ _ h.2 hm⟩
      · exact ⟨⟨sw_ok h.1.1 hm, capX_ok h.1.2⟩, hb _ _ h.2 h.1.2⟩
      · exact ih _ _ _ h hm
      · exact ⟨ih _ _ _ h.1 hm, ih _ _ _ h.2 hm⟩
      · exact ⟨ih _ _ _ h.1 hm, ih _ _ _ h.2 hm⟩
      · exact ⟨capX_ok h.1, hb _ _ h.2 h.1⟩
      · exact ⟨⟨sw_ok h.1.1 hm, sw_ok h.1.2 hm⟩, ih _ _ _ h.2 hm⟩
      · exact ih _ _ _ h hm
theorem sw_rev {c o m : UInt8} (ho : nmL o = true) (h : nmL (sw c o m) = true) : nmL c = true := by
  unfold sw at h; split at h
  · rename_i e; rw [e]; exact ho
  · exact h
/-- What is well spelt behind a renaming was so ahead of it. -/
theorem ren_rev (n : Nat) : ∀ (t : Tm) (o m : UInt8), nmL o = true → nmL m = true → (ren n t o m).ok nmL = true → t.ok nmL = true := by
  induction n with
  | zero => intro t o m _ _ h; exact h
  | succ n ih =>
    intro t o m ho hm h
    unfold ren at h
    split at h
    · exact h
    · have hb : ∀ p x, nmL (capX p x o m) = true → (renB n p x o m).ok nmL = true → p.ok nmL = true ∧ nmL x = true := by
        intro p x hx hp
        have hx' : nmL x = true := by
          unfold capX at hx
          split at hx
          · rename_i hc; rw [hc.1]; exact hm
          · exact hx
        refine ⟨?_, hx'⟩
        unfold renB at hp
        split at hp
        · split at hp
          · exact ih _ _ _ hx' hx hp
          · exact hp
        · have hp2 := ih _ _ _ ho hm hp
          split at hp2
          · exact ih _ _ _ hx' hx hp2
          · exact hp2
      cases t <;> simp only [Tm.ok, Bool.and_eq_true] at h ⊢
      · exact ⟨⟨sw_rev ho h.1.1, sw_rev ho h.1.2⟩, ih _ _ _ ho hm h.2⟩
      · exact ⟨⟨sw_rev ho h.1.1, (hb _ _ h.1.2 h.2).2⟩, (hb _ _ h.1.2 h.2).1⟩
      · exact ih _ _ _ ho hm h
      · exact ⟨ih _ _ _ ho hm h.1, ih _ _ _ ho hm h.2⟩
      · exact ⟨ih _ _ _ ho hm h.1, ih _ _ _ ho hm h.2⟩
      · exact ⟨(hb _ _ h.1 h.2).2, (hb _ _ h.1 h.2).1⟩
      · exact ⟨⟨sw_rev ho h.1.1, sw_rev ho h.1.2⟩, ih _ _ _ ho hm h.2⟩
      · exact ih _ _ _ ho hm h

end Go.Proofs.Ytdfelpahacmdpab.T1
