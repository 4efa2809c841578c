/- Formulas as trees, their texts, and how a text reads as a formula: plain lemmas. -/
import Derived.Test.YtllnplabiehcgaaPureB
namespace Go.Proofs.Ytllnplabiehcgaa.T1

/-- Is the text a label? -/
def labB : List UInt8 → Bool
  | [x] => x == 126
  | [a, m, b] => (m == 33 || m == 63) && nmL a && nmL b
  | [a, m, h, b] => m == 33 && h == 35 && nmL a && nmL b
  | _ => false
theorem labB_len {l : List UInt8} (h : labB l = true) : 1 ≤ l.length ∧ l.length ≤ 4 := by
  unfold labB at h; split at h <;> simp_all
theorem nmL_gt {c : UInt8} (h : nmL c = true) : c ≠ 62 := by rintro rfl; simp [nmL] at h
theorem labB_gt {l : List UInt8} (h : labB l = true) : ∀ c ∈ l, c ≠ 62 := by
  unfold labB at h
  split at h
  · simp at h; subst h; simp
  · simp at h
    have h1 := nmL_gt h.1.2; have h2 := nmL_gt h.2
    rcases h.1.1 with rfl | rfl <;> simp [h1, h2]
  · simp at h
    have h1 := nmL_gt h.1.2; have h2 := nmL_gt h.2
    obtain ⟨⟨⟨rfl, rfl⟩, _⟩, _⟩ := h
    simp [h1, h2]
  · cases h

/-- What stands before and behind the first '>'. -/
def cutGt : List UInt8 → Option (List UInt8 × List UInt8)
  | [] => none
  | c :: r => if c = 62 then some ([], r) else (cutGt r).map fun x => (c :: x.1, x.2)
theorem cutGt_some : ∀ {r l r2 : List UInt8}, cutGt r = some (l, r2) → r = l ++ 62 :: r2 ∧ ∀ c ∈ l, c ≠ 62
  | [], l, r2, h => by cases h
  | c :: r, l, r2, h => by
    rw [cutGt] at h
    split at h
    · rename_i hc; simp at h; obtain ⟨rfl, rfl⟩ := h; subst hc; simp
    · rename_i hc
      cases he : cutGt r with
      | none => rw [he] at h; cases h
      | some x =>
        rw [he] at h; simp at h; obtain ⟨rfl, rfl⟩ := h
        obtain ⟨e1, e2⟩ := cutGt_some (l := x.1) (r2 := x.2) he
        refine ⟨by rw [List.cons_append, ← e1], ?_⟩
        intro d hd; simp at hd; rcases hd with rfl | hd
        · exact hc
        · exact e2 d hd
theorem cutGt_mk : ∀ {l r2 : List UInt8}, (∀ c ∈ l, c ≠ 62) → cutGt (l ++ 62 :: r2) = some (l, r2)
  | [], r2, _ => by simp [cutGt]
  | c :: l, r2, h => by
    rw [List.cons_append, cutGt, if_neg (h c (by simp)), cutGt_mk (fun d hd => h d (by simp [hd]))]; rfl
theorem cutGt_none : ∀ {r : List UInt8}, cutGt r = none → ∀ c ∈ r, c ≠ 62
  | [], _, c, hc => by cases hc
  | d :: r, h, c, hc => by
    rw [cutGt] at h
    split at h
    · cases h
    · rename_i hd
      have hr : cutGt r = none := by cases he : cutGt r with | none => rfl | some x => rw [he] at h; cases h
      simp at hc; rcases hc with rfl | hc
      · exact hd
      · exact cutGt_none hr c hc

inductive Fm where
  | tt
  | neg (f : Fm)
  | and (f g : Fm)
  | dia (l : List UInt8) (f : Fm)
namespace Fm
def pr : Fm → List UInt8
  | tt => [84]
  | neg f => 33 :: f.pr
  | and f g => 40 :: (f.pr ++ 38 :: (g.pr ++ [41]))
  | dia l f => 60 :: (l ++ 62 :: f.pr)
def ok : Fm → Bool
  | tt => true
  | neg f => f.ok
  | and f g => f.ok && g.ok
  | dia l f => labB l && f.ok
def deep : Fm → Nat
  | tt => 0
  | neg f => f.deep
  | and f g => max f.deep g.deep
  | dia _ f => f.deep + 1
end Fm

def rf : Nat → List UInt8 → Option (Fm × List UInt8)
  | 0, _ => none
  | _ + 1, [] => none
  | n + 1, c :: r =>
    if c = 84 then some (.tt, r)
    else if c = 33 then (rf n r).map fun x => (.neg x.1, x.2)
    else if c = 40 then
      match rf n r with
      | some (f, 38 :: r2) => (match rf n r2 with
        | some (g, 41 :: r3) => some (.and f g, r3)
        | _ => none)
      | _ => none
    else if c = 60 then
      match cutGt r with
      | some (l, r2) => if labB l then (rf n r2).map fun x => (.dia l x.1, x.2) else none
      | none => none
    else none

theorem rf_some : ∀ (n : Nat) {l r : List UInt8} {f : Fm}, rf n l = some (f, r) → l = f.pr ++ r ∧ f.ok = true
  | 0, l, r, f, h => by simp [rf] at h
  | n + 1, [], r, f, h => by simp [rf] at h
  | n + 1, c :: l, r, f, h => by
    rw [rf] at h
    split at h
    · rename_i hc; simp at h; obtain ⟨rfl, rfl⟩ := h; subst hc; simp [Fm.pr, Fm.ok]
    · split at h
      · rename_i hc
        cases he : rf n l with
        | none => rw [he] at h; cases h
        | some x =>
          obtain ⟨g, r'⟩ := x
          rw [he] at h; simp at h; obtain ⟨rfl, rfl⟩ := h
          obtain ⟨e1, e2⟩ := rf_some n he
          subst hc; exact ⟨by simp [Fm.pr, e1], by simpa [Fm.ok] using e2⟩
      · split at h
        · rename_i hc
          split at h
          · rename_i f1 r2 he
            split at h
            · rename_i g1 r3 he2
              simp at h; obtain ⟨rfl, rfl⟩ := h
              obtain ⟨e1, e2⟩ := rf_some n he
              obtain ⟨e3, e4⟩ := rf_some n he2
              subst hc
              exact ⟨by simp [Fm.pr, e1, e3], by simp [Fm.ok, e2, e4]⟩
            · cases h
          · cases h
        · split at h
          · rename_i hc
            split at h
            · rename_i lb r2 he
              split at h
              · rename_i hl
                cases he2 : rf n r2 with
                | none => rw [he2] at h; cases h
                | some x =>
                  obtain ⟨g, r'⟩ := x
                  rw [he2] at h; simp at h; obtain ⟨rfl, rfl⟩ := h
                  obtain ⟨e1, e2⟩ := rf_some n he2
                  have e3 := (cutGt_some he).1
                  subst hc
                  exact ⟨by simp [Fm.pr, e3, e1], by simp [Fm.ok, hl, e2]⟩
              · cases h
            · cases h
          · cases h
theorem fpr_pos (f : Fm) : 1 ≤ f.pr.length := by cases f <;> simp [Fm.pr]
theorem rf_lt {n : Nat} {l r : List UInt8} {f : Fm} (h : rf n l = some (f, r)) : r.length < l.length := by
  obtain ⟨rfl, _⟩ := rf_some n h
  have := fpr_pos f
  simp; omega
theorem rf_succ : ∀ (n : Nat) (l : List UInt8), l.length ≤ n → rf (n + 1) l = rf n l
  | 0, l, h => by
    have : l = [] := List.length_eq_zero_iff.1 (by omega)
    subst this; simp [rf]
  | n + 1, [], h => by simp [rf]
  | n + 1, c :: r, h => by
    have hr : r.length ≤ n := by simpa using h
    have e1 := rf_succ n r hr
    rw [rf, rf, e1]
    congr 2
    congr 1
    · cases he : rf n r with
      | none => rfl
      | some x =>
        obtain ⟨f, r1⟩ := x
        have hl := rf_lt he
        match r1, hl with
        | [], _ => rfl
        | d :: r2, hl =>
          have e2 := rf_succ n r2 (by simp at hl; omega)
          by_cases hd : d = 38
          · subst hd; simp only [e2]
          · simp [hd]
    · congr 1
      cases he : cutGt r with
      | none => rfl
      | some x =>
        obtain ⟨l, r2⟩ := x
        have hl := (cutGt_some he).1
        have e2 := rf_succ n r2 (by rw [hl] at hr; simp at hr; omega)
        simp only [e2]
theorem rf_more (l : List UInt8) : ∀ n, l.length ≤ n → rf n l = rf l.length l
  | 0, h => by rw [show l.length = 0 by omega]
  | n + 1, h => by
    by_cases hn : l.length ≤ n
    · rw [rf_succ n l hn, rf_more l n hn]
    · rw [show l.length = n + 1 by omega]

/-- The formula that a text begins with, and what stands behind it. -/
def F (l : List UInt8) : Option (Fm × List UInt8) := rf l.length l
theorem F_some {l r : List UInt8} {f : Fm} (h : F l = some (f, r)) : l = f.pr ++ r ∧ f.ok = true := rf_some _ h
theorem F_lt {l r : List UInt8} {f : Fm} (h : F l = some (f, r)) : r.length < l.length := rf_lt h
theorem F_nil : F [] = none := rfl
theorem F_T (r : List UInt8) : F (84 :: r) = some (.tt, r) := by simp [F, rf]
theorem F_neg (r : List UInt8) : F (33 :: r) = (F r).map fun x => (.neg x.1, x.2) := by
  rw [F, List.length_cons, rf]; simp [F]
theorem F_and_no1 {r : List UInt8} (h : F r = none) : F (40 :: r) = none := by
  rw [F, List.length_cons, rf]; rw [F] at h; simp [h]
theorem F_and_no2 {r r1 : List UInt8} {f : Fm} (h : F r = some (f, r1)) (h2 : ∀ r2, r1 ≠ 38 :: r2) : F (40 :: r) = none := by
  rw [F, List.length_cons, rf]; rw [F] at h; simp only [h]
  match r1, h2 with
  | [], _ => simp
  | d :: r2, h2 =>
    have hd : d ≠ 38 := fun e => h2 r2 (by rw [e])
    simp [hd]
theorem F_at {n : Nat} {l : List UInt8} (h : l.length ≤ n) : rf n l = F l := rf_more l n h
theorem F_and_no3 {r r2 : List UInt8} {f : Fm} (h : F r = some (f, 38 :: r2)) (h2 : F r2 = none) : F (40 :: r) = none := by
  have hl := F_lt h
  rw [F, List.length_cons, rf]; rw [F] at h; simp only [h]
  rw [F_at (by simp at hl; omega), h2]; simp
theorem F_and_no4 {r r2 r1 : List UInt8} {f g : Fm} (h : F r = some (f, 38 :: r2)) (h2 : F r2 = some (g, r1)) (h3 : ∀ r3, r1 ≠ 41 :: r3) : F (40 :: r) = none := by
  have hl := F_lt h
  rw [F, List.length_cons, rf]; rw [F] at h; simp only [h]
  rw [F_at (by simp at hl; omega), h2]
  match r1, h3 with
  | [], _ => simp
  | d :: r3, h3 =>
    have hd : d ≠ 41 := fun e => h3 r3 (by rw [e])
    simp [hd]
theorem F_and {r r2 r3 : List UInt8} {f g : Fm} (h : F r = some (f, 38 :: r2)) (h2 : F r2 = some (g, 41 :: r3)) : F (40 :: r) = some (.and f g, r3) := by
  have hl := F_lt h
  rw [F, List.length_cons, rf]; rw [F] at h; simp only [h]
  rw [F_at (by simp at hl; omega), h2]; simp
theorem F_dia {r l r2 : List UInt8} (h : cutGt r = some (l, r2)) (hl : labB l = true) : F (60 :: r) = (F r2).map fun x => (.dia l x.1, x.2) := by
  have e := (cutGt_some h).1
  have hz : r2.length ≤ r.length := by rw [e]; simp; omega
  rw [F, List.length_cons, rf]; simp only [h, hl]
  rw [F_at hz]; simp
theorem F_dia_no1 {r : List UInt8} (h : cutGt r = none) : F (60 :: r) = none := by
  rw [F, List.length_cons, rf]; simp [h]
theorem F_dia_no2 {r l r2 : List UInt8} (h : cutGt r = some (l, r2)) (hl : labB l = false) : F (60 :: r) = none := by
  rw [F, List.length_cons, rf]; simp [h, hl]
theorem F_other {c : UInt8} (r : List UInt8) (h1 : c ≠ 84) (h2 : c ≠ 33) (h3 : c ≠ 40) (h4 : c ≠ 60) : F (c :: r) = none := by
  rw [F, List.length_cons, rf]; simp [h1, h2, h3, h4]
theorem F_pr : ∀ (f : Fm) (r : List UInt8), f.ok = true → F (f.pr ++ r) = some (f, r)
  | .tt, r, _ => F_T r
  | .neg f, r, h => by
    show F (33 :: (f.pr ++ r)) = _
    rw [F_neg, F_pr f r h]; rfl
  | .and f g, r, h => by
    simp [Fm.ok] at h
    have e : (Fm.and f g).pr ++ r = 40 :: (f.pr ++ 38 :: (g.pr ++ 41 :: r)) := by simp [Fm.pr]
    rw [e]; exact F_and (F_pr f _ h.1) (F_pr g _ h.2)
  | .dia l f, r, h => by
    simp [Fm.ok] at h
    have e : (Fm.dia l f).pr ++ r = 60 :: (l ++ 62 :: (f.pr ++ r)) := by simp [Fm.pr]
    rw [e, F_dia (cutGt_mk (labB_gt h.1)) h.1, F_pr f r h.2]; rfl

/-- Where the formula ends that begins at a place, or -1. -/
def fEnd (s : ByteArray) (a : Nat) : Int := match F (s.data.toList.drop a) with
  | some (_, r) => (s.size : Int) - r.length
  | none => -1
theorem fEnd_cases (s : ByteArray) (a : Nat) : (fEnd s a = -1 ∧ F (s.data.toList.drop a) = none) ∨ ∃ f m, a < m ∧ m ≤ s.size ∧ fEnd s a = (m : Int) ∧ F (s.data.toList.drop a) = some (f, s.data.toList.drop m) := by
  unfold fEnd
  cases he : F (s.data.toList.drop a) with
  | none => exact .inl ⟨rfl, rfl⟩
  | some x =>
    obtain ⟨f, r⟩ := x
    have h1 := F_lt he
    have h2 := (F_some he).1
    have h3 : (s.data.toList.drop a).length = s.size - a := by simp
    refine .inr ⟨f, s.size - r.length, by omega, by omega, by simp only []; omega, ?_⟩
    have h4 : r = (s.data.toList.drop a).drop f.pr.length := by rw [h2]; simp
    have h5 : (s.data.toList.drop a).length = f.pr.length + r.length := by rw [h2]; simp
    rw [show s.size - r.length = a + f.pr.length by omega, ← List.drop_drop, ← h4]
theorem fEnd_some {s : ByteArray} {a m : Nat} {f : Fm} (hm : m ≤ s.size) (h : F (s.data.toList.drop a) = some (f, s.data.toList.drop m)) : fEnd s a = (m : Int) := by
  rw [fEnd, h]; simp; omega
theorem fEnd_none {s : ByteArray} {a : Nat} (h : F (s.data.toList.drop a) = none) : fEnd s a = -1 := by rw [fEnd, h]

end Go.Proofs.Ytllnplabiehcgaa.T1
