/- Congruence, plain: the specification's normal form, and one that is made out of a simplified process by letters that stand for names. -/
import Derived.Test.YtpahhlcfbmmocabNw
namespace Go.Proofs.Ytpahhlcfbmmocab.T1
set_option linter.unusedVariables false

/-- So many first letters that are not taken. -/
def nexts : List UInt8 → Nat → List UInt8
  | _, 0 => []
  | tk, k + 1 => fresh tk :: nexts (addL tk (fresh tk)) k
def allT : List UInt8 → Nat → List UInt8
  | tk, 0 => tk
  | tk, k + 1 => allT (addL tk (fresh tk)) k
/-- Letters in the place of the great ones. -/
def nmG : List Nat → List UInt8 → Tm → Tm
  | i :: o, l :: ls, t => nmG o ls (R t (gl i) l)
  | _, _, t => t
/-- All orders of a list. -/
def ordsL {α : Type} : Nat → List α → List (List α)
  | 0, _ => [[]]
  | n + 1, l => if l.isEmpty then [[]] else (List.range l.length).flatMap fun i => (ordsL n (l.eraseIdx i)).map fun r => (l.drop i).take 1 ++ r
def ords (m : Nat) : List (List Nat) := ordsL m (List.range m)
def srtT (l : List Tm) : List Tm := l.mergeSort fun a b => decide (a.pr ≤ b.pr)
/-- The first one of the least. -/
def bestT : List Tm → Tm
  | [] => .nil
  | c :: cs => cs.foldl (fun b c => if c.pr < b.pr then c else b) c
def wrapO (ls : List UInt8) (t : Tm) : Tm := ls.foldr Tm.own t
/-- A thread of the specification's normal form, told how a level is made. -/
def thS (f : Tm → List UInt8 → Tm × Bool) : Tm → List UInt8 → Tm × Bool
  | .snd a b p, tk => (.snd a b (f p tk).1, (f p tk).2)
  | .tau p, tk => (.tau (f p tk).1, (f p tk).2)
  | .rcv a x p, tk => (.rcv a (fresh tk) (f (R p x (fresh tk)) (addL tk (fresh tk))).1, (f (R p x (fresh tk)) (addL tk (fresh tk))).2)
  | .mat a b p, tk => (if b < a then .mat b a (f p tk).1 else .mat a b (f p tk).1, (f p tk).2)
  | .rep p, tk => (.rep (f p tk).1, (f p tk).2)
  | t, tk => (joinR .sum (srtT ((Tm.sums t.size t).map fun q => (f q tk).1)), (Tm.sums t.size t).any fun q => (f q tk).2)
/-- A level of the specification's normal form; the last result tells that there are too many names at some front. -/
def whl : Nat → Bool → Tm → List UInt8 → Tm × Bool
  | 0, _, _, _ => (.nil, false)
  | n + 1, once, t, tk =>
    if (gath t.size 0 t).1.isEmpty then (.nil, false) else
    if 5 < (gath t.size 0 t).2 then (.nil, true) else
    (wrapO (nexts tk (gath t.size 0 t).2) (bestT ((if once then (ords (gath t.size 0 t).2).take 1 else ords (gath t.size 0 t).2).map fun o =>
        joinR .par (srtT ((gath t.size 0 t).1.map fun T => (thS (whl n once) (nmG o (nexts tk (gath t.size 0 t).2) T) (allT tk (gath t.size 0 t).2)).1)))),
      (if once then (ords (gath t.size 0 t).2).take 1 else ords (gath t.size 0 t).2).any fun o =>
        (gath t.size 0 t).1.any fun T => (thS (whl n once) (nmG o (nexts tk (gath t.size 0 t).2) T) (allT tk (gath t.size 0 t).2)).2)
/-- The parts of a sum that are no sums. -/
def smds : Tm → List Tm
  | .sum p q => smds p ++ smds q
  | s => [s]
def updL : (UInt8 → UInt8) → List UInt8 → List UInt8 → UInt8 → UInt8
  | L, x :: o, l :: ls => updL (upd L x l) o ls
  | L, _, _ => L
/-- A thread out of a simplified one, told how a level is made: letters for its names, and those that are left. -/
def thI (f : (UInt8 → UInt8) → List UInt8 → Tm → Tm) (L : UInt8 → UInt8) (left : List UInt8) : Tm → Tm
  | .snd a b p => .snd (L a) (L b) (f L left p)
  | .tau p => .tau (f L left p)
  | .rcv a x p => .rcv (L a) (left.headD 0) (f (upd L x (left.headD 0)) left.tail p)
  | .mat a b p => if L b < L a then .mat (L b) (L a) (f L left p) else .mat (L a) (L b) (f L left p)
  | .rep p => .rep (f L left p)
  | s => joinR .sum (srtT ((smds s).map (f L left)))
def mid : Nat → Bool → (UInt8 → UInt8) → List UInt8 → Tm → Tm
  | 0, _, _, _, _ => .nil
  | n + 1, once, L, left, s =>
    if (lvl s).2.isEmpty then .nil else
    wrapO (left.take (lvl s).1.length) (bestT ((if once then (ords (lvl s).1.length).take 1 else ords (lvl s).1.length).map fun o =>
      joinR .par (srtT ((lvl s).2.map (thI (mid n once) (updL L (o.map fun i => (lvl s).1.getD i 0) left) (left.drop (lvl s).1.length))))))
/-- How many names are at the front. -/
def fcnt (s : Tm) : Nat := (lvl s).1.length
/-- So many letters are enough behind the front of a level, and no level has too many names at its front. -/
def tf : Tm → Nat → Bool
  | .nil, _ => true
  | .own _ p, k => tf p k
  | .par p q, k => tf p k && tf q k
  | .snd _ _ p, k => decide (fcnt p ≤ 5) && decide (fcnt p ≤ k) && tf p (k - fcnt p)
  | .tau p, k => decide (fcnt p ≤ 5) && decide (fcnt p ≤ k) && tf p (k - fcnt p)
  | .mat _ _ p, k => decide (fcnt p ≤ 5) && decide (fcnt p ≤ k) && tf p (k - fcnt p)
  | .rep p, k => decide (fcnt p ≤ 5) && decide (fcnt p ≤ k) && tf p (k - fcnt p)
  | .rcv _ _ p, k => decide (1 ≤ k) && (decide (fcnt p ≤ 5) && decide (fcnt p ≤ k - 1) && tf p (k - 1 - fcnt p))
  | .sum p q, k => (decide (fcnt p ≤ 5) && decide (fcnt p ≤ k) && tf p (k - fcnt p)) && (decide (fcnt q ≤ 5) && decide (fcnt q ≤ k) && tf q (k - fcnt q))
def fl (s : Tm) (k : Nat) : Bool := decide (fcnt s ≤ 5) && decide (fcnt s ≤ k) && tf s (k - fcnt s)

-- letters
theorem nexts_len : ∀ (k : Nat) (tk : List UInt8), (nexts tk k).length = k := by
  intro k; induction k with
  | zero => intro tk; rfl
  | succ k ih => intro tk; simp [nexts, ih]
theorem nexts_oth : ∀ (k : Nat) (tk : List UInt8), k ≤ (othL tk).length → nexts tk k = (othL tk).take k ∧ othL (allT tk k) = (othL tk).drop k := by
  intro k; induction k with
  | zero => intro tk _; simp [nexts, allT]
  | succ k ih =>
    intro tk h
    rcases fresh_oth tk with ⟨c, r, h1, h2, h3⟩ | ⟨h1, h2⟩
    · have ha := oth_add h1
      rw [h1] at h
      have := ih (addL tk c) (by rw [ha]; simpa using h)
      rw [ha] at this
      simp only [nexts, allT, h2]
      rw [h1]
      simp only [List.take_succ_cons, List.drop_succ_cons]
      exact ⟨by rw [this.1], this.2⟩
    · rw [h1] at h; simp at h
theorem nexts_bad : ∀ (k : Nat) (tk : List UInt8), (othL tk).length < k → ∃ l ∈ nexts tk k, nmL l = false := by
  intro k; induction k with
  | zero => intro tk h; omega
  | succ k ih =>
    intro tk h
    rcases fresh_oth tk with ⟨c, r, h1, h2, h3⟩ | ⟨h1, h2⟩
    · have ha := oth_add h1
      rw [h1] at h
      obtain ⟨l, hl, e⟩ := ih (addL tk c) (by rw [ha]; simpa using h)
      exact ⟨l, by simp only [nexts, h2, List.mem_cons]; exact .inr hl, e⟩
    · refine ⟨fresh tk, by simp [nexts], ?_⟩
      cases hc : nmL (fresh tk) with
      | false => rfl
      | true => rw [nmL_iff] at hc; omega
theorem allT_mem : ∀ (k : Nat) (tk : List UInt8) (z : UInt8), z ∈ allT tk k ↔ z ∈ tk ∨ z ∈ nexts tk k := by
  intro k; induction k with
  | zero => intro tk z; simp [allT, nexts]
  | succ k ih => intro tk z; simp only [allT, nexts, ih, mem_addL, List.mem_cons]; grind
theorem oth_nodup (l : List UInt8) : (othL l).Nodup := (othL_srt l).imp fun h e => by rw [e, u8_lt] at h; omega
theorem oth_great {l : List UInt8} {z : UInt8} (h : z ∈ othL l) : ¬ great z := by
  rw [mem_oth] at h; unfold great; omega
theorem nexts_great : ∀ (k : Nat) (tk : List UInt8), ∀ l ∈ nexts tk k, ¬ great l := by
  intro k; induction k with
  | zero => intro tk l h; simp [nexts] at h
  | succ k ih =>
    intro tk l h
    simp only [nexts, List.mem_cons] at h
    rcases h with h | h
    · rw [h]; exact fresh_great _
    · exact ih _ l h

-- orders
theorem ords_ok : ∀ m, m ≤ 5 → ∀ o ∈ ords m, o.length = m ∧ o.Nodup ∧ ∀ i, i ∈ o ↔ i < m := by
  have h : ∀ m, m ≤ 5 → ∀ o ∈ ords m, o.length = m ∧ o.Nodup ∧ (∀ i ∈ o, i < m) ∧ ∀ i ∈ List.range m, i ∈ o := by
    intro m hm
    have : m = 0 ∨ m = 1 ∨ m = 2 ∨ m = 3 ∨ m = 4 ∨ m = 5 := by omega
    rcases this with rfl | rfl | rfl | rfl | rfl | rfl <;> decide +kernel
  intro m hm o ho
  obtain ⟨a, b, c, d⟩ := h m hm o ho
  exact ⟨a, b, fun i => ⟨c i, fun hi => d i (List.mem_range.2 hi)⟩⟩
theorem ords_ne : ∀ m, m ≤ 5 → ords m ≠ [] := by
  intro m hm
  have : m = 0 ∨ m = 1 ∨ m = 2 ∨ m = 3 ∨ m = 4 ∨ m = 5 := by omega
  rcases this with rfl | rfl | rfl | rfl | rfl | rfl <;> decide +kernel

-- what is used has its name in the simplified one
theorem Sm_use (t : Tm) : ∀ (E : UInt8 → UInt8 → Prop) (s : Tm), Sm t E s → ∀ u, u ∈ t.usd → ∃ v, v ∈ s.free ∧ E u v := by
  induction t with
  | nil => intro E s _ u hu; simp [Tm.usd] at hu
  | snd a b p ih =>
    rintro E s ⟨a', b', p', rfl, h1, h2, h3⟩ u hu
    rw [mu_snd] at hu
    rcases hu with rfl | rfl | hu
    · exact ⟨a', by rw [mf_snd]; simp, h1⟩
    · exact ⟨b', by rw [mf_snd]; simp, h2⟩
    · obtain ⟨v, hv, e⟩ := ih E p' h3 u hu; exact ⟨v, by rw [mf_snd]; simp [hv], e⟩
  | rcv a x p ih =>
    rintro E s ⟨a', x', p', rfl, h1, h3⟩ u hu
    rw [mu_rcv] at hu
    rcases hu with rfl | ⟨hu, hx⟩
    · exact ⟨a', by rw [mf_rcv]; simp, h1⟩
    · obtain ⟨v, hv, e⟩ := ih _ p' h3 u hu
      rcases e with ⟨e, _⟩ | ⟨_, e1, e2⟩
      · exact absurd e hx
      · exact ⟨v, by rw [mf_rcv]; exact .inr ⟨hv, e1⟩, e2⟩
  | tau p ih =>
    rintro E s ⟨p', rfl, h3⟩ u hu
    rw [mu_tau] at hu
    obtain ⟨v, hv, e⟩ := ih E p' h3 u hu; exact ⟨v, by rw [mf_tau]; exact hv, e⟩
  | sum p q ih ih2 =>
    intro E s h u hu
    rw [mu_sum] at hu
    unfold Sm at h
    split at h
    · rename_i c; rw [dead_usd _ c] at hu; exact ih2 E s h u (by simpa using hu)
    · split at h
      · rename_i c; rw [dead_usd _ c] at hu; exact ih E s h u (by simpa using hu)
      · obtain ⟨p', q', rfl, h1, h2⟩ := h
        rcases hu with hu | hu
        · obtain ⟨v, hv, e⟩ := ih E p' h1 u hu; exact ⟨v, by rw [mf_sum]; exact .inl hv, e⟩
        · obtain ⟨v, hv, e⟩ := ih2 E q' h2 u hu; exact ⟨v, by rw [mf_sum]; exact .inr hv, e⟩
  | par p q ih ih2 =>
    intro E s h u hu
    rw [mu_par] at hu
    unfold Sm at h
    split at h
    · rename_i c; rw [dead_usd _ c] at hu; exact ih2 E s h u (by simpa using hu)
    · split at h
      · rename_i c; rw [dead_usd _ c] at hu; exact ih E s h u (by simpa using hu)
      · obtain ⟨p', q', rfl, h1, h2⟩ := h
        rcases hu with hu | hu
        · obtain ⟨v, hv, e⟩ := ih E p' h1 u hu; exact ⟨v, by rw [mf_par]; exact .inl hv, e⟩
        · obtain ⟨v, hv, e⟩ := ih2 E q' h2 u hu; exact ⟨v, by rw [mf_par]; exact .inr hv, e⟩
  | own x p ih =>
    intro E s h u hu
    rw [mu_own] at hu
    unfold Sm at h
    split at h
    · obtain ⟨x', p', rfl, h1⟩ := h
      obtain ⟨v, hv, e⟩ := ih _ p' h1 u hu.1
      rcases e with ⟨e, _⟩ | ⟨_, e1, e2⟩
      · exact absurd e hu.2
      · exact ⟨v, by rw [mf_own]; exact ⟨hv, e1⟩, e2⟩
    · exact ih E s h u hu.1
  | mat a b p ih =>
    intro E s h u hu
    rw [mu_mat] at hu
    unfold Sm at h
    split at h
    · rename_i c; exact ih E s h u (by grind)
    · rename_i c
      split at h
      · rename_i d; grind
      · obtain ⟨a', b', p', rfl, h1, h2, h3⟩ := h
        have hu : u = a ∨ u = b ∨ u ∈ p.usd := by grind
        rcases hu with rfl | rfl | hu
        · exact ⟨a', by rw [mf_mat]; simp, h1⟩
        · exact ⟨b', by rw [mf_mat]; simp, h2⟩
        · obtain ⟨v, hv, e⟩ := ih E p' h3 u hu; exact ⟨v, by rw [mf_mat]; simp [hv], e⟩
  | rep p ih =>
    intro E s h u hu
    rw [mu_rep] at hu
    unfold Sm at h
    split at h
    · rename_i c; rw [dead_usd _ c] at hu; simp at hu
    · obtain ⟨p', rfl, h3⟩ := h
      obtain ⟨v, hv, e⟩ := ih E p' h3 u hu; exact ⟨v, by rw [mf_rep]; exact hv, e⟩
theorem Sm_live (t : Tm) : ∀ (E : UInt8 → UInt8 → Prop) (s : Tm), t.dead = false → Sm t E s → (lvl s).2 ≠ [] := by
  induction t with
  | nil => intro E s h; simp [Tm.dead] at h
  | snd a b p ih => rintro E s _ ⟨a', b', p', rfl, _⟩; simp [lvl]
  | rcv a x p ih => rintro E s _ ⟨a', x', p', rfl, _⟩; simp [lvl]
  | tau p ih => rintro E s _ ⟨p', rfl, _⟩; simp [lvl]
  | sum p q ih ih2 =>
    intro E s h hs
    simp only [Tm.dead, Bool.and_eq_false_iff] at h
    unfold Sm at hs
    split at hs
    · exact ih2 E s (by grind) hs
    · split at hs
      · exact ih E s (by grind) hs
      · obtain ⟨p', q', rfl, _⟩ := hs; simp [lvl]
  | par p q ih ih2 =>
    intro E s h hs
    simp only [Tm.dead, Bool.and_eq_false_iff] at h
    unfold Sm at hs
    split at hs
    · exact ih2 E s (by grind) hs
    · split at hs
      · exact ih E s (by grind) hs
      · obtain ⟨p', q', rfl, h1, h2⟩ := hs
        have := ih E p' (by grind) h1
        simp only [lvl]; intro e; exact this (List.append_eq_nil_iff.1 e).1
  | own x p ih =>
    intro E s h hs
    have h' : p.dead = false := h
    unfold Sm at hs
    split at hs
    · obtain ⟨x', p', rfl, h1⟩ := hs; exact ih _ p' h' h1
    · exact ih E s h' hs
  | mat a b p ih =>
    intro E s h hs
    have h' : p.dead = false := h
    unfold Sm at hs
    split at hs
    · exact ih E s h' hs
    · rw [if_neg (by rw [h']; simp)] at hs; obtain ⟨a', b', p', rfl, _⟩ := hs; simp [lvl]
  | rep p ih =>
    intro E s h hs
    have h' : p.dead = false := h
    unfold Sm at hs
    rw [if_neg (by rw [h']; simp)] at hs; obtain ⟨p', rfl, _⟩ := hs; simp [lvl]
/-- How many places of names there are. -/
def plc : Tm → Nat
  | .nil => 0
  | .snd _ _ p => plc p + 2
  | .rcv _ _ p => plc p + 1
  | .tau p => plc p
  | .sum p q => plc p + plc q
  | .par p q => plc p + plc q
  | .own _ p => plc p
  | .mat _ _ p => plc p + 2
  | .rep p => plc p
theorem bothL_len (l A : List UInt8) : (bothL l A).length ≤ l.length + A.length := len_both_take l A
theorem free_plc (s : Tm) : s.free.length ≤ plc s := by
  induction s with
  | nil => simp [Tm.free, plc]
  | snd a b p ih => simp only [Tm.free, plc, both_nil (srt_free p)]; have := addL_len b (addL p.free a); have := addL_len a p.free; omega
  | mat a b p ih => simp only [Tm.free, plc, both_nil (srt_free p)]; have := addL_len b (addL p.free a); have := addL_len a p.free; omega
  | rcv a x p ih =>
    simp only [Tm.free, plc, both_nil (srt_free p)]
    have := addL_len a (lessL p.free x)
    have : (lessL p.free x).length ≤ p.free.length := List.length_filter_le _ _
    omega
  | own x p ih =>
    simp only [Tm.free, plc, both_nil (srt_free p)]
    have : (lessL p.free x).length ≤ p.free.length := List.length_filter_le _ _
    omega
  | tau p ih => simp only [Tm.free, plc, both_nil (srt_free p)]; exact ih
  | rep p ih => simp only [Tm.free, plc, both_nil (srt_free p)]; exact ih
  | sum p q ih ih2 => simp only [Tm.free, plc, both_nil (srt_free p)]; have := bothL_len p.free q.free; omega
  | par p q ih ih2 => simp only [Tm.free, plc, both_nil (srt_free p)]; have := bothL_len p.free q.free; omega
theorem fcnt_plc (t : Tm) : ∀ (E : UInt8 → UInt8 → Prop) (s : Tm), Sm t E s → fcnt s + s.free.length ≤ plc s ∧ 2 * fcnt s + plc s ≤ 2 * s.size ∧ s.size ≤ t.size := by
  have hp : ∀ s, 2 * 0 + plc s ≤ 2 * s.size := by
    intro s; induction s <;> simp only [plc, Tm.size] <;> omega
  induction t with
  | nil => rintro E s rfl; exact ⟨by simp [fcnt, lvl, Tm.free], by simp [fcnt, lvl, plc], Nat.le_refl _⟩
  | snd a b p ih =>
    rintro E s ⟨a', b', p', rfl, h1, h2, h3⟩
    have := (ih _ _ h3).2.2
    exact ⟨by simpa [fcnt, lvl] using free_plc _, by simpa [fcnt, lvl] using hp _, by simp only [Tm.size]; omega⟩
  | rcv a x p ih =>
    rintro E s ⟨a', x', p', rfl, h1, h3⟩
    have := (ih _ _ h3).2.2
    exact ⟨by simpa [fcnt, lvl] using free_plc _, by simpa [fcnt, lvl] using hp _, by simp only [Tm.size]; omega⟩
  | tau p ih =>
    rintro E s ⟨p', rfl, h3⟩
    have := (ih _ _ h3).2.2
    exact ⟨by simpa [fcnt, lvl] using free_plc _, by simpa [fcnt, lvl] using hp _, by simp only [Tm.size]; omega⟩
  | sum p q ih ih2 =>
    intro E s h
    unfold Sm at h
    split at h
    · have := ih2 E s h; exact ⟨this.1, this.2.1, by simp only [Tm.size]; omega⟩
    · split at h
      · have := ih E s h; exact ⟨this.1, this.2.1, by simp only [Tm.size]; omega⟩
      · obtain ⟨p', q', rfl, h1, h2⟩ := h
        have := (ih _ _ h1).2.2
        have := (ih2 _ _ h2).2.2
        exact ⟨by simpa [fcnt, lvl] using free_plc _, by simpa [fcnt, lvl] using hp _, by simp only [Tm.size]; omega⟩
  | par p q ih ih2 =>
    intro E s h
    unfold Sm at h
    split at h
    · have := ih2 E s h; exact ⟨this.1, this.2.1, by simp only [Tm.size]; omega⟩
    · split at h
      · have := ih E s h; exact ⟨this.1, this.2.1, by simp only [Tm.size]; omega⟩
      · obtain ⟨p', q', rfl, h1, h2⟩ := h
        have a := ih _ _ h1
        have b := ih2 _ _ h2
        have e : fcnt (.par p' q') = fcnt p' + fcnt q' := by simp [fcnt, lvl]
        have c := bothL_len p'.free q'.free
        have d : (Tm.par p' q').free = bothL p'.free q'.free := by simp only [Tm.free, both_nil (srt_free p')]
        rw [d, e]
        exact ⟨by simp only [plc]; omega, by simp only [plc, Tm.size]; omega, by simp only [Tm.size]; omega⟩
  | own x p ih =>
    intro E s h
    unfold Sm at h
    split at h
    · rename_i c
      obtain ⟨x', p', rfl, h1⟩ := h
      have a := ih _ _ h1
      obtain ⟨v, hv, e⟩ := Sm_use p _ p' h1 x c
      have hx : x' ∈ p'.free := by
        rcases e with ⟨_, e⟩ | ⟨e, _⟩
        · exact e ▸ hv
        · exact absurd rfl e
      have e : fcnt (.own x' p') = fcnt p' + 1 := by simp [fcnt, lvl]
      have d : (Tm.own x' p').free = lessL p'.free x' := by simp only [Tm.free, both_nil (srt_free p')]
      have l := lessL_len hx
      rw [d, e]
      exact ⟨by simp only [plc]; omega, by simp only [plc, Tm.size]; omega, by simp only [Tm.size]; omega⟩
    · have := ih E s h; exact ⟨this.1, this.2.1, by simp only [Tm.size]; omega⟩
  | mat a b p ih =>
    intro E s h
    unfold Sm at h
    split at h
    · have := ih E s h; exact ⟨this.1, this.2.1, by simp only [Tm.size]; omega⟩
    · split at h
      · subst h; exact ⟨by simp [fcnt, lvl, Tm.free], by simp [fcnt, lvl, plc], by simp only [Tm.size]; omega⟩
      · obtain ⟨a', b', p', rfl, h1, h2, h3⟩ := h
        have := (ih _ _ h3).2.2
        exact ⟨by simpa [fcnt, lvl] using free_plc _, by simpa [fcnt, lvl] using hp _, by simp only [Tm.size]; omega⟩
  | rep p ih =>
    intro E s h
    unfold Sm at h
    split at h
    · subst h; exact ⟨by simp [fcnt, lvl, Tm.free], by simp [fcnt, lvl, plc], by simp only [Tm.size]; omega⟩
    · obtain ⟨p', rfl, h3⟩ := h
      have := (ih _ _ h3).2.2
      exact ⟨by simpa [fcnt, lvl] using free_plc _, by simpa [fcnt, lvl] using hp _, by simp only [Tm.size]; omega⟩
theorem fcnt_le {t s : Tm} {E : UInt8 → UInt8 → Prop} (h : Sm t E s) (hs : t.size ≤ 121) : fcnt s ≤ 89 := by
  have := fcnt_plc t E s h; omega

end Go.Proofs.Ytpahhlcfbmmocab.T1
