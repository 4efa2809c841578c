/- Texts of the proof, put together: Nx, Ny, Nz, Ng. No conditions. -/
import Derived.Test.YtmfmagfgcdaeeaaGreatHaq

/- Congruence, plain: the specification's normal form, and one that is made out of a simplified process by letters that stand for names. -/
namespace Go.Proofs.YtmfmagfgcdaeeaaGreat.T1
set_option linter.unusedVariables false

/-- All orders of a list. -/
def ordsL {α : Type} : Nat → List α → List (List α)
  | 0, _ => [[]]
  | n + 1, l => if l.isEmpty then [[]] else (List.range l.length).flatMap fun i => (ordsL n (l.eraseIdx i)).map fun r => (l.drop i).take 1 ++ r
def ords (m : Nat) : List (List Nat) := ordsL m (List.range m)
def srtT (l : List Tm) : List Tm := l.mergeSort fun a b => decide (a.pr ≤ b.pr)
/-- The first one of the least. -/
def bestT : List Tm → Tm
  | [] => .nil
  | c :: cs => cs.foldl (fun b c => if c.pr < b.pr then c else b) c
def wrapO (ls : List UInt8) (t : Tm) : Tm := ls.foldr Tm.own t
/-- The parts of a sum that are no sums. -/
def smds : Tm → List Tm
  | .sum p q => smds p ++ smds q
  | s => [s]
def updL : (UInt8 → UInt8) → List UInt8 → List UInt8 → UInt8 → UInt8
  | L, x :: o, l :: ls => updL (upd L x l) o ls
  | L, _, _ => L
/-- A thread out of a simplified one, told how a level is made: letters for its names, and those that are left. -/
def thI (f : (UInt8 → UInt8) → List UInt8 → Tm → Tm) (L : UInt8 → UInt8) (left : List UInt8) : Tm → Tm
  | .snd a b p => .snd (L a) (L b) (f L left p)
  | .tau p => .tau (f L left p)
  | .rcv a x p => .rcv (L a) (left.headD 0) (f (upd L x (left.headD 0)) left.tail p)
  | .mat a b p => if L b < L a then .mat (L b) (L a) (f L left p) else .mat (L a) (L b) (f L left p)
  | .rep p => .rep (f L left p)
  | s => joinR .sum (srtT ((smds s).map (f L left)))
def mid : Nat → Bool → (UInt8 → UInt8) → List UInt8 → Tm → Tm
  | 0, _, _, _, _ => .nil
  | n + 1, once, L, left, s =>
    if (lvl s).2.isEmpty then .nil else
    wrapO (left.take (lvl s).1.length) (bestT ((if once then (ords (lvl s).1.length).take 1 else ords (lvl s).1.length).map fun o =>
      joinR .par (srtT ((lvl s).2.map (thI (mid n once) (updL L (o.map fun i => (lvl s).1.getD i 0) left) (left.drop (lvl s).1.length))))))
/-- How many names are at the front. -/
def fcnt (s : Tm) : Nat := (lvl s).1.length
/-- So many letters are enough behind the front of a level, and no level has too many names at its front. -/
def tf : Tm → Nat → Bool
  | .nil, _ => true
  | .own _ p, k => tf p k
  | .par p q, k => tf p k && tf q k
  | .snd _ _ p, k => decide (fcnt p ≤ 5) && decide (fcnt p ≤ k) && tf p (k - fcnt p)
  | .tau p, k => decide (fcnt p ≤ 5) && decide (fcnt p ≤ k) && tf p (k - fcnt p)
  | .mat _ _ p, k => decide (fcnt p ≤ 5) && decide (fcnt p ≤ k) && tf p (k - fcnt p)
  | .rep p, k => decide (fcnt p ≤ 5) && decide (fcnt p ≤ k) && tf p (k - fcnt p)
  | .rcv _ _ p, k => decide (1 ≤ k) && (decide (fcnt p ≤ 5) && decide (fcnt p ≤ k - 1) && tf p (k - 1 - fcnt p))
  | .sum p q, k => (decide (fcnt p ≤ 5) && decide (fcnt p ≤ k) && tf p (k - fcnt p)) && (decide (fcnt q ≤ 5) && decide (fcnt q ≤ k) && tf q (k - fcnt q))
def fl (s : Tm) (k : Nat) : Bool := decide (fcnt s ≤ 5) && decide (fcnt s ≤ k) && tf s (k - fcnt s)

-- letters
theorem ords_ok : ∀ m, m ≤ 5 → ∀ o ∈ ords m, o.length = m ∧ o.Nodup ∧ ∀ i, i ∈ o ↔ i < m := by
  have h : ∀ m, m ≤ 5 → ∀ o ∈ ords m, o.length = m ∧ o.Nodup ∧ (∀ i ∈ o, i < m) ∧ ∀ i ∈ List.range m, i ∈ o := by
    intro m hm
    have : m = 0 ∨ m = 1 ∨ m = 2 ∨ m = 3 ∨ m = 4 ∨ m = 5 := by omega
    rcases this with rfl | rfl | rfl | rfl | rfl | rfl <;> decide +kernel
  intro m hm o ho
  obtain ⟨a, b, c, d⟩ := h m hm o ho
  exact ⟨a, b, fun i => ⟨c i, fun hi => d i (List.mem_range.2 hi)⟩⟩
theorem ords_ne : ∀ m, m ≤ 5 → ords m ≠ [] := by
  intro m hm
  have : m = 0 ∨ m = 1 ∨ m = 2 ∨ m = 3 ∨ m = 4 ∨ m = 5 := by omega
  rcases this with rfl | rfl | rfl | rfl | rfl | rfl <;> decide +kernel

-- what is used has its name in the simplified one
theorem Sm_use (t : Tm) : ∀ (E : UInt8 → UInt8 → Prop) (s : Tm), Sm t E s → ∀ u, u ∈ t.usd → ∃ v, v ∈ s.free ∧ E u v := by
  induction t with
  | nil => intro E s _ u hu; simp [Tm.usd] at hu
  | snd a b p ih =>
    rintro E s ⟨a', b', p', rfl, h1, h2, h3⟩ u hu
    rw [mu_snd] at hu
    rcases hu with rfl | rfl | hu
    · exact ⟨a', by rw [mf_snd]; simp, h1⟩
    · exact ⟨b', by rw [mf_snd]; simp, h2⟩
    · obtain ⟨v, hv, e⟩ := ih E p' h3 u hu; exact ⟨v, by rw [mf_snd]; simp [hv], e⟩
  | rcv a x p ih =>
    rintro E s ⟨a', x', p', rfl, h1, h3⟩ u hu
    rw [mu_rcv] at hu
    rcases hu with rfl | ⟨hu, hx⟩
    · exact ⟨a', by rw [mf_rcv]; simp, h1⟩
    · obtain ⟨v, hv, e⟩ := ih _ p' h3 u hu
      rcases e with ⟨e, _⟩ | ⟨_, e1, e2⟩
      · exact absurd e hx
      · exact ⟨v, by rw [mf_rcv]; exact .inr ⟨hv, e1⟩, e2⟩
  | tau p ih =>
    rintro E s ⟨p', rfl, h3⟩ u hu
    rw [mu_tau] at hu
    obtain ⟨v, hv, e⟩ := ih E p' h3 u hu; exact ⟨v, by rw [mf_tau]; exact hv, e⟩
  | sum p q ih ih2 =>
    intro E s h u hu
    rw [mu_sum] at hu
    unfold Sm at h
    split at h
    · rename_i c; rw [dead_usd _ c] at hu; exact ih2 E s h u (by simpa using hu)
    · split at h
      · rename_i c; rw [dead_usd _ c] at hu; exact ih E s h u (by simpa using hu)
      · obtain ⟨p', q', rfl, h1, h2⟩ := h
        rcases hu with hu | hu
        · obtain ⟨v, hv, e⟩ := ih E p' h1 u hu; exact ⟨v, by rw [mf_sum]; exact .inl hv, e⟩
        · obtain ⟨v, hv, e⟩ := ih2 E q' h2 u hu; exact ⟨v, by rw [mf_sum]; exact .inr hv, e⟩
  | par p q ih ih2 =>
    intro E s h u hu
    rw [mu_par] at hu
    unfold Sm at h
    split at h
    · rename_i c; rw [dead_usd _ c] at hu; exact ih2 E s h u (by simpa using hu)
    · split at h
      · rename_i c; rw [dead_usd _ c] at hu; exact ih E s h u (by simpa using hu)
      · obtain ⟨p', q', rfl, h1, h2⟩ := h
        rcases hu with hu | hu
        · obtain ⟨v, hv, e⟩ := ih E p' h1 u hu; exact ⟨v, by rw [mf_par]; exact .inl hv, e⟩
        · obtain ⟨v, hv, e⟩ := ih2 E q' h2 u hu; exact ⟨v, by rw [mf_par]; exact .inr hv, e⟩
  | own x p ih =>
    intro E s h u hu
    rw [mu_own] at hu
    unfold Sm at h
    split at h
    · obtain ⟨x', p', rfl, h1⟩ := h
      obtain ⟨v, hv, e⟩ := ih _ p' h1 u hu.1
      rcases e with ⟨e, _⟩ | ⟨_, e1, e2⟩
      · exact absurd e hu.2
      · exact ⟨v, by rw [mf_own]; exact ⟨hv, e1⟩, e2⟩
    · exact ih E s h u hu.1
  | mat a b p ih =>
    intro E s h u hu
    rw [mu_mat] at hu
    unfold Sm at h
    split at h
    · rename_i c; exact ih E s h u (by grind)
    · rename_i c
      split at h
      · rename_i d; grind
      · obtain ⟨a', b', p', rfl, h1, h2, h3⟩ := h
        have hu : u = a ∨ u = b ∨ u ∈ p.usd := by grind
        rcases hu with rfl | rfl | hu
        · exact ⟨a', by rw [mf_mat]; simp, h1⟩
        · exact ⟨b', by rw [mf_mat]; simp, h2⟩
        · obtain ⟨v, hv, e⟩ := ih E p' h3 u hu; exact ⟨v, by rw [mf_mat]; simp [hv], e⟩
  | rep p ih =>
    intro E s h u hu
    rw [mu_rep] at hu
    unfold Sm at h
    split at h
    · rename_i c; rw [dead_usd _ c] at hu; simp at hu
    · obtain ⟨p', rfl, h3⟩ := h
      obtain ⟨v, hv, e⟩ := ih E p' h3 u hu; exact ⟨v, by rw [mf_rep]; exact hv, e⟩
/-- How many places of names there are. -/
def plc : Tm → Nat
  | .nil => 0
  | .snd _ _ p => plc p + 2
  | .rcv _ _ p => plc p + 1
  | .tau p => plc p
  | .sum p q => plc p + plc q
  | .par p q => plc p + plc q
  | .own _ p => plc p
  | .mat _ _ p => plc p + 2
  | .rep p => plc p
theorem bothL_len (l A : List UInt8) : (bothL l A).length ≤ l.length + A.length := len_both_take l A
theorem free_plc (s : Tm) : s.free.length ≤ plc s := by
  induction s with
  | nil => simp [Tm.free, plc]
  | snd a b p ih => simp only [Tm.free, plc, both_nil (srt_free p)]; have := addL_len b (addL p.free a); have := addL_len a p.free; omega
  | mat a b p ih => simp only [Tm.free, plc, both_nil (srt_free p)]; have := addL_len b (addL p.free a); have := addL_len a p.free; omega
  | rcv a x p ih =>
    simp only [Tm.free, plc, both_nil (srt_free p)]
    have := addL_len a (lessL p.free x)
    have : (lessL p.free x).length ≤ p.free.length := List.length_filter_le _ _
    omega
  | own x p ih =>
    simp only [Tm.free, plc, both_nil (srt_free p)]
    have : (lessL p.free x).length ≤ p.free.length := List.length_filter_le _ _
    omega
  | tau p ih => simp only [Tm.free, plc, both_nil (srt_free p)]; exact ih
  | rep p ih => simp only [Tm.free, plc, both_nil (srt_free p)]; exact ih
  | sum p q ih ih2 => simp only [Tm.free, plc, both_nil (srt_free p)]; have := bothL_len p.free q.free; omega
  | par p q ih ih2 => simp only [Tm.free, plc, both_nil (srt_free p)]; have := bothL_len p.free q.free; omega
theorem fcnt_plc (t : Tm) : ∀ (E : UInt8 → UInt8 → Prop) (s : Tm), Sm t E s → fcnt s + s.free.length ≤ plc s ∧ 2 * fcnt s + plc s ≤ 2 * s.size ∧ s.size ≤ t.size := by
  have hp : ∀ s, 2 * 0 + plc s ≤ 2 * s.size := by
    intro s; induction s <;> simp only [plc, Tm.size] <;> omega
  induction t with
  | nil => rintro E s rfl; exact ⟨by simp [fcnt, lvl, Tm.free], by simp [fcnt, lvl, plc], Nat.le_refl _⟩
  | snd a b p ih =>
    rintro E s ⟨a', b', p', rfl, h1, h2, h3⟩
    have := (ih _ _ h3).2.2
    exact ⟨by simpa [fcnt, lvl] using free_plc _, by simpa [fcnt, lvl] using hp _, by simp only [Tm.size]; omega⟩
  | rcv a x p ih =>
    rintro E s ⟨a', x', p', rfl, h1, h3⟩
    have := (ih _ _ h3).2.2
    exact ⟨by simpa [fcnt, lvl] using free_plc _, by simpa [fcnt, lvl] using hp _, by simp only [Tm.size]; omega⟩
  | tau p ih =>
    rintro E s ⟨p', rfl, h3⟩
    have := (ih _ _ h3).2.2
    exact ⟨by simpa [fcnt, lvl] using free_plc _, by simpa [fcnt, lvl] using hp _, by simp only [Tm.size]; omega⟩
  | sum p q ih ih2 =>
    intro E s h
    unfold Sm at h
    split at h
    · have := ih2 E s h; exact ⟨this.1, this.2.1, by simp only [Tm.size]; omega⟩
    · split at h
      · have := ih E s h; exact ⟨this.1, this.2.1, by simp only [Tm.size]; omega⟩
      · obtain ⟨p', q', rfl, h1, h2⟩ := h
        have := (ih _ _ h1).2.2
        have := (ih2 _ _ h2).2.2
        exact ⟨by simpa [fcnt, lvl] using free_plc _, by simpa [fcnt, lvl] using hp _, by simp only [Tm.size]; omega⟩
  | par p q ih ih2 =>
    intro E s h
    unfold Sm at h
    split at h
    · have := ih2 E s h; exact ⟨this.1, this.2.1, by simp only [Tm.size]; omega⟩
    · split at h
      · have := ih E s h; exact ⟨this.1, this.2.1, by simp only [Tm.size]; omega⟩
      · obtain ⟨p', q', rfl, h1, h2⟩ := h
        have a := ih _ _ h1
        have b := ih2 _ _ h2
        have e : fcnt (.par p' q') = fcnt p' + fcnt q' := by simp [fcnt, lvl]
        have c := bothL_len p'.free q'.free
        have d : (Tm.par p' q').free = bothL p'.free q'.free := by simp only [Tm.free, both_nil (srt_free p')]
        rw [d, e]
        exact ⟨by simp only [plc]; omega, by simp only [plc, Tm.size]; omega, by simp only [Tm.size]; omega⟩
  | own x p ih =>
    intro E s h
    unfold Sm at h
    split at h
    · rename_i c
      obtain ⟨x', p', rfl, h1⟩ := h
      have a := ih _ _ h1
      obtain ⟨v, hv, e⟩ := Sm_use p _ p' h1 x c
      have hx : x' ∈ p'.free := by
        rcases e with ⟨_, e⟩ | ⟨e, _⟩
        · exact e ▸ hv
        · exact absurd rfl e
      have e : fcnt (.own x' p') = fcnt p' + 1 := by simp [fcnt, lvl]
      have d : (Tm.own x' p').free = lessL p'.free x' := by simp only [Tm.free, both_nil (srt_free p')]
      have l := lessL_len hx
      rw [d, e]
      exact ⟨by simp only [plc]; omega, by simp only [plc, Tm.size]; omega, by simp only [Tm.size]; omega⟩
    · have := ih E s h; exact ⟨this.1, this.2.1, by simp only [Tm.size]; omega⟩
  | mat a b p ih =>
    intro E s h
    unfold Sm at h
    split at h
    · have := ih E s h; exact ⟨this.1, this.2.1, by simp only [Tm.size]; omega⟩
    · split at h
      · subst h; exact ⟨by simp [fcnt, lvl, Tm.free], by simp [fcnt, lvl, plc], by simp only [Tm.size]; omega⟩
      · obtain ⟨a', b', p', rfl, h1, h2, h3⟩ := h
        have := (ih _ _ h3).2.2
        exact ⟨by simpa [fcnt, lvl] using free_plc _, by simpa [fcnt, lvl] using hp _, by simp only [Tm.size]; omega⟩
  | rep p ih =>
    intro E s h
    unfold Sm at h
    split at h
    · subst h; exact ⟨by simp [fcnt, lvl, Tm.free], by simp [fcnt, lvl, plc], by simp only [Tm.size]; omega⟩
    · obtain ⟨p', rfl, h3⟩ := h
      have := (ih _ _ h3).2.2
      exact ⟨by simpa [fcnt, lvl] using free_plc _, by simpa [fcnt, lvl] using hp _, by simp only [Tm.size]; omega⟩
end Go.Proofs.YtmfmagfgcdaeeaaGreat.T1

/- Congruence, plain: the specification's normal form is the one made out of the simplified process, where letters are enough; where they are not, it is none. -/
namespace Go.Proofs.YtmfmagfgcdaeeaaGreat.T1
set_option linter.unusedVariables false

/-- How a process, its simplified one and their names hang together. -/
structure Cx (t : Tm) (E : UInt8 → UInt8 → Prop) (s : Tm) (L : UInt8 → UInt8) (tk : List UInt8) : Prop where
  sm : Sm t E s
  ng : ∀ z, z ∈ t.free ∨ z ∈ t.bnd → ¬ great z
  nd : s.bnd.Nodup
  rel : ∀ u v, E u v → u = L v ∧ v ∉ s.bnd ∧ u ∈ tk ∧ ¬ great u
  sz : t.size ≤ 121
theorem smds_fl (s : Tm) (k : Nat) : (fl s k = true → ∀ q ∈ smds s, fl q k = true) ∧ (fl s k = false → ∃ q, q ∈ smds s ∧ fl q k = false) := by
  induction s with
  | sum p q ih ih2 =>
    have e : fl (.sum p q) k = (fl p k && fl q k) := by unfold fl; simp [fcnt, lvl, tf] <;> rfl
    simp only [smds]
    rw [e]
    constructor
    · intro h z hz
      rw [Bool.and_eq_true] at h
      rcases List.mem_append.1 hz with hz | hz
      · exact ih.1 h.1 z hz
      · exact ih2.1 h.2 z hz
    · intro h
      rw [Bool.and_eq_false_iff] at h
      rcases h with h | h
      · obtain ⟨z, hz, e⟩ := ih.2 h; exact ⟨z, List.mem_append_left _ hz, e⟩
      · obtain ⟨z, hz, e⟩ := ih2.2 h; exact ⟨z, List.mem_append_right _ hz, e⟩
  | _ => exact ⟨fun h z hz => by simp only [smds, List.mem_singleton] at hz; rw [hz]; exact h, fun h => ⟨_, by simp only [smds, List.mem_singleton], h⟩⟩
theorem All2.ex {α β : Type} {P : α → β → Prop} {l : List α} {m : List β} (h : All2 P l m) : ∀ b ∈ m, ∃ a ∈ l, P a b := by
  induction h with
  | nil => intro b hb; simp at hb
  | cons p _ ih =>
    intro b hb
    rcases List.mem_cons.1 hb with rfl | hb
    · exact ⟨_, by simp, p⟩
    · obtain ⟨a, ha, e⟩ := ih b hb; exact ⟨a, by simp [ha], e⟩
theorem mem_srtT (l : List Tm) (t : Tm) : t ∈ srtT l ↔ t ∈ l := List.mem_mergeSort
theorem bestT_mem : ∀ l : List Tm, l ≠ [] → bestT l ∈ l := by
  have h : ∀ (cs : List Tm) (c : Tm), cs.foldl (fun b c => if c.pr < b.pr then c else b) c = c ∨ cs.foldl (fun b c => if c.pr < b.pr then c else b) c ∈ cs := by
    intro cs; induction cs with
    | nil => intro c; exact .inl rfl
    | cons d cs ih =>
      intro c
      simp only [List.foldl_cons]
      rcases ih (if d.pr < c.pr then d else c) with h | h
      · rw [h]; split
        · exact .inr (by simp)
        · exact .inl rfl
      · exact .inr (by simp [h])
  intro l hl
  cases l with
  | nil => exact absurd rfl hl
  | cons c cs =>
    show cs.foldl (fun b c => if c.pr < b.pr then c else b) c ∈ c :: cs
    rcases h cs c with e | e
    · rw [e]; simp
    · exact List.mem_cons_of_mem _ e
theorem tf_lvl (s : Tm) (k : Nat) : tf s k = (lvl s).2.all fun T => tf T k := by
  induction s with
  | nil => rfl
  | own x p ih => simp only [tf, lvl]; exact ih
  | par p q ih ih2 => simp only [tf, lvl, List.all_append]; rw [ih, ih2]
  | _ => simp [lvl]
end Go.Proofs.YtmfmagfgcdaeeaaGreat.T1

/- Congruence, plain: a simplified process whose signs bind names of their own; how many names of its own a normal form has, and that it is well spelt. -/
namespace Go.Proofs.YtmfmagfgcdaeeaaGreat.T1
set_option linter.unusedVariables false

/-- Without all that the laws leave out, inner parts first. -/
def Tm.sim : Tm → Tm
  | .nil => .nil
  | .snd a b p => .snd a b p.sim
  | .rcv a x p => .rcv a x p.sim
  | .tau p => .tau p.sim
  | .sum p q => if p.sim = .nil then q.sim else if q.sim = .nil then p.sim else .sum p.sim q.sim
  | .par p q => if p.sim = .nil then q.sim else if q.sim = .nil then p.sim else .par p.sim q.sim
  | .own x p => if x ∈ p.sim.free then .own x p.sim else p.sim
  | .mat a b p => if a = b ∨ p.sim = .nil then p.sim else .mat a b p.sim
  | .rep p => if p.sim = .nil then p.sim else .rep p.sim
theorem sim_both (t : Tm) : (t.sim = .nil ↔ t.dead = true) ∧ ∀ z, z ∈ t.sim.free ↔ z ∈ t.usd := by
  induction t with
  | nil => exact ⟨by simp [Tm.sim, Tm.dead], fun z => by simp [Tm.sim, Tm.free, Tm.usd]⟩
  | snd a b p ih => exact ⟨by simp [Tm.sim, Tm.dead], fun z => by rw [mu_snd]; simp only [Tm.sim]; rw [mf_snd, ih.2]⟩
  | rcv a x p ih => exact ⟨by simp [Tm.sim, Tm.dead], fun z => by rw [mu_rcv]; simp only [Tm.sim]; rw [mf_rcv, ih.2]⟩
  | tau p ih => exact ⟨by simp [Tm.sim, Tm.dead], fun z => by rw [mu_tau]; simp only [Tm.sim]; rw [mf_tau, ih.2]⟩
  | sum p q ih ih2 =>
    simp only [Tm.sim, Tm.dead, Bool.and_eq_true]
    by_cases h : p.sim = .nil
    · rw [if_pos h]
      have hd := ih.1.1 h
      exact ⟨by rw [ih2.1]; simp [hd], fun z => by rw [mu_sum, ih2.2, dead_usd _ hd]; simp⟩
    · rw [if_neg h]
      have hd : ¬ p.dead = true := fun e => h (ih.1.2 e)
      by_cases h2 : q.sim = .nil
      · rw [if_pos h2]
        have hd2 := ih2.1.1 h2
        exact ⟨by rw [ih.1]; simp [hd2], fun z => by rw [mu_sum, ih.2, dead_usd _ hd2]; simp⟩
      · rw [if_neg h2]
        exact ⟨by simp [hd], fun z => by rw [mu_sum, mf_sum, ih.2, ih2.2]⟩
  | par p q ih ih2 =>
    simp only [Tm.sim, Tm.dead, Bool.and_eq_true]
    by_cases h : p.sim = .nil
    · rw [if_pos h]
      have hd := ih.1.1 h
      exact ⟨by rw [ih2.1]; simp [hd], fun z => by rw [mu_par, ih2.2, dead_usd _ hd]; simp⟩
    · rw [if_neg h]
      have hd : ¬ p.dead = true := fun e => h (ih.1.2 e)
      by_cases h2 : q.sim = .nil
      · rw [if_pos h2]
        have hd2 := ih2.1.1 h2
        exact ⟨by rw [ih.1]; simp [hd2], fun z => by rw [mu_par, ih.2, dead_usd _ hd2]; simp⟩
      · rw [if_neg h2]
        exact ⟨by simp [hd], fun z => by rw [mu_par, mf_par, ih.2, ih2.2]⟩
  | own x p ih =>
    simp only [Tm.sim, Tm.dead]
    by_cases h : x ∈ p.sim.free
    · rw [if_pos h]
      have hx := (ih.2 x).1 h
      exact ⟨⟨fun e => (by cases e), fun e => (by rw [dead_usd _ e] at hx; simp at hx)⟩, fun z => by rw [mu_own, mf_own, ih.2]⟩
    · rw [if_neg h]
      exact ⟨ih.1, fun z => by rw [mu_own, ih.2]; exact ⟨fun hz => ⟨hz, fun e => h ((ih.2 x).2 (e ▸ hz))⟩, fun hz => hz.1⟩⟩
  | mat a b p ih =>
    simp only [Tm.sim, Tm.dead]
    by_cases h : a = b ∨ p.sim = .nil
    · rw [if_pos h]
      refine ⟨ih.1, fun z => ?_⟩
      rw [mu_mat, ih.2]
      rcases h with h | h
      · simp [h]
      · have := ih.1.1 h; rw [dead_usd _ this]; simp [this]
    · rw [if_neg h]
      have hd : ¬ p.dead = true := fun e => h (.inr (ih.1.2 e))
      have hd' : p.dead = false := by simpa using hd
      have hab : a ≠ b := fun e => h (.inl e)
      exact ⟨by simp [hd], fun z => by rw [mu_mat, mf_mat, ih.2]; simp [hab, hd']⟩
  | rep p ih =>
    simp only [Tm.sim, Tm.dead]
    by_cases h : p.sim = .nil
    · rw [if_pos h]
      exact ⟨ih.1, fun z => by rw [mu_rep, ih.2]⟩
    · rw [if_neg h]
      have hd : ¬ p.dead = true := fun e => h (ih.1.2 e)
      exact ⟨by simp [hd], fun z => by rw [mu_rep, mf_rep, ih.2]⟩
theorem sim_usd (t : Tm) : t.sim.free = t.usd := srt_ext (srt_free _) (srt_usd _) (sim_both t).2
theorem Sm_sim (t : Tm) : Sm t (fun u v => u = v) t.sim := by
  have hb : ∀ (x : UInt8) (p s : Tm), Sm p (fun u v => u = v) s → Sm p (bdE (fun u v => u = v) x x) s := fun x p s h =>
    Sm_mono p _ _ s (fun u v _ e => by
      by_cases hx : u = x
      · exact .inl ⟨hx, e ▸ hx⟩
      · exact .inr ⟨hx, e ▸ hx, e⟩) h
  induction t with
  | nil => rfl
  | snd a b p ih => exact ⟨a, b, p.sim, rfl, rfl, rfl, ih⟩
  | rcv a x p ih => exact ⟨a, x, p.sim, rfl, rfl, hb x p _ ih⟩
  | tau p ih => exact ⟨p.sim, rfl, ih⟩
  | sum p q ih ih2 =>
    unfold Sm Tm.sim
    by_cases h : p.sim = .nil
    · rw [if_pos h, if_pos ((sim_both p).1.1 h)]; exact ih2
    · rw [if_neg h, if_neg (fun e => h ((sim_both p).1.2 e))]
      by_cases h2 : q.sim = .nil
      · rw [if_pos h2, if_pos ((sim_both q).1.1 h2)]; exact ih
      · rw [if_neg h2, if_neg (fun e => h2 ((sim_both q).1.2 e))]
        exact ⟨_, _, rfl, ih, ih2⟩
  | par p q ih ih2 =>
    unfold Sm Tm.sim
    by_cases h : p.sim = .nil
    · rw [if_pos h, if_pos ((sim_both p).1.1 h)]; exact ih2
    · rw [if_neg h, if_neg (fun e => h ((sim_both p).1.2 e))]
      by_cases h2 : q.sim = .nil
      · rw [if_pos h2, if_pos ((sim_both q).1.1 h2)]; exact ih
      · rw [if_neg h2, if_neg (fun e => h2 ((sim_both q).1.2 e))]
        exact ⟨_, _, rfl, ih, ih2⟩
  | own x p ih =>
    unfold Sm Tm.sim
    by_cases h : x ∈ p.sim.free
    · rw [if_pos h, if_pos (((sim_both p).2 x).1 h)]; exact ⟨x, p.sim, rfl, hb x p _ ih⟩
    · rw [if_neg h, if_neg (fun e => h (((sim_both p).2 x).2 e))]; exact ih
  | mat a b p ih =>
    unfold Sm Tm.sim
    by_cases h : a = b
    · rw [if_pos h, if_pos (show a = b ∨ p.sim = .nil from .inl h)]; exact ih
    · rw [if_neg h]
      by_cases h2 : p.sim = .nil
      · rw [if_pos (show a = b ∨ p.sim = .nil from .inr h2), if_pos ((sim_both p).1.1 h2)]; exact h2
      · rw [if_neg (show ¬ (a = b ∨ p.sim = .nil) from fun e => e.elim h h2), if_neg (fun e => h2 ((sim_both p).1.2 e))]
        exact ⟨a, b, p.sim, rfl, rfl, rfl, ih⟩
  | rep p ih =>
    unfold Sm Tm.sim
    by_cases h2 : p.sim = .nil
    · rw [if_pos h2, if_pos ((sim_both p).1.1 h2)]; exact h2
    · rw [if_neg h2, if_neg (fun e => h2 ((sim_both p).1.2 e))]
      exact ⟨p.sim, rfl, ih⟩
theorem can_bnd (s : Tm) : ∀ (f : UInt8 → UInt8) (ns : List UInt8), s.bnd.length ≤ ns.length → (can s f ns).bnd = ns.take s.bnd.length := by
  induction s with
  | nil => intro f ns _; simp [can, Tm.bnd]
  | snd a b p ih => intro f ns h; exact ih f ns h
  | tau p ih => intro f ns h; exact ih f ns h
  | mat a b p ih => intro f ns h; exact ih f ns h
  | rep p ih => intro f ns h; exact ih f ns h
  | rcv a x p ih =>
    intro f ns h
    cases ns with
    | nil => simp [Tm.bnd] at h
    | cons n ns =>
      simp only [can, Tm.bnd, List.headD_cons, List.tail_cons, List.length_cons, List.take_succ_cons]
      rw [ih _ ns (by simpa [Tm.bnd] using h)]
  | own x p ih =>
    intro f ns h
    cases ns with
    | nil => simp [Tm.bnd] at h
    | cons n ns =>
      simp only [can, Tm.bnd, List.headD_cons, List.tail_cons, List.length_cons, List.take_succ_cons]
      rw [ih _ ns (by simpa [Tm.bnd] using h)]
  | sum p q ih ih2 =>
    intro f ns h
    simp only [Tm.bnd, List.length_append] at h
    simp only [can, Tm.bnd, List.length_append]
    rw [ih f ns (by omega), ih2 f _ (by rw [List.length_drop]; omega), ← List.take_add]
  | par p q ih ih2 =>
    intro f ns h
    simp only [Tm.bnd, List.length_append] at h
    simp only [can, Tm.bnd, List.length_append]
    rw [ih f ns (by omega), ih2 f _ (by rw [List.length_drop]; omega), ← List.take_add]

/-- How many names of its own a process has. -/
def ownc : Tm → Nat
  | .nil => 0
  | .snd _ _ p => ownc p
  | .rcv _ _ p => ownc p
  | .tau p => ownc p
  | .sum p q => ownc p + ownc q
  | .par p q => ownc p + ownc q
  | .own _ p => ownc p + 1
  | .mat _ _ p => ownc p
  | .rep p => ownc p
/-- The process has a level with at least one thread. -/
theorem lvl_size (s : Tm) : (∀ T ∈ (lvl s).2, T.size ≤ s.size) := by
  induction s with
  | own x p ih => intro T hT; have := ih T hT; simp only [Tm.size]; omega
  | par p q ih ih2 =>
    intro T hT
    simp only [lvl, List.mem_append] at hT
    simp only [Tm.size]
    rcases hT with hT | hT
    · have := ih T hT; omega
    · have := ih2 T hT; omega
  | nil => intro T hT; simp [lvl] at hT
  | _ => intro T hT; simp only [lvl, List.mem_singleton] at hT; rw [hT]; exact Nat.le_refl _
theorem smds_size (s : Tm) : ∀ q ∈ smds s, q.size ≤ s.size := by
  induction s with
  | sum p q ih ih2 =>
    intro T hT
    simp only [smds, List.mem_append] at hT
    simp only [Tm.size]
    rcases hT with hT | hT
    · have := ih T hT; omega
    · have := ih2 T hT; omega
  | _ => intro T hT; simp only [smds, List.mem_singleton] at hT; rw [hT]; exact Nat.le_refl _
theorem lvl_kind (s : Tm) : ∀ T ∈ (lvl s).2, (∀ p q, T ≠ .par p q) ∧ (∀ x p, T ≠ .own x p) ∧ T ≠ .nil := by
  induction s with
  | own x p ih => exact ih
  | par p q ih ih2 =>
    intro T hT
    simp only [lvl, List.mem_append] at hT
    exact hT.elim (ih T) (ih2 T)
  | nil => intro T hT; simp [lvl] at hT
  | _ => intro T hT; simp only [lvl, List.mem_singleton] at hT; rw [hT]; exact ⟨by intros; simp, by intros; simp, by simp⟩
end Go.Proofs.YtmfmagfgcdaeeaaGreat.T1

/- Congruence, plain: all names at the front of a level are used by its threads. -/
namespace Go.Proofs.YtmfmagfgcdaeeaaGreat.T1
set_option linter.unusedVariables false

end Go.Proofs.YtmfmagfgcdaeeaaGreat.T1
