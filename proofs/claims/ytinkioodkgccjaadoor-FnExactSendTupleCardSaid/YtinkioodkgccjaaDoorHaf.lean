/- Texts of the proof, put together: Cda, Cu. No conditions. -/
import Derived.Test.YtinkioodkgccjaaDoorHae

/- Codings as trees: tuples that are sent and received, fresh letters one after the other: plain lemmas. No conditions. -/
namespace Go.Proofs.YtinkioodkgccjaaDoor.T1

/-- Sends over one name, one after the other. -/
def snds (w : UInt8) : List UInt8 → Tm → Tm
  | [], p => p
  | b :: l, p => .snd w b (snds w l p)
def rcvs (w : UInt8) : List UInt8 → Tm → Tm
  | [], p => p
  | b :: l, p => .rcv w b (rcvs w l p)
def sendW (w a : UInt8) (l : List UInt8) (p : Tm) : Tm := .own w (.snd a w (snds w l p))
def recvW (w a : UInt8) (l : List UInt8) (p : Tm) : Tm := .rcv a w (rcvs w l p)
/-- The name over which a tuple goes. -/
def linkN (a : UInt8) (l : List UInt8) (p : Tm) : UInt8 := fresh (a :: (l ++ p.free))
def sendC (a : UInt8) (l : List UInt8) (p : Tm) : Tm := sendW (linkN a l p) a l p
def recvC (a : UInt8) (l : List UInt8) (p : Tm) : Tm := recvW (linkN a l p) a l p

theorem fresh_ext {l m : List UInt8} (h : ∀ x, x ∈ l ↔ x ∈ m) : fresh l = fresh m := by
  unfold fresh
  have e : ∀ x, decide (x ∉ l) = decide (x ∉ m) := fun x => by simp [h]
  simp only [e]
theorem fresh_none {l : List UInt8} (h : othL l = []) : nmL (fresh l) = false := by
  rcases fresh_oth l with ⟨c', r', h1, h2, _⟩ | ⟨_, h1⟩
  · rw [h] at h1; cases h1
  · cases hh : nmL (fresh l) with
    | false => rfl
    | true => have := (nmL_iff _).1 hh; omega
theorem fresh_some {l : List UInt8} (h : othL l ≠ []) : nmL (fresh l) = true := by
  rcases fresh_oth l with ⟨c', r', h1, h2, h3⟩ | ⟨h1, _⟩
  · have := (mem_oth l c').1 (by rw [h1]; simp)
    rw [h2]; exact (nmL_iff _).2 this.1
  · exact absurd h1 h
theorem snds_ok (nm : UInt8 → Bool) (w : UInt8) (l : List UInt8) (p : Tm) : (snds w l p).ok nm = ((l.all fun b => nm w && nm b) && p.ok nm) := by
  induction l with
  | nil => simp [snds]
  | cons b l ih => simp only [snds, Tm.ok, ih, List.all_cons, Bool.and_assoc]
theorem rcvs_ok (nm : UInt8 → Bool) (w : UInt8) (l : List UInt8) (p : Tm) : (rcvs w l p).ok nm = ((l.all fun b => nm w && nm b) && p.ok nm) := by
  induction l with
  | nil => simp [rcvs]
  | cons b l ih => simp only [rcvs, Tm.ok, ih, List.all_cons, Bool.and_assoc]
theorem snds_pr (w : UInt8) (l : List UInt8) (p : Tm) : (snds w l p).pr = (l.map fun b => [w, 33, b, 46]).flatten ++ p.pr := by
  induction l with
  | nil => simp [snds]
  | cons b l ih => simp [snds, Tm.pr, ih]
theorem rcvs_pr (w : UInt8) (l : List UInt8) (p : Tm) : (rcvs w l p).pr = (l.map fun b => [w, 63, b, 46]).flatten ++ p.pr := by
  induction l with
  | nil => simp [rcvs]
  | cons b l ih => simp [rcvs, Tm.pr, ih]
theorem snds_len (w : UInt8) (l : List UInt8) (p : Tm) : (snds w l p).pr.length = 4 * l.length + p.pr.length := by
  induction l with
  | nil => simp [snds]
  | cons b l ih => simp [snds, Tm.pr, ih]; omega
theorem rcvs_len (w : UInt8) (l : List UInt8) (p : Tm) : (rcvs w l p).pr.length = 4 * l.length + p.pr.length := by
  induction l with
  | nil => simp [rcvs]
  | cons b l ih => simp [rcvs, Tm.pr, ih]; omega
theorem sendW_len (w a : UInt8) (l : List UInt8) (p : Tm) : (sendW w a l p).pr.length = 7 + 4 * l.length + p.pr.length := by
  simp [sendW, Tm.pr, snds_len]; omega
theorem recvW_len (w a : UInt8) (l : List UInt8) (p : Tm) : (recvW w a l p).pr.length = 4 + 4 * l.length + p.pr.length := by
  simp [recvW, Tm.pr, rcvs_len]; omega
theorem sendW_ok {nm : UInt8 → Bool} {w a : UInt8} {l : List UInt8} {p : Tm} (hw : nm w = true) (ha : nm a = true) (hl : ∀ c ∈ l, nm c = true) (hp : p.ok nm = true) : (sendW w a l p).ok nm = true := by
  simp only [sendW, Tm.ok, snds_ok, hw, ha, hp, Bool.and_true, Bool.true_and, List.all_eq_true]
  exact hl
theorem recvW_ok {nm : UInt8 → Bool} {w a : UInt8} {l : List UInt8} {p : Tm} (hw : nm w = true) (ha : nm a = true) (hl : ∀ c ∈ l, nm c = true) (hp : p.ok nm = true) : (recvW w a l p).ok nm = true := by
  simp only [recvW, Tm.ok, rcvs_ok, hw, ha, hp, Bool.and_true, Bool.true_and, List.all_eq_true]
  exact hl
theorem sendW_no {w a : UInt8} {l : List UInt8} {p : Tm} (hw : nmL w = false) : (sendW w a l p).ok nmL = false := by simp [sendW, Tm.ok, hw]
theorem recvW_no {w a : UInt8} {l : List UInt8} {p : Tm} (hw : nmL w = false) : (recvW w a l p).ok nmL = false := by simp [recvW, Tm.ok, hw]
theorem sendC_okE {a : UInt8} {l : List UInt8} {p : Tm} (ha : nmE a = true) (hl : ∀ c ∈ l, nmE c = true) (hp : p.ok nmE = true) : (sendC a l p).ok nmE = true := sendW_ok (fresh_nm _) ha hl hp
theorem recvC_okE {a : UInt8} {l : List UInt8} {p : Tm} (ha : nmE a = true) (hl : ∀ c ∈ l, nmE c = true) (hp : p.ok nmE = true) : (recvC a l p).ok nmE = true := recvW_ok (fresh_nm _) ha hl hp
theorem nmE_of {c : UInt8} (h : nmL c = true) : nmE c = true := by
  have := (nmL_iff c).1 h
  simp [nmE, this]
/-- The names that the program holds as taken for a tuple. -/
def takenT (a : UInt8) (l : List UInt8) (p : Tm) : List UInt8 := addL (bothL p.free (bothL [] l)) a
theorem mem_takenT (a : UInt8) (l : List UInt8) (p : Tm) (x : UInt8) : x ∈ takenT a l p ↔ x ∈ a :: (l ++ p.free) := by
  unfold takenT; rw [mem_addL, mem_bothL, mem_bothL]; simp; grind
theorem linkN_eq (a : UInt8) (l : List UInt8) (p : Tm) : linkN a l p = fresh (takenT a l p) := fresh_ext fun x => (mem_takenT a l p x).symm

end Go.Proofs.YtinkioodkgccjaaDoor.T1

/- Tuples of letters: plain lemmas. No conditions. -/
namespace Go.Proofs.YtinkioodkgccjaaDoor.T1

/-- A tuple of letters. -/
def tupB (l : List UInt8) : Bool := decide (1 ≤ l.length) && decide (l.length ≤ 4) && l.all nmL
theorem tupB_iff (l : List UInt8) : tupB l = true ↔ (1 ≤ l.length ∧ l.length ≤ 4) ∧ ∀ c ∈ l, nmL c = true := by simp [tupB]
/-- No letter comes a second time, nor is one of m. -/
def ndp : List UInt8 → List UInt8 → Bool
  | _, [] => true
  | m, c :: l => !decide (c ∈ m) && ndp (m ++ [c]) l
theorem addL_lenE (c : UInt8) : ∀ l : List UInt8, Srt l → (addL l c).length = if c ∈ l then l.length else l.length + 1 := by
  intro l
  induction l with
  | nil => intro _; simp [addL]
  | cons x r ih =>
    intro hs
    have hs' := List.pairwise_cons.1 hs
    simp only [addL]
    by_cases h1 : x < c
    · have hne : c ≠ x := fun e => by rw [e, u8_lt] at h1; omega
      rw [if_pos h1, List.length_cons, ih hs'.2]
      by_cases h2 : c ∈ r
      · rw [if_pos h2, if_pos (List.mem_cons_of_mem _ h2)]; rfl
      · rw [if_neg h2, if_neg (by simp [hne, h2])]; rfl
    · rw [if_neg h1]
      by_cases h2 : x = c
      · rw [if_pos h2, if_pos (by simp [h2])]
      · rw [if_neg h2]
        have h3 : c ∉ x :: r := fun h => by
          rcases List.mem_cons.1 h with e | e
          · exact h2 e.symm
          · exact h1 (hs'.1 c e)
        rw [if_neg h3]; rfl
theorem both_len (l : List UInt8) : ∀ M, Srt M → (bothL M l).length ≤ M.length + l.length := by
  induction l with
  | nil => intro M _; exact Nat.le_refl _
  | cons c l ih =>
    intro M hM
    have h1 := ih (addL M c) (srt_addL hM c)
    have h2 := addL_lenE c M hM
    show (bothL (addL M c) l).length ≤ _
    split at h2 <;> simp only [List.length_cons] <;> omega
theorem ndp_len (l : List UInt8) : ∀ (m M : List UInt8), Srt M → (∀ x, x ∈ m ↔ x ∈ M) → (ndp m l = true ↔ (bothL M l).length = M.length + l.length) := by
  induction l with
  | nil => intro m M _ _; exact ⟨fun _ => rfl, fun _ => rfl⟩
  | cons c l ih =>
    intro m M hM hm
    show _ ↔ (bothL (addL M c) l).length = M.length + (l.length + 1)
    have h2 := addL_lenE c M hM
    have hs := srt_addL hM c
    by_cases hc : c ∈ M
    · rw [if_pos hc] at h2
      have h3 := both_len l (addL M c) hs
      have h4 : ndp m (c :: l) = false := by simp [ndp, (hm c).2 hc]
      rw [h4]
      constructor
      · intro h; cases h
      · intro h; omega
    · rw [if_neg hc] at h2
      have h4 : ndp m (c :: l) = ndp (m ++ [c]) l := by simp [ndp, (hm c), hc]
      rw [h4, ih (m ++ [c]) (addL M c) hs (fun x => by rw [mem_addL, ← hm x]; simp), h2]
      constructor <;> intro h <;> omega
/-- A list of texts of one letter each. -/
theorem pcs_one : ∀ (L : List ByteArray), (∀ x ∈ L, ∃ c, nmL c = true ∧ x.data.toList = [c]) → ∀ c ∈ (L.map (·.data.toList)).flatten, nmL c = true := by
  intro L h c hc
  obtain ⟨l, hl, hcl⟩ := List.mem_flatten.1 hc
  obtain ⟨x, hx, rfl⟩ := List.mem_map.1 hl
  obtain ⟨d, hd, e⟩ := h x hx
  rw [e] at hcl
  simp at hcl
  rw [hcl]; exact hd
/-- The first text that is not one letter. -/
theorem pcs_bad : ∀ (L : List ByteArray), ¬ (∀ x ∈ L, ∃ c, nmL c = true ∧ x.data.toList = [c]) → ∃ (l : List UInt8) (k : Nat) (hk : k < L.length), l.length = k ∧ (∀ c ∈ l, nmL c = true) ∧ (∀ i (h : i < k) (h' : i < l.length), (L[i]'(by omega)).data.toList = [l[i]]) ∧ ∀ c, nmL c = true → (L[k]'hk).data.toList ≠ [c] := by
  intro L
  induction L with
  | nil => intro h; exact absurd (fun x hx => by cases hx) h
  | cons y L ih =>
    intro h
    by_cases hy : ∃ c, nmL c = true ∧ y.data.toList = [c]
    · obtain ⟨c, hc, e⟩ := hy
      obtain ⟨l, k, hk, h1, h2, h3, h4⟩ := ih fun hL => h fun x hx => by
        rcases List.mem_cons.1 hx with rfl | hx
        · exact ⟨c, hc, e⟩
        · exact hL x hx
      refine ⟨c :: l, k + 1, by simp; omega, by simp [h1], by simp [hc]; exact h2, ?_, by simpa using h4⟩
      intro i hi hi'
      cases i with
      | zero => simpa using e
      | succ i => simpa using h3 i (by omega) (by simpa using hi')
    · exact ⟨[], 0, by simp, rfl, by simp, fun i hi => by omega, fun c hc e => hy ⟨c, hc, by simpa using e⟩⟩
end Go.Proofs.YtinkioodkgccjaaDoor.T1
