/- Texts of the proof, put together: Vz. No conditions. -/
import Derived.Test.YtdfelpahacmdpaaGar
import Derived.Test.YtdfelpahacmdpaaGbu
import Derived.Test.YtdfelpahacmdpaaGbw
import Derived.Test.YtdfelpahacmdpaaGbx

/- Sorts in the specification: of each process. -/
namespace Go.Proofs.Ytdfelpahacmdpaa.T1
open Go.RowKit
set_option maxRecDepth 100000
set_option linter.unusedVariables false
set_option linter.unusedSimpArgs false

theorem withS_any {w : World} {s : ByteArray} {v : Value} {ns : List UInt8} {xs : List Nat} (h : ScAt w s v ns xs) (hl : ns.length ≤ 1000) (x : UInt8) (k : Nat) :
    Calls Try.prog 75 #[.agg #[.string s, v], .int .u8 (x.toNat : Int), .int .i64 (k : Int)] w fun e w' => (∃ s' v', e = .returned (.agg #[.string s', v']) ∧ ScAt w' s' v' (x :: ns) (k :: xs) ∧ ∀ g, v'.ownBlock = some g → w.heap.size ≤ g) ∧ Below w.heap.size w w' := by
  rcases Nat.eq_zero_or_pos xs.length with e | e
  · have hx : xs = [] := List.eq_nil_of_length_eq_zero e
    obtain rfl := h.none hx
    exact with_none h x k hx
  · exact with_some h hl x k e
def WalkS (t : Tm) : Prop := t.ok nmE = true → t.pr.length ≤ 700 → ∀ (b N : Nat) (l : List (Bool × Nat × Nat)) (s : ByteArray) (v : Value) (ns : List UInt8) (xs : List Nat) (w : World), SEnv w b s v ns xs → SpSta w b N l → (∀ x ∈ t.free, fnd ns xs x < N) → ns.length + t.size ≤ 1000 → N + t.size ≤ 1000 →
    Calls Try.prog 52 #[.pointer (some ⟨b, 0, none⟩), .string (S t), .agg #[.string s, v]] w (SP b (ask6 t (fnd ns xs) N).2 (l ++ (ask6 t (fnd ns xs) N).1) w)
theorem walkS_ok : ∀ t : Tm, WalkS t := by
  intro t
  induction t with
  | nil =>
    intro ho hl b N l s v ns xs w he hs hf h1 h2
    simp only [ask6, List.append_nil]
    exact sw_0 _ _ _ _ _ _ _ _ w _ (by simp only [Tm.kind]; decide) (by simp only [Tm.kind]; decide) (by simp only [Tm.kind]; decide) (by simp only [Tm.kind]; decide) (tmKind_any .nil ho hl) (tmParts_any .nil ho hl) he hs
  | tau p ih =>
    intro ho hl b N l s v ns xs w he hs hf h1 h2
    have ho' := ho
    simp only [Tm.ok] at ho'
    have hl' := hl
    simp only [Tm.pr, List.length_cons] at hl'
    simp only [Tm.size] at h1 h2
    exact sw_1 _ _ _ _ _ _ _ _ w _ _ _ _ (by simp only [Tm.kind]; decide) (by simp only [Tm.kind]; decide) (by simp only [Tm.kind]; decide) (by simp only [Tm.kind]; decide) (tmKind_any (.tau p) ho hl) (tmParts_any (.tau p) ho hl) he hs (fun w1 e1 s1 => ih ho' (by omega) b N l s v ns xs w1 e1 s1 (fun x hx => hf x ((mf_tau _ _).2 hx)) (by omega) (by omega))
  | rep p ih =>
    intro ho hl b N l s v ns xs w he hs hf h1 h2
    have ho' := ho
    simp only [Tm.ok] at ho'
    have hl' := hl
    simp only [Tm.pr, List.length_cons] at hl'
    simp only [Tm.size] at h1 h2
    exact sw_1 _ _ _ _ _ _ _ _ w _ _ _ _ (by simp only [Tm.kind]; decide) (by simp only [Tm.kind]; decide) (by simp only [Tm.kind]; decide) (by simp only [Tm.kind]; decide) (tmKind_any (.rep p) ho hl) (tmParts_any (.rep p) ho hl) he hs (fun w1 e1 s1 => ih ho' (by omega) b N l s v ns xs w1 e1 s1 (fun x hx => hf x ((mf_rep _ _).2 hx)) (by omega) (by omega))
  | sum p q ih ih2 =>
    intro ho hl b N l s v ns xs w he hs hf h1 h2
    have ho' := ho
    simp only [Tm.ok, Bool.and_eq_true] at ho'
    have hl' := hl
    simp only [Tm.pr, List.length_cons, List.length_append] at hl'
    simp only [Tm.size] at h1 h2
    simp only [ask6]
    have hq := ask6_next p (fnd ns xs) N
    exact sw_2 _ _ _ _ _ _ _ _ w _ _ _ _ _ _ _ (by simp only [Tm.kind]; decide) (by simp only [Tm.kind]; decide) (by simp only [Tm.kind]; decide) (by simp only [Tm.kind]; decide) (tmKind_any (.sum p q) ho hl) (tmParts_any (.sum p q) ho hl) he hs
      (fun w1 e1 s1 => ih ho'.1 (by omega) b N l s v ns xs w1 e1 s1 (fun x hx => hf x ((mf_sum _ _ _).2 (.inl hx))) (by omega) (by omega))
      (fun w1 e1 s1 => by
        have := ih2 ho'.2 (by omega) b (ask6 p (fnd ns xs) N).2 (l ++ (ask6 p (fnd ns xs) N).1) s v ns xs w1 e1 s1 (fun x hx => Nat.lt_of_lt_of_le (hf x ((mf_sum _ _ _).2 (.inr hx))) hq.1) (by omega) (by omega)
        rw [List.append_assoc] at this
        exact this)
  | par p q ih ih2 =>
    intro ho hl b N l s v ns xs w he hs hf h1 h2
    have ho' := ho
    simp only [Tm.ok, Bool.and_eq_true] at ho'
    have hl' := hl
    simp only [Tm.pr, List.length_cons, List.length_append] at hl'
    simp only [Tm.size] at h1 h2
    simp only [ask6]
    have hq := ask6_next p (fnd ns xs) N
    exact sw_2 _ _ _ _ _ _ _ _ w _ _ _ _ _ _ _ (by simp only [Tm.kind]; decide) (by simp only [Tm.kind]; decide) (by simp only [Tm.kind]; decide) (by simp only [Tm.kind]; decide) (tmKind_any (.par p q) ho hl) (tmParts_any (.par p q) ho hl) he hs
      (fun w1 e1 s1 => ih ho'.1 (by omega) b N l s v ns xs w1 e1 s1 (fun x hx => hf x ((mf_par _ _ _).2 (.inl hx))) (by omega) (by omega))
      (fun w1 e1 s1 => by
        have := ih2 ho'.2 (by omega) b (ask6 p (fnd ns xs) N).2 (l ++ (ask6 p (fnd ns xs) N).1) s v ns xs w1 e1 s1 (fun x hx => Nat.lt_of_lt_of_le (hf x ((mf_par _ _ _).2 (.inr hx))) hq.1) (by omega) (by omega)
        rw [List.append_assoc] at this
        exact this)
  | snd a c p ih =>
    intro ho hl b N l s v ns xs w he hs hf h1 h2
    have ho' := ho
    simp only [Tm.ok, Bool.and_eq_true] at ho'
    have hl' := hl
    simp only [Tm.pr, List.length_cons] at hl'
    simp only [Tm.size] at h1 h2
    simp only [ask6]
    have hz : 2 < (S (.snd a c p)).size := by rw [S_size]; simp [Tm.pr] <;> omega
    exact sw_snd _ _ _ _ _ _ _ _ w _ _ _ (by rw [S_size]; exact hl) hz (by omega) (fnd ns xs a) (fnd ns xs c) (by rw [S_at]; rfl) (by rw [S_at]; rfl) (hf a ((mf_snd _ _ _ _).2 (.inl rfl))) (hf c ((mf_snd _ _ _ _).2 (.inr (.inl rfl)))) (tmKind_any (.snd a c p) ho hl) (tmParts_any (.snd a c p) ho hl) he hs
      (fun w1 e1 s1 => by
        have := ih ho'.2 (by omega) b N _ s v ns xs w1 e1 s1 (fun x hx => hf x ((mf_snd _ _ _ _).2 (.inr (.inr hx)))) (by omega) (by omega)
        rw [List.append_assoc] at this
        exact this)
  | mat a c p ih =>
    intro ho hl b N l s v ns xs w he hs hf h1 h2
    have ho' := ho
    simp only [Tm.ok, Bool.and_eq_true] at ho'
    have hl' := hl
    simp only [Tm.pr, List.length_cons] at hl'
    simp only [Tm.size] at h1 h2
    simp only [ask6]
    have hz : 3 < (S (.mat a c p)).size := by rw [S_size]; simp [Tm.pr] <;> omega
    exact sw_mat _ _ _ _ _ _ _ _ w _ _ _ (by rw [S_size]; exact hl) hz (by omega) (fnd ns xs a) (fnd ns xs c) (by rw [S_at]; rfl) (by rw [S_at]; rfl) (hf a ((mf_mat _ _ _ _).2 (.inl rfl))) (hf c ((mf_mat _ _ _ _).2 (.inr (.inl rfl)))) (tmKind_any (.mat a c p) ho hl) (tmParts_any (.mat a c p) ho hl) he hs
      (fun w1 e1 s1 => by
        have := ih ho'.2 (by omega) b N _ s v ns xs w1 e1 s1 (fun x hx => hf x ((mf_mat _ _ _ _).2 (.inr (.inr hx)))) (by omega) (by omega)
        rw [List.append_assoc] at this
        exact this)
  | own x p ih =>
    intro ho hl b N l s v ns xs w he hs hf h1 h2
    have ho' := ho
    simp only [Tm.ok, Bool.and_eq_true] at ho'
    have hl' := hl
    simp only [Tm.pr, List.length_cons] at hl'
    simp only [Tm.size] at h1 h2
    simp only [ask6]
    have hp := size_pos p
    have hz : 1 < (S (.own x p)).size := by rw [S_size]; simp [Tm.pr]
    exact sw_own _ _ _ _ _ _ _ _ w _ _ _ x (by rw [S_size]; exact hl) hz (by rw [S_at]; rfl) (by omega) (by omega) (tmKind_any (.own x p) ho hl) (tmParts_any (.own x p) ho hl) he hs (fun w1 x k h => withS_any h (by omega) x k)
      (fun s' v' w1 e1 s1 => by
        have := ih ho'.2 (by omega) b (N + 1) l s' v' (x :: ns) (N :: xs) w1 e1 s1 (fun z hz => by
          rw [fnd_with]
          unfold upd6
          by_cases e : z = x
          · subst e; rw [if_pos rfl]; omega
          · have := hf z ((mf_own _ _ _).2 ⟨hz, e⟩)
            rw [if_neg e]; omega) (by simp; omega) (by omega)
        rw [fnd_with] at this
        exact this)
  | rcv a x p ih =>
    intro ho hl b N l s v ns xs w he hs hf h1 h2
    have ho' := ho
    simp only [Tm.ok, Bool.and_eq_true] at ho'
    have hl' := hl
    simp only [Tm.pr, List.length_cons] at hl'
    simp only [Tm.size] at h1 h2
    simp only [ask6]
    have hp := size_pos p
    have hz : 2 < (S (.rcv a x p)).size := by rw [S_size]; simp [Tm.pr] <;> omega
    exact sw_rcv _ _ _ _ _ _ _ _ w _ _ _ x (by rw [S_size]; exact hl) hz (by rw [S_at]; rfl) (by omega) (by omega) (fnd ns xs a) (by rw [S_at]; rfl) (hf a ((mf_rcv _ _ _ _).2 (.inl rfl))) (tmKind_any (.rcv a x p) ho hl) (tmParts_any (.rcv a x p) ho hl) he hs (fun w1 x k h => withS_any h (by omega) x k)
      (fun s' v' w1 e1 s1 => by
        have := ih ho'.2 (by omega) b (N + 1) _ s' v' (x :: ns) (N :: xs) w1 e1 s1 (fun z hz => by
          rw [fnd_with]
          unfold upd6
          by_cases e : z = x
          · subst e; rw [if_pos rfl]; omega
          · have := hf z ((mf_rcv _ _ _ _).2 (.inr ⟨hz, e⟩))
            rw [if_neg e]; omega) (by simp; omega) (by omega)
        rw [fnd_with, List.append_assoc] at this
        exact this)
theorem srt_lenL {F : List UInt8} (hs : Srt F) (hl : Lets F) : F.length ≤ 26 := by
  have h := hs
  have key : ∀ (G : List UInt8) (b : Nat), Srt G → (∀ x ∈ G, b ≤ x.toNat ∧ x.toNat ≤ 122) → G.length + b ≤ 123 ∨ G = [] := by
    intro G
    induction G with
    | nil => intro b _ _; exact .inr rfl
    | cons c cs ih =>
      intro b hG hx
      left
      obtain ⟨h1, h2⟩ := List.pairwise_cons.1 hG
      have hc := hx c (by simp)
      rcases ih (c.toNat + 1) h2 (fun x hx2 => ⟨by have := (u8_lt _ _).1 (h1 x hx2); omega, (hx x (by simp [hx2])).2⟩) with h | h
      · simp; omega
      · subst h; simp; omega
  rcases key F 97 hs (fun x hx => hl x hx) with h | h
  · omega
  · subst h; simp
theorem soOf_any (t : Tm) (ho : t.ok nmE = true) (hL : t.ok nmL = true) (hl : t.pr.length ≤ 300) (h60 : t.size ≤ 60) (w : World) :
    Calls Try.prog 29 #[.string (S t)] w fun e w' => (∃ b, e = .returned (.pointer (some ⟨b, 0, none⟩)) ∧ w.heap.size ≤ b ∧ SpSta w' b (ask6 t (idx6 t.free 0) t.free.length).2 (ask6 t (idx6 t.free 0) t.free.length).1) ∧ Below w.heap.size w w' := by
  have hnd := srt_nodup (srt_free t)
  have hfl : t.free.length ≤ 26 := by
    have h1 := srt_lenL (srt_free t) (lets_free t hL)
    exact h1
  refine soOf0 _ t.free hfl _ _ (tmFree_any t ho (by omega)) (fun b s v w1 he hs => ?_) w
  have := walkS_ok t ho (by omega) b t.free.length [] s v t.free (List.range t.free.length) w1 he hs (fun x hx => by rw [fnd_range]; exact idx6_lt hnd hx) (by omega) (by omega)
  rw [fnd_range, List.nil_append] at this
  exact this

end Go.Proofs.Ytdfelpahacmdpaa.T1
