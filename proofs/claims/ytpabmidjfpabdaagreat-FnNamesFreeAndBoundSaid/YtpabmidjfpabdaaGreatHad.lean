/- Texts of the proof, put together: Cn, Al. No conditions. -/
import Derived.Test.YtpabmidjfpabdaaGreatHac

/- Names bound in an order that is given: all at once, and step by step: plain lemmas. -/
namespace Go.Proofs.YtpabmidjfpabdaaGreat.T1
set_option linter.unusedVariables false

/-- Another name stands for one letter. -/
def upd (sc : UInt8 → UInt8) (x y : UInt8) : UInt8 → UInt8 := fun z => if z = x then y else sc z
/-- The signs that bind, the first one first, bind the next of the names. -/
def can : Tm → (UInt8 → UInt8) → List UInt8 → Tm
  | .nil, _, _ => .nil
  | .snd a b p, sc, ns => .snd (sc a) (sc b) (can p sc ns)
  | .rcv a x p, sc, ns => .rcv (sc a) (ns.headD 0) (can p (upd sc x (ns.headD 0)) ns.tail)
  | .tau p, sc, ns => .tau (can p sc ns)
  | .sum p q, sc, ns => .sum (can p sc ns) (can q sc (ns.drop p.bnd.length))
  | .par p q, sc, ns => .par (can p sc ns) (can q sc (ns.drop p.bnd.length))
  | .own x p, sc, ns => .own (ns.headD 0) (can p (upd sc x (ns.headD 0)) ns.tail)
  | .mat a b p, sc, ns => .mat (sc a) (sc b) (can p sc ns)
  | .rep p, sc, ns => .rep (can p sc ns)

theorem can_congr (t : Tm) : ∀ (f g : UInt8 → UInt8) (ns : List UInt8), (∀ z, z ∈ t.free → f z = g z) → can t f ns = can t g ns := by
  induction t with
  | nil => intro f g ns h; rfl
  | snd a b p ih => intro f g ns h; simp only [mf_snd] at h; simp only [can]; rw [h a (by simp), h b (by simp), ih f g ns (fun z hz => h z (by simp [hz]))]
  | mat a b p ih => intro f g ns h; simp only [mf_mat] at h; simp only [can]; rw [h a (by simp), h b (by simp), ih f g ns (fun z hz => h z (by simp [hz]))]
  | rcv a x p ih =>
    intro f g ns h; simp only [mf_rcv] at h; simp only [can]
    rw [h a (by simp), ih (upd f x _) (upd g x _) ns.tail (fun z hz => by unfold upd; split; rfl; exact h z (.inr ⟨hz, by assumption⟩))]
  | own x p ih =>
    intro f g ns h; simp only [mf_own] at h; simp only [can]
    rw [ih (upd f x _) (upd g x _) ns.tail (fun z hz => by unfold upd; split; rfl; exact h z ⟨hz, by assumption⟩)]
  | tau p ih => intro f g ns h; simp only [mf_tau] at h; simp only [can]; rw [ih f g ns h]
  | rep p ih => intro f g ns h; simp only [mf_rep] at h; simp only [can]; rw [ih f g ns h]
  | sum p q ih ih2 => intro f g ns h; simp only [mf_sum] at h; simp only [can]; rw [ih f g ns (fun z hz => h z (.inl hz)), ih2 f g _ (fun z hz => h z (.inr hz))]
  | par p q ih ih2 => intro f g ns h; simp only [mf_par] at h; simp only [can]; rw [ih f g ns (fun z hz => h z (.inl hz)), ih2 f g _ (fun z hz => h z (.inr hz))]
theorem sw_upd (sc : UInt8 → UInt8) (a o m : UInt8) : sc (sw a o m) = upd sc o (sc m) a := by unfold sw upd; split <;> rfl

theorem can_R (n : Nat) : ∀ (t : Tm) (o m : UInt8) (sc : UInt8 → UInt8) (ns : List UInt8), t.size ≤ n → Roomy t o m → (m ∉ t.free ∨ o = m) → can (R t o m) sc ns = can t (upd sc o (sc m)) ns := by
  induction n with
  | zero => intro t o m _ _ h; have := size_pos t; omega
  | succ n ih =>
    intro t o m sc ns hn hr hm
    by_cases h : o = m ∨ o ∉ t.free
    · rw [R_same _ _ _ h]
      refine can_congr _ _ _ _ fun z hz => ?_
      unfold upd; split
      · rename_i e; subst e
        rcases h with h | h
        · rw [h]
        · exact absurd hz h
      · rfl
    · have hne : o ≠ m := fun e => h (.inl e)
      have hof : o ∈ t.free := by grind
      have hmf : m ∉ t.free := by grind
      have hb : ∀ (p : Tm) (x n0 : UInt8) (ns : List UInt8), p.size ≤ n → p.bdp + 1 ≤ t.bdp → (∀ z, z ∈ p.free → z = x ∨ z ∈ t.free) → can (RB p x o m) (upd sc (capX p x o m) n0) ns = can p (upd (upd sc o (sc m)) x n0) ns := by
        intro p x n0 ns hp hbl hs
        unfold RB
        by_cases hc : x = m ∧ o ∈ p.free
        · obtain ⟨y1, y2, y3⟩ := cap_new hr hbl hs hc
          rw [if_neg y2, if_pos hc]
          have r1 : Roomy p x (capX p x o m) := roomy_of (capX p x o m) hr hbl (fun z hz => by have := hs z; grind)
          have f1 := R_free n p x (capX p x o m) hp r1 (fun e => y3 (e.symm.trans hc.1))
          have r2 : Roomy (R p x (capX p x o m)) o m := roomy_of (capX p x o m) hr (by rw [R_bdp _ _ _ _ (Nat.le_refl _)]; exact hbl) (fun z hz => by have := hs z; have := f1 z; grind)
          rw [ih _ o m _ _ (by rw [R_size]; exact hp) r2 (.inl (by have := f1 m; grind)), ih p x _ _ _ hp r1 (.inl y1)]
          refine can_congr _ _ _ _ fun z hz => ?_
          unfold upd
          grind
        · have hx : capX p x o m = x := by unfold capX; rw [if_neg hc]
          rw [hx, if_neg hc]
          by_cases ho : x = o
          · rw [if_pos ho]
            refine can_congr _ _ _ _ fun z hz => ?_
            unfold upd; grind
          · rw [if_neg ho]
            have r1 : Roomy p o m := roomy_of x hr hbl (fun z hz => by have := hs z; grind)
            by_cases hxm : x = m
            · rw [R_same _ _ _ (.inr (fun e => hc ⟨hxm, e⟩))]
              refine can_congr _ _ _ _ fun z hz => ?_
              unfold upd; grind
            · rw [ih p o m _ _ hp r1 (.inl (fun e => by have := hs m e; grind))]
              refine can_congr _ _ _ _ fun z hz => ?_
              unfold upd; grind
      cases t with
      | nil => simp [Tm.free] at hof
      | snd a b p =>
        simp only [Tm.size] at hn; rw [mf_snd] at hmf
        have f := ih p o m sc ns (by omega) (roomy_sub hr (Nat.le_refl _) (fun z hz => by rw [mf_snd]; grind)) (.inl (by grind))
        rw [R_snd h]; simp only [can]; rw [f, sw_upd sc a, sw_upd sc b]
      | mat a b p =>
        simp only [Tm.size] at hn; rw [mf_mat] at hmf
        have f := ih p o m sc ns (by omega) (roomy_sub hr (Nat.le_refl _) (fun z hz => by rw [mf_mat]; grind)) (.inl (by grind))
        rw [R_mat h]; simp only [can]; rw [f, sw_upd sc a, sw_upd sc b]
      | rcv a x p =>
        simp only [Tm.size] at hn
        have f := hb p x (ns.headD 0) ns.tail (by omega) (by simp only [Tm.bdp]; try omega) (fun z hz => by rw [mf_rcv]; grind)
        rw [R_rcv h]; simp only [can]; rw [f, sw_upd sc a]
      | own x p =>
        simp only [Tm.size] at hn
        have f := hb p x (ns.headD 0) ns.tail (by omega) (by simp only [Tm.bdp]; try omega) (fun z hz => by rw [mf_own]; grind)
        rw [R_own h]; simp only [can]; rw [f]
      | tau p =>
        simp only [Tm.size] at hn; rw [mf_tau] at hmf
        have f := ih p o m sc ns (by omega) (roomy_sub hr (Nat.le_refl _) (fun z hz => by rw [mf_tau]; grind)) (.inl hmf)
        rw [R_tau h]; simp only [can]; rw [f]
      | rep p =>
        simp only [Tm.size] at hn; rw [mf_rep] at hmf
        have f := ih p o m sc ns (by omega) (roomy_sub hr (Nat.le_refl _) (fun z hz => by rw [mf_rep]; grind)) (.inl hmf)
        rw [R_rep h]; simp only [can]; rw [f]
      | sum p q =>
        simp only [Tm.size] at hn; rw [mf_sum] at hmf
        have f := ih p o m sc ns (by omega) (roomy_sub hr (by simp only [Tm.bdp]; try omega) (fun z hz => by rw [mf_sum]; grind)) (.inl (by grind))
        have g := ih q o m sc (ns.drop p.bnd.length) (by omega) (roomy_sub hr (by simp only [Tm.bdp]; try omega) (fun z hz => by rw [mf_sum]; grind)) (.inl (by grind))
        rw [R_sum h]; simp only [can]; rw [f, R_bnd _ p _ _ (Nat.le_refl _), g]
      | par p q =>
        simp only [Tm.size] at hn; rw [mf_par] at hmf
        have f := ih p o m sc ns (by omega) (roomy_sub hr (by simp only [Tm.bdp]; try omega) (fun z hz => by rw [mf_par]; grind)) (.inl (by grind))
        have g := ih q o m sc (ns.drop p.bnd.length) (by omega) (roomy_sub hr (by simp only [Tm.bdp]; try omega) (fun z hz => by rw [mf_par]; grind)) (.inl (by grind))
        rw [R_par h]; simp only [can]; rw [f, R_bnd _ p _ _ (Nat.le_refl _), g]

/-- The letters that are not in a list, in order. -/
def othL (l : List UInt8) : List UInt8 := ((List.range 26).map fun i => UInt8.ofNat (97 + i)).filter fun c => decide (c ∉ l)
def lowL : List UInt8 := (List.range 26).map fun i => UInt8.ofNat (97 + i)
theorem lowL_srt : Srt lowL := by unfold Srt lowL; decide +kernel
theorem othL_srt (l : List UInt8) : Srt (othL l) := List.Pairwise.filter _ lowL_srt
theorem mem_low (c : UInt8) : c ∈ lowL ↔ 97 ≤ c.toNat ∧ c.toNat ≤ 122 := by
  unfold lowL
  rw [List.mem_map]
  constructor
  · rintro ⟨i, hi, rfl⟩
    rw [List.mem_range] at hi
    rw [UInt8.toNat_ofNat']; omega
  · intro h
    exact ⟨c.toNat - 97, List.mem_range.2 (by omega), u8_ext (by rw [UInt8.toNat_ofNat']; omega)⟩
theorem mem_oth (l : List UInt8) (c : UInt8) : c ∈ othL l ↔ (97 ≤ c.toNat ∧ c.toNat ≤ 122) ∧ c ∉ l := by
  rw [← mem_low]; unfold othL lowL; rw [List.mem_filter]; simp
theorem fresh_oth (l : List UInt8) : (∃ c r, othL l = c :: r ∧ fresh l = c ∧ c.toNat ≤ 122) ∨ (othL l = [] ∧ 122 < (fresh l).toNat) := by
  rcases fresh_cases l with ⟨k, h1, h2, h3, h4⟩ | ⟨h0, h⟩
  · left
    have hs := othL_srt l
    have hmem : UInt8.ofNat (97 + k) ∈ othL l := (mem_oth _ _).2 ⟨by rw [UInt8.toNat_ofNat']; omega, h3⟩
    cases ho : othL l with
    | nil => rw [ho] at hmem; cases hmem
    | cons c r =>
      have hc : c = UInt8.ofNat (97 + k) := by
        rw [ho] at hs hmem
        rcases List.mem_cons.1 hmem with h | h
        · exact h.symm
        · have h5 := (List.pairwise_cons.1 hs).1 _ h
          have h6 := (mem_oth l c).1 (by rw [ho]; simp)
          rw [u8_lt, UInt8.toNat_ofNat'] at h5
          exact absurd (by have := h2 (c.toNat - 97) (by omega); rw [show UInt8.ofNat (97 + (c.toNat - 97)) = c from u8_ext (by rw [UInt8.toNat_ofNat']; omega)] at this; exact this) h6.2
      exact ⟨c, r, rfl, by rw [h4, hc], by rw [hc, UInt8.toNat_ofNat']; omega⟩
  · right
    refine ⟨?_, ?_⟩
    · cases ho : othL l with
      | nil => rfl
      | cons c r =>
        have h6 := (mem_oth l c).1 (by rw [ho]; simp)
        exact absurd (by have := h0 (c.toNat - 97) (by omega); rw [show UInt8.ofNat (97 + (c.toNat - 97)) = c from u8_ext (by rw [UInt8.toNat_ofNat']; omega)] at this; exact this) h6.2
    · rcases h with ⟨k, h1, _, _, h4⟩ | ⟨_, h4⟩
      · rw [h4, UInt8.toNat_ofNat']; omega
      · rw [h4]; decide
/-- What is asked of a process and of the names that are taken. -/
structure Tk (t : Tm) (l : List UInt8) : Prop where
  srt : Srt l
  sub : ∀ z, z ∈ t.free → z ∈ l
  room : l.length + t.bnd.length ≤ 87
theorem len_both_take (l A : List UInt8) : (bothL l A).length ≤ l.length + A.length := by
  induction A generalizing l with
  | nil => simp [bothL]
  | cons c A ih =>
    have h1 := ih (addL l c)
    have h2 := addL_len c l
    show (bothL (addL l c) A).length ≤ _
    simp only [List.length_cons]; omega
end Go.Proofs.YtpabmidjfpabdaaGreat.T1

/- Processes alike by names: plain lemmas. -/
namespace Go.Proofs.YtpabmidjfpabdaaGreat.T1
set_option linter.unusedVariables false

theorem can_len (t : Tm) : ∀ (sc : UInt8 → UInt8) (ns : List UInt8), (can t sc ns).pr.length = t.pr.length ∧ (can t sc ns).size = t.size ∧ (can t sc ns).bnd.length = t.bnd.length := by
  induction t with
  | nil => intro sc ns; exact ⟨rfl, rfl, rfl⟩
  | rcv a x p ih => intro sc ns; have := ih (upd sc x (ns.headD 0)) ns.tail; simp only [can, Tm.pr, Tm.size, Tm.bnd, List.length_cons, this, and_self]
  | own x p ih => intro sc ns; have := ih (upd sc x (ns.headD 0)) ns.tail; simp only [can, Tm.pr, Tm.size, Tm.bnd, List.length_cons, this, and_self]
  | sum p q ih ih2 => intro sc ns; have h1 := ih sc ns; have h2 := ih2 sc (ns.drop p.bnd.length); simp [can, Tm.pr, Tm.size, Tm.bnd, h1, h2]
  | par p q ih ih2 => intro sc ns; have h1 := ih sc ns; have h2 := ih2 sc (ns.drop p.bnd.length); simp [can, Tm.pr, Tm.size, Tm.bnd, h1, h2]
  | snd a b p ih => intro sc ns; have h1 := ih sc ns; simp [can, Tm.pr, Tm.size, Tm.bnd, h1]
  | mat a b p ih => intro sc ns; have h1 := ih sc ns; simp [can, Tm.pr, Tm.size, Tm.bnd, h1]
  | tau p ih => intro sc ns; have h1 := ih sc ns; simp [can, Tm.pr, Tm.size, Tm.bnd, h1]
  | rep p ih => intro sc ns; have h1 := ih sc ns; simp [can, Tm.pr, Tm.size, Tm.bnd, h1]
/-- Marks, each once, none of them a letter. -/
structure Mk (ms ns : List UInt8) : Prop where
  nd : (ms ++ ns).Nodup
  hi : ∀ z ∈ ms ++ ns, 123 ≤ z.toNat
/-- The marks behind the letters. -/
def marks : List UInt8 := (List.range 60).map fun i => UInt8.ofNat (123 + i)
theorem marks_len : marks.length = 60 := by unfold marks; simp
end Go.Proofs.YtpabmidjfpabdaaGreat.T1
