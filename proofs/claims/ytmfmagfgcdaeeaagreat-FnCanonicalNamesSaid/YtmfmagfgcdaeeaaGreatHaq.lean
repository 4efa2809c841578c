/- Texts of the proof, put together: Cn, Al, Nw, Gc, Gn, Gk. No conditions. -/
import Derived.Test.YtmfmagfgcdaeeaaGreatHaa
import Derived.Test.YtmfmagfgcdaeeaaGreatHai
import Derived.Test.YtmfmagfgcdaeeaaGreatProg
import Derived.WalkKit
import Derived.ProofKit
import Derived.Lib.Hide
import Derived.RegionTactic
import Derived.Deep.QuietTactic
import Derived.Deep.DeepCutAuto
import Derived.Laws.Rows
import Derived.Laws.Bits64b
import Derived.BigRegion
import Derived.Deep.RegionHeld3
import Derived.Deep.RegionWith

/- Names bound in an order that is given: all at once, and step by step: plain lemmas. -/
namespace Go.Proofs.YtmfmagfgcdaeeaaGreat.T1
set_option linter.unusedVariables false

/-- Another name stands for one letter. -/
def upd (sc : UInt8 → UInt8) (x y : UInt8) : UInt8 → UInt8 := fun z => if z = x then y else sc z
/-- The signs that bind, the first one first, bind the next of the names. -/
def can : Tm → (UInt8 → UInt8) → List UInt8 → Tm
  | .nil, _, _ => .nil
  | .snd a b p, sc, ns => .snd (sc a) (sc b) (can p sc ns)
  | .rcv a x p, sc, ns => .rcv (sc a) (ns.headD 0) (can p (upd sc x (ns.headD 0)) ns.tail)
  | .tau p, sc, ns => .tau (can p sc ns)
  | .sum p q, sc, ns => .sum (can p sc ns) (can q sc (ns.drop p.bnd.length))
  | .par p q, sc, ns => .par (can p sc ns) (can q sc (ns.drop p.bnd.length))
  | .own x p, sc, ns => .own (ns.headD 0) (can p (upd sc x (ns.headD 0)) ns.tail)
  | .mat a b p, sc, ns => .mat (sc a) (sc b) (can p sc ns)
  | .rep p, sc, ns => .rep (can p sc ns)

theorem can_congr (t : Tm) : ∀ (f g : UInt8 → UInt8) (ns : List UInt8), (∀ z, z ∈ t.free → f z = g z) → can t f ns = can t g ns := by
  induction t with
  | nil => intro f g ns h; rfl
  | snd a b p ih => intro f g ns h; simp only [mf_snd] at h; simp only [can]; rw [h a (by simp), h b (by simp), ih f g ns (fun z hz => h z (by simp [hz]))]
  | mat a b p ih => intro f g ns h; simp only [mf_mat] at h; simp only [can]; rw [h a (by simp), h b (by simp), ih f g ns (fun z hz => h z (by simp [hz]))]
  | rcv a x p ih =>
    intro f g ns h; simp only [mf_rcv] at h; simp only [can]
    rw [h a (by simp), ih (upd f x _) (upd g x _) ns.tail (fun z hz => by unfold upd; split; rfl; exact h z (.inr ⟨hz, by assumption⟩))]
  | own x p ih =>
    intro f g ns h; simp only [mf_own] at h; simp only [can]
    rw [ih (upd f x _) (upd g x _) ns.tail (fun z hz => by unfold upd; split; rfl; exact h z ⟨hz, by assumption⟩)]
  | tau p ih => intro f g ns h; simp only [mf_tau] at h; simp only [can]; rw [ih f g ns h]
  | rep p ih => intro f g ns h; simp only [mf_rep] at h; simp only [can]; rw [ih f g ns h]
  | sum p q ih ih2 => intro f g ns h; simp only [mf_sum] at h; simp only [can]; rw [ih f g ns (fun z hz => h z (.inl hz)), ih2 f g _ (fun z hz => h z (.inr hz))]
  | par p q ih ih2 => intro f g ns h; simp only [mf_par] at h; simp only [can]; rw [ih f g ns (fun z hz => h z (.inl hz)), ih2 f g _ (fun z hz => h z (.inr hz))]
theorem sw_upd (sc : UInt8 → UInt8) (a o m : UInt8) : sc (sw a o m) = upd sc o (sc m) a := by unfold sw upd; split <;> rfl

theorem can_R (n : Nat) : ∀ (t : Tm) (o m : UInt8) (sc : UInt8 → UInt8) (ns : List UInt8), t.size ≤ n → Roomy t o m → (m ∉ t.free ∨ o = m) → can (R t o m) sc ns = can t (upd sc o (sc m)) ns := by
  induction n with
  | zero => intro t o m _ _ h; have := size_pos t; omega
  | succ n ih =>
    intro t o m sc ns hn hr hm
    by_cases h : o = m ∨ o ∉ t.free
    · rw [R_same _ _ _ h]
      refine can_congr _ _ _ _ fun z hz => ?_
      unfold upd; split
      · rename_i e; subst e
        rcases h with h | h
        · rw [h]
        · exact absurd hz h
      · rfl
    · have hne : o ≠ m := fun e => h (.inl e)
      have hof : o ∈ t.free := by grind
      have hmf : m ∉ t.free := by grind
      have hb : ∀ (p : Tm) (x n0 : UInt8) (ns : List UInt8), p.size ≤ n → p.bdp + 1 ≤ t.bdp → (∀ z, z ∈ p.free → z = x ∨ z ∈ t.free) → can (RB p x o m) (upd sc (capX p x o m) n0) ns = can p (upd (upd sc o (sc m)) x n0) ns := by
        intro p x n0 ns hp hbl hs
        unfold RB
        by_cases hc : x = m ∧ o ∈ p.free
        · obtain ⟨y1, y2, y3⟩ := cap_new hr hbl hs hc
          rw [if_neg y2, if_pos hc]
          have r1 : Roomy p x (capX p x o m) := roomy_of (capX p x o m) hr hbl (fun z hz => by have := hs z; grind)
          have f1 := R_free n p x (capX p x o m) hp r1 (fun e => y3 (e.symm.trans hc.1))
          have r2 : Roomy (R p x (capX p x o m)) o m := roomy_of (capX p x o m) hr (by rw [R_bdp _ _ _ _ (Nat.le_refl _)]; exact hbl) (fun z hz => by have := hs z; have := f1 z; grind)
          rw [ih _ o m _ _ (by rw [R_size]; exact hp) r2 (.inl (by have := f1 m; grind)), ih p x _ _ _ hp r1 (.inl y1)]
          refine can_congr _ _ _ _ fun z hz => ?_
          unfold upd
          grind
        · have hx : capX p x o m = x := by unfold capX; rw [if_neg hc]
          rw [hx, if_neg hc]
          by_cases ho : x = o
          · rw [if_pos ho]
            refine can_congr _ _ _ _ fun z hz => ?_
            unfold upd; grind
          · rw [if_neg ho]
            have r1 : Roomy p o m := roomy_of x hr hbl (fun z hz => by have := hs z; grind)
            by_cases hxm : x = m
            · rw [R_same _ _ _ (.inr (fun e => hc ⟨hxm, e⟩))]
              refine can_congr _ _ _ _ fun z hz => ?_
              unfold upd; grind
            · rw [ih p o m _ _ hp r1 (.inl (fun e => by have := hs m e; grind))]
              refine can_congr _ _ _ _ fun z hz => ?_
              unfold upd; grind
      cases t with
      | nil => simp [Tm.free] at hof
      | snd a b p =>
        simp only [Tm.size] at hn; rw [mf_snd] at hmf
        have f := ih p o m sc ns (by omega) (roomy_sub hr (Nat.le_refl _) (fun z hz => by rw [mf_snd]; grind)) (.inl (by grind))
        rw [R_snd h]; simp only [can]; rw [f, sw_upd sc a, sw_upd sc b]
      | mat a b p =>
        simp only [Tm.size] at hn; rw [mf_mat] at hmf
        have f := ih p o m sc ns (by omega) (roomy_sub hr (Nat.le_refl _) (fun z hz => by rw [mf_mat]; grind)) (.inl (by grind))
        rw [R_mat h]; simp only [can]; rw [f, sw_upd sc a, sw_upd sc b]
      | rcv a x p =>
        simp only [Tm.size] at hn
        have f := hb p x (ns.headD 0) ns.tail (by omega) (by simp only [Tm.bdp]; try omega) (fun z hz => by rw [mf_rcv]; grind)
        rw [R_rcv h]; simp only [can]; rw [f, sw_upd sc a]
      | own x p =>
        simp only [Tm.size] at hn
        have f := hb p x (ns.headD 0) ns.tail (by omega) (by simp only [Tm.bdp]; try omega) (fun z hz => by rw [mf_own]; grind)
        rw [R_own h]; simp only [can]; rw [f]
      | tau p =>
        simp only [Tm.size] at hn; rw [mf_tau] at hmf
        have f := ih p o m sc ns (by omega) (roomy_sub hr (Nat.le_refl _) (fun z hz => by rw [mf_tau]; grind)) (.inl hmf)
        rw [R_tau h]; simp only [can]; rw [f]
      | rep p =>
        simp only [Tm.size] at hn; rw [mf_rep] at hmf
        have f := ih p o m sc ns (by omega) (roomy_sub hr (Nat.le_refl _) (fun z hz => by rw [mf_rep]; grind)) (.inl hmf)
        rw [R_rep h]; simp only [can]; rw [f]
      | sum p q =>
        simp only [Tm.size] at hn; rw [mf_sum] at hmf
        have f := ih p o m sc ns (by omega) (roomy_sub hr (by simp only [Tm.bdp]; try omega) (fun z hz => by rw [mf_sum]; grind)) (.inl (by grind))
        have g := ih q o m sc (ns.drop p.bnd.length) (by omega) (roomy_sub hr (by simp only [Tm.bdp]; try omega) (fun z hz => by rw [mf_sum]; grind)) (.inl (by grind))
        rw [R_sum h]; simp only [can]; rw [f, R_bnd _ p _ _ (Nat.le_refl _), g]
      | par p q =>
        simp only [Tm.size] at hn; rw [mf_par] at hmf
        have f := ih p o m sc ns (by omega) (roomy_sub hr (by simp only [Tm.bdp]; try omega) (fun z hz => by rw [mf_par]; grind)) (.inl (by grind))
        have g := ih q o m sc (ns.drop p.bnd.length) (by omega) (roomy_sub hr (by simp only [Tm.bdp]; try omega) (fun z hz => by rw [mf_par]; grind)) (.inl (by grind))
        rw [R_par h]; simp only [can]; rw [f, R_bnd _ p _ _ (Nat.le_refl _), g]

/-- The letters that are not in a list, in order. -/
def othL (l : List UInt8) : List UInt8 := ((List.range 26).map fun i => UInt8.ofNat (97 + i)).filter fun c => decide (c ∉ l)
def lowL : List UInt8 := (List.range 26).map fun i => UInt8.ofNat (97 + i)
theorem lowL_srt : Srt lowL := by unfold Srt lowL; decide +kernel
theorem othL_srt (l : List UInt8) : Srt (othL l) := List.Pairwise.filter _ lowL_srt
theorem mem_low (c : UInt8) : c ∈ lowL ↔ 97 ≤ c.toNat ∧ c.toNat ≤ 122 := by
  unfold lowL
  rw [List.mem_map]
  constructor
  · rintro ⟨i, hi, rfl⟩
    rw [List.mem_range] at hi
    rw [UInt8.toNat_ofNat']; omega
  · intro h
    exact ⟨c.toNat - 97, List.mem_range.2 (by omega), u8_ext (by rw [UInt8.toNat_ofNat']; omega)⟩
theorem mem_oth (l : List UInt8) (c : UInt8) : c ∈ othL l ↔ (97 ≤ c.toNat ∧ c.toNat ≤ 122) ∧ c ∉ l := by
  rw [← mem_low]; unfold othL lowL; rw [List.mem_filter]; simp
theorem fresh_oth (l : List UInt8) : (∃ c r, othL l = c :: r ∧ fresh l = c ∧ c.toNat ≤ 122) ∨ (othL l = [] ∧ 122 < (fresh l).toNat) := by
  rcases fresh_cases l with ⟨k, h1, h2, h3, h4⟩ | ⟨h0, h⟩
  · left
    have hs := othL_srt l
    have hmem : UInt8.ofNat (97 + k) ∈ othL l := (mem_oth _ _).2 ⟨by rw [UInt8.toNat_ofNat']; omega, h3⟩
    cases ho : othL l with
    | nil => rw [ho] at hmem; cases hmem
    | cons c r =>
      have hc : c = UInt8.ofNat (97 + k) := by
        rw [ho] at hs hmem
        rcases List.mem_cons.1 hmem with h | h
        · exact h.symm
        · have h5 := (List.pairwise_cons.1 hs).1 _ h
          have h6 := (mem_oth l c).1 (by rw [ho]; simp)
          rw [u8_lt, UInt8.toNat_ofNat'] at h5
          exact absurd (by have := h2 (c.toNat - 97) (by omega); rw [show UInt8.ofNat (97 + (c.toNat - 97)) = c from u8_ext (by rw [UInt8.toNat_ofNat']; omega)] at this; exact this) h6.2
      exact ⟨c, r, rfl, by rw [h4, hc], by rw [hc, UInt8.toNat_ofNat']; omega⟩
  · right
    refine ⟨?_, ?_⟩
    · cases ho : othL l with
      | nil => rfl
      | cons c r =>
        have h6 := (mem_oth l c).1 (by rw [ho]; simp)
        exact absurd (by have := h0 (c.toNat - 97) (by omega); rw [show UInt8.ofNat (97 + (c.toNat - 97)) = c from u8_ext (by rw [UInt8.toNat_ofNat']; omega)] at this; exact this) h6.2
    · rcases h with ⟨k, h1, _, _, h4⟩ | ⟨_, h4⟩
      · rw [h4, UInt8.toNat_ofNat']; omega
      · rw [h4]; decide
theorem oth_add {l : List UInt8} {c : UInt8} {r : List UInt8} (h : othL l = c :: r) : othL (addL l c) = r := by
  have hs := othL_srt l
  rw [h] at hs
  refine srt_ext (othL_srt _) (List.pairwise_cons.1 hs).2 fun x => ?_
  rw [mem_oth, mem_addL]
  have h1 := mem_oth l x
  rw [h, List.mem_cons] at h1
  have h2 : x ∈ r → x ≠ c := fun hx e => by have := (List.pairwise_cons.1 hs).1 x hx; rw [e, u8_lt] at this; omega
  grind
theorem oth_take (k : Nat) : ∀ (l : List UInt8), k ≤ (othL l).length → othL (bothL l ((othL l).take k)) = (othL l).drop k := by
  induction k with
  | zero => intro l _; simp [bothL]
  | succ k ih =>
    intro l h
    cases ho : othL l with
    | nil => rw [ho] at h; simp at h
    | cons c r =>
      rw [ho] at h
      simp only [List.length_cons] at h
      have := ih (addL l c) (by rw [oth_add ho]; omega)
      rw [oth_add ho] at this
      exact this
theorem both_take (l : List UInt8) (A : List UInt8) (j k : Nat) : bothL (bothL l (A.take j)) ((A.drop j).take k) = bothL l (A.take (j + k)) := by
  unfold bothL; rw [← List.foldl_append, List.take_add]

/-- Step by step, in n steps at most; which names are taken behind it. -/
def canS : Nat → Tm → List UInt8 → Tm × List UInt8
  | 0, t, l => (t, l)
  | n + 1, t, l => match t with
    | .nil => (.nil, l)
    | .snd a b p => (.snd a b (canS n p l).1, (canS n p l).2)
    | .rcv a x p => if 122 < (fresh l).toNat then (.rcv a x p, [0]) else (.rcv a (fresh l) (canS n (R p x (fresh l)) (addL l (fresh l))).1, (canS n (R p x (fresh l)) (addL l (fresh l))).2)
    | .tau p => (.tau (canS n p l).1, (canS n p l).2)
    | .sum p q => (.sum (canS n p l).1 (canS n q (canS n p l).2).1, (canS n q (canS n p l).2).2)
    | .par p q => (.par (canS n p l).1 (canS n q (canS n p l).2).1, (canS n q (canS n p l).2).2)
    | .own x p => if 122 < (fresh l).toNat then (.own x p, [0]) else (.own (fresh l) (canS n (R p x (fresh l)) (addL l (fresh l))).1, (canS n (R p x (fresh l)) (addL l (fresh l))).2)
    | .mat a b p => (.mat a b (canS n p l).1, (canS n p l).2)
    | .rep p => (.rep (canS n p l).1, (canS n p l).2)
theorem canS_zero (n : Nat) : ∀ (t : Tm) (l : List UInt8), 0 ∈ l → 0 ∈ (canS n t l).2 := by
  induction n with
  | zero => intro t l h; exact h
  | succ n ih =>
    intro t l h
    cases t <;> simp only [canS]
    case nil => exact h
    case sum p q => exact ih _ _ (ih _ _ h)
    case par p q => exact ih _ _ (ih _ _ h)
    case rcv a x p => split; simp; exact ih _ _ ((mem_addL _ _ _).2 (.inl h))
    case own x p => split; simp; exact ih _ _ ((mem_addL _ _ _).2 (.inl h))
    all_goals exact ih _ _ h
/-- What is asked of a process and of the names that are taken. -/
structure Tk (t : Tm) (l : List UInt8) : Prop where
  srt : Srt l
  sub : ∀ z, z ∈ t.free → z ∈ l
  room : l.length + t.bnd.length ≤ 87
theorem tk_binder {t p : Tm} {x c : UInt8} {r l : List UInt8} (h : Tk t l) (ho : othL l = c :: r) (hb : p.bnd.length + 1 = t.bnd.length) (hs : ∀ z, z ∈ p.free → z = x ∨ z ∈ t.free) :
    Tk (R p x c) (addL l c) ∧ Roomy p x c ∧ (c ∉ p.free ∨ x = c) := by
  have hc : c ∉ l := ((mem_oth l c).1 (by rw [ho]; simp)).2
  have hr : Roomy p x c := by
    unfold Roomy
    have h1 := srt_sub (l := bothL p.free [x, c]) (m := bothL l [x, c]) (srt_bothL _ (srt_free p)) (srt_bothL _ h.srt) (fun z hz => by
      rw [mem_two] at hz ⊢
      have := hs z; have := h.sub z; grind)
    have h2 := addL_len c (addL l x)
    have h3 := addL_len x l
    have h4 : bothL l [x, c] = addL (addL l x) c := rfl
    have h5 := h.room
    have h6 := bdp_bnd p
    rw [h4] at h1
    omega
  refine ⟨⟨srt_addL h.srt c, fun z hz => ?_, ?_⟩, hr, ?_⟩
  · rw [mem_addL]
    by_cases e : x = c
    · rw [R_same _ _ _ (.inl e)] at hz
      have := hs z; have := h.sub z; grind
    · have := R_free _ p x c (Nat.le_refl _) hr e z
      have := hs z; have := h.sub z; grind
  · rw [R_bnd _ p _ _ (Nat.le_refl _)]
    have := addL_len c l
    have := h.room
    omega
  · by_cases e : x = c
    · exact .inr e
    · exact .inl (fun hz => by have := hs c hz; have := h.sub c; grind)
theorem len_both_take (l A : List UInt8) : (bothL l A).length ≤ l.length + A.length := by
  induction A generalizing l with
  | nil => simp [bothL]
  | cons c A ih =>
    have h1 := ih (addL l c)
    have h2 := addL_len c l
    show (bothL (addL l c) A).length ≤ _
    simp only [List.length_cons]; omega
theorem tk_second {p q t : Tm} {l : List UInt8} (h : Tk t l) (hq : ∀ z, z ∈ q.free → z ∈ t.free) (hb : p.bnd.length + q.bnd.length = t.bnd.length) : Tk q (bothL l ((othL l).take p.bnd.length)) := by
  refine ⟨srt_bothL _ h.srt, fun z hz => ?_, ?_⟩
  · rw [mem_bothL]; exact .inl (h.sub z (hq z hz))
  · have := len_both_take l ((othL l).take p.bnd.length)
    have h2 : ((othL l).take p.bnd.length).length ≤ p.bnd.length := by rw [List.length_take]; omega
    have := h.room
    omega

theorem canS_ok (n : Nat) : ∀ (t : Tm) (l : List UInt8), t.size ≤ n → Tk t l → t.bnd.length ≤ (othL l).length → canS n t l = (can t id (othL l), bothL l ((othL l).take t.bnd.length)) := by
  induction n with
  | zero => intro t l h; have := size_pos t; omega
  | succ n ih =>
    intro t l hn hk hl
    cases t with
    | nil => simp [canS, can, Tm.bnd, bothL]
    | snd a b p =>
      simp only [Tm.size] at hn
      have f := ih p l (by omega) ⟨hk.srt, fun z hz => hk.sub z (by rw [mf_snd]; simp [hz]), hk.room⟩ hl
      simp only [canS, f, can, Tm.bnd, id]
    | mat a b p =>
      simp only [Tm.size] at hn
      have f := ih p l (by omega) ⟨hk.srt, fun z hz => hk.sub z (by rw [mf_mat]; simp [hz]), hk.room⟩ hl
      simp only [canS, f, can, Tm.bnd, id]
    | tau p =>
      simp only [Tm.size] at hn
      have f := ih p l (by omega) ⟨hk.srt, fun z hz => hk.sub z (by rw [mf_tau]; simp [hz]), hk.room⟩ hl
      simp only [canS, f, can, Tm.bnd]
    | rep p =>
      simp only [Tm.size] at hn
      have f := ih p l (by omega) ⟨hk.srt, fun z hz => hk.sub z (by rw [mf_rep]; simp [hz]), hk.room⟩ hl
      simp only [canS, f, can, Tm.bnd]
    | rcv a x p =>
      simp only [Tm.size] at hn
      simp only [Tm.bnd, List.length_cons] at hl
      rcases fresh_oth l with ⟨c, r, h1, h2, h3⟩ | ⟨h1, h2⟩
      · obtain ⟨k1, k2, k3⟩ := tk_binder (x := x) (p := p) hk h1 (by simp [Tm.bnd]) (fun z hz => by rw [mf_rcv]; grind)
        have f := ih (R p x c) (addL l c) (by rw [R_size]; omega) k1 (by rw [oth_add h1, R_bnd _ p _ _ (Nat.le_refl _)]; rw [h1] at hl; simp only [List.length_cons] at hl; omega)
        simp only [canS, h2]
        rw [if_neg (by omega), f, oth_add h1, R_bnd _ p _ _ (Nat.le_refl _), h1, can_R _ p x c id r (Nat.le_refl _) k2 k3]
        rfl
      · rw [h1] at hl; simp at hl
    | own x p =>
      simp only [Tm.size] at hn
      simp only [Tm.bnd, List.length_cons] at hl
      rcases fresh_oth l with ⟨c, r, h1, h2, h3⟩ | ⟨h1, h2⟩
      · obtain ⟨k1, k2, k3⟩ := tk_binder (x := x) (p := p) hk h1 (by simp [Tm.bnd]) (fun z hz => by rw [mf_own]; grind)
        have f := ih (R p x c) (addL l c) (by rw [R_size]; omega) k1 (by rw [oth_add h1, R_bnd _ p _ _ (Nat.le_refl _)]; rw [h1] at hl; simp only [List.length_cons] at hl; omega)
        simp only [canS, h2]
        rw [if_neg (by omega), f, oth_add h1, R_bnd _ p _ _ (Nat.le_refl _), h1, can_R _ p x c id r (Nat.le_refl _) k2 k3]
        rfl
      · rw [h1] at hl; simp at hl
    | sum p q =>
      simp only [Tm.size] at hn
      simp only [Tm.bnd, List.length_append] at hl
      have f := ih p l (by omega) ⟨hk.srt, fun z hz => hk.sub z (by rw [mf_sum]; simp [hz]), by have := hk.room; simp only [Tm.bnd, List.length_append] at this; omega⟩ (by omega)
      have k2 := tk_second (p := p) (q := q) hk (fun z hz => by rw [mf_sum]; simp [hz]) (by simp [Tm.bnd])
      have g := ih q _ (by omega) k2 (by rw [oth_take _ _ (by omega), List.length_drop]; omega)
      simp only [canS, f, g, can, Tm.bnd, List.length_append]
      rw [oth_take _ _ (by omega), both_take]
    | par p q =>
      simp only [Tm.size] at hn
      simp only [Tm.bnd, List.length_append] at hl
      have f := ih p l (by omega) ⟨hk.srt, fun z hz => hk.sub z (by rw [mf_par]; simp [hz]), by have := hk.room; simp only [Tm.bnd, List.length_append] at this; omega⟩ (by omega)
      have k2 := tk_second (p := p) (q := q) hk (fun z hz => by rw [mf_par]; simp [hz]) (by simp [Tm.bnd])
      have g := ih q _ (by omega) k2 (by rw [oth_take _ _ (by omega), List.length_drop]; omega)
      simp only [canS, f, g, can, Tm.bnd, List.length_append]
      rw [oth_take _ _ (by omega), both_take]

theorem canS_no (n : Nat) : ∀ (t : Tm) (l : List UInt8), t.size ≤ n → Tk t l → (othL l).length < t.bnd.length → 0 ∈ (canS n t l).2 := by
  induction n with
  | zero => intro t l h; have := size_pos t; omega
  | succ n ih =>
    intro t l hn hk hl
    cases t with
    | nil => simp [Tm.bnd] at hl
    | snd a b p =>
      simp only [Tm.size] at hn
      exact ih p l (by omega) ⟨hk.srt, fun z hz => hk.sub z (by rw [mf_snd]; simp [hz]), hk.room⟩ hl
    | mat a b p =>
      simp only [Tm.size] at hn
      exact ih p l (by omega) ⟨hk.srt, fun z hz => hk.sub z (by rw [mf_mat]; simp [hz]), hk.room⟩ hl
    | tau p =>
      simp only [Tm.size] at hn
      exact ih p l (by omega) ⟨hk.srt, fun z hz => hk.sub z (by rw [mf_tau]; simp [hz]), hk.room⟩ hl
    | rep p =>
      simp only [Tm.size] at hn
      exact ih p l (by omega) ⟨hk.srt, fun z hz => hk.sub z (by rw [mf_rep]; simp [hz]), hk.room⟩ hl
    | rcv a x p =>
      simp only [Tm.size] at hn
      simp only [Tm.bnd, List.length_cons] at hl
      rcases fresh_oth l with ⟨c, r, h1, h2, h3⟩ | ⟨h1, h2⟩
      · obtain ⟨k1, k2, k3⟩ := tk_binder (x := x) (p := p) hk h1 (by simp [Tm.bnd]) (fun z hz => by rw [mf_rcv]; grind)
        have f := ih (R p x c) (addL l c) (by rw [R_size]; omega) k1 (by rw [oth_add h1, R_bnd _ p _ _ (Nat.le_refl _)]; rw [h1] at hl; simp only [List.length_cons] at hl; omega)
        simp only [canS, h2]
        rw [if_neg (by omega)]
        exact f
      · simp only [canS]; rw [if_pos h2]; simp
    | own x p =>
      simp only [Tm.size] at hn
      simp only [Tm.bnd, List.length_cons] at hl
      rcases fresh_oth l with ⟨c, r, h1, h2, h3⟩ | ⟨h1, h2⟩
      · obtain ⟨k1, k2, k3⟩ := tk_binder (x := x) (p := p) hk h1 (by simp [Tm.bnd]) (fun z hz => by rw [mf_own]; grind)
        have f := ih (R p x c) (addL l c) (by rw [R_size]; omega) k1 (by rw [oth_add h1, R_bnd _ p _ _ (Nat.le_refl _)]; rw [h1] at hl; simp only [List.length_cons] at hl; omega)
        simp only [canS, h2]
        rw [if_neg (by omega)]
        exact f
      · simp only [canS]; rw [if_pos h2]; simp
    | sum p q =>
      simp only [Tm.size] at hn
      simp only [Tm.bnd, List.length_append] at hl
      have kp : Tk p l := ⟨hk.srt, fun z hz => hk.sub z (by rw [mf_sum]; simp [hz]), by have := hk.room; simp only [Tm.bnd, List.length_append] at this; omega⟩
      simp only [canS]
      rcases Nat.lt_or_ge (othL l).length p.bnd.length with h | h
      · exact canS_zero _ _ _ (ih p l (by omega) kp h)
      · rw [canS_ok n p l (by omega) kp h]
        exact ih q _ (by omega) (tk_second (p := p) (q := q) hk (fun z hz => by rw [mf_sum]; simp [hz]) (by simp [Tm.bnd])) (by rw [oth_take _ _ h, List.length_drop]; omega)
    | par p q =>
      simp only [Tm.size] at hn
      simp only [Tm.bnd, List.length_append] at hl
      have kp : Tk p l := ⟨hk.srt, fun z hz => hk.sub z (by rw [mf_par]; simp [hz]), by have := hk.room; simp only [Tm.bnd, List.length_append] at this; omega⟩
      simp only [canS]
      rcases Nat.lt_or_ge (othL l).length p.bnd.length with h | h
      · exact canS_zero _ _ _ (ih p l (by omega) kp h)
      · rw [canS_ok n p l (by omega) kp h]
        exact ih q _ (by omega) (tk_second (p := p) (q := q) hk (fun z hz => by rw [mf_par]; simp [hz]) (by simp [Tm.bnd])) (by rw [oth_take _ _ h, List.length_drop]; omega)

end Go.Proofs.YtmfmagfgcdaeeaaGreat.T1

/- Processes alike by names: plain lemmas. -/
namespace Go.Proofs.YtmfmagfgcdaeeaaGreat.T1
set_option linter.unusedVariables false

theorem can_len (t : Tm) : ∀ (sc : UInt8 → UInt8) (ns : List UInt8), (can t sc ns).pr.length = t.pr.length ∧ (can t sc ns).size = t.size ∧ (can t sc ns).bnd.length = t.bnd.length := by
  induction t with
  | nil => intro sc ns; exact ⟨rfl, rfl, rfl⟩
  | rcv a x p ih => intro sc ns; have := ih (upd sc x (ns.headD 0)) ns.tail; simp only [can, Tm.pr, Tm.size, Tm.bnd, List.length_cons, this, and_self]
  | own x p ih => intro sc ns; have := ih (upd sc x (ns.headD 0)) ns.tail; simp only [can, Tm.pr, Tm.size, Tm.bnd, List.length_cons, this, and_self]
  | sum p q ih ih2 => intro sc ns; have h1 := ih sc ns; have h2 := ih2 sc (ns.drop p.bnd.length); simp [can, Tm.pr, Tm.size, Tm.bnd, h1, h2]
  | par p q ih ih2 => intro sc ns; have h1 := ih sc ns; have h2 := ih2 sc (ns.drop p.bnd.length); simp [can, Tm.pr, Tm.size, Tm.bnd, h1, h2]
  | snd a b p ih => intro sc ns; have h1 := ih sc ns; simp [can, Tm.pr, Tm.size, Tm.bnd, h1]
  | mat a b p ih => intro sc ns; have h1 := ih sc ns; simp [can, Tm.pr, Tm.size, Tm.bnd, h1]
  | tau p ih => intro sc ns; have h1 := ih sc ns; simp [can, Tm.pr, Tm.size, Tm.bnd, h1]
  | rep p ih => intro sc ns; have h1 := ih sc ns; simp [can, Tm.pr, Tm.size, Tm.bnd, h1]
theorem can_ok {nm : UInt8 → Bool} (t : Tm) : ∀ (sc : UInt8 → UInt8) (ns : List UInt8), (∀ z ∈ t.free, nm (sc z) = true) → (∀ z ∈ ns, nm z = true) → t.bnd.length ≤ ns.length → (can t sc ns).ok nm = true := by
  induction t with
  | nil => intro sc ns _ _ _; rfl
  | snd a b p ih =>
    intro sc ns h1 h2 h3
    simp only [mf_snd] at h1
    simp only [can, Tm.ok, Bool.and_eq_true]
    exact ⟨⟨h1 a (by simp), h1 b (by simp)⟩, ih sc ns (fun z hz => h1 z (by simp [hz])) h2 h3⟩
  | mat a b p ih =>
    intro sc ns h1 h2 h3
    simp only [mf_mat] at h1
    simp only [can, Tm.ok, Bool.and_eq_true]
    exact ⟨⟨h1 a (by simp), h1 b (by simp)⟩, ih sc ns (fun z hz => h1 z (by simp [hz])) h2 h3⟩
  | tau p ih => intro sc ns h1 h2 h3; simp only [mf_tau] at h1; exact ih sc ns h1 h2 h3
  | rep p ih => intro sc ns h1 h2 h3; simp only [mf_rep] at h1; exact ih sc ns h1 h2 h3
  | rcv a x p ih =>
    intro sc ns h1 h2 h3
    simp only [mf_rcv] at h1
    simp only [Tm.bnd, List.length_cons] at h3
    cases ns with
    | nil => simp at h3
    | cons n0 ns =>
      simp only [can, Tm.ok, Bool.and_eq_true, List.headD_cons, List.tail_cons]
      refine ⟨⟨h1 a (by simp), h2 n0 (by simp)⟩, ih _ ns (fun z hz => ?_) (fun z hz => h2 z (by simp [hz])) (by simpa using h3)⟩
      unfold upd; split
      · exact h2 n0 (by simp)
      · exact h1 z (.inr ⟨hz, by assumption⟩)
  | own x p ih =>
    intro sc ns h1 h2 h3
    simp only [mf_own] at h1
    simp only [Tm.bnd, List.length_cons] at h3
    cases ns with
    | nil => simp at h3
    | cons n0 ns =>
      simp only [can, Tm.ok, Bool.and_eq_true, List.headD_cons, List.tail_cons]
      refine ⟨h2 n0 (by simp), ih _ ns (fun z hz => ?_) (fun z hz => h2 z (by simp [hz])) (by simpa using h3)⟩
      unfold upd; split
      · exact h2 n0 (by simp)
      · exact h1 z ⟨hz, by assumption⟩
  | sum p q ih ih2 =>
    intro sc ns h1 h2 h3
    simp only [mf_sum] at h1
    simp only [Tm.bnd, List.length_append] at h3
    simp only [can, Tm.ok, Bool.and_eq_true]
    exact ⟨ih sc ns (fun z hz => h1 z (.inl hz)) h2 (by omega), ih2 sc _ (fun z hz => h1 z (.inr hz)) (fun z hz => h2 z (List.mem_of_mem_drop hz)) (by rw [List.length_drop]; omega)⟩
  | par p q ih ih2 =>
    intro sc ns h1 h2 h3
    simp only [mf_par] at h1
    simp only [Tm.bnd, List.length_append] at h3
    simp only [can, Tm.ok, Bool.and_eq_true]
    exact ⟨ih sc ns (fun z hz => h1 z (.inl hz)) h2 (by omega), ih2 sc _ (fun z hz => h1 z (.inr hz)) (fun z hz => h2 z (List.mem_of_mem_drop hz)) (by rw [List.length_drop]; omega)⟩

/-- Bytes from the letters on, as many as there can be signs behind them. -/
def nmB (c : UInt8) : Bool := decide (97 ≤ c.toNat) && decide (c.toNat ≤ 182)
theorem nmB_not {c : UInt8} (h : nmB c = true) : c ≠ 48 ∧ c ≠ 42 ∧ c ≠ 35 ∧ c ≠ 91 ∧ c ≠ 40 := by
  simp [nmB] at h
  refine ⟨?_, ?_, ?_, ?_, ?_⟩ <;> rintro rfl <;> simp at h
theorem pr_injB : ∀ (t t' : Tm) (r r' : List UInt8), t.ok nmB = true → t'.ok nmB = true → t.pr ++ r = t'.pr ++ r' → t = t' ∧ r = r' := by
  have hq : ∀ c, nmB c = true → c ≠ 48 ∧ c ≠ 42 ∧ c ≠ 35 ∧ c ≠ 91 ∧ c ≠ 40 := fun c h => nmB_not h
  intro t
  induction t with
  | nil =>
    intro t' r r' h h' e
    cases t' <;> simp [Tm.pr, Tm.ok] at h' e
    · exact ⟨rfl, e⟩
    · have := hq _ h'.1.1; simp_all
    · have := hq _ h'.1.1; simp_all
  | snd a b p ih =>
    intro t' r r' h h' e
    simp only [Tm.ok, Bool.and_eq_true] at h
    have ha := hq a h.1.1
    cases t' <;> simp [Tm.pr, Tm.ok] at h' e
    case snd =>
      obtain ⟨rfl, rfl, e⟩ := e
      obtain ⟨rfl, rfl⟩ := ih _ _ _ h.2 h'.2 e
      exact ⟨rfl, rfl⟩
    all_goals simp_all
  | rcv a b p ih =>
    intro t' r r' h h' e
    simp only [Tm.ok, Bool.and_eq_true] at h
    have ha := hq a h.1.1
    cases t' <;> simp [Tm.pr, Tm.ok] at h' e
    case rcv =>
      obtain ⟨rfl, rfl, e⟩ := e
      obtain ⟨rfl, rfl⟩ := ih _ _ _ h.2 h'.2 e
      exact ⟨rfl, rfl⟩
    all_goals simp_all
  | tau p ih =>
    intro t' r r' h h' e
    simp only [Tm.ok] at h
    cases t' <;> simp [Tm.pr, Tm.ok] at h' e
    case tau =>
      obtain ⟨rfl, rfl⟩ := ih _ _ _ h h' e
      exact ⟨rfl, rfl⟩
  | sum p q ihp ihq =>
    intro t' r r' h h' e
    simp only [Tm.ok, Bool.and_eq_true] at h
    cases t' <;> simp [Tm.pr, Tm.ok] at h' e
    case sum =>
      obtain ⟨rfl, e⟩ := ihp _ _ _ h.1 h'.1 e
      simp at e
      obtain ⟨rfl, e⟩ := ihq _ _ _ h.2 h'.2 e
      simp at e
      exact ⟨rfl, e⟩
    case par =>
      obtain ⟨rfl, e⟩ := ihp _ _ _ h.1 h'.1 e
      simp at e
    all_goals (have := hq _ h'.1.1; simp_all)
  | par p q ihp ihq =>
    intro t' r r' h h' e
    simp only [Tm.ok, Bool.and_eq_true] at h
    cases t' <;> simp [Tm.pr, Tm.ok] at h' e
    case par =>
      obtain ⟨rfl, e⟩ := ihp _ _ _ h.1 h'.1 e
      simp at e
      obtain ⟨rfl, e⟩ := ihq _ _ _ h.2 h'.2 e
      simp at e
      exact ⟨rfl, e⟩
    case sum =>
      obtain ⟨rfl, e⟩ := ihp _ _ _ h.1 h'.1 e
      simp at e
    all_goals (have := hq _ h'.1.1; simp_all)
  | own x p ih =>
    intro t' r r' h h' e
    simp only [Tm.ok, Bool.and_eq_true] at h
    cases t' <;> simp [Tm.pr, Tm.ok] at h' e
    case own =>
      obtain ⟨rfl, e⟩ := e
      obtain ⟨rfl, rfl⟩ := ih _ _ _ h.2 h'.2 e
      exact ⟨rfl, rfl⟩
    all_goals (have := hq _ h'.1.1; simp_all)
  | mat a b p ih =>
    intro t' r r' h h' e
    simp only [Tm.ok, Bool.and_eq_true] at h
    cases t' <;> simp [Tm.pr, Tm.ok] at h' e
    case mat =>
      obtain ⟨rfl, rfl, e⟩ := e
      obtain ⟨rfl, rfl⟩ := ih _ _ _ h.2 h'.2 e
      exact ⟨rfl, rfl⟩
    all_goals (have := hq _ h'.1.1; simp_all)
  | rep p ih =>
    intro t' r r' h h' e
    simp only [Tm.ok] at h
    cases t' <;> simp [Tm.pr, Tm.ok] at h' e
    case rep =>
      obtain ⟨rfl, rfl⟩ := ih _ _ _ h h' e
      exact ⟨rfl, rfl⟩
    all_goals (have := hq _ h'.1.1; simp_all)

/-- Bound by the same sign, or free and the same. -/
def sameP : UInt8 → UInt8 → List UInt8 → List UInt8 → Bool
  | a, b, x :: l, y :: r => if x = a ∨ y = b then decide (x = a) && decide (y = b) else sameP a b l r
  | a, b, _, _ => decide (a = b)
/-- Alike by names, with the names that signs around them bind. -/
def alp : Tm → Tm → List UInt8 → List UInt8 → Bool
  | .nil, .nil, _, _ => true
  | .snd a b p, .snd c d q, l, r => sameP a c l r && sameP b d l r && alp p q l r
  | .rcv a x p, .rcv c y q, l, r => sameP a c l r && alp p q (x :: l) (y :: r)
  | .tau p, .tau q, l, r => alp p q l r
  | .sum p p2, .sum q q2, l, r => alp p q l r && alp p2 q2 l r
  | .par p p2, .par q q2, l, r => alp p q l r && alp p2 q2 l r
  | .own x p, .own y q, l, r => alp p q (x :: l) (y :: r)
  | .mat a b p, .mat c d q, l, r => sameP a c l r && sameP b d l r && alp p q l r
  | .rep p, .rep q, l, r => alp p q l r
  | _, _, _, _ => false
/-- The mark that stands for a name. -/
def lk : List UInt8 → List UInt8 → UInt8 → UInt8
  | x :: l, m :: ms, z => if z = x then m else lk l ms z
  | _, _, z => z
theorem upd_lk (l ms : List UInt8) (x m : UInt8) : upd (lk l ms) x m = lk (x :: l) (m :: ms) := by funext z; rfl
theorem lk_or (l : List UInt8) : ∀ (ms : List UInt8) (z : UInt8), lk l ms z ∈ ms ∨ lk l ms z = z := by
  induction l with
  | nil => intro ms z; exact .inr rfl
  | cons x l ih =>
    intro ms z
    cases ms with
    | nil => exact .inr rfl
    | cons m ms =>
      unfold lk; split
      · exact .inl (by simp)
      · rcases ih ms z with h | h
        · exact .inl (by simp [h])
        · exact .inr h
/-- Marks, each once, none of them a letter. -/
structure Mk (ms ns : List UInt8) : Prop where
  nd : (ms ++ ns).Nodup
  hi : ∀ z ∈ ms ++ ns, 123 ≤ z.toNat
theorem sameP_lk (a b : UInt8) (ha : a.toNat ≤ 122) (hb : b.toNat ≤ 122) (l : List UInt8) : ∀ (r ms ns : List UInt8), l.length = ms.length → r.length = ms.length → Mk ms ns → sameP a b l r = decide (lk l ms a = lk r ms b) := by
  induction l with
  | nil =>
    intro r ms ns h1 h2 hk
    cases ms with
    | nil => cases r with
      | nil => rfl
      | cons y r => simp at h2
    | cons m ms => simp at h1
  | cons x l ih =>
    intro r ms ns h1 h2 hk
    cases ms with
    | nil => simp at h1
    | cons m ms =>
      cases r with
      | nil => simp at h2
      | cons y r =>
        have hk' : Mk ms ns := ⟨(List.nodup_cons.1 hk.nd).2, fun z hz => hk.hi z (List.mem_cons_of_mem _ hz)⟩
        have hm := hk.hi m (by simp)
        have hnm : m ∉ ms := fun h => (List.nodup_cons.1 hk.nd).1 (by simp [h])
        have key : ∀ (l : List UInt8) (z : UInt8), z.toNat ≤ 122 → lk l ms z ≠ m := fun l z hz e => by
          rcases lk_or l ms z with h | h
          · rw [e] at h; exact hnm h
          · rw [h] at e; rw [e] at hz; omega
        have := ih r ms ns (by simpa using h1) (by simpa using h2) hk'
        have k1 := key l a ha
        have k2 := key r b hb
        unfold sameP lk
        by_cases e1 : x = a <;> by_cases e2 : y = b
        · simp [e1, e2]
        · rw [if_pos (.inl e1), if_pos e1.symm, if_neg (fun h => e2 h.symm)]; simp [e2]; exact fun h => k2 h.symm
        · rw [if_pos (.inr e2), if_neg (fun h => e1 h.symm), if_pos e2.symm]; simp [e1]; exact k1
        · rw [if_neg (by simp [e1, e2]), if_neg (fun h => e1 h.symm), if_neg (fun h => e2 h.symm)]; exact this
theorem mk_bind {ms ns : List UInt8} {n0 : UInt8} (h : Mk ms (n0 :: ns)) : Mk (n0 :: ms) ns := by
  refine ⟨?_, fun z hz => h.hi z (by grind)⟩
  have h1 := h.nd
  rw [List.nodup_append] at h1
  show ((n0 :: ms) ++ ns).Nodup
  rw [List.nodup_append]
  have h2 := List.nodup_cons.1 h1.2.1
  refine ⟨List.nodup_cons.2 ⟨fun hm => h1.2.2 _ hm _ (by simp) rfl, h1.1⟩, h2.2, fun a ha b hb e => ?_⟩
  rcases List.mem_cons.1 ha with h3 | h3
  · subst h3; subst e; exact h2.1 hb
  · exact h1.2.2 a h3 b (by simp [hb]) e
theorem mk_drop {ms ns : List UInt8} (h : Mk ms ns) (k : Nat) : Mk ms (ns.drop k) := by
  refine ⟨?_, fun z hz => h.hi z (by
    rcases List.mem_append.1 hz with h1 | h1
    · simp [h1]
    · simp [List.mem_of_mem_drop h1])⟩
  exact List.Nodup.sublist (List.Sublist.append (List.Sublist.refl _) (List.drop_sublist _ _)) h.nd
theorem alp_can (t : Tm) : ∀ (u : Tm) (l r ms ns : List UInt8), t.ok nmL = true → u.ok nmL = true → l.length = ms.length → r.length = ms.length → Mk ms ns → t.bnd.length ≤ ns.length →
    alp t u l r = decide (can t (lk l ms) ns = can u (lk r ms) ns) := by
  have le : ∀ c, nmL c = true → c.toNat ≤ 122 := fun c h => ((nmL_iff c).1 h).2
  induction t with
  | nil => intro u l r ms ns _ _ _ _ _ _; cases u <;> simp [alp, can]
  | snd a b p ih =>
    intro u l r ms ns ho hu hl hr hk hb
    cases u with
    | snd c d q =>
      simp only [Tm.ok, Bool.and_eq_true] at ho hu
      simp only [alp, can]
      rw [sameP_lk a c (le _ ho.1.1) (le _ hu.1.1) l r ms ns hl hr hk, sameP_lk b d (le _ ho.1.2) (le _ hu.1.2) l r ms ns hl hr hk, ih q l r ms ns ho.2 hu.2 hl hr hk hb, Bool.eq_iff_iff]; simp only [Bool.and_eq_true, decide_eq_true_iff, Tm.snd.injEq, and_assoc]
    | _ => simp [alp, can]
  | mat a b p ih =>
    intro u l r ms ns ho hu hl hr hk hb
    cases u with
    | mat c d q =>
      simp only [Tm.ok, Bool.and_eq_true] at ho hu
      simp only [alp, can]
      rw [sameP_lk a c (le _ ho.1.1) (le _ hu.1.1) l r ms ns hl hr hk, sameP_lk b d (le _ ho.1.2) (le _ hu.1.2) l r ms ns hl hr hk, ih q l r ms ns ho.2 hu.2 hl hr hk hb, Bool.eq_iff_iff]; simp only [Bool.and_eq_true, decide_eq_true_iff, Tm.mat.injEq, and_assoc]
    | _ => simp [alp, can]
  | tau p ih =>
    intro u l r ms ns ho hu hl hr hk hb
    cases u with
    | tau q => simp only [Tm.ok] at ho hu; simp only [alp, can, Tm.tau.injEq]; exact ih q l r ms ns ho hu hl hr hk hb
    | _ => simp [alp, can]
  | rep p ih =>
    intro u l r ms ns ho hu hl hr hk hb
    cases u with
    | rep q => simp only [Tm.ok] at ho hu; simp only [alp, can, Tm.rep.injEq]; exact ih q l r ms ns ho hu hl hr hk hb
    | _ => simp [alp, can]
  | rcv a x p ih =>
    intro u l r ms ns ho hu hl hr hk hb
    cases u with
    | rcv c y q =>
      simp only [Tm.ok, Bool.and_eq_true] at ho hu
      simp only [Tm.bnd, List.length_cons] at hb
      cases ns with
      | nil => simp at hb
      | cons n0 ns =>
        simp only [alp, can, List.headD_cons, List.tail_cons, upd_lk]
        rw [sameP_lk a c (le _ ho.1.1) (le _ hu.1.1) l r ms _ hl hr hk, ih q (x :: l) (y :: r) (n0 :: ms) ns ho.2 hu.2 (by simp [hl]) (by simp [hr]) (mk_bind hk) (by simpa using hb), Bool.eq_iff_iff]; simp only [Bool.and_eq_true, decide_eq_true_iff, Tm.rcv.injEq, true_and]
    | _ => simp [alp, can]
  | own x p ih =>
    intro u l r ms ns ho hu hl hr hk hb
    cases u with
    | own y q =>
      simp only [Tm.ok, Bool.and_eq_true] at ho hu
      simp only [Tm.bnd, List.length_cons] at hb
      cases ns with
      | nil => simp at hb
      | cons n0 ns =>
        simp only [alp, can, List.headD_cons, List.tail_cons, upd_lk]
        rw [ih q (x :: l) (y :: r) (n0 :: ms) ns ho.2 hu.2 (by simp [hl]) (by simp [hr]) (mk_bind hk) (by simpa using hb)]
        simp
    | _ => simp [alp, can]
  | sum p p2 ih ih2 =>
    intro u l r ms ns ho hu hl hr hk hb
    cases u with
    | sum q q2 =>
      simp only [Tm.ok, Bool.and_eq_true] at ho hu
      simp only [Tm.bnd, List.length_append] at hb
      simp only [alp, can]
      rw [ih q l r ms ns ho.1 hu.1 hl hr hk (by omega), ih2 q2 l r ms (ns.drop p.bnd.length) ho.2 hu.2 hl hr (mk_drop hk _) (by rw [List.length_drop]; omega), Bool.eq_iff_iff]
      simp only [Bool.and_eq_true, decide_eq_true_iff, Tm.sum.injEq]
      refine and_congr_right fun h => ?_
      have h1 := (can_len p (lk l ms) ns).2.2
      have h2 := (can_len q (lk r ms) ns).2.2
      rw [h] at h1
      rw [show p.bnd.length = q.bnd.length by omega]
    | _ => simp [alp, can]
  | par p p2 ih ih2 =>
    intro u l r ms ns ho hu hl hr hk hb
    cases u with
    | par q q2 =>
      simp only [Tm.ok, Bool.and_eq_true] at ho hu
      simp only [Tm.bnd, List.length_append] at hb
      simp only [alp, can]
      rw [ih q l r ms ns ho.1 hu.1 hl hr hk (by omega), ih2 q2 l r ms (ns.drop p.bnd.length) ho.2 hu.2 hl hr (mk_drop hk _) (by rw [List.length_drop]; omega), Bool.eq_iff_iff]
      simp only [Bool.and_eq_true, decide_eq_true_iff, Tm.par.injEq]
      refine and_congr_right fun h => ?_
      have h1 := (can_len p (lk l ms) ns).2.2
      have h2 := (can_len q (lk r ms) ns).2.2
      rw [h] at h1
      rw [show p.bnd.length = q.bnd.length by omega]
    | _ => simp [alp, can]

/-- The marks behind the letters. -/
def marks : List UInt8 := (List.range 60).map fun i => UInt8.ofNat (123 + i)
theorem marks_mk : Mk [] marks := ⟨by unfold marks; decide +kernel, by unfold marks; decide +kernel⟩
theorem marks_len : marks.length = 60 := by unfold marks; simp
theorem marks_ok : ∀ z ∈ marks, nmB z = true := by unfold marks; decide +kernel
/-- The texts with marks for the names that are bound tell whether two processes are alike by names. -/
theorem alp_iff (t u : Tm) (ht : t.ok nmL = true) (hu : u.ok nmL = true) (h1 : t.bnd.length ≤ 60) (h2 : u.bnd.length ≤ 60) : alp t u [] [] = decide ((can t id marks).pr = (can u id marks).pr) := by
  rw [alp_can t u [] [] [] marks ht hu rfl rfl marks_mk (by rw [marks_len]; exact h1)]
  rw [Bool.eq_iff_iff, decide_eq_true_iff, decide_eq_true_iff]
  have hid : lk [] [] = id := by funext z; rfl
  rw [hid]
  constructor
  · intro h; rw [h]
  · intro h
    have okf : ∀ (t : Tm), t.ok nmL = true → t.bnd.length ≤ 60 → (can t id marks).ok nmB = true := fun t ht h1 =>
      can_ok t id marks (fun z hz => by have := lets_free t ht z hz; simp [nmB]; omega) marks_ok (by rw [marks_len]; exact h1)
    exact (pr_injB _ _ [] [] (okf t ht h1) (okf u hu h2) (by rw [h])).1

end Go.Proofs.YtmfmagfgcdaeeaaGreat.T1

/- Congruence, plain: the threads of a level, gathered behind great letters, and those of a simplified process: one by one the same. -/
namespace Go.Proofs.YtmfmagfgcdaeeaaGreat.T1
set_option linter.unusedVariables false

def great (z : UInt8) : Prop := (65 ≤ z.toNat ∧ z.toNat ≤ 90) ∨ 192 ≤ z.toNat
theorem lessL_len {l : List UInt8} {c : UInt8} (h : c ∈ l) : (lessL l c).length + 1 ≤ l.length := by
  induction l with
  | nil => cases h
  | cons a l ih =>
    unfold lessL
    rw [List.filter_cons]
    by_cases e : a = c
    · subst e
      simp only [bne_self_eq_false, Bool.false_eq_true, if_false, List.length_cons]
      have := List.length_filter_le (fun x : UInt8 => x != a) l
      omega
    · have : c ∈ l := by
        rcases List.mem_cons.1 h with h | h
        · exact absurd h.symm e
        · exact h
      have ih := ih this
      unfold lessL at ih
      have e' : (a != c) = true := by simpa using e
      rw [if_pos e']
      simp only [List.length_cons]; omega
/-- The names at the front of a level of a simplified process, and its threads. -/
def lvl : Tm → List UInt8 × List Tm
  | .nil => ([], [])
  | .own x p => (x :: (lvl p).1, (lvl p).2)
  | .par p q => ((lvl p).1 ++ (lvl q).1, (lvl p).2 ++ (lvl q).2)
  | s => ([], [s])
inductive All2 {α β : Type} (P : α → β → Prop) : List α → List β → Prop where
  | nil : All2 P [] []
  | cons {a b l m} : P a b → All2 P l m → All2 P (a :: l) (b :: m)
theorem All2.append {α β : Type} {P : α → β → Prop} {l l' : List α} {m m' : List β} (h : All2 P l m) (h' : All2 P l' m') : All2 P (l ++ l') (m ++ m') := by
  induction h with
  | nil => exact h'
  | cons a _ ih => exact .cons a ih
theorem All2.mono {α β : Type} {P Q : α → β → Prop} {l : List α} {m : List β} (h : All2 P l m) (hm : ∀ a b, a ∈ l → b ∈ m → P a b → Q a b) : All2 Q l m := by
  induction h with
  | nil => exact .nil
  | cons a _ ih => exact .cons (hm _ _ (by simp) (by simp) a) (ih fun a b ha hb => hm a b (by simp [ha]) (by simp [hb]))
end Go.Proofs.YtmfmagfgcdaeeaaGreat.T1

/- The cursor by which inputs are drawn: what it answers is a small number; nothing that was there turns but the cursor. No conditions. -/
namespace Go.Proofs.YtmfmagfgcdaeeaaGreat.T1
open Go.RowKit
set_option maxRecDepth 100000
set_option linter.unusedVariables false
set_option linter.unusedSimpArgs false

/-- The bytes that came in, in memory below the block c. -/
def CodeIn (w : World) (a : Option Addr) (n c : Nat) : Prop := n ≤ 140737488351232 ∧ (n = 0 ∨ ∃ x, a = some x ∧ x.block < c ∧ ∀ j, j < n → ∃ z : Int, 0 ≤ z ∧ z ≤ 255 ∧ w.cell? (x.add j) = some (.int .u8 z))
/-- Block c is a cursor, which has come at most to place k. -/
def Cur (w : World) (c k : Nat) : Prop := ∃ (a : Option Addr) (n cap i : Nat) (s : Int), w.heap[c]? = some (.cells #[.slice a n cap, .int .i64 (i : Int), .int .u64 s] 63 (0, 0)) ∧ i ≤ k ∧ CodeIn w a n c
theorem Cur.lt {w : World} {c k : Nat} (h : Cur w c k) : c < w.heap.size := by obtain ⟨_, _, _, _, _, h, _⟩ := h; exact lt_of_block h
theorem add_blk (a : Addr) (n : Nat) : (a.add n).block = a.block := by unfold Addr.add; split <;> rfl
theorem CodeIn.keep {w w' : World} {a : Option Addr} {n c b : Nat} (h : CodeIn w a n c) (hc : c < w.heap.size) (hb : c ≤ b) (k : Only b w w') : CodeIn w' a n c := by
  obtain ⟨h1, h | ⟨x, e, hx, h⟩⟩ := h
  · exact ⟨h1, .inl h⟩
  · refine ⟨h1, .inr ⟨x, e, hx, fun j hj => ?_⟩⟩
    obtain ⟨z, z0, z1, hz⟩ := h j hj
    refine ⟨z, z0, z1, ?_⟩
    rw [← hz]
    unfold World.cell?
    rw [add_blk, k.block _ (by omega) (by omega)]
theorem Cur.below {w w' : World} {c k : Nat} (h : Cur w c k) (b : Below w.heap.size w w') : Cur w' c k := by
  obtain ⟨a, n, cap, i, s, h1, h2, h3⟩ := h
  have := lt_of_block h1
  exact ⟨a, n, cap, i, s, (b.block c this).trans h1, h2, h3.keep this (Nat.le_of_lt this) ⟨b.os, b.tape, b.output, b.size, fun k hk _ => b.block k hk⟩⟩
theorem Cur.mono {w : World} {c k k' : Nat} (h : Cur w c k) (hk : k ≤ k') : Cur w c k' := by
  obtain ⟨a, n, cap, i, s, h1, h2, h3⟩ := h
  exact ⟨a, n, cap, i, s, h1, by omega, h3⟩
/-- What a draw answers: a value, the cursor further on, and nothing else turned. -/
def Dr (P : Value → Prop) (c k : Nat) (w : World) (e : Ending) (w' : World) : Prop := ∃ v, e = .returned v ∧ P v ∧ Cur w' c k ∧ Only c w w'
def IsUpTo (n : Nat) (v : Value) : Prop := ∃ r : Nat, r < n ∧ v = .int .i64 (r : Int)

theorem set_at {w : World} {c : Nat} {cs : Array Value} {T : TypeId} {f : Nat × Nat} (hb : w.heap[c]? = some (.cells cs T f)) (o : Nat) (x : Value) : (w.setCell ⟨c, o, none⟩ x).heap[c]? = some (.cells (cs.setIfInBounds o x) T f) := by
  have hlt := lt_of_block hb
  have h' : w.heap[c] = .cells cs T f := by simpa [Array.getElem?_eq_getElem hlt] using hb
  show (w.heap.modify c _)[c]? = _
  rw [Array.getElem?_eq_getElem (by simpa using hlt), Array.getElem_modify_self, h']
  rfl
theorem cur_set {w : World} {c : Nat} {sl : Value} {i s : Int} {T : TypeId} (hb : w.heap[c]? = some (.cells #[sl, .int .i64 i, .int .u64 s] T (0, 0))) (i' s' : Int) : ((w.setCell ⟨c, 1, none⟩ (.int .i64 i')).setCell ⟨c, 2, none⟩ (.int .u64 s')).heap[c]? = some (.cells #[sl, .int .i64 i', .int .u64 s'] T (0, 0)) := by
  rw [set_at (set_at hb 1 _) 2 _]; rfl
theorem only_two {w W : World} {c : Nat} (h : Only c w W) (i' s' : Int) : Only c w ((W.setCell ⟨c, 1, none⟩ (.int .i64 i')).setCell ⟨c, 2, none⟩ (.int .u64 s')) := (h.setCell 1 none _).setCell 2 none _
theorem wrap_u (x : Int) : 0 ≤ IntKind.u64.wrap x ∧ IntKind.u64.wrap x < 18446744073709551616 := by
  rw [IntKind.wrap_u64]; omega
theorem and_255 (E : Int) (h0 : 0 ≤ E) (h1 : E < 18446744073709551616) : ∃ r : Nat, r < 256 ∧ wrap64 (bits .and .u64 (E / 1099511627776) 255) = (r : Int) := by
  obtain ⟨e, rfl⟩ := Int.eq_ofNat_of_zero_le h0
  have h2 : ((e : Int) / 1099511627776) = ((e / 1099511627776 : Nat) : Int) := by omega
  rw [h2]
  have h3 := bits_and_u64_nat (e / 1099511627776) 255 (by omega) (by decide)
  rw [show (255 : Int) = ((255 : Nat) : Int) from rfl, h3]
  have h4 : (e / 1099511627776) &&& 255 ≤ 255 := Nat.and_le_right
  refine ⟨(e / 1099511627776) &&& 255, by omega, ?_⟩
  unfold wrap64; omega

set_option maxHeartbeats 1000000 in
theorem drNext_any (c k : Nat) (hk : k ≤ 1000000) (w : World) (hC : Cur w c k) : Calls Tryz.prog 157 #[.pointer (some ⟨c, 0, none⟩)] w (Dr (IsUpTo 256) c (k + 1) w) := by
  obtain ⟨a, n, cap, i, s, hb, hi, hn, hrow⟩ := hC
  have x0 : w.cell? ⟨c, 0, none⟩ = some (.slice a n cap) := by simp [World.cell?, hb]
  have x1 : w.cell? ⟨c, 1, none⟩ = some (.int .i64 (i : Int)) := by simp [World.cell?, hb]
  have x2 : w.cell? ⟨c, 2, none⟩ = some (.int .u64 s) := by simp [World.cell?, hb]
  have f1 : w.frozen? ⟨c, 1, none⟩ = false := by simp [World.frozen?, hb]
  have f2 : w.frozen? ⟨c, 2, none⟩ = false := by simp [World.frozen?, hb]
  have HB := Lib.hid hb
  have hwi : IntKind.i64.wrap ((i : Int) + 1) = (i : Int) + 1 := by rw [IntKind.wrap_i64] <;> omega
  have HC : Hid (CodeIn w a n c) := Lib.hid ⟨hn, hrow⟩
  by_cases hlt : i < n
  · have h1 : decide ((i : Int) < (n : Int)) = true := by simp; omega
    obtain ⟨x, rfl, hx, hz⟩ := hrow.resolve_left (by omega)
    obtain ⟨z, z0, z1, hz⟩ := hz i hlt
    have hwz : IntKind.i64.wrap z = z := by rw [IntKind.wrap_i64] <;> omega
    have h2 : decide ((i : Int) + 1 ≤ (n : Int)) = true := by simp; omega
    clear hb
    go_enter Tryz.func157, Tryz.ntmps157
    go_wp2_with fail
    go_quiet (fail)
    go_wp2_with fail
    obtain ⟨W, hW, X0, X1, X2, F1, F2, HZ, HB2, HC2, HO⟩ : ∃ W, World.drewN w nq = W ∧ W.cell? ⟨c, 0, none⟩ = some (.slice (some x) n cap) ∧ W.cell? ⟨c, 1, none⟩ = some (.int .i64 (i : Int)) ∧ W.cell? ⟨c, 2, none⟩ = some (.int .u64 s) ∧ W.frozen? ⟨c, 1, none⟩ = false ∧ W.frozen? ⟨c, 2, none⟩ = false ∧ W.cell? (x.add i) = some (.int .u8 z) ∧ Hid (W.heap[c]? = some (.cells #[.slice (some x) n cap, .int .i64 (i : Int), .int .u64 s] 63 (0, 0))) ∧ Hid (CodeIn W (some x) n c) ∧ Only c w W := ⟨_, rfl, x0, x1, x2, f1, f2, hz, HB, HC, (Only.refl c w).drewN _⟩
    rw [hW]
    clear hW x0 x1 x2 f1 f2 hz HB HC
    go_wp2_with fail
    go_quiet (fail)
    go_wp2_with fail
    generalize IntKind.u64.wrap (IntKind.u64.wrap (IntKind.u64.wrap (s * 6364136223846793005) + z) + 1442695040888963407) = E
    obtain ⟨W2, hW2, HC3, Y0, Y1, HB3, HO2⟩ : ∃ W2, ((W.drewN nq).setCell ⟨c, 1, none⟩ (.int .i64 ((i : Int) + 1))).setCell ⟨c, 2, none⟩ (.int .u64 E) = W2 ∧ Hid (CodeIn W2 (some x) n c) ∧ W2.cell? ⟨c, 0, none⟩ = some (.slice (some x) n cap) ∧ W2.cell? ⟨c, 1, none⟩ = some (.int .i64 ((i : Int) + 1)) ∧ Hid (W2.heap[c]? = some (.cells #[.slice (some x) n cap, .int .i64 ((i : Int) + 1), .int .u64 E] 63 (0, 0))) ∧ Only c w W2 := by
      have hh := cur_set (w := W.drewN nq) HB2.out ((i : Int) + 1) E
      exact ⟨_, rfl, HC2.out.keep (lt_of_block HB2.out) (Nat.le_refl _) (only_two ((Only.refl c W).drewN nq) _ _), by simp [World.cell?, hh], by simp [World.cell?, hh], Lib.hid hh, only_two (HO.drewN nq) _ _⟩
    rw [hW2]
    clear hW2 X0 X1 X2 F1 F2 HZ HB2
    go_quiet (fail)
    go_wp2_with fail
    go_ret
    have hO3 := HO2.drewN nq
    exact ⟨.int .i64 z, rfl, ⟨z.toNat, by omega, by rw [Int.toNat_of_nonneg z0]⟩, ⟨some x, n, cap, i + 1, E, HB3.out, by omega, HC3.out⟩, hO3⟩
  · have h1 : decide ((i : Int) < (n : Int)) = false := by simp; omega
    have h2 : decide ((i : Int) + 1 ≤ (n : Int)) = false := by simp; omega
    clear hb
    go_enter Tryz.func157, Tryz.ntmps157
    go_wp2_with fail
    go_quiet (fail)
    obtain ⟨W, hW, X0, X1, X2, F1, F2, HB2, HC2, HO⟩ : ∃ W, World.drewN w nq = W ∧ W.cell? ⟨c, 0, none⟩ = some (.slice a n cap) ∧ W.cell? ⟨c, 1, none⟩ = some (.int .i64 (i : Int)) ∧ W.cell? ⟨c, 2, none⟩ = some (.int .u64 s) ∧ W.frozen? ⟨c, 1, none⟩ = false ∧ W.frozen? ⟨c, 2, none⟩ = false ∧ Hid (W.heap[c]? = some (.cells #[.slice a n cap, .int .i64 (i : Int), .int .u64 s] 63 (0, 0))) ∧ Hid (CodeIn W a n c) ∧ Only c w W := ⟨_, rfl, x0, x1, x2, f1, f2, HB, HC, (Only.refl c w).drewN _⟩
    rw [hW]
    clear hW x0 x1 x2 f1 f2 HB HC
    go_wp2_with fail
    generalize hE : IntKind.u64.wrap (IntKind.u64.wrap (IntKind.u64.wrap (s * 6364136223846793005)) + 1442695040888963407) = E
    have hE0 : 0 ≤ E ∧ E < 18446744073709551616 := hE ▸ wrap_u _
    clear hE
    obtain ⟨W2, hW2, HC3, Y0, Y1, Y2, HB3, HO2⟩ : ∃ W2, (W.setCell ⟨c, 1, none⟩ (.int .i64 ((i : Int) + 1))).setCell ⟨c, 2, none⟩ (.int .u64 E) = W2 ∧ Hid (CodeIn W2 a n c) ∧ W2.cell? ⟨c, 0, none⟩ = some (.slice a n cap) ∧ W2.cell? ⟨c, 1, none⟩ = some (.int .i64 ((i : Int) + 1)) ∧ W2.cell? ⟨c, 2, none⟩ = some (.int .u64 E) ∧ Hid (W2.heap[c]? = some (.cells #[.slice a n cap, .int .i64 ((i : Int) + 1), .int .u64 E] 63 (0, 0))) ∧ Only c w W2 := by
      have hh := cur_set (w := W) HB2.out ((i : Int) + 1) E
      exact ⟨_, rfl, HC2.out.keep (lt_of_block HB2.out) (Nat.le_refl _) (only_two (Only.refl c W) _ _), by simp [World.cell?, hh], by simp [World.cell?, hh], by simp [World.cell?, hh], Lib.hid hh, only_two HO _ _⟩
    rw [hW2]
    clear hW2 X0 X1 X2 F1 F2 HB2
    go_quiet (fail)
    go_wp2_with fail
    obtain ⟨r, hr, hr2⟩ := and_255 E hE0.1 hE0.2
    rw [hr2]
    go_ret
    have hO3 := HO2.drewN nq
    exact ⟨.int .i64 (r : Int), rfl, ⟨r, hr, rfl⟩, ⟨a, n, cap, i + 1, E, HB3.out, by omega, HC3.out⟩, hO3⟩
end Go.Proofs.YtmfmagfgcdaeeaaGreat.T1

/- Processes with few free names at each place: renaming keeps to letters, and renaming back gives an alike one. No conditions. -/
namespace Go.Proofs.YtmfmagfgcdaeeaaGreat.T1

def nm5 (c : UInt8) : Bool := c == 97 || c == 98 || c == 99 || c == 120 || c == 121
def AB (c : UInt8) : Bool := nm5 c || !nmL c
end Go.Proofs.YtmfmagfgcdaeeaaGreat.T1

/- Choices that are drawn: numbers below a bound, elements of lists, names. No conditions. -/
namespace Go.Proofs.YtmfmagfgcdaeeaaGreat.T1
open Go.RowKit
set_option maxRecDepth 100000
set_option linter.unusedVariables false
set_option linter.unusedSimpArgs false

theorem Dr.go {P Q : Value → Prop} {c k k' : Nat} {w w1 w2 : World} {e : Ending} (h : Only c w w1) (d : Dr P c k w1 e w2) (hk : k ≤ k') (hq : ∀ v, P v → Q v) : Dr Q c k' w e w2 := by
  obtain ⟨v, rfl, h1, h2, h3⟩ := d
  exact ⟨v, rfl, hq v h1, h2.mono hk, h.trans h3⟩

set_option maxHeartbeats 1000000 in
theorem pick_any (c k n : Nat) (hk : k ≤ 900000) (hn : n ≤ 1000000) (w : World) (hC : Cur w c k) : Calls Tryz.prog 135 #[.pointer (some ⟨c, 0, none⟩), .int .i64 (n : Int)] w (Dr (IsUpTo (n + 1 - (if 1 ≤ n then 1 else 0))) c (k + 2) w) := by
  have HC := Lib.hid hC
  clear hC
  by_cases h1 : n ≤ 1
  · have h2 : decide ((n : Int) ≤ 1) = true := by simp; omega
    have hn1 : 0 < n + 1 - (if 1 ≤ n then 1 else 0) := by split <;> omega
    generalize n + 1 - (if 1 ≤ n then 1 else 0) = N at hn1 ⊢
    go_enter Tryz.func135, Tryz.ntmps135
    go_wp2_with fail
    go_ret
    exact ⟨.int .i64 0, rfl, ⟨0, hn1, rfl⟩, HC.out.mono (by omega), Only.refl _ _⟩
  · have h2 : decide ((n : Int) ≤ 1) = false := by simp; omega
    have hN : n + 1 - (if 1 ≤ n then 1 else 0) = n := by rw [if_pos (by omega)]; omega
    rw [hN]
    clear hN
    have H := Lib.hid (drNext_any c k (by omega) w HC.out)
    by_cases h3 : 200 < n
    · have h4 : decide (200 < (n : Int)) = true := by simp; omega
      go_enter Tryz.func135, Tryz.ntmps135
      go_wp2_with fail
      refine H.out.mono ?_
      rintro e w1 ⟨v, rfl, ⟨r, hr, rfl⟩, C1, O1⟩
      have H2 := Lib.hid (drNext_any c (k + 1) (by omega) w1 C1)
      have O1' := Lib.hid O1
      have hw1 : IntKind.i64.wrap ((r : Int) * 256) = (r : Int) * 256 := by rw [IntKind.wrap_i64] <;> omega
      clear C1 O1
      go_wp2_with fail
      refine H2.out.mono ?_
      rintro e w2 ⟨v, rfl, ⟨r2, hr2, rfl⟩, C2, O2⟩
      have hw2 : IntKind.i64.wrap ((r : Int) * 256 + (r2 : Int)) = (r : Int) * 256 + (r2 : Int) := by rw [IntKind.wrap_i64] <;> omega
      have hnz : (n : Int) ≠ 0 := by omega
      have C2' := Lib.hid C2
      have O2' := Lib.hid O2
      clear C2 O2
      go_wp2_with fail
      go_ret
      refine ⟨.int .i64 (((r : Int) * 256 + (r2 : Int)) % (n : Int)), rfl, ⟨(r * 256 + r2) % n, Nat.mod_lt _ (by omega), by simp⟩, C2'.out.mono (by omega), O1'.out.trans O2'.out⟩
    · have h4 : decide (200 < (n : Int)) = false := by simp; omega
      go_enter Tryz.func135, Tryz.ntmps135
      go_wp2_with fail
      refine H.out.mono ?_
      rintro e w1 ⟨v, rfl, ⟨r, hr, rfl⟩, C1, O1⟩
      have C1' := Lib.hid C1
      have O1' := Lib.hid O1
      have hnz : (n : Int) ≠ 0 := by omega
      clear C1 O1
      go_wp2_with fail
      go_ret
      exact ⟨.int .i64 ((r : Int) % (n : Int)), rfl, ⟨r % n, Nat.mod_lt _ (by omega), by simp⟩, C1'.out.mono (by omega), O1'.out⟩
theorem pick_lt (c k n : Nat) (h0 : 1 ≤ n) (hk : k ≤ 900000) (hn : n ≤ 1000000) (w : World) (hC : Cur w c k) : Calls Tryz.prog 135 #[.pointer (some ⟨c, 0, none⟩), .int .i64 (n : Int)] w (Dr (IsUpTo n) c (k + 2) w) := by
  have h := pick_any c k n hk hn w hC
  rw [if_pos h0] at h
  exact h
def IsBool (v : Value) : Prop := ∃ b : Bool, v = .bool b
theorem one_any (c k n : Nat) (h0 : 1 ≤ n) (hk : k ≤ 900000) (hn : n ≤ 1000000) (w : World) (hC : Cur w c k) : Calls Tryz.prog 75 #[.pointer (some ⟨c, 0, none⟩), .int .i64 (n : Int)] w (Dr IsBool c (k + 2) w) := by
  have H := Lib.hid (pick_lt c k n h0 hk hn w hC)
  clear hC
  go_enter Tryz.func75, Tryz.ntmps75
  go_wp2_with fail
  refine H.out.mono ?_
  rintro e w1 ⟨v, rfl, ⟨r, hr, rfl⟩, C1, O1⟩
  have C1' := Lib.hid C1
  have O1' := Lib.hid O1
  clear C1 O1
  go_wp2_with fail
  go_ret
  exact ⟨.bool ((r : Int) == 0), rfl, ⟨_, rfl⟩, C1'.out, O1'.out⟩
/-- A text of at most n bytes over the letters and signs of what is drawn. -/
def Ab (n : Nat) (v : Value) : Prop := ∃ s : ByteArray, v = .string s ∧ s.size ≤ n ∧ ∀ b ∈ s.data.toList, AB b = true
def IsNm (v : Value) : Prop := ∃ ch : UInt8, nm5 ch = true ∧ v = .string (one ch)
set_option maxHeartbeats 1000000 in
theorem of_any (P : Value → Prop) (c k g m : Nat) (h0 : 1 ≤ m) (hk : k ≤ 900000) (hn : m ≤ 1000000) (w : World) (hg : g ≠ c) (hx : ∀ j, j < m → ∃ s : ByteArray, P (.string s) ∧ w.cell? ⟨g, j, none⟩ = some (.string s)) (hC : Cur w c k) :
    Calls Tryz.prog 85 #[.pointer (some ⟨c, 0, none⟩), .slice (some ⟨g, 0, none⟩) m m] w (Dr P c (k + 2) w) := by
  have H := Lib.hid (pick_lt c k m h0 hk hn w hC)
  have HX := Lib.hid hx
  clear hC hx
  go_enter Tryz.func85, Tryz.ntmps85
  go_wp2_with fail
  refine H.out.mono ?_
  rintro e w1 ⟨v, rfl, ⟨r, hr, rfl⟩, C1, O1⟩
  obtain ⟨s, hP, hc⟩ := HX.out r hr
  have hc1 : w1.cell? ⟨g, r, none⟩ = some (.string s) := by
    rw [← hc]
    unfold World.cell?
    rw [O1.block g (by
      unfold World.cell? at hc
      rcases h : w.heap[g]? with _ | o
      · rw [h] at hc; cases hc
      · exact lt_of_block h) hg]
  have C1' := Lib.hid C1
  have O1' := Lib.hid O1
  have hP' := Lib.hid hP
  have hr' : (r : Int) < (m : Int) := by omega
  clear C1 O1 hP hc
  go_wp2_with fail
  go_ret
  exact ⟨.string s, rfl, hP'.out, C1'.out, O1'.out⟩
theorem alloc_cell {w : World} {cs : Array Value} {T : TypeId} {j : Nat} {v : Value} (h : cs[j]? = some v) : (w.alloc (.cells cs T)).cell? ⟨w.heap.size, j, none⟩ = some v := by
  have hb : (w.alloc (.cells cs T)).heap[w.heap.size]? = some (.cells cs T (0, 0)) := by
    show (w.heap.push _)[w.heap.size]? = _
    rw [Array.getElem?_push_size]
  unfold World.cell?
  simp only [hb]
  exact h
set_option maxHeartbeats 1000000 in
theorem drName_any (c k : Nat) (hk : k ≤ 900000) (w : World) (hC : Cur w c k) : Calls Tryz.prog 102 #[.pointer (some ⟨c, 0, none⟩)] w (Dr IsNm c (k + 2) w) := by
  have HC := Lib.hid hC
  clear hC
  go_enter Tryz.func102, Tryz.ntmps102
  go_wp2_with fail
  refine (of_any IsNm c k w.heap.size 7 (by decide) hk (by decide) _ (Nat.ne_of_gt HC.out.lt) ?_ (HC.out.below ((Below.refl _ _).alloc (Nat.le_refl _) _))).mono ?_
  · intro j hj
    rcases (show j = 0 ∨ j = 1 ∨ j = 2 ∨ j = 3 ∨ j = 4 ∨ j = 5 ∨ j = 6 from by omega) with rfl | rfl | rfl | rfl | rfl | rfl | rfl
    · exact ⟨_, ⟨97, by decide, rfl⟩, alloc_cell rfl⟩
    · exact ⟨_, ⟨98, by decide, rfl⟩, alloc_cell rfl⟩
    · exact ⟨_, ⟨99, by decide, rfl⟩, alloc_cell rfl⟩
    · exact ⟨_, ⟨97, by decide, rfl⟩, alloc_cell rfl⟩
    · exact ⟨_, ⟨98, by decide, rfl⟩, alloc_cell rfl⟩
    · exact ⟨_, ⟨120, by decide, rfl⟩, alloc_cell rfl⟩
    · exact ⟨_, ⟨121, by decide, rfl⟩, alloc_cell rfl⟩
  · rintro e w1 ⟨v, rfl, ⟨ch, hch, rfl⟩, C1, O1⟩
    have C1' := Lib.hid C1
    have O1' := Lib.hid ((Only.refl c w).alloc _ |>.trans O1)
    clear C1 O1
    go_wp2_with fail
    go_ret
    exact ⟨.string (one ch), rfl, ⟨ch, hch, rfl⟩, C1'.out, O1'.out⟩
end Go.Proofs.YtmfmagfgcdaeeaaGreat.T1
