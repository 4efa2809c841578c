/- Texts of the proof, put together: Vo, Vp, Vq. No conditions. -/
import Derived.Test.YtlhmjcfnfefliaaGreatHab
import Derived.Test.YtlhmjcfnfefliaaGreatHaw
import Derived.Test.YtlhmjcfnfefliaaGreatHax
import Derived.Laws.OwnMore
import Derived.Deep.LoopGhost
import Derived.Deep.QuietTactic
import Derived.Deep.AppendLies
import Derived.Deep.RegionLaw
import Derived.Deep.RegionHeld3

/- Sorts in the specification: kept in two rows, as numbers that lead to others. -/
namespace Go.Proofs.YtlhmjcfnfefliaaGreat.T1
open Go.RowKit
set_option maxRecDepth 100000
set_option linter.unusedVariables false
set_option linter.unusedSimpArgs false

def cS (o : Option Nat) : Int := match o with
  | some x => (x : Int)
  | none => -1
def rF (N : Nat) (f : Nat → Nat) : List Value := (List.range N).map fun k => .int .i64 (f k : Int)
def rC (N : Nat) (c : Nat → Option Nat) : List Value := (List.range N).map fun k => .int .i64 (cS (c k))
theorem rF_at (N : Nat) (f : Nat → Nat) {k : Nat} (hk : k < N) : (rF N f)[k]? = some (.int .i64 (f k : Int)) := by simp [rF, hk]
theorem rC_at (N : Nat) (c : Nat → Option Nat) {k : Nat} (hk : k < N) : (rC N c)[k]? = some (.int .i64 (cS (c k))) := by simp [rC, hk]
theorem rF_set (N : Nat) (f : Nat → Nat) (q a : Nat) : (rF N f).set q (.int .i64 (a : Int)) = rF N (up6 f q a) := by
  apply List.ext_getElem?
  intro k
  rw [List.getElem?_set]
  simp only [rF, List.getElem?_map, List.length_map, List.length_range]
  rcases Nat.lt_or_ge k N with h | h
  · by_cases e : q = k
    · subst e; simp [h, up6]
    · have e2 : ¬ k = q := fun h => e h.symm
      simp [h, up6, e, e2]
  · by_cases e : q = k
    · subst e; rw [if_pos rfl, if_neg (by omega), List.getElem?_eq_none (by simpa using h)]; rfl
    · rw [if_neg e, List.getElem?_eq_none (by simpa using h)]; rfl
theorem rC_set (N : Nat) (c : Nat → Option Nat) (q : Nat) (v : Option Nat) : (rC N c).set q (.int .i64 (cS v)) = rC N (upC c q v) := by
  apply List.ext_getElem?
  intro k
  rw [List.getElem?_set]
  simp only [rC, List.getElem?_map, List.length_map, List.length_range]
  rcases Nat.lt_or_ge k N with h | h
  · by_cases e : q = k
    · subst e; simp [h, upC]
    · have e2 : ¬ k = q := fun h => e h.symm
      simp [h, upC, e, e2]
  · by_cases e : q = k
    · subst e; rw [if_pos rfl, if_neg (by omega), List.getElem?_eq_none (by simpa using h)]; rfl
    · rw [if_neg e, List.getElem?_eq_none (by simpa using h)]; rfl

theorem own_form6 {w : World} {base n : Nat} {e : TypeId} {v : Value} {xs : List Value} (h : w.ownsRow base e 1 v n xs) (hn : 0 < n) : ∃ g cap, v = .slice (some ⟨g, 0, none⟩) n cap := by
  rcases h.2 with ⟨_, h0⟩ | ⟨g, cap, cur, hv, _⟩
  · omega
  · exact ⟨g, cap, hv⟩
/-- Block b has two rows: who leads to whom, and what is carried. -/
structure SoAt (w : World) (b N : Nat) (f : Nat → Nat) (c : Nat → Option Nat) (v1 v2 : Value) : Prop where
  hb : ∃ T, w.heap[b]? = some (.cells #[v1, v2] T (0, 0))
  r1 : w.ownsRow (b + 1) 3 1 v1 N (rF N f)
  r2 : w.ownsRow (b + 1) 3 1 v2 N (rC N c)
  ne : ∀ g, v1.ownBlock = some g → v2.ownBlock ≠ some g
section
variable {w w' : World} {b N : Nat} {f : Nat → Nat} {c : Nat → Option Nat} {v1 v2 : Value}
theorem SoAt.lt (h : SoAt w b N f c v1 v2) : b < w.heap.size := by obtain ⟨T, h⟩ := h.hb; exact lt_of_block h
theorem SoAt.c1 (h : SoAt w b N f c v1 v2) : w.cell? ⟨b, 0, none⟩ = some v1 := by obtain ⟨T, h⟩ := h.hb; exact cellOf2a h
theorem SoAt.c2 (h : SoAt w b N f c v1 v2) : w.cell? ⟨b, 1, none⟩ = some v2 := by obtain ⟨T, h⟩ := h.hb; exact cellOf2b h
theorem SoAt.form (h : SoAt w b N f c v1 v2) (hN : 0 < N) : ∃ g1 k1 g2 k2, v1 = .slice (some ⟨g1, 0, none⟩) N k1 ∧ v2 = .slice (some ⟨g2, 0, none⟩) N k2 ∧ g1 ≠ g2 ∧ b < g1 ∧ b < g2 := by
  obtain ⟨g1, k1, e1⟩ := own_form6 h.r1 hN
  obtain ⟨g2, k2, e2⟩ := own_form6 h.r2 hN
  subst e1 e2
  have l1 := (h.r1.lt g1 rfl).1
  have l2 := (h.r2.lt g2 rfl).1
  exact ⟨g1, k1, g2, k2, rfl, rfl, fun e => h.ne g1 rfl (by rw [e]; rfl), by omega, by omega⟩
theorem SoAt.below (h : SoAt w b N f c v1 v2) (k : Below w.heap.size w w') : SoAt w' b N f c v1 v2 := by
  obtain ⟨T, hb⟩ := h.hb
  exact ⟨⟨T, (k.block _ (lt_of_block hb)).trans hb⟩, own_below2 h.r1 k, own_below2 h.r2 k, h.ne⟩
end
theorem SoAt.setF {w : World} {b N : Nat} {f : Nat → Nat} {c : Nat → Option Nat} {g1 k1 : Nat} {v2 : Value} (h : SoAt w b N f c (.slice (some ⟨g1, 0, none⟩) N k1) v2) {q a : Nat} : SoAt (w.setCell ⟨g1, q, none⟩ (.int .i64 (a : Int))) b N (up6 f q a) c (.slice (some ⟨g1, 0, none⟩) N k1) v2 := by
  have l1 := (h.r1.lt g1 rfl).1
  obtain ⟨T, hb⟩ := h.hb
  refine ⟨⟨T, (Below.heap_setCell _ _ _ _ (by show b ≠ g1; omega)).trans hb⟩, ?_, ?_, h.ne⟩
  · have := h.r1.stored q (.int .i64 (a : Int))
    rw [rF_set] at this; exact this.1
  · exact own_keep h.r2 fun g hg => Below.heap_setCell _ _ _ _ (fun e => h.ne g1 rfl (by rw [← (show g = g1 from e)]; exact hg))
theorem SoAt.setC {w : World} {b N : Nat} {f : Nat → Nat} {c : Nat → Option Nat} {g2 k2 : Nat} {v1 : Value} (h : SoAt w b N f c v1 (.slice (some ⟨g2, 0, none⟩) N k2)) {q : Nat} (v : Option Nat) : SoAt (w.setCell ⟨g2, q, none⟩ (.int .i64 (cS v))) b N f (upC c q v) v1 (.slice (some ⟨g2, 0, none⟩) N k2) := by
  have l1 := (h.r2.lt g2 rfl).1
  obtain ⟨T, hb⟩ := h.hb
  refine ⟨⟨T, (Below.heap_setCell _ _ _ _ (by show b ≠ g2; omega)).trans hb⟩, ?_, ?_, h.ne⟩
  · exact own_keep h.r1 fun g hg => Below.heap_setCell _ _ _ _ (fun e => h.ne g hg (by rw [show g = g2 from e]; rfl))
  · have := h.r2.stored q (.int .i64 (cS v))
    rw [rC_set] at this; exact this.1
/-- A block of the sorts. -/
def Own6 (w : World) (b i : Nat) : Prop := i = b ∨ ∃ v1 v2 T, w.heap[b]? = some (.cells #[v1, v2] T (0, 0)) ∧ (v1.ownBlock = some i ∨ v2.ownBlock = some i)
theorem Own6.same {w w' : World} {b : Nat} (e : w'.heap[b]? = w.heap[b]?) (i : Nat) : Own6 w' b i ↔ Own6 w b i := by unfold Own6; rw [e]
/-- Nothing but the sorts may have turned. -/
structure Bes (b : Nat) (w w' : World) : Prop where
  os : w'.os = w.os
  tape : w'.tape = w.tape
  output : w'.output = w.output
  size : w.heap.size ≤ w'.heap.size
  keep : ∀ i, i < w.heap.size → ¬ Own6 w b i → w'.heap[i]? = w.heap[i]? ∧ ¬ Own6 w' b i
theorem Bes.refl (b : Nat) (w : World) : Bes b w w := ⟨rfl, rfl, rfl, Nat.le_refl _, fun _ _ h => ⟨rfl, h⟩⟩
theorem Bes.trans {b : Nat} {u v w : World} (h : Bes b u v) (k : Bes b v w) : Bes b u w :=
  ⟨k.os.trans h.os, k.tape.trans h.tape, k.output.trans h.output, Nat.le_trans h.size k.size, fun i hi hn => by
    have h1 := h.keep i hi hn
    have h2 := k.keep i (Nat.lt_of_lt_of_le hi h.size) h1.2
    exact ⟨h2.1.trans h1.1, h2.2⟩⟩
theorem Bes.of_below {b : Nat} {v w : World} (k : Below v.heap.size v w) (hb : b < v.heap.size) : Bes b v w :=
  ⟨k.os, k.tape, k.output, k.size, fun i hi hn => ⟨k.block i hi, fun h => hn ((Own6.same (k.block b hb) i).1 h)⟩⟩
theorem Bes.set {b g : Nat} {w : World} (hg : Own6 w b g) (hne : g ≠ b) (o : Nat) (x : Value) : Bes b w (w.setCell ⟨g, o, none⟩ x) :=
  ⟨rfl, rfl, rfl, by simp [World.setCell], fun i hi hn => ⟨Below.heap_setCell _ _ _ _ (fun e => hn (by rw [show i = g from e]; exact hg)), fun h => hn ((Own6.same (Below.heap_setCell _ _ _ _ (by show b ≠ g; exact fun e => hne e.symm)) i).1 h)⟩⟩
theorem SoAt.own1 {w : World} {b N : Nat} {f : Nat → Nat} {c : Nat → Option Nat} {g1 k1 : Nat} {v2 : Value} (h : SoAt w b N f c (.slice (some ⟨g1, 0, none⟩) N k1) v2) : Own6 w b g1 := by
  obtain ⟨T, hb⟩ := h.hb; exact .inr ⟨_, _, T, hb, .inl rfl⟩
theorem SoAt.own2 {w : World} {b N : Nat} {f : Nat → Nat} {c : Nat → Option Nat} {g2 k2 : Nat} {v1 : Value} (h : SoAt w b N f c v1 (.slice (some ⟨g2, 0, none⟩) N k2)) : Own6 w b g2 := by
  obtain ⟨T, hb⟩ := h.hb; exact .inr ⟨_, _, T, hb, .inr rfl⟩

set_option maxHeartbeats 1000000 in
theorem root_any {w : World} {b N : Nat} {f r : Nat → Nat} {c : Nat → Option Nat} {v1 v2 : Value} (h : SoAt w b N f c v1 v2) (hr : Rt f r) (hf : ∀ k, k < N → f k < N) {k : Nat} (hk : k < N) :
    Calls Tryz.prog 31 #[.pointer (some ⟨b, 0, none⟩), .int .i64 (k : Int)] w fun e w' => e = .returned (.int .i64 (r k : Int)) ∧ w = w' := by
  obtain ⟨d, hd⟩ := hr.low
  obtain ⟨g1, k1, g2, k2, rfl, rfl, hgg, hb1, hb2⟩ := h.form (by omega)
  have H := Lib.hid h
  have HR := Lib.hid hr
  have HF := Lib.hid hf
  have HD := Lib.hid hd
  have cb := h.c1
  clear h hr hf hd
  go_enter Tryz.func31, Tryz.ntmps31
  go_wp2_with fail
  go_loopg [1] (d k) (fun g s1 wr => (∃ m : Nat, s1 = .int .i64 (m : Int) ∧ m < N ∧ Hid (d m ≤ g ∧ r m = r k)) ∧ wr = w)
  case atStart => exact ⟨⟨k, rfl, hk, ⟨Nat.le_refl _, rfl⟩⟩, rfl⟩
  case round =>
    obtain ⟨⟨m, rfl, hm, hmd⟩, rfl⟩ := hrel
    have c1 := (H.out.r1.cellAt m (by omega)).trans (rF_at N f hm)
    obtain ⟨fm, hfm⟩ : ∃ fm, fm = f m := ⟨_, rfl⟩
    rw [← hfm] at c1
    have HFM := Lib.hid hfm
    clear hfm
    by_cases e : fm = m
    · have q : ((fm : Int) != (m : Int)) = false := by rw [e]; simp
      go_wp2_with fail
      go_ret
      refine ⟨?_, rfl⟩
      have h1 := HR.out.stop m (by rw [← HFM.out, e])
      rw [← hmd.out.2, h1]; rfl
    · have q : ((fm : Int) != (m : Int)) = true := by simp; omega
      go_wp2_with fail
      have hD := HD.out m (by rw [← HFM.out]; exact e)
      rw [← HFM.out] at hD
      have hdm := hmd.out.1
      go_roundg (gk - 1)
      case measure => omega
      case rel => exact ⟨⟨fm, rfl, by rw [HFM.out]; exact HF.out m hm, ⟨by omega, by rw [HFM.out, HR.out.on]; exact hmd.out.2⟩⟩, rfl⟩

theorem Bes.drewN {b : Nat} {u w : World} (h : Bes b u w) (n : Nat) : Bes b u (w.drewN n) := h.trans ⟨rfl, rfl, rfl, Nat.le_refl _, fun i _ hn => ⟨rfl, hn⟩⟩
theorem num6_pos' {f : Nat → Nat} {N q : Nat} (hq : q < N) (h : f q = q) : 0 < num6 f N := by
  unfold num6
  rw [List.countP_pos_iff]
  exact ⟨q, List.mem_range.2 hq, by simp [h]⟩
set_option maxHeartbeats 2000000 in
theorem joinS_any {S C : Nat → Nat → Prop} {w : World} {b N : Nat} {f r : Nat → Nat} {c : Nat → Option Nat} {v1 v2 : Value} {p q : Nat} (h : SoAt w b N f c v1 v2) (hs : St6 S C N f r c p q) (hp : p < N) (hq : q < N) :
    Calls Tryz.prog 96 #[.pointer (some ⟨b, 0, none⟩), .int .i64 (p : Int), .int .i64 (q : Int)] w fun e w' => e = .returned (.tuple #[]) ∧ (∃ f' r' c', SoAt w' b N f' c' v1 v2 ∧ St6 S C N f' r' c' 0 0) ∧ Bes b w w' := by
  obtain ⟨g1, k1, g2, k2, rfl, rfl, hgg, hb1, hb2⟩ := h.form (by omega)
  have H := Lib.hid h
  have HS := Lib.hid hs
  clear h hs
  go_enter Tryz.func96, Tryz.ntmps96
  go_wp2_with fail
  go_loopg [1, 2] (num6 f N) (fun gk s1 s2 wr => (∃ p q : Nat, s1 = .int .i64 (p : Int) ∧ s2 = .int .i64 (q : Int) ∧ p < N ∧ q < N ∧ Hid (∃ f r c, num6 f N ≤ gk ∧ SoAt wr b N f c (.slice (some ⟨g1, 0, none⟩) N k1) (.slice (some ⟨g2, 0, none⟩) N k2) ∧ St6 S C N f r c p q)) ∧ Hid (Bes b w wr))
  case atStart => exact ⟨⟨p, q, rfl, rfl, hp, hq, ⟨f, r, c, Nat.le_refl _, H.out, HS.out⟩⟩, Bes.refl _ _⟩
  case round =>
    clear hp hq H HS
    obtain ⟨⟨p, q, rfl, rfl, hp, hq, hx⟩, bw⟩ := hrel
    obtain ⟨f, r, c, hn, h, hs⟩ := hx.out
    clear hx
    have Hn := Lib.hid hn
    have H := Lib.hid h
    have HS := Lib.hid hs
    have Hp := Lib.hid (root_any h hs.rt hs.lt hp)
    have Hq := Lib.hid (root_any h hs.rt hs.lt hq)
    have rp : r p < N := hs.rlt hp
    have rq : r q < N := hs.rlt hq
    have cb1 := h.c1
    have cb2 := h.c2
    by_cases e : r p = r q
    · have HD := Lib.hid (hs.done e 0)
      have qe : ((r p : Int) == (r q : Int)) = true := by rw [e]; simp
      obtain ⟨m, hm⟩ : ∃ m, m = r p := ⟨_, rfl⟩
      obtain ⟨m2, hm2⟩ : ∃ m, m = r q := ⟨_, rfl⟩
      rw [← hm] at Hp qe
      rw [← hm2] at Hq qe
      clear h hs hn e hm hm2
      go_wp2_with fail
      refine (Hp.out).mono ?_
      rintro e w1 ⟨rfl, rfl⟩
      go_wp2_with fail
      refine (Hq.out).mono ?_
      rintro e w1 ⟨rfl, rfl⟩
      go_wp2_with fail
      (try simp only [Exit.inBlock, Exit.then]); refine bodyPost_ret (results_none rfl _ _ _) rfl ?_
      exact ⟨rfl, ⟨f, r, c, H.out, HD.out⟩, bw.out⟩
    · have HT := Lib.hid (hs.step hp hq e)
      have HF := Lib.hid (hs.fewer hq e)
      have qe : ((r p : Int) == (r q : Int)) = false := by simp; omega
      have x1 := (h.r2.cellAt (r p) (by omega)).trans (rC_at N c rp)
      have x2 := (h.r2.cellAt (r q) (by omega)).trans (rC_at N c rq)
      have x3 := (h.r1.cellAt (r q) (by omega)).trans (rF_at N f rq)
      have y3 := h.r1.frozenAt (r q)
      have y1 := h.r2.frozenAt (r p)
      have hw1 : ∀ n, SoAt (wr.drewN n) b N f c (.slice (some ⟨g1, 0, none⟩) N k1) (.slice (some ⟨g2, 0, none⟩) N k2) := fun n => h.below ((Below.refl _ wr).trans ⟨rfl, rfl, rfl, Nat.le_refl _, fun _ _ => rfl⟩)
      have H2 := Lib.hid (fun n => (hw1 n).setF (q := r q) (a := r p))
      have B2 := Lib.hid (fun n => (bw.out.drewN n).trans (Bes.set (hw1 n).own1 (by omega) (r q) (.int .i64 (r p : Int))))
      have cb3 := fun n => (H2.out n).c2
      have x4 := fun n => ((H2.out n).r2.cellAt (r p) (by omega)).trans (rC_at N c rp)
      have y4 := fun n => (H2.out n).r2.frozenAt (r p)
      have rpos := num6_pos' rp (hs.rt.fix p)
      cases e1 : c (r p) with
      | none =>
        have HD := Lib.hid (HT.out.2.1 e1 0)
        have H3 := Lib.hid (fun n => (H2.out n).setC (q := r p) (c (r q)))
        have B3 := Lib.hid (fun n => (B2.out n).trans (Bes.set (H2.out n).own2 (by omega) (r p) (.int .i64 (cS (c (r q))))))
        rw [e1] at x1 x4
        have x1' : wr.cell? ⟨g2, r p, none⟩ = some (.int .i64 (-1)) := x1
        have x4' : ∀ n, ((wr.drewN n).setCell ⟨g1, r q, none⟩ (.int .i64 (r p : Int))).cell? ⟨g2, r p, none⟩ = some (.int .i64 (-1)) := x4
        obtain ⟨xq, hxq⟩ : ∃ xq, xq = cS (c (r q)) := ⟨_, rfl⟩
        obtain ⟨fo, hfo⟩ : ∃ fo, fo = f (r q) := ⟨_, rfl⟩
        rw [← hxq] at x2 H3 B3
        rw [← hfo] at x3
        obtain ⟨m, hm⟩ : ∃ m, m = r p := ⟨_, rfl⟩
        obtain ⟨m2, hm2⟩ : ∃ m, m = r q := ⟨_, rfl⟩
        rw [← hm] at Hp qe x1' H2 H3 B2 B3 y1 cb3 x4' y4 HD rp
        rw [← hm2] at Hq qe x2 x3 y3 H2 H3 B2 B3 cb3 x4' y4 HD rq
        clear h hs hn e e1 hm hm2 hxq hfo x1 x4 HT HF hw1 HS rpos
        go_wp2_with fail
        refine (Hp.out).mono ?_
        rintro e w1 ⟨rfl, rfl⟩
        go_wp2_with fail
        refine (Hq.out).mono ?_
        rintro e w1 ⟨rfl, rfl⟩
        go_wp2_with fail
        go_quiet (fail)
        go_wp2_with fail
        (try simp only [Exit.inBlock, Exit.then]); refine bodyPost_ret (results_none rfl _ _ _) rfl ?_
        exact ⟨rfl, ⟨_, _, _, H3.out nq, HD.out⟩, B3.out nq⟩
      | some x =>
        have hx : x < N := hs.clt _ _ e1
        rw [e1] at x1
        have x1' : wr.cell? ⟨g2, r p, none⟩ = some (.int .i64 (x : Int)) := x1
        cases e2 : c (r q) with
        | none =>
          have HD := Lib.hid (HT.out.2.2 e2 0)
          rw [e2] at x2
          have x2' : wr.cell? ⟨g2, r q, none⟩ = some (.int .i64 (-1)) := x2
          obtain ⟨fo, hfo⟩ : ∃ fo, fo = f (r q) := ⟨_, rfl⟩
          rw [← hfo] at x3
          obtain ⟨m, hm⟩ : ∃ m, m = r p := ⟨_, rfl⟩
          obtain ⟨m2, hm2⟩ : ∃ m, m = r q := ⟨_, rfl⟩
          rw [← hm] at Hp qe x1' H2 B2 y1 cb3 HD rp
          rw [← hm2] at Hq qe x2' x3 y3 H2 B2 cb3 HD rq
          clear h hs hn e e1 e2 hm hm2 hfo x1 x2 x4 y4 HT HF hw1 HS rpos
          go_wp2_with fail
          refine (Hp.out).mono ?_
          rintro e w1 ⟨rfl, rfl⟩
          go_wp2_with fail
          refine (Hq.out).mono ?_
          rintro e w1 ⟨rfl, rfl⟩
          go_wp2_with fail
          go_quiet (fail)
          go_wp2_with fail
          (try simp only [Exit.inBlock, Exit.then]); refine bodyPost_ret (results_none rfl _ _ _) rfl ?_
          exact ⟨rfl, ⟨_, _, _, H2.out nq, HD.out⟩, B2.out nq⟩
        | some y =>
          have hy : y < N := hs.clt _ _ e2
          have HD := Lib.hid (HT.out.1 x y e1 e2)
          have HF2 := Lib.hid HF.out
          rw [e2] at x2
          have x2' : wr.cell? ⟨g2, r q, none⟩ = some (.int .i64 (y : Int)) := x2
          obtain ⟨fo, hfo⟩ : ∃ fo, fo = f (r q) := ⟨_, rfl⟩
          rw [← hfo] at x3
          obtain ⟨m, hm⟩ : ∃ m, m = r p := ⟨_, rfl⟩
          obtain ⟨m2, hm2⟩ : ∃ m, m = r q := ⟨_, rfl⟩
          rw [← hm] at Hp qe x1' H2 B2 y1 cb3 HD rp HF2
          rw [← hm2] at Hq qe x2' x3 y3 H2 B2 cb3 HD rq HF2
          clear h hs hn e e1 e2 hm hm2 hfo x1 x2 x4 y4 HT HF hw1 HS rpos
          go_wp2_with fail
          refine (Hp.out).mono ?_
          rintro e w1 ⟨rfl, rfl⟩
          go_wp2_with fail
          refine (Hq.out).mono ?_
          rintro e w1 ⟨rfl, rfl⟩
          go_wp2_with fail
          go_quiet (fail)
          go_wp2_with fail
          have a1 := Hn.out
          have a2 := HF2.out
          go_roundg (num6 (up6 f m2 m) N)
          case measure => omega
          case rel => exact ⟨⟨x, y, rfl, rfl, hx, hy, ⟨_, _, _, Nat.le_refl _, H2.out nq, HD.out⟩⟩, B2.out nq⟩
set_option maxHeartbeats 2000000 in
theorem carryS_any {S C : Nat → Nat → Prop} {w : World} {b N : Nat} {f r : Nat → Nat} {c : Nat → Option Nat} {v1 v2 : Value} {k x : Nat} (h : SoAt w b N f c v1 v2) (hr : Rt f r) (hf : ∀ k, k < N → f k < N) (hk : k < N) (hx : x < N)
    (h1 : c (r k) = none → St6 S C N f r (upC c (r k) (some x)) 0 0) (h2 : ∀ y, c (r k) = some y → St6 S C N f r c y x) :
    Calls Tryz.prog 93 #[.pointer (some ⟨b, 0, none⟩), .int .i64 (k : Int), .int .i64 (x : Int)] w fun e w' => e = .returned (.tuple #[]) ∧ (∃ f' r' c', SoAt w' b N f' c' v1 v2 ∧ St6 S C N f' r' c' 0 0) ∧ Bes b w w' := by
  obtain ⟨g1, k1, g2, k2, rfl, rfl, hgg, hb1, hb2⟩ := h.form (by omega)
  have H := Lib.hid h
  have Hp := Lib.hid (root_any h hr hf hk)
  have rk : r k < N := hr.lt hf k hk
  have cb2 := h.c2
  have x1 := (h.r2.cellAt (r k) (by omega)).trans (rC_at N c rk)
  have y1 := h.r2.frozenAt (r k)
  have H2 := Lib.hid (h.setC (q := r k) (some x))
  have B2 := Lib.hid (Bes.set h.own2 (by omega) (r k) (.int .i64 (x : Int)))
  cases e : c (r k) with
  | none =>
    have HS := Lib.hid (h1 e)
    rw [e] at x1
    have x1' : w.cell? ⟨g2, r k, none⟩ = some (.int .i64 (-1)) := x1
    obtain ⟨m, hm⟩ : ∃ m, m = r k := ⟨_, rfl⟩
    rw [← hm] at Hp x1' y1 H2 B2 HS rk
    clear h hr hf h1 h2 e hm x1
    go_enter Tryz.func93, Tryz.ntmps93
    go_wp2_with fail
    refine (Hp.out).mono ?_
    rintro e w1 ⟨rfl, rfl⟩
    go_wp2_with fail
    (try simp only [Exit.inBlock, Exit.then]); refine bodyPost_ret (results_none rfl _ _ _) rfl ?_
    exact ⟨rfl, ⟨_, _, _, H2.out, HS.out⟩, B2.out⟩
  | some y =>
    have hy : y < N := (h2 y e).clt _ _ e
    have HJ := Lib.hid (joinS_any h (h2 y e) hy hx)
    rw [e] at x1
    have x1' : w.cell? ⟨g2, r k, none⟩ = some (.int .i64 (y : Int)) := x1
    obtain ⟨m, hm⟩ : ∃ m, m = r k := ⟨_, rfl⟩
    rw [← hm] at Hp x1' y1 H2 B2 rk
    clear h hr hf h1 h2 e hm x1 H2 B2
    go_enter Tryz.func93, Tryz.ntmps93
    go_wp2_with fail
    refine (Hp.out).mono ?_
    rintro e w1 ⟨rfl, rfl⟩
    go_wp2_with fail
    refine (HJ.out).mono ?_
    rintro e w1 ⟨rfl, hpost⟩
    have HP := Lib.hid hpost
    clear hpost
    go_wp2_with fail
    go_end0
    exact ⟨rfl, HP.out⟩

end Go.Proofs.YtlhmjcfnfefliaaGreat.T1

/- Sorts in the specification: one more. -/
namespace Go.Proofs.YtlhmjcfnfefliaaGreat.T1
open Go.RowKit
set_option maxRecDepth 100000
set_option linter.unusedVariables false
set_option linter.unusedSimpArgs false

theorem Tryz.infoI : (Tryz.prog.info? 3).map (fun i => (i.zero, i.size, i.bytes)) = some (some (.int .i64 0), 1, 8) := by kernel_rfl
theorem rF_more (N : Nat) (f : Nat → Nat) (h : f N = N) : rF (N + 1) f = rF N f ++ [.int .i64 (N : Int)] := by
  unfold rF; rw [List.range_succ, List.map_append]; simp [h]
theorem rC_more (N : Nat) (c : Nat → Option Nat) (h : c N = none) : rC (N + 1) c = rC N c ++ [.int .i64 (-1)] := by
  unfold rC; rw [List.range_succ, List.map_append]; simp [h, cS]
theorem own_slice6 {w : World} {base n : Nat} {e : TypeId} {v : Value} {xs : List Value} (h : w.ownsRow base e 1 v n xs) : ∃ p cap, v = .slice p n cap := by
  rcases h.2 with ⟨h1, h0⟩ | ⟨g, cap, cur, hv, _⟩
  · subst h0; exact ⟨_, _, h1⟩
  · exact ⟨_, cap, hv⟩
theorem set_two {w : World} {b : Nat} {x y z : Value} {T : TypeId} (h : w.heap[b]? = some (.cells #[x, y] T (0, 0))) : (w.setCell ⟨b, 0, none⟩ z).heap[b]? = some (.cells #[z, y] T (0, 0)) ∧ (w.setCell ⟨b, 1, none⟩ z).heap[b]? = some (.cells #[x, z] T (0, 0)) := by
  constructor
  · rw [set_cells h]; rfl
  · rw [set_cells h]; rfl
theorem own_set6 {w : World} {base size n b o : Nat} {e : TypeId} {v x : Value} {xs : List Value} (h : w.ownsRow base e size v n xs) (hb : b < base) : (w.setCell ⟨b, o, none⟩ x).ownsRow base e size v n xs := by
  refine ⟨h.1, h.2.imp id ?_⟩
  rintro ⟨g, cap, cur, hv, h2, h3, h4⟩
  exact ⟨g, cap, cur, hv, h2, (Below.heap_setCell _ _ _ _ (by show g ≠ b; omega)).trans h3, h4⟩
set_option maxHeartbeats 2000000 in
theorem fresh_any {w : World} {b N : Nat} {f : Nat → Nat} {c : Nat → Option Nat} {v1 v2 : Value} (h : SoAt w b N f c v1 v2) (hN : N ≤ 1000) (hf : f N = N) (hc : c N = none) :
    Calls Tryz.prog 60 #[.pointer (some ⟨b, 0, none⟩)] w fun e w' => e = .returned (.int .i64 (N : Int)) ∧ (∃ v1' v2', SoAt w' b (N + 1) f c v1' v2') ∧ Bes b w w' := by
  obtain ⟨i0, hi, hz0, hz1, hz2⟩ := info_parts Tryz.infoI
  obtain ⟨p1, q1, rfl⟩ := own_slice6 h.r1
  obtain ⟨p2, q2, rfl⟩ := own_slice6 h.r2
  have H := Lib.hid h
  have Hf := Lib.hid hf
  have Hc := Lib.hid hc
  have hlt := h.lt
  have cb1 := h.c1
  have cb2 := h.c2
  obtain ⟨T0, hbT⟩ := h.hb
  have fb := cellsFree hbT 0
  have fb1 := cellsFree hbT 1
  have HT0 := Lib.hid hbT
  have O1 := Lib.hid ((h.r1.alloc (.cells #[.int .i64 (N : Int)] 3)))
  have NW := Lib.hid (cell_row w [.int .i64 (N : Int)] 3)
  have HA := Lib.hid (show (w.alloc (.cells #[.int .i64 (N : Int)] 3)).heap[b]? = some (.cells #[.slice p1 N q1, .slice p2 N q2] T0 (0, 0)) from (Below.heap_alloc _ _ _ hlt).trans hbT)
  have hneB : Hid (some b ≠ (Value.slice p1 N q1).ownBlock) := fun e => by have := (h.r1.lt b e.symm).1; omega
  have hneC : Hid (some b ≠ (Value.slice p2 N q2).ownBlock) := fun e => by have := (h.r2.lt b e.symm).1; omega
  clear h hf hc hbT
  go_enter Tryz.func60, Tryz.ntmps60
  go_wp2_with fail
  go_region_law
    (refine step_append_lies _ rfl (.tmp 7) (.tmp 13) 50 rfl (b + 1) 3 i0 (.int .i64 0) 1 8 Tryz.underlying50 hi hz0 hz1 hz2 rfl (by decide) (.slice p1 N q1) N (rF N f) rfl O1.out ⟨w.heap.size, 0, none⟩ 1 1 [.int .i64 (N : Int)] rfl rfl NW.out (by simp [Value.oneCell']) (by decide) (by unfold maxLen; omega) (by omega) (by simp; omega) _ rfl ?_
     intro g cap w9 hown hgrow hat hlt9
     have h9 := (hgrow.block b (by simp; omega) hneB.out).trans HA.out
     have s0 := cellOf2a h9
     have s1 := cellsFree h9 0
     have H9 := Lib.hid h9
     have OWN := Lib.hid hown
     have GROW := Lib.hid hgrow
     have AT := Lib.hid hat
     clear h9 hown hgrow hat)
  all_goals
    have hs9 : w.heap.size + 1 ≤ w9.heap.size := by have := GROW.out.size; simpa using this
    have neV : ∀ g', (Value.slice p2 N q2).ownBlock = some g' → (Value.slice p1 N q1).ownBlock ≠ some g' := fun g' h1 h2 => H.out.ne g' h2 h1
    have r28 : (w.alloc (.cells #[.int .i64 (N : Int)] 3)).drew.ownsRow (b + 1) 3 1 (.slice p2 N q2) N (rC N c) := H.out.r2.alloc _
    have r29 := Lib.hid (own_grown r28 GROW.out neV)
    obtain ⟨X, hX⟩ : ∃ X, X = w9.setCell ⟨b, 0, none⟩ (.slice (some ⟨g, 0, none⟩) (N + 1) cap) := ⟨_, rfl⟩
    rw [← hX]
    have hbX := (set_two (z := .slice (some ⟨g, 0, none⟩) (N + 1) cap) H9.out).1
    rw [← hX] at hbX
    have r1X := own_set6 (o := 0) (x := .slice (some ⟨g, 0, none⟩) (N + 1) cap) OWN.out (Nat.lt_succ_self b)
    have r2X := own_set6 (o := 0) (x := .slice (some ⟨g, 0, none⟩) (N + 1) cap) r29.out (Nat.lt_succ_self b)
    rw [← hX] at r1X r2X
    have hsX : w9.heap.size = X.heap.size := by rw [hX]; simp [World.setCell]
    have gAt : (Value.slice p1 N q1).ownBlock = some g ∨ w.heap.size ≤ g := by
      rcases AT.out with h | h
      · exact .inl h
      · right
        have : (w.alloc (.cells #[.int .i64 (N : Int)] 3)).drew.heap.size = w.heap.size + 1 := by simp
        omega
    have kX : ∀ i, i < w.heap.size → ¬ Own6 w b i → X.heap[i]? = w.heap[i]? := fun i hi hn => by
      have n1 : i ≠ b := fun e => hn (.inl e)
      have n2 : some i ≠ (Value.slice p1 N q1).ownBlock := fun e => hn (.inr ⟨_, _, T0, HT0.out, .inl e.symm⟩)
      rw [hX, Below.heap_setCell _ _ _ _ n1]
      exact (GROW.out.block i (by simp; omega) n2).trans (Below.heap_alloc _ _ _ hi)
    have oX : X.os = w.os ∧ X.tape = w.tape ∧ X.output = w.output := by
      rw [hX]; exact ⟨GROW.out.os, GROW.out.tape, GROW.out.output⟩
    have gV2 : (Value.slice p2 N q2).ownBlock ≠ some g := fun e => by
      rcases gAt with h | h
      · exact H.out.ne g h e
      · have := (H.out.r2.lt g e).2; omega
    have HBX := Lib.hid hbX
    have R1X := Lib.hid r1X
    have R2X := Lib.hid r2X
    have KX := Lib.hid kX
    have OX := Lib.hid oX
    have GV2 := Lib.hid gV2
    have GAT := Lib.hid gAt
    have cX2 := cellOf2b hbX
    have O2 := Lib.hid (r2X.alloc (.cells #[.int .i64 (-1)] 3))
    have NW2 := Lib.hid (cell_row X [.int .i64 (-1)] 3)
    have HAX := Lib.hid (show (X.alloc (.cells #[.int .i64 (-1)] 3)).heap[b]? = some (.cells #[.slice (some ⟨g, 0, none⟩) (N + 1) cap, .slice p2 N q2] T0 (0, 0)) from (Below.heap_alloc _ _ _ (by omega)).trans hbX)
    clear s0 s1 hbX r1X r2X kX oX gV2 gAt hX neV cb1 cb2 fb fb1
    go_wp2_with (at_builtin; refine wpList_append_lies _ rfl (.tmp 21) (.tmp 22) 50 rfl (b + 1) 3 i0 (.int .i64 0) 1 8 Tryz.underlying50 hi hz0 hz1 hz2 rfl (by decide) (.slice p2 N q2) N (rC N c) rfl O2.out ⟨X.heap.size, 0, none⟩ 1 1 [.int .i64 (-1)] rfl rfl NW2.out (by simp [Value.oneCell']) (by decide) (by unfold maxLen; omega) (by omega) (by simp; omega) _ rfl ?_)
    intro g2 cap2 w10 hown2 hgrow2 hat2 hlt10
    have h10 := (hgrow2.block b (by simp; omega) hneC.out).trans HAX.out
    have s0 := cellOf2a h10
    have s1 := cellOf2b h10
    have s2 := cellsFree h10 1
    have H10 := Lib.hid h10
    have OWN2 := Lib.hid hown2
    have GROW2 := Lib.hid hgrow2
    have AT2 := Lib.hid hat2
    clear h10 hown2 hgrow2 hat2 cX2
    go_wp2_with fail
    go_ret
    have hs10 : X.heap.size + 1 ≤ w10.heap.size := by have := GROW2.out.size; simpa using this
    have g2At : (Value.slice p2 N q2).ownBlock = some g2 ∨ X.heap.size ≤ g2 := by
      rcases AT2.out with h | h
      · exact .inl h
      · right
        have : (X.alloc (.cells #[.int .i64 (-1)] 3)).heap.size = X.heap.size + 1 := by simp
        omega
    have gg : g ≠ g2 := fun e => by
      subst e
      rcases g2At with h | h
      · exact GV2.out h
      · have := (R1X.out.lt g rfl).2; omega
    have r1W := own_set6 (o := 1) (x := .slice (some ⟨g2, 0, none⟩) (N + 1) cap2) (own_grown (R1X.out.alloc (.cells #[.int .i64 (-1)] 3)) GROW2.out (fun g' h1 h2 => GV2.out (by rw [h2]; exact h1.symm))) (Nat.lt_succ_self b)
    have r2W := own_set6 (o := 1) (x := .slice (some ⟨g2, 0, none⟩) (N + 1) cap2) OWN2.out (Nat.lt_succ_self b)
    refine ⟨by go_num, ⟨.slice (some ⟨g, 0, none⟩) (N + 1) cap, .slice (some ⟨g2, 0, none⟩) (N + 1) cap2, ⟨⟨T0, (set_two H10.out).2⟩, by rw [rF_more N f Hf.out]; exact r1W, by rw [rC_more N c Hc.out]; exact r2W, fun g' h1 h2 => gg (by simp only [Value.ownBlock, Option.some.injEq] at h1 h2; omega)⟩⟩, ⟨GROW2.out.os.trans OX.out.1, GROW2.out.tape.trans OX.out.2.1, GROW2.out.output.trans OX.out.2.2, by simp [World.setCell]; omega, fun i hi hn => ?_⟩⟩
    have n1 : i ≠ b := fun e => hn (.inl e)
    have n2 : some i ≠ (Value.slice p2 N q2).ownBlock := fun e => hn (.inr ⟨_, _, T0, HT0.out, .inr e.symm⟩)
    refine ⟨?_, fun ho => ?_⟩
    · rw [Below.heap_setCell _ _ _ _ n1]
      exact ((GROW2.out.block i (by simp; omega) n2).trans (Below.heap_alloc _ _ _ (by omega))).trans (KX.out i hi hn)
    · rcases ho with h | ⟨a1, a2, T, h, h3⟩
      · exact n1 h
      · rw [(set_two H10.out).2] at h
        simp only [Option.some.injEq, Obj.cells.injEq, Array.mk.injEq, List.cons.injEq] at h
        obtain ⟨⟨rfl, rfl, _⟩, _⟩ := h
        rcases h3 with h3 | h3
        · simp only [Value.ownBlock, Option.some.injEq] at h3
          rcases GAT.out with h4 | h4
          · exact hn (.inr ⟨_, _, T0, HT0.out, .inl (by rw [h4, h3])⟩)
          · omega
        · simp only [Value.ownBlock, Option.some.injEq] at h3
          rcases g2At with h4 | h4
          · exact hn (.inr ⟨_, _, T0, HT0.out, .inr (by rw [h4, h3])⟩)
          · omega

end Go.Proofs.YtlhmjcfnfefliaaGreat.T1

/- Sorts in the specification: which sort a name has. -/
namespace Go.Proofs.YtlhmjcfnfefliaaGreat.T1
open Go.RowKit
set_option maxRecDepth 100000
set_option linter.unusedVariables false
set_option linter.unusedSimpArgs false

def fnd : List UInt8 → List Nat → UInt8 → Nat
  | c :: cs, k :: ks, x => if c = x then k else fnd cs ks x
  | _, _, _ => 0
def rI (xs : List Nat) : List Value := xs.map fun (k : Nat) => Value.int .i64 (k : Int)
theorem fnd_with (ns : List UInt8) (xs : List Nat) (x : UInt8) (k : Nat) : fnd (x :: ns) (k :: xs) = upd6 (fnd ns xs) x k := by
  funext y
  show (if x = y then k else fnd ns xs y) = if y = x then k else fnd ns xs y
  by_cases e : x = y
  · rw [if_pos e, if_pos e.symm]
  · rw [if_neg e, if_neg (fun h => e h.symm)]
/-- A scope: names as a text, and their sorts in a row. -/
structure ScAt (w : World) (s : ByteArray) (v : Value) (ns : List UInt8) (xs : List Nat) : Prop where
  text : s.data.toList = ns
  len : xs.length = ns.length
  row : w.ownsRow 0 3 1 v xs.length (rI xs)
  none : xs = [] → v = .slice none 0 0
theorem ScAt.keep {w w' : World} {s : ByteArray} {v : Value} {ns : List UInt8} {xs : List Nat} (h : ScAt w s v ns xs) (hk : ∀ g, v.ownBlock = some g → w'.heap[g]? = w.heap[g]?) : ScAt w' s v ns xs :=
  ⟨h.text, h.len, own_keep h.row hk, h.none⟩
theorem ScAt.below {w w' : World} {s : ByteArray} {v : Value} {ns : List UInt8} {xs : List Nat} (h : ScAt w s v ns xs) (k : Below w.heap.size w w') : ScAt w' s v ns xs :=
  ⟨h.text, h.len, own_below2 h.row k, h.none⟩
theorem rI_at (xs : List Nat) {j : Nat} (hj : j < xs.length) : (rI xs)[j]? = some (.int .i64 (xs[j] : Int)) := by simp [rI, hj]
set_option maxHeartbeats 1000000 in
theorem find_any {w : World} {s : ByteArray} {v : Value} {ns : List UInt8} {xs : List Nat} (h : ScAt w s v ns xs) (hl : ns.length ≤ 1000) (x : UInt8) :
    Calls Tryz.prog 94 #[.agg #[.string s, v], .int .u8 (x.toNat : Int)] w fun e w' => e = .returned (.int .i64 (fnd ns xs x : Int)) ∧ Below w.heap.size w w' := by
  have hsz : s.size = ns.length := by rw [← h.text]; simp
  have hlen := h.len
  have HX := Lib.hid h
  have bW : Below w.heap.size w (w.alloc (.cells #[.string s, v] 97)) := (Below.refl _ _).alloc (Nat.le_refl _) _
  have HW := Lib.hid (h.below bW)
  have hbk := new_block0 w (.cells #[.string s, v] 97)
  obtain ⟨W, hW⟩ : ∃ W, W = w.alloc (.cells #[.string s, v] 97) := ⟨_, rfl⟩
  rw [← hW] at bW HW hbk
  have cs := cellOf2a hbk
  have cv := cellOf2b hbk
  have HB := Lib.hid bW
  clear h bW hbk
  go_enter Tryz.func94, Tryz.ntmps94
  go_wp2_with fail
  rw [← hW]
  clear hW
  go_loopg [5] ns.length (fun gk s5 wr => (∃ i : Nat, s5 = .int .i64 (i : Int) ∧ i + gk = ns.length ∧ Hid (fnd ns xs x = fnd (ns.drop i) (xs.drop i) x)) ∧ wr = W)
  case atStart => exact ⟨⟨0, rfl, by omega, rfl⟩, rfl⟩
  case round =>
    obtain ⟨⟨i, rfl, hg, hf⟩, rfl⟩ := hrel
    by_cases hi : i < ns.length
    · have hi2 : i < xs.length := by omega
      have hsi : i < s.size := by omega
      have hby : s[i] = ns[i] := byte_of HX.out.text i hsi hi
      have hdn : ns.drop i = ns[i] :: ns.drop (i + 1) := List.drop_eq_getElem_cons hi
      have hdx : xs.drop i = xs[i] :: xs.drop (i + 1) := List.drop_eq_getElem_cons hi2
      have HDN := Lib.hid (And.intro hby (And.intro hdn hdx))
      obtain ⟨g, k, rfl⟩ := own_form6 HW.out.row (by omega)
      have cx := (HW.out.row.cellAt i (by omega)).trans (rI_at xs hi2)
      obtain ⟨xi, hxi⟩ : ∃ y, y = xs[i] := ⟨_, rfl⟩
      rw [← hxi] at cx
      have HXI := Lib.hid hxi
      clear hby hdn hdx hxi
      by_cases e : s[i] = x
      · have q : (((s[i]'hsi).toNat : Int) == (x.toNat : Int)) = true := by rw [e]; simp
        have HE := Lib.hid e
        clear e
        go_wp2_with fail
        go_ret
        refine ⟨?_, HB.out⟩
        rw [hf.out, HDN.out.2.1, HDN.out.2.2]
        show _ = Ending.returned (.int .i64 ((if ns[i] = x then xs[i] else fnd (ns.drop (i + 1)) (xs.drop (i + 1)) x : Nat) : Int))
        rw [if_pos (by rw [← HDN.out.1]; exact HE.out), ← HXI.out]
        rfl
      · have q : (((s[i]'hsi).toNat : Int) == (x.toNat : Int)) = false := by
          rw [beq_eq_false_iff_ne]; intro h; exact e (u8_ext (by omega))
        have HE := Lib.hid e
        clear e
        go_wp2_with fail
        go_roundg (gk - 1)
        case measure => omega
        case rel =>
          refine ⟨⟨i + 1, by go_num, by omega, ?_⟩, rfl⟩
          show fnd ns xs x = _
          rw [hf.out, HDN.out.2.1, HDN.out.2.2]
          show (if ns[i] = x then xs[i] else fnd (ns.drop (i + 1)) (xs.drop (i + 1)) x) = _
          rw [if_neg (by rw [← HDN.out.1]; exact HE.out)]
    · have hsi : s.size ≤ i := by omega
      go_wp2_with fail
      go_ret
      refine ⟨?_, HB.out⟩
      rw [hf.out, List.drop_of_length_le (by omega)]
      rfl

end Go.Proofs.YtlhmjcfnfefliaaGreat.T1
