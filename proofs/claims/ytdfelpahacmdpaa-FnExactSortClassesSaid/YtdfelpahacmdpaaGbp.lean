/- Texts of the proof, put together: Vo. No conditions. -/
import Derived.Test.YtdfelpahacmdpaaGae
import Derived.Test.YtdfelpahacmdpaaGax
import Derived.Test.YtdfelpahacmdpaaGbc
import Derived.Test.YtdfelpahacmdpaaGbd
import Derived.Laws.OwnMore
import Derived.Deep.LoopGhost
import Derived.Deep.QuietTactic

/- Sorts in the specification: kept in two rows, as numbers that lead to others. -/
namespace Go.Proofs.Ytdfelpahacmdpaa.T1
open Go.RowKit
set_option maxRecDepth 100000
set_option linter.unusedVariables false
set_option linter.unusedSimpArgs false

def cS (o : Option Nat) : Int := match o with
  | some x => (x : Int)
  | none => -1
def rF (N : Nat) (f : Nat → Nat) : List Value := (List.range N).map fun k => .int .i64 (f k : Int)
def rC (N : Nat) (c : Nat → Option Nat) : List Value := (List.range N).map fun k => .int .i64 (cS (c k))
theorem rF_at (N : Nat) (f : Nat → Nat) {k : Nat} (hk : k < N) : (rF N f)[k]? = some (.int .i64 (f k : Int)) := by simp [rF, hk]
theorem rC_at (N : Nat) (c : Nat → Option Nat) {k : Nat} (hk : k < N) : (rC N c)[k]? = some (.int .i64 (cS (c k))) := by simp [rC, hk]
theorem rF_set (N : Nat) (f : Nat → Nat) (q a : Nat) : (rF N f).set q (.int .i64 (a : Int)) = rF N (up6 f q a) := by
  apply List.ext_getElem?
  intro k
  rw [List.getElem?_set]
  simp only [rF, List.getElem?_map, List.length_map, List.length_range]
  rcases Nat.lt_or_ge k N with h | h
  · by_cases e : q = k
    · subst e; simp [h, up6]
    · have e2 : ¬ k = q := fun h => e h.symm
      simp [h, up6, e, e2]
  · by_cases e : q = k
    · subst e; rw [if_pos rfl, if_neg (by omega), List.getElem?_eq_none (by simpa using h)]; rfl
    · rw [if_neg e, List.getElem?_eq_none (by simpa using h)]; rfl
theorem rC_set (N : Nat) (c : Nat → Option Nat) (q : Nat) (v : Option Nat) : (rC N c).set q (.int .i64 (cS v)) = rC N (upC c q v) := by
  apply List.ext_getElem?
  intro k
  rw [List.getElem?_set]
  simp only [rC, List.getElem?_map, List.length_map, List.length_range]
  rcases Nat.lt_or_ge k N with h | h
  · by_cases e : q = k
    · subst e; simp [h, upC]
    · have e2 : ¬ k = q := fun h => e h.symm
      simp [h, upC, e, e2]
  · by_cases e : q = k
    · subst e; rw [if_pos rfl, if_neg (by omega), List.getElem?_eq_none (by simpa using h)]; rfl
    · rw [if_neg e, List.getElem?_eq_none (by simpa using h)]; rfl

theorem own_form6 {w : World} {base n : Nat} {e : TypeId} {v : Value} {xs : List Value} (h : w.ownsRow base e 1 v n xs) (hn : 0 < n) : ∃ g cap, v = .slice (some ⟨g, 0, none⟩) n cap := by
  rcases h.2 with ⟨_, h0⟩ | ⟨g, cap, cur, hv, _⟩
  · omega
  · exact ⟨g, cap, hv⟩
/-- Block b has two rows: who leads to whom, and what is carried. -/
structure SoAt (w : World) (b N : Nat) (f : Nat → Nat) (c : Nat → Option Nat) (v1 v2 : Value) : Prop where
  hb : ∃ T, w.heap[b]? = some (.cells #[v1, v2] T (0, 0))
  r1 : w.ownsRow (b + 1) 3 1 v1 N (rF N f)
  r2 : w.ownsRow (b + 1) 3 1 v2 N (rC N c)
  ne : ∀ g, v1.ownBlock = some g → v2.ownBlock ≠ some g
section
variable {w w' : World} {b N : Nat} {f : Nat → Nat} {c : Nat → Option Nat} {v1 v2 : Value}
theorem SoAt.lt (h : SoAt w b N f c v1 v2) : b < w.heap.size := by obtain ⟨T, h⟩ := h.hb; exact lt_of_block h
theorem SoAt.c1 (h : SoAt w b N f c v1 v2) : w.cell? ⟨b, 0, none⟩ = some v1 := by obtain ⟨T, h⟩ := h.hb; exact cellOf2a h
theorem SoAt.c2 (h : SoAt w b N f c v1 v2) : w.cell? ⟨b, 1, none⟩ = some v2 := by obtain ⟨T, h⟩ := h.hb; exact cellOf2b h
theorem SoAt.form (h : SoAt w b N f c v1 v2) (hN : 0 < N) : ∃ g1 k1 g2 k2, v1 = .slice (some ⟨g1, 0, none⟩) N k1 ∧ v2 = .slice (some ⟨g2, 0, none⟩) N k2 ∧ g1 ≠ g2 ∧ b < g1 ∧ b < g2 := by
  obtain ⟨g1, k1, e1⟩ := own_form6 h.r1 hN
  obtain ⟨g2, k2, e2⟩ := own_form6 h.r2 hN
  subst e1 e2
  have l1 := (h.r1.lt g1 rfl).1
  have l2 := (h.r2.lt g2 rfl).1
  exact ⟨g1, k1, g2, k2, rfl, rfl, fun e => h.ne g1 rfl (by rw [e]; rfl), by omega, by omega⟩
theorem SoAt.below (h : SoAt w b N f c v1 v2) (k : Below w.heap.size w w') : SoAt w' b N f c v1 v2 := by
  obtain ⟨T, hb⟩ := h.hb
  exact ⟨⟨T, (k.block _ (lt_of_block hb)).trans hb⟩, own_below2 h.r1 k, own_below2 h.r2 k, h.ne⟩
end
theorem SoAt.setF {w : World} {b N : Nat} {f : Nat → Nat} {c : Nat → Option Nat} {g1 k1 : Nat} {v2 : Value} (h : SoAt w b N f c (.slice (some ⟨g1, 0, none⟩) N k1) v2) {q a : Nat} : SoAt (w.setCell ⟨g1, q, none⟩ (.int .i64 (a : Int))) b N (up6 f q a) c (.slice (some ⟨g1, 0, none⟩) N k1) v2 := by
  have l1 := (h.r1.lt g1 rfl).1
  obtain ⟨T, hb⟩ := h.hb
  refine ⟨⟨T, (Below.heap_setCell _ _ _ _ (by show b ≠ g1; omega)).trans hb⟩, ?_, ?_, h.ne⟩
  · have := h.r1.stored q (.int .i64 (a : Int))
    rw [rF_set] at this; exact this.1
  · exact own_keep h.r2 fun g hg => Below.heap_setCell _ _ _ _ (fun e => h.ne g1 rfl (by rw [← (show g = g1 from e)]; exact hg))
theorem SoAt.setC {w : World} {b N : Nat} {f : Nat → Nat} {c : Nat → Option Nat} {g2 k2 : Nat} {v1 : Value} (h : SoAt w b N f c v1 (.slice (some ⟨g2, 0, none⟩) N k2)) {q : Nat} (v : Option Nat) : SoAt (w.setCell ⟨g2, q, none⟩ (.int .i64 (cS v))) b N f (upC c q v) v1 (.slice (some ⟨g2, 0, none⟩) N k2) := by
  have l1 := (h.r2.lt g2 rfl).1
  obtain ⟨T, hb⟩ := h.hb
  refine ⟨⟨T, (Below.heap_setCell _ _ _ _ (by show b ≠ g2; omega)).trans hb⟩, ?_, ?_, h.ne⟩
  · exact own_keep h.r1 fun g hg => Below.heap_setCell _ _ _ _ (fun e => h.ne g hg (by rw [show g = g2 from e]; rfl))
  · have := h.r2.stored q (.int .i64 (cS v))
    rw [rC_set] at this; exact this.1
/-- A block of the sorts. -/
def Own6 (w : World) (b i : Nat) : Prop := i = b ∨ ∃ v1 v2 T, w.heap[b]? = some (.cells #[v1, v2] T (0, 0)) ∧ (v1.ownBlock = some i ∨ v2.ownBlock = some i)
theorem Own6.same {w w' : World} {b : Nat} (e : w'.heap[b]? = w.heap[b]?) (i : Nat) : Own6 w' b i ↔ Own6 w b i := by unfold Own6; rw [e]
/-- Nothing but the sorts may have turned. -/
structure Bes (b : Nat) (w w' : World) : Prop where
  os : w'.os = w.os
  tape : w'.tape = w.tape
  output : w'.output = w.output
  size : w.heap.size ≤ w'.heap.size
  keep : ∀ i, i < w.heap.size → ¬ Own6 w b i → w'.heap[i]? = w.heap[i]? ∧ ¬ Own6 w' b i
theorem Bes.refl (b : Nat) (w : World) : Bes b w w := ⟨rfl, rfl, rfl, Nat.le_refl _, fun _ _ h => ⟨rfl, h⟩⟩
theorem Bes.trans {b : Nat} {u v w : World} (h : Bes b u v) (k : Bes b v w) : Bes b u w :=
  ⟨k.os.trans h.os, k.tape.trans h.tape, k.output.trans h.output, Nat.le_trans h.size k.size, fun i hi hn => by
    have h1 := h.keep i hi hn
    have h2 := k.keep i (Nat.lt_of_lt_of_le hi h.size) h1.2
    exact ⟨h2.1.trans h1.1, h2.2⟩⟩
theorem Bes.of_below {b : Nat} {v w : World} (k : Below v.heap.size v w) (hb : b < v.heap.size) : Bes b v w :=
  ⟨k.os, k.tape, k.output, k.size, fun i hi hn => ⟨k.block i hi, fun h => hn ((Own6.same (k.block b hb) i).1 h)⟩⟩
theorem Bes.set {b g : Nat} {w : World} (hg : Own6 w b g) (hne : g ≠ b) (o : Nat) (x : Value) : Bes b w (w.setCell ⟨g, o, none⟩ x) :=
  ⟨rfl, rfl, rfl, by simp [World.setCell], fun i hi hn => ⟨Below.heap_setCell _ _ _ _ (fun e => hn (by rw [show i = g from e]; exact hg)), fun h => hn ((Own6.same (Below.heap_setCell _ _ _ _ (by show b ≠ g; exact fun e => hne e.symm)) i).1 h)⟩⟩
theorem SoAt.own1 {w : World} {b N : Nat} {f : Nat → Nat} {c : Nat → Option Nat} {g1 k1 : Nat} {v2 : Value} (h : SoAt w b N f c (.slice (some ⟨g1, 0, none⟩) N k1) v2) : Own6 w b g1 := by
  obtain ⟨T, hb⟩ := h.hb; exact .inr ⟨_, _, T, hb, .inl rfl⟩
theorem SoAt.own2 {w : World} {b N : Nat} {f : Nat → Nat} {c : Nat → Option Nat} {g2 k2 : Nat} {v1 : Value} (h : SoAt w b N f c v1 (.slice (some ⟨g2, 0, none⟩) N k2)) : Own6 w b g2 := by
  obtain ⟨T, hb⟩ := h.hb; exact .inr ⟨_, _, T, hb, .inr rfl⟩

set_option maxHeartbeats 1000000 in
theorem root_any {w : World} {b N : Nat} {f r : Nat → Nat} {c : Nat → Option Nat} {v1 v2 : Value} (h : SoAt w b N f c v1 v2) (hr : Rt f r) (hf : ∀ k, k < N → f k < N) {k : Nat} (hk : k < N) :
    Calls Try.prog 33 #[.pointer (some ⟨b, 0, none⟩), .int .i64 (k : Int)] w fun e w' => e = .returned (.int .i64 (r k : Int)) ∧ w = w' := by
  obtain ⟨d, hd⟩ := hr.low
  obtain ⟨g1, k1, g2, k2, rfl, rfl, hgg, hb1, hb2⟩ := h.form (by omega)
  have H := Lib.hid h
  have HR := Lib.hid hr
  have HF := Lib.hid hf
  have HD := Lib.hid hd
  have cb := h.c1
  clear h hr hf hd
  go_enter Try.func33, Try.ntmps33
  go_wp2_with fail
  go_loopg [1] (d k) (fun g s1 wr => (∃ m : Nat, s1 = .int .i64 (m : Int) ∧ m < N ∧ Hid (d m ≤ g ∧ r m = r k)) ∧ wr = w)
  case atStart => exact ⟨⟨k, rfl, hk, ⟨Nat.le_refl _, rfl⟩⟩, rfl⟩
  case round =>
    obtain ⟨⟨m, rfl, hm, hmd⟩, rfl⟩ := hrel
    have c1 := (H.out.r1.cellAt m (by omega)).trans (rF_at N f hm)
    obtain ⟨fm, hfm⟩ : ∃ fm, fm = f m := ⟨_, rfl⟩
    rw [← hfm] at c1
    have HFM := Lib.hid hfm
    clear hfm
    by_cases e : fm = m
    · have q : ((fm : Int) != (m : Int)) = false := by rw [e]; simp
      go_wp2_with fail
      go_ret
      refine ⟨?_, rfl⟩
      have h1 := HR.out.stop m (by rw [← HFM.out, e])
      rw [← hmd.out.2, h1]; rfl
    · have q : ((fm : Int) != (m : Int)) = true := by simp; omega
      go_wp2_with fail
      have hD := HD.out m (by rw [← HFM.out]; exact e)
      rw [← HFM.out] at hD
      have hdm := hmd.out.1
      go_roundg (gk - 1)
      case measure => omega
      case rel => exact ⟨⟨fm, rfl, by rw [HFM.out]; exact HF.out m hm, ⟨by omega, by rw [HFM.out, HR.out.on]; exact hmd.out.2⟩⟩, rfl⟩

theorem Bes.drewN {b : Nat} {u w : World} (h : Bes b u w) (n : Nat) : Bes b u (w.drewN n) := h.trans ⟨rfl, rfl, rfl, Nat.le_refl _, fun i _ hn => ⟨rfl, hn⟩⟩
theorem num6_pos' {f : Nat → Nat} {N q : Nat} (hq : q < N) (h : f q = q) : 0 < num6 f N := by
  unfold num6
  rw [List.countP_pos_iff]
  exact ⟨q, List.mem_range.2 hq, by simp [h]⟩
set_option maxHeartbeats 2000000 in
theorem joinS_any {S C : Nat → Nat → Prop} {w : World} {b N : Nat} {f r : Nat → Nat} {c : Nat → Option Nat} {v1 v2 : Value} {p q : Nat} (h : SoAt w b N f c v1 v2) (hs : St6 S C N f r c p q) (hp : p < N) (hq : q < N) :
    Calls Try.prog 76 #[.pointer (some ⟨b, 0, none⟩), .int .i64 (p : Int), .int .i64 (q : Int)] w fun e w' => e = .returned (.tuple #[]) ∧ (∃ f' r' c', SoAt w' b N f' c' v1 v2 ∧ St6 S C N f' r' c' 0 0) ∧ Bes b w w' := by
  obtain ⟨g1, k1, g2, k2, rfl, rfl, hgg, hb1, hb2⟩ := h.form (by omega)
  have H := Lib.hid h
  have HS := Lib.hid hs
  clear h hs
  go_enter Try.func76, Try.ntmps76
  go_wp2_with fail
  go_loopg [1, 2] (num6 f N) (fun gk s1 s2 wr => (∃ p q : Nat, s1 = .int .i64 (p : Int) ∧ s2 = .int .i64 (q : Int) ∧ p < N ∧ q < N ∧ Hid (∃ f r c, num6 f N ≤ gk ∧ SoAt wr b N f c (.slice (some ⟨g1, 0, none⟩) N k1) (.slice (some ⟨g2, 0, none⟩) N k2) ∧ St6 S C N f r c p q)) ∧ Hid (Bes b w wr))
  case atStart => exact ⟨⟨p, q, rfl, rfl, hp, hq, ⟨f, r, c, Nat.le_refl _, H.out, HS.out⟩⟩, Bes.refl _ _⟩
  case round =>
    clear hp hq H HS
    obtain ⟨⟨p, q, rfl, rfl, hp, hq, hx⟩, bw⟩ := hrel
    obtain ⟨f, r, c, hn, h, hs⟩ := hx.out
    clear hx
    have Hn := Lib.hid hn
    have H := Lib.hid h
    have HS := Lib.hid hs
    have Hp := Lib.hid (root_any h hs.rt hs.lt hp)
    have Hq := Lib.hid (root_any h hs.rt hs.lt hq)
    have rp : r p < N := hs.rlt hp
    have rq : r q < N := hs.rlt hq
    have cb1 := h.c1
    have cb2 := h.c2
    by_cases e : r p = r q
    · have HD := Lib.hid (hs.done e 0)
      have qe : ((r p : Int) == (r q : Int)) = true := by rw [e]; simp
      obtain ⟨m, hm⟩ : ∃ m, m = r p := ⟨_, rfl⟩
      obtain ⟨m2, hm2⟩ : ∃ m, m = r q := ⟨_, rfl⟩
      rw [← hm] at Hp qe
      rw [← hm2] at Hq qe
      clear h hs hn e hm hm2
      go_wp2_with fail
      refine (Hp.out).mono ?_
      rintro e w1 ⟨rfl, rfl⟩
      go_wp2_with fail
      refine (Hq.out).mono ?_
      rintro e w1 ⟨rfl, rfl⟩
      go_wp2_with fail
      (try simp only [Exit.inBlock, Exit.then]); refine bodyPost_ret (results_none rfl _ _ _) rfl ?_
      exact ⟨rfl, ⟨f, r, c, H.out, HD.out⟩, bw.out⟩
    · have HT := Lib.hid (hs.step hp hq e)
      have HF := Lib.hid (hs.fewer hq e)
      have qe : ((r p : Int) == (r q : Int)) = false := by simp; omega
      have x1 := (h.r2.cellAt (r p) (by omega)).trans (rC_at N c rp)
      have x2 := (h.r2.cellAt (r q) (by omega)).trans (rC_at N c rq)
      have x3 := (h.r1.cellAt (r q) (by omega)).trans (rF_at N f rq)
      have y3 := h.r1.frozenAt (r q)
      have y1 := h.r2.frozenAt (r p)
      have hw1 : ∀ n, SoAt (wr.drewN n) b N f c (.slice (some ⟨g1, 0, none⟩) N k1) (.slice (some ⟨g2, 0, none⟩) N k2) := fun n => h.below ((Below.refl _ wr).trans ⟨rfl, rfl, rfl, Nat.le_refl _, fun _ _ => rfl⟩)
      have H2 := Lib.hid (fun n => (hw1 n).setF (q := r q) (a := r p))
      have B2 := Lib.hid (fun n => (bw.out.drewN n).trans (Bes.set (hw1 n).own1 (by omega) (r q) (.int .i64 (r p : Int))))
      have cb3 := fun n => (H2.out n).c2
      have x4 := fun n => ((H2.out n).r2.cellAt (r p) (by omega)).trans (rC_at N c rp)
      have y4 := fun n => (H2.out n).r2.frozenAt (r p)
      have rpos := num6_pos' rp (hs.rt.fix p)
      cases e1 : c (r p) with
      | none =>
        have HD := Lib.hid (HT.out.2.1 e1 0)
        have H3 := Lib.hid (fun n => (H2.out n).setC (q := r p) (c (r q)))
        have B3 := Lib.hid (fun n => (B2.out n).trans (Bes.set (H2.out n).own2 (by omega) (r p) (.int .i64 (cS (c (r q))))))
        rw [e1] at x1 x4
        have x1' : wr.cell? ⟨g2, r p, none⟩ = some (.int .i64 (-1)) := x1
        have x4' : ∀ n, ((wr.drewN n).setCell ⟨g1, r q, none⟩ (.int .i64 (r p : Int))).cell? ⟨g2, r p, none⟩ = some (.int .i64 (-1)) := x4
        obtain ⟨xq, hxq⟩ : ∃ xq, xq = cS (c (r q)) := ⟨_, rfl⟩
        obtain ⟨fo, hfo⟩ : ∃ fo, fo = f (r q) := ⟨_, rfl⟩
        rw [← hxq] at x2 H3 B3
        rw [← hfo] at x3
        obtain ⟨m, hm⟩ : ∃ m, m = r p := ⟨_, rfl⟩
        obtain ⟨m2, hm2⟩ : ∃ m, m = r q := ⟨_, rfl⟩
        rw [← hm] at Hp qe x1' H2 H3 B2 B3 y1 cb3 x4' y4 HD rp
        rw [← hm2] at Hq qe x2 x3 y3 H2 H3 B2 B3 cb3 x4' y4 HD rq
        clear h hs hn e e1 hm hm2 hxq hfo x1 x4 HT HF hw1 HS rpos
        go_wp2_with fail
        refine (Hp.out).mono ?_
        rintro e w1 ⟨rfl, rfl⟩
        go_wp2_with fail
        refine (Hq.out).mono ?_
        rintro e w1 ⟨rfl, rfl⟩
        go_wp2_with fail
        go_quiet (fail)
        go_wp2_with fail
        (try simp only [Exit.inBlock, Exit.then]); refine bodyPost_ret (results_none rfl _ _ _) rfl ?_
        exact ⟨rfl, ⟨_, _, _, H3.out nq, HD.out⟩, B3.out nq⟩
      | some x =>
        have hx : x < N := hs.clt _ _ e1
        rw [e1] at x1
        have x1' : wr.cell? ⟨g2, r p, none⟩ = some (.int .i64 (x : Int)) := x1
        cases e2 : c (r q) with
        | none =>
          have HD := Lib.hid (HT.out.2.2 e2 0)
          rw [e2] at x2
          have x2' : wr.cell? ⟨g2, r q, none⟩ = some (.int .i64 (-1)) := x2
          obtain ⟨fo, hfo⟩ : ∃ fo, fo = f (r q) := ⟨_, rfl⟩
          rw [← hfo] at x3
          obtain ⟨m, hm⟩ : ∃ m, m = r p := ⟨_, rfl⟩
          obtain ⟨m2, hm2⟩ : ∃ m, m = r q := ⟨_, rfl⟩
          rw [← hm] at Hp qe x1' H2 B2 y1 cb3 HD rp
          rw [← hm2] at Hq qe x2' x3 y3 H2 B2 cb3 HD rq
          clear h hs hn e e1 e2 hm hm2 hfo x1 x2 x4 y4 HT HF hw1 HS rpos
          go_wp2_with fail
          refine (Hp.out).mono ?_
          rintro e w1 ⟨rfl, rfl⟩
          go_wp2_with fail
          refine (Hq.out).mono ?_
          rintro e w1 ⟨rfl, rfl⟩
          go_wp2_with fail
          go_quiet (fail)
          go_wp2_with fail
          (try simp only [Exit.inBlock, Exit.then]); refine bodyPost_ret (results_none rfl _ _ _) rfl ?_
          exact ⟨rfl, ⟨_, _, _, H2.out nq, HD.out⟩, B2.out nq⟩
        | some y =>
          have hy : y < N := hs.clt _ _ e2
          have HD := Lib.hid (HT.out.1 x y e1 e2)
          have HF2 := Lib.hid HF.out
          rw [e2] at x2
          have x2' : wr.cell? ⟨g2, r q, none⟩ = some (.int .i64 (y : Int)) := x2
          obtain ⟨fo, hfo⟩ : ∃ fo, fo = f (r q) := ⟨_, rfl⟩
          rw [← hfo] at x3
          obtain ⟨m, hm⟩ : ∃ m, m = r p := ⟨_, rfl⟩
          obtain ⟨m2, hm2⟩ : ∃ m, m = r q := ⟨_, rfl⟩
          rw [← hm] at Hp qe x1' H2 B2 y1 cb3 HD rp HF2
          rw [← hm2] at Hq qe x2' x3 y3 H2 B2 cb3 HD rq HF2
          clear h hs hn e e1 e2 hm hm2 hfo x1 x2 x4 y4 HT HF hw1 HS rpos
          go_wp2_with fail
          refine (Hp.out).mono ?_
          rintro e w1 ⟨rfl, rfl⟩
          go_wp2_with fail
          refine (Hq.out).mono ?_
          rintro e w1 ⟨rfl, rfl⟩
          go_wp2_with fail
          go_quiet (fail)
          go_wp2_with fail
          have a1 := Hn.out
          have a2 := HF2.out
          go_roundg (num6 (up6 f m2 m) N)
          case measure => omega
          case rel => exact ⟨⟨x, y, rfl, rfl, hx, hy, ⟨_, _, _, Nat.le_refl _, H2.out nq, HD.out⟩⟩, B2.out nq⟩
set_option maxHeartbeats 2000000 in
theorem carryS_any {S C : Nat → Nat → Prop} {w : World} {b N : Nat} {f r : Nat → Nat} {c : Nat → Option Nat} {v1 v2 : Value} {k x : Nat} (h : SoAt w b N f c v1 v2) (hr : Rt f r) (hf : ∀ k, k < N → f k < N) (hk : k < N) (hx : x < N)
    (h1 : c (r k) = none → St6 S C N f r (upC c (r k) (some x)) 0 0) (h2 : ∀ y, c (r k) = some y → St6 S C N f r c y x) :
    Calls Try.prog 73 #[.pointer (some ⟨b, 0, none⟩), .int .i64 (k : Int), .int .i64 (x : Int)] w fun e w' => e = .returned (.tuple #[]) ∧ (∃ f' r' c', SoAt w' b N f' c' v1 v2 ∧ St6 S C N f' r' c' 0 0) ∧ Bes b w w' := by
  obtain ⟨g1, k1, g2, k2, rfl, rfl, hgg, hb1, hb2⟩ := h.form (by omega)
  have H := Lib.hid h
  have Hp := Lib.hid (root_any h hr hf hk)
  have rk : r k < N := hr.lt hf k hk
  have cb2 := h.c2
  have x1 := (h.r2.cellAt (r k) (by omega)).trans (rC_at N c rk)
  have y1 := h.r2.frozenAt (r k)
  have H2 := Lib.hid (h.setC (q := r k) (some x))
  have B2 := Lib.hid (Bes.set h.own2 (by omega) (r k) (.int .i64 (x : Int)))
  cases e : c (r k) with
  | none =>
    have HS := Lib.hid (h1 e)
    rw [e] at x1
    have x1' : w.cell? ⟨g2, r k, none⟩ = some (.int .i64 (-1)) := x1
    obtain ⟨m, hm⟩ : ∃ m, m = r k := ⟨_, rfl⟩
    rw [← hm] at Hp x1' y1 H2 B2 HS rk
    clear h hr hf h1 h2 e hm x1
    go_enter Try.func73, Try.ntmps73
    go_wp2_with fail
    refine (Hp.out).mono ?_
    rintro e w1 ⟨rfl, rfl⟩
    go_wp2_with fail
    (try simp only [Exit.inBlock, Exit.then]); refine bodyPost_ret (results_none rfl _ _ _) rfl ?_
    exact ⟨rfl, ⟨_, _, _, H2.out, HS.out⟩, B2.out⟩
  | some y =>
    have hy : y < N := (h2 y e).clt _ _ e
    have HJ := Lib.hid (joinS_any h (h2 y e) hy hx)
    rw [e] at x1
    have x1' : w.cell? ⟨g2, r k, none⟩ = some (.int .i64 (y : Int)) := x1
    obtain ⟨m, hm⟩ : ∃ m, m = r k := ⟨_, rfl⟩
    rw [← hm] at Hp x1' y1 H2 B2 rk
    clear h hr hf h1 h2 e hm x1 H2 B2
    go_enter Try.func73, Try.ntmps73
    go_wp2_with fail
    refine (Hp.out).mono ?_
    rintro e w1 ⟨rfl, rfl⟩
    go_wp2_with fail
    refine (HJ.out).mono ?_
    rintro e w1 ⟨rfl, hpost⟩
    have HP := Lib.hid hpost
    clear hpost
    go_wp2_with fail
    go_end0
    exact ⟨rfl, HP.out⟩

end Go.Proofs.Ytdfelpahacmdpaa.T1
