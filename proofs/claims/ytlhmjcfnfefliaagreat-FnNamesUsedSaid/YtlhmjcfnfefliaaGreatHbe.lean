/- Texts of the proof, put together: Vr, Vs. No conditions. -/
import Derived.Test.YtlhmjcfnfefliaaGreatHao
import Derived.Test.YtlhmjcfnfefliaaGreatHat
import Derived.Test.YtlhmjcfnfefliaaGreatHbd
import Derived.Deep.RegionWith

/- Sorts in the specification: the walk over a process. -/
namespace Go.Proofs.YtlhmjcfnfefliaaGreat.T1
open Go.RowKit
set_option maxRecDepth 100000
set_option linter.unusedVariables false
set_option linter.unusedSimpArgs false

structure BesB (B b : Nat) (w w' : World) : Prop where
  os : w'.os = w.os
  tape : w'.tape = w.tape
  output : w'.output = w.output
  size : w.heap.size ≤ w'.heap.size
  keep : ∀ i, i < B → ¬ Own6 w b i → w'.heap[i]? = w.heap[i]? ∧ ¬ Own6 w' b i
theorem BesB.refl (B b : Nat) (w : World) : BesB B b w w := ⟨rfl, rfl, rfl, Nat.le_refl _, fun _ _ h => ⟨rfl, h⟩⟩
theorem BesB.bes {B b : Nat} {u v w : World} (h : BesB B b u v) (k : Bes b v w) (hB : B ≤ v.heap.size) : BesB B b u w :=
  ⟨k.os.trans h.os, k.tape.trans h.tape, k.output.trans h.output, Nat.le_trans h.size k.size, fun i hi hn => by
    have h1 := h.keep i hi hn
    have h2 := k.keep i (by omega) h1.2
    exact ⟨h2.1.trans h1.1, h2.2⟩⟩
theorem BesB.below {B b : Nat} {u v w : World} (h : BesB B b u v) (k : Below v.heap.size v w) (hb : b < v.heap.size) (hB : B ≤ v.heap.size) : BesB B b u w := h.bes (Bes.of_below k hb) hB
theorem BesB.toBes {b : Nat} {w w' : World} (h : BesB w.heap.size b w w') : Bes b w w' := ⟨h.os, h.tape, h.output, h.size, h.keep⟩
theorem BesB.set {B b g o : Nat} {u v : World} {x : Value} (h : BesB B b u v) (hg : B ≤ g) (hgb : g ≠ b) : BesB B b u (v.setCell ⟨g, o, none⟩ x) :=
  ⟨h.os, h.tape, h.output, by have := h.size; simpa [World.setCell] using this, fun i hi hn => by
    have h1 := h.keep i hi hn
    refine ⟨(Below.heap_setCell _ _ _ _ (by show i ≠ g; omega)).trans h1.1, fun ho => h1.2 ((Own6.same (Below.heap_setCell _ _ _ _ (by show b ≠ g; omega)) i).1 ho)⟩⟩
theorem SoAt.own_lt {w : World} {b N : Nat} {f : Nat → Nat} {c : Nat → Option Nat} {v1 v2 : Value} (h : SoAt w b N f c v1 v2) {i : Nat} (ho : Own6 w b i) : i < w.heap.size := by
  rcases ho with rfl | ⟨a1, a2, T, h1, h2⟩
  · exact h.lt
  · obtain ⟨T2, hb⟩ := h.hb
    rw [hb] at h1
    simp only [Option.some.injEq, Obj.cells.injEq, Array.mk.injEq, List.cons.injEq] at h1
    obtain ⟨⟨rfl, rfl, _⟩, _⟩ := h1
    rcases h2 with h2 | h2
    · exact (h.r1.lt i h2).2
    · exact (h.r2.lt i h2).2
/-- Block b has N sorts, and what l asks is done. -/
def SpSta (w : World) (b N : Nat) (l : List (Bool × Nat × Nat)) : Prop := ∃ f r c v1 v2, SoAt w b N f c v1 v2 ∧ St6 (S6 l) (C6 l) N f r c 0 0
theorem SpSta.lt {w : World} {b N : Nat} {l : List (Bool × Nat × Nat)} (h : SpSta w b N l) : b < w.heap.size := by obtain ⟨f, r, c, v1, v2, h, _⟩ := h; exact h.lt
theorem SpSta.own_lt {w : World} {b N : Nat} {l : List (Bool × Nat × Nat)} (h : SpSta w b N l) {i : Nat} (ho : Own6 w b i) : i < w.heap.size := by obtain ⟨f, r, c, v1, v2, h, _⟩ := h; exact h.own_lt ho
theorem SpSta.below {w w' : World} {b N : Nat} {l : List (Bool × Nat × Nat)} (h : SpSta w b N l) (k : Below w.heap.size w w') : SpSta w' b N l := by
  obtain ⟨f, r, c, v1, v2, h, hs⟩ := h; exact ⟨f, r, c, v1, v2, h.below k, hs⟩
theorem SpSta.set {w : World} {b N g o : Nat} {x : Value} {l : List (Bool × Nat × Nat)} (h : SpSta w b N l) (hn : ¬ Own6 w b g) : SpSta (w.setCell ⟨g, o, none⟩ x) b N l := by
  obtain ⟨f, r, c, v1, v2, h, hs⟩ := h
  obtain ⟨T, hb⟩ := h.hb
  have hgb : b ≠ g := fun e => hn (.inl e.symm)
  refine ⟨f, r, c, v1, v2, ⟨⟨T, (Below.heap_setCell _ _ _ _ hgb).trans hb⟩, own_keep h.r1 fun i hi => Below.heap_setCell _ _ _ _ (fun e => hn (.inr ⟨_, _, T, hb, .inl (by rw [← (show i = g from e)]; exact hi)⟩)), own_keep h.r2 fun i hi => Below.heap_setCell _ _ _ _ (fun e => hn (.inr ⟨_, _, T, hb, .inr (by rw [← (show i = g from e)]; exact hi)⟩)), h.ne⟩, hs⟩
theorem sp_fresh {w : World} {b N : Nat} {l : List (Bool × Nat × Nat)} (h : SpSta w b N l) (hN : N ≤ 1000) : Calls Tryz.prog 60 #[.pointer (some ⟨b, 0, none⟩)] w fun e w' => e = .returned (.int .i64 (N : Int)) ∧ SpSta w' b (N + 1) l ∧ Bes b w w' := by
  obtain ⟨f, r, c, v1, v2, h, hs⟩ := h
  refine (fresh_any h hN (hs.out N (Nat.le_refl _)).1 (hs.out N (Nat.le_refl _)).2).mono ?_
  rintro e w' ⟨he, ⟨u1, u2, a1⟩, a2⟩
  exact ⟨he, ⟨f, r, c, u1, u2, a1, hs.fresh⟩, a2⟩
theorem sp_join {w : World} {b N : Nat} {l : List (Bool × Nat × Nat)} (h : SpSta w b N l) {i j : Nat} (hi : i < N) (hj : j < N) : Calls Tryz.prog 96 #[.pointer (some ⟨b, 0, none⟩), .int .i64 (i : Int), .int .i64 (j : Int)] w fun e w' => e = .returned (.tuple #[]) ∧ SpSta w' b N (l ++ [(false, i, j)]) ∧ Bes b w w' := by
  obtain ⟨f, r, c, v1, v2, h, hs⟩ := h
  have h3 := hs.more i j
  rw [← S6_same, ← C6_same l i j] at h3
  refine (joinS_any h h3 hi hj).mono ?_
  rintro e w' ⟨he, ⟨f', r', c', a1, a2⟩, a3⟩
  exact ⟨he, ⟨f', r', c', _, _, a1, a2⟩, a3⟩
theorem sp_carry {w : World} {b N : Nat} {l : List (Bool × Nat × Nat)} (h : SpSta w b N l) {i j : Nat} (hi : i < N) (hj : j < N) : Calls Tryz.prog 93 #[.pointer (some ⟨b, 0, none⟩), .int .i64 (i : Int), .int .i64 (j : Int)] w fun e w' => e = .returned (.tuple #[]) ∧ SpSta w' b N (l ++ [(true, i, j)]) ∧ Bes b w w' := by
  obtain ⟨f, r, c, v1, v2, h, hs⟩ := h
  refine (carryS_any (S := S6 (l ++ [(true, i, j)])) (C := C6 (l ++ [(true, i, j)])) h hs.rt hs.lt hi hj (fun e => ?_) (fun y e => ?_)).mono ?_
  · rw [S6_carry, C6_carry]; exact hs.first hi hj e
  · rw [S6_carry, C6_carry]; exact hs.again e
  rintro e w' ⟨he, ⟨f', r', c', a1, a2⟩, a3⟩
  exact ⟨he, ⟨f', r', c', _, _, a1, a2⟩, a3⟩
/-- A scope that lies beside the sorts. -/
structure SEnv (w : World) (b : Nat) (s : ByteArray) (v : Value) (ns : List UInt8) (xs : List Nat) : Prop where
  sc : ScAt w s v ns xs
  no : ∀ g, v.ownBlock = some g → ¬ Own6 w b g
theorem SEnv.bes {w w' : World} {b : Nat} {s : ByteArray} {v : Value} {ns : List UInt8} {xs : List Nat} (h : SEnv w b s v ns xs) (k : Bes b w w') : SEnv w' b s v ns xs :=
  ⟨h.sc.keep fun g hg => (k.keep g (h.sc.row.lt g hg).2 (h.no g hg)).1, fun g hg => (k.keep g (h.sc.row.lt g hg).2 (h.no g hg)).2⟩
theorem SEnv.below {w w' : World} {b : Nat} {s : ByteArray} {v : Value} {ns : List UInt8} {xs : List Nat} (h : SEnv w b s v ns xs) (k : Below w.heap.size w w') (hb : b < w.heap.size) : SEnv w' b s v ns xs := h.bes (Bes.of_below k hb)
theorem SEnv.set {w : World} {b g o : Nat} {x : Value} {s : ByteArray} {v : Value} {ns : List UInt8} {xs : List Nat} (h : SEnv w b s v ns xs) (hg : v.ownBlock ≠ some g) (hgb : b ≠ g) : SEnv (w.setCell ⟨g, o, none⟩ x) b s v ns xs :=
  ⟨h.sc.keep fun i hi => Below.heap_setCell _ _ _ _ (fun e => hg (by rw [← (show i = g from e)]; exact hi)), fun i hi ho => h.no i hi ((Own6.same (Below.heap_setCell _ _ _ _ hgb) i).1 ho)⟩
/-- The block in which the scope lies. -/
structure Box6 (w : World) (b k : Nat) (s : ByteArray) (v : Value) : Prop where
  at_ : ∃ T, w.heap[k]? = some (.cells #[.string s, v] T (0, 0))
  no : ¬ Own6 w b k
theorem Box6.bes {w w' : World} {b k : Nat} {s : ByteArray} {v : Value} (h : Box6 w b k s v) (q : Bes b w w') : Box6 w' b k s v := by
  obtain ⟨T, ht⟩ := h.at_
  have := q.keep k (lt_of_block ht) h.no
  exact ⟨⟨T, this.1.trans ht⟩, this.2⟩
theorem Box6.below {w w' : World} {b k : Nat} {s : ByteArray} {v : Value} (h : Box6 w b k s v) (q : Below w.heap.size w w') (hb : b < w.heap.size) : Box6 w' b k s v := h.bes (Bes.of_below q hb)
theorem Box6.c0 {w : World} {b k : Nat} {s : ByteArray} {v : Value} (h : Box6 w b k s v) : w.cell? ⟨k, 0, none⟩ = some (.string s) := by obtain ⟨T, h⟩ := h.at_; exact cellOf2a h
theorem Box6.c1 {w : World} {b k : Nat} {s : ByteArray} {v : Value} (h : Box6 w b k s v) : w.cell? ⟨k, 1, none⟩ = some v := by obtain ⟨T, h⟩ := h.at_; exact cellOf2b h
theorem Box6.f {w : World} {b k : Nat} {s : ByteArray} {v : Value} (h : Box6 w b k s v) (j : Nat) : w.frozen? ⟨k, j, none⟩ = false := by obtain ⟨T, h⟩ := h.at_; exact cellsFree h j
theorem Box6.lt {w : World} {b k : Nat} {s : ByteArray} {v : Value} (h : Box6 w b k s v) : k < w.heap.size := by obtain ⟨T, h⟩ := h.at_; exact lt_of_block h
theorem Box6.set {w : World} {b k : Nat} {s s' : ByteArray} {v v' : Value} (h : Box6 w b k s v) : Box6 ((w.setCell ⟨k, 0, none⟩ (.string s')).setCell ⟨k, 1, none⟩ v') b k s' v' := by
  obtain ⟨T, ht⟩ := h.at_
  have hbk : b ≠ k := fun e => h.no (.inl e.symm)
  refine ⟨⟨T, (set_two (set_two ht).1).2⟩, fun ho => h.no ?_⟩
  exact (Own6.same ((Below.heap_setCell _ _ _ _ hbk).trans (Below.heap_setCell _ _ _ _ hbk)) k).1 ho
def SP (b N' : Nat) (l' : List (Bool × Nat × Nat)) (w : World) (e : Ending) (w' : World) : Prop := e = .returned (.tuple #[]) ∧ SpSta w' b N' l' ∧ Bes b w w'

set_option maxHeartbeats 1000000 in
theorem sw_0 (b N : Nat) (l : List (Bool × Nat × Nat)) (X s : ByteArray) (v : Value) (ns : List UInt8) (xs : List Nat) (w : World) (kd : Int) (q1 : (kd == 33) = false) (q2 : (kd == 63) = false) (q3 : (kd == 35) = false) (q4 : (kd == 61) = false) (HK : ∀ w, Calls Tryz.prog 66 #[.string X] w fun e w' => e = .returned (.int .u8 kd) ∧ w = w') (HP : ∀ w, Calls Tryz.prog 62 #[.string X] w (PartsS [] w)) (he : SEnv w b s v ns xs) (hs : SpSta w b N l) : Calls Tryz.prog 61 #[.pointer (some ⟨b, 0, none⟩), .string X, .agg #[.string s, v]] w (SP b N l w) := by
  have hblt := hs.lt
  have bW : Below w.heap.size w (w.alloc (.cells #[.string s, v] 97)) := (Below.refl _ _).alloc (Nat.le_refl _) _
  have hbx := Lib.hid (show Box6 (w.alloc (.cells #[.string s, v] 97)) b w.heap.size s v from ⟨⟨_, new_block0 w _⟩, fun ho => absurd (hs.own_lt ((Own6.same (bW.block b hblt) _).1 ho)) (Nat.lt_irrefl _)⟩)
  have hE := Lib.hid (he.below bW hblt)
  have hS := Lib.hid (hs.below bW)
  have hO := Lib.hid ((BesB.refl w.heap.size b w).below bW hblt (Nat.le_refl _))
  have hWs : w.heap.size < (w.alloc (.cells #[.string s, v] 97)).heap.size := by simp
  obtain ⟨W, hW⟩ : ∃ W, W = w.alloc (.cells #[.string s, v] 97) := ⟨_, rfl⟩
  rw [← hW] at hbx hE hS hO hWs
  have hbW : b < W.heap.size := by omega
  have HP' := Lib.hid HP
  have HK' := Lib.hid HK
  clear HP HK he hs bW
  go_enter Tryz.func61, Tryz.ntmps61
  go_wp2_with fail
  rw [← hW]
  clear hW
  refine (HK'.out _).mono ?_
  rintro e w1 ⟨rfl, rfl⟩
  go_wp2_with fail
  refine (HP'.out _).mono ?_
  rintro e w8 ⟨rfl, b8⟩
  have S8 := Lib.hid (hS.out.below b8)
  have O8 := Lib.hid (hO.out.below b8 hbW (Nat.le_of_lt hWs))
  go_wp2_with fail
  refine wp_loop_rounds 1 ?_
  rw [rounds_succ]
  go_wp2_with fail
  go_end0
  exact ⟨rfl, S8.out, O8.out.toBes⟩
set_option maxHeartbeats 1000000 in
theorem sw_1 (b N : Nat) (l : List (Bool × Nat × Nat)) (X s : ByteArray) (v : Value) (ns : List UInt8) (xs : List Nat) (w : World) (u : ByteArray) (N' : Nat) (l' : List (Bool × Nat × Nat)) (kd : Int) (q1 : (kd == 33) = false) (q2 : (kd == 63) = false) (q3 : (kd == 35) = false) (q4 : (kd == 61) = false) (HK : ∀ w, Calls Tryz.prog 66 #[.string X] w fun e w' => e = .returned (.int .u8 kd) ∧ w = w') (HP : ∀ w, Calls Tryz.prog 62 #[.string X] w fun e w' => ∃ b, e = .returned (.slice (some ⟨b, 0, none⟩) 1 1) ∧ w.heap.size ≤ b ∧ w'.heap[b]? = some (.cells #[.string u] 9 (0, 0)) ∧ Below w.heap.size w w') (he : SEnv w b s v ns xs) (hs : SpSta w b N l)
    (ih : ∀ w1, SEnv w1 b s v ns xs → SpSta w1 b N l → Calls Tryz.prog 61 #[.pointer (some ⟨b, 0, none⟩), .string u, .agg #[.string s, v]] w1 (SP b N' l' w1)) : Calls Tryz.prog 61 #[.pointer (some ⟨b, 0, none⟩), .string X, .agg #[.string s, v]] w (SP b N' l' w) := by
  have hblt := hs.lt
  have bW : Below w.heap.size w (w.alloc (.cells #[.string s, v] 97)) := (Below.refl _ _).alloc (Nat.le_refl _) _
  have hbx := Lib.hid (show Box6 (w.alloc (.cells #[.string s, v] 97)) b w.heap.size s v from ⟨⟨_, new_block0 w _⟩, fun ho => absurd (hs.own_lt ((Own6.same (bW.block b hblt) _).1 ho)) (Nat.lt_irrefl _)⟩)
  have hE := Lib.hid (he.below bW hblt)
  have hS := Lib.hid (hs.below bW)
  have hO := Lib.hid ((BesB.refl w.heap.size b w).below bW hblt (Nat.le_refl _))
  have hWs : w.heap.size < (w.alloc (.cells #[.string s, v] 97)).heap.size := by simp
  obtain ⟨W, hW⟩ : ∃ W, W = w.alloc (.cells #[.string s, v] 97) := ⟨_, rfl⟩
  rw [← hW] at hbx hE hS hO hWs
  have hbW : b < W.heap.size := by omega
  have HP' := Lib.hid HP
  have HK' := Lib.hid HK
  have IH := Lib.hid ih
  clear HP HK he hs bW ih
  go_enter Tryz.func61, Tryz.ntmps61
  go_wp2_with fail
  rw [← hW]
  clear hW
  refine (HK'.out _).mono ?_
  rintro e w1 ⟨rfl, rfl⟩
  go_wp2_with fail
  refine (HP'.out _).mono ?_
  rintro e w8 ⟨bp, rfl, hbp, hh, b8⟩
  have X8 := Lib.hid (hbx.out.below b8 hbW)
  have E8 := Lib.hid (hE.out.below b8 hbW)
  have S8 := Lib.hid (hS.out.below b8)
  have O8 := Lib.hid (hO.out.below b8 hbW (Nat.le_of_lt hWs))
  have z8 := b8.size
  have hb8 : b < w8.heap.size := by omega
  have c0 := cellOf1 hh
  have k0 := X8.out.c0
  have k1 := X8.out.c1
  have Hh := Lib.hid hh
  have nP : Hid (¬ Own6 w8 b bp) := fun ho => absurd (hS.out.own_lt ((Own6.same (b8.block b hbW) bp).1 ho)) (by omega)
  clear hh
  go_wp2_with fail
  refine wp_loop_rounds 2 ?_
  rw [rounds_succ]
  go_wp2_with fail
  refine (IH.out _ E8.out S8.out).mono ?_
  rintro e w9 ⟨rfl, s9, o9⟩
  have S9 := Lib.hid s9
  have O9 := Lib.hid (O8.out.bes o9 (by omega))
  clear c0 k0 k1 s9
  go_wp2_with fail
  rw [rounds_succ]
  go_wp2_with fail
  go_end0
  exact ⟨rfl, S9.out, O9.out.toBes⟩

set_option maxHeartbeats 1000000 in
theorem sw_2 (b N : Nat) (l : List (Bool × Nat × Nat)) (X s : ByteArray) (v : Value) (ns : List UInt8) (xs : List Nat) (w : World) (u u2 : ByteArray) (N1 N' : Nat) (l1 l' : List (Bool × Nat × Nat)) (kd : Int) (q1 : (kd == 33) = false) (q2 : (kd == 63) = false) (q3 : (kd == 35) = false) (q4 : (kd == 61) = false) (HK : ∀ w, Calls Tryz.prog 66 #[.string X] w fun e w' => e = .returned (.int .u8 kd) ∧ w = w') (HP : ∀ w, Calls Tryz.prog 62 #[.string X] w fun e w' => ∃ b, e = .returned (.slice (some ⟨b, 0, none⟩) 2 2) ∧ w.heap.size ≤ b ∧ w'.heap[b]? = some (.cells #[.string u, .string u2] 9 (0, 0)) ∧ Below w.heap.size w w') (he : SEnv w b s v ns xs) (hs : SpSta w b N l)
    (ih : ∀ w1, SEnv w1 b s v ns xs → SpSta w1 b N l → Calls Tryz.prog 61 #[.pointer (some ⟨b, 0, none⟩), .string u, .agg #[.string s, v]] w1 (SP b N1 l1 w1))
    (ih2 : ∀ w1, SEnv w1 b s v ns xs → SpSta w1 b N1 l1 → Calls Tryz.prog 61 #[.pointer (some ⟨b, 0, none⟩), .string u2, .agg #[.string s, v]] w1 (SP b N' l' w1)) : Calls Tryz.prog 61 #[.pointer (some ⟨b, 0, none⟩), .string X, .agg #[.string s, v]] w (SP b N' l' w) := by
  have hblt := hs.lt
  have bW : Below w.heap.size w (w.alloc (.cells #[.string s, v] 97)) := (Below.refl _ _).alloc (Nat.le_refl _) _
  have hbx := Lib.hid (show Box6 (w.alloc (.cells #[.string s, v] 97)) b w.heap.size s v from ⟨⟨_, new_block0 w _⟩, fun ho => absurd (hs.own_lt ((Own6.same (bW.block b hblt) _).1 ho)) (Nat.lt_irrefl _)⟩)
  have hE := Lib.hid (he.below bW hblt)
  have hS := Lib.hid (hs.below bW)
  have hO := Lib.hid ((BesB.refl w.heap.size b w).below bW hblt (Nat.le_refl _))
  have hWs : w.heap.size < (w.alloc (.cells #[.string s, v] 97)).heap.size := by simp
  obtain ⟨W, hW⟩ : ∃ W, W = w.alloc (.cells #[.string s, v] 97) := ⟨_, rfl⟩
  rw [← hW] at hbx hE hS hO hWs
  have hbW : b < W.heap.size := by omega
  have HP' := Lib.hid HP
  have HK' := Lib.hid HK
  have IH := Lib.hid ih
  have IH2 := Lib.hid ih2
  clear HP HK he hs bW ih ih2
  go_enter Tryz.func61, Tryz.ntmps61
  go_wp2_with fail
  rw [← hW]
  clear hW
  refine (HK'.out _).mono ?_
  rintro e w1 ⟨rfl, rfl⟩
  go_wp2_with fail
  refine (HP'.out _).mono ?_
  rintro e w8 ⟨bp, rfl, hbp, hh, b8⟩
  have X8 := Lib.hid (hbx.out.below b8 hbW)
  have E8 := Lib.hid (hE.out.below b8 hbW)
  have S8 := Lib.hid (hS.out.below b8)
  have O8 := Lib.hid (hO.out.below b8 hbW (Nat.le_of_lt hWs))
  have z8 := b8.size
  have hb8 : b < w8.heap.size := by omega
  have c0 := cellOf2a hh
  have k0 := X8.out.c0
  have k1 := X8.out.c1
  have Hh := Lib.hid hh
  have nP : Hid (¬ Own6 w8 b bp) := fun ho => absurd (hS.out.own_lt ((Own6.same (b8.block b hbW) bp).1 ho)) (by omega)
  clear hh
  go_wp2_with fail
  refine wp_loop_rounds 3 ?_
  rw [rounds_succ]
  go_wp2_with fail
  refine (IH.out _ E8.out S8.out).mono ?_
  rintro e w9 ⟨rfl, s9, o9⟩
  have S9 := Lib.hid s9
  have O9 := Lib.hid (O8.out.bes o9 (by omega))
  have X9 := Lib.hid (X8.out.bes o9)
  have E9 := Lib.hid (E8.out.bes o9)
  have h9 := (o9.keep bp (lt_of_block Hh.out) nP.out).1.trans Hh.out
  have z9 := o9.size
  have c1 := cellOf2b h9
  have j0 := X9.out.c0
  have j1 := X9.out.c1
  clear c0 k0 k1 s9 h9
  go_wp2_with fail
  rw [rounds_succ]
  go_wp2_with fail
  refine (IH2.out _ E9.out S9.out).mono ?_
  rintro e w10 ⟨rfl, s10, o10⟩
  have S10 := Lib.hid s10
  have O10 := Lib.hid (O9.out.bes o10 (by omega))
  clear c1 j0 j1 s10
  go_wp2_with fail
  rw [rounds_succ]
  go_wp2_with fail
  go_end0
  exact ⟨rfl, S10.out, O10.out.toBes⟩

set_option maxHeartbeats 2000000 in
theorem sw_snd (b N : Nat) (l : List (Bool × Nat × Nat)) (X s : ByteArray) (v : Value) (ns : List UInt8) (xs : List Nat) (w : World) (u : ByteArray) (N' : Nat) (l' : List (Bool × Nat × Nat)) (hX : X.size ≤ 700) (hz : 2 < X.size) (hl : ns.length ≤ 1000) (ka kc : Nat) (hka : ka = fnd ns xs (X[0]'(by omega))) (hkc : kc = fnd ns xs (X[2]'(by omega))) (ha : ka < N) (hc : kc < N) (HK : ∀ w, Calls Tryz.prog 66 #[.string X] w fun e w' => e = .returned (.int .u8 33) ∧ w = w') (HP : ∀ w, Calls Tryz.prog 62 #[.string X] w fun e w' => ∃ b, e = .returned (.slice (some ⟨b, 0, none⟩) 1 1) ∧ w.heap.size ≤ b ∧ w'.heap[b]? = some (.cells #[.string u] 9 (0, 0)) ∧ Below w.heap.size w w') (he : SEnv w b s v ns xs) (hs : SpSta w b N l)
    (ih : ∀ w1, SEnv w1 b s v ns xs → SpSta w1 b N (l ++ [(true, ka, kc)]) → Calls Tryz.prog 61 #[.pointer (some ⟨b, 0, none⟩), .string u, .agg #[.string s, v]] w1 (SP b N' l' w1)) : Calls Tryz.prog 61 #[.pointer (some ⟨b, 0, none⟩), .string X, .agg #[.string s, v]] w (SP b N' l' w) := by
  have hblt := hs.lt
  have bW : Below w.heap.size w (w.alloc (.cells #[.string s, v] 97)) := (Below.refl _ _).alloc (Nat.le_refl _) _
  have hbx := Lib.hid (show Box6 (w.alloc (.cells #[.string s, v] 97)) b w.heap.size s v from ⟨⟨_, new_block0 w _⟩, fun ho => absurd (hs.own_lt ((Own6.same (bW.block b hblt) _).1 ho)) (Nat.lt_irrefl _)⟩)
  have hE := Lib.hid (he.below bW hblt)
  have hS := Lib.hid (hs.below bW)
  have hO := Lib.hid ((BesB.refl w.heap.size b w).below bW hblt (Nat.le_refl _))
  have hWs : w.heap.size < (w.alloc (.cells #[.string s, v] 97)).heap.size := by simp
  obtain ⟨W, hW⟩ : ∃ W, W = w.alloc (.cells #[.string s, v] 97) := ⟨_, rfl⟩
  rw [← hW] at hbx hE hS hO hWs
  have hbW : b < W.heap.size := by omega
  have HP' := Lib.hid HP
  have HK' := Lib.hid HK
  have IH := Lib.hid ih
  have HF0 : Hid (∀ w1, SEnv w1 b s v ns xs → Calls Tryz.prog 94 #[.agg #[.string s, v], .int .u8 (((X[0]'(by omega)).toNat : Nat) : Int)] w1 fun e w' => e = .returned (.int .i64 (ka : Int)) ∧ Below w1.heap.size w1 w') := fun w1 e1 => by rw [hka]; exact find_any e1.sc hl _
  have HF2 : Hid (∀ w1, SEnv w1 b s v ns xs → Calls Tryz.prog 94 #[.agg #[.string s, v], .int .u8 (((X[2]'(by omega)).toNat : Nat) : Int)] w1 fun e w' => e = .returned (.int .i64 (kc : Int)) ∧ Below w1.heap.size w1 w') := fun w1 e1 => by rw [hkc]; exact find_any e1.sc hl _
  have HC := Lib.hid (fun w1 (h1 : SpSta w1 b N l) => sp_carry h1 ha hc)
  clear HP HK he hs bW ih hka hkc
  go_enter Tryz.func61, Tryz.ntmps61
  go_wp2_with fail
  rw [← hW]
  clear hW
  refine (HK'.out _).mono ?_
  rintro e w1 ⟨rfl, rfl⟩
  have k0 := hbx.out.c0
  have k1 := hbx.out.c1
  have bD : Below W.heap.size W W.drew := (Below.refl _ _).drew
  have E0 := Lib.hid (hE.out.below bD hbW)
  have X0 := Lib.hid (hbx.out.below bD hbW)
  have S0 := Lib.hid (hS.out.below bD)
  have O0 := Lib.hid (hO.out.below bD hbW (Nat.le_of_lt hWs))
  clear bD
  have hbD : b < W.drew.heap.size := hbW
  go_wp2_with fail
  go_region_held3 (fun w' => w'.cell? ⟨w.heap.size, 0, none⟩ = some (.string s) ∧ w'.cell? ⟨w.heap.size, 1, none⟩ = some v) (first | exact ⟨k0, k1⟩ | exact ⟨r0, r1⟩ | exact ⟨t0, t1⟩ | exact ⟨z0, z1⟩)
    ((first
      | (go_at_call 94; (with_reducible refine (HF0.out _ E0.out).mono ?_); rintro e w1 ⟨rfl, d1⟩; have E1 := Lib.hid (E0.out.below d1 hbD); have X1 := Lib.hid (X0.out.below d1 hbD); have S1 := Lib.hid (S0.out.below d1); have O1 := Lib.hid (O0.out.below d1 hbD (Nat.le_of_lt hWs)); have y1 : W.heap.size ≤ w1.heap.size := d1.size; have hb1 : b < w1.heap.size := by omega
         have r0 := X1.out.c0; have r1 := X1.out.c1; clear d1)
      | (go_at_call 94; (with_reducible refine (HF2.out _ E1.out).mono ?_); rintro e w2 ⟨rfl, d2⟩; have E2 := Lib.hid (E1.out.below d2 hb1); have X2 := Lib.hid (X1.out.below d2 hb1); have S2 := Lib.hid (S1.out.below d2); have O2 := Lib.hid (O1.out.below d2 hb1 (by omega)); have y2 : W.heap.size ≤ w2.heap.size := Nat.le_trans y1 d2.size; have hb2 : b < w2.heap.size := by omega
         have t0 := X2.out.c0; have t1 := X2.out.c1; clear d2)
      | (go_at_call 93; (with_reducible refine (HC.out _ S2.out).mono ?_); rintro e w3 ⟨rfl, s3, d3⟩; have E3 := Lib.hid (E2.out.bes d3); have X3 := Lib.hid (X2.out.bes d3); have S3 := Lib.hid s3; have O3 := Lib.hid (O2.out.bes d3 (by omega)); have y3 : w.heap.size < w3.heap.size := by (have := d3.size; omega)
         have hb3 : b < w3.heap.size := by (have := d3.size; omega)
         have z0 := X3.out.c0; have z1 := X3.out.c1; clear d3 s3)
      | fail))
  all_goals
    go_wp2_with fail
    refine (HP'.out _).mono ?_
    rintro e w8 ⟨bp, rfl, hbp, hh, b8⟩
    have X8 := Lib.hid (X3.out.below b8 hb3)
    have E8 := Lib.hid (E3.out.below b8 hb3)
    have S8 := Lib.hid (S3.out.below b8)
    have O8 := Lib.hid (O3.out.below b8 hb3 (Nat.le_of_lt y3))
    have z8 := b8.size
    have hb8 : b < w8.heap.size := by omega
    have c0 := cellOf1 hh
    have k0 := X8.out.c0
    have k1 := X8.out.c1
    have Hh := Lib.hid hh
    have nP : Hid (¬ Own6 w8 b bp) := fun ho => absurd (S3.out.own_lt ((Own6.same (b8.block b hb3) bp).1 ho)) (by omega)
    clear hh
    go_wp2_with fail
    refine wp_loop_rounds 2 ?_
    rw [rounds_succ]
    go_wp2_with fail
    refine (IH.out _ E8.out S8.out).mono ?_
    rintro e w9 ⟨rfl, s9, o9⟩
    have S9 := Lib.hid s9
    have O9 := Lib.hid (O8.out.bes o9 (by omega))
    clear c0 k0 k1 s9
    go_wp2_with fail
    rw [rounds_succ]
    go_wp2_with fail
    go_end0
    exact ⟨rfl, S9.out, O9.out.toBes⟩

set_option maxHeartbeats 2000000 in
theorem sw_mat (b N : Nat) (l : List (Bool × Nat × Nat)) (X s : ByteArray) (v : Value) (ns : List UInt8) (xs : List Nat) (w : World) (u : ByteArray) (N' : Nat) (l' : List (Bool × Nat × Nat)) (hX : X.size ≤ 700) (hz : 3 < X.size) (hl : ns.length ≤ 1000) (ka kc : Nat) (hka : ka = fnd ns xs (X[1]'(by omega))) (hkc : kc = fnd ns xs (X[3]'(by omega))) (ha : ka < N) (hc : kc < N) (HK : ∀ w, Calls Tryz.prog 66 #[.string X] w fun e w' => e = .returned (.int .u8 61) ∧ w = w') (HP : ∀ w, Calls Tryz.prog 62 #[.string X] w fun e w' => ∃ b, e = .returned (.slice (some ⟨b, 0, none⟩) 1 1) ∧ w.heap.size ≤ b ∧ w'.heap[b]? = some (.cells #[.string u] 9 (0, 0)) ∧ Below w.heap.size w w') (he : SEnv w b s v ns xs) (hs : SpSta w b N l)
    (ih : ∀ w1, SEnv w1 b s v ns xs → SpSta w1 b N (l ++ [(false, ka, kc)]) → Calls Tryz.prog 61 #[.pointer (some ⟨b, 0, none⟩), .string u, .agg #[.string s, v]] w1 (SP b N' l' w1)) : Calls Tryz.prog 61 #[.pointer (some ⟨b, 0, none⟩), .string X, .agg #[.string s, v]] w (SP b N' l' w) := by
  have hblt := hs.lt
  have bW : Below w.heap.size w (w.alloc (.cells #[.string s, v] 97)) := (Below.refl _ _).alloc (Nat.le_refl _) _
  have hbx := Lib.hid (show Box6 (w.alloc (.cells #[.string s, v] 97)) b w.heap.size s v from ⟨⟨_, new_block0 w _⟩, fun ho => absurd (hs.own_lt ((Own6.same (bW.block b hblt) _).1 ho)) (Nat.lt_irrefl _)⟩)
  have hE := Lib.hid (he.below bW hblt)
  have hS := Lib.hid (hs.below bW)
  have hO := Lib.hid ((BesB.refl w.heap.size b w).below bW hblt (Nat.le_refl _))
  have hWs : w.heap.size < (w.alloc (.cells #[.string s, v] 97)).heap.size := by simp
  obtain ⟨W, hW⟩ : ∃ W, W = w.alloc (.cells #[.string s, v] 97) := ⟨_, rfl⟩
  rw [← hW] at hbx hE hS hO hWs
  have hbW : b < W.heap.size := by omega
  have HP' := Lib.hid HP
  have HK' := Lib.hid HK
  have IH := Lib.hid ih
  have HF0 : Hid (∀ w1, SEnv w1 b s v ns xs → Calls Tryz.prog 94 #[.agg #[.string s, v], .int .u8 (((X[1]'(by omega)).toNat : Nat) : Int)] w1 fun e w' => e = .returned (.int .i64 (ka : Int)) ∧ Below w1.heap.size w1 w') := fun w1 e1 => by rw [hka]; exact find_any e1.sc hl _
  have HF2 : Hid (∀ w1, SEnv w1 b s v ns xs → Calls Tryz.prog 94 #[.agg #[.string s, v], .int .u8 (((X[3]'(by omega)).toNat : Nat) : Int)] w1 fun e w' => e = .returned (.int .i64 (kc : Int)) ∧ Below w1.heap.size w1 w') := fun w1 e1 => by rw [hkc]; exact find_any e1.sc hl _
  have HC := Lib.hid (fun w1 (h1 : SpSta w1 b N l) => sp_join h1 ha hc)
  clear HP HK he hs bW ih hka hkc
  go_enter Tryz.func61, Tryz.ntmps61
  go_wp2_with fail
  rw [← hW]
  clear hW
  refine (HK'.out _).mono ?_
  rintro e w1 ⟨rfl, rfl⟩
  have k0 := hbx.out.c0
  have k1 := hbx.out.c1
  have bD : Below W.heap.size W W.drew := (Below.refl _ _).drew
  have E0 := Lib.hid (hE.out.below bD hbW)
  have X0 := Lib.hid (hbx.out.below bD hbW)
  have S0 := Lib.hid (hS.out.below bD)
  have O0 := Lib.hid (hO.out.below bD hbW (Nat.le_of_lt hWs))
  clear bD
  have hbD : b < W.drew.heap.size := hbW
  go_wp2_with fail
  go_region_held3 (fun w' => w'.cell? ⟨w.heap.size, 0, none⟩ = some (.string s) ∧ w'.cell? ⟨w.heap.size, 1, none⟩ = some v) (first | exact ⟨k0, k1⟩ | exact ⟨r0, r1⟩ | exact ⟨t0, t1⟩ | exact ⟨z0, z1⟩)
    ((first
      | (go_at_call 94; (with_reducible refine (HF0.out _ E0.out).mono ?_); rintro e w1 ⟨rfl, d1⟩; have E1 := Lib.hid (E0.out.below d1 hbD); have X1 := Lib.hid (X0.out.below d1 hbD); have S1 := Lib.hid (S0.out.below d1); have O1 := Lib.hid (O0.out.below d1 hbD (Nat.le_of_lt hWs)); have y1 : W.heap.size ≤ w1.heap.size := d1.size; have hb1 : b < w1.heap.size := by omega
         have r0 := X1.out.c0; have r1 := X1.out.c1; clear d1)
      | (go_at_call 94; (with_reducible refine (HF2.out _ E1.out).mono ?_); rintro e w2 ⟨rfl, d2⟩; have E2 := Lib.hid (E1.out.below d2 hb1); have X2 := Lib.hid (X1.out.below d2 hb1); have S2 := Lib.hid (S1.out.below d2); have O2 := Lib.hid (O1.out.below d2 hb1 (by omega)); have y2 : W.heap.size ≤ w2.heap.size := Nat.le_trans y1 d2.size; have hb2 : b < w2.heap.size := by omega
         have t0 := X2.out.c0; have t1 := X2.out.c1; clear d2)
      | (go_at_call 96; (with_reducible refine (HC.out _ S2.out).mono ?_); rintro e w3 ⟨rfl, s3, d3⟩; have E3 := Lib.hid (E2.out.bes d3); have X3 := Lib.hid (X2.out.bes d3); have S3 := Lib.hid s3; have O3 := Lib.hid (O2.out.bes d3 (by omega)); have y3 : w.heap.size < w3.heap.size := by (have := d3.size; omega)
         have hb3 : b < w3.heap.size := by (have := d3.size; omega)
         have z0 := X3.out.c0; have z1 := X3.out.c1; clear d3 s3)
      | fail))
  all_goals
    go_wp2_with fail
    refine (HP'.out _).mono ?_
    rintro e w8 ⟨bp, rfl, hbp, hh, b8⟩
    have X8 := Lib.hid (X3.out.below b8 hb3)
    have E8 := Lib.hid (E3.out.below b8 hb3)
    have S8 := Lib.hid (S3.out.below b8)
    have O8 := Lib.hid (O3.out.below b8 hb3 (Nat.le_of_lt y3))
    have z8 := b8.size
    have hb8 : b < w8.heap.size := by omega
    have c0 := cellOf1 hh
    have k0 := X8.out.c0
    have k1 := X8.out.c1
    have Hh := Lib.hid hh
    have nP : Hid (¬ Own6 w8 b bp) := fun ho => absurd (S3.out.own_lt ((Own6.same (b8.block b hb3) bp).1 ho)) (by omega)
    clear hh
    go_wp2_with fail
    refine wp_loop_rounds 2 ?_
    rw [rounds_succ]
    go_wp2_with fail
    refine (IH.out _ E8.out S8.out).mono ?_
    rintro e w9 ⟨rfl, s9, o9⟩
    have S9 := Lib.hid s9
    have O9 := Lib.hid (O8.out.bes o9 (by omega))
    clear c0 k0 k1 s9
    go_wp2_with fail
    rw [rounds_succ]
    go_wp2_with fail
    go_end0
    exact ⟨rfl, S9.out, O9.out.toBes⟩

end Go.Proofs.YtlhmjcfnfefliaaGreat.T1

/- Sorts in the specification: the walk over signs that bind. -/
namespace Go.Proofs.YtlhmjcfnfefliaaGreat.T1
open Go.RowKit
set_option maxRecDepth 100000
set_option linter.unusedVariables false
set_option linter.unusedSimpArgs false


set_option maxHeartbeats 4000000 in
theorem sw_own (b N : Nat) (l : List (Bool × Nat × Nat)) (X s : ByteArray) (v : Value) (ns : List UInt8) (xs : List Nat) (w : World) (u : ByteArray) (N' : Nat) (l' : List (Bool × Nat × Nat)) (x : UInt8) (hX : X.size ≤ 700) (hz : 1 < X.size) (hx : X[1]'(by omega) = x) (hN : N ≤ 1000) (hl : ns.length ≤ 1000) (HK : ∀ w, Calls Tryz.prog 66 #[.string X] w fun e w' => e = .returned (.int .u8 35) ∧ w = w') (HP : ∀ w, Calls Tryz.prog 62 #[.string X] w fun e w' => ∃ b, e = .returned (.slice (some ⟨b, 0, none⟩) 1 1) ∧ w.heap.size ≤ b ∧ w'.heap[b]? = some (.cells #[.string u] 9 (0, 0)) ∧ Below w.heap.size w w') (he : SEnv w b s v ns xs) (hs : SpSta w b N l)
    (HW : ∀ w1 x k, ScAt w1 s v ns xs → Calls Tryz.prog 95 #[.agg #[.string s, v], .int .u8 ((x : UInt8).toNat : Int), .int .i64 ((k : Nat) : Int)] w1 fun e w' => (∃ s' v', e = .returned (.agg #[.string s', v']) ∧ ScAt w' s' v' (x :: ns) (k :: xs) ∧ ∀ g, v'.ownBlock = some g → w1.heap.size ≤ g) ∧ Below w1.heap.size w1 w') (ih : ∀ s' v' w1, SEnv w1 b s' v' (x :: ns) (N :: xs) → SpSta w1 b (N + 1) l → Calls Tryz.prog 61 #[.pointer (some ⟨b, 0, none⟩), .string u, .agg #[.string s', v']] w1 (SP b N' l' w1)) : Calls Tryz.prog 61 #[.pointer (some ⟨b, 0, none⟩), .string X, .agg #[.string s, v]] w (SP b N' l' w) := by
  have hblt := hs.lt
  have bW : Below w.heap.size w (w.alloc (.cells #[.string s, v] 97)) := (Below.refl _ _).alloc (Nat.le_refl _) _
  have hbx := Lib.hid (show Box6 (w.alloc (.cells #[.string s, v] 97)) b w.heap.size s v from ⟨⟨_, new_block0 w _⟩, fun ho => absurd (hs.own_lt ((Own6.same (bW.block b hblt) _).1 ho)) (Nat.lt_irrefl _)⟩)
  have hE := Lib.hid (he.below bW hblt)
  have hS := Lib.hid (hs.below bW)
  have hO := Lib.hid ((BesB.refl w.heap.size b w).below bW hblt (Nat.le_refl _))
  have hWs : w.heap.size < (w.alloc (.cells #[.string s, v] 97)).heap.size := by simp
  obtain ⟨W, hW⟩ : ∃ W, W = w.alloc (.cells #[.string s, v] 97) := ⟨_, rfl⟩
  rw [← hW] at hbx hE hS hO hWs
  have hbW : b < W.heap.size := by omega
  have HP' := Lib.hid HP
  have HK' := Lib.hid HK
  subst hx
  have IH := Lib.hid ih
  have HFR := Lib.hid (fun w1 (h1 : SpSta w1 b N l) => sp_fresh h1 hN)
  have HWI := Lib.hid HW
  clear HP HK he hs bW ih HW
  go_enter Tryz.func61, Tryz.ntmps61
  go_wp2_with fail
  rw [← hW]
  clear hW
  refine (HK'.out _).mono ?_
  rintro e w1 ⟨rfl, rfl⟩
  have bD : Below W.heap.size W W.drew := (Below.refl _ _).drew
  have E0 := Lib.hid (hE.out.below bD hbW)
  have X0 := Lib.hid (hbx.out.below bD hbW)
  have S0 := Lib.hid (hS.out.below bD)
  have O0 := Lib.hid (hO.out.below bD hbW (Nat.le_of_lt hWs))
  have k0 := hbx.out.c0
  have k1 := hbx.out.c1
  have hbD : b < W.drew.heap.size := hbW
  clear bD
  go_wp2_with fail
  go_region_with (first
    | (go_at_call 60; (with_reducible refine (HFR.out _ S0.out).mono ?_); rintro e w1 ⟨rfl, s1, d1⟩; have E1 := Lib.hid (E0.out.bes d1); have X1 := Lib.hid (X0.out.bes d1); have S1 := Lib.hid s1; have O1 := Lib.hid (O0.out.bes d1 (Nat.le_of_lt hWs)); have y1 : W.heap.size ≤ w1.heap.size := d1.size; have hb1 : b < w1.heap.size := by omega
       have r0 := X1.out.c0; have r1 := X1.out.c1; clear d1 s1)
    | (go_at_call 95; (with_reducible refine (HWI.out _ _ N E1.out.sc).mono ?_); rintro e w5 ⟨⟨s', v', rfl, m5, g5⟩, d5⟩; obtain ⟨p5, n5, q5, rfl⟩ : ∃ p n c, v' = .slice p n c := (by obtain ⟨p, c, h⟩ := own_slice6 m5.row; exact ⟨p, _, c, h⟩); have E5 := Lib.hid (SEnv.mk m5 (fun g hg ho => absurd (S1.out.own_lt ((Own6.same (d5.block b hb1) g).1 ho)) (Nat.not_lt.2 (g5 g hg)))); have X5 := Lib.hid (X1.out.below d5 hb1); have S5 := Lib.hid (S1.out.below d5); have O5 := Lib.hid (O1.out.below d5 hb1 (by omega)); have G5 := Lib.hid g5; have y5 := d5.size; have hb5 : b < w5.heap.size := by omega
       have c50 := X5.out.c0; have c51 := X5.out.c1; have c52 := X5.out.f 0; have c53 := X5.out.f 1; clear d5 m5 g5)
    | fail)
  all_goals
    obtain ⟨V, hV⟩ : ∃ V, V = (w5.setCell ⟨w.heap.size, 0, none⟩ (.string s')).setCell ⟨w.heap.size, 1, none⟩ (.slice p5 n5 q5) := ⟨_, rfl⟩
    have sz5 : V.heap.size = w5.heap.size := by rw [hV]; simp [World.setCell]
    have XV := Lib.hid (X5.out.set (s' := s') (v' := .slice p5 n5 q5))
    have nv : (Value.slice p5 n5 q5).ownBlock ≠ some w.heap.size := fun e => by have := G5.out _ e; omega
    have EV := Lib.hid ((E5.out.set (o := 0) (x := .string s') nv (fun e => X5.out.no (.inl e.symm))).set (o := 1) (x := .slice p5 n5 q5) nv (fun e => X5.out.no (.inl e.symm)))
    have nb : w.heap.size ≠ b := fun e => X5.out.no (.inl e)
    have S5' := S5.out.set (o := 0) (x := .string s') X5.out.no
    have nO : ¬ Own6 (w5.setCell ⟨w.heap.size, 0, none⟩ (.string s')) b w.heap.size := fun ho => X5.out.no ((Own6.same (Below.heap_setCell _ _ _ _ (by show b ≠ w.heap.size; exact fun e => nb e.symm)) _).1 ho)
    have SV := Lib.hid (S5'.set (o := 1) (x := .slice p5 n5 q5) nO)
    have OV := Lib.hid ((O5.out.set (o := 0) (x := .string s') (Nat.le_refl _) nb).set (o := 1) (x := .slice p5 n5 q5) (Nat.le_refl _) nb)
    rw [← hV] at XV EV SV OV
    rw [← hV]
    have hbV : b < V.heap.size := by omega
    have hsV : w.heap.size < V.heap.size := by omega
    clear hV S5' nO nv
    go_wp2_with fail
    refine (HP'.out _).mono ?_
    rintro e w8 ⟨bp, rfl, hbp, hh, b8⟩
    have X8 := Lib.hid (XV.out.below b8 hbV)
    have E8 := Lib.hid (EV.out.below b8 hbV)
    have S8 := Lib.hid (SV.out.below b8)
    have O8 := Lib.hid (OV.out.below b8 hbV (Nat.le_of_lt hsV))
    have z8 := b8.size
    have hb8 : b < w8.heap.size := by omega
    have c0 := cellOf1 hh
    have k0 := X8.out.c0
    have k1 := X8.out.c1
    have Hh := Lib.hid hh
    have nP : Hid (¬ Own6 w8 b bp) := fun ho => absurd (SV.out.own_lt ((Own6.same (b8.block b hbV) bp).1 ho)) (by omega)
    clear hh
    go_wp2_with fail
    refine wp_loop_rounds 2 ?_
    rw [rounds_succ]
    go_wp2_with fail
    refine (IH.out _ _ _ E8.out S8.out).mono ?_
    rintro e w9 ⟨rfl, s9, o9⟩
    have S9 := Lib.hid s9
    have O9 := Lib.hid (O8.out.bes o9 (by omega))
    clear c0 k0 k1 s9
    go_wp2_with fail
    rw [rounds_succ]
    go_wp2_with fail
    go_end0
    exact ⟨rfl, S9.out, O9.out.toBes⟩

set_option maxHeartbeats 4000000 in
theorem sw_rcv (b N : Nat) (l : List (Bool × Nat × Nat)) (X s : ByteArray) (v : Value) (ns : List UInt8) (xs : List Nat) (w : World) (u : ByteArray) (N' : Nat) (l' : List (Bool × Nat × Nat)) (x : UInt8) (hX : X.size ≤ 700) (hz : 2 < X.size) (hx : X[2]'(by omega) = x) (hN : N ≤ 1000) (hl : ns.length ≤ 1000) (ka : Nat) (hka : ka = fnd ns xs (X[0]'(by omega))) (ha : ka < N) (HK : ∀ w, Calls Tryz.prog 66 #[.string X] w fun e w' => e = .returned (.int .u8 63) ∧ w = w') (HP : ∀ w, Calls Tryz.prog 62 #[.string X] w fun e w' => ∃ b, e = .returned (.slice (some ⟨b, 0, none⟩) 1 1) ∧ w.heap.size ≤ b ∧ w'.heap[b]? = some (.cells #[.string u] 9 (0, 0)) ∧ Below w.heap.size w w') (he : SEnv w b s v ns xs) (hs : SpSta w b N l)
    (HW : ∀ w1 x k, ScAt w1 s v ns xs → Calls Tryz.prog 95 #[.agg #[.string s, v], .int .u8 ((x : UInt8).toNat : Int), .int .i64 ((k : Nat) : Int)] w1 fun e w' => (∃ s' v', e = .returned (.agg #[.string s', v']) ∧ ScAt w' s' v' (x :: ns) (k :: xs) ∧ ∀ g, v'.ownBlock = some g → w1.heap.size ≤ g) ∧ Below w1.heap.size w1 w') (ih : ∀ s' v' w1, SEnv w1 b s' v' (x :: ns) (N :: xs) → SpSta w1 b (N + 1) (l ++ [(true, ka, N)]) → Calls Tryz.prog 61 #[.pointer (some ⟨b, 0, none⟩), .string u, .agg #[.string s', v']] w1 (SP b N' l' w1)) : Calls Tryz.prog 61 #[.pointer (some ⟨b, 0, none⟩), .string X, .agg #[.string s, v]] w (SP b N' l' w) := by
  have hblt := hs.lt
  have bW : Below w.heap.size w (w.alloc (.cells #[.string s, v] 97)) := (Below.refl _ _).alloc (Nat.le_refl _) _
  have hbx := Lib.hid (show Box6 (w.alloc (.cells #[.string s, v] 97)) b w.heap.size s v from ⟨⟨_, new_block0 w _⟩, fun ho => absurd (hs.own_lt ((Own6.same (bW.block b hblt) _).1 ho)) (Nat.lt_irrefl _)⟩)
  have hE := Lib.hid (he.below bW hblt)
  have hS := Lib.hid (hs.below bW)
  have hO := Lib.hid ((BesB.refl w.heap.size b w).below bW hblt (Nat.le_refl _))
  have hWs : w.heap.size < (w.alloc (.cells #[.string s, v] 97)).heap.size := by simp
  obtain ⟨W, hW⟩ : ∃ W, W = w.alloc (.cells #[.string s, v] 97) := ⟨_, rfl⟩
  rw [← hW] at hbx hE hS hO hWs
  have hbW : b < W.heap.size := by omega
  have HP' := Lib.hid HP
  have HK' := Lib.hid HK
  subst hx
  have IH := Lib.hid ih
  have HFR := Lib.hid (fun w1 (h1 : SpSta w1 b N l) => sp_fresh h1 hN)
  have HWI := Lib.hid HW
  have HF0 : Hid (∀ w1, SEnv w1 b s v ns xs → Calls Tryz.prog 94 #[.agg #[.string s, v], .int .u8 (((X[0]'(by omega)).toNat : Nat) : Int)] w1 fun e w' => e = .returned (.int .i64 (ka : Int)) ∧ Below w1.heap.size w1 w') := fun w1 e1 => by rw [hka]; exact find_any e1.sc hl _
  have HC := Lib.hid (fun w1 (h1 : SpSta w1 b (N + 1) l) => sp_carry (i := ka) (j := N) h1 (by omega) (by omega))
  clear HP HK he hs bW ih HW hka
  go_enter Tryz.func61, Tryz.ntmps61
  go_wp2_with fail
  rw [← hW]
  clear hW
  refine (HK'.out _).mono ?_
  rintro e w1 ⟨rfl, rfl⟩
  go_wp2_with fail
  refine (HFR.out _ hS.out).mono ?_
  rintro e w1 ⟨rfl, s1, d1⟩
  have E1 := Lib.hid (hE.out.bes d1)
  have X1 := Lib.hid (hbx.out.bes d1)
  have S1 := Lib.hid s1
  have O1 := Lib.hid (hO.out.bes d1 (Nat.le_of_lt hWs))
  have y1 : W.heap.size ≤ w1.heap.size := d1.size
  have hb1 : b < w1.heap.size := by omega
  have k0 := X1.out.c0
  have k1 := X1.out.c1
  have bD : Below w1.heap.size w1 w1.drew := (Below.refl _ _).drew
  have E1D := Lib.hid (E1.out.below bD hb1)
  have X1D := Lib.hid (X1.out.below bD hb1)
  have S1D := Lib.hid (S1.out.below bD)
  have O1D := Lib.hid (O1.out.below bD hb1 (by omega))
  have hb1D : b < w1.drew.heap.size := hb1
  have hs1D : w.heap.size ≤ w1.drew.heap.size := by show w.heap.size ≤ w1.heap.size; omega
  clear d1 s1 bD
  go_wp2_with fail
  go_region_held3 (fun w' => w'.cell? ⟨w.heap.size, 0, none⟩ = some (.string s) ∧ w'.cell? ⟨w.heap.size, 1, none⟩ = some v) (first | exact ⟨k0, k1⟩ | exact ⟨r0, r1⟩ | exact ⟨t0, t1⟩)
    ((first
      | (go_at_call 94; (with_reducible refine (HF0.out _ E1D.out).mono ?_); rintro e w2 ⟨rfl, d2⟩; have E2 := Lib.hid (E1D.out.below d2 hb1D); have X2 := Lib.hid (X1D.out.below d2 hb1D); have S2 := Lib.hid (S1D.out.below d2); have O2 := Lib.hid (O1D.out.below d2 hb1D hs1D); have y2 : W.heap.size ≤ w2.heap.size := Nat.le_trans y1 d2.size; have hb2 : b < w2.heap.size := by omega
         have r0 := X2.out.c0; have r1 := X2.out.c1; clear d2)
      | (go_at_call 93; (with_reducible refine (HC.out _ S2.out).mono ?_); rintro e w3 ⟨rfl, s3, d3⟩; have E3 := Lib.hid (E2.out.bes d3); have X3 := Lib.hid (X2.out.bes d3); have S3 := Lib.hid s3; have O3 := Lib.hid (O2.out.bes d3 (by omega)); have y3 : w.heap.size < w3.heap.size := by (have := d3.size; omega)
         have hb3 : b < w3.heap.size := by (have := d3.size; omega)
         have t0 := X3.out.c0; have t1 := X3.out.c1; clear d3 s3)
      | fail))
  all_goals
    have b3 : Below w3.heap.size w3 w3.drew := (Below.refl _ _).drew
    have E3D := Lib.hid (E3.out.below b3 hb3)
    have X3D := Lib.hid (X3.out.below b3 hb3)
    have S3D := Lib.hid (S3.out.below b3)
    have O3D := Lib.hid (O3.out.below b3 hb3 (by omega))
    have hb3D : b < w3.drew.heap.size := hb3
    have y3D : w.heap.size < w3.drew.heap.size := y3
    clear b3
    go_wp2_with fail
    go_region_with (first
      | (go_at_call 95; (with_reducible refine (HWI.out _ _ N E3D.out.sc).mono ?_); rintro e w5 ⟨⟨s', v', rfl, m5, g5⟩, d5⟩; obtain ⟨p5, n5, q5, rfl⟩ : ∃ p n c, v' = .slice p n c := (by obtain ⟨p, c, h⟩ := own_slice6 m5.row; exact ⟨p, _, c, h⟩); have E5 := Lib.hid (SEnv.mk m5 (fun g hg ho => absurd (S3D.out.own_lt ((Own6.same (d5.block b hb3D) g).1 ho)) (Nat.not_lt.2 (g5 g hg)))); have X5 := Lib.hid (X3D.out.below d5 hb3D); have S5 := Lib.hid (S3D.out.below d5); have O5 := Lib.hid (O3D.out.below d5 hb3D (by omega)); have G5 := Lib.hid g5; have y5 := d5.size; have hb5 : b < w5.heap.size := by omega
         have c50 := X5.out.c0; have c51 := X5.out.c1; have c52 := X5.out.f 0; have c53 := X5.out.f 1; clear d5 m5 g5)
      | fail)
    all_goals
      obtain ⟨V, hV⟩ : ∃ V, V = (w5.setCell ⟨w.heap.size, 0, none⟩ (.string s')).setCell ⟨w.heap.size, 1, none⟩ (.slice p5 n5 q5) := ⟨_, rfl⟩
      have sz5 : V.heap.size = w5.heap.size := by rw [hV]; simp [World.setCell]
      have XV := Lib.hid (X5.out.set (s' := s') (v' := .slice p5 n5 q5))
      have nv : (Value.slice p5 n5 q5).ownBlock ≠ some w.heap.size := fun e => by have := G5.out _ e; omega
      have EV := Lib.hid ((E5.out.set (o := 0) (x := .string s') nv (fun e => X5.out.no (.inl e.symm))).set (o := 1) (x := .slice p5 n5 q5) nv (fun e => X5.out.no (.inl e.symm)))
      have nb : w.heap.size ≠ b := fun e => X5.out.no (.inl e)
      have S5' := S5.out.set (o := 0) (x := .string s') X5.out.no
      have nO : ¬ Own6 (w5.setCell ⟨w.heap.size, 0, none⟩ (.string s')) b w.heap.size := fun ho => X5.out.no ((Own6.same (Below.heap_setCell _ _ _ _ (by show b ≠ w.heap.size; exact fun e => nb e.symm)) _).1 ho)
      have SV := Lib.hid (S5'.set (o := 1) (x := .slice p5 n5 q5) nO)
      have OV := Lib.hid ((O5.out.set (o := 0) (x := .string s') (Nat.le_refl _) nb).set (o := 1) (x := .slice p5 n5 q5) (Nat.le_refl _) nb)
      rw [← hV] at XV EV SV OV
      rw [← hV]
      have hbV : b < V.heap.size := by omega
      have hsV : w.heap.size < V.heap.size := by omega
      clear hV S5' nO nv
      go_wp2_with fail
      refine (HP'.out _).mono ?_
      rintro e w8 ⟨bp, rfl, hbp, hh, b8⟩
      have X8 := Lib.hid (XV.out.below b8 hbV)
      have E8 := Lib.hid (EV.out.below b8 hbV)
      have S8 := Lib.hid (SV.out.below b8)
      have O8 := Lib.hid (OV.out.below b8 hbV (Nat.le_of_lt hsV))
      have z8 := b8.size
      have hb8 : b < w8.heap.size := by omega
      have c0 := cellOf1 hh
      have k0 := X8.out.c0
      have k1 := X8.out.c1
      have Hh := Lib.hid hh
      have nP : Hid (¬ Own6 w8 b bp) := fun ho => absurd (SV.out.own_lt ((Own6.same (b8.block b hbV) bp).1 ho)) (by omega)
      clear hh
      go_wp2_with fail
      refine wp_loop_rounds 2 ?_
      rw [rounds_succ]
      go_wp2_with fail
      refine (IH.out _ _ _ E8.out S8.out).mono ?_
      rintro e w9 ⟨rfl, s9, o9⟩
      have S9 := Lib.hid s9
      have O9 := Lib.hid (O8.out.bes o9 (by omega))
      clear c0 k0 k1 s9
      go_wp2_with fail
      rw [rounds_succ]
      go_wp2_with fail
      go_end0
      exact ⟨rfl, S9.out, O9.out.toBes⟩

end Go.Proofs.YtlhmjcfnfefliaaGreat.T1
