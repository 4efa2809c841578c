/- Texts of the proof, put together: Vj, Vk. No conditions. -/
import Derived.Test.YtlhmjcfnfefliaaGreatHax
import Derived.Deep.QuietTactic
import Derived.RegionTactic
import Derived.BigRegion
import Derived.Maps.Own
import Derived.IntWalk
import Derived.Maps.OwnSet
import Derived.Maps.Views
import Derived.Shelf.SlMaps.Clone

/- Sorts in the program: one more; what is behind; levels. -/
namespace Go.Proofs.YtlhmjcfnfefliaaGreat.T1
open Go.RowKit
set_option maxRecDepth 100000
set_option linter.unusedVariables false
set_option linter.unusedSimpArgs false

/-- Block b, cell by cell. -/
def Raw6 (w : World) (b : Nat) (U n : Int) (F G : Nat → Int) : Prop :=
  ∃ C T, w.heap[b]? = some (.cells C T (0, 0)) ∧ C.size = 174 ∧ C[0]? = some (.int .u32 U) ∧ C[1]? = some (.int .i64 n) ∧
    (∀ k, k < 86 → C[2 + k]? = some (.int .i64 (F k))) ∧ (∀ k, k < 86 → C[88 + k]? = some (.int .i64 (G k)))
def up7 (F : Nat → Int) (b : Nat) (a : Int) (k : Nat) : Int := if k = b then a else F k
def vI : Option Value → Int
  | some (.int _ x) => x
  | _ => 0
theorem ImAt.raw {w : World} {b U N : Nat} {f : Nat → Nat} {c : Nat → Option Nat} (h : ImAt w b U N f c) : ∃ F G, Raw6 w b (U : Int) (N : Int) F G ∧ (∀ k, k < N → F k = (f k : Int)) ∧ ∀ k, k < N → G k = cI (c k) := by
  have h86 := h.N86
  obtain ⟨C, T, h1, h2, h3, h4, h5, h6⟩ := h.ex
  refine ⟨fun k => vI C[2 + k]?, fun k => vI C[88 + k]?, ⟨C, T, h1, h2, h3, h4, fun k hk => ?_, fun k hk => ?_⟩, fun k hk => ?_, fun k hk => ?_⟩
  · obtain ⟨x, a1, a2⟩ := h5 k hk
    show C[2 + k]? = some (.int .i64 (vI C[2 + k]?))
    rw [a1]; rfl
  · obtain ⟨x, a1, a2⟩ := h6 k hk
    show C[88 + k]? = some (.int .i64 (vI C[88 + k]?))
    rw [a1]; rfl
  · obtain ⟨x, a1, a2⟩ := h5 k (by omega)
    show vI C[2 + k]? = _
    rw [a1]; exact a2 hk
  · obtain ⟨x, a1, a2⟩ := h6 k (by omega)
    show vI C[88 + k]? = _
    rw [a1]; exact a2 hk
theorem Raw6.im {w : World} {b U N : Nat} {f : Nat → Nat} {c : Nat → Option Nat} {F G : Nat → Int} (h : Raw6 w b (U : Int) (N : Int) F G) (hN : N ≤ 86) (hf : ∀ k, k < N → F k = (f k : Int)) (hc : ∀ k, k < N → G k = cI (c k)) : ImAt w b U N f c := by
  obtain ⟨C, T, h1, h2, h3, h4, h5, h6⟩ := h
  exact ⟨hN, C, T, h1, h2, h3, h4, fun k hk => ⟨_, h5 k hk, hf k⟩, fun k hk => ⟨_, h6 k hk, hc k⟩⟩
theorem Raw6.drew {w : World} {b : Nat} {U n : Int} {F G : Nat → Int} (h : Raw6 w b U n F G) : Raw6 w.drew b U n F G := h
theorem Raw6.drewN {w : World} {b : Nat} {U n : Int} {F G : Nat → Int} (h : Raw6 w b U n F G) (m : Nat) : Raw6 (w.drewN m) b U n F G := h
theorem Raw6.f_at {w : World} {b : Nat} {U n : Int} {F G : Nat → Int} (h : Raw6 w b U n F G) {k : Nat} (hk : k < 86) : w.cell? ⟨b, 2 + k, none⟩ = some (.int .i64 (F k)) := by
  obtain ⟨C, T, h1, h2, h3, h4, h5, h6⟩ := h
  simp only [World.cell?, h1, h5 k hk]; rfl
theorem Raw6.g_at {w : World} {b : Nat} {U n : Int} {F G : Nat → Int} (h : Raw6 w b U n F G) {k : Nat} (hk : k < 86) : w.cell? ⟨b, 88 + k, none⟩ = some (.int .i64 (G k)) := by
  obtain ⟨C, T, h1, h2, h3, h4, h5, h6⟩ := h
  simp only [World.cell?, h1, h6 k hk]; rfl
theorem Raw6.n_at {w : World} {b : Nat} {U n : Int} {F G : Nat → Int} (h : Raw6 w b U n F G) : w.cell? ⟨b, 1, none⟩ = some (.int .i64 n) := by
  obtain ⟨C, T, h1, h2, h3, h4, h5, h6⟩ := h
  simp only [World.cell?, h1, h4]; rfl
theorem Raw6.free_at {w : World} {b : Nat} {U n : Int} {F G : Nat → Int} (h : Raw6 w b U n F G) (j : Nat) : w.frozen? ⟨b, j, none⟩ = false := by
  obtain ⟨C, T, h1, _⟩ := h
  simp [World.frozen?, h1]
theorem Raw6.setF {w : World} {b : Nat} {U n : Int} {F G : Nat → Int} (h : Raw6 w b U n F G) {q : Nat} (hq : q < 86) (a : Int) : Raw6 (w.setCell ⟨b, 2 + q, none⟩ (.int .i64 a)) b U n (up7 F q a) G := by
  obtain ⟨C, T, h1, h2, h3, h4, h5, h6⟩ := h
  have hj : 2 + q < C.size := by omega
  refine ⟨_, T, set_cells h1 _ _, by simp [h2], by rw [set_get hj, if_neg (by omega)]; exact h3, by rw [set_get hj, if_neg (by omega)]; exact h4, fun k hk => ?_, fun k hk => ?_⟩
  · unfold up7
    by_cases e : k = q
    · subst e; rw [set_get hj, if_pos rfl, if_pos rfl]
    · rw [set_get hj, if_neg (by omega), if_neg e]; exact h5 k hk
  · rw [set_get hj, if_neg (by omega)]; exact h6 k hk
theorem Raw6.setG {w : World} {b : Nat} {U n : Int} {F G : Nat → Int} (h : Raw6 w b U n F G) {q : Nat} (hq : q < 86) (a : Int) : Raw6 (w.setCell ⟨b, 88 + q, none⟩ (.int .i64 a)) b U n F (up7 G q a) := by
  obtain ⟨C, T, h1, h2, h3, h4, h5, h6⟩ := h
  have hj : 88 + q < C.size := by omega
  refine ⟨_, T, set_cells h1 _ _, by simp [h2], by rw [set_get hj, if_neg (by omega)]; exact h3, by rw [set_get hj, if_neg (by omega)]; exact h4, fun k hk => ?_, fun k hk => ?_⟩
  · rw [set_get hj, if_neg (by omega)]; exact h5 k hk
  · unfold up7
    by_cases e : k = q
    · subst e; rw [set_get hj, if_pos rfl, if_pos rfl]
    · rw [set_get hj, if_neg (by omega), if_neg e]; exact h6 k hk
theorem Raw6.setN {w : World} {b : Nat} {U n : Int} {F G : Nat → Int} (h : Raw6 w b U n F G) (m : Int) : Raw6 (w.setCell ⟨b, 1, none⟩ (.int .i64 m)) b U m F G := by
  obtain ⟨C, T, h1, h2, h3, h4, h5, h6⟩ := h
  have hj : 1 < C.size := by omega
  refine ⟨_, T, set_cells h1 _ _, by simp [h2], by rw [set_get hj, if_neg (by omega)]; exact h3, by rw [set_get hj, if_pos rfl], fun k hk => ?_, fun k hk => ?_⟩
  · rw [set_get hj, if_neg (by omega)]; exact h5 k hk
  · rw [set_get hj, if_neg (by omega)]; exact h6 k hk
theorem Raw6.added {w : World} {b U N : Nat} {f : Nat → Nat} {c : Nat → Option Nat} {F G : Nat → Int} (h : Raw6 w b (U : Int) ((N : Int) + 1) (up7 F N (N : Int)) (up7 G N (-1))) (hN : N < 86) (hf : ∀ k, k < N → F k = (f k : Int)) (hc : ∀ k, k < N → G k = cI (c k)) (h1 : f N = N) (h2 : c N = none) : ImAt w b U (N + 1) f c := by
  refine Raw6.im (by push_cast; exact h) (by omega) (fun k hk => ?_) (fun k hk => ?_)
  · unfold up7
    by_cases e : k = N
    · subst e; rw [if_pos rfl, h1]
    · rw [if_neg e]; exact hf k (by omega)
  · unfold up7
    by_cases e : k = N
    · subst e; rw [if_pos rfl, h2]; rfl
    · rw [if_neg e]; exact hc k (by omega)

set_option maxHeartbeats 2000000 in
theorem add_any {w : World} {b U N : Nat} {f : Nat → Nat} {c : Nat → Option Nat} (h : ImAt w b U N f c) (hN : N < 86) (hf : f N = N) (hc : c N = none) :
    Calls Tryz.prog 79 #[.pointer (some ⟨b, 0, none⟩)] w fun e w' => e = .returned (.int .i64 (N : Int)) ∧ ImAt w' b U (N + 1) f c ∧ Only b w w' := by
  obtain ⟨F, G, hr, h1, h2⟩ := h.raw
  have HR := Lib.hid hr
  have H1 := Lib.hid h1
  have H2 := Lib.hid h2
  have Hf := Lib.hid hf
  have Hc := Lib.hid hc
  have cn := hr.n_at
  have x1 := hr.f_at hN
  have x2 := hr.g_at hN
  have y1 := hr.free_at (2 + N)
  have y2 := hr.free_at (88 + N)
  clear h hr h1 h2 hf hc
  go_enter Tryz.func79, Tryz.ntmps79
  go_wp2_with fail
  go_region
  have R1 := Lib.hid ((HR.out.setF hN (N : Int)).setG hN (-1)).drew
  have cn2 := R1.out.n_at
  have y3 := R1.out.free_at 1
  clear x1 x2 y1 y2 cn
  go_wp2_with fail
  go_ret
  exact ⟨rfl, (R1.out.setN _).added hN H1.out H2.out Hf.out Hc.out, ((((Only.refl _ _).setCell _ _ _).setCell _ _ _).drew).setCell _ _ _⟩

set_option maxHeartbeats 2000000 in
theorem areSame_any {S C : Nat → Nat → Prop} {w : World} {b U N z : Nat} {f r : Nat → Nat} {c : Nat → Option Nat} (hi : ImAt w b U N f c) (hs : St6 S C N f r c z z) {i j : Nat} (h1 : i < N) (h2 : j < N) :
    Calls Tryz.prog 58 #[.pointer (some ⟨b, 0, none⟩), .int .i64 (i : Int), .int .i64 (j : Int)] w fun e w' => (∃ q : Bool, e = .returned (.bool q) ∧ (q = true ↔ Eqv S C i j)) ∧ w = w' := by
  have HA := Lib.hid (chief_any hi hs.rt hs.lt h1)
  have HB := Lib.hid (chief_any hi hs.rt hs.lt h2)
  have HE := Lib.hid (hs.same_iff i j)
  obtain ⟨m, hm⟩ : ∃ m, m = r i := ⟨_, rfl⟩
  obtain ⟨n, hn⟩ : ∃ n, n = r j := ⟨_, rfl⟩
  rw [← hm] at HA HE
  rw [← hn] at HB HE
  clear hi hs hm hn
  go_enter Tryz.func58, Tryz.ntmps58
  go_wp2_with fail
  refine (HA.out).mono ?_
  rintro e w1 ⟨rfl, rfl⟩
  go_wp2_with fail
  refine (HB.out).mono ?_
  rintro e w1 ⟨rfl, rfl⟩
  go_wp2_with fail
  go_ret
  exact ⟨⟨_, rfl, by rw [← HE.out]; simp; omega⟩, rfl⟩
set_option maxHeartbeats 2000000 in
theorem behind_any {w : World} {b U N : Nat} {f r : Nat → Nat} {c : Nat → Option Nat} (hi : ImAt w b U N f c) (hr : Rt f r) (hf : ∀ k, k < N → f k < N) {k : Nat} (hk : k < N) :
    Calls Tryz.prog 27 #[.pointer (some ⟨b, 0, none⟩), .int .i64 (k : Int)] w fun e w' => e = .returned (.tuple #[.int .i64 (cI (c (r k))), .bool (c (r k)).isSome]) ∧ Below w.heap.size w w' := by
  have hiN : ∀ n, ImAt (w.drewN n) b U N f c := fun n => hi.of rfl
  have HA := Lib.hid (fun n => chief_any (hiN n) hr hf hk)
  have hrk : r k < N := hr.lt hf k hk
  have h86 := hi.N86
  have cc := hi.c_at hrk
  have hm86 : r k < 86 := by omega
  obtain ⟨m, hm⟩ : ∃ m, m = r k := ⟨_, rfl⟩
  rw [← hm] at HA cc hm86 ⊢
  obtain ⟨o, ho⟩ : ∃ o, o = c m := ⟨_, rfl⟩
  rw [← ho] at cc ⊢
  obtain ⟨x, hx⟩ : ∃ x, x = cI o := ⟨_, rfl⟩
  rw [← hx] at cc ⊢
  have hq : (x != -1) = o.isSome := by
    rw [hx]; cases o with
    | none => rfl
    | some y => simp [cI]
  clear hi hiN hr hf hm ho hx
  go_enter Tryz.func27, Tryz.ntmps27
  go_wp2_with fail
  go_quiet ((go_at_call 55; exact Calls.quiet_of_same ((HA.out _).mono fun _ _ hh => ⟨hh.1, hh.2.symm⟩)))
  all_goals
    go_wp2_with fail
    go_ret2
    exact ⟨rfl, by first | exact (Below.refl _ _).drew | exact below_drewN' (Below.refl _ _) _ | exact Below.refl _ _⟩

def oI (o : Option Nat) : Int := ((o.getD 0 : Nat) : Int)
set_option maxHeartbeats 2000000 in
theorem level_any {S C : Nat → Nat → Prop} {w : World} {b U N z : Nat} {f r : Nat → Nat} {c : Nat → Option Nat} (hi : ImAt w b U N f c) (hs : St6 S C N f r c z z) (hC : ∀ i x, C i x → i < N ∧ x < N) {k : Nat} (hk : k < N) :
    Calls Tryz.prog 24 #[.pointer (some ⟨b, 0, none⟩), .int .i64 (k : Int)] w fun e w' => (∃ o : Option Nat, e = .returned (.tuple #[.int .i64 (oI o), .bool o.isSome]) ∧ ∀ m, o = some m ↔ Lev6 S C k m) ∧ Below w.heap.size w w' := by
  have h86 := hi.N86
  have cn := hi.n_at
  have HI := Lib.hid hi
  have HS := Lib.hid hs
  have HC := Lib.hid hC
  have hblt := hi.lt
  clear hi hs hC
  go_enter Tryz.func24, Tryz.ntmps24
  go_wp2_with fail
  go_loopg [1, 13] N (fun g s1 s13 wr => (∃ n m : Nat, s13 = .int .i64 (n : Int) ∧ s1 = .int .i64 (m : Int) ∧ n + g = N ∧ m < N ∧ Hid (Way6 S C k n m)) ∧ Below w.heap.size w wr)
  case atStart => exact ⟨⟨0, k, rfl, rfl, by omega, hk, Way6.start S C k⟩, Below.refl _ _⟩
  case round =>
    obtain ⟨⟨n, m, rfl, rfl, hg, hm, hw⟩, bw⟩ := hrel
    by_cases hn : n < N
    · have HB := behind_any (HI.out.of (bw.block b hblt)) HS.out.rt HS.out.lt hm
      cases e : c (r m) with
      | none =>
        rw [e] at HB
        have HB2 : Hid (Calls Tryz.prog 27 #[.pointer (some ⟨b, 0, none⟩), .int .i64 (m : Int)] wr fun e w' => e = .returned (.tuple #[.int .i64 (-1), .bool false]) ∧ Below wr.heap.size wr w') := HB
        have HL := Lib.hid (hw.out.end_ HS.out e)
        clear HB e
        go_wp2_with fail
        refine (HB2.out).mono ?_
        rintro e w1 ⟨rfl, b1⟩
        go_wp2_with fail
        go_ret2
        refine ⟨⟨some n, rfl, fun m => ⟨fun h => by cases h; exact HL.out, fun h => by rw [h.one HL.out]⟩⟩, below_trans bw b1 bw.size⟩
      | some x =>
        rw [e] at HB
        have HB2 : Hid (Calls Tryz.prog 27 #[.pointer (some ⟨b, 0, none⟩), .int .i64 (m : Int)] wr fun e w' => e = .returned (.tuple #[.int .i64 (x : Int), .bool true]) ∧ Below wr.heap.size wr w') := HB
        have HL := Lib.hid (hw.out.on HS.out e)
        have hx : x < N := HS.out.clt _ _ e
        clear HB e
        go_wp2_with fail
        refine (HB2.out).mono ?_
        rintro e w1 ⟨rfl, b1⟩
        go_wp2_with fail
        go_roundg (gk - 1)
        case measure => omega
        case rel => exact ⟨⟨n + 1, x, by push_cast; rfl, rfl, by omega, hx, HL⟩, below_trans bw b1 bw.size⟩
    · have hN : N ≤ n := by omega
      have HL := Lib.hid (fun m => hw.out.none_ HS.out HC.out hk hN m)
      go_wp2_with fail
      go_ret2
      exact ⟨⟨none, rfl, fun m => ⟨fun h => by (cases h), fun h => (HL.out m h).elim⟩⟩, bw⟩
set_option maxHeartbeats 2000000 in
theorem canBeSorted_any {S C : Nat → Nat → Prop} {w : World} {b U N z : Nat} {f r : Nat → Nat} {c : Nat → Option Nat} (hi : ImAt w b U N f c) (hs : St6 S C N f r c z z) (hC : ∀ i x, C i x → i < N ∧ x < N) :
    Calls Tryz.prog 22 #[.pointer (some ⟨b, 0, none⟩)] w fun e w' => (∃ q : Bool, e = .returned (.bool q) ∧ (q = true ↔ ∀ i, i < N → ∃ m, Lev6 S C i m)) ∧ Below w.heap.size w w' := by
  have h86 := hi.N86
  have cn := hi.n_at
  have HI := Lib.hid hi
  have HS := Lib.hid hs
  have HC := Lib.hid hC
  have hblt := hi.lt
  clear hi hs hC
  go_enter Tryz.func22, Tryz.ntmps22
  go_wp2_with fail
  go_loopg [10] N (fun g s10 wr => (∃ n : Nat, s10 = .int .i64 (n : Int) ∧ n + g = N ∧ Hid (∀ i, i < n → ∃ m, Lev6 S C i m)) ∧ Below w.heap.size w wr)
  case atStart => exact ⟨⟨0, rfl, by omega, fun i h => by omega⟩, Below.refl _ _⟩
  case round =>
    obtain ⟨⟨n, rfl, hg, hw⟩, bw⟩ := hrel
    by_cases hn : n < N
    · have HB := Lib.hid (level_any (HI.out.of (bw.block b hblt)) HS.out HC.out hn)
      go_wp2_with fail
      refine (HB.out).mono ?_
      rintro e w1 ⟨⟨o, rfl, ho⟩, b1⟩
      cases o with
      | none =>
        have HO := Lib.hid ho
        clear ho
        go_wp2_with fail
        go_ret
        exact ⟨⟨false, rfl, ⟨fun h => (by cases h), fun h => by obtain ⟨m, hm⟩ := h n hn; have := (HO.out m).2 hm; cases this⟩⟩, below_trans bw b1 bw.size⟩
      | some m =>
        have HO := Lib.hid ho
        clear ho
        go_wp2_with fail
        go_roundg (gk - 1)
        case measure => omega
        case rel =>
          refine ⟨⟨n + 1, by push_cast; rfl, by omega, fun i hi => ?_⟩, below_trans bw b1 bw.size⟩
          by_cases e : i = n
          · subst e; exact ⟨m, (HO.out m).1 rfl⟩
          · exact hw.out i (by omega)
    · go_wp2_with fail
      go_ret
      exact ⟨⟨true, rfl, fun _ i hi => hw.out i (by omega), fun _ => rfl⟩, bw⟩

end Go.Proofs.YtlhmjcfnfefliaaGreat.T1

/- Sorts in the program: the map of the names in scope; what has been asked so far. -/
namespace Go.Proofs.YtlhmjcfnfefliaaGreat.T1
open Go.RowKit Go.Maps
set_option maxRecDepth 100000
set_option linter.unusedVariables false
set_option linter.unusedSimpArgs false

theorem keyed8 : Keyed Tryz.prog 5 := int_keyed Tryz.underlying5
theorem wf8 (c : UInt8) : (Lit.int .u8 (c.toNat : Int)).wf = true := by
  have := c.toNat_lt
  have e1 : IntKind.u8.min = 0 := rfl
  have e2 : IntKind.u8.max = 255 := rfl
  simp [Lit.wf, e1, e2]
  omega
theorem key8 (c : UInt8) : keyOf Tryz.prog 5 (.int .u8 (c.toNat : Int)) = some (.int .u8 (c.toNat : Int)) := keyOf_int_mk Tryz.underlying5 (wf8 c)
theorem wfN (n : Nat) (h : n ≤ 1000) : (Lit.int .i64 (n : Int)).wf = true := by
  have e1 : IntKind.i64.min = -9223372036854775808 := rfl
  have e2 : IntKind.i64.max = 9223372036854775807 := rfl
  simp [Lit.wf, e1, e2]
  omega
/-- Block b is a map of at most n entries that has the sort of each letter. -/
def MapAt (w : World) (b n : Nat) (L : UInt8 → Prop) (g : UInt8 → Nat) : Prop := ∃ D : DataW Unit, w.ownsMap Tryz.prog 5 (plainElem Tryz.prog 3) b n D ∧ ∀ c, L c → ∀ z, D.atKey (.int .u8 (c.toNat : Int)) z = .lit (.int .i64 (g c : Int))
theorem MapAt.lt {w : World} {b n : Nat} {L : UInt8 → Prop} {g : UInt8 → Nat} (h : MapAt w b n L g) : b < w.heap.size := by obtain ⟨D, h, _⟩ := h; exact h.lt
theorem MapAt.of {w w' : World} {b n : Nat} {L : UInt8 → Prop} {g : UInt8 → Nat} (h : MapAt w b n L g) (e : w'.heap[b]? = w.heap[b]?) : MapAt w' b n L g := by
  obtain ⟨D, ⟨es, clock, hb, F⟩, hd⟩ := h
  exact ⟨D, ⟨es, clock, e.trans hb, F⟩, hd⟩
theorem MapAt.look {w : World} {b n : Nat} {L : UInt8 → Prop} {g : UInt8 → Nat} (h : MapAt w b n L g) {c : UInt8} (hc : L c) : (Instr.lookup 111 (.map (some b)) (.int .u8 (c.toNat : Int)) false).run Tryz.prog w = .ok (.int .i64 (g c : Int)) w := by
  obtain ⟨D, ho, hd⟩ := h
  obtain ⟨x, h1, h2, h3⟩ := ho.lookup_int keyed8 Tryz.underlying111 Tryz.underlying3 (by kernel_rfl) (key8 c)
  rw [hd c hc] at h2
  simp only [DataW.lit.injEq, Lit.int.injEq, true_and] at h2
  rw [h1, ← h2]
theorem MapAt.upd {w : World} {b n : Nat} {L : UInt8 → Prop} {g : UInt8 → Nat} (h : MapAt w b n L g) (c : UInt8) (k : Nat) (hn : n ≤ 100000) (hk : k ≤ 1000) : ∃ w', (Instr.mapUpdate 111 (.map (some b)) (.int .u8 (c.toNat : Int)) (.int .i64 (k : Int))).run Tryz.prog w = .ok () w' ∧ MapAt w' b (n + 1) (fun x => x = c ∨ L x) (upd6 g c k) ∧ Only b w w' := by
  obtain ⟨D, ho, hd⟩ := h
  have hm := ho.isMap
  obtain ⟨w', h1, h2, h3⟩ := ho.update keyed8 Tryz.underlying111 (by unfold maxLen; omega) (key8 c) (plainElem_int Tryz.underlying3 (wfN k hk))
  refine ⟨w', h1, ⟨_, h2, fun x hx z => ?_⟩, ⟨h3.os, h3.tape, h3.output, h3.size, fun i hi hb => h3.block i hi (by simp [hb])⟩⟩
  unfold upd6
  by_cases e : x = c
  · subst e; rw [if_pos rfl, atKey_put_same hm (by trivial)]
  · rw [if_neg e, atKey_put_other (by intro h; simp only [Lit.int.injEq, true_and] at h; exact e (u8_ext (by omega)))]
    exact hd x (hx.resolve_left e) z
set_option maxHeartbeats 1000000 in
theorem clone_any {w : World} {b n : Nat} {L : UInt8 → Prop} {g : UInt8 → Nat} (h : MapAt w b n L g) :
    Calls Tryz.prog 82 #[.map (some b)] w fun e w' => (∃ b2, e = .returned (.map (some b2)) ∧ w.heap.size ≤ b2 ∧ MapAt w' b2 n L g) ∧ Below w.heap.size w w' := by
  obtain ⟨D, ⟨es, clock, hb, F⟩, hd⟩ := h
  have HD := Lib.hid hd
  have HF := Lib.hid F
  have HB := Lib.hid hb
  have h1 := Go.Proofs.run_maps_clone_sl (P := Tryz.prog) w 111 hb
  have h2 := fun w => Go.Proofs.run_eql_map_nil_sl (P := Tryz.prog) w 111 _ _ (some b) Tryz.underlying111
  clear hd F hb
  go_enter Tryz.func82, Tryz.ntmps82
  go_wp2_with fail
  rw [run_callFunc_extern Tryz.func111 (by kernel_rfl) (by kernel_rfl) (by kernel_rfl) (e := Extern.MapsClone.clone) (by kernel_rfl), h1]
  simp only [Result.andThen]
  rw [Oper.upon_value]
  go_wp2_with fail
  rw [Go.Proofs.run_typeAssert_map_sl _ 111 _ _ _ _ Tryz.underlying111]
  simp only [Result.andThen]
  rw [Oper.upon_value]
  go_wp2_with fail
  go_ret
  exact ⟨⟨_, rfl, Nat.le_refl _, ⟨D, ⟨es, clock, (MapKept.heap_alloc w _).1, HF.out⟩, HD.out⟩⟩, (Below.refl _ w).alloc (Nat.le_refl _) _⟩

/-- Block b has N sorts, and what l asks is done. -/
def Sta (w : World) (b U N : Nat) (l : List (Bool × Nat × Nat)) : Prop := ∃ f r c, ImAt w b U N f c ∧ St6 (S6 l) (C6 l) N f r c 0 0
theorem Sta.lt {w : World} {b U N : Nat} {l : List (Bool × Nat × Nat)} (h : Sta w b U N l) : b < w.heap.size := by obtain ⟨f, r, c, h, _⟩ := h; exact h.lt
theorem Sta.N86 {w : World} {b U N : Nat} {l : List (Bool × Nat × Nat)} (h : Sta w b U N l) : N ≤ 86 := by obtain ⟨f, r, c, h, _⟩ := h; exact h.N86
theorem Sta.of {w w' : World} {b U N : Nat} {l : List (Bool × Nat × Nat)} (h : Sta w b U N l) (e : w'.heap[b]? = w.heap[b]?) : Sta w' b U N l := by
  obtain ⟨f, r, c, h1, h2⟩ := h; exact ⟨f, r, c, h1.of e, h2⟩
theorem Sta.below {w w' : World} {b U N : Nat} {l : List (Bool × Nat × Nat)} (h : Sta w b U N l) (bl : Below w.heap.size w w') : Sta w' b U N l := h.of (bl.block b h.lt)
theorem sta_add {w : World} {b U N : Nat} {l : List (Bool × Nat × Nat)} (h : Sta w b U N l) (hN : N < 86) : Calls Tryz.prog 79 #[.pointer (some ⟨b, 0, none⟩)] w fun e w' => e = .returned (.int .i64 (N : Int)) ∧ Sta w' b U (N + 1) l ∧ Only b w w' := by
  obtain ⟨f, r, c, h1, h2⟩ := h
  refine (add_any h1 hN (h2.out N (Nat.le_refl _)).1 (h2.out N (Nat.le_refl _)).2).mono ?_
  rintro e w' ⟨he, a1, a2⟩
  exact ⟨he, ⟨f, r, c, a1, h2.fresh⟩, a2⟩
theorem sta_join {w : World} {b U N : Nat} {l : List (Bool × Nat × Nat)} (h : Sta w b U N l) {i j : Nat} (hi : i < N) (hj : j < N) : Calls Tryz.prog 84 #[.pointer (some ⟨b, 0, none⟩), .int .i64 (i : Int), .int .i64 (j : Int)] w fun e w' => e = .returned (.tuple #[]) ∧ Sta w' b U N (l ++ [(false, i, j)]) ∧ Only b w w' := by
  obtain ⟨f, r, c, h1, h2⟩ := h
  have h3 := h2.more i j
  rw [← S6_same, ← C6_same l i j] at h3
  refine ((both_ok b U N _).1 _ _ f r c i j w h1 h3 hi hj (num6_le f N)).mono ?_
  rintro e w' ⟨he, f', r', c', a1, a2, a3⟩
  exact ⟨he, ⟨f', r', c', a1, a2⟩, a3⟩
theorem sta_carry {w : World} {b U N : Nat} {l : List (Bool × Nat × Nat)} (h : Sta w b U N l) {i j : Nat} (hi : i < N) (hj : j < N) : Calls Tryz.prog 83 #[.pointer (some ⟨b, 0, none⟩), .int .i64 (i : Int), .int .i64 (j : Int)] w fun e w' => e = .returned (.tuple #[]) ∧ Sta w' b U N (l ++ [(true, i, j)]) ∧ Only b w w' := by
  obtain ⟨f, r, c, h1, h2⟩ := h
  refine ((both_ok b U N _).2 (S6 (l ++ [(true, i, j)])) (C6 (l ++ [(true, i, j)])) f r c i j w h1 h2.rt h2.lt hi hj (num6_le f N) (fun e => ?_) (fun y e => ?_)).mono ?_
  · rw [S6_carry, C6_carry]; exact h2.first hi hj e
  · rw [S6_carry, C6_carry]; exact h2.again e
  rintro e w' ⟨he, f', r', c', a1, a2, a3⟩
  exact ⟨he, ⟨f', r', c', a1, a2⟩, a3⟩

end Go.Proofs.YtlhmjcfnfefliaaGreat.T1
