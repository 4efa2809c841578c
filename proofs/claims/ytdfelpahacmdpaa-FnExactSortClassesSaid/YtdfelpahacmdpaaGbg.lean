/- Texts of the proof, put together: Vk. No conditions. -/
import Derived.Test.YtdfelpahacmdpaaGbf
import Derived.Maps.Own
import Derived.IntWalk
import Derived.Maps.OwnSet
import Derived.Maps.Views
import Derived.Shelf.SlMaps.Clone

/- Sorts in the program: the map of the names in scope; what has been asked so far. -/
namespace Go.Proofs.Ytdfelpahacmdpaa.T1
open Go.RowKit Go.Maps
set_option maxRecDepth 100000
set_option linter.unusedVariables false
set_option linter.unusedSimpArgs false

theorem keyed8 : Keyed Try.prog 5 := int_keyed Try.underlying5
theorem wf8 (c : UInt8) : (Lit.int .u8 (c.toNat : Int)).wf = true := by
  have := c.toNat_lt
  have e1 : IntKind.u8.min = 0 := rfl
  have e2 : IntKind.u8.max = 255 := rfl
  simp [Lit.wf, e1, e2]
  omega
theorem key8 (c : UInt8) : keyOf Try.prog 5 (.int .u8 (c.toNat : Int)) = some (.int .u8 (c.toNat : Int)) := keyOf_int_mk Try.underlying5 (wf8 c)
theorem wfN (n : Nat) (h : n ≤ 1000) : (Lit.int .i64 (n : Int)).wf = true := by
  have e1 : IntKind.i64.min = -9223372036854775808 := rfl
  have e2 : IntKind.i64.max = 9223372036854775807 := rfl
  simp [Lit.wf, e1, e2]
  omega
/-- Block b is a map of at most n entries that has the sort of each letter. -/
def MapAt (w : World) (b n : Nat) (L : UInt8 → Prop) (g : UInt8 → Nat) : Prop := ∃ D : DataW Unit, w.ownsMap Try.prog 5 (plainElem Try.prog 3) b n D ∧ ∀ c, L c → ∀ z, D.atKey (.int .u8 (c.toNat : Int)) z = .lit (.int .i64 (g c : Int))
theorem MapAt.lt {w : World} {b n : Nat} {L : UInt8 → Prop} {g : UInt8 → Nat} (h : MapAt w b n L g) : b < w.heap.size := by obtain ⟨D, h, _⟩ := h; exact h.lt
theorem MapAt.of {w w' : World} {b n : Nat} {L : UInt8 → Prop} {g : UInt8 → Nat} (h : MapAt w b n L g) (e : w'.heap[b]? = w.heap[b]?) : MapAt w' b n L g := by
  obtain ⟨D, ⟨es, clock, hb, F⟩, hd⟩ := h
  exact ⟨D, ⟨es, clock, e.trans hb, F⟩, hd⟩
theorem MapAt.look {w : World} {b n : Nat} {L : UInt8 → Prop} {g : UInt8 → Nat} (h : MapAt w b n L g) {c : UInt8} (hc : L c) : (Instr.lookup 102 (.map (some b)) (.int .u8 (c.toNat : Int)) false).run Try.prog w = .ok (.int .i64 (g c : Int)) w := by
  obtain ⟨D, ho, hd⟩ := h
  obtain ⟨x, h1, h2, h3⟩ := ho.lookup_int keyed8 Try.underlying102 Try.underlying3 (by kernel_rfl) (key8 c)
  rw [hd c hc] at h2
  simp only [DataW.lit.injEq, Lit.int.injEq, true_and] at h2
  rw [h1, ← h2]
theorem MapAt.upd {w : World} {b n : Nat} {L : UInt8 → Prop} {g : UInt8 → Nat} (h : MapAt w b n L g) (c : UInt8) (k : Nat) (hn : n ≤ 100000) (hk : k ≤ 1000) : ∃ w', (Instr.mapUpdate 102 (.map (some b)) (.int .u8 (c.toNat : Int)) (.int .i64 (k : Int))).run Try.prog w = .ok () w' ∧ MapAt w' b (n + 1) (fun x => x = c ∨ L x) (upd6 g c k) ∧ Only b w w' := by
  obtain ⟨D, ho, hd⟩ := h
  have hm := ho.isMap
  obtain ⟨w', h1, h2, h3⟩ := ho.update keyed8 Try.underlying102 (by unfold maxLen; omega) (key8 c) (plainElem_int Try.underlying3 (wfN k hk))
  refine ⟨w', h1, ⟨_, h2, fun x hx z => ?_⟩, ⟨h3.os, h3.tape, h3.output, h3.size, fun i hi hb => h3.block i hi (by simp [hb])⟩⟩
  unfold upd6
  by_cases e : x = c
  · subst e; rw [if_pos rfl, atKey_put_same hm (by trivial)]
  · rw [if_neg e, atKey_put_other (by intro h; simp only [Lit.int.injEq, true_and] at h; exact e (u8_ext (by omega)))]
    exact hd x (hx.resolve_left e) z
set_option maxHeartbeats 1000000 in
theorem clone_any {w : World} {b n : Nat} {L : UInt8 → Prop} {g : UInt8 → Nat} (h : MapAt w b n L g) :
    Calls Try.prog 83 #[.map (some b)] w fun e w' => (∃ b2, e = .returned (.map (some b2)) ∧ w.heap.size ≤ b2 ∧ MapAt w' b2 n L g) ∧ Below w.heap.size w w' := by
  obtain ⟨D, ⟨es, clock, hb, F⟩, hd⟩ := h
  have HD := Lib.hid hd
  have HF := Lib.hid F
  have HB := Lib.hid hb
  have h1 := Go.Proofs.run_maps_clone_sl (P := Try.prog) w 102 hb
  have h2 := fun w => Go.Proofs.run_eql_map_nil_sl (P := Try.prog) w 102 _ _ (some b) Try.underlying102
  clear hd F hb
  go_enter Try.func83, Try.ntmps83
  go_wp2_with fail
  rw [run_callFunc_extern Try.func102 (by kernel_rfl) (by kernel_rfl) (by kernel_rfl) (e := Extern.MapsClone.clone) (by kernel_rfl), h1]
  simp only [Result.andThen]
  rw [Oper.upon_value]
  go_wp2_with fail
  rw [Go.Proofs.run_typeAssert_map_sl _ 102 _ _ _ _ Try.underlying102]
  simp only [Result.andThen]
  rw [Oper.upon_value]
  go_wp2_with fail
  go_ret
  exact ⟨⟨_, rfl, Nat.le_refl _, ⟨D, ⟨es, clock, (MapKept.heap_alloc w _).1, HF.out⟩, HD.out⟩⟩, (Below.refl _ w).alloc (Nat.le_refl _) _⟩

/-- Block b has N sorts, and what l asks is done. -/
def Sta (w : World) (b U N : Nat) (l : List (Bool × Nat × Nat)) : Prop := ∃ f r c, ImAt w b U N f c ∧ St6 (S6 l) (C6 l) N f r c 0 0
theorem Sta.lt {w : World} {b U N : Nat} {l : List (Bool × Nat × Nat)} (h : Sta w b U N l) : b < w.heap.size := by obtain ⟨f, r, c, h, _⟩ := h; exact h.lt
theorem Sta.N86 {w : World} {b U N : Nat} {l : List (Bool × Nat × Nat)} (h : Sta w b U N l) : N ≤ 86 := by obtain ⟨f, r, c, h, _⟩ := h; exact h.N86
theorem Sta.of {w w' : World} {b U N : Nat} {l : List (Bool × Nat × Nat)} (h : Sta w b U N l) (e : w'.heap[b]? = w.heap[b]?) : Sta w' b U N l := by
  obtain ⟨f, r, c, h1, h2⟩ := h; exact ⟨f, r, c, h1.of e, h2⟩
theorem Sta.below {w w' : World} {b U N : Nat} {l : List (Bool × Nat × Nat)} (h : Sta w b U N l) (bl : Below w.heap.size w w') : Sta w' b U N l := h.of (bl.block b h.lt)
theorem sta_add {w : World} {b U N : Nat} {l : List (Bool × Nat × Nat)} (h : Sta w b U N l) (hN : N < 86) : Calls Try.prog 80 #[.pointer (some ⟨b, 0, none⟩)] w fun e w' => e = .returned (.int .i64 (N : Int)) ∧ Sta w' b U (N + 1) l ∧ Only b w w' := by
  obtain ⟨f, r, c, h1, h2⟩ := h
  refine (add_any h1 hN (h2.out N (Nat.le_refl _)).1 (h2.out N (Nat.le_refl _)).2).mono ?_
  rintro e w' ⟨he, a1, a2⟩
  exact ⟨he, ⟨f, r, c, a1, h2.fresh⟩, a2⟩
theorem sta_join {w : World} {b U N : Nat} {l : List (Bool × Nat × Nat)} (h : Sta w b U N l) {i j : Nat} (hi : i < N) (hj : j < N) : Calls Try.prog 85 #[.pointer (some ⟨b, 0, none⟩), .int .i64 (i : Int), .int .i64 (j : Int)] w fun e w' => e = .returned (.tuple #[]) ∧ Sta w' b U N (l ++ [(false, i, j)]) ∧ Only b w w' := by
  obtain ⟨f, r, c, h1, h2⟩ := h
  have h3 := h2.more i j
  rw [← S6_same, ← C6_same l i j] at h3
  refine ((both_ok b U N _).1 _ _ f r c i j w h1 h3 hi hj (num6_le f N)).mono ?_
  rintro e w' ⟨he, f', r', c', a1, a2, a3⟩
  exact ⟨he, ⟨f', r', c', a1, a2⟩, a3⟩
theorem sta_carry {w : World} {b U N : Nat} {l : List (Bool × Nat × Nat)} (h : Sta w b U N l) {i j : Nat} (hi : i < N) (hj : j < N) : Calls Try.prog 84 #[.pointer (some ⟨b, 0, none⟩), .int .i64 (i : Int), .int .i64 (j : Int)] w fun e w' => e = .returned (.tuple #[]) ∧ Sta w' b U N (l ++ [(true, i, j)]) ∧ Only b w w' := by
  obtain ⟨f, r, c, h1, h2⟩ := h
  refine ((both_ok b U N _).2 (S6 (l ++ [(true, i, j)])) (C6 (l ++ [(true, i, j)])) f r c i j w h1 h2.rt h2.lt hi hj (num6_le f N) (fun e => ?_) (fun y e => ?_)).mono ?_
  · rw [S6_carry, C6_carry]; exact h2.first hi hj e
  · rw [S6_carry, C6_carry]; exact h2.again e
  rintro e w' ⟨he, f', r', c', a1, a2, a3⟩
  exact ⟨he, ⟨f', r', c', a1, a2⟩, a3⟩

end Go.Proofs.Ytdfelpahacmdpaa.T1
