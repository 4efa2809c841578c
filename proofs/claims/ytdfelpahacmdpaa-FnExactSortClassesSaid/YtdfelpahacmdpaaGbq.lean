/- Texts of the proof, put together: Vp. No conditions. -/
import Derived.Test.YtdfelpahacmdpaaGbp
import Derived.Deep.AppendLies
import Derived.Deep.RegionLaw
import Derived.Deep.RegionHeld3

/- Sorts in the specification: one more. -/
namespace Go.Proofs.Ytdfelpahacmdpaa.T1
open Go.RowKit
set_option maxRecDepth 100000
set_option linter.unusedVariables false
set_option linter.unusedSimpArgs false

theorem Try.infoI : (Try.prog.info? 3).map (fun i => (i.zero, i.size, i.bytes)) = some (some (.int .i64 0), 1, 8) := by kernel_rfl
theorem rF_more (N : Nat) (f : Nat → Nat) (h : f N = N) : rF (N + 1) f = rF N f ++ [.int .i64 (N : Int)] := by
  unfold rF; rw [List.range_succ, List.map_append]; simp [h]
theorem rC_more (N : Nat) (c : Nat → Option Nat) (h : c N = none) : rC (N + 1) c = rC N c ++ [.int .i64 (-1)] := by
  unfold rC; rw [List.range_succ, List.map_append]; simp [h, cS]
theorem own_slice6 {w : World} {base n : Nat} {e : TypeId} {v : Value} {xs : List Value} (h : w.ownsRow base e 1 v n xs) : ∃ p cap, v = .slice p n cap := by
  rcases h.2 with ⟨h1, h0⟩ | ⟨g, cap, cur, hv, _⟩
  · subst h0; exact ⟨_, _, h1⟩
  · exact ⟨_, cap, hv⟩
theorem set_two {w : World} {b : Nat} {x y z : Value} {T : TypeId} (h : w.heap[b]? = some (.cells #[x, y] T (0, 0))) : (w.setCell ⟨b, 0, none⟩ z).heap[b]? = some (.cells #[z, y] T (0, 0)) ∧ (w.setCell ⟨b, 1, none⟩ z).heap[b]? = some (.cells #[x, z] T (0, 0)) := by
  constructor
  · rw [set_cells h]; rfl
  · rw [set_cells h]; rfl
theorem own_set6 {w : World} {base size n b o : Nat} {e : TypeId} {v x : Value} {xs : List Value} (h : w.ownsRow base e size v n xs) (hb : b < base) : (w.setCell ⟨b, o, none⟩ x).ownsRow base e size v n xs := by
  refine ⟨h.1, h.2.imp id ?_⟩
  rintro ⟨g, cap, cur, hv, h2, h3, h4⟩
  exact ⟨g, cap, cur, hv, h2, (Below.heap_setCell _ _ _ _ (by show g ≠ b; omega)).trans h3, h4⟩
set_option maxHeartbeats 2000000 in
theorem fresh_any {w : World} {b N : Nat} {f : Nat → Nat} {c : Nat → Option Nat} {v1 v2 : Value} (h : SoAt w b N f c v1 v2) (hN : N ≤ 1000) (hf : f N = N) (hc : c N = none) :
    Calls Try.prog 51 #[.pointer (some ⟨b, 0, none⟩)] w fun e w' => e = .returned (.int .i64 (N : Int)) ∧ (∃ v1' v2', SoAt w' b (N + 1) f c v1' v2') ∧ Bes b w w' := by
  obtain ⟨i0, hi, hz0, hz1, hz2⟩ := info_parts Try.infoI
  obtain ⟨p1, q1, rfl⟩ := own_slice6 h.r1
  obtain ⟨p2, q2, rfl⟩ := own_slice6 h.r2
  have H := Lib.hid h
  have Hf := Lib.hid hf
  have Hc := Lib.hid hc
  have hlt := h.lt
  have cb1 := h.c1
  have cb2 := h.c2
  obtain ⟨T0, hbT⟩ := h.hb
  have fb := cellsFree hbT 0
  have fb1 := cellsFree hbT 1
  have HT0 := Lib.hid hbT
  have O1 := Lib.hid ((h.r1.alloc (.cells #[.int .i64 (N : Int)] 3)))
  have NW := Lib.hid (cell_row w [.int .i64 (N : Int)] 3)
  have HA := Lib.hid (show (w.alloc (.cells #[.int .i64 (N : Int)] 3)).heap[b]? = some (.cells #[.slice p1 N q1, .slice p2 N q2] T0 (0, 0)) from (Below.heap_alloc _ _ _ hlt).trans hbT)
  have hneB : Hid (some b ≠ (Value.slice p1 N q1).ownBlock) := fun e => by have := (h.r1.lt b e.symm).1; omega
  have hneC : Hid (some b ≠ (Value.slice p2 N q2).ownBlock) := fun e => by have := (h.r2.lt b e.symm).1; omega
  clear h hf hc hbT
  go_enter Try.func51, Try.ntmps51
  go_wp2_with fail
  go_region_law
    (refine step_append_lies _ rfl (.tmp 7) (.tmp 13) 60 rfl (b + 1) 3 i0 (.int .i64 0) 1 8 Try.underlying60 hi hz0 hz1 hz2 rfl (by decide) (.slice p1 N q1) N (rF N f) rfl O1.out ⟨w.heap.size, 0, none⟩ 1 1 [.int .i64 (N : Int)] rfl rfl NW.out (by simp [Value.oneCell']) (by decide) (by unfold maxLen; omega) (by omega) (by simp; omega) _ rfl ?_
     intro g cap w9 hown hgrow hat hlt9
     have h9 := (hgrow.block b (by simp; omega) hneB.out).trans HA.out
     have s0 := cellOf2a h9
     have s1 := cellsFree h9 0
     have H9 := Lib.hid h9
     have OWN := Lib.hid hown
     have GROW := Lib.hid hgrow
     have AT := Lib.hid hat
     clear h9 hown hgrow hat)
  all_goals
    have hs9 : w.heap.size + 1 ≤ w9.heap.size := by have := GROW.out.size; simpa using this
    have neV : ∀ g', (Value.slice p2 N q2).ownBlock = some g' → (Value.slice p1 N q1).ownBlock ≠ some g' := fun g' h1 h2 => H.out.ne g' h2 h1
    have r28 : (w.alloc (.cells #[.int .i64 (N : Int)] 3)).drew.ownsRow (b + 1) 3 1 (.slice p2 N q2) N (rC N c) := H.out.r2.alloc _
    have r29 := Lib.hid (own_grown r28 GROW.out neV)
    obtain ⟨X, hX⟩ : ∃ X, X = w9.setCell ⟨b, 0, none⟩ (.slice (some ⟨g, 0, none⟩) (N + 1) cap) := ⟨_, rfl⟩
    rw [← hX]
    have hbX := (set_two (z := .slice (some ⟨g, 0, none⟩) (N + 1) cap) H9.out).1
    rw [← hX] at hbX
    have r1X := own_set6 (o := 0) (x := .slice (some ⟨g, 0, none⟩) (N + 1) cap) OWN.out (Nat.lt_succ_self b)
    have r2X := own_set6 (o := 0) (x := .slice (some ⟨g, 0, none⟩) (N + 1) cap) r29.out (Nat.lt_succ_self b)
    rw [← hX] at r1X r2X
    have hsX : w9.heap.size = X.heap.size := by rw [hX]; simp [World.setCell]
    have gAt : (Value.slice p1 N q1).ownBlock = some g ∨ w.heap.size ≤ g := by
      rcases AT.out with h | h
      · exact .inl h
      · right
        have : (w.alloc (.cells #[.int .i64 (N : Int)] 3)).drew.heap.size = w.heap.size + 1 := by simp
        omega
    have kX : ∀ i, i < w.heap.size → ¬ Own6 w b i → X.heap[i]? = w.heap[i]? := fun i hi hn => by
      have n1 : i ≠ b := fun e => hn (.inl e)
      have n2 : some i ≠ (Value.slice p1 N q1).ownBlock := fun e => hn (.inr ⟨_, _, T0, HT0.out, .inl e.symm⟩)
      rw [hX, Below.heap_setCell _ _ _ _ n1]
      exact (GROW.out.block i (by simp; omega) n2).trans (Below.heap_alloc _ _ _ hi)
    have oX : X.os = w.os ∧ X.tape = w.tape ∧ X.output = w.output := by
      rw [hX]; exact ⟨GROW.out.os, GROW.out.tape, GROW.out.output⟩
    have gV2 : (Value.slice p2 N q2).ownBlock ≠ some g := fun e => by
      rcases gAt with h | h
      · exact H.out.ne g h e
      · have := (H.out.r2.lt g e).2; omega
    have HBX := Lib.hid hbX
    have R1X := Lib.hid r1X
    have R2X := Lib.hid r2X
    have KX := Lib.hid kX
    have OX := Lib.hid oX
    have GV2 := Lib.hid gV2
    have GAT := Lib.hid gAt
    have cX2 := cellOf2b hbX
    have O2 := Lib.hid (r2X.alloc (.cells #[.int .i64 (-1)] 3))
    have NW2 := Lib.hid (cell_row X [.int .i64 (-1)] 3)
    have HAX := Lib.hid (show (X.alloc (.cells #[.int .i64 (-1)] 3)).heap[b]? = some (.cells #[.slice (some ⟨g, 0, none⟩) (N + 1) cap, .slice p2 N q2] T0 (0, 0)) from (Below.heap_alloc _ _ _ (by omega)).trans hbX)
    clear s0 s1 hbX r1X r2X kX oX gV2 gAt hX neV cb1 cb2 fb fb1
    go_wp2_with (at_builtin; refine wpList_append_lies _ rfl (.tmp 21) (.tmp 22) 60 rfl (b + 1) 3 i0 (.int .i64 0) 1 8 Try.underlying60 hi hz0 hz1 hz2 rfl (by decide) (.slice p2 N q2) N (rC N c) rfl O2.out ⟨X.heap.size, 0, none⟩ 1 1 [.int .i64 (-1)] rfl rfl NW2.out (by simp [Value.oneCell']) (by decide) (by unfold maxLen; omega) (by omega) (by simp; omega) _ rfl ?_)
    intro g2 cap2 w10 hown2 hgrow2 hat2 hlt10
    have h10 := (hgrow2.block b (by simp; omega) hneC.out).trans HAX.out
    have s0 := cellOf2a h10
    have s1 := cellOf2b h10
    have s2 := cellsFree h10 1
    have H10 := Lib.hid h10
    have OWN2 := Lib.hid hown2
    have GROW2 := Lib.hid hgrow2
    have AT2 := Lib.hid hat2
    clear h10 hown2 hgrow2 hat2 cX2
    go_wp2_with fail
    go_ret
    have hs10 : X.heap.size + 1 ≤ w10.heap.size := by have := GROW2.out.size; simpa using this
    have g2At : (Value.slice p2 N q2).ownBlock = some g2 ∨ X.heap.size ≤ g2 := by
      rcases AT2.out with h | h
      · exact .inl h
      · right
        have : (X.alloc (.cells #[.int .i64 (-1)] 3)).heap.size = X.heap.size + 1 := by simp
        omega
    have gg : g ≠ g2 := fun e => by
      subst e
      rcases g2At with h | h
      · exact GV2.out h
      · have := (R1X.out.lt g rfl).2; omega
    have r1W := own_set6 (o := 1) (x := .slice (some ⟨g2, 0, none⟩) (N + 1) cap2) (own_grown (R1X.out.alloc (.cells #[.int .i64 (-1)] 3)) GROW2.out (fun g' h1 h2 => GV2.out (by rw [h2]; exact h1.symm))) (Nat.lt_succ_self b)
    have r2W := own_set6 (o := 1) (x := .slice (some ⟨g2, 0, none⟩) (N + 1) cap2) OWN2.out (Nat.lt_succ_self b)
    refine ⟨by go_num, ⟨.slice (some ⟨g, 0, none⟩) (N + 1) cap, .slice (some ⟨g2, 0, none⟩) (N + 1) cap2, ⟨⟨T0, (set_two H10.out).2⟩, by rw [rF_more N f Hf.out]; exact r1W, by rw [rC_more N c Hc.out]; exact r2W, fun g' h1 h2 => gg (by simp only [Value.ownBlock, Option.some.injEq] at h1 h2; omega)⟩⟩, ⟨GROW2.out.os.trans OX.out.1, GROW2.out.tape.trans OX.out.2.1, GROW2.out.output.trans OX.out.2.2, by simp [World.setCell]; omega, fun i hi hn => ?_⟩⟩
    have n1 : i ≠ b := fun e => hn (.inl e)
    have n2 : some i ≠ (Value.slice p2 N q2).ownBlock := fun e => hn (.inr ⟨_, _, T0, HT0.out, .inr e.symm⟩)
    refine ⟨?_, fun ho => ?_⟩
    · rw [Below.heap_setCell _ _ _ _ n1]
      exact ((GROW2.out.block i (by simp; omega) n2).trans (Below.heap_alloc _ _ _ (by omega))).trans (KX.out i hi hn)
    · rcases ho with h | ⟨a1, a2, T, h, h3⟩
      · exact n1 h
      · rw [(set_two H10.out).2] at h
        simp only [Option.some.injEq, Obj.cells.injEq, Array.mk.injEq, List.cons.injEq] at h
        obtain ⟨⟨rfl, rfl, _⟩, _⟩ := h
        rcases h3 with h3 | h3
        · simp only [Value.ownBlock, Option.some.injEq] at h3
          rcases GAT.out with h4 | h4
          · exact hn (.inr ⟨_, _, T0, HT0.out, .inl (by rw [h4, h3])⟩)
          · omega
        · simp only [Value.ownBlock, Option.some.injEq] at h3
          rcases g2At with h4 | h4
          · exact hn (.inr ⟨_, _, T0, HT0.out, .inr (by rw [h4, h3])⟩)
          · omega

end Go.Proofs.Ytdfelpahacmdpaa.T1
