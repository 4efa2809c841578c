/- Texts of the proof, put together: Vt, Vw. No conditions. -/
import Derived.Test.YtlhmjcfnfefliaaGreatHbd
import Derived.Laws.AppendOwnNone

/- Sorts in the specification: a scope with a name more. -/
namespace Go.Proofs.YtlhmjcfnfefliaaGreat.T1
open Go.RowKit
set_option maxRecDepth 100000
set_option linter.unusedVariables false
set_option linter.unusedSimpArgs false

theorem conv6 (x : UInt8) (v : World) (h : Nat) (c0 : v.cell? ⟨h, 0, none⟩ = some (.int .u8 (x.toNat : Int))) : (convert 22 9 (.slice (some ⟨h, 0, none⟩) 1 1)).run Tryz.prog v = .ok (.string (one x)) v :=
  run_convert_bytes_back _ 22 9 5 _ 1 [x] Tryz.underlying22 Tryz.underlying5 Tryz.underlying9 (fun j hj => by
    have : j = 0 := by simp at hj; omega
    subst this
    rw [show (⟨h, 0, none⟩ : Addr).add 0 = ⟨h, 0, none⟩ from rfl, c0]; rfl)
theorem with_end {w w9 W : World} {s : ByteArray} {v : Value} {ns : List UInt8} {xs : List Nat} {x : UInt8} {k g3 cap3 : Nat} (h : ScAt w s v ns xs) (hx : 0 < xs.length) (ho : w9.ownsRow w.heap.size 3 1 (.slice (some ⟨g3, 0, none⟩) (1 + xs.length) cap3) (1 + xs.length) ([.int .i64 (k : Int)] ++ rI xs))
    (hd : w9.heap[w.heap.size + 1]? = some (.cells #[.string ⟨#[]⟩, .slice none 0 0] 97 (0, 0))) (hb : Below w.heap.size w w9) (hg : W.heap.size ≤ g3) (hW : W.heap.size ≤ w.heap.size + 2) (h9 : w.heap.size + 1 < w9.heap.size) (hW2 : w.heap.size + 1 < W.heap.size) :
    ((w9.setCell ⟨w.heap.size + 1, 0, none⟩ (.string (one x ++ s))).setCell ⟨w.heap.size + 1, 1, none⟩ (.slice (some ⟨g3, 0, none⟩) (1 + xs.length) cap3)).heap[w.heap.size + 1]? = some (.cells #[.string (one x ++ s), .slice (some ⟨g3, 0, none⟩) (1 + xs.length) cap3] 97 (0, 0)) ∧
    ScAt ((w9.setCell ⟨w.heap.size + 1, 0, none⟩ (.string (one x ++ s))).setCell ⟨w.heap.size + 1, 1, none⟩ (.slice (some ⟨g3, 0, none⟩) (1 + xs.length) cap3)) (one x ++ s) (.slice (some ⟨g3, 0, none⟩) (1 + xs.length) cap3) (x :: ns) (k :: xs) ∧
    Below w.heap.size w ((w9.setCell ⟨w.heap.size + 1, 0, none⟩ (.string (one x ++ s))).setCell ⟨w.heap.size + 1, 1, none⟩ (.slice (some ⟨g3, 0, none⟩) (1 + xs.length) cap3)) ∧
    w.heap.size + 1 < ((w9.setCell ⟨w.heap.size + 1, 0, none⟩ (.string (one x ++ s))).setCell ⟨w.heap.size + 1, 1, none⟩ (.slice (some ⟨g3, 0, none⟩) (1 + xs.length) cap3)).heap.size := by
  refine ⟨(set_two (set_two hd).1).2, ⟨?_, by simp [h.len], ?_, fun e => by cases e⟩, (hb.setCell (p := ⟨w.heap.size + 1, 0, none⟩) (by show w.heap.size ≤ w.heap.size + 1; omega) _).setCell (p := ⟨w.heap.size + 1, 1, none⟩) (by show w.heap.size ≤ w.heap.size + 1; omega) _, by simp [World.setCell]; omega⟩
  · simp [one, h.text]
  · have e : (k :: xs).length = 1 + xs.length := by simp; omega
    rw [e]
    have r : rI (k :: xs) = [.int .i64 (k : Int)] ++ rI xs := rfl
    rw [r]
    refine own_bas2 (base := w.heap.size) (own_keep ho fun g hg' => ?_) (Nat.zero_le _)
    simp only [Value.ownBlock, Option.some.injEq] at hg'
    have hne : g ≠ w.heap.size + 1 := by omega
    exact (Below.heap_setCell _ _ _ _ hne).trans (Below.heap_setCell _ _ _ _ hne)
set_option maxHeartbeats 40000000 in
theorem with_some {w : World} {s : ByteArray} {v : Value} {ns : List UInt8} {xs : List Nat} (h : ScAt w s v ns xs) (hl : ns.length ≤ 1000) (x : UInt8) (k : Nat) (hx : 0 < xs.length) :
    Calls Tryz.prog 95 #[.agg #[.string s, v], .int .u8 (x.toNat : Int), .int .i64 (k : Int)] w fun e w' => (∃ s' v', e = .returned (.agg #[.string s', v']) ∧ ScAt w' s' v' (x :: ns) (k :: xs) ∧ ∀ g, v'.ownBlock = some g → w.heap.size ≤ g) ∧ Below w.heap.size w w' := by
  obtain ⟨i0, hi, hz0, hz1, hz2⟩ := info_parts Tryz.infoI
  obtain ⟨g, kc, rfl⟩ := own_form6 h.row hx
  have hcg := conv6 x
  have hcv := conv1 x
  have hcvd := conv1d x
  have hxl : xs.length ≤ 1000 := by have := h.len; omega
  have hsl : s.size ≤ 1000 := by rw [← h.text] at hl; simpa using hl
  have hcat : ¬ 9223372036854775807 < (one x).size + s.size := by have : (one x).size = 1 := rfl; omega
  have H := Lib.hid h
  obtain ⟨t1, t2⟩ := And.intro (first_block w (.cells #[.string s, .slice (some ⟨g, 0, none⟩) xs.length kc] 97) (.cells #[.string ⟨#[]⟩, .slice none 0 0] 97)) (last_block w (.cells #[.string s, .slice (some ⟨g, 0, none⟩) xs.length kc] 97) (.cells #[.string ⟨#[]⟩, .slice none 0 0] 97))
  have bW := below_two w (.cells #[.string s, .slice (some ⟨g, 0, none⟩) xs.length kc] 97) (.cells #[.string ⟨#[]⟩, .slice none 0 0] 97)
  obtain ⟨W, hW⟩ : ∃ W, W = (w.alloc (.cells #[.string s, .slice (some ⟨g, 0, none⟩) xs.length kc] 97)).alloc (.cells #[.string ⟨#[]⟩, .slice none 0 0] 97) := ⟨_, rfl⟩
  have hWs : Hid (W.heap.size = w.heap.size + 2) := by show _ = _; rw [hW]; simp
  have hWl : w.heap.size + 1 < W.heap.size := by have := hWs.out; omega
  have hWm : W.heap.size ≤ w.heap.size + 2 := by have := hWs.out; omega
  rw [← hW] at t1 t2 bW
  have x0 := cellOf2a t1
  have x1 := cellOf2b t1
  have y0 := cellOf2a t2
  have y1 := cellOf2b t2
  have z0 := cellsFree t2 0
  have z1 := cellsFree t2 1
  have RW := h.below bW
  have x0a : ∀ o, (W.alloc o).cell? ⟨w.heap.size, 0, none⟩ = some (.string s) := fun o => by rw [World.cell?_alloc_past _ _ _ (by omega)]; exact x0
  have x0b : ∀ o o', ((W.alloc o).alloc o').cell? ⟨w.heap.size, 0, none⟩ = some (.string s) := fun o o' => by rw [World.cell?_alloc_past _ _ _ (by simp; omega)]; exact x0a o
  have x1a : ∀ o, (W.alloc o).cell? ⟨w.heap.size, 1, none⟩ = some (.slice (some ⟨g, 0, none⟩) xs.length kc) := fun o => by rw [World.cell?_alloc_past _ _ _ (by omega)]; exact x1
  have x1b : ∀ o o', ((W.alloc o).alloc o').cell? ⟨w.heap.size, 1, none⟩ = some (.slice (some ⟨g, 0, none⟩) xs.length kc) := fun o o' => by rw [World.cell?_alloc_past _ _ _ (by simp; omega)]; exact x1a o
  have y0a : ∀ o, (W.alloc o).cell? ⟨w.heap.size + 1, 0, none⟩ = some (.string ⟨#[]⟩) := fun o => by rw [World.cell?_alloc_past _ _ _ (by omega)]; exact y0
  have y0b : ∀ o o', ((W.alloc o).alloc o').cell? ⟨w.heap.size + 1, 0, none⟩ = some (.string ⟨#[]⟩) := fun o o' => by rw [World.cell?_alloc_past _ _ _ (by simp; omega)]; exact y0a o
  have y1a : ∀ o, (W.alloc o).cell? ⟨w.heap.size + 1, 1, none⟩ = some (.slice none 0 0) := fun o => by rw [World.cell?_alloc_past _ _ _ (by omega)]; exact y1
  have y1b : ∀ o o', ((W.alloc o).alloc o').cell? ⟨w.heap.size + 1, 1, none⟩ = some (.slice none 0 0) := fun o o' => by rw [World.cell?_alloc_past _ _ _ (by simp; omega)]; exact y1a o
  have z0a : ∀ o, (W.alloc o).frozen? ⟨w.heap.size + 1, 0, none⟩ = false := fun o => by rw [World.frozen?_alloc_past _ _ _ (by omega)]; exact z0
  have z0b : ∀ o o', ((W.alloc o).alloc o').frozen? ⟨w.heap.size + 1, 0, none⟩ = false := fun o o' => by rw [World.frozen?_alloc_past _ _ _ (by simp; omega)]; exact z0a o
  have z1a : ∀ o, (W.alloc o).frozen? ⟨w.heap.size + 1, 1, none⟩ = false := fun o => by rw [World.frozen?_alloc_past _ _ _ (by omega)]; exact z1
  have z1b : ∀ o o', ((W.alloc o).alloc o').frozen? ⟨w.heap.size + 1, 1, none⟩ = false := fun o o' => by rw [World.frozen?_alloc_past _ _ _ (by simp; omega)]; exact z1a o
  have t2a : Hid (∀ o, (W.alloc o).heap[w.heap.size + 1]? = some (.cells #[.string ⟨#[]⟩, .slice none 0 0] 97 (0, 0))) := fun o => (Below.heap_alloc _ _ _ (by omega)).trans t2
  have t2b : Hid (∀ o o', ((W.alloc o).alloc o').heap[w.heap.size + 1]? = some (.cells #[.string ⟨#[]⟩, .slice none 0 0] 97 (0, 0))) := fun o o' => (Below.heap_alloc _ _ _ (by simp; omega)).trans (t2a.out o)
  have HBa : Hid (∀ o, Below w.heap.size w (W.alloc o).drew) := fun o => (bW.alloc (by omega) o).drew
  have HBb : Hid (∀ o o', Below w.heap.size w ((W.alloc o).alloc o').drew) := fun o o' => ((bW.alloc (by omega) o).alloc (by simp; omega) o').drew
  have ONE : Hid (∀ u ∈ rI xs, u.oneCell' = true) := fun u hu => by obtain ⟨k, _, rfl⟩ := List.mem_map.1 hu; rfl
  have OB1 := Lib.hid (own_new1 W (.int .i64 (k : Int)) 3 w.heap.size (by omega))
  have NB1 := Lib.hid (own_cells (RW.row.alloc (.cells #[.int .i64 (k : Int)] 3)))
  have OB2 := Lib.hid (own_new1 (W.alloc (.cells #[.int .u8 (x.toNat : Int)] 5)) (.int .i64 (k : Int)) 3 w.heap.size (by simp; omega))
  have NB2 := Lib.hid (own_cells ((RW.row.alloc (.cells #[.int .u8 (x.toNat : Int)] 5)).alloc (.cells #[.int .i64 (k : Int)] 3)))
  have OB3 := Lib.hid ((own_new1 W (.int .i64 (k : Int)) 3 w.heap.size (by omega)).alloc (.cells #[.int .u8 (x.toNat : Int)] 5))
  have NB3 := Lib.hid (own_cells ((RW.row.alloc (.cells #[.int .i64 (k : Int)] 3)).alloc (.cells #[.int .u8 (x.toNat : Int)] 5)))
  have es2 : Hid ((W.alloc (.cells #[.int .u8 (x.toNat : Int)] 5)).heap.size = W.heap.size + 1) := by show _ = _; simp
  rw [es2.out] at OB2
  have AC2 : Hid (((W.alloc (.cells #[.int .u8 (x.toNat : Int)] 5)).alloc (.cells #[.int .i64 (k : Int)] 3)).cell? ⟨W.heap.size, 0, none⟩ = some (.int .u8 (x.toNat : Int))) := by
    show _ = _
    rw [World.cell?_alloc_past _ _ _ (by simp), World.cell?_alloc_new]; rfl
  have AC3 : Hid (((W.alloc (.cells #[.int .i64 (k : Int)] 3)).alloc (.cells #[.int .u8 (x.toNat : Int)] 5)).cell? ⟨W.heap.size + 1, 0, none⟩ = some (.int .u8 (x.toNat : Int))) := by
    have e : W.heap.size + 1 = (W.alloc (.cells #[.int .i64 (k : Int)] 3)).heap.size := by simp
    show _ = _
    rw [e, World.cell?_alloc_new]; rfl
  have HB := Lib.hid bW
  clear h t1 t2 bW RW
  go_enter Tryz.func95, Tryz.ntmps95
  go_wp2_with fail
  rw [← hW]
  clear hW
  go_region_law (first
      | (refine step_append_lies _ rfl (.tmp 14) (.tmp 16) 50 rfl w.heap.size 3 i0 (.int .i64 0) 1 8 Tryz.underlying50 hi hz0 hz1 hz2 rfl (by decide) (.slice (some ⟨W.heap.size, 0, none⟩) 1 1) 1 [.int .i64 (k : Int)] rfl OB1.out ⟨g, 0, none⟩ xs.length kc (rI xs) rfl (by simp [rI]) NB1.out ONE.out hx (by unfold maxLen; omega) (by omega) (by first | (simp; done) | (simp; omega) | omega) _ rfl ?_
         intro g3 cap3 w9 hown hgrow hat hlt9
         have b0 := (hgrow.cell_far ⟨w.heap.size, 0, none⟩ (by first | (simp; done) | (simp; omega) | omega) (by first | (simp [Value.ownBlock]; done) | (simp [Value.ownBlock]; omega))).trans (x0a _)
         have b1 := (hgrow.cell_far ⟨w.heap.size, 1, none⟩ (by first | (simp; done) | (simp; omega) | omega) (by first | (simp [Value.ownBlock]; done) | (simp [Value.ownBlock]; omega))).trans (x1a _)
         have d0 := (hgrow.cell_far ⟨w.heap.size + 1, 0, none⟩ (by first | (simp; done) | (simp; omega) | omega) (by first | (simp [Value.ownBlock]; done) | (simp [Value.ownBlock]; omega))).trans (y0a _)
         have d1 := (hgrow.cell_far ⟨w.heap.size + 1, 1, none⟩ (by first | (simp; done) | (simp; omega) | omega) (by first | (simp [Value.ownBlock]; done) | (simp [Value.ownBlock]; omega))).trans (y1a _)
         have f0 := (hgrow.frozen_far ⟨w.heap.size + 1, 0, none⟩ (by first | (simp; done) | (simp; omega) | omega) (by first | (simp [Value.ownBlock]; done) | (simp [Value.ownBlock]; omega))).trans (z0a _)
         have f1 := (hgrow.frozen_far ⟨w.heap.size + 1, 1, none⟩ (by first | (simp; done) | (simp; omega) | omega) (by first | (simp [Value.ownBlock]; done) | (simp [Value.ownBlock]; omega))).trans (z1a _)
         have OWN := Lib.hid hown
         have D9 := Lib.hid ((hgrow.block (w.heap.size + 1) (by first | (simp; done) | (simp; omega) | omega) (by first | (simp [Value.ownBlock]; done) | (simp [Value.ownBlock]; omega))).trans (t2a.out _))
         have B9 := Lib.hid (below_grown2 (HBa.out _) hgrow (fun g e => by simp [Value.ownBlock] at e; omega) (by first | (simp; done) | (simp; omega) | omega))
         have G3 := Lib.hid (show W.heap.size ≤ g3 from (by rcases hat with e | e; (· simp [Value.ownBlock] at e; omega); (· simp at e; omega)))
         have hs9 : w.heap.size + 1 < w9.heap.size := by have := hgrow.size; simp at this; omega
         have hs8 : w.heap.size < w9.heap.size := by omega
         clear hown hgrow hat)
      | (refine step_append_lies _ rfl (.tmp 14) (.tmp 16) 50 rfl w.heap.size 3 i0 (.int .i64 0) 1 8 Tryz.underlying50 hi hz0 hz1 hz2 rfl (by decide) (.slice (some ⟨W.heap.size + 1, 0, none⟩) 1 1) 1 [.int .i64 (k : Int)] rfl OB2.out ⟨g, 0, none⟩ xs.length kc (rI xs) rfl (by simp [rI]) NB2.out ONE.out hx (by unfold maxLen; omega) (by omega) (by first | (simp; done) | (simp; omega) | omega) _ rfl ?_
         intro g3 cap3 w9 hown hgrow hat hlt9
         have b0 := (hgrow.cell_far ⟨w.heap.size, 0, none⟩ (by first | (simp; done) | (simp; omega) | omega) (by first | (simp [Value.ownBlock]; done) | (simp [Value.ownBlock]; omega))).trans (x0b _ _)
         have b1 := (hgrow.cell_far ⟨w.heap.size, 1, none⟩ (by first | (simp; done) | (simp; omega) | omega) (by first | (simp [Value.ownBlock]; done) | (simp [Value.ownBlock]; omega))).trans (x1b _ _)
         have d0 := (hgrow.cell_far ⟨w.heap.size + 1, 0, none⟩ (by first | (simp; done) | (simp; omega) | omega) (by first | (simp [Value.ownBlock]; done) | (simp [Value.ownBlock]; omega))).trans (y0b _ _)
         have d1 := (hgrow.cell_far ⟨w.heap.size + 1, 1, none⟩ (by first | (simp; done) | (simp; omega) | omega) (by first | (simp [Value.ownBlock]; done) | (simp [Value.ownBlock]; omega))).trans (y1b _ _)
         have f0 := (hgrow.frozen_far ⟨w.heap.size + 1, 0, none⟩ (by first | (simp; done) | (simp; omega) | omega) (by first | (simp [Value.ownBlock]; done) | (simp [Value.ownBlock]; omega))).trans (z0b _ _)
         have f1 := (hgrow.frozen_far ⟨w.heap.size + 1, 1, none⟩ (by first | (simp; done) | (simp; omega) | omega) (by first | (simp [Value.ownBlock]; done) | (simp [Value.ownBlock]; omega))).trans (z1b _ _)
         have ac : w9.cell? ⟨W.heap.size, 0, none⟩ = some (.int .u8 (x.toNat : Int)) := (hgrow.cell_far ⟨W.heap.size, 0, none⟩ (by first | (simp; done) | (simp; omega) | omega) (by first | (simp [Value.ownBlock]; done) | (simp [Value.ownBlock]; omega))).trans AC2.out
         have OWN := Lib.hid hown
         have D9 := Lib.hid ((hgrow.block (w.heap.size + 1) (by first | (simp; done) | (simp; omega) | omega) (by first | (simp [Value.ownBlock]; done) | (simp [Value.ownBlock]; omega))).trans (t2b.out _ _))
         have B9 := Lib.hid (below_grown2 (HBb.out _ _) hgrow (fun g e => by simp [Value.ownBlock] at e; omega) (by first | (simp; done) | (simp; omega) | omega))
         have G3 := Lib.hid (show W.heap.size ≤ g3 from (by rcases hat with e | e; (· simp [Value.ownBlock] at e; omega); (· simp at e; omega)))
         have hs9 : w.heap.size + 1 < w9.heap.size := by have := hgrow.size; simp at this; omega
         have hs8 : w.heap.size < w9.heap.size := by omega
         clear hown hgrow hat)
      | (refine step_append_lies _ rfl (.tmp 14) (.tmp 16) 50 rfl w.heap.size 3 i0 (.int .i64 0) 1 8 Tryz.underlying50 hi hz0 hz1 hz2 rfl (by decide) (.slice (some ⟨W.heap.size, 0, none⟩) 1 1) 1 [.int .i64 (k : Int)] rfl OB3.out ⟨g, 0, none⟩ xs.length kc (rI xs) rfl (by simp [rI]) NB3.out ONE.out hx (by unfold maxLen; omega) (by omega) (by first | (simp; done) | (simp; omega) | omega) _ rfl ?_
         intro g3 cap3 w9 hown hgrow hat hlt9
         have b0 := (hgrow.cell_far ⟨w.heap.size, 0, none⟩ (by first | (simp; done) | (simp; omega) | omega) (by first | (simp [Value.ownBlock]; done) | (simp [Value.ownBlock]; omega))).trans (x0b _ _)
         have b1 := (hgrow.cell_far ⟨w.heap.size, 1, none⟩ (by first | (simp; done) | (simp; omega) | omega) (by first | (simp [Value.ownBlock]; done) | (simp [Value.ownBlock]; omega))).trans (x1b _ _)
         have d0 := (hgrow.cell_far ⟨w.heap.size + 1, 0, none⟩ (by first | (simp; done) | (simp; omega) | omega) (by first | (simp [Value.ownBlock]; done) | (simp [Value.ownBlock]; omega))).trans (y0b _ _)
         have d1 := (hgrow.cell_far ⟨w.heap.size + 1, 1, none⟩ (by first | (simp; done) | (simp; omega) | omega) (by first | (simp [Value.ownBlock]; done) | (simp [Value.ownBlock]; omega))).trans (y1b _ _)
         have f0 := (hgrow.frozen_far ⟨w.heap.size + 1, 0, none⟩ (by first | (simp; done) | (simp; omega) | omega) (by first | (simp [Value.ownBlock]; done) | (simp [Value.ownBlock]; omega))).trans (z0b _ _)
         have f1 := (hgrow.frozen_far ⟨w.heap.size + 1, 1, none⟩ (by first | (simp; done) | (simp; omega) | omega) (by first | (simp [Value.ownBlock]; done) | (simp [Value.ownBlock]; omega))).trans (z1b _ _)
         have ac : w9.cell? ⟨W.heap.size + 1, 0, none⟩ = some (.int .u8 (x.toNat : Int)) := (hgrow.cell_far ⟨W.heap.size + 1, 0, none⟩ (by first | (simp; done) | (simp; omega) | omega) (by first | (simp [Value.ownBlock]; done) | (simp [Value.ownBlock]; omega))).trans AC3.out
         have OWN := Lib.hid hown
         have D9 := Lib.hid ((hgrow.block (w.heap.size + 1) (by first | (simp; done) | (simp; omega) | omega) (by first | (simp [Value.ownBlock]; done) | (simp [Value.ownBlock]; omega))).trans (t2b.out _ _))
         have B9 := Lib.hid (below_grown2 (HBb.out _ _) hgrow (fun g e => by simp [Value.ownBlock] at e; omega) (by first | (simp; done) | (simp; omega) | omega))
         have G3 := Lib.hid (show W.heap.size ≤ g3 from (by rcases hat with e | e; (· simp [Value.ownBlock] at e; omega); (· simp at e; omega)))
         have hs9 : w.heap.size + 1 < w9.heap.size := by have := hgrow.size; simp at this; omega
         have hs8 : w.heap.size < w9.heap.size := by omega
         clear hown hgrow hat))
  all_goals
    obtain ⟨e1, e2, e3, e4⟩ := with_end (x := x) H.out hx OWN.out D9.out B9.out G3.out hWm hs9 hWl
    go_wp2_with fail
    first
    | exact bodyPost_ret (results_cell_row (t := 97) (fr := (0, 0)) rfl _ _ (w.heap.size + 1) _ _ rfl e1 Tryz.underlying97 rfl (by kernel_rfl)) rfl ⟨⟨_, _, rfl, e2, fun g' hg => by have := e2.row.lt g' hg; simp only [Value.ownBlock, Option.some.injEq] at hg; have := G3.out; omega⟩, e3⟩
    | exact bodyPost_ret (results_cell_row (t := 97) (fr := (0, 0)) rfl _ _ (w.heap.size + 1) _ _ rfl ((Below.heap_alloc _ _ _ e4).trans e1) Tryz.underlying97 rfl (by kernel_rfl)) rfl ⟨⟨_, _, rfl, e2.below ((Below.refl _ _).alloc (Nat.le_refl _) _), fun g' hg => by simp only [Value.ownBlock, Option.some.injEq] at hg; have := G3.out; omega⟩, e3.alloc (Nat.le_of_lt (Nat.lt_of_succ_lt e4)) _⟩

end Go.Proofs.YtlhmjcfnfefliaaGreat.T1

/- Sorts in the specification: a scope with its first name. -/
namespace Go.Proofs.YtlhmjcfnfefliaaGreat.T1
open Go.RowKit
set_option maxRecDepth 100000
set_option linter.unusedVariables false
set_option linter.unusedSimpArgs false

theorem step_append_none6 {P : Program} {w : World} {ops : Array Oper} {o : Oper} {a : Act} {K : Act → World → Prop} {Q : Exit → Act → World → Prop} {E : Prop} (hgd : o.guard = none) (s x : Operand) (t : TypeId)
    (ho : o.op = .call { callee := .builtin .append, args := #[s, x], argTypes := #[t, t] })
    (base : Nat) (e : TypeId) (i : TypeInfo) (size : Nat) (ht : P.underlying t = some (.slice e)) (hi : P.info? e = some i)
    (v : Value) (n : Nat) (xs : List Value) (hs : a.eval s = v) (hown : w.ownsRow base e size v n xs) (hx : a.eval x = .slice none 0 0)
    (h : K (a.put o.dst v) w) : if Region.wanted o (yielded ops a.tmps) = true then Oper.wp P o a w K Q else E := by
  have hw : Region.wanted o (yielded ops a.tmps) = true := by simp [Region.wanted, hgd]
  rw [if_pos hw]
  have hrun := run_append_owned_none (P := P) (w := w) base t o.type e i size ht hi v n xs hown
  unfold Oper.wp
  simp [execOp, ho, resolve, invoke, builtin, hs, hx, hrun, Result.andThen]
  exact h
theorem wn_end {w W : World} {s : ByteArray} (x : UInt8) (k : Nat) (o1 o2 : Obj) (g3 : Nat) (hd : W.heap[w.heap.size + 1]? = some (.cells #[.string ⟨#[]⟩, .slice none 0 0] 97 (0, 0))) (hb : Below w.heap.size w W) (hW2 : w.heap.size + 1 < W.heap.size) (hs : s.data.toList = [])
    (hg : (g3 = W.heap.size ∧ o1 = .cells #[.int .i64 (k : Int)] 3 (0, 0)) ∨ (g3 = W.heap.size + 1 ∧ o2 = .cells #[.int .i64 (k : Int)] 3 (0, 0))) :
    ((((W.setCell ⟨w.heap.size + 1, 0, none⟩ (.string (one x ++ s))).setCell ⟨w.heap.size + 1, 1, none⟩ (.slice (some ⟨g3, 0, none⟩) 1 1)).alloc o1).alloc o2).drew.heap[w.heap.size + 1]? = some (.cells #[.string (one x ++ s), .slice (some ⟨g3, 0, none⟩) 1 1] 97 (0, 0)) ∧
    ScAt ((((W.setCell ⟨w.heap.size + 1, 0, none⟩ (.string (one x ++ s))).setCell ⟨w.heap.size + 1, 1, none⟩ (.slice (some ⟨g3, 0, none⟩) 1 1)).alloc o1).alloc o2).drew (one x ++ s) (.slice (some ⟨g3, 0, none⟩) 1 1) [x] [k] ∧
    Below w.heap.size w ((((W.setCell ⟨w.heap.size + 1, 0, none⟩ (.string (one x ++ s))).setCell ⟨w.heap.size + 1, 1, none⟩ (.slice (some ⟨g3, 0, none⟩) 1 1)).alloc o1).alloc o2).drew := by
  obtain ⟨A, hA⟩ : ∃ A, A = (W.setCell ⟨w.heap.size + 1, 0, none⟩ (.string (one x ++ s))).setCell ⟨w.heap.size + 1, 1, none⟩ (.slice (some ⟨g3, 0, none⟩) 1 1) := ⟨_, rfl⟩
  have a1 : A.heap[w.heap.size + 1]? = some (.cells #[.string (one x ++ s), .slice (some ⟨g3, 0, none⟩) 1 1] 97 (0, 0)) := by rw [hA]; exact (set_two (set_two hd).1).2
  have a2 : Below w.heap.size w A := by rw [hA]; exact (hb.setCell (p := ⟨w.heap.size + 1, 0, none⟩) (by show w.heap.size ≤ w.heap.size + 1; omega) _).setCell (p := ⟨w.heap.size + 1, 1, none⟩) (by show w.heap.size ≤ w.heap.size + 1; omega) _
  have a3 : A.heap.size = W.heap.size := by rw [hA]; simp [World.setCell]
  rw [← hA]
  have hgl : ((A.alloc o1).alloc o2).drew.heap[g3]? = some (.cells #[.int .i64 (k : Int)] 3 (0, 0)) := by
    rcases hg with ⟨e1, e2⟩ | ⟨e1, e2⟩
    · rw [e1, ← a3, e2]; exact first_block A _ o2
    · rw [e1, ← a3, e2]; exact last_block A o1 _
  refine ⟨((Below.heap_alloc _ _ _ (by simp; omega)).trans (Below.heap_alloc _ _ _ (by omega))).trans a1, ⟨?_, rfl, ?_, fun e => by cases e⟩, ((a2.alloc (by omega) o1).alloc (by simp; omega) o2).drew⟩
  · simp [one, hs]
  · exact ⟨rfl, .inr ⟨g3, 1, #[.int .i64 (k : Int)], rfl, Nat.zero_le _, hgl, Nat.le_refl _, by unfold maxLen; omega, rfl, rfl⟩⟩
set_option maxHeartbeats 40000000 in
theorem with_none {w : World} {s : ByteArray} {ns : List UInt8} {xs : List Nat} (h : ScAt w s (.slice none 0 0) ns xs) (x : UInt8) (k : Nat) (hx : xs = []) :
    Calls Tryz.prog 95 #[.agg #[.string s, .slice none 0 0], .int .u8 (x.toNat : Int), .int .i64 (k : Int)] w fun e w' => (∃ s' v', e = .returned (.agg #[.string s', v']) ∧ ScAt w' s' v' (x :: ns) (k :: xs) ∧ ∀ g, v'.ownBlock = some g → w.heap.size ≤ g) ∧ Below w.heap.size w w' := by
  obtain ⟨i0, hi, hz0, hz1, hz2⟩ := info_parts Tryz.infoI
  subst hx
  obtain rfl : ns = [] := by have := h.len; cases ns with
    | nil => rfl
    | cons _ _ => simp at this
  have hs0 := Lib.hid h.text
  have hcg := conv6 x
  have hcv := conv1 x
  have hcvd := conv1d x
  have hcat : ¬ 9223372036854775807 < (one x).size + s.size := by
    have h1 : (one x).size = 1 := rfl
    have h2 : s.size = 0 := by have := congrArg List.length h.text; simpa using this
    omega
  have t1 := first_block w (.cells #[.string s, .slice none 0 0] 97) (.cells #[.string ⟨#[]⟩, .slice none 0 0] 97)
  have t2 := last_block w (.cells #[.string s, .slice none 0 0] 97) (.cells #[.string ⟨#[]⟩, .slice none 0 0] 97)
  have bW := below_two w (.cells #[.string s, .slice none 0 0] 97) (.cells #[.string ⟨#[]⟩, .slice none 0 0] 97)
  obtain ⟨W, hW⟩ : ∃ W, W = (w.alloc (.cells #[.string s, .slice none 0 0] 97)).alloc (.cells #[.string ⟨#[]⟩, .slice none 0 0] 97) := ⟨_, rfl⟩
  have hWs : Hid (W.heap.size = w.heap.size + 2) := by show _ = _; rw [hW]; simp
  have hWl : w.heap.size + 1 < W.heap.size := by have := hWs.out; omega
  have hWm : W.heap.size ≤ w.heap.size + 2 := by have := hWs.out; omega
  have hWk : w.heap.size < W.heap.size := by omega
  rw [← hW] at t1 t2 bW
  have x0 := cellOf2a t1
  have x1 := cellOf2b t1
  have y0 := cellOf2a t2
  have y1 := cellOf2b t2
  have z0 := cellsFree t2 0
  have z1 := cellsFree t2 1
  have x0a : ∀ o, (W.alloc o).cell? ⟨w.heap.size, 0, none⟩ = some (.string s) := fun o => by rw [World.cell?_alloc_past _ _ _ (by omega)]; exact x0
  have x0b : ∀ o o', ((W.alloc o).alloc o').cell? ⟨w.heap.size, 0, none⟩ = some (.string s) := fun o o' => by rw [World.cell?_alloc_past _ _ _ (by simp; omega)]; exact x0a o
  have x1a : ∀ o, (W.alloc o).cell? ⟨w.heap.size, 1, none⟩ = some (.slice none 0 0) := fun o => by rw [World.cell?_alloc_past _ _ _ (by omega)]; exact x1
  have x1b : ∀ o o', ((W.alloc o).alloc o').cell? ⟨w.heap.size, 1, none⟩ = some (.slice none 0 0) := fun o o' => by rw [World.cell?_alloc_past _ _ _ (by simp; omega)]; exact x1a o
  have y0a : ∀ o, (W.alloc o).cell? ⟨w.heap.size + 1, 0, none⟩ = some (.string ⟨#[]⟩) := fun o => by rw [World.cell?_alloc_past _ _ _ (by omega)]; exact y0
  have y0b : ∀ o o', ((W.alloc o).alloc o').cell? ⟨w.heap.size + 1, 0, none⟩ = some (.string ⟨#[]⟩) := fun o o' => by rw [World.cell?_alloc_past _ _ _ (by simp; omega)]; exact y0a o
  have y1a : ∀ o, (W.alloc o).cell? ⟨w.heap.size + 1, 1, none⟩ = some (.slice none 0 0) := fun o => by rw [World.cell?_alloc_past _ _ _ (by omega)]; exact y1
  have y1b : ∀ o o', ((W.alloc o).alloc o').cell? ⟨w.heap.size + 1, 1, none⟩ = some (.slice none 0 0) := fun o o' => by rw [World.cell?_alloc_past _ _ _ (by simp; omega)]; exact y1a o
  have z0a : ∀ o, (W.alloc o).frozen? ⟨w.heap.size + 1, 0, none⟩ = false := fun o => by rw [World.frozen?_alloc_past _ _ _ (by omega)]; exact z0
  have z0b : ∀ o o', ((W.alloc o).alloc o').frozen? ⟨w.heap.size + 1, 0, none⟩ = false := fun o o' => by rw [World.frozen?_alloc_past _ _ _ (by simp; omega)]; exact z0a o
  have z1a : ∀ o, (W.alloc o).frozen? ⟨w.heap.size + 1, 1, none⟩ = false := fun o => by rw [World.frozen?_alloc_past _ _ _ (by omega)]; exact z1
  have z1b : ∀ o o', ((W.alloc o).alloc o').frozen? ⟨w.heap.size + 1, 1, none⟩ = false := fun o o' => by rw [World.frozen?_alloc_past _ _ _ (by simp; omega)]; exact z1a o
  have OB1 := Lib.hid (own_new1 W (.int .i64 (k : Int)) 3 w.heap.size (by omega))
  have OB2 := Lib.hid (own_new1 (W.alloc (.cells #[.int .u8 (x.toNat : Int)] 5)) (.int .i64 (k : Int)) 3 w.heap.size (by simp; omega))
  have OB3 := Lib.hid ((own_new1 W (.int .i64 (k : Int)) 3 w.heap.size (by omega)).alloc (.cells #[.int .u8 (x.toNat : Int)] 5))
  have es2 : Hid ((W.alloc (.cells #[.int .u8 (x.toNat : Int)] 5)).heap.size = W.heap.size + 1) := by show _ = _; simp
  rw [es2.out] at OB2
  have HB := Lib.hid bW
  have T2 := Lib.hid t2
  clear h t1 t2 bW
  go_enter Tryz.func95, Tryz.ntmps95
  go_wp2_with fail
  rw [← hW]
  clear hW
  go_region_law (first
    | refine step_append_none6 rfl (.tmp 14) (.tmp 16) 50 rfl w.heap.size 3 i0 1 Tryz.underlying50 hi (.slice (some ⟨W.heap.size, 0, none⟩) 1 1) 1 [.int .i64 (k : Int)] rfl OB1.out rfl ?_
    | refine step_append_none6 rfl (.tmp 14) (.tmp 16) 50 rfl w.heap.size 3 i0 1 Tryz.underlying50 hi (.slice (some ⟨W.heap.size + 1, 0, none⟩) 1 1) 1 [.int .i64 (k : Int)] rfl OB2.out rfl ?_
    | refine step_append_none6 rfl (.tmp 14) (.tmp 16) 50 rfl w.heap.size 3 i0 1 Tryz.underlying50 hi (.slice (some ⟨W.heap.size, 0, none⟩) 1 1) 1 [.int .i64 (k : Int)] rfl OB3.out rfl ?_)
  all_goals
    first
    | (obtain ⟨e1, e2, e3⟩ := wn_end x k (.cells #[.int .u8 (x.toNat : Int)] 5) (.cells #[.int .i64 (k : Int)] 3) (W.heap.size + 1) T2.out HB.out hWl hs0.out (.inr ⟨rfl, rfl⟩)
       go_wp2_with fail
       exact bodyPost_ret (results_cell_row (t := 97) (fr := (0, 0)) rfl _ _ (w.heap.size + 1) _ _ rfl e1 Tryz.underlying97 rfl (by kernel_rfl)) rfl ⟨⟨_, _, rfl, e2, fun g' hg => by simp only [Value.ownBlock, Option.some.injEq] at hg; omega⟩, e3⟩)
    | (obtain ⟨e1, e2, e3⟩ := wn_end x k (.cells #[.int .i64 (k : Int)] 3) (.cells #[.int .u8 (x.toNat : Int)] 5) W.heap.size T2.out HB.out hWl hs0.out (.inl ⟨rfl, rfl⟩)
       go_wp2_with fail
       exact bodyPost_ret (results_cell_row (t := 97) (fr := (0, 0)) rfl _ _ (w.heap.size + 1) _ _ rfl e1 Tryz.underlying97 rfl (by kernel_rfl)) rfl ⟨⟨_, _, rfl, e2, fun g' hg => by simp only [Value.ownBlock, Option.some.injEq] at hg; omega⟩, e3⟩)

end Go.Proofs.YtlhmjcfnfefliaaGreat.T1
