/- Texts of the proof, put together: Vw. No conditions. -/
import Derived.Test.YtdfelpahacmdpaaGbv
import Derived.Laws.AppendOwnNone

/- Sorts in the specification: a scope with its first name. -/
namespace Go.Proofs.Ytdfelpahacmdpaa.T1
open Go.RowKit
set_option maxRecDepth 100000
set_option linter.unusedVariables false
set_option linter.unusedSimpArgs false

theorem step_append_none6 {P : Program} {w : World} {ops : Array Oper} {o : Oper} {a : Act} {K : Act → World → Prop} {Q : Exit → Act → World → Prop} {E : Prop} (hgd : o.guard = none) (s x : Operand) (t : TypeId)
    (ho : o.op = .call { callee := .builtin .append, args := #[s, x], argTypes := #[t, t] })
    (base : Nat) (e : TypeId) (i : TypeInfo) (size : Nat) (ht : P.underlying t = some (.slice e)) (hi : P.info? e = some i)
    (v : Value) (n : Nat) (xs : List Value) (hs : a.eval s = v) (hown : w.ownsRow base e size v n xs) (hx : a.eval x = .slice none 0 0)
    (h : K (a.put o.dst v) w) : if Region.wanted o (yielded ops a.tmps) = true then Oper.wp P o a w K Q else E := by
  have hw : Region.wanted o (yielded ops a.tmps) = true := by simp [Region.wanted, hgd]
  rw [if_pos hw]
  have hrun := run_append_owned_none (P := P) (w := w) base t o.type e i size ht hi v n xs hown
  unfold Oper.wp
  simp [execOp, ho, resolve, invoke, builtin, hs, hx, hrun, Result.andThen]
  exact h
theorem wn_end {w W : World} {s : ByteArray} (x : UInt8) (k : Nat) (o1 o2 : Obj) (g3 : Nat) (hd : W.heap[w.heap.size + 1]? = some (.cells #[.string ⟨#[]⟩, .slice none 0 0] 68 (0, 0))) (hb : Below w.heap.size w W) (hW2 : w.heap.size + 1 < W.heap.size) (hs : s.data.toList = [])
    (hg : (g3 = W.heap.size ∧ o1 = .cells #[.int .i64 (k : Int)] 3 (0, 0)) ∨ (g3 = W.heap.size + 1 ∧ o2 = .cells #[.int .i64 (k : Int)] 3 (0, 0))) :
    ((((W.setCell ⟨w.heap.size + 1, 0, none⟩ (.string (one x ++ s))).setCell ⟨w.heap.size + 1, 1, none⟩ (.slice (some ⟨g3, 0, none⟩) 1 1)).alloc o1).alloc o2).drew.heap[w.heap.size + 1]? = some (.cells #[.string (one x ++ s), .slice (some ⟨g3, 0, none⟩) 1 1] 68 (0, 0)) ∧
    ScAt ((((W.setCell ⟨w.heap.size + 1, 0, none⟩ (.string (one x ++ s))).setCell ⟨w.heap.size + 1, 1, none⟩ (.slice (some ⟨g3, 0, none⟩) 1 1)).alloc o1).alloc o2).drew (one x ++ s) (.slice (some ⟨g3, 0, none⟩) 1 1) [x] [k] ∧
    Below w.heap.size w ((((W.setCell ⟨w.heap.size + 1, 0, none⟩ (.string (one x ++ s))).setCell ⟨w.heap.size + 1, 1, none⟩ (.slice (some ⟨g3, 0, none⟩) 1 1)).alloc o1).alloc o2).drew := by
  obtain ⟨A, hA⟩ : ∃ A, A = (W.setCell ⟨w.heap.size + 1, 0, none⟩ (.string (one x ++ s))).setCell ⟨w.heap.size + 1, 1, none⟩ (.slice (some ⟨g3, 0, none⟩) 1 1) := ⟨_, rfl⟩
  have a1 : A.heap[w.heap.size + 1]? = some (.cells #[.string (one x ++ s), .slice (some ⟨g3, 0, none⟩) 1 1] 68 (0, 0)) := by rw [hA]; exact (set_two (set_two hd).1).2
  have a2 : Below w.heap.size w A := by rw [hA]; exact (hb.setCell (p := ⟨w.heap.size + 1, 0, none⟩) (by show w.heap.size ≤ w.heap.size + 1; omega) _).setCell (p := ⟨w.heap.size + 1, 1, none⟩) (by show w.heap.size ≤ w.heap.size + 1; omega) _
  have a3 : A.heap.size = W.heap.size := by rw [hA]; simp [World.setCell]
  rw [← hA]
  have hgl : ((A.alloc o1).alloc o2).drew.heap[g3]? = some (.cells #[.int .i64 (k : Int)] 3 (0, 0)) := by
    rcases hg with ⟨e1, e2⟩ | ⟨e1, e2⟩
    · rw [e1, ← a3, e2]; exact first_block A _ o2
    · rw [e1, ← a3, e2]; exact last_block A o1 _
  refine ⟨((Below.heap_alloc _ _ _ (by simp; omega)).trans (Below.heap_alloc _ _ _ (by omega))).trans a1, ⟨?_, rfl, ?_, fun e => by cases e⟩, ((a2.alloc (by omega) o1).alloc (by simp; omega) o2).drew⟩
  · simp [one, hs]
  · exact ⟨rfl, .inr ⟨g3, 1, #[.int .i64 (k : Int)], rfl, Nat.zero_le _, hgl, Nat.le_refl _, by unfold maxLen; omega, rfl, rfl⟩⟩
set_option maxHeartbeats 40000000 in
theorem with_none {w : World} {s : ByteArray} {ns : List UInt8} {xs : List Nat} (h : ScAt w s (.slice none 0 0) ns xs) (x : UInt8) (k : Nat) (hx : xs = []) :
    Calls Try.prog 75 #[.agg #[.string s, .slice none 0 0], .int .u8 (x.toNat : Int), .int .i64 (k : Int)] w fun e w' => (∃ s' v', e = .returned (.agg #[.string s', v']) ∧ ScAt w' s' v' (x :: ns) (k :: xs) ∧ ∀ g, v'.ownBlock = some g → w.heap.size ≤ g) ∧ Below w.heap.size w w' := by
  obtain ⟨i0, hi, hz0, hz1, hz2⟩ := info_parts Try.infoI
  subst hx
  obtain rfl : ns = [] := by have := h.len; cases ns with
    | nil => rfl
    | cons _ _ => simp at this
  have hs0 := Lib.hid h.text
  have hcg := conv6 x
  have hcv := conv1 x
  have hcvd := conv1d x
  have hcat : ¬ 9223372036854775807 < (one x).size + s.size := by
    have h1 : (one x).size = 1 := rfl
    have h2 : s.size = 0 := by have := congrArg List.length h.text; simpa using this
    omega
  have t1 := first_block w (.cells #[.string s, .slice none 0 0] 68) (.cells #[.string ⟨#[]⟩, .slice none 0 0] 68)
  have t2 := last_block w (.cells #[.string s, .slice none 0 0] 68) (.cells #[.string ⟨#[]⟩, .slice none 0 0] 68)
  have bW := below_two w (.cells #[.string s, .slice none 0 0] 68) (.cells #[.string ⟨#[]⟩, .slice none 0 0] 68)
  obtain ⟨W, hW⟩ : ∃ W, W = (w.alloc (.cells #[.string s, .slice none 0 0] 68)).alloc (.cells #[.string ⟨#[]⟩, .slice none 0 0] 68) := ⟨_, rfl⟩
  have hWs : Hid (W.heap.size = w.heap.size + 2) := by show _ = _; rw [hW]; simp
  have hWl : w.heap.size + 1 < W.heap.size := by have := hWs.out; omega
  have hWm : W.heap.size ≤ w.heap.size + 2 := by have := hWs.out; omega
  have hWk : w.heap.size < W.heap.size := by omega
  rw [← hW] at t1 t2 bW
  have x0 := cellOf2a t1
  have x1 := cellOf2b t1
  have y0 := cellOf2a t2
  have y1 := cellOf2b t2
  have z0 := cellsFree t2 0
  have z1 := cellsFree t2 1
  have x0a : ∀ o, (W.alloc o).cell? ⟨w.heap.size, 0, none⟩ = some (.string s) := fun o => by rw [World.cell?_alloc_past _ _ _ (by omega)]; exact x0
  have x0b : ∀ o o', ((W.alloc o).alloc o').cell? ⟨w.heap.size, 0, none⟩ = some (.string s) := fun o o' => by rw [World.cell?_alloc_past _ _ _ (by simp; omega)]; exact x0a o
  have x1a : ∀ o, (W.alloc o).cell? ⟨w.heap.size, 1, none⟩ = some (.slice none 0 0) := fun o => by rw [World.cell?_alloc_past _ _ _ (by omega)]; exact x1
  have x1b : ∀ o o', ((W.alloc o).alloc o').cell? ⟨w.heap.size, 1, none⟩ = some (.slice none 0 0) := fun o o' => by rw [World.cell?_alloc_past _ _ _ (by simp; omega)]; exact x1a o
  have y0a : ∀ o, (W.alloc o).cell? ⟨w.heap.size + 1, 0, none⟩ = some (.string ⟨#[]⟩) := fun o => by rw [World.cell?_alloc_past _ _ _ (by omega)]; exact y0
  have y0b : ∀ o o', ((W.alloc o).alloc o').cell? ⟨w.heap.size + 1, 0, none⟩ = some (.string ⟨#[]⟩) := fun o o' => by rw [World.cell?_alloc_past _ _ _ (by simp; omega)]; exact y0a o
  have y1a : ∀ o, (W.alloc o).cell? ⟨w.heap.size + 1, 1, none⟩ = some (.slice none 0 0) := fun o => by rw [World.cell?_alloc_past _ _ _ (by omega)]; exact y1
  have y1b : ∀ o o', ((W.alloc o).alloc o').cell? ⟨w.heap.size + 1, 1, none⟩ = some (.slice none 0 0) := fun o o' => by rw [World.cell?_alloc_past _ _ _ (by simp; omega)]; exact y1a o
  have z0a : ∀ o, (W.alloc o).frozen? ⟨w.heap.size + 1, 0, none⟩ = false := fun o => by rw [World.frozen?_alloc_past _ _ _ (by omega)]; exact z0
  have z0b : ∀ o o', ((W.alloc o).alloc o').frozen? ⟨w.heap.size + 1, 0, none⟩ = false := fun o o' => by rw [World.frozen?_alloc_past _ _ _ (by simp; omega)]; exact z0a o
  have z1a : ∀ o, (W.alloc o).frozen? ⟨w.heap.size + 1, 1, none⟩ = false := fun o => by rw [World.frozen?_alloc_past _ _ _ (by omega)]; exact z1
  have z1b : ∀ o o', ((W.alloc o).alloc o').frozen? ⟨w.heap.size + 1, 1, none⟩ = false := fun o o' => by rw [World.frozen?_alloc_past _ _ _ (by simp; omega)]; exact z1a o
  have OB1 := Lib.hid (own_new1 W (.int .i64 (k : Int)) 3 w.heap.size (by omega))
  have OB2 := Lib.hid (own_new1 (W.alloc (.cells #[.int .u8 (x.toNat : Int)] 5)) (.int .i64 (k : Int)) 3 w.heap.size (by simp; omega))
  have OB3 := Lib.hid ((own_new1 W (.int .i64 (k : Int)) 3 w.heap.size (by omega)).alloc (.cells #[.int .u8 (x.toNat : Int)] 5))
  have es2 : Hid ((W.alloc (.cells #[.int .u8 (x.toNat : Int)] 5)).heap.size = W.heap.size + 1) := by show _ = _; simp
  rw [es2.out] at OB2
  have HB := Lib.hid bW
  have T2 := Lib.hid t2
  clear h t1 t2 bW
  go_enter Try.func75, Try.ntmps75
  go_wp2_with fail
  rw [← hW]
  clear hW
  go_region_law (first
    | refine step_append_none6 rfl (.tmp 14) (.tmp 16) 60 rfl w.heap.size 3 i0 1 Try.underlying60 hi (.slice (some ⟨W.heap.size, 0, none⟩) 1 1) 1 [.int .i64 (k : Int)] rfl OB1.out rfl ?_
    | refine step_append_none6 rfl (.tmp 14) (.tmp 16) 60 rfl w.heap.size 3 i0 1 Try.underlying60 hi (.slice (some ⟨W.heap.size + 1, 0, none⟩) 1 1) 1 [.int .i64 (k : Int)] rfl OB2.out rfl ?_
    | refine step_append_none6 rfl (.tmp 14) (.tmp 16) 60 rfl w.heap.size 3 i0 1 Try.underlying60 hi (.slice (some ⟨W.heap.size, 0, none⟩) 1 1) 1 [.int .i64 (k : Int)] rfl OB3.out rfl ?_)
  all_goals
    first
    | (obtain ⟨e1, e2, e3⟩ := wn_end x k (.cells #[.int .u8 (x.toNat : Int)] 5) (.cells #[.int .i64 (k : Int)] 3) (W.heap.size + 1) T2.out HB.out hWl hs0.out (.inr ⟨rfl, rfl⟩)
       go_wp2_with fail
       exact bodyPost_ret (results_cell_row (t := 68) (fr := (0, 0)) rfl _ _ (w.heap.size + 1) _ _ rfl e1 Try.underlying68 rfl (by kernel_rfl)) rfl ⟨⟨_, _, rfl, e2, fun g' hg => by simp only [Value.ownBlock, Option.some.injEq] at hg; omega⟩, e3⟩)
    | (obtain ⟨e1, e2, e3⟩ := wn_end x k (.cells #[.int .i64 (k : Int)] 3) (.cells #[.int .u8 (x.toNat : Int)] 5) W.heap.size T2.out HB.out hWl hs0.out (.inl ⟨rfl, rfl⟩)
       go_wp2_with fail
       exact bodyPost_ret (results_cell_row (t := 68) (fr := (0, 0)) rfl _ _ (w.heap.size + 1) _ _ rfl e1 Try.underlying68 rfl (by kernel_rfl)) rfl ⟨⟨_, _, rfl, e2, fun g' hg => by simp only [Value.ownBlock, Option.some.injEq] at hg; omega⟩, e3⟩)

end Go.Proofs.Ytdfelpahacmdpaa.T1
