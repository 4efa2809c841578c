/- Texts of the proof, put together: Ap, Cdb. No conditions. -/
import Derived.Test.YtohaddhjnghcpaaDoorHac
import Derived.Maps.AppendAt
import Derived.Laws.AppendOwnNone
import Derived.Laws.AppendOwn
import Derived.Lib.Hide
import Derived.WalkKit
import Derived.Defers
import Derived.Recover

/- A row of one's own with another one behind it. -/
namespace Go.Proofs.YtohaddhjnghcpaaDoor.T1
open Go.RowKit

theorem own_cells {w : World} {base : Nat} {e : TypeId} {g n cap : Nat} {xs : List Value} (h : w.ownsRow base e 1 (.slice (some ⟨g, 0, none⟩) n cap) n xs) : ∀ j u, xs[j]? = some u → w.cell? ((⟨g, 0, none⟩ : Addr).add j) = some u := by
  intro j u hj
  rcases h.2 with ⟨h1, _⟩ | ⟨g', cap', cur, h1, _, h3, _, _, _, h7⟩
  · cases h1
  · cases h1
    have hjl : j < xs.length := by
      rcases Nat.lt_or_ge j xs.length with c | c
      · exact c
      · rw [List.getElem?_eq_none c] at hj; cases hj
    have hx := h.1
    have : (cur.toList.take (n * 1))[j]? = some u := by rw [h7]; exact hj
    rw [List.getElem?_take, if_pos (by omega)] at this
    show w.cell? (Addr.add ⟨g, 0, none⟩ j) = some u
    have e2 : (Addr.add ⟨g, 0, none⟩ j) = ⟨g, j, none⟩ := by cases j <;> simp [Addr.add]
    rw [e2]
    simp only [World.cell?, h3]
    simpa using this
theorem wpList_append_rows {P : Program} {w : World} {ops : Array Oper} {rest : List Oper} {o : Oper} {a : Act} {Q : Exit → Act → World → Prop} (hgd : o.guard = none) (s x : Operand) (t : TypeId)
    (ho : o.op = .call { callee := .builtin .append, args := #[s, x], argTypes := #[t, t] })
    (base base2 : Nat) (e : TypeId) (i : TypeInfo) (z : Value) (bytes : Nat) (ht : P.underlying t = some (.slice e)) (hi : P.info? e = some i) (hz : i.zero = some z)
    (hsize : i.size = 1) (hby : i.bytes = bytes) (hzs : z.cells.size = 1)
    (v : Value) (n : Nat) (xs : List Value) (hs : a.eval s = v) (hown : w.ownsRow base e 1 v n xs)
    (v2 : Value) (m : Nat) (ys : List Value) (hx : a.eval x = v2) (hown2 : w.ownsRow base2 e 1 v2 m ys) (h1 : ∀ u ∈ ys, u.oneCell' = true)
    (h63 : n + m ≤ maxLen) (hbytes : (n + m) * bytes ≤ 140737488355328) (hbase : base ≤ w.heap.size)
    (h : ∀ v' w', w'.ownsRow base e 1 v' (n + m) (xs ++ ys) → w.grownBy w' v.ownBlock → (v'.ownBlock = v.ownBlock ∨ v'.ownBlock = some w.heap.size) → wpList P ops Q rest (a.put o.dst v') w') :
    wpList P ops Q (o :: rest) a w := by
  rcases hown2.2 with ⟨e1, e2⟩ | ⟨g, cap, cur, e1, _⟩
  · subst e2
    have hy : ys = [] := by have := hown2.1; simpa using this
    subst hy
    refine wpList_append_own_none hgd s x t ho base e i 1 ht hi v n xs hs hown (hx.trans e1) ?_
    exact h v w (by simpa using hown) ⟨rfl, rfl, rfl, Nat.le_refl _, fun _ _ _ => rfl⟩ (.inl rfl)
  · subst e1
    refine wpList_append_own_at w hgd s x t ho base e i z 1 bytes ht hi hz hsize hby hzs (by decide) v n xs hs hown ⟨g, 0, none⟩ m cap ys hx (by have := hown2.1; omega) (own_cells hown2) h1 h63 hbytes hbase ?_
    intro v' w' a1 a2 _ a3
    exact h v' w' a1 a2 a3
/-- A row of one's own stays while blocks that are not its own change. -/
theorem own_keep {w w' : World} {base n : Nat} {e : TypeId} {v : Value} {xs : List Value} (h : w.ownsRow base e 1 v n xs) (hk : ∀ g, v.ownBlock = some g → w'.heap[g]? = w.heap[g]?) : w'.ownsRow base e 1 v n xs := by
  refine ⟨h.1, h.2.imp id ?_⟩
  rintro ⟨g, cap, cur, hv, h2, h3, h4⟩
  exact ⟨g, cap, cur, hv, h2, (hk g (by rw [hv]; rfl)).trans h3, h4⟩
theorem own_below2 {w w' : World} {base n : Nat} {e : TypeId} {v : Value} {xs : List Value} (h : w.ownsRow base e 1 v n xs) (k : Below w.heap.size w w') : w'.ownsRow base e 1 v n xs :=
  own_keep h fun g hg => k.block g (h.lt g hg).2
theorem own_new1 (w : World) (x : Value) (T : TypeId) (base : Nat) (hb : base ≤ w.heap.size) : (w.alloc (.cells #[x] T)).ownsRow base T 1 (.slice (some ⟨w.heap.size, 0, none⟩) 1 1) 1 [x] :=
  ⟨rfl, .inr ⟨w.heap.size, 1, #[x], rfl, hb, heap_alloc_new w _, Nat.le_refl _, by unfold maxLen; omega, rfl, rfl⟩⟩
/-- What grows in a row of one's own leaves what is older. -/
theorem below_grown2 {w0 w w' : World} {r : Option Nat} {B : Nat} (h : Below B w0 w) (k : w.grownBy w' r) (hr : ∀ g, r = some g → B ≤ g) (hB : B ≤ w.heap.size) : Below B w0 w' :=
  ⟨k.os.trans h.os, k.tape.trans h.tape, k.output.trans h.output, Nat.le_trans h.size k.size, fun i hi => (k.block i (by omega) (fun e => by have := hr i e.symm; omega)).trans (h.block i hi)⟩

end Go.Proofs.YtohaddhjnghcpaaDoor.T1

/- A failure that is raised, and the door that recovers it, in the program. No conditions. -/
namespace Go.Proofs.YtohaddhjnghcpaaDoor.T1
open Go.RowKit
set_option maxRecDepth 100000
set_option linter.unusedVariables false
set_option linter.unusedSimpArgs false

/-- A failure goes up. -/
def failed : Ending := .panicked [{ v := .iface 69 (.agg #[]), recovered := false }]

theorem ensure_yes (w : World) : Calls Tryd.prog 23 #[.bool true] w fun e w' => e = .returned (.tuple #[]) ∧ w = w' := by
  go_enter Tryd.func23, Tryd.ntmps23
  go_wp2_with fail
  go_end0
  exact ⟨rfl, rfl⟩
theorem ensure_no (w : World) : Calls Tryd.prog 23 #[.bool false] w fun e w' => e = failed ∧ w = w' := by
  go_enter Tryd.func23, Tryd.ntmps23
  go_wp2_with fail
  exact ⟨rfl, rfl, rfl⟩

@[go_sem] theorem ta_fail_yes (w : World) : (Instr.typeAssert (.iface 69 (.agg #[])) 20 69 true).run Tryd.prog w = .ok (.tuple #[.agg #[], .bool true]) w := by kernel_rfl
@[go_sem] theorem ta_fail_nil (w : World) : (Instr.typeAssert .nilIface 20 69 true).run Tryd.prog w = .ok (.tuple #[.agg #[], .bool false]) w := by kernel_rfl
set_option maxHeartbeats 2000000 in
theorem catch_panic (b : Nat) (older : List PanicEntry) (w : World) (hc : w.cell? ⟨b, 0, none⟩ = some (.bool false)) (hz : w.frozen? ⟨b, 0, none⟩ = false) :
    CallsD Tryd.prog 54 #[.pointer (some ⟨b, 0, none⟩)] (.panicking ({ v := .iface 69 (.agg #[]), recovered := false } :: older)) w fun e u' w' =>
      e = .returned (.tuple #[]) ∧ u' = .panicking ({ v := .iface 69 (.agg #[]), recovered := true } :: older) ∧ w'.cell? ⟨b, 0, none⟩ = some (.bool false) ∧ (∀ B, B ≤ b → B ≤ w.heap.size → Below B w w') := by
  refine callsD_of_wpS Tryd.func54 rfl fun c₀ cs hu => ?_
  apply wpS_seq
  apply wpS_region
  simp [wpOpsS, go_sem, recoverD, hu, Tryd.ntmps54, Exit.thenS]
  have hlt : b < w.heap.size := World.block_lt_of_cell? w _ hc
  have hc' : (w.alloc (.cells #[] 69)).cell? ⟨b, 0, none⟩ = some (.bool false) := by rw [World.cell?_alloc_past _ _ _ hlt]; exact hc
  have hz' : (w.alloc (.cells #[] 69)).frozen? ⟨b, 0, none⟩ = false := by rw [frozen?_alloc_cells]; exact hz
  apply wpS_seq
  apply wpS_region
  simp [wpOpsS, go_sem, recoverD, hu, Tryd.ntmps54, Exit.thenS]
  refine wpS_cond (t := true) (by simp [Act.eval, Array.replicate]) ?_
  simp only [if_true]
  apply wpS_region
  simp [wpOpsS, go_sem, hc', hz', bodyPostS, results, Tryd.results54]
  exact fun B h1 h2 => ((Below.refl _ _).alloc h2 _).setCell (p := ⟨b, 0, none⟩) h1 _
set_option maxHeartbeats 2000000 in
theorem catch_idle (b : Nat) (x : Value) (w : World) (hc : w.cell? ⟨b, 0, none⟩ = some x) :
    CallsD Tryd.prog 54 #[.pointer (some ⟨b, 0, none⟩)] .returning w fun e u' w' => e = .returned (.tuple #[]) ∧ u' = .returning ∧ w'.cell? ⟨b, 0, none⟩ = some x ∧ (∀ B, B ≤ w.heap.size → Below B w w') := by
  refine callsD_of_wpS Tryd.func54 rfl fun c₀ cs hu => ?_
  apply wpS_seq
  apply wpS_region
  simp [wpOpsS, go_sem, recoverD, hu, Tryd.ntmps54, Exit.thenS]
  apply wpS_seq
  apply wpS_region
  simp [wpOpsS, go_sem, recoverD, hu, Tryd.ntmps54, Exit.thenS]
  refine wpS_cond (t := false) (by simp [Act.eval, Array.replicate]) ?_
  simp only [Bool.false_eq_true, if_false]
  refine wpS_of_wp (wp_skip ?_)
  cases c₀
  simp_all [bodyPostS, results, Tryd.results54]
  exact ⟨by rw [World.cell?_alloc_past _ _ _ (World.block_lt_of_cell? w _ hc)]; exact hc, fun B h => (Below.refl _ _).alloc h _⟩

/-- The door, where the asked function answers. -/
theorem ans_yes (CF : FuncId) (caps : Array Value) (T : TypeId) (V : Value) (hF : ∀ args w, (callFunc CF args).run Tryd.prog w = .ok (.enter CF args) w) (w : World)
    (HA : ∀ w1, Below w.heap.size w w1 → Calls Tryd.prog CF caps w1 fun e w' => e = .returned (.iface T V) ∧ Below w1.heap.size w1 w') :
    Calls Tryd.prog 34 #[.func (.func CF) #[] caps] w fun e w' => e = .returned (.tuple #[.iface T V, .bool true]) ∧ Below w.heap.size w w' := by
  have H := Lib.hid HA
  clear HA
  have hmf : ∀ (fn : Fn) (first cap : Array Value) (w : World), (Instr.makeFunc fn first cap).run Tryd.prog w = .ok (.func fn first cap) w := fun _ _ _ _ => rfl
  go_enter_defers Tryd.func34, Tryd.ntmps34
  go_wp2_with fail
  refine (H.out _ ((Below.refl _ _).alloc (Nat.le_refl _) _)).mono ?_
  rintro e w1 ⟨rfl, b1⟩
  have bl := below_trans ((Below.refl w.heap.size w).alloc (Nat.le_refl _) (.cells #[.bool false] 4)) b1 (by simp)
  have c1 : w1.cell? ⟨w.heap.size, 0, none⟩ = some (.bool false) := by rw [b1.cell (p := ⟨w.heap.size, 0, none⟩) (by simp), World.cell?_alloc_new]; rfl
  have f1 : w1.frozen? ⟨w.heap.size, 0, none⟩ = false := by rw [b1.frozen (p := ⟨w.heap.size, 0, none⟩) (by simp)]; rw [frozen?_alloc_cells]; simp [World.frozen?]
  have hsz := bl.size
  have hs1 : w.heap.size < w1.heap.size := World.block_lt_of_cell? w1 _ c1
  go_wp2_with fail
  refine leaves_cons (f := 54) (args := #[.pointer (some ⟨w.heap.size, 0, none⟩)]) (by simp) (by simp [go_sem]) ?_
  refine (catch_idle w.heap.size (.bool true) _ ?_).mono ?_
  · exact World.cell?_setCell_same _ _ _ c1
  rintro e u' w'' ⟨rfl, rfl, c2, b2⟩
  have b3 := (bl.setCell (p := ⟨w.heap.size, 0, none⟩) (Nat.le_refl _) (.bool true)).trans (b2 w.heap.size (by simp; omega))
  simp [Leaves, settle, results, Tryd.results34, go_sem, c2]
  exact b3
/-- The door, where a failure comes. -/
theorem ans_no (CF : FuncId) (caps : Array Value) (hF : ∀ args w, (callFunc CF args).run Tryd.prog w = .ok (.enter CF args) w) (w : World)
    (HA : ∀ w1, Below w.heap.size w w1 → Calls Tryd.prog CF caps w1 fun e w' => e = failed ∧ Below w1.heap.size w1 w') :
    Calls Tryd.prog 34 #[.func (.func CF) #[] caps] w fun e w' => e = .returned (.tuple #[.nilIface, .bool false]) ∧ Below w.heap.size w w' := by
  have H := Lib.hid HA
  clear HA
  have hmf : ∀ (fn : Fn) (first cap : Array Value) (w : World), (Instr.makeFunc fn first cap).run Tryd.prog w = .ok (.func fn first cap) w := fun _ _ _ _ => rfl
  go_enter_defers Tryd.func34, Tryd.ntmps34
  go_wp2_with fail
  refine (H.out _ ((Below.refl _ _).alloc (Nat.le_refl _) _)).mono ?_
  rintro e w1 ⟨rfl, b1⟩
  have bl := below_trans ((Below.refl w.heap.size w).alloc (Nat.le_refl _) (.cells #[.bool false] 4)) b1 (by simp)
  have c1 : w1.cell? ⟨w.heap.size, 0, none⟩ = some (.bool false) := by rw [b1.cell (p := ⟨w.heap.size, 0, none⟩) (by simp), World.cell?_alloc_new]; rfl
  have f1 : w1.frozen? ⟨w.heap.size, 0, none⟩ = false := by rw [b1.frozen (p := ⟨w.heap.size, 0, none⟩) (by simp)]; rw [frozen?_alloc_cells]; simp [World.frozen?]
  have hsz := bl.size
  have hs1 : w.heap.size < w1.heap.size := World.block_lt_of_cell? w1 _ c1
  show bodyPostD _ _ _ (Exit.panic _) _ _
  refine leaves_cons (f := 54) (args := #[.pointer (some ⟨w.heap.size, 0, none⟩)]) (by simp) (by simp [go_sem]) ?_
  refine (catch_panic w.heap.size [] _ c1 f1).mono ?_
  rintro e u' w'' ⟨rfl, rfl, c2, b2⟩
  have b3 := bl.trans (b2 w.heap.size (Nat.le_refl _) (by omega))
  simp [Leaves, settle, results, Tryd.results34, go_sem, c2]
  exact b3
end Go.Proofs.YtohaddhjnghcpaaDoor.T1
