/- Texts of the proof, put together: Gi, St, Go, Zr. No conditions. -/
import Derived.Test.YtlhmjcfnfefliaaGreatHaq
import Derived.Test.YtlhmjcfnfefliaaGreatHbm
import Derived.Test.YtlhmjcfnfefliaaGreatHbq
import Derived.Test.YtlhmjcfnfefliaaGreatHbs
import Derived.Laws.Rows
import Derived.Deep.DeepCutAuto
import Derived.Deep.RegionWith

/- What is drawn for the laws of terms. No conditions. -/
namespace Go.Proofs.YtlhmjcfnfefliaaGreat.T1
open Go.RowKit
set_option maxRecDepth 100000
set_option linter.unusedVariables false
set_option linter.unusedSimpArgs false

/-- A slice of bytes that came in. -/
def Arg (w : World) (a : Option Addr) (n : Nat) : Prop := CodeIn w a n w.heap.size
theorem Arg.below {w w' : World} {a : Option Addr} {n : Nat} (h : Arg w a n) (k : Below w.heap.size w w') : Arg w' a n := by
  obtain ⟨h1, h | ⟨x, e, hx, h⟩⟩ := h
  · exact ⟨h1, .inl h⟩
  · refine ⟨h1, .inr ⟨x, e, Nat.lt_of_lt_of_le hx k.size, fun j hj => ?_⟩⟩
    obtain ⟨z, z0, z1, hz⟩ := h j hj
    refine ⟨z, z0, z1, ?_⟩
    rw [← hz]; unfold World.cell?; rw [add_blk, k.block _ hx]
theorem cur_new {w : World} {a : Option Addr} {n cap : Nat} (h : Arg w a n) : Cur (w.alloc (.cells #[.slice a n cap, .int .i64 0, .int .u64 0] 38)) w.heap.size 0 := by
  refine ⟨a, n, cap, 0, 0, ?_, Nat.le_refl _, ?_⟩
  · show (w.heap.push _)[w.heap.size]? = _
    rw [Array.getElem?_push_size]; rfl
  · obtain ⟨h1, h | ⟨x, e, hx, h⟩⟩ := h
    · exact ⟨h1, .inl h⟩
    · refine ⟨h1, .inr ⟨x, e, hx, fun j hj => ?_⟩⟩
      obtain ⟨z, z0, z1, hz⟩ := h j hj
      refine ⟨z, z0, z1, ?_⟩
      rw [← hz]; unfold World.cell?; rw [add_blk, Below.heap_alloc _ _ _ hx]
theorem only_new {w w' : World} {o : Obj} (h : Only w.heap.size (w.alloc o) w') : Below w.heap.size w w' :=
  Below.only ((Below.refl _ _).alloc (Nat.le_refl _) o) h (Nat.le_refl _) (by simp)

end Go.Proofs.YtlhmjcfnfefliaaGreat.T1

/- Slices of texts: compared, marked, and asked for their marks. -/
namespace Go.Proofs.YtlhmjcfnfefliaaGreat.T1
open Go.RowKit
set_option maxRecDepth 100000
set_option linter.unusedVariables false
set_option linter.unusedSimpArgs false

/-- A slice of texts. -/
structure SRow (w : World) (v : Value) (g : Nat) (xs : List ByteArray) : Prop where
  ex : ∃ a c, v = .slice a xs.length c ∧ (xs ≠ [] → a = some ⟨g, 0, none⟩ ∧ ∃ C, w.heap[g]? = some (.cells C 9 (0, 0)) ∧ ∀ j (h : j < xs.length), C[j]? = some (.string xs[j]))
theorem SRow.below {w w' : World} {v : Value} {g : Nat} {xs : List ByteArray} (h : SRow w v g xs) (k : Below w.heap.size w w') : SRow w' v g xs := by
  obtain ⟨a, c, h1, h2⟩ := h.ex
  refine ⟨a, c, h1, fun hne => ?_⟩
  obtain ⟨h3, C, h4, h5⟩ := h2 hne
  exact ⟨h3, C, (k.block g (lt_of_block h4)).trans h4, h5⟩
theorem SRow.only {w w' : World} {v : Value} {g b : Nat} {xs : List ByteArray} (h : SRow w v g xs) (k : Only b w w') (hb : xs ≠ [] → g ≠ b) : SRow w' v g xs := by
  obtain ⟨a, c, h1, h2⟩ := h.ex
  refine ⟨a, c, h1, fun hne => ?_⟩
  obtain ⟨h3, C, h4, h5⟩ := h2 hne
  exact ⟨h3, C, (k.block g (lt_of_block h4) (hb hne)).trans h4, h5⟩
theorem SRow.lt {w : World} {v : Value} {g : Nat} {xs : List ByteArray} (h : SRow w v g xs) (hne : xs ≠ []) : g < w.heap.size := by
  obtain ⟨a, c, h1, h2⟩ := h.ex
  obtain ⟨h3, C, h4, h5⟩ := h2 hne
  exact lt_of_block h4
end Go.Proofs.YtlhmjcfnfefliaaGreat.T1

/- Two rows of the same texts are told the same; inputs that are too big. No conditions. -/
namespace Go.Proofs.YtlhmjcfnfefliaaGreat.T1
open Go.RowKit
set_option maxRecDepth 100000
set_option linter.unusedVariables false
set_option linter.unusedSimpArgs false

def isBig (n m : Nat) : Bool := decide (1048576 < n) || decide (1048576 - (n : Int) < (m : Int))
set_option maxHeartbeats 1000000 in
theorem big_any (a0 a1 : Option Addr) (n0 c0 n1 c1 : Nat) (h0 : n0 ≤ 140737488351232) (h1 : n1 ≤ 140737488351232) (w : World) : Calls Tryz.prog 4 #[.slice a0 n0 c0, .slice a1 n1 c1] w fun e w' => e = .returned (.bool (isBig n0 n1)) ∧ w = w' := by
  have hw : IntKind.i64.wrap (1048576 - (n0 : Int)) = 1048576 - (n0 : Int) := by rw [IntKind.wrap_i64] <;> omega
  by_cases h : 1048576 < n0
  · have e : isBig n0 n1 = true := by unfold isBig; simp [h]
    rw [e]
    have d : decide (1048576 < (n0 : Int)) = true := by simp; omega
    go_enter Tryz.func4, Tryz.ntmps4
    go_wp2_with fail
    go_ret
    exact ⟨rfl, rfl⟩
  · have d : decide (1048576 < (n0 : Int)) = false := by simp; omega
    have e : isBig n0 n1 = decide (1048576 - (n0 : Int) < (n1 : Int)) := by unfold isBig; simp [h]
    rw [e]
    by_cases h2 : 1048576 - (n0 : Int) < (n1 : Int)
    · have d2 : decide (1048576 - (n0 : Int) < (n1 : Int)) = true := decide_eq_true h2
      rw [d2]
      go_enter Tryz.func4, Tryz.ntmps4
      go_wp2_with fail
      go_ret
      exact ⟨rfl, rfl⟩
    · have d2 : decide (1048576 - (n0 : Int) < (n1 : Int)) = false := decide_eq_false h2
      rw [d2]
      go_enter Tryz.func4, Tryz.ntmps4
      go_wp2_with fail
      go_ret
      exact ⟨rfl, rfl⟩
end Go.Proofs.YtlhmjcfnfefliaaGreat.T1

/- The texts on which the law of names that are used leans: facts named. No conditions. -/
namespace Go.Proofs.YtlhmjcfnfefliaaGreat.T1
end Go.Proofs.YtlhmjcfnfefliaaGreat.T1
