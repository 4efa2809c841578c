/- Texts of the proof, put together: Ci. No conditions. -/
import Derived.Test.YtpabmidjfpabdaaGreatHas
import Derived.Deep.RegionWith

/- How many signs of a kind there are, in the program. -/
namespace Go.Proofs.YtpabmidjfpabdaaGreat.T1
open Go.RowKit
set_option maxRecDepth 100000

def isK (k : UInt8) (t : Tm) : Bool := t.kind == k
theorem cf_ck (args : Array Value) (w : World) : (callFunc 92 args).run Tryz.prog w = .ok (.enter 92 args) w := by kernel_rfl
set_option maxHeartbeats 1000000 in
theorem ck1 (T : TypeId) (V : Value) (ks kt : ByteArray) (hk : KindFact T V kt) (bk : Nat) (w : World) (hc : w.cell? ⟨bk, 0, none⟩ = some (.string ks)) :
    Calls Tryz.prog 92 (#[.iface T V] ++ #[.pointer (some ⟨bk, 0, none⟩)]) w fun e w' => e = .returned (.bool (kt.toList == ks.toList)) ∧ Below w.heap.size w w' := by
  show Calls Tryz.prog 92 #[.iface T V, .pointer (some ⟨bk, 0, none⟩)] w _
  obtain ⟨F, R, hm1, hn1, hc1, hp⟩ := hk
  have hlt : bk < w.heap.size := World.block_lt_of_cell? w _ hc
  have H := Lib.hid hp
  clear hp
  go_enter Tryz.func92, Tryz.ntmps92
  go_wp2_with fail
  go_region_with (refine (H.out _).mono ?_; rintro e w' ⟨rfl, bl⟩; have c2 := (bl.cell (p := ⟨bk, 0, none⟩) hlt).trans hc)
  all_goals
    go_wp2_with fail
    go_ret
    refine ⟨rfl, ?_⟩
    first
      | exact bl
      | exact ((Below.refl w.heap.size w).drew).trans bl
      | exact bl.drew
      | exact (((Below.refl w.heap.size w).drew).trans bl).drew
      | exact (((Below.refl w.heap.size w).drew).drew).trans bl
      | trace_state

/-- A block with the wanted kind, as long as what is older than B stays. -/
def KBlk (bk : Nat) (ks : ByteArray) (w : World) : Prop := w.cell? ⟨bk, 0, none⟩ = some (.string ks)

theorem countKind_any (t : Tm) (ht : t.size ≤ 1000) (ks : ByteArray) (w : World) :
    Calls Tryz.prog 79 #[.iface (tyOf t) (pay t), .string ks] w fun e w' => e = .returned (.int .i64 (t.subs.countP (fun u => (one u.kind).toList == ks.toList) : Nat)) ∧ Below w.heap.size w w' := by
  have HC := countOf_any 92 #[.pointer (some ⟨w.heap.size, 0, none⟩)] (fun u => (one u.kind).toList == ks.toList) (KBlk w.heap.size ks) cf_ck
    (fun u w1 j => ck1 _ _ ks (one u.kind) (kind_fact u) w.heap.size w1 j) t ht
  have HC2 : Hid (∀ T, Calls Tryz.prog 70 #[.iface (tyOf t) (pay t), .func (.func 92) #[] #[.pointer (some ⟨w.heap.size, 0, none⟩)]] (w.alloc (.cells #[.string ks] T)) fun e w' => e = .returned (.int .i64 (t.subs.countP (fun u => (one u.kind).toList == ks.toList) : Nat)) ∧ Below (w.alloc (.cells #[.string ks] T)).heap.size (w.alloc (.cells #[.string ks] T)) w') := fun T =>
    HC (w.alloc (.cells #[.string ks] T)) (fun w1 w' j bl => by unfold KBlk at j ⊢; rw [bl.cell (p := ⟨w.heap.size, 0, none⟩) (by simp)]; exact j) (by unfold KBlk; rw [World.cell?_alloc_new]; rfl)
  clear HC
  obtain ⟨T, hT⟩ : ∃ T, T = tyOf t := ⟨_, rfl⟩
  obtain ⟨V, hV⟩ : ∃ V, V = pay t := ⟨_, rfl⟩
  obtain ⟨N, hN⟩ : ∃ N, N = t.subs.countP (fun u => (one u.kind).toList == ks.toList) := ⟨_, rfl⟩
  rw [← hT, ← hV, ← hN] at HC2
  rw [← hT, ← hV, ← hN]
  clear hT hV hN
  go_enter Tryz.func79, Tryz.ntmps79
  go_wp2_with fail
  refine (HC2.out _).mono ?_
  rintro e w1 ⟨rfl, bl⟩
  go_wp2_with fail
  go_ret
  exact ⟨rfl, below_trans ((Below.refl _ _).alloc (Nat.le_refl _) _) bl (by simp)⟩

theorem one_eq (a b : UInt8) : ((one a).toList == (one b).toList) = (a == b) := by
  have h : ∀ c, (one c).toList = [c] := fun c => by rw [ByteArray.toList_eq]; rfl
  rw [h, h]; simp

end Go.Proofs.YtpabmidjfpabdaaGreat.T1
