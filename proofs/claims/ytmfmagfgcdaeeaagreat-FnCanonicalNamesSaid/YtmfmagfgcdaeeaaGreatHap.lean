/- Texts of the proof, put together: Ci, Iw, Iz. No conditions. -/
import Derived.Test.YtmfmagfgcdaeeaaGreatHaf
import Derived.Test.YtmfmagfgcdaeeaaGreatHaj
import Derived.Test.YtmfmagfgcdaeeaaGreatHan
import Derived.Deep.RegionWith

/- How many signs of a kind there are, in the program. -/
namespace Go.Proofs.YtmfmagfgcdaeeaaGreat.T1
open Go.RowKit
set_option maxRecDepth 100000

def isK (k : UInt8) (t : Tm) : Bool := t.kind == k
theorem cf_ck (args : Array Value) (w : World) : (callFunc 152 args).run Tryz.prog w = .ok (.enter 152 args) w := by kernel_rfl
set_option maxHeartbeats 1000000 in
theorem ck1 (T : TypeId) (V : Value) (ks kt : ByteArray) (hk : KindFact T V kt) (bk : Nat) (w : World) (hc : w.cell? ⟨bk, 0, none⟩ = some (.string ks)) :
    Calls Tryz.prog 152 (#[.iface T V] ++ #[.pointer (some ⟨bk, 0, none⟩)]) w fun e w' => e = .returned (.bool (kt.toList == ks.toList)) ∧ Below w.heap.size w w' := by
  show Calls Tryz.prog 152 #[.iface T V, .pointer (some ⟨bk, 0, none⟩)] w _
  obtain ⟨F, R, hm1, hn1, hc1, hp⟩ := hk
  have hlt : bk < w.heap.size := World.block_lt_of_cell? w _ hc
  have H := Lib.hid hp
  clear hp
  go_enter Tryz.func152, Tryz.ntmps152
  go_wp2_with fail
  go_region_with (refine (H.out _).mono ?_; rintro e w' ⟨rfl, bl⟩; have c2 := (bl.cell (p := ⟨bk, 0, none⟩) hlt).trans hc)
  all_goals
    go_wp2_with fail
    go_ret
    refine ⟨rfl, ?_⟩
    first
      | exact bl
      | exact ((Below.refl w.heap.size w).drew).trans bl
      | exact bl.drew
      | exact (((Below.refl w.heap.size w).drew).trans bl).drew
      | exact (((Below.refl w.heap.size w).drew).drew).trans bl
      | trace_state

/-- A block with the wanted kind, as long as what is older than B stays. -/
def KBlk (bk : Nat) (ks : ByteArray) (w : World) : Prop := w.cell? ⟨bk, 0, none⟩ = some (.string ks)

theorem countKind_any (t : Tm) (ht : t.size ≤ 1000) (ks : ByteArray) (w : World) :
    Calls Tryz.prog 115 #[.iface (tyOf t) (pay t), .string ks] w fun e w' => e = .returned (.int .i64 (t.subs.countP (fun u => (one u.kind).toList == ks.toList) : Nat)) ∧ Below w.heap.size w w' := by
  have HC := countOf_any 152 #[.pointer (some ⟨w.heap.size, 0, none⟩)] (fun u => (one u.kind).toList == ks.toList) (KBlk w.heap.size ks) cf_ck
    (fun u w1 j => ck1 _ _ ks (one u.kind) (kind_fact u) w.heap.size w1 j) t ht
  have HC2 : Hid (∀ T, Calls Tryz.prog 142 #[.iface (tyOf t) (pay t), .func (.func 152) #[] #[.pointer (some ⟨w.heap.size, 0, none⟩)]] (w.alloc (.cells #[.string ks] T)) fun e w' => e = .returned (.int .i64 (t.subs.countP (fun u => (one u.kind).toList == ks.toList) : Nat)) ∧ Below (w.alloc (.cells #[.string ks] T)).heap.size (w.alloc (.cells #[.string ks] T)) w') := fun T =>
    HC (w.alloc (.cells #[.string ks] T)) (fun w1 w' j bl => by unfold KBlk at j ⊢; rw [bl.cell (p := ⟨w.heap.size, 0, none⟩) (by simp)]; exact j) (by unfold KBlk; rw [World.cell?_alloc_new]; rfl)
  clear HC
  obtain ⟨T, hT⟩ : ∃ T, T = tyOf t := ⟨_, rfl⟩
  obtain ⟨V, hV⟩ : ∃ V, V = pay t := ⟨_, rfl⟩
  obtain ⟨N, hN⟩ : ∃ N, N = t.subs.countP (fun u => (one u.kind).toList == ks.toList) := ⟨_, rfl⟩
  rw [← hT, ← hV, ← hN] at HC2
  rw [← hT, ← hV, ← hN]
  clear hT hV hN
  go_enter Tryz.func115, Tryz.ntmps115
  go_wp2_with fail
  refine (HC2.out _).mono ?_
  rintro e w1 ⟨rfl, bl⟩
  go_wp2_with fail
  go_ret
  exact ⟨rfl, below_trans ((Below.refl _ _).alloc (Nat.le_refl _) _) bl (by simp)⟩

theorem one_eq (a b : UInt8) : ((one a).toList == (one b).toList) = (a == b) := by
  have h : ∀ c, (one c).toList = [c] := fun c => by rw [ByteArray.toList_eq]; rfl
  rw [h, h]; simp

end Go.Proofs.YtmfmagfgcdaeeaaGreat.T1

/- Is a name free, by a set of letters; a text that is one name, or none: both sides. -/
namespace Go.Proofs.YtmfmagfgcdaeeaaGreat.T1
open Go.RowKit
set_option maxRecDepth 100000
set_option linter.unusedVariables false
set_option linter.unusedSimpArgs false

theorem has_freeS (t : Tm) (ho : t.ok nmL = true) (o : UInt8) (hn : nmL o = true) : ∀ w, Calls Tryz.prog 133 #[.int .u32 (setN t.free : Nat), .int .u8 (o.toNat : Int)] w fun e w' => e = .returned (.bool (decide (o ∈ t.free))) ∧ w = w' := by
  intro w
  have h := (nmL_iff o).1 hn
  have h1 := has_any (setN t.free) o.toNat (setN_lt32 _ (lets_free t ho)) h.1 h.2 w
  have e : (setN t.free).testBit (o.toNat - 97) = decide (o ∈ t.free) := by
    rw [Bool.eq_iff_iff, decide_eq_true_iff, setN_bit _ (lets_free t ho)]
    exact ⟨fun ⟨c, hc, e⟩ => by rw [← u8_ext (show c.toNat = o.toNat by omega)]; exact hc, fun hc => ⟨o, hc, by omega⟩⟩
  rw [e] at h1
  exact h1
end Go.Proofs.YtmfmagfgcdaeeaaGreat.T1

/- Is a sign nothing: in the program. -/
namespace Go.Proofs.YtmfmagfgcdaeeaaGreat.T1
open Go.RowKit
set_option maxRecDepth 100000
set_option linter.unusedVariables false
set_option linter.unusedSimpArgs false

def isN : Tm → Bool
  | .nil => true
  | _ => false
theorem isN_kind (t : Tm) : ((one t.kind).toList == [48]) = isN t := by
  rw [show ([48] : List UInt8) = (one 48).toList from by rw [ByteArray.toList_eq]; rfl]
  rw [one_eq]
  cases t <;> first | rfl | skip
theorem isN_iff (t : Tm) : isN t = true ↔ t = .nil := by cases t <;> simp [isN]
set_option maxHeartbeats 1000000 in
theorem isNothing0 (T : TypeId) (V : Value) (kt : ByteArray) (z : Bool) (hz : (kt.toList == [48]) = z) (hk : KindFact T V kt) (w : World) : Calls Tryz.prog 83 #[.iface T V] w fun e w' => e = .returned (.bool z) ∧ Below w.heap.size w w' := by
  obtain ⟨F, R, hm1, hn1, hc1, hp⟩ := hk
  have HZ := Lib.hid hz
  have H := Lib.hid hp
  clear hp hz
  go_enter Tryz.func83, Tryz.ntmps83
  go_wp2_with fail
  refine (H.out _).mono ?_
  rintro e w' ⟨rfl, bl⟩
  go_wp2_with fail
  go_ret
  exact ⟨by rw [← HZ.out]; rfl, bl⟩
theorem isNothing_any (t : Tm) (w : World) : Calls Tryz.prog 83 #[.iface (tyOf t) (pay t)] w fun e w' => e = .returned (.bool (isN t)) ∧ Below w.heap.size w w' :=
  isNothing0 _ _ _ _ (isN_kind t) (kind_fact t) w
end Go.Proofs.YtmfmagfgcdaeeaaGreat.T1
