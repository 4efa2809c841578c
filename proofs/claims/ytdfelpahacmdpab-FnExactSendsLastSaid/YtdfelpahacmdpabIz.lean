/- Is a name free, by a set of letters; is a sign nothing: in the program. -/
import Derived.Test.YtdfelpahacmdpabIf
import Derived.Test.YtdfelpahacmdpabKind
import Derived.Test.YtdfelpahacmdpabCi
namespace Go.Proofs.Ytdfelpahacmdpab.T1
open Go.RowKit
set_option maxRecDepth 100000
set_option linter.unusedVariables false
set_option linter.unusedSimpArgs false

theorem has_freeS (t : Tm) (ho : t.ok nmL = true) (o : UInt8) (hn : nmL o = true) : ∀ w, Calls Try.prog 30 #[.int .u32 (setN t.free : Nat), .int .u8 (o.toNat : Int)] w fun e w' => e = .returned (.bool (decide (o ∈ t.free))) ∧ w = w' := by
  intro w
  have h := (nmL_iff o).1 hn
  have h1 := has_any (setN t.free) o.toNat (setN_lt32 _ (lets_free t ho)) h.1 h.2 w
  have e : (setN t.free).testBit (o.toNat - 97) = decide (o ∈ t.free) := by
    rw [Bool.eq_iff_iff, decide_eq_true_iff, setN_bit _ (lets_free t ho)]
    exact ⟨fun ⟨c, hc, e⟩ => by rw [← u8_ext (show c.toNat = o.toNat by omega)]; exact hc, fun hc => ⟨o, hc, by omega⟩⟩
  rw [e] at h1
  exact h1
def isN : Tm → Bool
  | .nil => true
  | _ => false
theorem isN_kind (t : Tm) : ((one t.kind).toList == [48]) = isN t := by
  rw [show ([48] : List UInt8) = (one 48).toList from by rw [ByteArray.toList_eq]; rfl]
  rw [one_eq]
  cases t <;> first | rfl | skip
theorem isN_iff (t : Tm) : isN t = true ↔ t = .nil := by cases t <;> simp [isN]
set_option maxHeartbeats 1000000 in
theorem isNothing0 (T : TypeId) (V : Value) (kt : ByteArray) (z : Bool) (hz : (kt.toList == [48]) = z) (hk : KindFact T V kt) (w : World) : Calls Try.prog 40 #[.iface T V] w fun e w' => e = .returned (.bool z) ∧ Below w.heap.size w w' := by
  obtain ⟨F, R, hm1, hn1, hc1, hp⟩ := hk
  have HZ := Lib.hid hz
  have H := Lib.hid hp
  clear hp hz
  go_enter Try.func40, Try.ntmps40
  go_wp2_with fail
  refine (H.out _).mono ?_
  rintro e w' ⟨rfl, bl⟩
  go_wp2_with fail
  go_ret
  exact ⟨by rw [← HZ.out]; rfl, bl⟩
theorem isNothing_any (t : Tm) (w : World) : Calls Try.prog 40 #[.iface (tyOf t) (pay t)] w fun e w' => e = .returned (.bool (isN t)) ∧ Below w.heap.size w w' :=
  isNothing0 _ _ _ _ (isN_kind t) (kind_fact t) w
end Go.Proofs.Ytdfelpahacmdpab.T1
