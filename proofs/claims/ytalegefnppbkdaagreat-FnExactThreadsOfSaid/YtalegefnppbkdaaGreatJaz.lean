/- Texts of the proof, put together: Iw, Ci, Iz. No conditions. -/
import Derived.Test.YtalegefnppbkdaaGreatJam
import Derived.Test.YtalegefnppbkdaaGreatJap
import Derived.Test.YtalegefnppbkdaaGreatJat
import Derived.Deep.RegionWith
namespace Go.Proofs.YtalegefnppbkdaaGreat.T1
set_option maxHeartbeats 1000000
open Go.RowKit
set_option maxRecDepth 100000
set_option linter.unusedVariables false
set_option linter.unusedSimpArgs false
theorem has_freeS (t : Tm) (ho : t.ok nmL = true) (o : UInt8) (hn : nmL o = true) : ∀ w, Calls Tryz.prog 122 #[.int .u32 (setN t.free : Nat), .int .u8 (o.toNat : Int)] w fun e w' => e = .returned (.bool (decide (o ∈ t.free))) ∧ w = w' := by
 intro w
 have h := (nmL_iff o).1 hn
 have h1 := has_any (setN t.free) o.toNat (setN_lt32 _ (lets_free t ho)) h.1 h.2 w
 have e : (setN t.free).testBit (o.toNat - 97) = decide (o ∈ t.free) := by
  rw [Bool.eq_iff_iff, decide_eq_true_iff, setN_bit _ (lets_free t ho)]
  exact ⟨fun ⟨c, hc, e⟩ => by rw [← u8_ext (show c.toNat = o.toNat by omega)]; exact hc, fun hc => ⟨o, hc, by omega⟩⟩
 rw [e] at h1
 exact h1
theorem nm_lo {c : UInt8} (h : nmL c = false) : ((c.toNat : Nat) : Int) < 97 ∨ 122 < ((c.toNat : Nat) : Int) := by
 rcases Nat.lt_or_ge c.toNat 97 with h1 | h1
 ·exact .inl (by omega)
 ·rcases Nat.lt_or_ge 122 c.toNat with h2 | h2
  ·exact .inr (by omega)
  ·have := (nmL_iff c).2 ⟨h1, h2⟩; rw [h] at this; cases this
theorem one_len (X : ByteArray) (hq : ((X.size : Int) == 1) = false) (hq2 : ((X.size : Int) != 1) = true) (w : World) : Calls Tryz.prog 59 #[.string X] w fun e w' => e = .returned (.bool false) ∧ Below w.heap.size w w' := by
 go_enter Tryz.func59, Tryz.ntmps59
 go_wp2_with fail
 go_ret
 exact ⟨rfl, Below.refl _ _⟩
theorem one_lo (X : ByteArray) (h0 : 0 < X.size) (hq : ((X.size : Int) == 1) = true) (h1 : ((X[0]'h0).toNat : Int) < 97) (w : World) : Calls Tryz.prog 59 #[.string X] w fun e w' => e = .returned (.bool false) ∧ Below w.heap.size w w' := by
 skip
 go_enter Tryz.func59, Tryz.ntmps59
 go_wp2_with fail
 all_goals go_ret
 all_goals exact ⟨rfl, Below.refl _ _⟩
theorem one_hi (X : ByteArray) (h0 : 0 < X.size) (hq : ((X.size : Int) == 1) = true) (h1 : 122 < ((X[0]'h0).toNat : Int)) (w : World) : Calls Tryz.prog 59 #[.string X] w fun e w' => e = .returned (.bool false) ∧ Below w.heap.size w w' := by
 have hd : decide (((X[0]'h0).toNat : Int) ≤ 122) = false := decide_eq_false (by omega)
 go_enter Tryz.func59, Tryz.ntmps59
 go_wp2_with fail
 all_goals go_ret
 all_goals exact ⟨rfl, Below.refl _ _⟩
theorem one_yes (X : ByteArray) (h0 : 0 < X.size) (hq : ((X.size : Int) == 1) = true) (h1 : 97 ≤ ((X[0]'h0).toNat : Int)) (h2 : ((X[0]'h0).toNat : Int) ≤ 122) (w : World) : Calls Tryz.prog 59 #[.string X] w fun e w' => e = .returned (.bool true) ∧ Below w.heap.size w w' := by
 skip
 go_enter Tryz.func59, Tryz.ntmps59
 go_wp2_with fail
 all_goals go_ret
 all_goals exact ⟨rfl, Below.refl _ _⟩
theorem rn_len (X : ByteArray) (hq : ((X.size : Int) == 1) = false) (hq2 : ((X.size : Int) != 1) = true) (w : World) : Calls Tryz.prog 60 #[.string X] w fun e w' => e = .returned (.tuple #[.int .u8 0, .bool false]) ∧ Below w.heap.size w w' := by
 go_enter Tryz.func60, Tryz.ntmps60
 go_wp2_with fail
 go_ret2
 exact ⟨rfl, Below.refl _ _⟩
theorem rn_no (X : ByteArray) (h0 : 0 < X.size) (hq : ((X.size : Int) != 1) = false) (HL : ∀ w, Calls Tryz.prog 87 #[.int .i32 ((X[0]'h0).toNat : Int)] w fun e w' => e = .returned (.bool false) ∧ w = w') (w : World) : Calls Tryz.prog 60 #[.string X] w fun e w' => e = .returned (.tuple #[.int .u8 0, .bool false]) ∧ Below w.heap.size w w' := by
 have H := Lib.hid HL
 have hby : (X[0]'h0).toNat < 256 := (X[0]'h0).toNat_lt
 clear HL
 go_enter Tryz.func60, Tryz.ntmps60
 go_wp2_with fail
 refine (H.out _).mono ?_
 rintro e w1 ⟨rfl, rfl⟩
 go_wp2_with fail
 go_ret2
 exact ⟨rfl, Below.refl _ _⟩
theorem rn_yes (X : ByteArray) (h0 : 0 < X.size) (hq : ((X.size : Int) != 1) = false) (HL : ∀ w, Calls Tryz.prog 87 #[.int .i32 ((X[0]'h0).toNat : Int)] w fun e w' => e = .returned (.bool true) ∧ w = w') (w : World) : Calls Tryz.prog 60 #[.string X] w fun e w' => e = .returned (.tuple #[.int .u8 ((X[0]'h0).toNat : Int), .bool true]) ∧ Below w.heap.size w w' := by
 have H := Lib.hid HL
 have hby : (X[0]'h0).toNat < 256 := (X[0]'h0).toNat_lt
 clear HL
 go_enter Tryz.func60, Tryz.ntmps60
 go_wp2_with fail
 refine (H.out _).mono ?_
 rintro e w1 ⟨rfl, rfl⟩
 go_wp2_with fail
 go_ret2
 exact ⟨rfl, Below.refl _ _⟩
theorem one_or (k : ByteArray) : (∃ c, nmL c = true ∧ k = B [c] ∧ (∀ w, Calls Tryz.prog 59 #[.string k] w fun e w' => e = .returned (.bool true) ∧ Below w.heap.size w w') ∧ (∀ w, Calls Tryz.prog 60 #[.string k] w fun e w' => e = .returned (.tuple #[.int .u8 (c.toNat : Int), .bool true]) ∧ Below w.heap.size w w')) ∨ ((∀ w, Calls Tryz.prog 59 #[.string k] w fun e w' => e = .returned (.bool false) ∧ Below w.heap.size w w') ∧ (∀ w, Calls Tryz.prog 60 #[.string k] w fun e w' => e = .returned (.tuple #[.int .u8 0, .bool false]) ∧ Below w.heap.size w w')) := by
 by_cases h1 : k.size = 1
 ·have h0 : 0 < k.size := by omega
  have hq : ((k.size : Int) == 1) = true := by rw [h1]; rfl
  have hq2 : ((k.size : Int) != 1) = false := by rw [h1]; rfl
  have hL := isLetter_any (k[0]'h0)
  cases hc : nmL (k[0]'h0) with
  | true =>
   rw [hc] at hL
   have h2 := (nmL_iff _).1 hc
   refine .inl ⟨k[0]'h0, hc, ?_, one_yes k h0 hq (by omega) (by omega), rn_yes k h0 hq2 hL⟩
   apply B_eq
   have hl : k.data.toList.length = 1 := by simp; exact h1
   have hg := get_list k 0 h0
   match hk : k.data.toList, hl with
   | [x], _ => simp [hk] at hg; rw [hg]
  | false =>
   rw [hc] at hL
   refine .inr ⟨?_, rn_no k h0 hq2 hL⟩
   rcases nm_lo hc with h | h
   ·exact one_lo k h0 hq h
   ·exact one_hi k h0 hq h
 ·have hq : ((k.size : Int) == 1) = false := by rw [beq_eq_false_iff_ne]; omega
  exact .inr ⟨one_len k hq (by rw [bne, hq]; rfl), rn_len k hq (by rw [bne, hq]; rfl)⟩
theorem cf_ck (args : Array Value) (w : World) : (callFunc 150 args).run Tryz.prog w = .ok (.enter 150 args) w := by kernel_rfl
theorem ck1 (T : TypeId) (V : Value) (ks kt : ByteArray) (hk : KindFact T V kt) (bk : Nat) (w : World) (hc : w.cell? ⟨bk, 0, none⟩ = some (.string ks)) :
  Calls Tryz.prog 150 (#[.iface T V] ++ #[.pointer (some ⟨bk, 0, none⟩)]) w fun e w' => e = .returned (.bool (kt.toList == ks.toList)) ∧ Below w.heap.size w w' := by
 show Calls Tryz.prog 150 #[.iface T V, .pointer (some ⟨bk, 0, none⟩)] w _
 obtain ⟨F, R, hm1, hn1, hc1, hp⟩ := hk
 have hlt : bk < w.heap.size := World.block_lt_of_cell? w _ hc
 have H := Lib.hid hp
 clear hp
 go_enter Tryz.func150, Tryz.ntmps150
 go_wp2_with fail
 go_region_with (refine (H.out _).mono ?_; rintro e w' ⟨rfl, bl⟩; have c2 := (bl.cell (p := ⟨bk, 0, none⟩) hlt).trans hc)
 all_goals
  go_wp2_with fail
  go_ret
  refine ⟨rfl, ?_⟩
  first
   | exact bl
   | exact ((Below.refl w.heap.size w).drew).trans bl
   | exact bl.drew
   | exact (((Below.refl w.heap.size w).drew).trans bl).drew
   | exact (((Below.refl w.heap.size w).drew).drew).trans bl
   | trace_state
def KBlk (bk : Nat) (ks : ByteArray) (w : World) : Prop := w.cell? ⟨bk, 0, none⟩ = some (.string ks)
theorem countKind_any (t : Tm) (ht : t.size ≤ 1000) (ks : ByteArray) (w : World) :
  Calls Tryz.prog 114 #[.iface (tyOf t) (pay t), .string ks] w fun e w' => e = .returned (.int .i64 (t.subs.countP (fun u => (one u.kind).toList == ks.toList) : Nat)) ∧ Below w.heap.size w w' := by
 have HC := countOf_any 150 #[.pointer (some ⟨w.heap.size, 0, none⟩)] (fun u => (one u.kind).toList == ks.toList) (KBlk w.heap.size ks) cf_ck
  (fun u w1 j => ck1 _ _ ks (one u.kind) (kind_fact u) w.heap.size w1 j) t ht
 have HC2 : Hid (∀ T, Calls Tryz.prog 109 #[.iface (tyOf t) (pay t), .func (.func 150) #[] #[.pointer (some ⟨w.heap.size, 0, none⟩)]] (w.alloc (.cells #[.string ks] T)) fun e w' => e = .returned (.int .i64 (t.subs.countP (fun u => (one u.kind).toList == ks.toList) : Nat)) ∧ Below (w.alloc (.cells #[.string ks] T)).heap.size (w.alloc (.cells #[.string ks] T)) w') := fun T =>
  HC (w.alloc (.cells #[.string ks] T)) (fun w1 w' j bl => by unfold KBlk at j ⊢; rw [bl.cell (p := ⟨w.heap.size, 0, none⟩) (by simp)]; exact j) (by unfold KBlk; rw [World.cell?_alloc_new]; rfl)
 clear HC
 obtain ⟨T, hT⟩ : ∃ T, T = tyOf t := ⟨_, rfl⟩
 obtain ⟨V, hV⟩ : ∃ V, V = pay t := ⟨_, rfl⟩
 obtain ⟨N, hN⟩ : ∃ N, N = t.subs.countP (fun u => (one u.kind).toList == ks.toList) := ⟨_, rfl⟩
 rw [← hT, ← hV, ← hN] at HC2
 rw [← hT, ← hV, ← hN]
 clear hT hV hN
 go_enter Tryz.func114, Tryz.ntmps114
 go_wp2_with fail
 refine (HC2.out _).mono ?_
 rintro e w1 ⟨rfl, bl⟩
 go_wp2_with fail
 go_ret
 exact ⟨rfl, below_trans ((Below.refl _ _).alloc (Nat.le_refl _) _) bl (by simp)⟩
theorem one_eq (a b : UInt8) : ((one a).toList == (one b).toList) = (a == b) := by
 have h : ∀ c, (one c).toList = [c] := fun c => by rw [ByteArray.toList_eq]; rfl
 rw [h, h]; simp
def isN : Tm → Bool
 | .nil => true
 | _ => false
theorem isN_kind (t : Tm) : ((one t.kind).toList == [48]) = isN t := by
 rw [show ([48] : List UInt8) = (one 48).toList from by rw [ByteArray.toList_eq]; rfl]
 rw [one_eq]
 cases t <;> first | rfl | skip
theorem isN_iff (t : Tm) : isN t = true ↔ t = .nil := by cases t <;> simp [isN]
theorem isNothing0 (T : TypeId) (V : Value) (kt : ByteArray) (z : Bool) (hz : (kt.toList == [48]) = z) (hk : KindFact T V kt) (w : World) : Calls Tryz.prog 58 #[.iface T V] w fun e w' => e = .returned (.bool z) ∧ Below w.heap.size w w' := by
 obtain ⟨F, R, hm1, hn1, hc1, hp⟩ := hk
 have HZ := Lib.hid hz
 have H := Lib.hid hp
 clear hp hz
 go_enter Tryz.func58, Tryz.ntmps58
 go_wp2_with fail
 refine (H.out _).mono ?_
 rintro e w' ⟨rfl, bl⟩
 go_wp2_with fail
 go_ret
 exact ⟨by rw [← HZ.out]; rfl, bl⟩
theorem isNothing_any (t : Tm) (w : World) : Calls Tryz.prog 58 #[.iface (tyOf t) (pay t)] w fun e w' => e = .returned (.bool (isN t)) ∧ Below w.heap.size w w' :=
 isNothing0 _ _ _ _ (isN_kind t) (kind_fact t) w
end Go.Proofs.YtalegefnppbkdaaGreat.T1
