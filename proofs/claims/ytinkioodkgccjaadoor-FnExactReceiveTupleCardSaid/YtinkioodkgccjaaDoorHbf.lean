/- Texts of the proof, put together: Cdb, Cdd. No conditions. -/
import Derived.Test.YtinkioodkgccjaaDoorHab
import Derived.Test.YtinkioodkgccjaaDoorHaf
import Derived.Test.YtinkioodkgccjaaDoorHbe
import Derived.Lib.Hide
import Derived.WalkKit
import Derived.Defers
import Derived.Recover
import Derived.Deep.RegionWith

/- A failure that is raised, and the door that recovers it, in the program. No conditions. -/
namespace Go.Proofs.YtinkioodkgccjaaDoor.T1
open Go.RowKit
set_option maxRecDepth 100000
set_option linter.unusedVariables false
set_option linter.unusedSimpArgs false

/-- A failure goes up. -/
def failed : Ending := .panicked [{ v := .iface 74 (.agg #[]), recovered := false }]

theorem ensure_yes (w : World) : Calls Tryd.prog 39 #[.bool true] w fun e w' => e = .returned (.tuple #[]) ∧ w = w' := by
  go_enter Tryd.func39, Tryd.ntmps39
  go_wp2_with fail
  go_end0
  exact ⟨rfl, rfl⟩
theorem ensure_no (w : World) : Calls Tryd.prog 39 #[.bool false] w fun e w' => e = failed ∧ w = w' := by
  go_enter Tryd.func39, Tryd.ntmps39
  go_wp2_with fail
  exact ⟨rfl, rfl, rfl⟩

@[go_sem] theorem ta_fail_yes (w : World) : (Instr.typeAssert (.iface 74 (.agg #[])) 20 74 true).run Tryd.prog w = .ok (.tuple #[.agg #[], .bool true]) w := by kernel_rfl
@[go_sem] theorem ta_fail_nil (w : World) : (Instr.typeAssert .nilIface 20 74 true).run Tryd.prog w = .ok (.tuple #[.agg #[], .bool false]) w := by kernel_rfl
set_option maxHeartbeats 2000000 in
theorem catch_panic (b : Nat) (older : List PanicEntry) (w : World) (hc : w.cell? ⟨b, 0, none⟩ = some (.bool false)) (hz : w.frozen? ⟨b, 0, none⟩ = false) :
    CallsD Tryd.prog 52 #[.pointer (some ⟨b, 0, none⟩)] (.panicking ({ v := .iface 74 (.agg #[]), recovered := false } :: older)) w fun e u' w' =>
      e = .returned (.tuple #[]) ∧ u' = .panicking ({ v := .iface 74 (.agg #[]), recovered := true } :: older) ∧ w'.cell? ⟨b, 0, none⟩ = some (.bool false) ∧ (∀ B, B ≤ b → B ≤ w.heap.size → Below B w w') := by
  refine callsD_of_wpS Tryd.func52 rfl fun c₀ cs hu => ?_
  apply wpS_seq
  apply wpS_region
  simp [wpOpsS, go_sem, recoverD, hu, Tryd.ntmps52, Exit.thenS]
  have hlt : b < w.heap.size := World.block_lt_of_cell? w _ hc
  have hc' : (w.alloc (.cells #[] 74)).cell? ⟨b, 0, none⟩ = some (.bool false) := by rw [World.cell?_alloc_past _ _ _ hlt]; exact hc
  have hz' : (w.alloc (.cells #[] 74)).frozen? ⟨b, 0, none⟩ = false := by rw [frozen?_alloc_cells]; exact hz
  apply wpS_seq
  apply wpS_region
  simp [wpOpsS, go_sem, recoverD, hu, Tryd.ntmps52, Exit.thenS]
  refine wpS_cond (t := true) (by simp [Act.eval, Array.replicate]) ?_
  simp only [if_true]
  apply wpS_region
  simp [wpOpsS, go_sem, hc', hz', bodyPostS, results, Tryd.results52]
  exact fun B h1 h2 => ((Below.refl _ _).alloc h2 _).setCell (p := ⟨b, 0, none⟩) h1 _
set_option maxHeartbeats 2000000 in
theorem catch_idle (b : Nat) (x : Value) (w : World) (hc : w.cell? ⟨b, 0, none⟩ = some x) :
    CallsD Tryd.prog 52 #[.pointer (some ⟨b, 0, none⟩)] .returning w fun e u' w' => e = .returned (.tuple #[]) ∧ u' = .returning ∧ w'.cell? ⟨b, 0, none⟩ = some x ∧ (∀ B, B ≤ w.heap.size → Below B w w') := by
  refine callsD_of_wpS Tryd.func52 rfl fun c₀ cs hu => ?_
  apply wpS_seq
  apply wpS_region
  simp [wpOpsS, go_sem, recoverD, hu, Tryd.ntmps52, Exit.thenS]
  apply wpS_seq
  apply wpS_region
  simp [wpOpsS, go_sem, recoverD, hu, Tryd.ntmps52, Exit.thenS]
  refine wpS_cond (t := false) (by simp [Act.eval, Array.replicate]) ?_
  simp only [Bool.false_eq_true, if_false]
  refine wpS_of_wp (wp_skip ?_)
  cases c₀
  simp_all [bodyPostS, results, Tryd.results52]
  exact ⟨by rw [World.cell?_alloc_past _ _ _ (World.block_lt_of_cell? w _ hc)]; exact hc, fun B h => (Below.refl _ _).alloc h _⟩

/-- The door, where the asked function answers. -/
theorem ans_yes (CF : FuncId) (caps : Array Value) (T : TypeId) (V : Value) (hF : ∀ args w, (callFunc CF args).run Tryd.prog w = .ok (.enter CF args) w) (w : World)
    (HA : ∀ w1, Below w.heap.size w w1 → Calls Tryd.prog CF caps w1 fun e w' => e = .returned (.iface T V) ∧ Below w1.heap.size w1 w') :
    Calls Tryd.prog 32 #[.func (.func CF) #[] caps] w fun e w' => e = .returned (.tuple #[.iface T V, .bool true]) ∧ Below w.heap.size w w' := by
  have H := Lib.hid HA
  clear HA
  have hmf : ∀ (fn : Fn) (first cap : Array Value) (w : World), (Instr.makeFunc fn first cap).run Tryd.prog w = .ok (.func fn first cap) w := fun _ _ _ _ => rfl
  go_enter_defers Tryd.func32, Tryd.ntmps32
  go_wp2_with fail
  refine (H.out _ ((Below.refl _ _).alloc (Nat.le_refl _) _)).mono ?_
  rintro e w1 ⟨rfl, b1⟩
  have bl := below_trans ((Below.refl w.heap.size w).alloc (Nat.le_refl _) (.cells #[.bool false] 4)) b1 (by simp)
  have c1 : w1.cell? ⟨w.heap.size, 0, none⟩ = some (.bool false) := by rw [b1.cell (p := ⟨w.heap.size, 0, none⟩) (by simp), World.cell?_alloc_new]; rfl
  have f1 : w1.frozen? ⟨w.heap.size, 0, none⟩ = false := by rw [b1.frozen (p := ⟨w.heap.size, 0, none⟩) (by simp)]; rw [frozen?_alloc_cells]; simp [World.frozen?]
  have hsz := bl.size
  have hs1 : w.heap.size < w1.heap.size := World.block_lt_of_cell? w1 _ c1
  go_wp2_with fail
  refine leaves_cons (f := 52) (args := #[.pointer (some ⟨w.heap.size, 0, none⟩)]) (by simp) (by simp [go_sem]) ?_
  refine (catch_idle w.heap.size (.bool true) _ ?_).mono ?_
  · exact World.cell?_setCell_same _ _ _ c1
  rintro e u' w'' ⟨rfl, rfl, c2, b2⟩
  have b3 := (bl.setCell (p := ⟨w.heap.size, 0, none⟩) (Nat.le_refl _) (.bool true)).trans (b2 w.heap.size (by simp; omega))
  simp [Leaves, settle, results, Tryd.results32, go_sem, c2]
  exact b3
/-- The door, where a failure comes. -/
theorem ans_no (CF : FuncId) (caps : Array Value) (hF : ∀ args w, (callFunc CF args).run Tryd.prog w = .ok (.enter CF args) w) (w : World)
    (HA : ∀ w1, Below w.heap.size w w1 → Calls Tryd.prog CF caps w1 fun e w' => e = failed ∧ Below w1.heap.size w1 w') :
    Calls Tryd.prog 32 #[.func (.func CF) #[] caps] w fun e w' => e = .returned (.tuple #[.nilIface, .bool false]) ∧ Below w.heap.size w w' := by
  have H := Lib.hid HA
  clear HA
  have hmf : ∀ (fn : Fn) (first cap : Array Value) (w : World), (Instr.makeFunc fn first cap).run Tryd.prog w = .ok (.func fn first cap) w := fun _ _ _ _ => rfl
  go_enter_defers Tryd.func32, Tryd.ntmps32
  go_wp2_with fail
  refine (H.out _ ((Below.refl _ _).alloc (Nat.le_refl _) _)).mono ?_
  rintro e w1 ⟨rfl, b1⟩
  have bl := below_trans ((Below.refl w.heap.size w).alloc (Nat.le_refl _) (.cells #[.bool false] 4)) b1 (by simp)
  have c1 : w1.cell? ⟨w.heap.size, 0, none⟩ = some (.bool false) := by rw [b1.cell (p := ⟨w.heap.size, 0, none⟩) (by simp), World.cell?_alloc_new]; rfl
  have f1 : w1.frozen? ⟨w.heap.size, 0, none⟩ = false := by rw [b1.frozen (p := ⟨w.heap.size, 0, none⟩) (by simp)]; rw [frozen?_alloc_cells]; simp [World.frozen?]
  have hsz := bl.size
  have hs1 : w.heap.size < w1.heap.size := World.block_lt_of_cell? w1 _ c1
  show bodyPostD _ _ _ (Exit.panic _) _ _
  refine leaves_cons (f := 52) (args := #[.pointer (some ⟨w.heap.size, 0, none⟩)]) (by simp) (by simp [go_sem]) ?_
  refine (catch_panic w.heap.size [] _ c1 f1).mono ?_
  rintro e u' w'' ⟨rfl, rfl, c2, b2⟩
  have b3 := bl.trans (b2 w.heap.size (Nat.le_refl _) (by omega))
  simp [Leaves, settle, results, Tryd.results32, go_sem, c2]
  exact b3
end Go.Proofs.YtinkioodkgccjaaDoor.T1

/- Rows of letters that are read alone; the set of a row; fresh letters, in the program. No conditions. -/
namespace Go.Proofs.YtinkioodkgccjaaDoor.T1
open Go.RowKit
set_option maxRecDepth 100000
set_option linter.unusedVariables false
set_option linter.unusedSimpArgs false

theorem cdgo {u v w : World} (h : Below u.heap.size u v) (k : Below v.heap.size v w) : Below u.heap.size u w := below_trans h k h.size
/-- A slice of letters, as long as it is not written. -/
def BRow (w : World) (g : Nat) (l : List UInt8) : Prop := g < w.heap.size ∧ l.length ≤ 100 ∧ ∀ j (h : j < l.length), w.cell? ⟨g, j, none⟩ = some (.int .u8 ((l[j]).toNat : Int))
theorem BRow.below {w w' : World} {g : Nat} {l : List UInt8} (h : BRow w g l) (k : Below w.heap.size w w') : BRow w' g l :=
  ⟨Nat.lt_of_lt_of_le h.1 k.size, h.2.1, fun j hj => (k.cell (p := ⟨g, j, none⟩) h.1).trans (h.2.2 j hj)⟩
theorem BRow.take {w : World} {g : Nat} {l : List UInt8} (h : BRow w g l) (n : Nat) : BRow w g (l.take n) :=
  ⟨h.1, by rw [List.length_take]; have := h.2.1; omega, fun j hj => by rw [List.getElem_take]; exact h.2.2 j (by rw [List.length_take] at hj; omega)⟩
theorem cd_form {w : World} {base n : Nat} {e : TypeId} {v : Value} {xs : List Value} (h : w.ownsRow base e 1 v n xs) : ∃ p cap, v = .slice p n cap := by
  rcases h.2 with ⟨h1, h2⟩ | ⟨g, cap, cur, h1, _⟩
  · exact ⟨_, _, by rw [h1, h2]⟩
  · exact ⟨_, _, h1⟩
theorem cd_at {w : World} {base n cap : Nat} {e : TypeId} {p : Option Addr} {xs : List Value} (h : w.ownsRow base e 1 (.slice p n cap) n xs) (hn : 0 < n) : ∃ g, p = some ⟨g, 0, none⟩ ∧ base ≤ g ∧ g < w.heap.size ∧ n ≤ cap ∧ ∀ j u, xs[j]? = some u → w.cell? ⟨g, j, none⟩ = some u := by
  rcases h.2 with ⟨h1, h2⟩ | ⟨g, cap', cur, h1, h2, h3, h4, _⟩
  · omega
  · have h1' := h1
    injection h1 with e1 e2 e3
    subst e1
    refine ⟨g, rfl, h2, lt_of_block h3, by omega, fun j u hj => ?_⟩
    have := own_cells h j u hj
    rw [add0] at this
    exact this
theorem brow_own {w : World} {base n cap : Nat} {p : Option Addr} {l : List UInt8} (h : w.ownsRow base 5 1 (.slice p n cap) n (l.map ub)) (hn : 0 < n) (h100 : n ≤ 100) : ∃ g, p = some ⟨g, 0, none⟩ ∧ n ≤ cap ∧ l.length = n ∧ BRow w g l := by
  obtain ⟨g, h1, h2, h3, h4, h5⟩ := cd_at h hn
  have hl : l.length = n := by have := h.1; rw [List.length_map] at this; omega
  exact ⟨g, h1, h4, hl, h3, by omega, fun j hj => h5 j _ (by rw [List.getElem?_map, List.getElem?_eq_getElem hj]; rfl)⟩

set_option maxHeartbeats 1000000 in
theorem setOf_any (l : List UInt8) (h : Lets l) (n : Nat) (hn : n = l.length) (g cap : Nat) (w : World) (hr : BRow w g l) :
    Calls Tryd.prog 42 #[.slice (some ⟨g, 0, none⟩) n cap] w fun e w' => e = .returned (.int .u32 (setN (bothL [] l) : Nat)) ∧ w = w' := by
  have HR := Lib.hid hr
  have HN := Lib.hid hn
  have HW : Hid (∀ (m : List UInt8) (_ : Lets m) (c : UInt8) (_ : nmL c = true) (w : World), Calls Tryd.prog 57 #[.int .u32 (setN m : Nat), .int .u8 (c.toNat : Int)] w fun e w' => e = .returned (.int .u32 (setN (addL m c) : Nat)) ∧ w = w') := fun m hm c hc w => with_set m hm c hc w
  have hL := Lib.hid h
  have n100 : n ≤ 100 := by rw [hn]; exact hr.2.1
  clear hr hn h
  go_enter Tryd.func42, Tryd.ntmps42
  go_wp2_with fail
  go_loop [3, 8] (fun s i => ∃ (X k : Nat), k ≤ n ∧ s = .int .u32 (X : Int) ∧ i = .int .i64 (k : Int) ∧ Hid (X = setN (bothL [] (l.take k)))) (fun _ v => n - (intOf v).toNat)
  case atStart => exact ⟨0, 0, Nat.zero_le _, rfl, rfl, rfl⟩
  case round =>
    obtain ⟨X, k, hk, rfl, rfl, hX⟩ := hrel
    by_cases hlt : k < n
    · have hkl : k < l.length := by rw [← HN.out]; exact hlt
      have c1 := HR.out.2.2 k hkl
      have hc : nmL l[k] = true := (nmL_iff _).2 (hL.out _ (List.getElem_mem hkl))
      have hlt' : Lets (bothL [] (l.take k)) := lets_bothL lets_nil0 (fun c hc => hL.out c (List.mem_of_mem_take hc))
      have HC := Lib.hid (HW.out (bothL [] (l.take k)) hlt' l[k] hc)
      have e : bothL [] (l.take (k + 1)) = addL (bothL [] (l.take k)) l[k] := by unfold bothL; rw [List.take_succ_eq_append_getElem hkl, List.foldl_append]; rfl
      have hX' : Hid (setN (addL (bothL [] (l.take k)) l[k]) = setN (bothL [] (l.take (k + 1)))) := by show _ = _; rw [e]
      rw [← hX.out] at HC
      obtain ⟨Y, hY⟩ : ∃ Y, Y = setN (addL (bothL [] (l.take k)) l[k]) := ⟨_, rfl⟩
      rw [← hY] at HC hX'
      obtain ⟨cc, hcc⟩ : ∃ cc : Int, cc = (l[k].toNat : Int) := ⟨_, rfl⟩
      rw [← hcc] at HC c1
      clear hY hcc e hlt' hc
      go_wp2_with fail
      with_reducible refine (HC.out _).mono ?_
      rintro e w' ⟨rfl, rfl⟩
      go_wp2_with fail
      go_round
      case rel => exact ⟨Y, k + 1, by omega, rfl, by go_num, hX'⟩
      case measure => simp [intOf]; omega
    · obtain rfl : k = n := by omega
      have HE : Hid (X = setN (bothL [] l)) := by
        have := hX.out
        rw [List.take_of_length_le (by rw [← HN.out]; exact Nat.le_refl _)] at this
        exact this
      go_wp2_with fail
      go_ret
      exact ⟨by rw [← HE.out]; rfl, rfl⟩

set_option maxHeartbeats 1000000 in
theorem ff_yes (X : Nat) (L : List UInt8) (hX : X = setN L) (h : Lets L) (n : Nat) (z : Int) (hz : z = (n : Int)) (h0 : 0 < n) (hn : n ≤ (othL L).length) (w : World) :
    Calls Tryd.prog 56 #[.int .u32 (X : Int), .int .i64 z] w fun e w' => ∃ g, e = .returned (.slice (some ⟨g, 0, none⟩) n n) ∧ BRow w' g ((othL L).take n) ∧ Below w.heap.size w w' := by
  subst hz
  have HO := Lib.hid (others_set L h w)
  have h26 : (othL L).length ≤ 26 := by unfold othL; refine Nat.le_trans (List.length_filter_le _ _) ?_; rw [List.length_map, List.length_range]; exact Nat.le_refl _
  obtain ⟨m, hm⟩ : ∃ m, m = (othL L).length := ⟨_, rfl⟩
  rw [← hm] at HO h26 hn
  have HM := Lib.hid hm
  rw [← hX] at HO
  have HX := Lib.hid hX
  clear hX hm
  go_enter Tryd.func56, Tryd.ntmps56
  go_wp2_with fail
  with_reducible refine (HO.out).mono ?_
  rintro e w1 ⟨v, rfl, ho, b1⟩
  obtain ⟨p, cap, rfl⟩ := cd_form ho
  obtain ⟨g, rfl, hcap, hl, hb⟩ := brow_own ho (by omega) (by omega)
  have HB := Lib.hid hb
  have hge : decide ((n : Int) ≤ (m : Int)) = true := decide_eq_true (by omega)
  have hge2 : (n : Int) ≤ (m : Int) := by omega
  have h00 : (0 : Int) ≤ (n : Int) := by omega
  have hcap2 : (n : Int) ≤ (cap : Int) := by omega
  clear ho hb hl
  go_wp2_with fail
  with_reducible refine (ensure_yes _).mono ?_
  rintro e w' ⟨rfl, rfl⟩
  go_wp2_with fail
  go_ret
  exact ⟨_, rfl, HB.out.take n, b1⟩
set_option maxHeartbeats 1000000 in
theorem ff_no (X : Nat) (L : List UInt8) (hX : X = setN L) (h : Lets L) (n : Nat) (z : Int) (hz : z = (n : Int)) (hn : (othL L).length < n) (h26 : n ≤ 26) (w : World) :
    Calls Tryd.prog 56 #[.int .u32 (X : Int), .int .i64 z] w fun e w' => e = failed ∧ Below w.heap.size w w' := by
  subst hz
  have HO := Lib.hid (others_set L h w)
  obtain ⟨m, hm⟩ : ∃ m, m = (othL L).length := ⟨_, rfl⟩
  rw [← hm] at HO hn
  rw [← hX] at HO
  clear hX hm
  go_enter Tryd.func56, Tryd.ntmps56
  go_wp2_with fail
  with_reducible refine (HO.out).mono ?_
  rintro e w1 ⟨v, rfl, ho, b1⟩
  obtain ⟨p, cap, rfl⟩ := cd_form ho
  have hge2 : decide (n ≤ m) = false := decide_eq_false (by omega)
  clear ho
  go_wp2_with fail
  with_reducible refine (ensure_no _).mono ?_
  rintro e w' ⟨rfl, rfl⟩
  exact ⟨rfl, rfl, b1⟩

theorem or_set (l m : List UInt8) (h : Lets l) (k : Lets m) : bits .or .u32 ((setN l : Nat) : Int) ((setN m : Nat) : Int) = ((setN (bothL l m) : Nat) : Int) := by
  rw [or32 _ _ (setN_lt32 l h) (setN_lt32 m k), setN_bothL h k]
theorem lets_taken {a : UInt8} {l : List UInt8} {p : Tm} (ha : nmL a = true) (hl : Lets l) (hp : p.ok nmL = true) : Lets (takenT a l p) :=
  lets_addL (lets_bothL (lets_free p hp) (lets_bothL lets_nil0 hl)) ((nmL_iff a).1 ha)

set_option maxHeartbeats 1000000 in
theorem lf_yes (a : UInt8) (l : List UInt8) (p : Tm) (ha : nmL a = true) (hl : Lets l) (hp : p.ok nmL = true) (n : Nat) (hn : n = l.length) (g cap : Nat) (w : World) (hr : BRow w g l) (hw : nmL (linkN a l p) = true) :
    Calls Tryd.prog 34 #[.int .u8 (a.toNat : Int), .slice (some ⟨g, 0, none⟩) n cap, .iface (tyOf p) (pay p)] w fun e w' => e = .returned (.int .u8 ((linkN a l p).toNat : Int)) ∧ Below w.heap.size w w' := by
  obtain ⟨c, r, ho, hc⟩ : ∃ c r, othL (takenT a l p) = c :: r ∧ linkN a l p = c := by
    rw [linkN_eq] at hw ⊢
    rcases fresh_oth (takenT a l p) with ⟨c, r, h1, h2, _⟩ | ⟨h1, _⟩
    · exact ⟨c, r, h1, h2⟩
    · rw [fresh_none h1] at hw; cases hw
  have HF := Lib.hid (freeNames_any p hp)
  have HS := Lib.hid (fun w1 (b : Below w.heap.size w w1) => setOf_any l hl n hn g cap w1 (hr.below b))
  have HW := Lib.hid (with_set (bothL p.free (bothL [] l)) (lets_bothL (lets_free p hp) (lets_bothL lets_nil0 hl)) a ha)
  have HFF := Lib.hid (fun w1 => ff_yes (setN (takenT a l p)) _ rfl (lets_taken ha hl hp) 1 1 rfl (by omega) (by rw [ho]; simp) w1)
  have HO := Lib.hid (or_set p.free (bothL [] l) (lets_free p hp) (lets_bothL lets_nil0 hl))
  have ht : (othL (takenT a l p)).take 1 = [c] := by rw [ho]; rfl
  rw [ht] at HFF
  rw [hc]
  obtain ⟨aa, haa⟩ : ∃ aa : Int, aa = (a.toNat : Int) := ⟨_, rfl⟩
  obtain ⟨x1, h1⟩ : ∃ x, x = setN p.free := ⟨_, rfl⟩
  obtain ⟨x2, h2⟩ : ∃ x, x = setN (bothL [] l) := ⟨_, rfl⟩
  obtain ⟨x3, h3⟩ : ∃ x, x = setN (bothL p.free (bothL [] l)) := ⟨_, rfl⟩
  have e4 : setN (addL (bothL p.free (bothL [] l)) a) = setN (takenT a l p) := rfl
  rw [e4] at HW
  obtain ⟨x4, h4⟩ : ∃ x, x = setN (takenT a l p) := ⟨_, rfl⟩
  obtain ⟨T, hT⟩ : ∃ T, T = tyOf p := ⟨_, rfl⟩
  obtain ⟨V, hV⟩ : ∃ V, V = pay p := ⟨_, rfl⟩
  obtain ⟨cc, hcc⟩ : ∃ cc : Int, cc = (c.toNat : Int) := ⟨_, rfl⟩
  rw [← h1, ← hT, ← hV] at HF
  rw [← h2] at HS
  rw [← haa, ← h3, ← h4] at HW
  rw [← h4] at HFF
  rw [← h1, ← h2, ← h3] at HO
  rw [← haa, ← hT, ← hV, ← hcc]
  have HCC := Lib.hid hcc
  clear haa h1 h2 h3 e4 h4 hT hV hcc ht ho hc hw hr hp hl ha hn
  go_enter Tryd.func34, Tryd.ntmps34
  go_wp2_with fail
  with_reducible refine (HF.out _).mono ?_
  rintro e w1 ⟨rfl, b1⟩
  go_wp2_with fail
  with_reducible refine (HS.out _ b1).mono ?_
  rintro e w' ⟨rfl, rfl⟩
  go_wp2_with fail
  rw [HO.out]
  go_wp2_with fail
  with_reducible refine (HW.out _).mono ?_
  rintro e w' ⟨rfl, rfl⟩
  go_wp2_with fail
  with_reducible refine (HFF.out _).mono ?_
  rintro e w2 ⟨g2, rfl, hr2, b2⟩
  have c2 := hr2.2.2 0 (by simp)
  simp only [List.getElem_cons_zero] at c2
  rw [← HCC.out] at c2
  have b3 := cdgo b1 b2
  clear hr2
  go_wp2_with fail
  go_ret
  exact ⟨rfl, b3⟩
set_option maxHeartbeats 1000000 in
theorem lf_no (a : UInt8) (l : List UInt8) (p : Tm) (ha : nmL a = true) (hl : Lets l) (hp : p.ok nmL = true) (n : Nat) (hn : n = l.length) (g cap : Nat) (w : World) (hr : BRow w g l) (hw : nmL (linkN a l p) = false) :
    Calls Tryd.prog 34 #[.int .u8 (a.toNat : Int), .slice (some ⟨g, 0, none⟩) n cap, .iface (tyOf p) (pay p)] w fun e w' => e = failed ∧ Below w.heap.size w w' := by
  have ho : othL (takenT a l p) = [] := by
    rw [linkN_eq] at hw
    cases ho : othL (takenT a l p) with
    | nil => rfl
    | cons c r => rw [fresh_some (by rw [ho]; simp)] at hw; cases hw
  have HF := Lib.hid (freeNames_any p hp)
  have HS := Lib.hid (fun w1 (b : Below w.heap.size w w1) => setOf_any l hl n hn g cap w1 (hr.below b))
  have HW := Lib.hid (with_set (bothL p.free (bothL [] l)) (lets_bothL (lets_free p hp) (lets_bothL lets_nil0 hl)) a ha)
  have HFF := Lib.hid (fun w1 => ff_no (setN (takenT a l p)) _ rfl (lets_taken ha hl hp) 1 1 rfl (by rw [ho]; simp) (by omega) w1)
  have HO := Lib.hid (or_set p.free (bothL [] l) (lets_free p hp) (lets_bothL lets_nil0 hl))
  obtain ⟨aa, haa⟩ : ∃ aa : Int, aa = (a.toNat : Int) := ⟨_, rfl⟩
  obtain ⟨x1, h1⟩ : ∃ x, x = setN p.free := ⟨_, rfl⟩
  obtain ⟨x2, h2⟩ : ∃ x, x = setN (bothL [] l) := ⟨_, rfl⟩
  obtain ⟨x3, h3⟩ : ∃ x, x = setN (bothL p.free (bothL [] l)) := ⟨_, rfl⟩
  have e4 : setN (addL (bothL p.free (bothL [] l)) a) = setN (takenT a l p) := rfl
  rw [e4] at HW
  obtain ⟨x4, h4⟩ : ∃ x, x = setN (takenT a l p) := ⟨_, rfl⟩
  obtain ⟨T, hT⟩ : ∃ T, T = tyOf p := ⟨_, rfl⟩
  obtain ⟨V, hV⟩ : ∃ V, V = pay p := ⟨_, rfl⟩
  rw [← h1, ← hT, ← hV] at HF
  rw [← h2] at HS
  rw [← haa, ← h3, ← h4] at HW
  rw [← h4] at HFF
  rw [← h1, ← h2, ← h3] at HO
  rw [← haa, ← hT, ← hV]
  clear haa h1 h2 h3 e4 h4 hT hV ho hw hr hp hl ha hn
  go_enter Tryd.func34, Tryd.ntmps34
  go_wp2_with fail
  with_reducible refine (HF.out _).mono ?_
  rintro e w1 ⟨rfl, b1⟩
  go_wp2_with fail
  with_reducible refine (HS.out _ b1).mono ?_
  rintro e w' ⟨rfl, rfl⟩
  go_wp2_with fail
  rw [HO.out]
  go_wp2_with fail
  with_reducible refine (HW.out _).mono ?_
  rintro e w' ⟨rfl, rfl⟩
  go_wp2_with fail
  with_reducible refine (HFF.out _).mono ?_
  rintro e w2 ⟨rfl, b2⟩
  exact ⟨rfl, rfl, cdgo b1 b2⟩
end Go.Proofs.YtinkioodkgccjaaDoor.T1
