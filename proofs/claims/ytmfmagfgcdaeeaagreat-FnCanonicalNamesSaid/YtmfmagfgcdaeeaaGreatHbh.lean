/- Texts of the proof, put together: Ja. No conditions. -/
import Derived.Test.YtmfmagfgcdaeeaaGreatHap
import Derived.Test.YtmfmagfgcdaeeaaGreatHar
import Derived.Test.YtmfmagfgcdaeeaaGreatHaw
import Derived.Test.YtmfmagfgcdaeeaaGreatHay
import Derived.Deep.RegionWith

/- A process simplified: in the program. -/
namespace Go.Proofs.YtmfmagfgcdaeeaaGreat.T1
open Go.RowKit
set_option maxRecDepth 100000
set_option linter.unusedVariables false
set_option linter.unusedSimpArgs false

theorem u8qS {o m : UInt8} (h : o ≠ m) : (((o.toNat : Nat) : Int) == ((m.toNat : Nat) : Int)) = false := by rw [b8_beq]; exact decide_eq_false h
theorem sim_ok (t : Tm) (h : t.ok nmL = true) : t.sim.ok nmL = true := by
  induction t with
  | nil => rfl
  | snd a b p ih => simp only [Tm.ok, Bool.and_eq_true, Tm.sim] at h ⊢; exact ⟨h.1, ih h.2⟩
  | rcv a b p ih => simp only [Tm.ok, Bool.and_eq_true, Tm.sim] at h ⊢; exact ⟨h.1, ih h.2⟩
  | tau p ih => simp only [Tm.ok, Tm.sim] at h ⊢; exact ih h
  | mat a b p ih =>
    simp only [Tm.ok, Bool.and_eq_true, Tm.sim] at h ⊢
    split
    · exact ih h.2
    · simp only [Tm.ok, Bool.and_eq_true]; exact ⟨h.1, ih h.2⟩
  | rep p ih =>
    simp only [Tm.ok, Tm.sim] at h ⊢
    split
    · exact ih h
    · exact ih h
  | own a p ih =>
    simp only [Tm.ok, Bool.and_eq_true, Tm.sim] at h ⊢
    split
    · simp only [Tm.ok, Bool.and_eq_true]; exact ⟨h.1, ih h.2⟩
    · exact ih h.2
  | sum p q ih ih2 =>
    simp only [Tm.ok, Bool.and_eq_true, Tm.sim] at h ⊢
    split
    · exact ih2 h.2
    · split
      · exact ih h.1
      · simp only [Tm.ok, Bool.and_eq_true]; exact ⟨ih h.1, ih2 h.2⟩
  | par p q ih ih2 =>
    simp only [Tm.ok, Bool.and_eq_true, Tm.sim] at h ⊢
    split
    · exact ih2 h.2
    · split
      · exact ih h.1
      · simp only [Tm.ok, Bool.and_eq_true]; exact ⟨ih h.1, ih2 h.2⟩
set_option maxHeartbeats 1000000 in
theorem wp_nil0 (x : Value) (w : World) : Calls Tryz.prog 119 #[.iface 132 (.agg #[]), x] w fun e w' => e = .returned (.iface 132 (.agg #[])) ∧ Below w.heap.size w w' := by
  go_enter Tryz.func119, Tryz.ntmps119
  go_wp2_with fail
  go_ret
  exact ⟨rfl, Below.refl _ _⟩
theorem row_below0 {w w' : World} {g : Nat} {o : Obj} (h : w.heap[g]? = some o) (k : Below w.heap.size w w') : w'.heap[g]? = some o := (k.block g (lt_of_block h)).trans h
def EncP (t : Tm) (w : World) (e : Ending) (w' : World) : Prop := e = .returned (.iface (tyOf t) (pay t)) ∧ Below w.heap.size w w'

set_option maxHeartbeats 1000000 in
theorem wn_L (T tp tq : TypeId) (V vp vq : Value) (H1 : ∀ w, Calls Tryz.prog 83 #[.iface tp vp] w fun e w' => e = .returned (.bool true) ∧ Below w.heap.size w w') (w : World) : Calls Tryz.prog 177 #[.agg #[.iface tp vp, .iface tq vq], .iface T V] w fun e w' => e = .returned (.iface tq vq) ∧ Below w.heap.size w w' := by
  have H1' := Lib.hid H1
  clear H1
  go_enter Tryz.func177, Tryz.ntmps177
  obtain ⟨W, hW⟩ : ∃ W, W = w.alloc (.cells #[.iface tp vp, .iface tq vq] 90) := ⟨_, rfl⟩
  have hb : W.heap[w.heap.size]? = some (.cells #[.iface tp vp, .iface tq vq] 90 (0, 0)) := by rw [hW]; exact new_block0 _ _
  have bl : Below w.heap.size w W := by rw [hW]; exact (Below.refl _ _).alloc (Nat.le_refl _) _
  have c0 := cellOf2a hb
  have c1 := cellOf2b hb
  have HB := Lib.hid hb
  go_wp2_with fail
  rw [← hW]
  clear hW
  refine (H1'.out _).mono ?_
  rintro e w1 ⟨rfl, b1⟩
  have h1 := row_below0 HB.out b1
  clear c0 c1
  have c0 := cellOf2a h1
  have c1 := cellOf2b h1
  have HB1 := Lib.hid h1
  replace bl := below_go bl b1
  clear h1 b1
  go_wp2_with fail
  go_ret
  exact ⟨rfl, bl⟩

set_option maxHeartbeats 1000000 in
theorem wn_R (T tp tq : TypeId) (V vp vq : Value) (H1 : ∀ w, Calls Tryz.prog 83 #[.iface tp vp] w fun e w' => e = .returned (.bool false) ∧ Below w.heap.size w w') (H2 : ∀ w, Calls Tryz.prog 83 #[.iface tq vq] w fun e w' => e = .returned (.bool true) ∧ Below w.heap.size w w') (w : World) : Calls Tryz.prog 177 #[.agg #[.iface tp vp, .iface tq vq], .iface T V] w fun e w' => e = .returned (.iface tp vp) ∧ Below w.heap.size w w' := by
  have H1' := Lib.hid H1
  have H2' := Lib.hid H2
  clear H1 H2
  go_enter Tryz.func177, Tryz.ntmps177
  obtain ⟨W, hW⟩ : ∃ W, W = w.alloc (.cells #[.iface tp vp, .iface tq vq] 90) := ⟨_, rfl⟩
  have hb : W.heap[w.heap.size]? = some (.cells #[.iface tp vp, .iface tq vq] 90 (0, 0)) := by rw [hW]; exact new_block0 _ _
  have bl : Below w.heap.size w W := by rw [hW]; exact (Below.refl _ _).alloc (Nat.le_refl _) _
  have c0 := cellOf2a hb
  have c1 := cellOf2b hb
  have HB := Lib.hid hb
  go_wp2_with fail
  rw [← hW]
  clear hW
  refine (H1'.out _).mono ?_
  rintro e w1 ⟨rfl, b1⟩
  have h1 := row_below0 HB.out b1
  clear c0 c1
  have c0 := cellOf2a h1
  have c1 := cellOf2b h1
  have HB1 := Lib.hid h1
  replace bl := below_go bl b1
  clear h1 b1
  go_wp2_with fail
  refine (H2'.out _).mono ?_
  rintro e w2 ⟨rfl, b2⟩
  have h1 := row_below0 HB1.out b2
  clear c0 c1
  have c0 := cellOf2a h1
  have c1 := cellOf2b h1
  replace bl := below_go bl b2
  clear h1 b2
  go_wp2_with fail
  go_ret
  exact ⟨rfl, bl⟩

set_option maxHeartbeats 1000000 in
theorem wn_N (T tp tq : TypeId) (V vp vq : Value) (H1 : ∀ w, Calls Tryz.prog 83 #[.iface tp vp] w fun e w' => e = .returned (.bool false) ∧ Below w.heap.size w w') (H2 : ∀ w, Calls Tryz.prog 83 #[.iface tq vq] w fun e w' => e = .returned (.bool false) ∧ Below w.heap.size w w') (w : World) : Calls Tryz.prog 177 #[.agg #[.iface tp vp, .iface tq vq], .iface T V] w fun e w' => e = .returned (.iface T V) ∧ Below w.heap.size w w' := by
  have H1' := Lib.hid H1
  have H2' := Lib.hid H2
  clear H1 H2
  go_enter Tryz.func177, Tryz.ntmps177
  obtain ⟨W, hW⟩ : ∃ W, W = w.alloc (.cells #[.iface tp vp, .iface tq vq] 90) := ⟨_, rfl⟩
  have hb : W.heap[w.heap.size]? = some (.cells #[.iface tp vp, .iface tq vq] 90 (0, 0)) := by rw [hW]; exact new_block0 _ _
  have bl : Below w.heap.size w W := by rw [hW]; exact (Below.refl _ _).alloc (Nat.le_refl _) _
  have c0 := cellOf2a hb
  have c1 := cellOf2b hb
  have HB := Lib.hid hb
  go_wp2_with fail
  rw [← hW]
  clear hW
  refine (H1'.out _).mono ?_
  rintro e w1 ⟨rfl, b1⟩
  have h1 := row_below0 HB.out b1
  clear c0 c1
  have c0 := cellOf2a h1
  have c1 := cellOf2b h1
  have HB1 := Lib.hid h1
  replace bl := below_go bl b1
  clear h1 b1
  go_wp2_with fail
  refine (H2'.out _).mono ?_
  rintro e w2 ⟨rfl, b2⟩
  have h1 := row_below0 HB1.out b2
  clear c0 c1
  have c0 := cellOf2a h1
  have c1 := cellOf2b h1
  replace bl := below_go bl b2
  clear h1 b2
  go_wp2_with fail
  go_ret
  exact ⟨rfl, bl⟩

set_option maxHeartbeats 1000000 in
theorem sm_nil (w : World) : Calls Tryz.prog 158 #[.iface 132 (.agg #[])] w fun e w' => e = .returned (.iface 132 (.agg #[])) ∧ Below w.heap.size w w' := by
  obtain ⟨F, RR, hm, hn, hc, hp⟩ := (parts_fact .nil).pf
  simp only [tyOf, pay, Tm.parts, PartsPost] at hm hn hp
  have HP := Lib.hid hp
  have HW := Lib.hid fun (w : World) => wp_nil0 (.slice none 0 0) w
  clear hp
  go_enter Tryz.func158, Tryz.ntmps158
  go_wp2_with fail
  refine (HP.out _).mono ?_
  rintro e w3 ⟨rfl, bl⟩
  go_wp2_with fail
  refine wp_loop_rounds 1 ?_
  rw [rounds_succ]
  go_wp2_with fail
  refine (HW.out _).mono ?_
  rintro e w4 ⟨rfl, b4⟩
  replace bl := below_go bl b4
  go_wp2_with fail
  go_ret
  exact ⟨rfl, bl⟩

set_option maxHeartbeats 4000000 in
theorem sm_send (T tp tr : TypeId) (V vp vr : Value) (n0 n1 : Int) (hP : ∃ (F : FuncId) (R : Value), (∀ n w, (method (n + 1) T V "loop.example/g01175/impl.parts").run Tryz.prog w = .ok (F, R) w) ∧ (∀ n w, (nilAhead (n + 1) T V "loop.example/g01175/impl.parts").run Tryz.prog w = .ok (some false) w) ∧ (∀ args w, (callFunc F args).run Tryz.prog w = .ok (.enter F args) w) ∧ ∀ w, Calls Tryz.prog F #[R] w fun e w' => ∃ b, e = .returned (.slice (some ⟨b, 0, none⟩) 1 1) ∧ w.heap.size ≤ b ∧ w'.heap[b]? = some (.cells #[.iface tp vp] 43 (0, 0)) ∧ Below w.heap.size w w')
    (IH : ∀ w, Calls Tryz.prog 158 #[.iface tp vp] w fun e w' => e = .returned (.iface tr vr) ∧ Below w.heap.size w w') (HW : ∀ (b : Nat) (w : World), w.cell? ⟨b, 0, none⟩ = some (.iface tr vr) → Calls Tryz.prog 119 #[.iface T V, .slice (some ⟨b, 0, none⟩) 1 1] w fun e w' => e = .returned (.iface 144 (.agg #[.int .u8 n0, .int .u8 n1, .iface tr vr])) ∧ Below w.heap.size w w') (w : World) :
    Calls Tryz.prog 158 #[.iface T V] w fun e w' => e = .returned (.iface 144 (.agg #[.int .u8 n0, .int .u8 n1, .iface tr vr])) ∧ Below w.heap.size w w' := by
  obtain ⟨F, RR, hm, hn, hc, hp⟩ := hP
  have HP := Lib.hid hp
  have IH' := Lib.hid IH
  have HW' := Lib.hid HW
  clear hp IH HW
  go_enter Tryz.func158, Tryz.ntmps158
  go_wp2_with fail
  refine (HP.out _).mono ?_
  rintro e w3 ⟨b, rfl, hb, hh, bl⟩
  have d0 := cellOf1 hh
  have f0 := free_of_one hh
  have g4 := Lib.hid hh
  clear hh
  go_wp2_with fail
  refine wp_loop_rounds 2 ?_
  rw [rounds_succ]
  go_wp2_with fail
  refine (IH'.out _).mono ?_
  rintro e w5 ⟨rfl, b5⟩
  replace bl := below_go bl b5
  have h5 := row_below0 g4.out b5
  clear d0 f0
  have d0 := cellOf1 h5
  have f0 := free_of_one h5
  replace bl := bl.setCell (p := ⟨b, 0, none⟩) (by show w.heap.size ≤ b; omega) (.iface tr vr)
  have e5 := one_setCell (u := .iface tr vr) h5
  have e0 := Lib.hid (cellOf1 e5)
  clear h5 e5
  go_wp2_with fail
  rw [rounds_succ]
  go_wp2_with fail
  refine (HW'.out b _ e0.out).mono ?_
  rintro e w8 ⟨rfl, b8⟩
  replace bl := below_go bl b8
  clear d0 f0 b5 b8
  go_wp2_with fail
  go_ret
  exact ⟨rfl, by first | exact bl | exact bl.alloc bl.size _⟩

set_option maxHeartbeats 4000000 in
theorem sm_receive (T tp tr : TypeId) (V vp vr : Value) (n0 n1 : Int) (hP : ∃ (F : FuncId) (R : Value), (∀ n w, (method (n + 1) T V "loop.example/g01175/impl.parts").run Tryz.prog w = .ok (F, R) w) ∧ (∀ n w, (nilAhead (n + 1) T V "loop.example/g01175/impl.parts").run Tryz.prog w = .ok (some false) w) ∧ (∀ args w, (callFunc F args).run Tryz.prog w = .ok (.enter F args) w) ∧ ∀ w, Calls Tryz.prog F #[R] w fun e w' => ∃ b, e = .returned (.slice (some ⟨b, 0, none⟩) 1 1) ∧ w.heap.size ≤ b ∧ w'.heap[b]? = some (.cells #[.iface tp vp] 43 (0, 0)) ∧ Below w.heap.size w w')
    (IH : ∀ w, Calls Tryz.prog 158 #[.iface tp vp] w fun e w' => e = .returned (.iface tr vr) ∧ Below w.heap.size w w') (HW : ∀ (b : Nat) (w : World), w.cell? ⟨b, 0, none⟩ = some (.iface tr vr) → Calls Tryz.prog 119 #[.iface T V, .slice (some ⟨b, 0, none⟩) 1 1] w fun e w' => e = .returned (.iface 142 (.agg #[.int .u8 n0, .int .u8 n1, .iface tr vr])) ∧ Below w.heap.size w w') (w : World) :
    Calls Tryz.prog 158 #[.iface T V] w fun e w' => e = .returned (.iface 142 (.agg #[.int .u8 n0, .int .u8 n1, .iface tr vr])) ∧ Below w.heap.size w w' := by
  obtain ⟨F, RR, hm, hn, hc, hp⟩ := hP
  have HP := Lib.hid hp
  have IH' := Lib.hid IH
  have HW' := Lib.hid HW
  clear hp IH HW
  go_enter Tryz.func158, Tryz.ntmps158
  go_wp2_with fail
  refine (HP.out _).mono ?_
  rintro e w3 ⟨b, rfl, hb, hh, bl⟩
  have d0 := cellOf1 hh
  have f0 := free_of_one hh
  have g4 := Lib.hid hh
  clear hh
  go_wp2_with fail
  refine wp_loop_rounds 2 ?_
  rw [rounds_succ]
  go_wp2_with fail
  refine (IH'.out _).mono ?_
  rintro e w5 ⟨rfl, b5⟩
  replace bl := below_go bl b5
  have h5 := row_below0 g4.out b5
  clear d0 f0
  have d0 := cellOf1 h5
  have f0 := free_of_one h5
  replace bl := bl.setCell (p := ⟨b, 0, none⟩) (by show w.heap.size ≤ b; omega) (.iface tr vr)
  have e5 := one_setCell (u := .iface tr vr) h5
  have e0 := Lib.hid (cellOf1 e5)
  clear h5 e5
  go_wp2_with fail
  rw [rounds_succ]
  go_wp2_with fail
  refine (HW'.out b _ e0.out).mono ?_
  rintro e w8 ⟨rfl, b8⟩
  replace bl := below_go bl b8
  clear d0 f0 b5 b8
  go_wp2_with fail
  go_ret
  exact ⟨rfl, by first | exact bl | exact bl.alloc bl.size _⟩

set_option maxHeartbeats 4000000 in
theorem sm_silent (T tp tr : TypeId) (V vp vr : Value) (n0 n1 : Int) (hP : ∃ (F : FuncId) (R : Value), (∀ n w, (method (n + 1) T V "loop.example/g01175/impl.parts").run Tryz.prog w = .ok (F, R) w) ∧ (∀ n w, (nilAhead (n + 1) T V "loop.example/g01175/impl.parts").run Tryz.prog w = .ok (some false) w) ∧ (∀ args w, (callFunc F args).run Tryz.prog w = .ok (.enter F args) w) ∧ ∀ w, Calls Tryz.prog F #[R] w fun e w' => ∃ b, e = .returned (.slice (some ⟨b, 0, none⟩) 1 1) ∧ w.heap.size ≤ b ∧ w'.heap[b]? = some (.cells #[.iface tp vp] 43 (0, 0)) ∧ Below w.heap.size w w')
    (IH : ∀ w, Calls Tryz.prog 158 #[.iface tp vp] w fun e w' => e = .returned (.iface tr vr) ∧ Below w.heap.size w w') (HW : ∀ (b : Nat) (w : World), w.cell? ⟨b, 0, none⟩ = some (.iface tr vr) → Calls Tryz.prog 119 #[.iface T V, .slice (some ⟨b, 0, none⟩) 1 1] w fun e w' => e = .returned (.iface 147 (.agg #[.iface tr vr])) ∧ Below w.heap.size w w') (w : World) :
    Calls Tryz.prog 158 #[.iface T V] w fun e w' => e = .returned (.iface 147 (.agg #[.iface tr vr])) ∧ Below w.heap.size w w' := by
  obtain ⟨F, RR, hm, hn, hc, hp⟩ := hP
  have HP := Lib.hid hp
  have IH' := Lib.hid IH
  have HW' := Lib.hid HW
  clear hp IH HW
  go_enter Tryz.func158, Tryz.ntmps158
  go_wp2_with fail
  refine (HP.out _).mono ?_
  rintro e w3 ⟨b, rfl, hb, hh, bl⟩
  have d0 := cellOf1 hh
  have f0 := free_of_one hh
  have g4 := Lib.hid hh
  clear hh
  go_wp2_with fail
  refine wp_loop_rounds 2 ?_
  rw [rounds_succ]
  go_wp2_with fail
  refine (IH'.out _).mono ?_
  rintro e w5 ⟨rfl, b5⟩
  replace bl := below_go bl b5
  have h5 := row_below0 g4.out b5
  clear d0 f0
  have d0 := cellOf1 h5
  have f0 := free_of_one h5
  replace bl := bl.setCell (p := ⟨b, 0, none⟩) (by show w.heap.size ≤ b; omega) (.iface tr vr)
  have e5 := one_setCell (u := .iface tr vr) h5
  have e0 := Lib.hid (cellOf1 e5)
  clear h5 e5
  go_wp2_with fail
  rw [rounds_succ]
  go_wp2_with fail
  refine (HW'.out b _ e0.out).mono ?_
  rintro e w8 ⟨rfl, b8⟩
  replace bl := below_go bl b8
  clear d0 f0 b5 b8
  go_wp2_with fail
  go_ret
  exact ⟨rfl, by first | exact bl | exact bl.alloc bl.size _⟩

set_option maxHeartbeats 4000000 in
theorem sm_ownK (T tp tr : TypeId) (V vp vr : Value) (n0 U : Int) (hP : ∃ (F : FuncId) (R : Value), (∀ n w, (method (n + 1) T V "loop.example/g01175/impl.parts").run Tryz.prog w = .ok (F, R) w) ∧ (∀ n w, (nilAhead (n + 1) T V "loop.example/g01175/impl.parts").run Tryz.prog w = .ok (some false) w) ∧ (∀ args w, (callFunc F args).run Tryz.prog w = .ok (.enter F args) w) ∧ ∀ w, Calls Tryz.prog F #[R] w fun e w' => ∃ b, e = .returned (.slice (some ⟨b, 0, none⟩) 1 1) ∧ w.heap.size ≤ b ∧ w'.heap[b]? = some (.cells #[.iface tp vp] 43 (0, 0)) ∧ Below w.heap.size w w')
    (IH : ∀ w, Calls Tryz.prog 158 #[.iface tp vp] w fun e w' => e = .returned (.iface tr vr) ∧ Below w.heap.size w w') (HW : ∀ (b : Nat) (w : World), w.cell? ⟨b, 0, none⟩ = some (.iface tr vr) → Calls Tryz.prog 119 #[.iface T V, .slice (some ⟨b, 0, none⟩) 1 1] w fun e w' => e = .returned (.iface 100 (.agg #[.int .u8 n0, .iface tr vr])) ∧ Below w.heap.size w w')
    (HF : ∀ w, Calls Tryz.prog 60 #[.iface tr vr] w fun e w' => e = .returned (.int .u32 U) ∧ Below w.heap.size w w')
    (HH : ∀ w, Calls Tryz.prog 133 #[.int .u32 U, .int .u8 n0] w fun e w' => e = .returned (.bool true) ∧ w = w') (w : World) :
    Calls Tryz.prog 158 #[.iface T V] w fun e w' => e = .returned (.iface 100 (.agg #[.int .u8 n0, .iface tr vr])) ∧ Below w.heap.size w w' := by
  obtain ⟨F, RR, hm, hn, hc, hp⟩ := hP
  have HP := Lib.hid hp
  have IH' := Lib.hid IH
  have HW' := Lib.hid HW
  have HF' := Lib.hid HF
  have HH' := Lib.hid HH
  clear hp IH HW HF HH
  go_enter Tryz.func158, Tryz.ntmps158
  go_wp2_with fail
  refine (HP.out _).mono ?_
  rintro e w3 ⟨b, rfl, hb, hh, bl⟩
  have d0 := cellOf1 hh
  have f0 := free_of_one hh
  have g4 := Lib.hid hh
  clear hh
  go_wp2_with fail
  refine wp_loop_rounds 2 ?_
  rw [rounds_succ]
  go_wp2_with fail
  refine (IH'.out _).mono ?_
  rintro e w5 ⟨rfl, b5⟩
  replace bl := below_go bl b5
  have h5 := row_below0 g4.out b5
  clear d0 f0
  have d0 := cellOf1 h5
  have f0 := free_of_one h5
  replace bl := bl.setCell (p := ⟨b, 0, none⟩) (by show w.heap.size ≤ b; omega) (.iface tr vr)
  have e5 := one_setCell (u := .iface tr vr) h5
  have e0 := Lib.hid (cellOf1 e5)
  clear h5 e5
  go_wp2_with fail
  rw [rounds_succ]
  go_wp2_with fail
  refine (HW'.out b _ e0.out).mono ?_
  rintro e w8 ⟨rfl, b8⟩
  replace bl := below_go bl b8
  clear d0 f0 b5 b8
  obtain ⟨W, hW⟩ : ∃ W, W = w8.alloc (.cells #[.int .u8 n0, .iface tr vr] 100) := ⟨_, rfl⟩
  have hbk : W.heap[w8.heap.size]? = some (.cells #[.int .u8 n0, .iface tr vr] 100 (0, 0)) := by rw [hW]; exact new_block0 _ _
  have blW : Below w.heap.size w W := by rw [hW]; exact bl.alloc bl.size _
  have Hbk := Lib.hid hbk
  have k0 : W.cell? ⟨w8.heap.size, 0, none⟩ = some (.int .u8 n0) := by simp [World.cell?, hbk]
  have k1 : W.cell? ⟨w8.heap.size, 1, none⟩ = some (.iface tr vr) := by simp [World.cell?, hbk]
  clear hbk
  have hlW : w8.heap.size < W.heap.size := by rw [hW]; simp
  go_wp2_with fail
  rw [← hW]
  clear hW
  go_region_with (first
    | (go_at_call 60; (with_reducible refine (HF'.out _).mono ?_); rintro e v1 ⟨rfl, d1⟩; have r0 := (d1.cell (p := ⟨w8.heap.size, 0, none⟩) hlW).trans k0; have r1 := (d1.cell (p := ⟨w8.heap.size, 1, none⟩) hlW).trans k1; have B1 : Below w.heap.size w v1 := (by first | exact below_go blW d1 | exact below_go blW.drew d1))
    | (go_at_call 133; (with_reducible refine (HH'.out _).mono ?_); rintro e v2 ⟨rfl, rfl⟩)
    | fail)
  all_goals clear bl
  all_goals have bl := B1
  all_goals go_wp2_with fail
  all_goals go_ret
  all_goals exact ⟨rfl, by first | exact bl | exact bl.drew⟩

set_option maxHeartbeats 4000000 in
theorem sm_ownD (T tp tr : TypeId) (V vp vr : Value) (n0 U : Int) (hP : ∃ (F : FuncId) (R : Value), (∀ n w, (method (n + 1) T V "loop.example/g01175/impl.parts").run Tryz.prog w = .ok (F, R) w) ∧ (∀ n w, (nilAhead (n + 1) T V "loop.example/g01175/impl.parts").run Tryz.prog w = .ok (some false) w) ∧ (∀ args w, (callFunc F args).run Tryz.prog w = .ok (.enter F args) w) ∧ ∀ w, Calls Tryz.prog F #[R] w fun e w' => ∃ b, e = .returned (.slice (some ⟨b, 0, none⟩) 1 1) ∧ w.heap.size ≤ b ∧ w'.heap[b]? = some (.cells #[.iface tp vp] 43 (0, 0)) ∧ Below w.heap.size w w')
    (IH : ∀ w, Calls Tryz.prog 158 #[.iface tp vp] w fun e w' => e = .returned (.iface tr vr) ∧ Below w.heap.size w w') (HW : ∀ (b : Nat) (w : World), w.cell? ⟨b, 0, none⟩ = some (.iface tr vr) → Calls Tryz.prog 119 #[.iface T V, .slice (some ⟨b, 0, none⟩) 1 1] w fun e w' => e = .returned (.iface 100 (.agg #[.int .u8 n0, .iface tr vr])) ∧ Below w.heap.size w w')
    (HF : ∀ w, Calls Tryz.prog 60 #[.iface tr vr] w fun e w' => e = .returned (.int .u32 U) ∧ Below w.heap.size w w')
    (HH : ∀ w, Calls Tryz.prog 133 #[.int .u32 U, .int .u8 n0] w fun e w' => e = .returned (.bool false) ∧ w = w') (w : World) :
    Calls Tryz.prog 158 #[.iface T V] w fun e w' => e = .returned (.iface tr vr) ∧ Below w.heap.size w w' := by
  obtain ⟨F, RR, hm, hn, hc, hp⟩ := hP
  have HP := Lib.hid hp
  have IH' := Lib.hid IH
  have HW' := Lib.hid HW
  have HF' := Lib.hid HF
  have HH' := Lib.hid HH
  clear hp IH HW HF HH
  go_enter Tryz.func158, Tryz.ntmps158
  go_wp2_with fail
  refine (HP.out _).mono ?_
  rintro e w3 ⟨b, rfl, hb, hh, bl⟩
  have d0 := cellOf1 hh
  have f0 := free_of_one hh
  have g4 := Lib.hid hh
  clear hh
  go_wp2_with fail
  refine wp_loop_rounds 2 ?_
  rw [rounds_succ]
  go_wp2_with fail
  refine (IH'.out _).mono ?_
  rintro e w5 ⟨rfl, b5⟩
  replace bl := below_go bl b5
  have h5 := row_below0 g4.out b5
  clear d0 f0
  have d0 := cellOf1 h5
  have f0 := free_of_one h5
  replace bl := bl.setCell (p := ⟨b, 0, none⟩) (by show w.heap.size ≤ b; omega) (.iface tr vr)
  have e5 := one_setCell (u := .iface tr vr) h5
  have e0 := Lib.hid (cellOf1 e5)
  clear h5 e5
  go_wp2_with fail
  rw [rounds_succ]
  go_wp2_with fail
  refine (HW'.out b _ e0.out).mono ?_
  rintro e w8 ⟨rfl, b8⟩
  replace bl := below_go bl b8
  clear d0 f0 b5 b8
  obtain ⟨W, hW⟩ : ∃ W, W = w8.alloc (.cells #[.int .u8 n0, .iface tr vr] 100) := ⟨_, rfl⟩
  have hbk : W.heap[w8.heap.size]? = some (.cells #[.int .u8 n0, .iface tr vr] 100 (0, 0)) := by rw [hW]; exact new_block0 _ _
  have blW : Below w.heap.size w W := by rw [hW]; exact bl.alloc bl.size _
  have Hbk := Lib.hid hbk
  have k0 : W.cell? ⟨w8.heap.size, 0, none⟩ = some (.int .u8 n0) := by simp [World.cell?, hbk]
  have k1 : W.cell? ⟨w8.heap.size, 1, none⟩ = some (.iface tr vr) := by simp [World.cell?, hbk]
  clear hbk
  have hlW : w8.heap.size < W.heap.size := by rw [hW]; simp
  go_wp2_with fail
  rw [← hW]
  clear hW
  go_region_with (first
    | (go_at_call 60; (with_reducible refine (HF'.out _).mono ?_); rintro e v1 ⟨rfl, d1⟩; have r0 := (d1.cell (p := ⟨w8.heap.size, 0, none⟩) hlW).trans k0; have r1 := (d1.cell (p := ⟨w8.heap.size, 1, none⟩) hlW).trans k1; have B1 : Below w.heap.size w v1 := (by first | exact below_go blW d1 | exact below_go blW.drew d1))
    | (go_at_call 133; (with_reducible refine (HH'.out _).mono ?_); rintro e v2 ⟨rfl, rfl⟩)
    | fail)
  all_goals clear bl
  all_goals have bl := B1
  all_goals go_wp2_with fail
  all_goals go_ret
  all_goals exact ⟨rfl, by first | exact bl | exact bl.drew⟩

set_option maxHeartbeats 4000000 in
theorem sm_matE (T tp tr : TypeId) (V vp vr : Value) (n0 n1 : Int) (heq : (n0 == n1) = true) (hP : ∃ (F : FuncId) (R : Value), (∀ n w, (method (n + 1) T V "loop.example/g01175/impl.parts").run Tryz.prog w = .ok (F, R) w) ∧ (∀ n w, (nilAhead (n + 1) T V "loop.example/g01175/impl.parts").run Tryz.prog w = .ok (some false) w) ∧ (∀ args w, (callFunc F args).run Tryz.prog w = .ok (.enter F args) w) ∧ ∀ w, Calls Tryz.prog F #[R] w fun e w' => ∃ b, e = .returned (.slice (some ⟨b, 0, none⟩) 1 1) ∧ w.heap.size ≤ b ∧ w'.heap[b]? = some (.cells #[.iface tp vp] 43 (0, 0)) ∧ Below w.heap.size w w')
    (IH : ∀ w, Calls Tryz.prog 158 #[.iface tp vp] w fun e w' => e = .returned (.iface tr vr) ∧ Below w.heap.size w w') (HW : ∀ (b : Nat) (w : World), w.cell? ⟨b, 0, none⟩ = some (.iface tr vr) → Calls Tryz.prog 119 #[.iface T V, .slice (some ⟨b, 0, none⟩) 1 1] w fun e w' => e = .returned (.iface 146 (.agg #[.int .u8 n0, .int .u8 n1, .iface tr vr])) ∧ Below w.heap.size w w') (w : World) :
    Calls Tryz.prog 158 #[.iface T V] w fun e w' => e = .returned (.iface tr vr) ∧ Below w.heap.size w w' := by
  obtain ⟨F, RR, hm, hn, hc, hp⟩ := hP
  have HP := Lib.hid hp
  have IH' := Lib.hid IH
  have HW' := Lib.hid HW
  clear hp IH HW
  go_enter Tryz.func158, Tryz.ntmps158
  go_wp2_with fail
  refine (HP.out _).mono ?_
  rintro e w3 ⟨b, rfl, hb, hh, bl⟩
  have d0 := cellOf1 hh
  have f0 := free_of_one hh
  have g4 := Lib.hid hh
  clear hh
  go_wp2_with fail
  refine wp_loop_rounds 2 ?_
  rw [rounds_succ]
  go_wp2_with fail
  refine (IH'.out _).mono ?_
  rintro e w5 ⟨rfl, b5⟩
  replace bl := below_go bl b5
  have h5 := row_below0 g4.out b5
  clear d0 f0
  have d0 := cellOf1 h5
  have f0 := free_of_one h5
  replace bl := bl.setCell (p := ⟨b, 0, none⟩) (by show w.heap.size ≤ b; omega) (.iface tr vr)
  have e5 := one_setCell (u := .iface tr vr) h5
  have e0 := Lib.hid (cellOf1 e5)
  clear h5 e5
  go_wp2_with fail
  rw [rounds_succ]
  go_wp2_with fail
  refine (HW'.out b _ e0.out).mono ?_
  rintro e w8 ⟨rfl, b8⟩
  replace bl := below_go bl b8
  clear d0 f0 b5 b8
  go_wp2_with fail
  go_ret
  exact ⟨rfl, by first | exact bl | exact bl.alloc bl.size _⟩

set_option maxHeartbeats 4000000 in
theorem sm_matN (T tp tr : TypeId) (V vp vr : Value) (n0 n1 : Int) (heq : (n0 == n1) = false) (hP : ∃ (F : FuncId) (R : Value), (∀ n w, (method (n + 1) T V "loop.example/g01175/impl.parts").run Tryz.prog w = .ok (F, R) w) ∧ (∀ n w, (nilAhead (n + 1) T V "loop.example/g01175/impl.parts").run Tryz.prog w = .ok (some false) w) ∧ (∀ args w, (callFunc F args).run Tryz.prog w = .ok (.enter F args) w) ∧ ∀ w, Calls Tryz.prog F #[R] w fun e w' => ∃ b, e = .returned (.slice (some ⟨b, 0, none⟩) 1 1) ∧ w.heap.size ≤ b ∧ w'.heap[b]? = some (.cells #[.iface tp vp] 43 (0, 0)) ∧ Below w.heap.size w w')
    (IH : ∀ w, Calls Tryz.prog 158 #[.iface tp vp] w fun e w' => e = .returned (.iface tr vr) ∧ Below w.heap.size w w') (HW : ∀ (b : Nat) (w : World), w.cell? ⟨b, 0, none⟩ = some (.iface tr vr) → Calls Tryz.prog 119 #[.iface T V, .slice (some ⟨b, 0, none⟩) 1 1] w fun e w' => e = .returned (.iface 146 (.agg #[.int .u8 n0, .int .u8 n1, .iface tr vr])) ∧ Below w.heap.size w w')
    (HN : ∀ w, Calls Tryz.prog 83 #[.iface tr vr] w fun e w' => e = .returned (.bool true) ∧ Below w.heap.size w w') (w : World) :
    Calls Tryz.prog 158 #[.iface T V] w fun e w' => e = .returned (.iface tr vr) ∧ Below w.heap.size w w' := by
  obtain ⟨F, RR, hm, hn, hc, hp⟩ := hP
  have HP := Lib.hid hp
  have IH' := Lib.hid IH
  have HW' := Lib.hid HW
  have HN' := Lib.hid HN
  clear hp IH HW HN
  go_enter Tryz.func158, Tryz.ntmps158
  go_wp2_with fail
  refine (HP.out _).mono ?_
  rintro e w3 ⟨b, rfl, hb, hh, bl⟩
  have d0 := cellOf1 hh
  have f0 := free_of_one hh
  have g4 := Lib.hid hh
  clear hh
  go_wp2_with fail
  refine wp_loop_rounds 2 ?_
  rw [rounds_succ]
  go_wp2_with fail
  refine (IH'.out _).mono ?_
  rintro e w5 ⟨rfl, b5⟩
  replace bl := below_go bl b5
  have h5 := row_below0 g4.out b5
  clear d0 f0
  have d0 := cellOf1 h5
  have f0 := free_of_one h5
  replace bl := bl.setCell (p := ⟨b, 0, none⟩) (by show w.heap.size ≤ b; omega) (.iface tr vr)
  have e5 := one_setCell (u := .iface tr vr) h5
  have e0 := Lib.hid (cellOf1 e5)
  clear h5 e5
  go_wp2_with fail
  rw [rounds_succ]
  go_wp2_with fail
  refine (HW'.out b _ e0.out).mono ?_
  rintro e w8 ⟨rfl, b8⟩
  replace bl := below_go bl b8
  clear d0 f0 b5 b8
  obtain ⟨W, hW⟩ : ∃ W, W = w8.alloc (.cells #[.int .u8 n0, .int .u8 n1, .iface tr vr] 146) := ⟨_, rfl⟩
  have hbk : W.heap[w8.heap.size]? = some (.cells #[.int .u8 n0, .int .u8 n1, .iface tr vr] 146 (0, 0)) := by rw [hW]; exact new_block0 _ _
  have blW : Below w.heap.size w W := by rw [hW]; exact bl.alloc bl.size _
  have Hbk := Lib.hid hbk
  have k0 : W.cell? ⟨w8.heap.size, 0, none⟩ = some (.int .u8 n0) := by simp [World.cell?, hbk]
  have k1 : W.cell? ⟨w8.heap.size, 1, none⟩ = some (.int .u8 n1) := by simp [World.cell?, hbk]
  have k2 : W.cell? ⟨w8.heap.size, 2, none⟩ = some (.iface tr vr) := by simp [World.cell?, hbk]
  clear hbk
  go_wp2_with fail
  rw [← hW]
  clear hW
  refine (HN'.out _).mono ?_
  rintro e v1 ⟨rfl, d1⟩
  have h1 := row_below0 Hbk.out d1
  have r2 : v1.cell? ⟨w8.heap.size, 2, none⟩ = some (.iface tr vr) := by simp [World.cell?, h1]
  replace bl := below_go blW d1
  clear k0 k1 k2 blW h1 d1
  go_wp2_with fail
  go_ret
  exact ⟨rfl, by first | exact bl | exact bl.alloc bl.size _⟩

set_option maxHeartbeats 4000000 in
theorem sm_matK (T tp tr : TypeId) (V vp vr : Value) (n0 n1 : Int) (heq : (n0 == n1) = false) (hP : ∃ (F : FuncId) (R : Value), (∀ n w, (method (n + 1) T V "loop.example/g01175/impl.parts").run Tryz.prog w = .ok (F, R) w) ∧ (∀ n w, (nilAhead (n + 1) T V "loop.example/g01175/impl.parts").run Tryz.prog w = .ok (some false) w) ∧ (∀ args w, (callFunc F args).run Tryz.prog w = .ok (.enter F args) w) ∧ ∀ w, Calls Tryz.prog F #[R] w fun e w' => ∃ b, e = .returned (.slice (some ⟨b, 0, none⟩) 1 1) ∧ w.heap.size ≤ b ∧ w'.heap[b]? = some (.cells #[.iface tp vp] 43 (0, 0)) ∧ Below w.heap.size w w')
    (IH : ∀ w, Calls Tryz.prog 158 #[.iface tp vp] w fun e w' => e = .returned (.iface tr vr) ∧ Below w.heap.size w w') (HW : ∀ (b : Nat) (w : World), w.cell? ⟨b, 0, none⟩ = some (.iface tr vr) → Calls Tryz.prog 119 #[.iface T V, .slice (some ⟨b, 0, none⟩) 1 1] w fun e w' => e = .returned (.iface 146 (.agg #[.int .u8 n0, .int .u8 n1, .iface tr vr])) ∧ Below w.heap.size w w')
    (HN : ∀ w, Calls Tryz.prog 83 #[.iface tr vr] w fun e w' => e = .returned (.bool false) ∧ Below w.heap.size w w') (w : World) :
    Calls Tryz.prog 158 #[.iface T V] w fun e w' => e = .returned (.iface 146 (.agg #[.int .u8 n0, .int .u8 n1, .iface tr vr])) ∧ Below w.heap.size w w' := by
  obtain ⟨F, RR, hm, hn, hc, hp⟩ := hP
  have HP := Lib.hid hp
  have IH' := Lib.hid IH
  have HW' := Lib.hid HW
  have HN' := Lib.hid HN
  clear hp IH HW HN
  go_enter Tryz.func158, Tryz.ntmps158
  go_wp2_with fail
  refine (HP.out _).mono ?_
  rintro e w3 ⟨b, rfl, hb, hh, bl⟩
  have d0 := cellOf1 hh
  have f0 := free_of_one hh
  have g4 := Lib.hid hh
  clear hh
  go_wp2_with fail
  refine wp_loop_rounds 2 ?_
  rw [rounds_succ]
  go_wp2_with fail
  refine (IH'.out _).mono ?_
  rintro e w5 ⟨rfl, b5⟩
  replace bl := below_go bl b5
  have h5 := row_below0 g4.out b5
  clear d0 f0
  have d0 := cellOf1 h5
  have f0 := free_of_one h5
  replace bl := bl.setCell (p := ⟨b, 0, none⟩) (by show w.heap.size ≤ b; omega) (.iface tr vr)
  have e5 := one_setCell (u := .iface tr vr) h5
  have e0 := Lib.hid (cellOf1 e5)
  clear h5 e5
  go_wp2_with fail
  rw [rounds_succ]
  go_wp2_with fail
  refine (HW'.out b _ e0.out).mono ?_
  rintro e w8 ⟨rfl, b8⟩
  replace bl := below_go bl b8
  clear d0 f0 b5 b8
  obtain ⟨W, hW⟩ : ∃ W, W = w8.alloc (.cells #[.int .u8 n0, .int .u8 n1, .iface tr vr] 146) := ⟨_, rfl⟩
  have hbk : W.heap[w8.heap.size]? = some (.cells #[.int .u8 n0, .int .u8 n1, .iface tr vr] 146 (0, 0)) := by rw [hW]; exact new_block0 _ _
  have blW : Below w.heap.size w W := by rw [hW]; exact bl.alloc bl.size _
  have Hbk := Lib.hid hbk
  have k0 : W.cell? ⟨w8.heap.size, 0, none⟩ = some (.int .u8 n0) := by simp [World.cell?, hbk]
  have k1 : W.cell? ⟨w8.heap.size, 1, none⟩ = some (.int .u8 n1) := by simp [World.cell?, hbk]
  have k2 : W.cell? ⟨w8.heap.size, 2, none⟩ = some (.iface tr vr) := by simp [World.cell?, hbk]
  clear hbk
  go_wp2_with fail
  rw [← hW]
  clear hW
  refine (HN'.out _).mono ?_
  rintro e v1 ⟨rfl, d1⟩
  have h1 := row_below0 Hbk.out d1
  have r2 : v1.cell? ⟨w8.heap.size, 2, none⟩ = some (.iface tr vr) := by simp [World.cell?, h1]
  replace bl := below_go blW d1
  clear k0 k1 k2 blW h1 d1
  go_wp2_with fail
  go_ret
  exact ⟨rfl, by first | exact bl | exact bl.alloc bl.size _⟩

set_option maxHeartbeats 4000000 in
theorem sm_repN (T tp tr : TypeId) (V vp vr : Value)  (hP : ∃ (F : FuncId) (R : Value), (∀ n w, (method (n + 1) T V "loop.example/g01175/impl.parts").run Tryz.prog w = .ok (F, R) w) ∧ (∀ n w, (nilAhead (n + 1) T V "loop.example/g01175/impl.parts").run Tryz.prog w = .ok (some false) w) ∧ (∀ args w, (callFunc F args).run Tryz.prog w = .ok (.enter F args) w) ∧ ∀ w, Calls Tryz.prog F #[R] w fun e w' => ∃ b, e = .returned (.slice (some ⟨b, 0, none⟩) 1 1) ∧ w.heap.size ≤ b ∧ w'.heap[b]? = some (.cells #[.iface tp vp] 43 (0, 0)) ∧ Below w.heap.size w w')
    (IH : ∀ w, Calls Tryz.prog 158 #[.iface tp vp] w fun e w' => e = .returned (.iface tr vr) ∧ Below w.heap.size w w') (HW : ∀ (b : Nat) (w : World), w.cell? ⟨b, 0, none⟩ = some (.iface tr vr) → Calls Tryz.prog 119 #[.iface T V, .slice (some ⟨b, 0, none⟩) 1 1] w fun e w' => e = .returned (.iface 103 (.agg #[.iface tr vr])) ∧ Below w.heap.size w w')
    (HN : ∀ w, Calls Tryz.prog 83 #[.iface tr vr] w fun e w' => e = .returned (.bool true) ∧ Below w.heap.size w w') (w : World) :
    Calls Tryz.prog 158 #[.iface T V] w fun e w' => e = .returned (.iface tr vr) ∧ Below w.heap.size w w' := by
  obtain ⟨F, RR, hm, hn, hc, hp⟩ := hP
  have HP := Lib.hid hp
  have IH' := Lib.hid IH
  have HW' := Lib.hid HW
  have HN' := Lib.hid HN
  clear hp IH HW HN
  go_enter Tryz.func158, Tryz.ntmps158
  go_wp2_with fail
  refine (HP.out _).mono ?_
  rintro e w3 ⟨b, rfl, hb, hh, bl⟩
  have d0 := cellOf1 hh
  have f0 := free_of_one hh
  have g4 := Lib.hid hh
  clear hh
  go_wp2_with fail
  refine wp_loop_rounds 2 ?_
  rw [rounds_succ]
  go_wp2_with fail
  refine (IH'.out _).mono ?_
  rintro e w5 ⟨rfl, b5⟩
  replace bl := below_go bl b5
  have h5 := row_below0 g4.out b5
  clear d0 f0
  have d0 := cellOf1 h5
  have f0 := free_of_one h5
  replace bl := bl.setCell (p := ⟨b, 0, none⟩) (by show w.heap.size ≤ b; omega) (.iface tr vr)
  have e5 := one_setCell (u := .iface tr vr) h5
  have e0 := Lib.hid (cellOf1 e5)
  clear h5 e5
  go_wp2_with fail
  rw [rounds_succ]
  go_wp2_with fail
  refine (HW'.out b _ e0.out).mono ?_
  rintro e w8 ⟨rfl, b8⟩
  replace bl := below_go bl b8
  clear d0 f0 b5 b8
  obtain ⟨W, hW⟩ : ∃ W, W = w8.alloc (.cells #[.iface tr vr] 103) := ⟨_, rfl⟩
  have hbk : W.heap[w8.heap.size]? = some (.cells #[.iface tr vr] 103 (0, 0)) := by rw [hW]; exact new_block0 _ _
  have blW : Below w.heap.size w W := by rw [hW]; exact bl.alloc bl.size _
  have Hbk := Lib.hid hbk
  have k0 : W.cell? ⟨w8.heap.size, 0, none⟩ = some (.iface tr vr) := by simp [World.cell?, hbk]
  clear hbk
  go_wp2_with fail
  rw [← hW]
  clear hW
  refine (HN'.out _).mono ?_
  rintro e v1 ⟨rfl, d1⟩
  have h1 := row_below0 Hbk.out d1
  have r2 : v1.cell? ⟨w8.heap.size, 0, none⟩ = some (.iface tr vr) := by simp [World.cell?, h1]
  replace bl := below_go blW d1
  clear k0 blW h1 d1
  go_wp2_with fail
  go_ret
  exact ⟨rfl, by first | exact bl | exact bl.alloc bl.size _⟩

set_option maxHeartbeats 4000000 in
theorem sm_repK (T tp tr : TypeId) (V vp vr : Value)  (hP : ∃ (F : FuncId) (R : Value), (∀ n w, (method (n + 1) T V "loop.example/g01175/impl.parts").run Tryz.prog w = .ok (F, R) w) ∧ (∀ n w, (nilAhead (n + 1) T V "loop.example/g01175/impl.parts").run Tryz.prog w = .ok (some false) w) ∧ (∀ args w, (callFunc F args).run Tryz.prog w = .ok (.enter F args) w) ∧ ∀ w, Calls Tryz.prog F #[R] w fun e w' => ∃ b, e = .returned (.slice (some ⟨b, 0, none⟩) 1 1) ∧ w.heap.size ≤ b ∧ w'.heap[b]? = some (.cells #[.iface tp vp] 43 (0, 0)) ∧ Below w.heap.size w w')
    (IH : ∀ w, Calls Tryz.prog 158 #[.iface tp vp] w fun e w' => e = .returned (.iface tr vr) ∧ Below w.heap.size w w') (HW : ∀ (b : Nat) (w : World), w.cell? ⟨b, 0, none⟩ = some (.iface tr vr) → Calls Tryz.prog 119 #[.iface T V, .slice (some ⟨b, 0, none⟩) 1 1] w fun e w' => e = .returned (.iface 103 (.agg #[.iface tr vr])) ∧ Below w.heap.size w w')
    (HN : ∀ w, Calls Tryz.prog 83 #[.iface tr vr] w fun e w' => e = .returned (.bool false) ∧ Below w.heap.size w w') (w : World) :
    Calls Tryz.prog 158 #[.iface T V] w fun e w' => e = .returned (.iface 103 (.agg #[.iface tr vr])) ∧ Below w.heap.size w w' := by
  obtain ⟨F, RR, hm, hn, hc, hp⟩ := hP
  have HP := Lib.hid hp
  have IH' := Lib.hid IH
  have HW' := Lib.hid HW
  have HN' := Lib.hid HN
  clear hp IH HW HN
  go_enter Tryz.func158, Tryz.ntmps158
  go_wp2_with fail
  refine (HP.out _).mono ?_
  rintro e w3 ⟨b, rfl, hb, hh, bl⟩
  have d0 := cellOf1 hh
  have f0 := free_of_one hh
  have g4 := Lib.hid hh
  clear hh
  go_wp2_with fail
  refine wp_loop_rounds 2 ?_
  rw [rounds_succ]
  go_wp2_with fail
  refine (IH'.out _).mono ?_
  rintro e w5 ⟨rfl, b5⟩
  replace bl := below_go bl b5
  have h5 := row_below0 g4.out b5
  clear d0 f0
  have d0 := cellOf1 h5
  have f0 := free_of_one h5
  replace bl := bl.setCell (p := ⟨b, 0, none⟩) (by show w.heap.size ≤ b; omega) (.iface tr vr)
  have e5 := one_setCell (u := .iface tr vr) h5
  have e0 := Lib.hid (cellOf1 e5)
  clear h5 e5
  go_wp2_with fail
  rw [rounds_succ]
  go_wp2_with fail
  refine (HW'.out b _ e0.out).mono ?_
  rintro e w8 ⟨rfl, b8⟩
  replace bl := below_go bl b8
  clear d0 f0 b5 b8
  obtain ⟨W, hW⟩ : ∃ W, W = w8.alloc (.cells #[.iface tr vr] 103) := ⟨_, rfl⟩
  have hbk : W.heap[w8.heap.size]? = some (.cells #[.iface tr vr] 103 (0, 0)) := by rw [hW]; exact new_block0 _ _
  have blW : Below w.heap.size w W := by rw [hW]; exact bl.alloc bl.size _
  have Hbk := Lib.hid hbk
  have k0 : W.cell? ⟨w8.heap.size, 0, none⟩ = some (.iface tr vr) := by simp [World.cell?, hbk]
  clear hbk
  go_wp2_with fail
  rw [← hW]
  clear hW
  refine (HN'.out _).mono ?_
  rintro e v1 ⟨rfl, d1⟩
  have h1 := row_below0 Hbk.out d1
  have r2 : v1.cell? ⟨w8.heap.size, 0, none⟩ = some (.iface tr vr) := by simp [World.cell?, h1]
  replace bl := below_go blW d1
  clear k0 blW h1 d1
  go_wp2_with fail
  go_ret
  exact ⟨rfl, by first | exact bl | exact bl.alloc bl.size _⟩

set_option maxHeartbeats 4000000 in
theorem sm_choice (T tp tq tr ts : TypeId) (V vp vq vr vs : Value) (tx : TypeId) (vx : Value) (hP : ∃ (F : FuncId) (R : Value), (∀ n w, (method (n + 1) T V "loop.example/g01175/impl.parts").run Tryz.prog w = .ok (F, R) w) ∧ (∀ n w, (nilAhead (n + 1) T V "loop.example/g01175/impl.parts").run Tryz.prog w = .ok (some false) w) ∧ (∀ args w, (callFunc F args).run Tryz.prog w = .ok (.enter F args) w) ∧ ∀ w, Calls Tryz.prog F #[R] w fun e w' => ∃ b, e = .returned (.slice (some ⟨b, 0, none⟩) 2 2) ∧ w.heap.size ≤ b ∧ w'.heap[b]? = some (.cells #[.iface tp vp, .iface tq vq] 43 (0, 0)) ∧ Below w.heap.size w w')
    (IH : ∀ w, Calls Tryz.prog 158 #[.iface tp vp] w fun e w' => e = .returned (.iface tr vr) ∧ Below w.heap.size w w') (IH2 : ∀ w, Calls Tryz.prog 158 #[.iface tq vq] w fun e w' => e = .returned (.iface ts vs) ∧ Below w.heap.size w w') (HW : ∀ (b : Nat) (w : World), w.cell? ⟨b, 0, none⟩ = some (.iface tr vr) → w.cell? ⟨b, 1, none⟩ = some (.iface ts vs) → Calls Tryz.prog 119 #[.iface T V, .slice (some ⟨b, 0, none⟩) 2 2] w fun e w' => e = .returned (.iface 93 (.agg #[.iface tr vr, .iface ts vs])) ∧ Below w.heap.size w w')
    (HWN : ∀ w, Calls Tryz.prog 177 #[.agg #[.iface tr vr, .iface ts vs], .iface 93 (.agg #[.iface tr vr, .iface ts vs])] w fun e w' => e = .returned (.iface tx vx) ∧ Below w.heap.size w w') (w : World) :
    Calls Tryz.prog 158 #[.iface T V] w fun e w' => e = .returned (.iface tx vx) ∧ Below w.heap.size w w' := by
  obtain ⟨F, RR, hm, hn, hc, hp⟩ := hP
  have HP := Lib.hid hp
  have IH' := Lib.hid IH
  have IH2' := Lib.hid IH2
  have HW' := Lib.hid HW
  have HWN' := Lib.hid HWN
  clear hp IH IH2 HW HWN
  go_enter Tryz.func158, Tryz.ntmps158
  go_wp2_with fail
  refine (HP.out _).mono ?_
  rintro e w3 ⟨b, rfl, hb, hh, bl⟩
  have d0 := cellOf2a hh
  have f0 := two_free hh 0
  have Hh := Lib.hid hh
  clear hh
  go_wp2_with fail
  refine wp_loop_rounds 3 ?_
  rw [rounds_succ]
  go_wp2_with fail
  refine (IH'.out _).mono ?_
  rintro e w4 ⟨rfl, b4⟩
  replace bl := below_go bl b4
  have h4 := row_below0 Hh.out b4
  clear d0 f0 b4
  have d0 := cellOf2a h4
  have f0 := two_free h4 0
  have e4 := Lib.hid (two_set0 h4 (.iface tr vr))
  have x1 := cellOf2b e4.out
  replace bl := bl.setCell (p := ⟨b, 0, none⟩) (by show w.heap.size ≤ b; omega) (.iface tr vr)
  clear h4
  go_wp2_with fail
  rw [rounds_succ]
  go_wp2_with fail
  refine (IH2'.out _).mono ?_
  rintro e w5 ⟨rfl, b5⟩
  replace bl := below_go bl b5
  have h5 := row_below0 e4.out b5
  clear d0 f0 x1 b5
  have d1 := cellOf2b h5
  have f1 := two_free h5 1
  have e5 := two_set1 h5 (.iface ts vs)
  have E0 := Lib.hid (cellOf2a e5)
  have E1 := Lib.hid (cellOf2b e5)
  replace bl := bl.setCell (p := ⟨b, 1, none⟩) (by show w.heap.size ≤ b; omega) (.iface ts vs)
  clear h5 e5
  go_wp2_with fail
  rw [rounds_succ]
  go_wp2_with fail
  refine (HW'.out b _ E0.out E1.out).mono ?_
  rintro e w8 ⟨rfl, b8⟩
  replace bl := below_go bl b8
  clear d1 f1 b8
  go_wp2_with fail
  refine (HWN'.out _).mono ?_
  rintro e v1 ⟨rfl, d1⟩
  replace bl := below_go (bl.alloc bl.size _) d1
  go_wp2_with fail
  go_ret
  exact ⟨rfl, bl⟩

set_option maxHeartbeats 4000000 in
theorem sm_beside (T tp tq tr ts : TypeId) (V vp vq vr vs : Value) (tx : TypeId) (vx : Value) (hP : ∃ (F : FuncId) (R : Value), (∀ n w, (method (n + 1) T V "loop.example/g01175/impl.parts").run Tryz.prog w = .ok (F, R) w) ∧ (∀ n w, (nilAhead (n + 1) T V "loop.example/g01175/impl.parts").run Tryz.prog w = .ok (some false) w) ∧ (∀ args w, (callFunc F args).run Tryz.prog w = .ok (.enter F args) w) ∧ ∀ w, Calls Tryz.prog F #[R] w fun e w' => ∃ b, e = .returned (.slice (some ⟨b, 0, none⟩) 2 2) ∧ w.heap.size ≤ b ∧ w'.heap[b]? = some (.cells #[.iface tp vp, .iface tq vq] 43 (0, 0)) ∧ Below w.heap.size w w')
    (IH : ∀ w, Calls Tryz.prog 158 #[.iface tp vp] w fun e w' => e = .returned (.iface tr vr) ∧ Below w.heap.size w w') (IH2 : ∀ w, Calls Tryz.prog 158 #[.iface tq vq] w fun e w' => e = .returned (.iface ts vs) ∧ Below w.heap.size w w') (HW : ∀ (b : Nat) (w : World), w.cell? ⟨b, 0, none⟩ = some (.iface tr vr) → w.cell? ⟨b, 1, none⟩ = some (.iface ts vs) → Calls Tryz.prog 119 #[.iface T V, .slice (some ⟨b, 0, none⟩) 2 2] w fun e w' => e = .returned (.iface 92 (.agg #[.iface tr vr, .iface ts vs])) ∧ Below w.heap.size w w')
    (HWN : ∀ w, Calls Tryz.prog 177 #[.agg #[.iface tr vr, .iface ts vs], .iface 92 (.agg #[.iface tr vr, .iface ts vs])] w fun e w' => e = .returned (.iface tx vx) ∧ Below w.heap.size w w') (w : World) :
    Calls Tryz.prog 158 #[.iface T V] w fun e w' => e = .returned (.iface tx vx) ∧ Below w.heap.size w w' := by
  obtain ⟨F, RR, hm, hn, hc, hp⟩ := hP
  have HP := Lib.hid hp
  have IH' := Lib.hid IH
  have IH2' := Lib.hid IH2
  have HW' := Lib.hid HW
  have HWN' := Lib.hid HWN
  clear hp IH IH2 HW HWN
  go_enter Tryz.func158, Tryz.ntmps158
  go_wp2_with fail
  refine (HP.out _).mono ?_
  rintro e w3 ⟨b, rfl, hb, hh, bl⟩
  have d0 := cellOf2a hh
  have f0 := two_free hh 0
  have Hh := Lib.hid hh
  clear hh
  go_wp2_with fail
  refine wp_loop_rounds 3 ?_
  rw [rounds_succ]
  go_wp2_with fail
  refine (IH'.out _).mono ?_
  rintro e w4 ⟨rfl, b4⟩
  replace bl := below_go bl b4
  have h4 := row_below0 Hh.out b4
  clear d0 f0 b4
  have d0 := cellOf2a h4
  have f0 := two_free h4 0
  have e4 := Lib.hid (two_set0 h4 (.iface tr vr))
  have x1 := cellOf2b e4.out
  replace bl := bl.setCell (p := ⟨b, 0, none⟩) (by show w.heap.size ≤ b; omega) (.iface tr vr)
  clear h4
  go_wp2_with fail
  rw [rounds_succ]
  go_wp2_with fail
  refine (IH2'.out _).mono ?_
  rintro e w5 ⟨rfl, b5⟩
  replace bl := below_go bl b5
  have h5 := row_below0 e4.out b5
  clear d0 f0 x1 b5
  have d1 := cellOf2b h5
  have f1 := two_free h5 1
  have e5 := two_set1 h5 (.iface ts vs)
  have E0 := Lib.hid (cellOf2a e5)
  have E1 := Lib.hid (cellOf2b e5)
  replace bl := bl.setCell (p := ⟨b, 1, none⟩) (by show w.heap.size ≤ b; omega) (.iface ts vs)
  clear h5 e5
  go_wp2_with fail
  rw [rounds_succ]
  go_wp2_with fail
  refine (HW'.out b _ E0.out E1.out).mono ?_
  rintro e w8 ⟨rfl, b8⟩
  replace bl := below_go bl b8
  clear d1 f1 b8
  go_wp2_with fail
  refine (HWN'.out _).mono ?_
  rintro e v1 ⟨rfl, d1⟩
  replace bl := below_go (bl.alloc bl.size _) d1
  go_wp2_with fail
  go_ret
  exact ⟨rfl, bl⟩

theorem withoutN_any (p q u : Tm) (w : World) : Calls Tryz.prog 177 #[.agg #[.iface (tyOf p) (pay p), .iface (tyOf q) (pay q)], .iface (tyOf u) (pay u)] w (EncP (if p = .nil then q else if q = .nil then p else u) w) := by
  have h1 := isNothing_any p
  have h2 := isNothing_any q
  by_cases hp : p = .nil
  · rw [if_pos hp]; rw [(isN_iff p).2 hp] at h1; exact wn_L _ _ _ _ _ _ h1 w
  · rw [if_neg hp]
    rw [Bool.eq_false_iff.2 fun h => hp ((isN_iff p).1 h)] at h1
    by_cases hq : q = .nil
    · rw [if_pos hq]; rw [(isN_iff q).2 hq] at h2; exact wn_R _ _ _ _ _ _ h1 h2 w
    · rw [if_neg hq]; rw [Bool.eq_false_iff.2 fun h => hq ((isN_iff q).1 h)] at h2; exact wn_N _ _ _ _ _ _ h1 h2 w
theorem simplify_any (t : Tm) : t.ok nmL = true → ∀ w, Calls Tryz.prog 158 #[.iface (tyOf t) (pay t)] w (EncP t.sim w) := by
  induction t with
  | nil => intro _ w; exact sm_nil w
  | snd a b p ih => intro ho w; simp only [Tm.ok, Bool.and_eq_true] at ho; exact sm_send _ _ _ _ _ _ _ _ (parts_fact (.snd a b p)).pf (ih ho.2) (fun b' w h => withP_one (.snd a b p) p p.sim rfl b' 1 w (Nat.le_refl _) h) w
  | rcv a b p ih => intro ho w; simp only [Tm.ok, Bool.and_eq_true] at ho; exact sm_receive _ _ _ _ _ _ _ _ (parts_fact (.rcv a b p)).pf (ih ho.2) (fun b' w h => withP_one (.rcv a b p) p p.sim rfl b' 1 w (Nat.le_refl _) h) w
  | tau p ih => intro ho w; simp only [Tm.ok] at ho; exact sm_silent _ _ _ _ _ _ 0 0 (parts_fact (.tau p)).pf (ih ho) (fun b' w h => withP_one (.tau p) p p.sim rfl b' 1 w (Nat.le_refl _) h) w
  | own x p ih =>
    intro ho w
    simp only [Tm.ok, Bool.and_eq_true] at ho
    have hF := freeNames_any p.sim (sim_ok p ho.2)
    have hH := has_freeS p.sim (sim_ok p ho.2) x ho.1
    unfold Tm.sim
    by_cases hx : x ∈ p.sim.free
    · rw [if_pos hx]; rw [decide_eq_true hx] at hH
      exact sm_ownK _ _ _ _ _ _ _ _ (parts_fact (.own x p)).pf (ih ho.2) (fun b' w h => withP_one (.own x p) p p.sim rfl b' 1 w (Nat.le_refl _) h) hF hH w
    · rw [if_neg hx]; rw [decide_eq_false hx] at hH
      exact sm_ownD _ _ _ _ _ _ _ _ (parts_fact (.own x p)).pf (ih ho.2) (fun b' w h => withP_one (.own x p) p p.sim rfl b' 1 w (Nat.le_refl _) h) hF hH w
  | mat a b p ih =>
    intro ho w
    simp only [Tm.ok, Bool.and_eq_true] at ho
    have hN := isNothing_any p.sim
    have hW := fun (b' : Nat) (w : World) h => withP_one (.mat a b p) p p.sim rfl b' 1 w (Nat.le_refl _) h
    unfold Tm.sim
    by_cases hab : a = b
    · rw [if_pos (.inl hab)]; exact sm_matE _ _ _ _ _ _ _ _ (by simp [hab]) (parts_fact (.mat a b p)).pf (ih ho.2) hW w
    · have hne : (((a.toNat : Nat) : Int) == ((b.toNat : Nat) : Int)) = false := u8qS hab
      by_cases hp : p.sim = .nil
      · rw [if_pos (.inr hp)]; rw [(isN_iff _).2 hp] at hN; exact sm_matN _ _ _ _ _ _ _ _ hne (parts_fact (.mat a b p)).pf (ih ho.2) hW hN w
      · rw [if_neg (fun h => h.elim hab hp)]; rw [Bool.eq_false_iff.2 fun h => hp ((isN_iff _).1 h)] at hN; exact sm_matK _ _ _ _ _ _ _ _ hne (parts_fact (.mat a b p)).pf (ih ho.2) hW hN w
  | rep p ih =>
    intro ho w
    simp only [Tm.ok] at ho
    have hN := isNothing_any p.sim
    have hW := fun (b' : Nat) (w : World) h => withP_one (.rep p) p p.sim rfl b' 1 w (Nat.le_refl _) h
    unfold Tm.sim
    by_cases hp : p.sim = .nil
    · rw [if_pos hp]; rw [(isN_iff _).2 hp] at hN; exact sm_repN _ _ _ _ _ _ (parts_fact (.rep p)).pf (ih ho) hW hN w
    · rw [if_neg hp]; rw [Bool.eq_false_iff.2 fun h => hp ((isN_iff _).1 h)] at hN; exact sm_repK _ _ _ _ _ _ (parts_fact (.rep p)).pf (ih ho) hW hN w
  | sum p q ih ih2 =>
    intro ho w
    simp only [Tm.ok, Bool.and_eq_true] at ho
    have hW := fun (b' : Nat) (w : World) h h1 => withP_two (.sum p q) p q p.sim q.sim rfl b' 2 w (Nat.le_refl _) h h1
    unfold Tm.sim
    exact sm_choice _ _ _ _ _ _ _ _ _ _ _ _ (parts_fact (.sum p q)).pf (ih ho.1) (ih2 ho.2) hW (withoutN_any p.sim q.sim (.sum p.sim q.sim)) w
  | par p q ih ih2 =>
    intro ho w
    simp only [Tm.ok, Bool.and_eq_true] at ho
    have hW := fun (b' : Nat) (w : World) h h1 => withP_two (.par p q) p q p.sim q.sim rfl b' 2 w (Nat.le_refl _) h h1
    unfold Tm.sim
    exact sm_beside _ _ _ _ _ _ _ _ _ _ _ _ (parts_fact (.par p q)).pf (ih ho.1) (ih2 ho.2) hW (withoutN_any p.sim q.sim (.par p.sim q.sim)) w

end Go.Proofs.YtmfmagfgcdaeeaaGreat.T1
