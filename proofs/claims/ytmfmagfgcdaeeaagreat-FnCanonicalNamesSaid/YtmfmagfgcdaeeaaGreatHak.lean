/- Texts of the proof, put together: Wr. No conditions. -/
import Derived.Test.YtmfmagfgcdaeeaaGreatHaj
import Derived.WalkSmall

/- A tree written as its text. -/
namespace Go.Proofs.YtmfmagfgcdaeeaaGreat.T1
open Go.RowKit
set_option maxRecDepth 100000

/-- Behind the call: what lies below 'base', and every block that is no row of elements E, is as it was. -/
structure Kp (base : Nat) (E : TypeId) (w w' : World) : Prop where
  os : w'.os = w.os
  tape : w'.tape = w.tape
  output : w'.output = w.output
  size : w.heap.size ≤ w'.heap.size
  old : ∀ k, k < base → w'.heap[k]? = w.heap[k]?
  typed : ∀ (k : Nat) (c : Array Value) (T : TypeId) (fr : Nat × Nat), w.heap[k]? = some (Obj.cells c T fr) → T ≠ E → w'.heap[k]? = w.heap[k]?
theorem Kp.refl (base : Nat) (E : TypeId) (w : World) : Kp base E w w := ⟨rfl, rfl, rfl, Nat.le_refl _, fun _ _ => rfl, fun _ _ _ _ _ _ => rfl⟩
theorem Kp.trans {base : Nat} {E : TypeId} {u v w : World} (h : Kp base E u v) (k : Kp base E v w) : Kp base E u w :=
  ⟨k.os.trans h.os, k.tape.trans h.tape, k.output.trans h.output, Nat.le_trans h.size k.size, fun i hi => (k.old i hi).trans (h.old i hi),
   fun i c T fr hi hT => (k.typed i c T fr ((h.typed i c T fr hi hT).trans hi) hT).trans (h.typed i c T fr hi hT)⟩
theorem Kp.of_below {base : Nat} {E : TypeId} {u v : World} (h : Below u.heap.size u v) (hb : base ≤ u.heap.size) : Kp base E u v :=
  ⟨h.os, h.tape, h.output, h.size, fun i hi => h.block i (by omega), fun i _ _ _ hi _ => h.block i (lt_of_block hi)⟩
theorem Kp.of_grown {base : Nat} {E : TypeId} {u v : World} {x : Value} {n sz : Nat} {xs : List Value} (h : u.grownBy v x.ownBlock) (ho : u.ownsRow base E sz x n xs) (hb : base ≤ u.heap.size) : Kp base E u v := by
  have hg : ∀ k, some k = x.ownBlock → base ≤ k ∧ ∃ c, u.heap[k]? = some (.cells c E (0, 0)) := by
    intro k hk
    rcases ho.2 with ⟨rfl, _⟩ | ⟨g, cap, cur, rfl, h1, h2, _⟩
    · simp [Value.ownBlock] at hk
    · simp [Value.ownBlock] at hk; subst hk; exact ⟨h1, _, h2⟩
  refine ⟨h.os, h.tape, h.output, h.size, fun k hk => h.block k (by omega) (fun e => ?_), fun k c T fr hk hT => h.block k (lt_of_block hk) (fun e => ?_)⟩
  · have := (hg k e).1; omega
  · obtain ⟨c', h'⟩ := (hg k e).2; rw [hk] at h'; cases h'; exact hT rfl
theorem Kp.below {base : Nat} {E : TypeId} {u v : World} (h : Kp base E u v) : Below base u v := ⟨h.os, h.tape, h.output, h.size, h.old⟩
theorem owns_below {w w' : World} {base : Nat} {e : TypeId} {size : Nat} {v : Value} {n : Nat} {xs : List Value} (h : w.ownsRow base e size v n xs) (k : Below w.heap.size w w') : w'.ownsRow base e size v n xs := by
  obtain ⟨h1, h2⟩ := h
  refine ⟨h1, ?_⟩
  rcases h2 with h2 | ⟨g, cap, cur, hv, hg, hh, r⟩
  · exact .inl h2
  · exact .inr ⟨g, cap, cur, hv, hg, (k.block g (lt_of_block hh)).trans hh, r⟩

theorem cell_row (W : World) (l : List Value) (T : TypeId) : ∀ j u, l[j]? = some u → (W.alloc (.cells l.toArray T)).cell? ((⟨W.heap.size, 0, none⟩ : Addr).add j) = some u := by
  intro j u hj
  have : (⟨W.heap.size, 0, none⟩ : Addr).add j = ⟨W.heap.size, j, none⟩ := by
    unfold Addr.add
    split
    · rename_i h; rw [h]
    · rw [Nat.zero_add]
  rw [this, World.cell?_alloc_new]
  simpa using hj
theorem cell_row2 (w : World) (o : Obj) (l : List Value) (T : TypeId) : ∀ j u, l[j]? = some u → ((w.alloc o).alloc (.cells l.toArray T)).cell? ((⟨w.heap.size + 1, 0, none⟩ : Addr).add j) = some u := by
  have := cell_row (w.alloc o) l T
  rw [show (w.alloc o).heap.size = w.heap.size + 1 from by simp] at this
  exact this
theorem ub_one (l : List UInt8) : ∀ u ∈ l.map ub, u.oneCell' = true := by
  intro u hu
  obtain ⟨c, _, rfl⟩ := List.mem_map.1 hu
  rfl
theorem Tryz.infoU8 : (Tryz.prog.info? 5).map (fun i => (i.zero, i.size, i.bytes)) = some (some (.int .u8 0), 1, 1) := by kernel_rfl

/-- What a writer leaves: the bytes that it was handed, and behind them those of l. -/
def WrPost (base n : Nat) (xs : List Value) (l : List UInt8) (w : World) (e : Ending) (w' : World) : Prop :=
  ∃ v', e = .returned v' ∧ w'.ownsRow base 5 1 v' (n + l.length) (xs ++ l.map ub) ∧ Kp base 5 w w'

set_option maxHeartbeats 2000000 in
theorem wh_send (a b : UInt8) (tp : TypeId) (vp : Value)
    (base n : Nat) (xs : List Value) (v : Value) (w : World) (ho : w.ownsRow base 5 1 v n xs) (hn : n + 4 ≤ 1000) (hb : base ≤ w.heap.size) :
    Calls Tryz.prog 154 #[v, .iface 144 (.agg #[.int .u8 (a.toNat : Int), .int .u8 (b.toNat : Int), .iface tp vp])] w (WrPost base n xs [a, 33, b, 46] w) := by
  obtain ⟨i0, hi, hz0, hz1, hz2⟩ := info_parts Tryz.infoU8
  go_enter Tryz.func154, Tryz.ntmps154
  go_wp2_with (at_builtin; refine wpList_append_own _ rfl (.tmp 15) (.tmp 20) 22 rfl base 5 i0 (.int .u8 0) 1 1 Tryz.underlying22 hi hz0 hz1 hz2 rfl (by decide) v n xs rfl ((ho.alloc _).alloc _) ⟨w.heap.size + 1, 0, none⟩ 4 4 ([a, 33, b, 46].map ub) rfl rfl ?c1 (ub_one _) ?c2 ?c3 ?c4 ?_)
  case c1 => exact cell_row2 w _ ([a, 33, b, 46].map ub) 5
  case c2 => unfold maxLen; omega
  case c3 => omega
  case c4 => simp; omega
  intro v1 w1 hown hgrow _
  have K1 : Hid (Kp base 5 w w1) := (Kp.of_below (below_two w _ _) hb).trans (Kp.of_grown hgrow ((ho.alloc _).alloc _) (by simp; omega))
  have HO := Lib.hid hown
  clear hown hgrow
  go_wp2_with fail
  go_ret
  exact ⟨v1, rfl, HO.out, K1.out⟩
set_option maxHeartbeats 2000000 in
theorem wr_send (a b : UInt8) (tp : TypeId) (vp : Value) (l : List UInt8)
    (hP : ∃ (F : FuncId) (R : Value), (∀ n w, (method (n + 1) 144 (.agg #[.int .u8 (a.toNat : Int), .int .u8 (b.toNat : Int), .iface tp vp]) "loop.example/g01175/impl.parts").run Tryz.prog w = .ok (F, R) w) ∧ (∀ n w, (nilAhead (n + 1) 144 (.agg #[.int .u8 (a.toNat : Int), .int .u8 (b.toNat : Int), .iface tp vp]) "loop.example/g01175/impl.parts").run Tryz.prog w = .ok (some false) w) ∧ (∀ args w, (callFunc F args).run Tryz.prog w = .ok (.enter F args) w) ∧ ∀ w, Calls Tryz.prog F #[R] w fun e w' => ∃ b, e = .returned (.slice (some ⟨b, 0, none⟩) 1 1) ∧ w.heap.size ≤ b ∧ w'.heap[b]? = some (.cells #[.iface tp vp] 43 (0, 0)) ∧ Below w.heap.size w w')
    (ih : ∀ base n xs v w, w.ownsRow base 5 1 v n xs → n + l.length ≤ 1000 → base ≤ w.heap.size → Calls Tryz.prog 120 #[v, .iface tp vp] w (WrPost base n xs l w))
    (base n : Nat) (xs : List Value) (v : Value) (w : World) (ho : w.ownsRow base 5 1 v n xs) (hn : n + (4 + l.length) ≤ 1000) (hb : base ≤ w.heap.size) :
    Calls Tryz.prog 120 #[v, .iface 144 (.agg #[.int .u8 (a.toNat : Int), .int .u8 (b.toNat : Int), .iface tp vp])] w (WrPost base n xs (a :: 33 :: b :: 46 :: l) w) := by
  obtain ⟨F, R, hm1, hn1, hc1, hp⟩ := hP
  have HP := Lib.hid hp
  have IH := Lib.hid ih
  have HW := Lib.hid (wh_send a b tp vp base n xs v)
  have HO0 := Lib.hid ho
  clear hp ih ho
  go_enter Tryz.func120, Tryz.ntmps120
  go_wp2_with fail
  refine (HW.out w HO0.out (by omega) hb).mono ?_
  rintro e w1 ⟨v1, rfl, ho1, k1⟩
  have K1 := Lib.hid k1
  have HO := Lib.hid ho1
  have hb1 : base ≤ w1.heap.size := Nat.le_trans hb k1.size
  clear ho1 k1
  go_wp2_with fail
  refine (HP.out _).mono ?_
  rintro e w2 ⟨bb, rfl, hbb, hh, bl⟩
  have c0 := cellOf1 hh
  clear hh
  go_wp2_with fail
  refine wp_loop_rounds 2 ?_
  rw [rounds_succ]
  go_wp2_with fail
  refine (IH.out base (n + 4) _ _ _ (owns_below HO.out bl) (by omega) (Nat.le_trans hb1 bl.size)).mono ?_
  rintro e w3 ⟨v3, rfl, ho3, k3⟩
  have HO3 := Lib.hid ho3
  clear c0 ho3
  go_wp2_with fail
  rw [rounds_succ]
  go_wp2_with fail
  go_ret
  refine ⟨v3, rfl, ?_, (K1.out.trans (Kp.of_below bl hb1)).trans k3⟩
  have e1 : n + (a :: 33 :: b :: 46 :: l).length = n + 4 + l.length := by simp only [List.length_cons]; omega
  rw [e1]
  have := HO3.out
  rw [List.append_assoc] at this
  exact this

set_option maxHeartbeats 2000000 in
theorem wh_receive (a b : UInt8) (tp : TypeId) (vp : Value)
    (base n : Nat) (xs : List Value) (v : Value) (w : World) (ho : w.ownsRow base 5 1 v n xs) (hn : n + 4 ≤ 1000) (hb : base ≤ w.heap.size) :
    Calls Tryz.prog 154 #[v, .iface 142 (.agg #[.int .u8 (a.toNat : Int), .int .u8 (b.toNat : Int), .iface tp vp])] w (WrPost base n xs [a, 63, b, 46] w) := by
  obtain ⟨i0, hi, hz0, hz1, hz2⟩ := info_parts Tryz.infoU8
  go_enter Tryz.func154, Tryz.ntmps154
  go_wp2_with (at_builtin; refine wpList_append_own _ rfl (.tmp 25) (.tmp 30) 22 rfl base 5 i0 (.int .u8 0) 1 1 Tryz.underlying22 hi hz0 hz1 hz2 rfl (by decide) v n xs rfl ((ho.alloc _).alloc _) ⟨w.heap.size + 1, 0, none⟩ 4 4 ([a, 63, b, 46].map ub) rfl rfl ?c1 (ub_one _) ?c2 ?c3 ?c4 ?_)
  case c1 => exact cell_row2 w _ ([a, 63, b, 46].map ub) 5
  case c2 => unfold maxLen; omega
  case c3 => omega
  case c4 => simp; omega
  intro v1 w1 hown hgrow _
  have K1 : Hid (Kp base 5 w w1) := (Kp.of_below (below_two w _ _) hb).trans (Kp.of_grown hgrow ((ho.alloc _).alloc _) (by simp; omega))
  have HO := Lib.hid hown
  clear hown hgrow
  go_wp2_with fail
  go_ret
  exact ⟨v1, rfl, HO.out, K1.out⟩
set_option maxHeartbeats 2000000 in
theorem wr_receive (a b : UInt8) (tp : TypeId) (vp : Value) (l : List UInt8)
    (hP : ∃ (F : FuncId) (R : Value), (∀ n w, (method (n + 1) 142 (.agg #[.int .u8 (a.toNat : Int), .int .u8 (b.toNat : Int), .iface tp vp]) "loop.example/g01175/impl.parts").run Tryz.prog w = .ok (F, R) w) ∧ (∀ n w, (nilAhead (n + 1) 142 (.agg #[.int .u8 (a.toNat : Int), .int .u8 (b.toNat : Int), .iface tp vp]) "loop.example/g01175/impl.parts").run Tryz.prog w = .ok (some false) w) ∧ (∀ args w, (callFunc F args).run Tryz.prog w = .ok (.enter F args) w) ∧ ∀ w, Calls Tryz.prog F #[R] w fun e w' => ∃ b, e = .returned (.slice (some ⟨b, 0, none⟩) 1 1) ∧ w.heap.size ≤ b ∧ w'.heap[b]? = some (.cells #[.iface tp vp] 43 (0, 0)) ∧ Below w.heap.size w w')
    (ih : ∀ base n xs v w, w.ownsRow base 5 1 v n xs → n + l.length ≤ 1000 → base ≤ w.heap.size → Calls Tryz.prog 120 #[v, .iface tp vp] w (WrPost base n xs l w))
    (base n : Nat) (xs : List Value) (v : Value) (w : World) (ho : w.ownsRow base 5 1 v n xs) (hn : n + (4 + l.length) ≤ 1000) (hb : base ≤ w.heap.size) :
    Calls Tryz.prog 120 #[v, .iface 142 (.agg #[.int .u8 (a.toNat : Int), .int .u8 (b.toNat : Int), .iface tp vp])] w (WrPost base n xs (a :: 63 :: b :: 46 :: l) w) := by
  obtain ⟨F, R, hm1, hn1, hc1, hp⟩ := hP
  have HP := Lib.hid hp
  have IH := Lib.hid ih
  have HW := Lib.hid (wh_receive a b tp vp base n xs v)
  have HO0 := Lib.hid ho
  clear hp ih ho
  go_enter Tryz.func120, Tryz.ntmps120
  go_wp2_with fail
  refine (HW.out w HO0.out (by omega) hb).mono ?_
  rintro e w1 ⟨v1, rfl, ho1, k1⟩
  have K1 := Lib.hid k1
  have HO := Lib.hid ho1
  have hb1 : base ≤ w1.heap.size := Nat.le_trans hb k1.size
  clear ho1 k1
  go_wp2_with fail
  refine (HP.out _).mono ?_
  rintro e w2 ⟨bb, rfl, hbb, hh, bl⟩
  have c0 := cellOf1 hh
  clear hh
  go_wp2_with fail
  refine wp_loop_rounds 2 ?_
  rw [rounds_succ]
  go_wp2_with fail
  refine (IH.out base (n + 4) _ _ _ (owns_below HO.out bl) (by omega) (Nat.le_trans hb1 bl.size)).mono ?_
  rintro e w3 ⟨v3, rfl, ho3, k3⟩
  have HO3 := Lib.hid ho3
  clear c0 ho3
  go_wp2_with fail
  rw [rounds_succ]
  go_wp2_with fail
  go_ret
  refine ⟨v3, rfl, ?_, (K1.out.trans (Kp.of_below bl hb1)).trans k3⟩
  have e1 : n + (a :: 63 :: b :: 46 :: l).length = n + 4 + l.length := by simp only [List.length_cons]; omega
  rw [e1]
  have := HO3.out
  rw [List.append_assoc] at this
  exact this

set_option maxHeartbeats 2000000 in
theorem wh_silent (tp : TypeId) (vp : Value)
    (base n : Nat) (xs : List Value) (v : Value) (w : World) (ho : w.ownsRow base 5 1 v n xs) (hn : n + 2 ≤ 1000) (hb : base ≤ w.heap.size) :
    Calls Tryz.prog 154 #[v, .iface 147 (.agg #[.iface tp vp])] w (WrPost base n xs [126, 46] w) := by
  obtain ⟨i0, hi, hz0, hz1, hz2⟩ := info_parts Tryz.infoU8
  go_enter Tryz.func154, Tryz.ntmps154
  go_wp2_with (at_builtin; refine wpList_append_own _ rfl (.tmp 35) (.tmp 36) 22 rfl base 5 i0 (.int .u8 0) 1 1 Tryz.underlying22 hi hz0 hz1 hz2 rfl (by decide) v n xs rfl ((ho.alloc _).alloc _) ⟨w.heap.size + 1, 0, none⟩ 2 2 ([126, 46].map ub) rfl rfl ?c1 (ub_one _) ?c2 ?c3 ?c4 ?_)
  case c1 => exact cell_row2 w _ ([126, 46].map ub) 5
  case c2 => unfold maxLen; omega
  case c3 => omega
  case c4 => simp; omega
  intro v1 w1 hown hgrow _
  have K1 : Hid (Kp base 5 w w1) := (Kp.of_below (below_two w _ _) hb).trans (Kp.of_grown hgrow ((ho.alloc _).alloc _) (by simp; omega))
  have HO := Lib.hid hown
  clear hown hgrow
  go_wp2_with fail
  go_ret
  exact ⟨v1, rfl, HO.out, K1.out⟩
set_option maxHeartbeats 2000000 in
theorem wr_silent (tp : TypeId) (vp : Value) (l : List UInt8)
    (hP : ∃ (F : FuncId) (R : Value), (∀ n w, (method (n + 1) 147 (.agg #[.iface tp vp]) "loop.example/g01175/impl.parts").run Tryz.prog w = .ok (F, R) w) ∧ (∀ n w, (nilAhead (n + 1) 147 (.agg #[.iface tp vp]) "loop.example/g01175/impl.parts").run Tryz.prog w = .ok (some false) w) ∧ (∀ args w, (callFunc F args).run Tryz.prog w = .ok (.enter F args) w) ∧ ∀ w, Calls Tryz.prog F #[R] w fun e w' => ∃ b, e = .returned (.slice (some ⟨b, 0, none⟩) 1 1) ∧ w.heap.size ≤ b ∧ w'.heap[b]? = some (.cells #[.iface tp vp] 43 (0, 0)) ∧ Below w.heap.size w w')
    (ih : ∀ base n xs v w, w.ownsRow base 5 1 v n xs → n + l.length ≤ 1000 → base ≤ w.heap.size → Calls Tryz.prog 120 #[v, .iface tp vp] w (WrPost base n xs l w))
    (base n : Nat) (xs : List Value) (v : Value) (w : World) (ho : w.ownsRow base 5 1 v n xs) (hn : n + (2 + l.length) ≤ 1000) (hb : base ≤ w.heap.size) :
    Calls Tryz.prog 120 #[v, .iface 147 (.agg #[.iface tp vp])] w (WrPost base n xs (126 :: 46 :: l) w) := by
  obtain ⟨F, R, hm1, hn1, hc1, hp⟩ := hP
  have HP := Lib.hid hp
  have IH := Lib.hid ih
  have HW := Lib.hid (wh_silent tp vp base n xs v)
  have HO0 := Lib.hid ho
  clear hp ih ho
  go_enter Tryz.func120, Tryz.ntmps120
  go_wp2_with fail
  refine (HW.out w HO0.out (by omega) hb).mono ?_
  rintro e w1 ⟨v1, rfl, ho1, k1⟩
  have K1 := Lib.hid k1
  have HO := Lib.hid ho1
  have hb1 : base ≤ w1.heap.size := Nat.le_trans hb k1.size
  clear ho1 k1
  go_wp2_with fail
  refine (HP.out _).mono ?_
  rintro e w2 ⟨bb, rfl, hbb, hh, bl⟩
  have c0 := cellOf1 hh
  clear hh
  go_wp2_with fail
  refine wp_loop_rounds 2 ?_
  rw [rounds_succ]
  go_wp2_with fail
  refine (IH.out base (n + 2) _ _ _ (owns_below HO.out bl) (by omega) (Nat.le_trans hb1 bl.size)).mono ?_
  rintro e w3 ⟨v3, rfl, ho3, k3⟩
  have HO3 := Lib.hid ho3
  clear c0 ho3
  go_wp2_with fail
  rw [rounds_succ]
  go_wp2_with fail
  go_ret
  refine ⟨v3, rfl, ?_, (K1.out.trans (Kp.of_below bl hb1)).trans k3⟩
  have e1 : n + (126 :: 46 :: l).length = n + 2 + l.length := by simp only [List.length_cons]; omega
  rw [e1]
  have := HO3.out
  rw [List.append_assoc] at this
  exact this

set_option maxHeartbeats 2000000 in
theorem wh_own (a : UInt8) (tp : TypeId) (vp : Value)
    (base n : Nat) (xs : List Value) (v : Value) (w : World) (ho : w.ownsRow base 5 1 v n xs) (hn : n + 3 ≤ 1000) (hb : base ≤ w.heap.size) :
    Calls Tryz.prog 154 #[v, .iface 100 (.agg #[.int .u8 (a.toNat : Int), .iface tp vp])] w (WrPost base n xs [35, a, 46] w) := by
  obtain ⟨i0, hi, hz0, hz1, hz2⟩ := info_parts Tryz.infoU8
  go_enter Tryz.func154, Tryz.ntmps154
  go_wp2_with (at_builtin; refine wpList_append_own _ rfl (.tmp 41) (.tmp 44) 22 rfl base 5 i0 (.int .u8 0) 1 1 Tryz.underlying22 hi hz0 hz1 hz2 rfl (by decide) v n xs rfl ((ho.alloc _).alloc _) ⟨w.heap.size + 1, 0, none⟩ 3 3 ([35, a, 46].map ub) rfl rfl ?c1 (ub_one _) ?c2 ?c3 ?c4 ?_)
  case c1 => exact cell_row2 w _ ([35, a, 46].map ub) 5
  case c2 => unfold maxLen; omega
  case c3 => omega
  case c4 => simp; omega
  intro v1 w1 hown hgrow _
  have K1 : Hid (Kp base 5 w w1) := (Kp.of_below (below_two w _ _) hb).trans (Kp.of_grown hgrow ((ho.alloc _).alloc _) (by simp; omega))
  have HO := Lib.hid hown
  clear hown hgrow
  go_wp2_with fail
  go_ret
  exact ⟨v1, rfl, HO.out, K1.out⟩
set_option maxHeartbeats 2000000 in
theorem wr_own (a : UInt8) (tp : TypeId) (vp : Value) (l : List UInt8)
    (hP : ∃ (F : FuncId) (R : Value), (∀ n w, (method (n + 1) 100 (.agg #[.int .u8 (a.toNat : Int), .iface tp vp]) "loop.example/g01175/impl.parts").run Tryz.prog w = .ok (F, R) w) ∧ (∀ n w, (nilAhead (n + 1) 100 (.agg #[.int .u8 (a.toNat : Int), .iface tp vp]) "loop.example/g01175/impl.parts").run Tryz.prog w = .ok (some false) w) ∧ (∀ args w, (callFunc F args).run Tryz.prog w = .ok (.enter F args) w) ∧ ∀ w, Calls Tryz.prog F #[R] w fun e w' => ∃ b, e = .returned (.slice (some ⟨b, 0, none⟩) 1 1) ∧ w.heap.size ≤ b ∧ w'.heap[b]? = some (.cells #[.iface tp vp] 43 (0, 0)) ∧ Below w.heap.size w w')
    (ih : ∀ base n xs v w, w.ownsRow base 5 1 v n xs → n + l.length ≤ 1000 → base ≤ w.heap.size → Calls Tryz.prog 120 #[v, .iface tp vp] w (WrPost base n xs l w))
    (base n : Nat) (xs : List Value) (v : Value) (w : World) (ho : w.ownsRow base 5 1 v n xs) (hn : n + (3 + l.length) ≤ 1000) (hb : base ≤ w.heap.size) :
    Calls Tryz.prog 120 #[v, .iface 100 (.agg #[.int .u8 (a.toNat : Int), .iface tp vp])] w (WrPost base n xs (35 :: a :: 46 :: l) w) := by
  obtain ⟨F, R, hm1, hn1, hc1, hp⟩ := hP
  have HP := Lib.hid hp
  have IH := Lib.hid ih
  have HW := Lib.hid (wh_own a tp vp base n xs v)
  have HO0 := Lib.hid ho
  clear hp ih ho
  go_enter Tryz.func120, Tryz.ntmps120
  go_wp2_with fail
  refine (HW.out w HO0.out (by omega) hb).mono ?_
  rintro e w1 ⟨v1, rfl, ho1, k1⟩
  have K1 := Lib.hid k1
  have HO := Lib.hid ho1
  have hb1 : base ≤ w1.heap.size := Nat.le_trans hb k1.size
  clear ho1 k1
  go_wp2_with fail
  refine (HP.out _).mono ?_
  rintro e w2 ⟨bb, rfl, hbb, hh, bl⟩
  have c0 := cellOf1 hh
  clear hh
  go_wp2_with fail
  refine wp_loop_rounds 2 ?_
  rw [rounds_succ]
  go_wp2_with fail
  refine (IH.out base (n + 3) _ _ _ (owns_below HO.out bl) (by omega) (Nat.le_trans hb1 bl.size)).mono ?_
  rintro e w3 ⟨v3, rfl, ho3, k3⟩
  have HO3 := Lib.hid ho3
  clear c0 ho3
  go_wp2_with fail
  rw [rounds_succ]
  go_wp2_with fail
  go_ret
  refine ⟨v3, rfl, ?_, (K1.out.trans (Kp.of_below bl hb1)).trans k3⟩
  have e1 : n + (35 :: a :: 46 :: l).length = n + 3 + l.length := by simp only [List.length_cons]; omega
  rw [e1]
  have := HO3.out
  rw [List.append_assoc] at this
  exact this

set_option maxHeartbeats 2000000 in
theorem wh_match (a b : UInt8) (tp : TypeId) (vp : Value)
    (base n : Nat) (xs : List Value) (v : Value) (w : World) (ho : w.ownsRow base 5 1 v n xs) (hn : n + 5 ≤ 1000) (hb : base ≤ w.heap.size) :
    Calls Tryz.prog 154 #[v, .iface 146 (.agg #[.int .u8 (a.toNat : Int), .int .u8 (b.toNat : Int), .iface tp vp])] w (WrPost base n xs [91, a, 61, b, 93] w) := by
  obtain ⟨i0, hi, hz0, hz1, hz2⟩ := info_parts Tryz.infoU8
  go_enter Tryz.func154, Tryz.ntmps154
  go_wp2_with (at_builtin; refine wpList_append_own _ rfl (.tmp 49) (.tmp 54) 22 rfl base 5 i0 (.int .u8 0) 1 1 Tryz.underlying22 hi hz0 hz1 hz2 rfl (by decide) v n xs rfl ((ho.alloc _).alloc _) ⟨w.heap.size + 1, 0, none⟩ 5 5 ([91, a, 61, b, 93].map ub) rfl rfl ?c1 (ub_one _) ?c2 ?c3 ?c4 ?_)
  case c1 => exact cell_row2 w _ ([91, a, 61, b, 93].map ub) 5
  case c2 => unfold maxLen; omega
  case c3 => omega
  case c4 => simp; omega
  intro v1 w1 hown hgrow _
  have K1 : Hid (Kp base 5 w w1) := (Kp.of_below (below_two w _ _) hb).trans (Kp.of_grown hgrow ((ho.alloc _).alloc _) (by simp; omega))
  have HO := Lib.hid hown
  clear hown hgrow
  go_wp2_with fail
  go_ret
  exact ⟨v1, rfl, HO.out, K1.out⟩
set_option maxHeartbeats 2000000 in
theorem wr_match (a b : UInt8) (tp : TypeId) (vp : Value) (l : List UInt8)
    (hP : ∃ (F : FuncId) (R : Value), (∀ n w, (method (n + 1) 146 (.agg #[.int .u8 (a.toNat : Int), .int .u8 (b.toNat : Int), .iface tp vp]) "loop.example/g01175/impl.parts").run Tryz.prog w = .ok (F, R) w) ∧ (∀ n w, (nilAhead (n + 1) 146 (.agg #[.int .u8 (a.toNat : Int), .int .u8 (b.toNat : Int), .iface tp vp]) "loop.example/g01175/impl.parts").run Tryz.prog w = .ok (some false) w) ∧ (∀ args w, (callFunc F args).run Tryz.prog w = .ok (.enter F args) w) ∧ ∀ w, Calls Tryz.prog F #[R] w fun e w' => ∃ b, e = .returned (.slice (some ⟨b, 0, none⟩) 1 1) ∧ w.heap.size ≤ b ∧ w'.heap[b]? = some (.cells #[.iface tp vp] 43 (0, 0)) ∧ Below w.heap.size w w')
    (ih : ∀ base n xs v w, w.ownsRow base 5 1 v n xs → n + l.length ≤ 1000 → base ≤ w.heap.size → Calls Tryz.prog 120 #[v, .iface tp vp] w (WrPost base n xs l w))
    (base n : Nat) (xs : List Value) (v : Value) (w : World) (ho : w.ownsRow base 5 1 v n xs) (hn : n + (5 + l.length) ≤ 1000) (hb : base ≤ w.heap.size) :
    Calls Tryz.prog 120 #[v, .iface 146 (.agg #[.int .u8 (a.toNat : Int), .int .u8 (b.toNat : Int), .iface tp vp])] w (WrPost base n xs (91 :: a :: 61 :: b :: 93 :: l) w) := by
  obtain ⟨F, R, hm1, hn1, hc1, hp⟩ := hP
  have HP := Lib.hid hp
  have IH := Lib.hid ih
  have HW := Lib.hid (wh_match a b tp vp base n xs v)
  have HO0 := Lib.hid ho
  clear hp ih ho
  go_enter Tryz.func120, Tryz.ntmps120
  go_wp2_with fail
  refine (HW.out w HO0.out (by omega) hb).mono ?_
  rintro e w1 ⟨v1, rfl, ho1, k1⟩
  have K1 := Lib.hid k1
  have HO := Lib.hid ho1
  have hb1 : base ≤ w1.heap.size := Nat.le_trans hb k1.size
  clear ho1 k1
  go_wp2_with fail
  refine (HP.out _).mono ?_
  rintro e w2 ⟨bb, rfl, hbb, hh, bl⟩
  have c0 := cellOf1 hh
  clear hh
  go_wp2_with fail
  refine wp_loop_rounds 2 ?_
  rw [rounds_succ]
  go_wp2_with fail
  refine (IH.out base (n + 5) _ _ _ (owns_below HO.out bl) (by omega) (Nat.le_trans hb1 bl.size)).mono ?_
  rintro e w3 ⟨v3, rfl, ho3, k3⟩
  have HO3 := Lib.hid ho3
  clear c0 ho3
  go_wp2_with fail
  rw [rounds_succ]
  go_wp2_with fail
  go_ret
  refine ⟨v3, rfl, ?_, (K1.out.trans (Kp.of_below bl hb1)).trans k3⟩
  have e1 : n + (91 :: a :: 61 :: b :: 93 :: l).length = n + 5 + l.length := by simp only [List.length_cons]; omega
  rw [e1]
  have := HO3.out
  rw [List.append_assoc] at this
  exact this

set_option maxHeartbeats 2000000 in
theorem wh_repeat (tp : TypeId) (vp : Value)
    (base n : Nat) (xs : List Value) (v : Value) (w : World) (ho : w.ownsRow base 5 1 v n xs) (hn : n + 1 ≤ 1000) (hb : base ≤ w.heap.size) :
    Calls Tryz.prog 154 #[v, .iface 103 (.agg #[.iface tp vp])] w (WrPost base n xs [42] w) := by
  obtain ⟨i0, hi, hz0, hz1, hz2⟩ := info_parts Tryz.infoU8
  go_enter Tryz.func154, Tryz.ntmps154
  go_wp2_with (at_builtin; refine wpList_append_own _ rfl (.tmp 59) (.tmp 60) 22 rfl base 5 i0 (.int .u8 0) 1 1 Tryz.underlying22 hi hz0 hz1 hz2 rfl (by decide) v n xs rfl ((ho.alloc _).alloc _) ⟨w.heap.size + 1, 0, none⟩ 1 1 ([42].map ub) rfl rfl ?c1 (ub_one _) ?c2 ?c3 ?c4 ?_)
  case c1 => exact cell_row2 w _ ([42].map ub) 5
  case c2 => unfold maxLen; omega
  case c3 => omega
  case c4 => simp; omega
  intro v1 w1 hown hgrow _
  have K1 : Hid (Kp base 5 w w1) := (Kp.of_below (below_two w _ _) hb).trans (Kp.of_grown hgrow ((ho.alloc _).alloc _) (by simp; omega))
  have HO := Lib.hid hown
  clear hown hgrow
  go_wp2_with fail
  go_ret
  exact ⟨v1, rfl, HO.out, K1.out⟩
set_option maxHeartbeats 2000000 in
theorem wr_repeat (tp : TypeId) (vp : Value) (l : List UInt8)
    (hP : ∃ (F : FuncId) (R : Value), (∀ n w, (method (n + 1) 103 (.agg #[.iface tp vp]) "loop.example/g01175/impl.parts").run Tryz.prog w = .ok (F, R) w) ∧ (∀ n w, (nilAhead (n + 1) 103 (.agg #[.iface tp vp]) "loop.example/g01175/impl.parts").run Tryz.prog w = .ok (some false) w) ∧ (∀ args w, (callFunc F args).run Tryz.prog w = .ok (.enter F args) w) ∧ ∀ w, Calls Tryz.prog F #[R] w fun e w' => ∃ b, e = .returned (.slice (some ⟨b, 0, none⟩) 1 1) ∧ w.heap.size ≤ b ∧ w'.heap[b]? = some (.cells #[.iface tp vp] 43 (0, 0)) ∧ Below w.heap.size w w')
    (ih : ∀ base n xs v w, w.ownsRow base 5 1 v n xs → n + l.length ≤ 1000 → base ≤ w.heap.size → Calls Tryz.prog 120 #[v, .iface tp vp] w (WrPost base n xs l w))
    (base n : Nat) (xs : List Value) (v : Value) (w : World) (ho : w.ownsRow base 5 1 v n xs) (hn : n + (1 + l.length) ≤ 1000) (hb : base ≤ w.heap.size) :
    Calls Tryz.prog 120 #[v, .iface 103 (.agg #[.iface tp vp])] w (WrPost base n xs (42 :: l) w) := by
  obtain ⟨F, R, hm1, hn1, hc1, hp⟩ := hP
  have HP := Lib.hid hp
  have IH := Lib.hid ih
  have HW := Lib.hid (wh_repeat tp vp base n xs v)
  have HO0 := Lib.hid ho
  clear hp ih ho
  go_enter Tryz.func120, Tryz.ntmps120
  go_wp2_with fail
  refine (HW.out w HO0.out (by omega) hb).mono ?_
  rintro e w1 ⟨v1, rfl, ho1, k1⟩
  have K1 := Lib.hid k1
  have HO := Lib.hid ho1
  have hb1 : base ≤ w1.heap.size := Nat.le_trans hb k1.size
  clear ho1 k1
  go_wp2_with fail
  refine (HP.out _).mono ?_
  rintro e w2 ⟨bb, rfl, hbb, hh, bl⟩
  have c0 := cellOf1 hh
  clear hh
  go_wp2_with fail
  refine wp_loop_rounds 2 ?_
  rw [rounds_succ]
  go_wp2_with fail
  refine (IH.out base (n + 1) _ _ _ (owns_below HO.out bl) (by omega) (Nat.le_trans hb1 bl.size)).mono ?_
  rintro e w3 ⟨v3, rfl, ho3, k3⟩
  have HO3 := Lib.hid ho3
  clear c0 ho3
  go_wp2_with fail
  rw [rounds_succ]
  go_wp2_with fail
  go_ret
  refine ⟨v3, rfl, ?_, (K1.out.trans (Kp.of_below bl hb1)).trans k3⟩
  have e1 : n + (42 :: l).length = n + 1 + l.length := by simp only [List.length_cons]; omega
  rw [e1]
  have := HO3.out
  rw [List.append_assoc] at this
  exact this

set_option maxHeartbeats 2000000 in
theorem wr_nothing
    (base n : Nat) (xs : List Value) (v : Value) (w : World) (ho : w.ownsRow base 5 1 v n xs) (hn : n + 1 ≤ 1000) (hb : base ≤ w.heap.size) :
    Calls Tryz.prog 120 #[v, .iface 132 (.agg #[])] w (WrPost base n xs [48] w) := by
  obtain ⟨i0, hi, hz0, hz1, hz2⟩ := info_parts Tryz.infoU8
  go_enter Tryz.func120, Tryz.ntmps120
  go_wp2_with (at_builtin; refine wpList_append_own _ rfl (.tmp 14) (.tmp 15) 22 rfl base 5 i0 (.int .u8 0) 1 1 Tryz.underlying22 hi hz0 hz1 hz2 rfl (by decide) v n xs rfl ((ho.alloc _).alloc _) ⟨w.heap.size + 1, 0, none⟩ 1 1 ([48].map ub) rfl rfl ?c1 (ub_one _) ?c2 ?c3 ?c4 ?_)
  case c1 => exact cell_row2 w _ ([48].map ub) 5
  case c2 => unfold maxLen; omega
  case c3 => omega
  case c4 => simp; omega
  intro v1 w1 hown hgrow _
  have K1 : Hid (Kp base 5 w w1) := (Kp.of_below (below_two w _ _) hb).trans (Kp.of_grown hgrow ((ho.alloc _).alloc _) (by simp; omega))
  have HO := Lib.hid hown
  clear hown hgrow
  go_wp2_with fail
  go_ret
  exact ⟨v1, rfl, HO.out, K1.out⟩

set_option maxHeartbeats 2000000 in
theorem writePair_any (tp : TypeId) (vp : Value) (tq : TypeId) (vq : Value) (lp lq : List UInt8) (m : UInt8)
    (ih : ∀ base n xs v w, w.ownsRow base 5 1 v n xs → n + lp.length ≤ 1000 → base ≤ w.heap.size → Calls Tryz.prog 120 #[v, .iface tp vp] w (WrPost base n xs lp w))
    (ih2 : ∀ base n xs v w, w.ownsRow base 5 1 v n xs → n + lq.length ≤ 1000 → base ≤ w.heap.size → Calls Tryz.prog 120 #[v, .iface tq vq] w (WrPost base n xs lq w))
    (base n : Nat) (xs : List Value) (v : Value) (w : World) (ho : w.ownsRow base 5 1 v n xs) (hn : n + (lp.length + lq.length + 3) ≤ 1000) (hb : base ≤ w.heap.size) :
    Calls Tryz.prog 153 #[v, .iface tp vp, .int .u8 (m.toNat : Int), .iface tq vq] w (WrPost base n xs (40 :: (lp ++ m :: (lq ++ [41]))) w) := by
  obtain ⟨i0, hi, hz0, hz1, hz2⟩ := info_parts Tryz.infoU8
  have IH := Lib.hid ih
  have IH2 := Lib.hid ih2
  clear ih ih2
  go_enter Tryz.func153, Tryz.ntmps153
  go_wp2_with (at_builtin; refine wpList_append_own _ rfl (.tmp 9) (.tmp 10) 22 rfl base 5 i0 (.int .u8 0) 1 1 Tryz.underlying22 hi hz0 hz1 hz2 rfl (by decide) v n xs rfl (ho.alloc _) ⟨w.heap.size, 0, none⟩ 1 1 ([40].map ub) rfl rfl ?c1 (ub_one _) ?c2 ?c3 ?c4 ?_)
  case c1 => exact cell_row w ([40].map ub) 5
  case c2 => unfold maxLen; omega
  case c3 => omega
  case c4 => simp; omega
  intro v1 w1 hown hgrow _
  have K1 : Hid (Kp base 5 w w1) := (Kp.of_below ((Below.refl _ _).alloc (Nat.le_refl _) _) hb).trans (Kp.of_grown hgrow (ho.alloc _) (by simp; omega))
  have hb1 : base ≤ w1.heap.size := Nat.le_trans hb K1.out.size
  have HO := Lib.hid hown
  clear hown hgrow
  go_wp2_with fail
  refine (IH.out base (n + 1) _ _ _ HO.out (by omega) hb1).mono ?_
  rintro e w2 ⟨v2, rfl, ho2, k2⟩
  have hb2 : base ≤ w2.heap.size := Nat.le_trans hb1 k2.size
  have HO2 := Lib.hid ho2
  clear ho2
  go_wp2_with (at_builtin; refine wpList_append_own _ rfl (.tmp 14) (.tmp 16) 22 rfl base 5 i0 (.int .u8 0) 1 1 Tryz.underlying22 hi hz0 hz1 hz2 rfl (by decide) v2 (n + 1 + lp.length) (xs ++ [40].map ub ++ lp.map ub) rfl (HO2.out.alloc _) ⟨w2.heap.size, 0, none⟩ 1 1 ([m].map ub) rfl rfl ?d1 (ub_one _) ?d2 ?d3 ?d4 ?_)
  case d1 => exact cell_row w2 ([m].map ub) 5
  case d2 => unfold maxLen; omega
  case d3 => omega
  case d4 => simp; omega
  intro v3 w3 hown3 hgrow3 _
  have K3 : Hid (Kp base 5 w2 w3) := (Kp.of_below ((Below.refl _ _).alloc (Nat.le_refl _) _) hb2).trans (Kp.of_grown hgrow3 (HO2.out.alloc _) (by simp; omega))
  have hb3 : base ≤ w3.heap.size := Nat.le_trans hb2 K3.out.size
  have HO3 := Lib.hid hown3
  clear hown3 hgrow3
  go_wp2_with fail
  refine (IH2.out base (n + 1 + lp.length + 1) _ _ _ HO3.out (by omega) hb3).mono ?_
  rintro e w4 ⟨v4, rfl, ho4, k4⟩
  have hb4 : base ≤ w4.heap.size := Nat.le_trans hb3 k4.size
  have HO4 := Lib.hid ho4
  clear ho4
  go_wp2_with (at_builtin; (refine wpList_append_own _ rfl (.tmp 20) (.tmp 21) 22 rfl base 5 i0 (.int .u8 0) 1 1 Tryz.underlying22 hi hz0 hz1 hz2 rfl (by decide) v4 _ _ rfl (HO4.out.alloc _) ⟨w4.heap.size, 0, none⟩ 1 1 ([41].map ub) rfl rfl ?e1 (ub_one _) ?e2 ?e3 ?e4 ?_))
  case e1 => exact cell_row w4 ([41].map ub) 5
  case e2 => unfold maxLen; omega
  case e3 => omega
  case e4 => simp; omega
  intro v5 w5 hown5 hgrow5 _
  have K5 : Hid (Kp base 5 w4 w5) := (Kp.of_below ((Below.refl _ _).alloc (Nat.le_refl _) _) hb4).trans (Kp.of_grown hgrow5 (HO4.out.alloc _) (by simp; omega))
  have HO5 := Lib.hid hown5
  clear hown5 hgrow5
  go_wp2_with fail
  go_ret
  refine ⟨_, rfl, ?_, (((K1.out.trans k2).trans K3.out).trans k4).trans K5.out⟩
  have := HO5.out
  have e1 : n + (40 :: (lp ++ m :: (lq ++ [41]))).length = n + 1 + lp.length + 1 + lq.length + 1 := by simp; omega
  rw [e1]
  exact cast (congrArg (fun L => World.ownsRow w5 base 5 1 v5 (n + 1 + lp.length + 1 + lq.length + 1) L) (by simp)) this

set_option maxHeartbeats 2000000 in
theorem wr_choice (tp : TypeId) (vp : Value) (tq : TypeId) (vq : Value) (lp lq : List UInt8)
    (ih : ∀ base n xs v w, w.ownsRow base 5 1 v n xs → n + lp.length ≤ 1000 → base ≤ w.heap.size → Calls Tryz.prog 120 #[v, .iface tp vp] w (WrPost base n xs lp w))
    (ih2 : ∀ base n xs v w, w.ownsRow base 5 1 v n xs → n + lq.length ≤ 1000 → base ≤ w.heap.size → Calls Tryz.prog 120 #[v, .iface tq vq] w (WrPost base n xs lq w))
    (base n : Nat) (xs : List Value) (v : Value) (w : World) (ho : w.ownsRow base 5 1 v n xs) (hn : n + (lp.length + lq.length + 3) ≤ 1000) (hb : base ≤ w.heap.size) :
    Calls Tryz.prog 120 #[v, .iface 93 (.agg #[.iface tp vp, .iface tq vq])] w (WrPost base n xs (40 :: (lp ++ 43 :: (lq ++ [41]))) w) := by
  have H := Lib.hid (writePair_any tp vp tq vq lp lq 43 ih ih2)
  clear ih ih2
  go_enter Tryz.func120, Tryz.ntmps120
  go_wp2_with fail
  refine (H.out base n xs v _ (ho.alloc _) hn (by simp; omega)).mono ?_
  rintro e w1 ⟨v1, rfl, ho1, k1⟩
  have HO := Lib.hid ho1
  clear ho1
  go_wp2_with fail
  go_ret
  exact ⟨_, rfl, HO.out, (Kp.of_below ((Below.refl _ _).alloc (Nat.le_refl _) _) hb).trans k1⟩

set_option maxHeartbeats 2000000 in
theorem wr_beside (tp : TypeId) (vp : Value) (tq : TypeId) (vq : Value) (lp lq : List UInt8)
    (ih : ∀ base n xs v w, w.ownsRow base 5 1 v n xs → n + lp.length ≤ 1000 → base ≤ w.heap.size → Calls Tryz.prog 120 #[v, .iface tp vp] w (WrPost base n xs lp w))
    (ih2 : ∀ base n xs v w, w.ownsRow base 5 1 v n xs → n + lq.length ≤ 1000 → base ≤ w.heap.size → Calls Tryz.prog 120 #[v, .iface tq vq] w (WrPost base n xs lq w))
    (base n : Nat) (xs : List Value) (v : Value) (w : World) (ho : w.ownsRow base 5 1 v n xs) (hn : n + (lp.length + lq.length + 3) ≤ 1000) (hb : base ≤ w.heap.size) :
    Calls Tryz.prog 120 #[v, .iface 92 (.agg #[.iface tp vp, .iface tq vq])] w (WrPost base n xs (40 :: (lp ++ 38 :: (lq ++ [41]))) w) := by
  have H := Lib.hid (writePair_any tp vp tq vq lp lq 38 ih ih2)
  clear ih ih2
  go_enter Tryz.func120, Tryz.ntmps120
  go_wp2_with fail
  refine (H.out base n xs v _ (ho.alloc _) hn (by simp; omega)).mono ?_
  rintro e w1 ⟨v1, rfl, ho1, k1⟩
  have HO := Lib.hid ho1
  clear ho1
  go_wp2_with fail
  go_ret
  exact ⟨_, rfl, HO.out, (Kp.of_below ((Below.refl _ _).alloc (Nat.le_refl _) _) hb).trans k1⟩

theorem write_any (t : Tm) : ∀ base n xs v w, w.ownsRow base 5 1 v n xs → n + t.pr.length ≤ 1000 → base ≤ w.heap.size → Calls Tryz.prog 120 #[v, .iface (tyOf t) (pay t)] w (WrPost base n xs t.pr w) := by
  induction t with
  | nil => exact fun base n xs v w ho hn hb => wr_nothing base n xs v w ho hn hb
  | snd a b p ih => exact fun base n xs v w ho hn hb => wr_send a b _ _ p.pr (parts_fact (.snd a b p)).pf ih base n xs v w ho (by simp only [Tm.pr, List.length_cons] at hn; omega) hb
  | rcv a b p ih => exact fun base n xs v w ho hn hb => wr_receive a b _ _ p.pr (parts_fact (.rcv a b p)).pf ih base n xs v w ho (by simp only [Tm.pr, List.length_cons] at hn; omega) hb
  | tau p ih => exact fun base n xs v w ho hn hb => wr_silent _ _ p.pr (parts_fact (.tau p)).pf ih base n xs v w ho (by simp only [Tm.pr, List.length_cons] at hn; omega) hb
  | own x p ih => exact fun base n xs v w ho hn hb => wr_own x _ _ p.pr (parts_fact (.own x p)).pf ih base n xs v w ho (by simp only [Tm.pr, List.length_cons] at hn; omega) hb
  | mat a b p ih => exact fun base n xs v w ho hn hb => wr_match a b _ _ p.pr (parts_fact (.mat a b p)).pf ih base n xs v w ho (by simp only [Tm.pr, List.length_cons] at hn; omega) hb
  | rep p ih => exact fun base n xs v w ho hn hb => wr_repeat _ _ p.pr (parts_fact (.rep p)).pf ih base n xs v w ho (by simp only [Tm.pr, List.length_cons] at hn; omega) hb
  | sum p q ih ih2 => exact fun base n xs v w ho hn hb => wr_choice _ _ _ _ p.pr q.pr ih ih2 base n xs v w ho (by simp only [Tm.pr, List.length_cons, List.length_append, List.length_nil] at hn; omega) hb
  | par p q ih ih2 => exact fun base n xs v w ho hn hb => wr_beside _ _ _ _ p.pr q.pr ih ih2 base n xs v w ho (by simp only [Tm.pr, List.length_cons, List.length_append, List.length_nil] at hn; omega) hb

end Go.Proofs.YtmfmagfgcdaeeaaGreat.T1
