/- Texts of the proof, put together: CPartsOf. No conditions. -/
import Derived.Test.YtajgncapgeiniaaGreatHaz
import Derived.Test.YtajgncapgeiniaaGreatHbb
import Derived.Test.YtajgncapgeiniaaGreatHbf
import Derived.Test.YtajgncapgeiniaaGreatProg
import Derived.WalkKit
import Derived.ProofKit
import Derived.OpenShut
import Derived.ShutString
import Derived.ChangeOld
import Derived.Below

/- What PartsOf answers on both sides. No conditions. -/
namespace Go.Proofs.YtajgncapgeiniaaGreat
namespace LawPartsOf
open Go.ChangeShapes Go.WideShapes Go.ChangeAt Go.RowKit Go.Proofs.YtajgncapgeiniaaGreat.T1
open Go.ChangeMaps (open_string shut_string)
set_option linter.unusedVariables false

theorem bw_go {u v w : World} (h : Below u.heap.size u v) (k : Below v.heap.size v w) : Below u.heap.size u w := below_trans h k h.size
/-- What a call answers: a slice of texts in memory of its own, and a bool. -/
def SOut (F : FuncId) (args : Array Value) (xs : List ByteArray) (b : Bool) : Prop := ∀ w, Calls Tryz.prog F args w fun e w' => ∃ v g, e = .returned (.tuple #[v, .bool b]) ∧ SRow w' v g xs ∧ w.heap.size ≤ g ∧ Below w.heap.size w w'
theorem srow_nil (w : World) (g : Nat) : SRow w (.slice none 0 0) g [] := ⟨⟨_, _, rfl, fun h => absurd rfl h⟩⟩
theorem srow_own {w : World} {base : Nat} {v : Value} {xs : List ByteArray} (h : w.ownsRow base 9 1 v xs.length (xs.map .string)) : ∃ g, base ≤ g ∧ SRow w v g xs := by
  rcases h.2 with ⟨rfl, h4⟩ | ⟨g, cap, cur, rfl, h4, h5, h6, h7, h8, h9⟩
  · obtain rfl : xs = [] := List.length_eq_zero_iff.1 h4
    exact ⟨base, Nat.le_refl _, srow_nil w base⟩
  · refine ⟨g, h4, ⟨⟨_, _, rfl, fun _ => ⟨rfl, cur, h5, fun j hj => ?_⟩⟩⟩⟩
    have h10 := h.cellAt j (by omega)
    simp [World.cell?, h5] at h10
    rw [h10]; simp [hj]

theorem bne_self' (b : Bool) : (b != b) = false := by cases b <;> rfl
theorem spec_none (s : ByteArray) (hg : good s.data.toList = none) (hm : s.size ≤ 9223372036854775807) : SOut 8 #[.string s] [] false := fun w => by
  have H := Lib.hid (tmGood_none hg w hm)
  clear hg
  go_enter Tryz.func8, Tryz.ntmps8
  go_wp2_with fail
  refine (H.out).mono ?_
  rintro e w1 ⟨rfl, bl⟩
  go_wp2_with fail
  go_ret2
  exact ⟨_, w.heap.size, rfl, srow_nil _ _, Nat.le_refl _, bl⟩
theorem impl_none (s : ByteArray) (hg : good s.data.toList = none) (hm : s.size ≤ 9223372036854775807) : SOut 7 #[.string s] [] false := fun w => by
  have H := Lib.hid (parse_none hg w hm)
  clear hg
  go_enter Tryz.func7, Tryz.ntmps7
  go_wp2_with fail
  refine (H.out).mono ?_
  rintro e w1 ⟨rfl, bl⟩
  go_wp2_with fail
  go_ret2
  exact ⟨_, w.heap.size, rfl, srow_nil _ _, Nat.le_refl _, bl⟩
theorem spec0 (s : ByteArray) (P : World → Ending → World → Prop) (HG : ∀ w, Calls Tryz.prog 52 #[.string s] w fun e w' => e = .returned (.bool true) ∧ Below w.heap.size w w') (v : Value) (Q : World → World → Value → Prop) (HP : ∀ w, Calls Tryz.prog 53 #[.string s] w fun e w' => ∃ v, e = .returned v ∧ Q w w' v ∧ Below w.heap.size w w') (w : World) :
    Calls Tryz.prog 8 #[.string s] w fun e w' => ∃ v w1, e = .returned (.tuple #[v, .bool true]) ∧ Below w.heap.size w w1 ∧ Q w1 w' v ∧ Below w.heap.size w w' := by
  have H1 := Lib.hid HG
  have H2 := Lib.hid HP
  clear HG HP
  go_enter Tryz.func8, Tryz.ntmps8
  go_wp2_with fail
  refine (H1.out _).mono ?_
  rintro e w1 ⟨rfl, b1⟩
  go_wp2_with fail
  refine (H2.out _).mono ?_
  rintro e w2 ⟨v, rfl, q, b2⟩
  go_wp2_with fail
  go_ret2
  exact ⟨_, w1, rfl, b1, q, bw_go b1 b2⟩
theorem spec_some (s : ByteArray) (t : Tm) (hg : good s.data.toList = some t) (hm : s.size ≤ 9223372036854775807) : SOut 8 #[.string s] (t.parts.map S) true := fun w => by
  obtain ⟨es, hL, hE, h300, h60⟩ := good_S hg
  have hP := tmParts_any t hE (by omega)
  rw [← es] at hP
  refine (spec0 s (fun _ _ _ => True) (fun w => tmGood_some hg w hm) .nilIface (fun w w' v => ∃ g, SRow w' v g (t.parts.map S) ∧ w.heap.size ≤ g) (fun w => (hP w).mono fun e w' h => ?_) w).mono fun e w' ⟨v, w1, h1, h2, ⟨g, h3, h4⟩, h5⟩ => ⟨v, g, h1, h3, Nat.le_trans h2.size h4, h5⟩
  rcases parts_cases t with h1 | ⟨p, h1⟩ | ⟨p, q, h1⟩
  · rw [h1] at h ⊢
    obtain ⟨rfl, b⟩ := h
    exact ⟨_, rfl, ⟨w.heap.size, srow_nil _ _, Nat.le_refl _⟩, b⟩
  · rw [h1] at h ⊢
    obtain ⟨g, rfl, h2, h3, b⟩ := h
    refine ⟨_, rfl, ⟨g, ⟨⟨_, _, rfl, fun _ => ⟨rfl, _, h3, fun j hj => ?_⟩⟩⟩, h2⟩, b⟩
    match j, hj with
    | 0, _ => rfl
  · rw [h1] at h ⊢
    obtain ⟨g, rfl, h2, h3, b⟩ := h
    refine ⟨_, rfl, ⟨g, ⟨⟨_, _, rfl, fun _ => ⟨rfl, _, h3, fun j hj => ?_⟩⟩⟩, h2⟩, b⟩
    match j, hj with
    | 0, _ => rfl
    | 1, _ => rfl
set_option maxHeartbeats 4000000 in
theorem tx_0   (w : World) : Calls Tryz.prog 51 #[.slice none 0 0] w (fun e w' => ∃ vz g, e = .returned vz ∧ SRow w' vz g [] ∧ w.heap.size ≤ g ∧ Below w.heap.size w w') := by
  obtain ⟨i0, hi, hz0, hz1, hz2⟩ := info_parts Tryz.infoS
  have bl : Below w.heap.size w w := Below.refl _ _
  go_enter Tryz.func51, Tryz.ntmps51
  go_wp2_with fail
  refine wp_loop_rounds 1 ?_
  rw [rounds_succ]
  go_wp2_with fail
  go_ret
  exact ⟨_, w.heap.size, rfl, srow_nil _ _, Nat.le_refl _, bl⟩
set_option maxHeartbeats 4000000 in
theorem tx_1 (tu : TypeId) (vu : Value) (u : ByteArray) (HXu : ∀ w, Calls Tryz.prog 60 #[.iface tu vu] w fun e w' => e = .returned (.string u) ∧ Below w.heap.size w w') (b : Nat) (w : World) (hh : w.heap[b]? = some (.cells #[.iface tu vu] 46 (0, 0))) : Calls Tryz.prog 51 #[.slice (some ⟨b, 0, none⟩) 1 1] w (fun e w' => ∃ vz g, e = .returned vz ∧ SRow w' vz g [u] ∧ w.heap.size ≤ g ∧ Below w.heap.size w w') := by
  obtain ⟨i0, hi, hz0, hz1, hz2⟩ := info_parts Tryz.infoS
  have HXu' := Lib.hid HXu
  clear HXu
  have bl : Below w.heap.size w w := Below.refl _ _
  have c0 := cellOf1 hh
  have Hh := Lib.hid hh
  clear hh
  go_enter Tryz.func51, Tryz.ntmps51
  go_wp2_with fail
  refine wp_loop_rounds 2 ?_
  rw [rounds_succ]
  go_wp2_with fail
  refine (HXu'.out _).mono ?_
  rintro e w3 ⟨rfl, d0⟩
  replace bl := bw_go bl d0
  have own0 : w3.ownsRow w.heap.size 9 1 (.slice none 0 0) 0 [] := World.ownsRow_nil _ _ _ _
  have HO0 := Lib.hid own0
  have h0 := (d0.block b (lt_of_block Hh.out)).trans Hh.out
  have G0 := Lib.hid h0
  clear own0  c0 h0
  go_wp2_with (at_builtin; refine wpList_append_own _ rfl (.tmp 12) (.tmp 15) 25 rfl w.heap.size 9 i0 (.string ⟨#[]⟩) 1 16 Tryz.underlying25 hi hz0 hz1 hz2 rfl (by decide) _ _ _ rfl (HO0.out.alloc _) ⟨w3.heap.size, 0, none⟩ 1 1 [.string u] rfl rfl (cell_row w3 [.string u] 9) (fun u hu => by simp at hu; subst hu; rfl) ?c02 ?c03 ?c04 ?_)
  case c02 => first | (unfold maxLen; omega) | decide
  case c03 => first | omega | decide
  case c04 => have := bl.size; simp; omega
  intro v1 w4 hown0 hgrow0 _
  have blw4 : Below w.heap.size w w4 := Below.grown (bl.alloc bl.size _) hgrow0 (by have := bl.size; simp; omega) (fun j hj => by
    rcases HO0.out.2 with ⟨hq, _⟩ | ⟨g, cap, cur, hq, h1, _⟩
    · rw [hq] at hj; simp [Value.ownBlock] at hj
    · rw [hq] at hj; simp [Value.ownBlock] at hj; omega)
  clear bl
  have bl := blw4
  have own1x : w4.ownsRow w.heap.size 9 1 v1 1 [.string u] := hown0
  clear hown0 hgrow0
  have OX := Lib.hid own1x
  clear own1x
  go_wp2_with fail
  rw [rounds_succ]
  go_wp2_with fail
  go_ret
  obtain ⟨g, hg, hs⟩ := srow_own (xs := [u]) OX.out
  exact ⟨_, g, rfl, hs, hg, bl⟩
set_option maxHeartbeats 4000000 in
theorem tx_2 (tu : TypeId) (vu : Value) (u : ByteArray) (tv : TypeId) (vv : Value) (v : ByteArray) (HXu : ∀ w, Calls Tryz.prog 60 #[.iface tu vu] w fun e w' => e = .returned (.string u) ∧ Below w.heap.size w w') (HXv : ∀ w, Calls Tryz.prog 60 #[.iface tv vv] w fun e w' => e = .returned (.string v) ∧ Below w.heap.size w w') (b : Nat) (w : World) (hh : w.heap[b]? = some (.cells #[.iface tu vu, .iface tv vv] 46 (0, 0))) : Calls Tryz.prog 51 #[.slice (some ⟨b, 0, none⟩) 2 2] w (fun e w' => ∃ vz g, e = .returned vz ∧ SRow w' vz g [u, v] ∧ w.heap.size ≤ g ∧ Below w.heap.size w w') := by
  obtain ⟨i0, hi, hz0, hz1, hz2⟩ := info_parts Tryz.infoS
  have HXu' := Lib.hid HXu
  have HXv' := Lib.hid HXv
  clear HXu HXv
  have bl : Below w.heap.size w w := Below.refl _ _
  have c0 := cellOf2a hh
  have Hh := Lib.hid hh
  clear hh
  go_enter Tryz.func51, Tryz.ntmps51
  go_wp2_with fail
  refine wp_loop_rounds 3 ?_
  rw [rounds_succ]
  go_wp2_with fail
  refine (HXu'.out _).mono ?_
  rintro e w3 ⟨rfl, d0⟩
  replace bl := bw_go bl d0
  have own0 : w3.ownsRow w.heap.size 9 1 (.slice none 0 0) 0 [] := World.ownsRow_nil _ _ _ _
  have HO0 := Lib.hid own0
  have h0 := (d0.block b (lt_of_block Hh.out)).trans Hh.out
  have G0 := Lib.hid h0
  clear own0  c0 h0
  go_wp2_with (at_builtin; refine wpList_append_own _ rfl (.tmp 12) (.tmp 15) 25 rfl w.heap.size 9 i0 (.string ⟨#[]⟩) 1 16 Tryz.underlying25 hi hz0 hz1 hz2 rfl (by decide) _ _ _ rfl (HO0.out.alloc _) ⟨w3.heap.size, 0, none⟩ 1 1 [.string u] rfl rfl (cell_row w3 [.string u] 9) (fun u hu => by simp at hu; subst hu; rfl) ?c02 ?c03 ?c04 ?_)
  case c02 => first | (unfold maxLen; omega) | decide
  case c03 => first | omega | decide
  case c04 => have := bl.size; simp; omega
  intro v1 w4 hown0 hgrow0 _
  have blw4 : Below w.heap.size w w4 := Below.grown (bl.alloc bl.size _) hgrow0 (by have := bl.size; simp; omega) (fun j hj => by
    rcases HO0.out.2 with ⟨hq, _⟩ | ⟨g, cap, cur, hq, h1, _⟩
    · rw [hq] at hj; simp [Value.ownBlock] at hj
    · rw [hq] at hj; simp [Value.ownBlock] at hj; omega)
  clear bl
  have bl := blw4
  have own1x : w4.ownsRow w.heap.size 9 1 v1 1 [.string u] := hown0
  have hbk : w4.heap[b]? = some (.cells #[.iface tu vu, .iface tv vv] 46 (0, 0)) := by
    have hb1 : b < w3.heap.size := lt_of_block G0.out
    have h1 : (w3.alloc (.cells #[.string u] 9)).heap[b]? = some (.cells #[.iface tu vu, .iface tv vv] 46 (0, 0)) := (((Below.refl _ _).alloc (Nat.le_refl _) (.cells #[.string u] 9)).block b hb1).trans G0.out
    exact (hgrow0.block b (by simp; omega) (by simp [Value.ownBlock])).trans h1
  have G0b := Lib.hid hbk
  have c1 := cellOf2b hbk
  clear hown0 hgrow0 hbk G0
  have G0 := Lib.hid G0b.out
  clear G0b
  go_wp2_with fail
  rw [rounds_succ]
  go_wp2_with fail
  refine (HXv'.out _).mono ?_
  rintro e w5 ⟨rfl, d1⟩
  replace bl := bw_go bl d1
  have own1 := owns_below own1x d1
  have HO1 := Lib.hid own1
  have h1 := (d1.block b (lt_of_block G0.out)).trans G0.out
  have G1 := Lib.hid h1
  clear own1 own1x c1 h1
  go_wp2_with (at_builtin; refine wpList_append_own _ rfl (.tmp 12) (.tmp 15) 25 rfl w.heap.size 9 i0 (.string ⟨#[]⟩) 1 16 Tryz.underlying25 hi hz0 hz1 hz2 rfl (by decide) _ _ _ rfl (HO1.out.alloc _) ⟨w5.heap.size, 0, none⟩ 1 1 [.string v] rfl rfl (cell_row w5 [.string v] 9) (fun u hu => by simp at hu; subst hu; rfl) ?c12 ?c13 ?c14 ?_)
  case c12 => first | (unfold maxLen; omega) | decide
  case c13 => first | omega | decide
  case c14 => have := bl.size; simp; omega
  intro v2 w6 hown1 hgrow1 _
  have blw6 : Below w.heap.size w w6 := Below.grown (bl.alloc bl.size _) hgrow1 (by have := bl.size; simp; omega) (fun j hj => by
    rcases HO1.out.2 with ⟨hq, _⟩ | ⟨g, cap, cur, hq, h1, _⟩
    · rw [hq] at hj; simp [Value.ownBlock] at hj
    · rw [hq] at hj; simp [Value.ownBlock] at hj; omega)
  clear bl
  have bl := blw6
  have own2x : w6.ownsRow w.heap.size 9 1 v2 2 [.string u, .string v] := hown1
  clear hown1 hgrow1
  have OX := Lib.hid own2x
  clear own2x
  go_wp2_with fail
  rw [rounds_succ]
  go_wp2_with fail
  go_ret
  obtain ⟨g, hg, hs⟩ := srow_own (xs := [u, v]) OX.out
  exact ⟨_, g, rfl, hs, hg, bl⟩
set_option maxHeartbeats 4000000 in
theorem im_0 (s : ByteArray) (T : TypeId) (V : Value) (hP : PartsFact T V []) (HG : ∀ w, Calls Tryz.prog 50 #[.string s] w fun e w' => e = .returned (.tuple #[.iface T V, .bool true]) ∧ Below w.heap.size w w') : SOut 7 #[.string s] [] true := fun w => by
  obtain ⟨F, RR, hm, hn, hc, hp⟩ := hP
  have HP := Lib.hid hp
  have HG' := Lib.hid HG
  clear hp HG
  go_enter Tryz.func7, Tryz.ntmps7
  go_wp2_with fail
  refine (HG'.out _).mono ?_
  rintro e w1 ⟨rfl, b1⟩
  go_wp2_with fail
  refine (HP.out _).mono ?_
  rintro e w2 ⟨rfl, b2⟩
  have bl := bw_go b1 b2
  have HTX := Lib.hid (tx_0 w2)
  go_wp2_with fail
  refine (HTX.out).mono ?_
  rintro e w3 ⟨vr, g, rfl, hs, hg, d0⟩
  have bl2 := bw_go bl d0
  have hgw := Nat.le_trans bl.size hg
  go_wp2_with fail
  go_ret2
  exact ⟨_, g, rfl, hs, hgw, bl2⟩
set_option maxHeartbeats 4000000 in
theorem im_1 (s : ByteArray) (T : TypeId) (V : Value) (tu : TypeId) (vu : Value) (u : ByteArray) (hP : ∃ (F : FuncId) (R : Value), (∀ n w, (method (n + 1) T V "loop.example/g01175/impl.parts").run Tryz.prog w = .ok (F, R) w) ∧ (∀ n w, (nilAhead (n + 1) T V "loop.example/g01175/impl.parts").run Tryz.prog w = .ok (some false) w) ∧ (∀ args w, (callFunc F args).run Tryz.prog w = .ok (.enter F args) w) ∧ ∀ w, Calls Tryz.prog F #[R] w fun e w' => ∃ b, e = .returned (.slice (some ⟨b, 0, none⟩) 1 1) ∧ w.heap.size ≤ b ∧ w'.heap[b]? = some (.cells #[.iface tu vu] 46 (0, 0)) ∧ Below w.heap.size w w') (HG : ∀ w, Calls Tryz.prog 50 #[.string s] w fun e w' => e = .returned (.tuple #[.iface T V, .bool true]) ∧ Below w.heap.size w w') (HXu : ∀ w, Calls Tryz.prog 60 #[.iface tu vu] w fun e w' => e = .returned (.string u) ∧ Below w.heap.size w w') : SOut 7 #[.string s] [u] true := fun w => by
  obtain ⟨F, RR, hm, hn, hc, hp⟩ := hP
  have HP := Lib.hid hp
  have HG' := Lib.hid HG
  have HXu' := Lib.hid HXu
  clear hp HG HXu
  go_enter Tryz.func7, Tryz.ntmps7
  go_wp2_with fail
  refine (HG'.out _).mono ?_
  rintro e w1 ⟨rfl, b1⟩
  go_wp2_with fail
  refine (HP.out _).mono ?_
  rintro e w2 ⟨b, rfl, hb, hh, b2⟩
  have bl := bw_go b1 b2
  have HT := tx_1 tu vu u HXu'.out b w2 hh
  have HTX := Lib.hid HT
  clear hh hb b1 b2 HT
  go_wp2_with fail
  refine (HTX.out).mono ?_
  rintro e w3 ⟨vr, g, rfl, hs, hg, d0⟩
  have bl2 := bw_go bl d0
  have hgw := Nat.le_trans bl.size hg
  go_wp2_with fail
  go_ret2
  exact ⟨_, g, rfl, hs, hgw, bl2⟩
set_option maxHeartbeats 4000000 in
theorem im_2 (s : ByteArray) (T : TypeId) (V : Value) (tu : TypeId) (vu : Value) (u : ByteArray) (tv : TypeId) (vv : Value) (v : ByteArray) (hP : ∃ (F : FuncId) (R : Value), (∀ n w, (method (n + 1) T V "loop.example/g01175/impl.parts").run Tryz.prog w = .ok (F, R) w) ∧ (∀ n w, (nilAhead (n + 1) T V "loop.example/g01175/impl.parts").run Tryz.prog w = .ok (some false) w) ∧ (∀ args w, (callFunc F args).run Tryz.prog w = .ok (.enter F args) w) ∧ ∀ w, Calls Tryz.prog F #[R] w fun e w' => ∃ b, e = .returned (.slice (some ⟨b, 0, none⟩) 2 2) ∧ w.heap.size ≤ b ∧ w'.heap[b]? = some (.cells #[.iface tu vu, .iface tv vv] 46 (0, 0)) ∧ Below w.heap.size w w') (HG : ∀ w, Calls Tryz.prog 50 #[.string s] w fun e w' => e = .returned (.tuple #[.iface T V, .bool true]) ∧ Below w.heap.size w w') (HXu : ∀ w, Calls Tryz.prog 60 #[.iface tu vu] w fun e w' => e = .returned (.string u) ∧ Below w.heap.size w w') (HXv : ∀ w, Calls Tryz.prog 60 #[.iface tv vv] w fun e w' => e = .returned (.string v) ∧ Below w.heap.size w w') : SOut 7 #[.string s] [u, v] true := fun w => by
  obtain ⟨F, RR, hm, hn, hc, hp⟩ := hP
  have HP := Lib.hid hp
  have HG' := Lib.hid HG
  have HXu' := Lib.hid HXu
  have HXv' := Lib.hid HXv
  clear hp HG HXu HXv
  go_enter Tryz.func7, Tryz.ntmps7
  go_wp2_with fail
  refine (HG'.out _).mono ?_
  rintro e w1 ⟨rfl, b1⟩
  go_wp2_with fail
  refine (HP.out _).mono ?_
  rintro e w2 ⟨b, rfl, hb, hh, b2⟩
  have bl := bw_go b1 b2
  have HT := tx_2 tu vu u tv vv v HXu'.out HXv'.out b w2 hh
  have HTX := Lib.hid HT
  clear hh hb b1 b2 HT
  go_wp2_with fail
  refine (HTX.out).mono ?_
  rintro e w3 ⟨vr, g, rfl, hs, hg, d0⟩
  have bl2 := bw_go bl d0
  have hgw := Nat.le_trans bl.size hg
  go_wp2_with fail
  go_ret2
  exact ⟨_, g, rfl, hs, hgw, bl2⟩
theorem impl_some (s : ByteArray) (t : Tm) (hg : good s.data.toList = some t) (hm : s.size ≤ 9223372036854775807) : SOut 7 #[.string s] (t.parts.map S) true := by
  obtain ⟨es, hL, hE, h300, h60⟩ := good_S hg
  have hG := fun w => parse_some hg w hm
  have hpf := parts_fact t
  have hx : ∀ p ∈ t.parts, ∀ w, Calls Tryz.prog 60 #[.iface (tyOf p) (pay p)] w fun e w' => e = .returned (.string (S p)) ∧ Below w.heap.size w w' := fun p hp => textOf_any p (by have := (sub_parts t p hp).2; omega)
  rcases parts_cases t with h1 | ⟨p, h1⟩ | ⟨p, q, h1⟩
  · rw [h1] at hpf ⊢; exact im_0 s _ _ hpf hG
  · rw [h1] at hpf hx ⊢; exact im_1 s _ _ _ _ _ hpf.pf hG (hx p (by simp))
  · rw [h1] at hpf hx ⊢; exact im_2 s _ _ _ _ _ _ _ _ hpf.pf hG (hx p (by simp)) (hx q (by simp))
end LawPartsOf
end Go.Proofs.YtajgncapgeiniaaGreat
