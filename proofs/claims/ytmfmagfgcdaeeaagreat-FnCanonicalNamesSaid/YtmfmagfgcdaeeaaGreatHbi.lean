/- Texts of the proof, put together: Jb, Jc. No conditions. -/
import Derived.Test.YtmfmagfgcdaeeaaGreatHar
import Derived.Test.YtmfmagfgcdaeeaaGreatHau
import Derived.Test.YtmfmagfgcdaeeaaGreatHbh
import Derived.Deep.AppendLies
import Derived.Deep.RegionHeld3

/- The names at the front of a level, and its threads; the parts of a sum: in the program. -/
namespace Go.Proofs.YtmfmagfgcdaeeaaGreat.T1
open Go.RowKit
set_option maxRecDepth 100000
set_option linter.unusedVariables false
set_option linter.unusedSimpArgs false

theorem Tryz.infoSg : (Tryz.prog.info? 43).map (fun i => (i.zero, i.size, i.bytes)) = some (some .nilIface, 1, 16) := by kernel_rfl
def LvlP (fs : List UInt8) (ts : List Value) (w : World) (e : Ending) (w' : World) : Prop :=
  ∃ v1 v2, e = .returned (.tuple #[v1, v2]) ∧ w'.ownsRow w.heap.size 5 1 v1 fs.length (fs.map ub) ∧ w'.ownsRow w.heap.size 43 1 v2 ts.length ts ∧ Below w.heap.size w w'
def OneI (ts : List Value) : Prop := ∀ u ∈ ts, ∃ T V, u = .iface T V
theorem OneI.one {ts : List Value} (h : OneI ts) : ∀ u ∈ ts, u.oneCell' = true := fun u hu => by obtain ⟨T, V, rfl⟩ := h u hu; rfl
theorem ub_oneJ (fs : List UInt8) : ∀ u ∈ fs.map ub, u.oneCell' = true := fun u hu => by obtain ⟨c, _, rfl⟩ := List.mem_map.1 hu; rfl
theorem u8_ne_sign : (5 : TypeId) ≠ 43 := by decide

set_option maxHeartbeats 1000000 in
theorem lv_nil (w : World) : Calls Tryz.prog 86 #[.iface 132 (.agg #[])] w (LvlP [] [] w) := by
  go_enter Tryz.func86, Tryz.ntmps86
  go_wp2_with fail
  go_ret2
  exact ⟨_, _, rfl, World.ownsRow_nil _ _ _ _, World.ownsRow_nil _ _ _ _, (Below.refl _ _).alloc (Nat.le_refl _) _⟩
set_option maxHeartbeats 1000000 in
theorem lv_send (n0 n1 : Int) (tz : TypeId) (vz : Value) (w : World) : Calls Tryz.prog 86 #[.iface 144 (.agg #[.int .u8 n0, .int .u8 n1, .iface tz vz])] w (LvlP [] [.iface 144 (.agg #[.int .u8 n0, .int .u8 n1, .iface tz vz])] w) := by
  go_enter Tryz.func86, Tryz.ntmps86
  go_wp2_with fail
  go_ret2
  exact ⟨_, _, rfl, World.ownsRow_nil _ _ _ _, own_new1 _ _ _ _ (Nat.le_refl _), (Below.refl _ _).alloc (Nat.le_refl _) _⟩
set_option maxHeartbeats 1000000 in
theorem lv_receive (n0 n1 : Int) (tz : TypeId) (vz : Value) (w : World) : Calls Tryz.prog 86 #[.iface 142 (.agg #[.int .u8 n0, .int .u8 n1, .iface tz vz])] w (LvlP [] [.iface 142 (.agg #[.int .u8 n0, .int .u8 n1, .iface tz vz])] w) := by
  go_enter Tryz.func86, Tryz.ntmps86
  go_wp2_with fail
  go_ret2
  exact ⟨_, _, rfl, World.ownsRow_nil _ _ _ _, own_new1 _ _ _ _ (Nat.le_refl _), (Below.refl _ _).alloc (Nat.le_refl _) _⟩
set_option maxHeartbeats 1000000 in
theorem lv_match (n0 n1 : Int) (tz : TypeId) (vz : Value) (w : World) : Calls Tryz.prog 86 #[.iface 146 (.agg #[.int .u8 n0, .int .u8 n1, .iface tz vz])] w (LvlP [] [.iface 146 (.agg #[.int .u8 n0, .int .u8 n1, .iface tz vz])] w) := by
  go_enter Tryz.func86, Tryz.ntmps86
  go_wp2_with fail
  go_ret2
  exact ⟨_, _, rfl, World.ownsRow_nil _ _ _ _, own_new1 _ _ _ _ (Nat.le_refl _), (Below.refl _ _).alloc (Nat.le_refl _) _⟩
set_option maxHeartbeats 1000000 in
theorem lv_silent (tz : TypeId) (vz : Value) (w : World) : Calls Tryz.prog 86 #[.iface 147 (.agg #[.iface tz vz])] w (LvlP [] [.iface 147 (.agg #[.iface tz vz])] w) := by
  go_enter Tryz.func86, Tryz.ntmps86
  go_wp2_with fail
  go_ret2
  exact ⟨_, _, rfl, World.ownsRow_nil _ _ _ _, own_new1 _ _ _ _ (Nat.le_refl _), (Below.refl _ _).alloc (Nat.le_refl _) _⟩
set_option maxHeartbeats 1000000 in
theorem lv_repeat (tz : TypeId) (vz : Value) (w : World) : Calls Tryz.prog 86 #[.iface 103 (.agg #[.iface tz vz])] w (LvlP [] [.iface 103 (.agg #[.iface tz vz])] w) := by
  go_enter Tryz.func86, Tryz.ntmps86
  go_wp2_with fail
  go_ret2
  exact ⟨_, _, rfl, World.ownsRow_nil _ _ _ _, own_new1 _ _ _ _ (Nat.le_refl _), (Below.refl _ _).alloc (Nat.le_refl _) _⟩
set_option maxHeartbeats 1000000 in
theorem lv_choice (tz ty : TypeId) (vz vy : Value) (w : World) : Calls Tryz.prog 86 #[.iface 93 (.agg #[.iface tz vz, .iface ty vy])] w (LvlP [] [.iface 93 (.agg #[.iface tz vz, .iface ty vy])] w) := by
  go_enter Tryz.func86, Tryz.ntmps86
  go_wp2_with fail
  go_ret2
  exact ⟨_, _, rfl, World.ownsRow_nil _ _ _ _, own_new1 _ _ _ _ (Nat.le_refl _), (Below.refl _ _).alloc (Nat.le_refl _) _⟩
set_option maxHeartbeats 4000000 in
theorem lvJ_own (x : UInt8) (tp : TypeId) (vp : Value) (fs : List UInt8) (ts : List Value) (hfl : fs.length ≤ 1000) (IH : ∀ w, Calls Tryz.prog 86 #[.iface tp vp] w (LvlP fs ts w)) (w : World) :
    Calls Tryz.prog 86 #[.iface 100 (.agg #[.int .u8 (x.toNat : Int), .iface tp vp])] w (LvlP (x :: fs) ts w) := by
  obtain ⟨i0, hi, hz0, hz1, hz2⟩ := info_parts Tryz.infoU8
  have IH' := Lib.hid IH
  clear IH
  obtain ⟨n0, hn0⟩ : ∃ n0 : Int, n0 = (x.toNat : Int) := ⟨_, rfl⟩
  have HN0 := Lib.hid hn0
  rw [← hn0]
  clear hn0
  go_enter Tryz.func86, Tryz.ntmps86
  obtain ⟨W, hW⟩ : ∃ W, W = w.alloc (.cells #[.int .u8 n0, .iface tp vp] 100) := ⟨_, rfl⟩
  have hbk : W.heap[w.heap.size]? = some (.cells #[.int .u8 n0, .iface tp vp] 100 (0, 0)) := by rw [hW]; exact new_block0 _ _
  have blW : Below w.heap.size w W := by rw [hW]; exact (Below.refl _ _).alloc (Nat.le_refl _) _
  have Hbk := Lib.hid hbk
  have k1 := cellOf2b hbk
  clear hbk
  go_wp2_with fail
  rw [← hW]
  clear hW
  refine (IH'.out _).mono ?_
  rintro e w1 ⟨v1, v2, rfl, o1, o2, b1⟩
  have h1 := row_below0 Hbk.out b1
  have k0 := cellOf2a h1
  have hws := blW.size
  have O1 := Lib.hid (own_bas2 o1 hws)
  have O2 := Lib.hid (own_bas2 o2 hws)
  have Bl := Lib.hid (below_go blW b1)
  have hbs := Bl.out.size
  have h2lt := Lib.hid o2.lt
  clear o1 o2 b1 h1 k1 blW hws
  go_wp2_with (at_builtin; refine wpList_append_rows rfl (.tmp 29) (.tmp 30) 22 rfl w.heap.size w.heap.size 5 i0 (.int .u8 0) 1 Tryz.underlying22 hi hz0 hz1 hz2 rfl _ 1 [.int .u8 n0] rfl (own_new1 w1 (.int .u8 n0) 5 w.heap.size hbs) v1 fs.length (fs.map ub) rfl (O1.out.alloc _) (ub_oneJ fs) ?c2 ?c3 ?c4 ?_)
  case c2 => unfold maxLen; omega
  case c3 => omega
  case c4 => first | omega | (simp; omega)
  intro v3 w3 hown3 hgrow3 _
  have O3 : Hid (w3.ownsRow w.heap.size 5 1 v3 (x :: fs).length ((x :: fs).map ub)) := by
    show World.ownsRow _ _ _ _ _ _ _
    rw [HN0.out, Nat.add_comm] at hown3
    exact hown3
  have O4 := Lib.hid (own_grown (O2.out.alloc _) hgrow3 (fun g hg e => by
    simp [Value.ownBlock] at e
    have := (h2lt.out g hg).2
    omega))
  have Bl3 := Lib.hid (below_grown2 (Bl.out.alloc hbs _) hgrow3 (fun g e => by simp [Value.ownBlock] at e; omega) (by simp; omega))
  clear hown3 hgrow3
  go_wp2_with fail
  go_ret2
  exact ⟨_, _, rfl, O3.out, O4.out, Bl3.out⟩
set_option maxHeartbeats 4000000 in
theorem lv_par (tp tq : TypeId) (vp vq : Value) (fs gs : List UInt8) (ts us : List Value) (hfl : fs.length ≤ 1000) (hgl : gs.length ≤ 1000) (htl : ts.length ≤ 1000) (hul : us.length ≤ 1000) (hi1 : OneI us) (IH : ∀ w, Calls Tryz.prog 86 #[.iface tp vp] w (LvlP fs ts w)) (IH2 : ∀ w, Calls Tryz.prog 86 #[.iface tq vq] w (LvlP gs us w)) (w : World) :
    Calls Tryz.prog 86 #[.iface 92 (.agg #[.iface tp vp, .iface tq vq])] w (LvlP (fs ++ gs) (ts ++ us) w) := by
  obtain ⟨i0, hi, hz0, hz1, hz2⟩ := info_parts Tryz.infoU8
  obtain ⟨j0, hj, hy0, hy1, hy2⟩ := info_parts Tryz.infoSg
  have IH' := Lib.hid IH
  have IH2' := Lib.hid IH2
  have HI1 := Lib.hid hi1
  clear IH IH2 hi1
  go_enter Tryz.func86, Tryz.ntmps86
  obtain ⟨W, hW⟩ : ∃ W, W = w.alloc (.cells #[.iface tp vp, .iface tq vq] 92) := ⟨_, rfl⟩
  have hbk : W.heap[w.heap.size]? = some (.cells #[.iface tp vp, .iface tq vq] 92 (0, 0)) := by rw [hW]; exact new_block0 _ _
  have blW : Below w.heap.size w W := by rw [hW]; exact (Below.refl _ _).alloc (Nat.le_refl _) _
  have Hbk := Lib.hid hbk
  have k0 := cellOf2a hbk
  clear hbk
  go_wp2_with fail
  rw [← hW]
  clear hW
  refine (IH'.out _).mono ?_
  rintro e w1 ⟨v1, v2, rfl, o1, o2, b1⟩
  have h1 := row_below0 Hbk.out b1
  have k1 := cellOf2b h1
  have hws := blW.size
  have O1 := Lib.hid (own_bas2 o1 hws)
  have O2 := Lib.hid (own_bas2 o2 hws)
  have Bl := Lib.hid (below_go blW b1)
  clear o1 o2 b1 h1 k0 blW hws
  go_wp2_with fail
  refine (IH2'.out _).mono ?_
  rintro e w2 ⟨u1, u2, rfl, p1, p2, b2⟩
  have hws := Bl.out.size
  have P1 := Lib.hid (own_bas2 p1 hws)
  have P2 := Lib.hid (own_bas2 p2 hws)
  have Q1 := Lib.hid (own_below2 O1.out b2)
  have Q2 := Lib.hid (own_below2 O2.out b2)
  have Bl2 := Lib.hid (below_go Bl.out b2)
  have hbs := Bl2.out.size
  clear p1 p2 b2 k1 hws O1 O2 Bl
  go_wp2_with (at_builtin; refine wpList_append_rows rfl (.tmp 50) (.tmp 51) 22 rfl w.heap.size w.heap.size 5 i0 (.int .u8 0) 1 Tryz.underlying22 hi hz0 hz1 hz2 rfl v1 fs.length (fs.map ub) rfl Q1.out u1 gs.length (gs.map ub) rfl P1.out (ub_oneJ gs) ?c2 ?c3 hbs ?_)
  case c2 => unfold maxLen; omega
  case c3 => omega
  intro v3 w3 hown3 hgrow3 _
  have O3 : Hid (w3.ownsRow w.heap.size 5 1 v3 (fs ++ gs).length ((fs ++ gs).map ub)) := by
    show World.ownsRow _ _ _ _ _ _ _
    rw [List.length_append, List.map_append]; exact hown3
  have R2 := Lib.hid (own_grown Q2.out hgrow3 (fun g hg e => own_apart u8_ne_sign Q1.out Q2.out g e hg))
  have S2 := Lib.hid (own_grown P2.out hgrow3 (fun g hg e => own_apart u8_ne_sign Q1.out P2.out g e hg))
  have Bl3 := Lib.hid (below_grown2 Bl2.out hgrow3 (fun g e => (Q1.out.lt g e).1) hbs)
  have hbs3 := Bl3.out.size
  clear hown3 hgrow3 Q1 Q2 P1 P2 Bl2
  go_wp2_with (at_builtin; refine wpList_append_rows rfl (.tmp 53) (.tmp 54) 71 rfl w.heap.size w.heap.size 43 j0 .nilIface 16 Tryz.underlying71 hj hy0 hy1 hy2 rfl v2 ts.length ts rfl R2.out u2 us.length us rfl S2.out HI1.out.one ?c5 ?c6 hbs3 ?_)
  case c5 => unfold maxLen; omega
  case c6 => omega
  intro v4 w4 hown4 hgrow4 _
  have O4 : Hid (w4.ownsRow w.heap.size 43 1 v4 (ts ++ us).length (ts ++ us)) := by
    show World.ownsRow _ _ _ _ _ _ _
    rw [List.length_append]; exact hown4
  have O5 := Lib.hid (own_grown O3.out hgrow4 (fun g hg e => own_apart u8_ne_sign O3.out R2.out g hg e))
  have Bl4 := Lib.hid (below_grown2 Bl3.out hgrow4 (fun g e => (R2.out.lt g e).1) hbs3)
  clear hown4 hgrow4
  go_wp2_with fail
  go_ret2
  exact ⟨_, _, rfl, O5.out, O4.out, Bl4.out⟩
theorem enc_one (ts : List Tm) : OneI (ts.map enc) := fun u hu => by obtain ⟨t, _, rfl⟩ := List.mem_map.1 hu; exact ⟨_, _, rfl⟩
theorem lvl_wt (t : Tm) : (lvl t).1.length + (lvl t).2.length ≤ t.size := by
  induction t with
  | own x p ih => simp only [lvl, List.length_cons, Tm.size]; omega
  | par p q ih ih2 => simp only [lvl, List.length_append, Tm.size]; omega
  | nil => simp [lvl, Tm.size]
  | snd a b p => simp only [lvl, List.length_cons, List.length_nil, Tm.size]; omega
  | rcv a b p => simp only [lvl, List.length_cons, List.length_nil, Tm.size]; omega
  | mat a b p => simp only [lvl, List.length_cons, List.length_nil, Tm.size]; omega
  | tau p => simp only [lvl, List.length_cons, List.length_nil, Tm.size]; omega
  | rep p => simp only [lvl, List.length_cons, List.length_nil, Tm.size]; omega
  | sum p q => simp only [lvl, List.length_cons, List.length_nil, Tm.size]; omega
theorem levelOf_any (t : Tm) : t.size ≤ 1000 → ∀ w, Calls Tryz.prog 86 #[.iface (tyOf t) (pay t)] w (LvlP (lvl t).1 ((lvl t).2.map enc) w) := by
  induction t with
  | nil => intro _ w; exact lv_nil w
  | snd a b p => intro _ w; exact lv_send _ _ _ _ w
  | rcv a b p => intro _ w; exact lv_receive _ _ _ _ w
  | mat a b p => intro _ w; exact lv_match _ _ _ _ w
  | tau p => intro _ w; exact lv_silent _ _ w
  | rep p => intro _ w; exact lv_repeat _ _ w
  | sum p q => intro _ w; exact lv_choice _ _ _ _ w
  | own x p ih =>
    intro h w
    simp only [Tm.size] at h
    have := lvl_wt p
    exact lvJ_own x _ _ _ _ (by omega) (ih (by omega)) w
  | par p q ih ih2 =>
    intro h w
    simp only [Tm.size] at h
    have h1 := lvl_wt p
    have h2 := lvl_wt q
    have := lv_par (tyOf p) (tyOf q) (pay p) (pay q) _ _ _ _ (by omega) (by omega) (by rw [List.length_map]; omega) (by rw [List.length_map]; omega) (enc_one _) (ih (by omega)) (ih2 (by omega)) w
    rw [← List.map_append] at this
    exact this

end Go.Proofs.YtmfmagfgcdaeeaaGreat.T1

/- Whether letters are enough; the parts of a sum: in the program. -/
namespace Go.Proofs.YtmfmagfgcdaeeaaGreat.T1
open Go.RowKit
set_option maxRecDepth 100000
set_option linter.unusedVariables false
set_option linter.unusedSimpArgs false

theorem own_form {w : World} {base n : Nat} {e : TypeId} {v : Value} {xs : List Value} (h : w.ownsRow base e 1 v n xs) : ∃ p cap, v = .slice p n cap := by
  rcases h.2 with ⟨h1, h2⟩ | ⟨g, cap, cur, h1, _⟩
  · exact ⟨_, _, by rw [h1, h2]⟩
  · exact ⟨_, _, h1⟩
theorem own_at {w : World} {base n cap : Nat} {e : TypeId} {p : Option Addr} {xs : List Value} (h : w.ownsRow base e 1 (.slice p n cap) n xs) (hn : 0 < n) : ∃ g, p = some ⟨g, 0, none⟩ ∧ base ≤ g ∧ g < w.heap.size ∧ n ≤ cap ∧ ∀ j u, xs[j]? = some u → w.cell? ⟨g, j, none⟩ = some u := by
  rcases h.2 with ⟨h1, h2⟩ | ⟨g, cap', cur, h1, h2, h3, h4, _⟩
  · omega
  · have h1' := h1
    injection h1 with e1 e2 e3
    subst e1
    refine ⟨g, rfl, h2, lt_of_block h3, by omega, fun j u hj => ?_⟩
    have := own_cells h j u hj
    rw [add0] at this
    exact this
def cbN (t : Tm) : Nat := if t.binds.isSome then 1 else 0
set_option maxHeartbeats 1000000 in
theorem cb_none (T : TypeId) (V : Value) (HB : ∀ w, Calls Tryz.prog 112 #[.iface T V] w fun e w' => e = .returned (.tuple #[.int .u8 0, .bool false]) ∧ Below w.heap.size w w') (w : World) : Calls Tryz.prog 178 #[.iface T V] w fun e w' => e = .returned (.int .i64 0) ∧ Below w.heap.size w w' := by
  have H := Lib.hid HB
  clear HB
  go_enter Tryz.func178, Tryz.ntmps178
  go_wp2_with fail
  refine (H.out _).mono ?_
  rintro e w1 ⟨rfl, b1⟩
  go_wp2_with fail
  go_ret
  exact ⟨rfl, b1⟩
set_option maxHeartbeats 1000000 in
theorem cb_some (T : TypeId) (V : Value) (x : Int) (HB : ∀ w, Calls Tryz.prog 112 #[.iface T V] w fun e w' => e = .returned (.tuple #[.int .u8 x, .bool true]) ∧ Below w.heap.size w w') (w : World) : Calls Tryz.prog 178 #[.iface T V] w fun e w' => e = .returned (.int .i64 1) ∧ Below w.heap.size w w' := by
  have H := Lib.hid HB
  clear HB
  go_enter Tryz.func178, Tryz.ntmps178
  go_wp2_with fail
  refine (H.out _).mono ?_
  rintro e w1 ⟨rfl, b1⟩
  go_wp2_with fail
  go_ret
  exact ⟨rfl, b1⟩
theorem countBinder_any (t : Tm) (w : World) : Calls Tryz.prog 178 #[.iface (tyOf t) (pay t)] w fun e w' => e = .returned (.int .i64 (cbN t : Nat)) ∧ Below w.heap.size w w' := by
  have HB := binderOf_any t
  unfold cbN
  cases h : t.binds with
  | none => rw [h] at HB; exact cb_none _ _ HB w
  | some x => rw [h] at HB; exact cb_some _ _ _ HB w

-- the parts of a sum
def SumP (ts : List Value) (w : World) (e : Ending) (w' : World) : Prop := ∃ g cap, e = .returned (.slice (some ⟨g, 0, none⟩) ts.length cap) ∧ w'.ownsRow w.heap.size 43 1 (.slice (some ⟨g, 0, none⟩) ts.length cap) ts.length ts ∧ Below w.heap.size w w'
set_option maxHeartbeats 4000000 in
theorem su_sum (tp tq : TypeId) (vp vq : Value) (ts us : List Value) (htl : ts.length ≤ 1000) (hul : us.length ≤ 1000) (hu0 : 0 < us.length) (hi1 : OneI us) (IH : ∀ w, Calls Tryz.prog 99 #[.iface tp vp] w (SumP ts w)) (IH2 : ∀ w, Calls Tryz.prog 99 #[.iface tq vq] w (SumP us w)) (w : World) :
    Calls Tryz.prog 99 #[.iface 93 (.agg #[.iface tp vp, .iface tq vq])] w (SumP (ts ++ us) w) := by
  obtain ⟨j0, hj, hy0, hy1, hy2⟩ := info_parts Tryz.infoSg
  have IH' := Lib.hid IH
  have IH2' := Lib.hid IH2
  have HI1 := Lib.hid hi1
  clear IH IH2 hi1
  go_enter Tryz.func99, Tryz.ntmps99
  obtain ⟨W, hW⟩ : ∃ W, W = w.alloc (.cells #[.iface tp vp, .iface tq vq] 93) := ⟨_, rfl⟩
  have hbk : W.heap[w.heap.size]? = some (.cells #[.iface tp vp, .iface tq vq] 93 (0, 0)) := by rw [hW]; exact new_block0 _ _
  have blW : Below w.heap.size w W := by rw [hW]; exact (Below.refl _ _).alloc (Nat.le_refl _) _
  have Hbk := Lib.hid hbk
  have k0 := cellOf2a hbk
  have k1 := cellOf2b hbk
  clear hbk
  go_wp2_with fail
  rw [← hW]
  clear hW
  have hlW : w.heap.size < W.heap.size := lt_of_block Hbk.out
  have hbW := blW.size
  go_region_held3 (fun w' => w'.cell? ⟨w.heap.size, 0, none⟩ = some (.iface tp vp) ∧ w'.cell? ⟨w.heap.size, 1, none⟩ = some (.iface tq vq)) (first | exact ⟨k0, k1⟩ | exact ⟨y0, y1⟩ | exact ⟨z0, z1⟩ | exact ⟨r0, r1⟩)
    ((first
      | (go_at_call_of 99 tp; (with_reducible refine (IH'.out _).mono ?_); rintro e w1 ⟨g1, c1, rfl, o1, b1⟩; have h1 := row_below0 (w := W.drew) Hbk.out b1; have r0 := cellOf2a h1; have r1 := cellOf2b h1; have O1 := Lib.hid (own_bas2 (b2 := W.heap.size) o1 (Nat.le_refl _)); have B1 := Lib.hid (below_go blW.drew b1); have hz1 : W.heap.size ≤ w1.heap.size := b1.size; clear o1 b1 h1)
      | (go_at_call_of 99 tq; (with_reducible refine (IH2'.out _).mono ?_); rintro e w2 ⟨g2, c2, rfl, o2, b2⟩; have z0 := (b2.cell (p := ⟨w.heap.size, 0, none⟩) (lt_cell r0)).trans r0; have z1 := (b2.cell (p := ⟨w.heap.size, 1, none⟩) (lt_cell r1)).trans r1; have O2 := Lib.hid (own_bas2 (b2 := W.heap.size) o2 hz1); have Q1 := Lib.hid (own_below2 O1.out b2); have B2 := Lib.hid (below_go B1.out b2); have hz2 : W.heap.size ≤ w2.heap.size := Nat.le_trans hz1 b2.size; clear o2 b2)
      | (refine step_append_lies _ (by rfl) (.tmp 17) (.tmp 21) _ (by rfl) W.heap.size 43 j0 .nilIface 1 16 Tryz.underlying71 hj hy0 hy1 hy2 (by rfl) (by omega) _ ts.length ts (by rfl) Q1.out ⟨g2, 0, none⟩ us.length c2 us (by rfl) (by omega) (own_cells O2.out) HI1.out.one hu0 (by unfold maxLen; omega) (by omega) hz2 _ rfl ?_
         intro g3 c3 w3 hown3 hgrow3 hat3 hlt3
         have hne3 : (some w.heap.size : Option Nat) ≠ (Value.slice (some ⟨g1, 0, none⟩) ts.length c1).ownBlock := fun e => by
           have := (Q1.out.lt _ e.symm).1
           omega
         have y0 := hgrow3.cell z0 hne3
         have y1 := hgrow3.cell z1 hne3
         have O3 := Lib.hid hown3
         have B3 := Lib.hid (below_grown2 B2.out hgrow3 (fun g e => Nat.le_trans hbW (Q1.out.lt g e).1) (Nat.le_trans hbW hz2))
         clear hown3 hgrow3)
      | fail))
  go_wp2_with fail
  go_ret
  refine ⟨g3, c3, by rw [List.length_append]; rfl, ?_, B3.out⟩
  have := own_bas2 O3.out hbW
  rw [List.length_append]; exact this
theorem own_new2 (w : World) (o : Obj) (x : Value) (T : TypeId) (base : Nat) (hb : base ≤ w.heap.size + 1) : ((w.alloc o).alloc (.cells #[x] T)).ownsRow base T 1 (.slice (some ⟨w.heap.size + 1, 0, none⟩) 1 1) 1 [x] := by
  have e : (w.alloc o).heap.size = w.heap.size + 1 := by simp
  have := own_new1 (w.alloc o) x T base (by omega)
  rw [e] at this
  exact this
set_option maxHeartbeats 1000000 in
theorem su_nothing  (w : World) : Calls Tryz.prog 99 #[.iface 132 (.agg #[])] w (SumP [.iface 132 (.agg #[])] w) := by
  go_enter Tryz.func99, Tryz.ntmps99
  go_wp2_with fail
  go_ret
  exact ⟨_, _, rfl, own_new2 _ _ _ _ _ (by omega), ((Below.refl _ _).alloc (Nat.le_refl _) _).alloc (Below.size ((Below.refl w.heap.size w).alloc (Nat.le_refl _) _)) _⟩
set_option maxHeartbeats 1000000 in
theorem su_send (n0 n1 : Int) (tz : TypeId) (vz : Value) (w : World) : Calls Tryz.prog 99 #[.iface 144 (.agg #[.int .u8 n0, .int .u8 n1, .iface tz vz])] w (SumP [.iface 144 (.agg #[.int .u8 n0, .int .u8 n1, .iface tz vz])] w) := by
  go_enter Tryz.func99, Tryz.ntmps99
  go_wp2_with fail
  go_ret
  exact ⟨_, _, rfl, own_new2 _ _ _ _ _ (by omega), ((Below.refl _ _).alloc (Nat.le_refl _) _).alloc (Below.size ((Below.refl w.heap.size w).alloc (Nat.le_refl _) _)) _⟩
set_option maxHeartbeats 1000000 in
theorem su_receive (n0 n1 : Int) (tz : TypeId) (vz : Value) (w : World) : Calls Tryz.prog 99 #[.iface 142 (.agg #[.int .u8 n0, .int .u8 n1, .iface tz vz])] w (SumP [.iface 142 (.agg #[.int .u8 n0, .int .u8 n1, .iface tz vz])] w) := by
  go_enter Tryz.func99, Tryz.ntmps99
  go_wp2_with fail
  go_ret
  exact ⟨_, _, rfl, own_new2 _ _ _ _ _ (by omega), ((Below.refl _ _).alloc (Nat.le_refl _) _).alloc (Below.size ((Below.refl w.heap.size w).alloc (Nat.le_refl _) _)) _⟩
set_option maxHeartbeats 1000000 in
theorem su_match (n0 n1 : Int) (tz : TypeId) (vz : Value) (w : World) : Calls Tryz.prog 99 #[.iface 146 (.agg #[.int .u8 n0, .int .u8 n1, .iface tz vz])] w (SumP [.iface 146 (.agg #[.int .u8 n0, .int .u8 n1, .iface tz vz])] w) := by
  go_enter Tryz.func99, Tryz.ntmps99
  go_wp2_with fail
  go_ret
  exact ⟨_, _, rfl, own_new2 _ _ _ _ _ (by omega), ((Below.refl _ _).alloc (Nat.le_refl _) _).alloc (Below.size ((Below.refl w.heap.size w).alloc (Nat.le_refl _) _)) _⟩
set_option maxHeartbeats 1000000 in
theorem su_own (n0 : Int) (tz : TypeId) (vz : Value) (w : World) : Calls Tryz.prog 99 #[.iface 100 (.agg #[.int .u8 n0, .iface tz vz])] w (SumP [.iface 100 (.agg #[.int .u8 n0, .iface tz vz])] w) := by
  go_enter Tryz.func99, Tryz.ntmps99
  go_wp2_with fail
  go_ret
  exact ⟨_, _, rfl, own_new2 _ _ _ _ _ (by omega), ((Below.refl _ _).alloc (Nat.le_refl _) _).alloc (Below.size ((Below.refl w.heap.size w).alloc (Nat.le_refl _) _)) _⟩
set_option maxHeartbeats 1000000 in
theorem su_silent (tz : TypeId) (vz : Value) (w : World) : Calls Tryz.prog 99 #[.iface 147 (.agg #[.iface tz vz])] w (SumP [.iface 147 (.agg #[.iface tz vz])] w) := by
  go_enter Tryz.func99, Tryz.ntmps99
  go_wp2_with fail
  go_ret
  exact ⟨_, _, rfl, own_new2 _ _ _ _ _ (by omega), ((Below.refl _ _).alloc (Nat.le_refl _) _).alloc (Below.size ((Below.refl w.heap.size w).alloc (Nat.le_refl _) _)) _⟩
set_option maxHeartbeats 1000000 in
theorem su_repeat (tz : TypeId) (vz : Value) (w : World) : Calls Tryz.prog 99 #[.iface 103 (.agg #[.iface tz vz])] w (SumP [.iface 103 (.agg #[.iface tz vz])] w) := by
  go_enter Tryz.func99, Tryz.ntmps99
  go_wp2_with fail
  go_ret
  exact ⟨_, _, rfl, own_new2 _ _ _ _ _ (by omega), ((Below.refl _ _).alloc (Nat.le_refl _) _).alloc (Below.size ((Below.refl w.heap.size w).alloc (Nat.le_refl _) _)) _⟩
set_option maxHeartbeats 1000000 in
theorem su_beside (tz ty : TypeId) (vz vy : Value) (w : World) : Calls Tryz.prog 99 #[.iface 92 (.agg #[.iface tz vz, .iface ty vy])] w (SumP [.iface 92 (.agg #[.iface tz vz, .iface ty vy])] w) := by
  go_enter Tryz.func99, Tryz.ntmps99
  go_wp2_with fail
  go_ret
  exact ⟨_, _, rfl, own_new2 _ _ _ _ _ (by omega), ((Below.refl _ _).alloc (Nat.le_refl _) _).alloc (Below.size ((Below.refl w.heap.size w).alloc (Nat.le_refl _) _)) _⟩
theorem smds_pos (t : Tm) : 0 < (smds t).length ∧ (smds t).length ≤ t.size := by
  induction t with
  | sum p q ih ih2 => simp only [smds, List.length_append, Tm.size]; omega
  | nil => simp [smds, Tm.size]
  | _ => simp only [smds, List.length_cons, List.length_nil, Tm.size] <;> omega
theorem summandsOf_any (t : Tm) : t.size ≤ 1000 → ∀ w, Calls Tryz.prog 99 #[.iface (tyOf t) (pay t)] w (SumP ((smds t).map enc) w) := by
  induction t with
  | nil => intro _ w; exact su_nothing w
  | snd a b p => intro _ w; exact su_send _ _ _ _ w
  | rcv a b p => intro _ w; exact su_receive _ _ _ _ w
  | mat a b p => intro _ w; exact su_match _ _ _ _ w
  | own a p => intro _ w; exact su_own _ _ _ w
  | tau p => intro _ w; exact su_silent _ _ w
  | rep p => intro _ w; exact su_repeat _ _ w
  | par p q => intro _ w; exact su_beside _ _ _ _ w
  | sum p q ih ih2 =>
    intro h w
    simp only [Tm.size] at h
    have h1 := smds_pos p
    have h2 := smds_pos q
    have := su_sum (tyOf p) (tyOf q) (pay p) (pay q) _ _ (by rw [List.length_map]; omega) (by rw [List.length_map]; omega) (by rw [List.length_map]; omega) (enc_one _) (ih (by omega)) (ih2 (by omega)) w
    rw [← List.map_append] at this
    exact this

-- whether letters are enough
def fitT1 (T : Tm) (k : Nat) : Bool := decide (cbN T ≤ k) && T.parts.all fun p => fl p (k - cbN T)
set_option maxHeartbeats 8000000 in
theorem fits_walk (S0 : Tm) (k : Nat) (hk : k ≤ 1000) (nf : List UInt8) (TS : List Tm) (hnf : nf.length ≤ 1000) (hTS : TS.length ≤ 1000) (Z : Bool) (hz1 : (5 < nf.length ∨ k < nf.length) → Z = false) (hz2 : ¬ (5 < nf.length ∨ k < nf.length) → Z = TS.all fun T => fitT1 T (k - nf.length))
    (hp : ∀ T ∈ TS, ∃ p, T.parts = [p] ∨ ∃ q, T.parts = [p, q])
    (HL : ∀ w, Calls Tryz.prog 86 #[.iface (tyOf S0) (pay S0)] w (LvlP nf (TS.map enc) w))
    (HF : ∀ T ∈ TS, ∀ p ∈ T.parts, ∀ j : Nat, j ≤ 1000 → ∀ w, Calls Tryz.prog 159 #[.iface (tyOf p) (pay p), .int .i64 (j : Int)] w fun e w' => e = .returned (.bool (fl p j)) ∧ Below w.heap.size w w') (w : World) :
    Calls Tryz.prog 159 #[.iface (tyOf S0) (pay S0), .int .i64 (k : Int)] w fun e w' => e = .returned (.bool Z) ∧ Below w.heap.size w w' := by
  have HL' := Lib.hid HL
  have HF' := Lib.hid HF
  have HZ1 := Lib.hid hz1
  have HZ2 := Lib.hid hz2
  have HP := Lib.hid hp
  clear HL HF hz1 hz2 hp
  obtain ⟨T0, hT0⟩ : ∃ T0, T0 = tyOf S0 := ⟨_, rfl⟩
  obtain ⟨V0, hV0⟩ : ∃ V0, V0 = pay S0 := ⟨_, rfl⟩
  rw [← hT0, ← hV0] at HL' ⊢
  clear hT0 hV0
  go_enter Tryz.func159, Tryz.ntmps159
  go_wp2_with fail
  refine (HL'.out _).mono ?_
  rintro e w1 ⟨v1, v2, rfl, o1, o2, b1⟩
  obtain ⟨p1, c1, rfl⟩ := own_form o1
  obtain ⟨p2, c2, rfl⟩ := own_form o2
  have O2 := Lib.hid o2
  have B1 := Lib.hid b1
  clear o1 o2 b1
  rw [List.length_map] at O2 ⊢
  by_cases h5 : 5 < nf.length
  · have q5 : (5 : Int) < (nf.length : Int) := by omega
    have hZ := Lib.hid (HZ1.out (.inl h5))
    go_wp2_with fail
    go_ret
    exact ⟨by rw [hZ.out]; rfl, B1.out⟩
  · have q5 : ¬ (5 : Int) < (nf.length : Int) := by omega
    by_cases hkn : k < nf.length
    · have q6 : (k : Int) - (nf.length : Int) < 0 := by omega
      have hZ := Lib.hid (HZ1.out (.inr hkn))
      go_wp2_with fail
      go_ret
      exact ⟨by rw [hZ.out]; rfl, B1.out⟩
    · have hZ := Lib.hid (HZ2.out (by omega))
      have q6 : ¬ (k : Int) - (nf.length : Int) < 0 := by omega
      obtain ⟨K, hK⟩ : ∃ K : Nat, K = k - nf.length := ⟨_, rfl⟩
      have hKI : (k : Int) - (nf.length : Int) = (K : Int) := by omega
      rw [← hK] at hZ
      have hK1 : K ≤ 1000 := by omega
      have HKI := Lib.hid hKI
      clear hK hKI HZ1 HZ2
      go_wp2_with fail
      rw [HKI.out]
      go_loopw [30] (fun i wr => ∃ j : Nat, j ≤ TS.length ∧ i = .int .i64 (j : Int) ∧ Hid (∀ i (h : i < TS.length), i < j → fitT1 TS[i] K = true) ∧ Below w1.heap.size w1 wr) (fun i _ => TS.length - (intOf i).toNat)
      case atStart => exact ⟨0, Nat.zero_le _, rfl, fun _ _ h => by omega, Below.refl _ _⟩
      case round =>
        obtain ⟨j, hj, rfl, hal, hbw⟩ := hrel
        by_cases hlt : j < TS.length
        · obtain ⟨g, e1, _, hgl, _, hcl⟩ := own_at O2.out (by omega)
          subst e1
          obtain ⟨T, hT⟩ : ∃ T, T = TS[j] := ⟨_, rfl⟩
          have hTm : T ∈ TS := by rw [hT]; exact List.getElem_mem hlt
          have cj : wr.cell? ⟨g, j, none⟩ = some (.iface (tyOf T) (pay T)) := by
            rw [hbw.cell (p := ⟨g, j, none⟩) hgl]
            exact hcl j _ (by rw [List.getElem?_map, List.getElem?_eq_getElem hlt, hT]; rfl)
          have HCB := Lib.hid (countBinder_any T)
          have HFj := Lib.hid (HF'.out T hTm)
          have hpt := HP.out T hTm
          have hfd : Hid (fitT1 T K = (decide (cbN T ≤ K) && T.parts.all fun p => fl p (K - cbN T))) := rfl
          have hbad : Hid (fitT1 T K = false → Z = false) := fun h => by
            rw [hZ.out]
            cases hh : TS.all fun T => fitT1 T K with
            | false => rfl
            | true => rw [List.all_eq_true] at hh; rw [hh T hTm] at h; cases h
          have hgood : Hid (fitT1 T K = true → ∀ i (h : i < TS.length), i < j + 1 → fitT1 TS[i] K = true) := fun h i hi hij => by
            by_cases c : i = j
            · subst c; rw [← hT]; exact h
            · exact hal.out i hi (by omega)
          obtain ⟨F, RR, hm, hn, hc, hpp⟩ := (parts_fact T).pf
          have HPP := Lib.hid hpp
          obtain ⟨CB, hCB⟩ : ∃ CB, CB = cbN T := ⟨_, rfl⟩
          have hCB1 : CB ≤ 1 := by rw [hCB]; unfold cbN; split <;> omega
          obtain ⟨TT, hTT⟩ : ∃ TT, TT = tyOf T := ⟨_, rfl⟩
          obtain ⟨VV, hVV⟩ : ∃ VV, VV = pay T := ⟨_, rfl⟩
          rw [← hTT, ← hVV] at cj hm hn HCB
          rw [← hCB] at HCB hfd
          have Hb := Lib.hid hbw
          clear hpp hT hTm hcl hbw hal hTT hVV hCB
          go_wp2_with fail
          refine (HCB.out _).mono ?_
          rintro e w2 ⟨rfl, b2⟩
          have Hb2 := Lib.hid (Hb.out.trans (b2.mono Hb.out.size))
          clear b2 cj
          by_cases hcb : K < CB
          · have q7 : (K : Int) - (CB : Int) < 0 := by omega
            have hZf := Lib.hid (hbad.out (by rw [hfd.out, decide_eq_false (by omega)]; rfl))
            have Bf := Lib.hid (B1.out.trans (Hb2.out.mono B1.out.size))
            go_wp2_with fail
            go_ret
            exact ⟨by rw [hZf.out]; rfl, Bf.out⟩
          · have q7 : ¬ (K : Int) - (CB : Int) < 0 := by omega
            obtain ⟨M, hM⟩ : ∃ M : Nat, M = K - CB := ⟨_, rfl⟩
            have hMI := Lib.hid (show (K : Int) - (CB : Int) = (M : Int) by omega)
            have hM1 : M ≤ 1000 := by omega
            have hdc : decide (CB ≤ K) = true := decide_eq_true (by omega)
            rw [hdc, ← hM, Bool.true_and] at hfd
            clear hM hdc
            go_wp2_with fail
            rw [hMI.out]
            obtain ⟨p, hpq⟩ := hpt
            rcases hpq with hpq | ⟨q, hpq⟩
            · rw [hpq] at HPP hfd HFj
              have HF1 := Lib.hid (HFj.out p (by simp) M hM1)
              have hfd1 : Hid (fitT1 T K = fl p M) := by show _ = _; rw [hfd.out]; simp
              obtain ⟨bp, hbp⟩ : ∃ bp, bp = fl p M := ⟨_, rfl⟩
              obtain ⟨tp, htp⟩ : ∃ tp, tp = tyOf p := ⟨_, rfl⟩
              obtain ⟨vp, hvp⟩ : ∃ vp, vp = pay p := ⟨_, rfl⟩
              have HPP2 : Hid (∀ w, Calls Tryz.prog F #[RR] w fun e w' => ∃ b, e = .returned (.slice (some ⟨b, 0, none⟩) 1 1) ∧ w.heap.size ≤ b ∧ w'.heap[b]? = some (.cells #[.iface tp vp] 43 (0, 0)) ∧ Below w.heap.size w w') := by rw [htp, hvp]; exact HPP.out
              rw [← hbp] at HF1 hfd1
              rw [← htp, ← hvp] at HF1
              clear hbp htp hvp HPP hfd HFj hpq
              refine (HPP2.out _).mono ?_
              rintro e w3 ⟨b, rfl, hb, hh, b3⟩
              have Hb3 := Lib.hid (Hb2.out.trans (b3.mono Hb2.out.size))
              have d0 := cellOf1 hh
              clear hb hh b3
              go_wp2_with fail
              refine wp_loop_rounds 2 ?_
              rw [rounds_succ]
              go_wp2_with fail
              refine (HF1.out _).mono ?_
              rintro e w4 ⟨rfl, b4⟩
              have Hb4 := Lib.hid (Hb3.out.trans (b4.mono Hb3.out.size))
              clear b4 d0
              cases bp
              · have hZf := Lib.hid (hbad.out hfd1.out)
                have Bf := Lib.hid (B1.out.trans (Hb4.out.mono B1.out.size))
                go_wp2_with fail
                go_ret
                exact ⟨by rw [hZf.out]; rfl, Bf.out⟩
              · have hg2 := Lib.hid (hgood.out hfd1.out)
                go_wp2_with fail
                rw [rounds_succ]
                go_wp2_with fail
                go_roundw
                case rel => exact ⟨j + 1, by omega, by push_cast; rfl, hg2, Hb4.out⟩
                case measure => simp [intOf] <;> omega
            · rw [hpq] at HPP hfd HFj
              have HF1 := Lib.hid (HFj.out p (by simp) M hM1)
              have HF2 := Lib.hid (HFj.out q (by simp) M hM1)
              have hfd1 : Hid (fitT1 T K = (fl p M && fl q M)) := by show _ = _; rw [hfd.out]; simp
              obtain ⟨bp, hbp⟩ : ∃ bp, bp = fl p M := ⟨_, rfl⟩
              obtain ⟨bq, hbq⟩ : ∃ bq, bq = fl q M := ⟨_, rfl⟩
              obtain ⟨tp, htp⟩ : ∃ tp, tp = tyOf p := ⟨_, rfl⟩
              obtain ⟨vp, hvp⟩ : ∃ vp, vp = pay p := ⟨_, rfl⟩
              obtain ⟨tq, htq⟩ : ∃ tp, tp = tyOf q := ⟨_, rfl⟩
              obtain ⟨vq, hvq⟩ : ∃ vp, vp = pay q := ⟨_, rfl⟩
              have HPP2 : Hid (∀ w, Calls Tryz.prog F #[RR] w fun e w' => ∃ b, e = .returned (.slice (some ⟨b, 0, none⟩) 2 2) ∧ w.heap.size ≤ b ∧ w'.heap[b]? = some (.cells #[.iface tp vp, .iface tq vq] 43 (0, 0)) ∧ Below w.heap.size w w') := by rw [htp, hvp, htq, hvq]; exact HPP.out
              rw [← hbp, ← hbq] at hfd1
              rw [← hbp, ← htp, ← hvp] at HF1
              rw [← hbq, ← htq, ← hvq] at HF2
              clear hbp htp hvp hbq htq hvq HPP hfd HFj hpq
              refine (HPP2.out _).mono ?_
              rintro e w3 ⟨b, rfl, hb, hh, b3⟩
              have Hb3 := Lib.hid (Hb2.out.trans (b3.mono Hb2.out.size))
              have d0 := cellOf2a hh
              have Hh := Lib.hid hh
              clear hb hh b3
              go_wp2_with fail
              refine wp_loop_rounds 3 ?_
              rw [rounds_succ]
              go_wp2_with fail
              refine (HF1.out _).mono ?_
              rintro e w4 ⟨rfl, b4⟩
              have Hb4 := Lib.hid (Hb3.out.trans (b4.mono Hb3.out.size))
              have h4 := row_below0 Hh.out b4
              have d1 := cellOf2b h4
              clear b4 d0 h4
              cases bp
              · have hZf := Lib.hid (hbad.out hfd1.out)
                have Bf := Lib.hid (B1.out.trans (Hb4.out.mono B1.out.size))
                go_wp2_with fail
                go_ret
                exact ⟨by rw [hZf.out]; rfl, Bf.out⟩
              · go_wp2_with fail
                rw [rounds_succ]
                go_wp2_with fail
                refine (HF2.out _).mono ?_
                rintro e w5 ⟨rfl, b5⟩
                have Hb5 := Lib.hid (Hb4.out.trans (b5.mono Hb4.out.size))
                clear b5 d1
                cases bq
                · have hZf := Lib.hid (hbad.out hfd1.out)
                  have Bf := Lib.hid (B1.out.trans (Hb5.out.mono B1.out.size))
                  go_wp2_with fail
                  go_ret
                  exact ⟨by rw [hZf.out]; rfl, Bf.out⟩
                · have hg2 := Lib.hid (hgood.out hfd1.out)
                  go_wp2_with fail
                  rw [rounds_succ]
                  go_wp2_with fail
                  go_roundw
                  case rel => exact ⟨j + 1, by omega, by push_cast; rfl, hg2, Hb5.out⟩
                  case measure => simp [intOf] <;> omega
        · obtain rfl : j = TS.length := by omega
          have hZt : Hid (Z = true) := by
            show _ = _
            rw [hZ.out, List.all_eq_true]
            intro T hT
            obtain ⟨i, hi, e⟩ := List.mem_iff_getElem.1 hT
            rw [← e]; exact hal.out i hi hi
          have Bf := Lib.hid (B1.out.trans (hbw.mono B1.out.size))
          go_wp2_with fail
          go_ret
          exact ⟨by rw [hZt.out]; rfl, Bf.out⟩
theorem lvl_shape (s : Tm) : ∀ T ∈ (lvl s).2, T ≠ .nil ∧ (∀ p q, T ≠ .par p q) ∧ (∀ x p, T ≠ .own x p) := by
  induction s with
  | nil => intro T hT; simp [lvl] at hT
  | own x p ih => intro T hT; exact ih T hT
  | par p q ih ih2 => intro T hT; simp only [lvl, List.mem_append] at hT; exact hT.elim (ih T) (ih2 T)
  | _ => intro T hT; simp only [lvl, List.mem_singleton] at hT; subst hT; exact ⟨by simp, by intros; simp, by intros; simp⟩
theorem tf_fit (T : Tm) (h : T ≠ .nil ∧ (∀ p q, T ≠ .par p q) ∧ (∀ x p, T ≠ .own x p)) (k : Nat) : tf T k = fitT1 T k := by
  cases T with
  | nil => exact absurd rfl h.1
  | par p q => exact absurd rfl (h.2.1 p q)
  | own x p => exact absurd rfl (h.2.2 x p)
  | rcv a x p => simp [tf, fitT1, cbN, Tm.binds, Tm.parts, fl]
  | sum p q => simp [tf, fitT1, cbN, Tm.binds, Tm.parts, fl]
  | _ => simp [tf, fitT1, cbN, Tm.binds, Tm.parts, fl]
theorem fl_fit (s : Tm) (k : Nat) : fl s k = (decide ((lvl s).1.length ≤ 5) && decide ((lvl s).1.length ≤ k) && (lvl s).2.all fun T => fitT1 T (k - (lvl s).1.length)) := by
  unfold fl fcnt
  rw [tf_lvl]
  congr 1
  rw [Bool.eq_iff_iff, List.all_eq_true, List.all_eq_true]
  exact ⟨fun h T hT => by rw [← tf_fit T (lvl_shape s T hT)]; exact h T hT, fun h T hT => by rw [tf_fit T (lvl_shape s T hT)]; exact h T hT⟩
theorem parts_shape (T : Tm) (h : T ≠ .nil) : ∃ p, T.parts = [p] ∨ ∃ q, T.parts = [p, q] := by
  cases T with
  | nil => exact absurd rfl h
  | sum p q => exact ⟨p, .inr ⟨q, rfl⟩⟩
  | par p q => exact ⟨p, .inr ⟨q, rfl⟩⟩
  | snd a b p => exact ⟨p, .inl rfl⟩
  | rcv a b p => exact ⟨p, .inl rfl⟩
  | mat a b p => exact ⟨p, .inl rfl⟩
  | own a p => exact ⟨p, .inl rfl⟩
  | tau p => exact ⟨p, .inl rfl⟩
  | rep p => exact ⟨p, .inl rfl⟩
theorem parts_size (T p : Tm) (h : p ∈ T.parts) : p.size < T.size := by
  cases T <;> simp only [Tm.parts, List.mem_cons, List.not_mem_nil, or_false] at h <;> simp only [Tm.size]
  all_goals first | (subst h; omega) | (rcases h with h | h <;> subst h <;> omega)
theorem fits_any (n : Nat) : ∀ (s : Tm) (k : Nat), s.size ≤ n → s.size ≤ 1000 → k ≤ 1000 → ∀ w, Calls Tryz.prog 159 #[.iface (tyOf s) (pay s), .int .i64 (k : Int)] w fun e w' => e = .returned (.bool (fl s k)) ∧ Below w.heap.size w w' := by
  induction n with
  | zero => intro s k h; have := size_pos s; omega
  | succ n ih =>
    intro s k hn hs hk w
    have hw := lvl_wt s
    refine fits_walk s k hk (lvl s).1 (lvl s).2 (by omega) (by omega) _ (fun h => ?_) (fun h => ?_) (fun T hT => parts_shape T (lvl_shape s T hT).1) (levelOf_any s hs) (fun T hT p hp j hj w => ?_) w
    · rw [fl_fit]
      rcases h with h | h
      · rw [decide_eq_false (show ¬ (lvl s).1.length ≤ 5 by omega)]; rfl
      · rw [decide_eq_false (show ¬ (lvl s).1.length ≤ k by omega), Bool.and_false]; rfl
    · rw [fl_fit, decide_eq_true (show (lvl s).1.length ≤ 5 by omega), decide_eq_true (show (lvl s).1.length ≤ k by omega)]; rfl
    · have h1 := parts_size T p hp
      have h2 := lvl_size s T hT
      exact ih p j (by omega) (by omega) hj w

end Go.Proofs.YtmfmagfgcdaeeaaGreat.T1
