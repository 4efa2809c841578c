/- Simple processes, in the specification and in the program. -/
import Derived.Test.YtpabmidjfpabdaaGd
namespace Go.Proofs.Ytpabmidjfpabdaa.T1
open Go.RowKit
set_option maxRecDepth 100000

def Tm.inp : Tm → Bool
  | .nil => true
  | .snd _ _ p => p.inp
  | .rcv _ _ p => p.inp
  | .tau p => p.inp
  | .sum p q => p.inp && q.inp
  | .par p q => p.inp && q.inp
  | .own _ p => p.inp
  | .mat _ _ p => p.inp
  | .rep p => (p.kind == 63) && p.inp
/-- Is a sign a repeated one whose part does not receive? -/
def rpt : Tm → Bool
  | .rep p => !(p.kind == 63)
  | _ => false
theorem rpt_inp (t : Tm) : ((t.subs.countP rpt : Nat) : Int) = 0 ↔ t.inp = true := by
  induction t with
  | nil => simp [Tm.subs, rpt, Tm.inp]
  | sum p q ih ih2 =>
    simp only [Tm.subs, Tm.inp, cp_cons, List.countP_append, Bool.and_eq_true]
    rw [← ih, ← ih2, show rpt (.sum p q) = false from rfl]
    generalize p.subs.countP rpt = A
    generalize q.subs.countP rpt = B
    simp; omega
  | par p q ih ih2 =>
    simp only [Tm.subs, Tm.inp, cp_cons, List.countP_append, Bool.and_eq_true]
    rw [← ih, ← ih2, show rpt (.par p q) = false from rfl]
    generalize p.subs.countP rpt = A
    generalize q.subs.countP rpt = B
    simp; omega
  | rep p ih =>
    simp only [Tm.subs, Tm.inp, cp_cons, Bool.and_eq_true]
    rw [← ih, show rpt (.rep p) = !(p.kind == 63) from rfl]
    generalize p.subs.countP rpt = A
    cases (p.kind == 63) <;> simp; omega
  | _ => simp_all [Tm.subs, rpt, Tm.inp]
theorem rpt_eq (t : Tm) : (((t.subs.countP rpt : Nat) : Int) == 0) = t.inp := by
  rw [Bool.eq_iff_iff, beq_iff_eq]; exact rpt_inp t
theorem inp_kind (p : Tm) : ((p.kind.toNat : Int) != 63) = !(p.kind == 63) := by
  rw [Bool.eq_iff_iff]
  simp only [bne_iff_ne, Bool.not_eq_true', beq_eq_false_iff_ne, ne_eq]
  rw [← UInt8.toNat_inj]
  simp; omega

set_option maxHeartbeats 1000000 in
theorem inp0 (s : ByteArray) (HP : ∀ w, Calls Try.prog 36 #[.string s] w (PartsS [] w)) (w : World) :
    Calls Try.prog 30 #[.string s] w fun e w' => e = .returned (.bool true) ∧ Below w.heap.size w w' := by
  have H := Lib.hid HP
  clear HP
  go_enter Try.func30, Try.ntmps30
  go_wp2_with fail
  refine (H.out _).mono ?_
  rintro e w1 ⟨rfl, bl⟩
  go_wp2_with fail
  refine wp_loop_rounds 1 ?_
  rw [rounds_succ]
  go_wp2_with fail
  go_ret
  exact ⟨rfl, bl⟩

set_option maxHeartbeats 1000000 in
theorem inp1 (s u : ByteArray) (kd : Int) (hk : (kd == 42) = false) (r : Bool) (HK : ∀ w, Calls Try.prog 37 #[.string s] w fun e w' => e = .returned (.int .u8 kd) ∧ w = w') (HP : ∀ w, Calls Try.prog 36 #[.string s] w fun e w' => ∃ b, e = .returned (.slice (some ⟨b, 0, none⟩) 1 1) ∧ w.heap.size ≤ b ∧ w'.heap[b]? = some (.cells #[.string u] 9 (0, 0)) ∧ Below w.heap.size w w')
    (ih : ∀ w, Calls Try.prog 30 #[.string u] w fun e w' => e = .returned (.bool r) ∧ Below w.heap.size w w') (w : World) :
    Calls Try.prog 30 #[.string s] w fun e w' => e = .returned (.bool r) ∧ Below w.heap.size w w' := by
  have H := Lib.hid HP
  have HK2 := Lib.hid HK
  have IH := Lib.hid ih
  clear HP ih HK
  cases r
  · go_enter Try.func30, Try.ntmps30
    go_wp2_with fail
    refine (H.out _).mono ?_
    rintro e w1 ⟨b, rfl, hb, hh, bl⟩
    have c0 := cellOf1 hh
    have Hh := Lib.hid hh
    clear hh
    go_wp2_with fail
    refine wp_loop_rounds 2 ?_
    rw [rounds_succ]
    go_wp2_with fail
    refine (HK2.out _).mono ?_
    rintro e w' ⟨rfl, rfl⟩
    go_wp2_with fail
    refine (IH.out _).mono ?_
    rintro e w2 ⟨rfl, bl2⟩
    clear c0
    go_wp2_with fail
    go_ret
    exact ⟨rfl, (below_trans bl bl2 bl.size)⟩
  · go_enter Try.func30, Try.ntmps30
    go_wp2_with fail
    refine (H.out _).mono ?_
    rintro e w1 ⟨b, rfl, hb, hh, bl⟩
    have c0 := cellOf1 hh
    have Hh := Lib.hid hh
    clear hh
    go_wp2_with fail
    refine wp_loop_rounds 2 ?_
    rw [rounds_succ]
    go_wp2_with fail
    refine (HK2.out _).mono ?_
    rintro e w' ⟨rfl, rfl⟩
    go_wp2_with fail
    refine (IH.out _).mono ?_
    rintro e w2 ⟨rfl, bl2⟩
    clear c0
    go_wp2_with fail
    rw [rounds_succ]
    go_wp2_with fail
    go_ret
    exact ⟨rfl, (below_trans bl bl2 bl.size)⟩

set_option maxHeartbeats 1000000 in
theorem inp2 (s u v : ByteArray) (kd : Int) (hk : (kd == 42) = false) (r1 r2 : Bool) (HK : ∀ w, Calls Try.prog 37 #[.string s] w fun e w' => e = .returned (.int .u8 kd) ∧ w = w') (HP : ∀ w, Calls Try.prog 36 #[.string s] w fun e w' => ∃ b, e = .returned (.slice (some ⟨b, 0, none⟩) 2 2) ∧ w.heap.size ≤ b ∧ w'.heap[b]? = some (.cells #[.string u, .string v] 9 (0, 0)) ∧ Below w.heap.size w w')
    (ih : ∀ w, Calls Try.prog 30 #[.string u] w fun e w' => e = .returned (.bool r1) ∧ Below w.heap.size w w') (ih2 : ∀ w, Calls Try.prog 30 #[.string v] w fun e w' => e = .returned (.bool r2) ∧ Below w.heap.size w w') (w : World) :
    Calls Try.prog 30 #[.string s] w fun e w' => e = .returned (.bool (r1 && r2)) ∧ Below w.heap.size w w' := by
  have H := Lib.hid HP
  have HK2 := Lib.hid HK
  have IH := Lib.hid ih
  have IH2 := Lib.hid ih2
  clear HP ih ih2 HK
  cases r1
  · go_enter Try.func30, Try.ntmps30
    go_wp2_with fail
    refine (H.out _).mono ?_
    rintro e w1 ⟨b, rfl, hb, hh, bl⟩
    have c0 := cellOf2a hh
    have Hh := Lib.hid hh
    clear hh
    go_wp2_with fail
    refine wp_loop_rounds 3 ?_
    rw [rounds_succ]
    go_wp2_with fail
    refine (HK2.out _).mono ?_
    rintro e w' ⟨rfl, rfl⟩
    go_wp2_with fail
    refine (IH.out _).mono ?_
    rintro e w2 ⟨rfl, bl2⟩
    clear c0
    go_wp2_with fail
    go_ret
    exact ⟨rfl, (below_trans bl bl2 bl.size)⟩
  · cases r2
    · go_enter Try.func30, Try.ntmps30
      go_wp2_with fail
      refine (H.out _).mono ?_
      rintro e w1 ⟨b, rfl, hb, hh, bl⟩
      have c0 := cellOf2a hh
      have Hh := Lib.hid hh
      clear hh
      go_wp2_with fail
      refine wp_loop_rounds 3 ?_
      rw [rounds_succ]
      go_wp2_with fail
      refine (HK2.out _).mono ?_
      rintro e w' ⟨rfl, rfl⟩
      go_wp2_with fail
      refine (IH.out _).mono ?_
      rintro e w2 ⟨rfl, bl2⟩
      have h2 := (bl2.block b (lt_of_block Hh.out)).trans Hh.out
      clear c0
      have c1 := cellOf2b h2
      clear h2
      go_wp2_with fail
      rw [rounds_succ]
      go_wp2_with fail
      refine (HK2.out _).mono ?_
      rintro e w' ⟨rfl, rfl⟩
      go_wp2_with fail
      refine (IH2.out _).mono ?_
      rintro e w3 ⟨rfl, bl3⟩
      clear c1
      go_wp2_with fail
      go_ret
      exact ⟨rfl, (below_trans (below_trans bl bl2 bl.size) bl3 (Nat.le_trans bl.size bl2.size))⟩
    · go_enter Try.func30, Try.ntmps30
      go_wp2_with fail
      refine (H.out _).mono ?_
      rintro e w1 ⟨b, rfl, hb, hh, bl⟩
      have c0 := cellOf2a hh
      have Hh := Lib.hid hh
      clear hh
      go_wp2_with fail
      refine wp_loop_rounds 3 ?_
      rw [rounds_succ]
      go_wp2_with fail
      refine (HK2.out _).mono ?_
      rintro e w' ⟨rfl, rfl⟩
      go_wp2_with fail
      refine (IH.out _).mono ?_
      rintro e w2 ⟨rfl, bl2⟩
      have h2 := (bl2.block b (lt_of_block Hh.out)).trans Hh.out
      clear c0
      have c1 := cellOf2b h2
      clear h2
      go_wp2_with fail
      rw [rounds_succ]
      go_wp2_with fail
      refine (HK2.out _).mono ?_
      rintro e w' ⟨rfl, rfl⟩
      go_wp2_with fail
      refine (IH2.out _).mono ?_
      rintro e w3 ⟨rfl, bl3⟩
      clear c1
      go_wp2_with fail
      rw [rounds_succ]
      go_wp2_with fail
      go_ret
      exact ⟨rfl, (below_trans (below_trans bl bl2 bl.size) bl3 (Nat.le_trans bl.size bl2.size))⟩

set_option maxHeartbeats 1000000 in
theorem inpS (s u : ByteArray) (k1 : Int) (g r : Bool) (hg : (k1 != 63) = !g) (HK : ∀ w, Calls Try.prog 37 #[.string s] w fun e w' => e = .returned (.int .u8 42) ∧ w = w') (HK1 : ∀ w, Calls Try.prog 37 #[.string u] w fun e w' => e = .returned (.int .u8 k1) ∧ w = w') (HP : ∀ w, Calls Try.prog 36 #[.string s] w fun e w' => ∃ b, e = .returned (.slice (some ⟨b, 0, none⟩) 1 1) ∧ w.heap.size ≤ b ∧ w'.heap[b]? = some (.cells #[.string u] 9 (0, 0)) ∧ Below w.heap.size w w')
    (ih : ∀ w, Calls Try.prog 30 #[.string u] w fun e w' => e = .returned (.bool r) ∧ Below w.heap.size w w') (w : World) :
    Calls Try.prog 30 #[.string s] w fun e w' => e = .returned (.bool (g && r)) ∧ Below w.heap.size w w' := by
  have H := Lib.hid HP
  have HK2 := Lib.hid HK
  have HU1 := Lib.hid HK1
  have IH := Lib.hid ih
  clear HP ih HK HK1
  cases g
  · go_enter Try.func30, Try.ntmps30
    go_wp2_with fail
    refine (H.out _).mono ?_
    rintro e w1 ⟨b, rfl, hb, hh, bl⟩
    have c0 := cellOf1 hh
    have Hh := Lib.hid hh
    clear hh
    go_wp2_with fail
    refine wp_loop_rounds 2 ?_
    rw [rounds_succ]
    go_wp2_with fail
    refine (HK2.out _).mono ?_
    rintro e w' ⟨rfl, rfl⟩
    go_wp2_with fail
    refine (HU1.out _).mono ?_
    rintro e w' ⟨rfl, rfl⟩
    clear c0
    go_wp2_with fail
    go_ret
    exact ⟨rfl, bl⟩
  · cases r
    · go_enter Try.func30, Try.ntmps30
      go_wp2_with fail
      refine (H.out _).mono ?_
      rintro e w1 ⟨b, rfl, hb, hh, bl⟩
      have c0 := cellOf1 hh
      have Hh := Lib.hid hh
      clear hh
      go_wp2_with fail
      refine wp_loop_rounds 2 ?_
      rw [rounds_succ]
      go_wp2_with fail
      refine (HK2.out _).mono ?_
      rintro e w' ⟨rfl, rfl⟩
      go_wp2_with fail
      refine (HU1.out _).mono ?_
      rintro e w' ⟨rfl, rfl⟩
      go_wp2_with fail
      refine (IH.out _).mono ?_
      rintro e w2 ⟨rfl, bl2⟩
      clear c0
      go_wp2_with fail
      go_ret
      exact ⟨rfl, (below_trans bl bl2 bl.size)⟩
    · go_enter Try.func30, Try.ntmps30
      go_wp2_with fail
      refine (H.out _).mono ?_
      rintro e w1 ⟨b, rfl, hb, hh, bl⟩
      have c0 := cellOf1 hh
      have Hh := Lib.hid hh
      clear hh
      go_wp2_with fail
      refine wp_loop_rounds 2 ?_
      rw [rounds_succ]
      go_wp2_with fail
      refine (HK2.out _).mono ?_
      rintro e w' ⟨rfl, rfl⟩
      go_wp2_with fail
      refine (HU1.out _).mono ?_
      rintro e w' ⟨rfl, rfl⟩
      go_wp2_with fail
      refine (IH.out _).mono ?_
      rintro e w2 ⟨rfl, bl2⟩
      clear c0
      go_wp2_with fail
      rw [rounds_succ]
      go_wp2_with fail
      go_ret
      exact ⟨rfl, (below_trans bl bl2 bl.size)⟩

theorem inp_any (t : Tm) : t.ok nmE = true → t.pr.length ≤ 700 → ∀ (w : World), Calls Try.prog 30 #[.string (S t)] w fun e w' => e = .returned (.bool t.inp) ∧ Below w.heap.size w w' := by
  induction t with
  | nil => exact fun ho hl => inp0 _ (tmParts_any .nil ho hl)
  | snd a b p ih =>
    intro ho hl
    have ho' := ho
    simp only [Tm.ok, Bool.and_eq_true] at ho'
    have hl' := hl
    simp only [Tm.pr, List.length_cons] at hl'
    exact inp1 _ _ _ (by simp only [Tm.kind]; decide) p.inp (tmKind_any (.snd a b p) ho hl) (tmParts_any (.snd a b p) ho hl) (ih ho'.2 (by omega))
  | rcv a b p ih =>
    intro ho hl
    have ho' := ho
    simp only [Tm.ok, Bool.and_eq_true] at ho'
    have hl' := hl
    simp only [Tm.pr, List.length_cons] at hl'
    exact inp1 _ _ _ (by simp only [Tm.kind]; decide) p.inp (tmKind_any (.rcv a b p) ho hl) (tmParts_any (.rcv a b p) ho hl) (ih ho'.2 (by omega))
  | mat a b p ih =>
    intro ho hl
    have ho' := ho
    simp only [Tm.ok, Bool.and_eq_true] at ho'
    have hl' := hl
    simp only [Tm.pr, List.length_cons] at hl'
    exact inp1 _ _ _ (by simp only [Tm.kind]; decide) p.inp (tmKind_any (.mat a b p) ho hl) (tmParts_any (.mat a b p) ho hl) (ih ho'.2 (by omega))
  | own x p ih =>
    intro ho hl
    have ho' := ho
    simp only [Tm.ok, Bool.and_eq_true] at ho'
    have hl' := hl
    simp only [Tm.pr, List.length_cons] at hl'
    exact inp1 _ _ _ (by simp only [Tm.kind]; decide) p.inp (tmKind_any (.own x p) ho hl) (tmParts_any (.own x p) ho hl) (ih ho'.2 (by omega))
  | tau p ih =>
    intro ho hl
    have ho' := ho
    simp only [Tm.ok] at ho'
    have hl' := hl
    simp only [Tm.pr, List.length_cons] at hl'
    exact inp1 _ _ _ (by simp only [Tm.kind]; decide) p.inp (tmKind_any (.tau p) ho hl) (tmParts_any (.tau p) ho hl) (ih ho (by omega))
  | rep p ih =>
    intro ho hl
    have ho' := ho
    simp only [Tm.ok] at ho'
    have hl' := hl
    simp only [Tm.pr, List.length_cons] at hl'
    exact inpS _ _ _ (p.kind == 63) p.inp (inp_kind p) (tmKind_any (.rep p) ho hl) (tmKind_any p ho (by omega)) (tmParts_any (.rep p) ho hl) (ih ho (by omega))
  | sum p q ih ih2 =>
    intro ho hl
    have ho' := ho
    simp only [Tm.ok, Bool.and_eq_true] at ho'
    have hl' := hl
    simp only [Tm.pr, List.length_cons, List.length_append] at hl'
    exact inp2 _ _ _ _ (by simp only [Tm.kind]; decide) p.inp q.inp (tmKind_any (.sum p q) ho hl) (tmParts_any (.sum p q) ho hl) (ih ho'.1 (by omega)) (ih2 ho'.2 (by omega))
  | par p q ih ih2 =>
    intro ho hl
    have ho' := ho
    simp only [Tm.ok, Bool.and_eq_true] at ho'
    have hl' := hl
    simp only [Tm.pr, List.length_cons, List.length_append] at hl'
    exact inp2 _ _ _ _ (by simp only [Tm.kind]; decide) p.inp q.inp (tmKind_any (.par p q) ho hl) (tmParts_any (.par p q) ho hl) (ih ho'.1 (by omega)) (ih2 ho'.2 (by omega))

theorem cf_s1' (args : Array Value) (w : World) : (callFunc 41 args).run Try.prog w = .ok (.enter 41 args) w := by kernel_rfl
set_option maxHeartbeats 1000000 in
theorem s1_other (T : TypeId) (V : Value) (w : World) (h : ∀ w, (Instr.typeAssert (.iface T V) 42 65 true).run Try.prog w = .ok (.tuple #[.agg #[.nilIface], .bool false]) w) :
    Calls Try.prog 41 (#[.iface T V] ++ #[]) w fun e w' => e = .returned (.bool false) ∧ Below w.heap.size w w' := by
  show Calls Try.prog 41 #[.iface T V] w _
  go_enter Try.func41, Try.ntmps41
  go_wp2_with fail
  go_ret
  exact ⟨rfl, (Below.refl _ _).alloc (Nat.le_refl _) _⟩
set_option maxHeartbeats 1000000 in
theorem s1_rep (tp : TypeId) (vp : Value) (k : UInt8) (hk : KindFact tp vp (one k)) (w : World) :
    Calls Try.prog 41 (#[.iface 65 (.agg #[.iface tp vp])] ++ #[]) w fun e w' => e = .returned (.bool (!(k == 63))) ∧ Below w.heap.size w w' := by
  show Calls Try.prog 41 #[.iface 65 (.agg #[.iface tp vp])] w _
  obtain ⟨F, R, hm1, hn1, hc1, hp⟩ := hk
  have HE : Hid (((one k).toList == [63]) = (k == 63)) := by
    have h : ∀ c, (one c).toList = [c] := fun c => by rw [ByteArray.toList_eq]; rfl
    show _ = _
    rw [h]; simp
  obtain ⟨o, ho⟩ : ∃ o, o = one k := ⟨_, rfl⟩
  rw [← ho] at hp HE
  have H := Lib.hid hp
  clear hp ho
  go_enter Try.func41, Try.ntmps41
  go_wp2_with fail
  refine (H.out _).mono ?_
  rintro e w' ⟨rfl, bl⟩
  go_wp2_with fail
  go_ret
  refine ⟨?_, below_trans ((Below.refl _ _).alloc (Nat.le_refl _) _) bl (by simp)⟩
  rw [← HE.out]
  rfl
theorem s1_any (t : Tm) (w : World) : Calls Try.prog 41 (#[.iface (tyOf t) (pay t)] ++ #[]) w fun e w' => e = .returned (.bool (rpt t)) ∧ Below w.heap.size w w' := by
  cases t with
  | nil => exact s1_other _ _ w (ta_nothing_repeat _)
  | snd a b p => exact s1_other _ _ w (ta_send_repeat _)
  | rcv a b p => exact s1_other _ _ w (ta_receive_repeat _)
  | tau p => exact s1_other _ _ w (ta_silent_repeat _)
  | sum p q => exact s1_other _ _ w (ta_choice_repeat _)
  | par p q => exact s1_other _ _ w (ta_beside_repeat _)
  | own x p => exact s1_other _ _ w (ta_own_repeat _)
  | mat a b p => exact s1_other _ _ w (ta_match_repeat _)
  | rep p => exact s1_rep _ _ p.kind (kind_fact p) w
set_option maxHeartbeats 1000000 in
theorem isSimple_any (t : Tm) (ht : t.size ≤ 1000) (w : World) : Calls Try.prog 33 #[.iface (tyOf t) (pay t)] w fun e w' => e = .returned (.bool (t.grd && t.inp)) ∧ Below w.heap.size w w' := by
  have HC := countOf_any 41 #[] rpt (fun _ => True) cf_s1' (fun t w _ => s1_any t w) t ht w (fun _ _ _ _ => trivial) trivial
  have HG := fun w => isGuarded_any t ht w
  rw [← rpt_eq]
  obtain ⟨T, hT⟩ : ∃ T, T = tyOf t := ⟨_, rfl⟩
  obtain ⟨V, hV⟩ : ∃ V, V = pay t := ⟨_, rfl⟩
  obtain ⟨N, hN⟩ : ∃ N, N = t.subs.countP rpt := ⟨_, rfl⟩
  obtain ⟨G, hG⟩ : ∃ G, G = t.grd := ⟨_, rfl⟩
  rw [← hT, ← hV, ← hN] at HC
  rw [← hT, ← hV, ← hG] at HG
  rw [← hT, ← hV, ← hN, ← hG]
  have H := Lib.hid HC
  have H2 := Lib.hid HG
  clear hT hV hN hG HC HG
  cases hz : ((N : Int) == 0) with
  | true =>
    go_enter Try.func33, Try.ntmps33
    go_wp2_with fail
    refine (H.out).mono ?_
    rintro e w1 ⟨rfl, bl⟩
    go_wp2_with fail
    refine (H2.out _).mono ?_
    rintro e w2 ⟨rfl, bl2⟩
    go_wp2_with fail
    go_ret
    exact ⟨ret_bool (by simp), below_trans bl bl2 bl.size⟩
  | false =>
    go_enter Try.func33, Try.ntmps33
    go_wp2_with fail
    refine (H.out).mono ?_
    rintro e w1 ⟨rfl, bl⟩
    go_wp2_with fail
    go_ret
    exact ⟨ret_bool (by simp), bl⟩
set_option maxHeartbeats 1000000 in
theorem tmSimple_any (t : Tm) (ho : t.ok nmE = true) (hl : t.pr.length ≤ 700) (w : World) : Calls Try.prog 21 #[.string (S t)] w fun e w' => e = .returned (.bool (t.grd && t.inp)) ∧ Below w.heap.size w w' := by
  have HG := grd_any t ho hl
  have HI := inp_any t ho hl
  obtain ⟨s, hs⟩ : ∃ s, s = S t := ⟨_, rfl⟩
  obtain ⟨G, hG⟩ : ∃ G, G = t.grd := ⟨_, rfl⟩
  obtain ⟨I, hI⟩ : ∃ I, I = t.inp := ⟨_, rfl⟩
  rw [← hs, ← hG] at HG
  rw [← hs, ← hI] at HI
  rw [← hs, ← hG, ← hI]
  have H := Lib.hid HG
  have H2 := Lib.hid HI
  clear hs hG hI HG HI
  cases G with
  | true =>
    go_enter Try.func21, Try.ntmps21
    go_wp2_with fail
    refine (H.out _).mono ?_
    rintro e w1 ⟨rfl, bl⟩
    go_wp2_with fail
    refine (H2.out _).mono ?_
    rintro e w2 ⟨rfl, bl2⟩
    go_wp2_with fail
    go_ret
    exact ⟨ret_bool (by simp), below_trans bl bl2 bl.size⟩
  | false =>
    go_enter Try.func21, Try.ntmps21
    go_wp2_with fail
    refine (H.out _).mono ?_
    rintro e w1 ⟨rfl, bl⟩
    go_wp2_with fail
    go_ret
    exact ⟨ret_bool (by simp), bl⟩

end Go.Proofs.Ytpabmidjfpabdaa.T1
