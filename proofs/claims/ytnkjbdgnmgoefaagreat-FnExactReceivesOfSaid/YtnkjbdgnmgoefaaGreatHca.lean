/- Texts of the proof, put together: Sp, Rb, Rc. No conditions. -/
import Derived.Test.YtnkjbdgnmgoefaaGreatHam
import Derived.Test.YtnkjbdgnmgoefaaGreatHbd
import Derived.Test.YtnkjbdgnmgoefaaGreatHbz
import Derived.Deep.LoopGhost
import Derived.Deep.DeepCutAuto

/- Simple processes, in the specification and in the program. -/
namespace Go.Proofs.YtnkjbdgnmgoefaaGreat.T1
open Go.RowKit
set_option maxRecDepth 100000

def Tm.inp : Tm → Bool
  | .nil => true
  | .snd _ _ p => p.inp
  | .rcv _ _ p => p.inp
  | .tau p => p.inp
  | .sum p q => p.inp && q.inp
  | .par p q => p.inp && q.inp
  | .own _ p => p.inp
  | .mat _ _ p => p.inp
  | .rep p => (p.kind == 63) && p.inp
/-- Is a sign a repeated one whose part does not receive? -/
def rpt : Tm → Bool
  | .rep p => !(p.kind == 63)
  | _ => false
theorem rpt_inp (t : Tm) : ((t.subs.countP rpt : Nat) : Int) = 0 ↔ t.inp = true := by
  induction t with
  | nil => simp [Tm.subs, rpt, Tm.inp]
  | sum p q ih ih2 =>
    simp only [Tm.subs, Tm.inp, cp_cons, List.countP_append, Bool.and_eq_true]
    rw [← ih, ← ih2, show rpt (.sum p q) = false from rfl]
    generalize p.subs.countP rpt = A
    generalize q.subs.countP rpt = B
    simp; omega
  | par p q ih ih2 =>
    simp only [Tm.subs, Tm.inp, cp_cons, List.countP_append, Bool.and_eq_true]
    rw [← ih, ← ih2, show rpt (.par p q) = false from rfl]
    generalize p.subs.countP rpt = A
    generalize q.subs.countP rpt = B
    simp; omega
  | rep p ih =>
    simp only [Tm.subs, Tm.inp, cp_cons, Bool.and_eq_true]
    rw [← ih, show rpt (.rep p) = !(p.kind == 63) from rfl]
    generalize p.subs.countP rpt = A
    cases (p.kind == 63) <;> simp; omega
  | _ => simp_all [Tm.subs, rpt, Tm.inp]
theorem rpt_eq (t : Tm) : (((t.subs.countP rpt : Nat) : Int) == 0) = t.inp := by
  rw [Bool.eq_iff_iff, beq_iff_eq]; exact rpt_inp t
theorem inp_kind (p : Tm) : ((p.kind.toNat : Int) != 63) = !(p.kind == 63) := by
  rw [Bool.eq_iff_iff]
  simp only [bne_iff_ne, Bool.not_eq_true', beq_eq_false_iff_ne, ne_eq]
  rw [← UInt8.toNat_inj]
  simp; omega

set_option maxHeartbeats 1000000 in
theorem inp0 (s : ByteArray) (HP : ∀ w, Calls Tryz.prog 63 #[.string s] w (PartsS [] w)) (w : World) :
    Calls Tryz.prog 134 #[.string s] w fun e w' => e = .returned (.bool true) ∧ Below w.heap.size w w' := by
  have H := Lib.hid HP
  clear HP
  go_enter Tryz.func134, Tryz.ntmps134
  go_wp2_with fail
  refine (H.out _).mono ?_
  rintro e w1 ⟨rfl, bl⟩
  go_wp2_with fail
  refine wp_loop_rounds 1 ?_
  rw [rounds_succ]
  go_wp2_with fail
  go_ret
  exact ⟨rfl, bl⟩

set_option maxHeartbeats 1000000 in
theorem inp1 (s u : ByteArray) (kd : Int) (hk : (kd == 42) = false) (r : Bool) (HK : ∀ w, Calls Tryz.prog 62 #[.string s] w fun e w' => e = .returned (.int .u8 kd) ∧ w = w') (HP : ∀ w, Calls Tryz.prog 63 #[.string s] w fun e w' => ∃ b, e = .returned (.slice (some ⟨b, 0, none⟩) 1 1) ∧ w.heap.size ≤ b ∧ w'.heap[b]? = some (.cells #[.string u] 9 (0, 0)) ∧ Below w.heap.size w w')
    (ih : ∀ w, Calls Tryz.prog 134 #[.string u] w fun e w' => e = .returned (.bool r) ∧ Below w.heap.size w w') (w : World) :
    Calls Tryz.prog 134 #[.string s] w fun e w' => e = .returned (.bool r) ∧ Below w.heap.size w w' := by
  have H := Lib.hid HP
  have HK2 := Lib.hid HK
  have IH := Lib.hid ih
  clear HP ih HK
  cases r
  · go_enter Tryz.func134, Tryz.ntmps134
    go_wp2_with fail
    refine (H.out _).mono ?_
    rintro e w1 ⟨b, rfl, hb, hh, bl⟩
    have c0 := cellOf1 hh
    have Hh := Lib.hid hh
    clear hh
    go_wp2_with fail
    refine wp_loop_rounds 2 ?_
    rw [rounds_succ]
    go_wp2_with fail
    refine (HK2.out _).mono ?_
    rintro e w' ⟨rfl, rfl⟩
    go_wp2_with fail
    refine (IH.out _).mono ?_
    rintro e w2 ⟨rfl, bl2⟩
    clear c0
    go_wp2_with fail
    go_ret
    exact ⟨rfl, (below_trans bl bl2 bl.size)⟩
  · go_enter Tryz.func134, Tryz.ntmps134
    go_wp2_with fail
    refine (H.out _).mono ?_
    rintro e w1 ⟨b, rfl, hb, hh, bl⟩
    have c0 := cellOf1 hh
    have Hh := Lib.hid hh
    clear hh
    go_wp2_with fail
    refine wp_loop_rounds 2 ?_
    rw [rounds_succ]
    go_wp2_with fail
    refine (HK2.out _).mono ?_
    rintro e w' ⟨rfl, rfl⟩
    go_wp2_with fail
    refine (IH.out _).mono ?_
    rintro e w2 ⟨rfl, bl2⟩
    clear c0
    go_wp2_with fail
    rw [rounds_succ]
    go_wp2_with fail
    go_ret
    exact ⟨rfl, (below_trans bl bl2 bl.size)⟩

set_option maxHeartbeats 1000000 in
theorem inp2 (s u v : ByteArray) (kd : Int) (hk : (kd == 42) = false) (r1 r2 : Bool) (HK : ∀ w, Calls Tryz.prog 62 #[.string s] w fun e w' => e = .returned (.int .u8 kd) ∧ w = w') (HP : ∀ w, Calls Tryz.prog 63 #[.string s] w fun e w' => ∃ b, e = .returned (.slice (some ⟨b, 0, none⟩) 2 2) ∧ w.heap.size ≤ b ∧ w'.heap[b]? = some (.cells #[.string u, .string v] 9 (0, 0)) ∧ Below w.heap.size w w')
    (ih : ∀ w, Calls Tryz.prog 134 #[.string u] w fun e w' => e = .returned (.bool r1) ∧ Below w.heap.size w w') (ih2 : ∀ w, Calls Tryz.prog 134 #[.string v] w fun e w' => e = .returned (.bool r2) ∧ Below w.heap.size w w') (w : World) :
    Calls Tryz.prog 134 #[.string s] w fun e w' => e = .returned (.bool (r1 && r2)) ∧ Below w.heap.size w w' := by
  have H := Lib.hid HP
  have HK2 := Lib.hid HK
  have IH := Lib.hid ih
  have IH2 := Lib.hid ih2
  clear HP ih ih2 HK
  cases r1
  · go_enter Tryz.func134, Tryz.ntmps134
    go_wp2_with fail
    refine (H.out _).mono ?_
    rintro e w1 ⟨b, rfl, hb, hh, bl⟩
    have c0 := cellOf2a hh
    have Hh := Lib.hid hh
    clear hh
    go_wp2_with fail
    refine wp_loop_rounds 3 ?_
    rw [rounds_succ]
    go_wp2_with fail
    refine (HK2.out _).mono ?_
    rintro e w' ⟨rfl, rfl⟩
    go_wp2_with fail
    refine (IH.out _).mono ?_
    rintro e w2 ⟨rfl, bl2⟩
    clear c0
    go_wp2_with fail
    go_ret
    exact ⟨rfl, (below_trans bl bl2 bl.size)⟩
  · cases r2
    · go_enter Tryz.func134, Tryz.ntmps134
      go_wp2_with fail
      refine (H.out _).mono ?_
      rintro e w1 ⟨b, rfl, hb, hh, bl⟩
      have c0 := cellOf2a hh
      have Hh := Lib.hid hh
      clear hh
      go_wp2_with fail
      refine wp_loop_rounds 3 ?_
      rw [rounds_succ]
      go_wp2_with fail
      refine (HK2.out _).mono ?_
      rintro e w' ⟨rfl, rfl⟩
      go_wp2_with fail
      refine (IH.out _).mono ?_
      rintro e w2 ⟨rfl, bl2⟩
      have h2 := (bl2.block b (lt_of_block Hh.out)).trans Hh.out
      clear c0
      have c1 := cellOf2b h2
      clear h2
      go_wp2_with fail
      rw [rounds_succ]
      go_wp2_with fail
      refine (HK2.out _).mono ?_
      rintro e w' ⟨rfl, rfl⟩
      go_wp2_with fail
      refine (IH2.out _).mono ?_
      rintro e w3 ⟨rfl, bl3⟩
      clear c1
      go_wp2_with fail
      go_ret
      exact ⟨rfl, (below_trans (below_trans bl bl2 bl.size) bl3 (Nat.le_trans bl.size bl2.size))⟩
    · go_enter Tryz.func134, Tryz.ntmps134
      go_wp2_with fail
      refine (H.out _).mono ?_
      rintro e w1 ⟨b, rfl, hb, hh, bl⟩
      have c0 := cellOf2a hh
      have Hh := Lib.hid hh
      clear hh
      go_wp2_with fail
      refine wp_loop_rounds 3 ?_
      rw [rounds_succ]
      go_wp2_with fail
      refine (HK2.out _).mono ?_
      rintro e w' ⟨rfl, rfl⟩
      go_wp2_with fail
      refine (IH.out _).mono ?_
      rintro e w2 ⟨rfl, bl2⟩
      have h2 := (bl2.block b (lt_of_block Hh.out)).trans Hh.out
      clear c0
      have c1 := cellOf2b h2
      clear h2
      go_wp2_with fail
      rw [rounds_succ]
      go_wp2_with fail
      refine (HK2.out _).mono ?_
      rintro e w' ⟨rfl, rfl⟩
      go_wp2_with fail
      refine (IH2.out _).mono ?_
      rintro e w3 ⟨rfl, bl3⟩
      clear c1
      go_wp2_with fail
      rw [rounds_succ]
      go_wp2_with fail
      go_ret
      exact ⟨rfl, (below_trans (below_trans bl bl2 bl.size) bl3 (Nat.le_trans bl.size bl2.size))⟩

set_option maxHeartbeats 1000000 in
theorem inpS (s u : ByteArray) (k1 : Int) (g r : Bool) (hg : (k1 != 63) = !g) (HK : ∀ w, Calls Tryz.prog 62 #[.string s] w fun e w' => e = .returned (.int .u8 42) ∧ w = w') (HK1 : ∀ w, Calls Tryz.prog 62 #[.string u] w fun e w' => e = .returned (.int .u8 k1) ∧ w = w') (HP : ∀ w, Calls Tryz.prog 63 #[.string s] w fun e w' => ∃ b, e = .returned (.slice (some ⟨b, 0, none⟩) 1 1) ∧ w.heap.size ≤ b ∧ w'.heap[b]? = some (.cells #[.string u] 9 (0, 0)) ∧ Below w.heap.size w w')
    (ih : ∀ w, Calls Tryz.prog 134 #[.string u] w fun e w' => e = .returned (.bool r) ∧ Below w.heap.size w w') (w : World) :
    Calls Tryz.prog 134 #[.string s] w fun e w' => e = .returned (.bool (g && r)) ∧ Below w.heap.size w w' := by
  have H := Lib.hid HP
  have HK2 := Lib.hid HK
  have HU1 := Lib.hid HK1
  have IH := Lib.hid ih
  clear HP ih HK HK1
  cases g
  · go_enter Tryz.func134, Tryz.ntmps134
    go_wp2_with fail
    refine (H.out _).mono ?_
    rintro e w1 ⟨b, rfl, hb, hh, bl⟩
    have c0 := cellOf1 hh
    have Hh := Lib.hid hh
    clear hh
    go_wp2_with fail
    refine wp_loop_rounds 2 ?_
    rw [rounds_succ]
    go_wp2_with fail
    refine (HK2.out _).mono ?_
    rintro e w' ⟨rfl, rfl⟩
    go_wp2_with fail
    refine (HU1.out _).mono ?_
    rintro e w' ⟨rfl, rfl⟩
    clear c0
    go_wp2_with fail
    go_ret
    exact ⟨rfl, bl⟩
  · cases r
    · go_enter Tryz.func134, Tryz.ntmps134
      go_wp2_with fail
      refine (H.out _).mono ?_
      rintro e w1 ⟨b, rfl, hb, hh, bl⟩
      have c0 := cellOf1 hh
      have Hh := Lib.hid hh
      clear hh
      go_wp2_with fail
      refine wp_loop_rounds 2 ?_
      rw [rounds_succ]
      go_wp2_with fail
      refine (HK2.out _).mono ?_
      rintro e w' ⟨rfl, rfl⟩
      go_wp2_with fail
      refine (HU1.out _).mono ?_
      rintro e w' ⟨rfl, rfl⟩
      go_wp2_with fail
      refine (IH.out _).mono ?_
      rintro e w2 ⟨rfl, bl2⟩
      clear c0
      go_wp2_with fail
      go_ret
      exact ⟨rfl, (below_trans bl bl2 bl.size)⟩
    · go_enter Tryz.func134, Tryz.ntmps134
      go_wp2_with fail
      refine (H.out _).mono ?_
      rintro e w1 ⟨b, rfl, hb, hh, bl⟩
      have c0 := cellOf1 hh
      have Hh := Lib.hid hh
      clear hh
      go_wp2_with fail
      refine wp_loop_rounds 2 ?_
      rw [rounds_succ]
      go_wp2_with fail
      refine (HK2.out _).mono ?_
      rintro e w' ⟨rfl, rfl⟩
      go_wp2_with fail
      refine (HU1.out _).mono ?_
      rintro e w' ⟨rfl, rfl⟩
      go_wp2_with fail
      refine (IH.out _).mono ?_
      rintro e w2 ⟨rfl, bl2⟩
      clear c0
      go_wp2_with fail
      rw [rounds_succ]
      go_wp2_with fail
      go_ret
      exact ⟨rfl, (below_trans bl bl2 bl.size)⟩

theorem inp_any (t : Tm) : t.ok nmE = true → t.pr.length ≤ 700 → ∀ (w : World), Calls Tryz.prog 134 #[.string (S t)] w fun e w' => e = .returned (.bool t.inp) ∧ Below w.heap.size w w' := by
  induction t with
  | nil => exact fun ho hl => inp0 _ (tmParts_any .nil ho hl)
  | snd a b p ih =>
    intro ho hl
    have ho' := ho
    simp only [Tm.ok, Bool.and_eq_true] at ho'
    have hl' := hl
    simp only [Tm.pr, List.length_cons] at hl'
    exact inp1 _ _ _ (by simp only [Tm.kind]; decide) p.inp (tmKind_any (.snd a b p) ho hl) (tmParts_any (.snd a b p) ho hl) (ih ho'.2 (by omega))
  | rcv a b p ih =>
    intro ho hl
    have ho' := ho
    simp only [Tm.ok, Bool.and_eq_true] at ho'
    have hl' := hl
    simp only [Tm.pr, List.length_cons] at hl'
    exact inp1 _ _ _ (by simp only [Tm.kind]; decide) p.inp (tmKind_any (.rcv a b p) ho hl) (tmParts_any (.rcv a b p) ho hl) (ih ho'.2 (by omega))
  | mat a b p ih =>
    intro ho hl
    have ho' := ho
    simp only [Tm.ok, Bool.and_eq_true] at ho'
    have hl' := hl
    simp only [Tm.pr, List.length_cons] at hl'
    exact inp1 _ _ _ (by simp only [Tm.kind]; decide) p.inp (tmKind_any (.mat a b p) ho hl) (tmParts_any (.mat a b p) ho hl) (ih ho'.2 (by omega))
  | own x p ih =>
    intro ho hl
    have ho' := ho
    simp only [Tm.ok, Bool.and_eq_true] at ho'
    have hl' := hl
    simp only [Tm.pr, List.length_cons] at hl'
    exact inp1 _ _ _ (by simp only [Tm.kind]; decide) p.inp (tmKind_any (.own x p) ho hl) (tmParts_any (.own x p) ho hl) (ih ho'.2 (by omega))
  | tau p ih =>
    intro ho hl
    have ho' := ho
    simp only [Tm.ok] at ho'
    have hl' := hl
    simp only [Tm.pr, List.length_cons] at hl'
    exact inp1 _ _ _ (by simp only [Tm.kind]; decide) p.inp (tmKind_any (.tau p) ho hl) (tmParts_any (.tau p) ho hl) (ih ho (by omega))
  | rep p ih =>
    intro ho hl
    have ho' := ho
    simp only [Tm.ok] at ho'
    have hl' := hl
    simp only [Tm.pr, List.length_cons] at hl'
    exact inpS _ _ _ (p.kind == 63) p.inp (inp_kind p) (tmKind_any (.rep p) ho hl) (tmKind_any p ho (by omega)) (tmParts_any (.rep p) ho hl) (ih ho (by omega))
  | sum p q ih ih2 =>
    intro ho hl
    have ho' := ho
    simp only [Tm.ok, Bool.and_eq_true] at ho'
    have hl' := hl
    simp only [Tm.pr, List.length_cons, List.length_append] at hl'
    exact inp2 _ _ _ _ (by simp only [Tm.kind]; decide) p.inp q.inp (tmKind_any (.sum p q) ho hl) (tmParts_any (.sum p q) ho hl) (ih ho'.1 (by omega)) (ih2 ho'.2 (by omega))
  | par p q ih ih2 =>
    intro ho hl
    have ho' := ho
    simp only [Tm.ok, Bool.and_eq_true] at ho'
    have hl' := hl
    simp only [Tm.pr, List.length_cons, List.length_append] at hl'
    exact inp2 _ _ _ _ (by simp only [Tm.kind]; decide) p.inp q.inp (tmKind_any (.par p q) ho hl) (tmParts_any (.par p q) ho hl) (ih ho'.1 (by omega)) (ih2 ho'.2 (by omega))

theorem cf_s1' (args : Array Value) (w : World) : (callFunc 126 args).run Tryz.prog w = .ok (.enter 126 args) w := by kernel_rfl
set_option maxHeartbeats 1000000 in
theorem s1_other (T : TypeId) (V : Value) (w : World) (h : ∀ w, (Instr.typeAssert (.iface T V) 49 158 true).run Tryz.prog w = .ok (.tuple #[.agg #[.nilIface], .bool false]) w) :
    Calls Tryz.prog 126 (#[.iface T V] ++ #[]) w fun e w' => e = .returned (.bool false) ∧ Below w.heap.size w w' := by
  show Calls Tryz.prog 126 #[.iface T V] w _
  go_enter Tryz.func126, Tryz.ntmps126
  go_wp2_with fail
  go_ret
  exact ⟨rfl, (Below.refl _ _).alloc (Nat.le_refl _) _⟩
set_option maxHeartbeats 1000000 in
theorem s1_rep (tp : TypeId) (vp : Value) (k : UInt8) (hk : KindFact tp vp (one k)) (w : World) :
    Calls Tryz.prog 126 (#[.iface 158 (.agg #[.iface tp vp])] ++ #[]) w fun e w' => e = .returned (.bool (!(k == 63))) ∧ Below w.heap.size w w' := by
  show Calls Tryz.prog 126 #[.iface 158 (.agg #[.iface tp vp])] w _
  obtain ⟨F, R, hm1, hn1, hc1, hp⟩ := hk
  have HE : Hid (((one k).toList == [63]) = (k == 63)) := by
    have h : ∀ c, (one c).toList = [c] := fun c => by rw [ByteArray.toList_eq]; rfl
    show _ = _
    rw [h]; simp
  obtain ⟨o, ho⟩ : ∃ o, o = one k := ⟨_, rfl⟩
  rw [← ho] at hp HE
  have H := Lib.hid hp
  clear hp ho
  go_enter Tryz.func126, Tryz.ntmps126
  go_wp2_with fail
  refine (H.out _).mono ?_
  rintro e w' ⟨rfl, bl⟩
  go_wp2_with fail
  go_ret
  refine ⟨?_, below_trans ((Below.refl _ _).alloc (Nat.le_refl _) _) bl (by simp)⟩
  rw [← HE.out]
  rfl
theorem s1_any (t : Tm) (w : World) : Calls Tryz.prog 126 (#[.iface (tyOf t) (pay t)] ++ #[]) w fun e w' => e = .returned (.bool (rpt t)) ∧ Below w.heap.size w w' := by
  cases t with
  | nil => exact s1_other _ _ w (ta_nothing_repeat _)
  | snd a b p => exact s1_other _ _ w (ta_send_repeat _)
  | rcv a b p => exact s1_other _ _ w (ta_receive_repeat _)
  | tau p => exact s1_other _ _ w (ta_silent_repeat _)
  | sum p q => exact s1_other _ _ w (ta_choice_repeat _)
  | par p q => exact s1_other _ _ w (ta_beside_repeat _)
  | own x p => exact s1_other _ _ w (ta_own_repeat _)
  | mat a b p => exact s1_other _ _ w (ta_match_repeat _)
  | rep p => exact s1_rep _ _ p.kind (kind_fact p) w
set_option maxHeartbeats 1000000 in
theorem isSimple_any (t : Tm) (ht : t.size ≤ 1000) (w : World) : Calls Tryz.prog 79 #[.iface (tyOf t) (pay t)] w fun e w' => e = .returned (.bool (t.grd && t.inp)) ∧ Below w.heap.size w w' := by
  have HC := countOf_any 126 #[] rpt (fun _ => True) cf_s1' (fun t w _ => s1_any t w) t ht w (fun _ _ _ _ => trivial) trivial
  have HG := fun w => isGuarded_any t ht w
  rw [← rpt_eq]
  obtain ⟨T, hT⟩ : ∃ T, T = tyOf t := ⟨_, rfl⟩
  obtain ⟨V, hV⟩ : ∃ V, V = pay t := ⟨_, rfl⟩
  obtain ⟨N, hN⟩ : ∃ N, N = t.subs.countP rpt := ⟨_, rfl⟩
  obtain ⟨G, hG⟩ : ∃ G, G = t.grd := ⟨_, rfl⟩
  rw [← hT, ← hV, ← hN] at HC
  rw [← hT, ← hV, ← hG] at HG
  rw [← hT, ← hV, ← hN, ← hG]
  have H := Lib.hid HC
  have H2 := Lib.hid HG
  clear hT hV hN hG HC HG
  cases hz : ((N : Int) == 0) with
  | true =>
    go_enter Tryz.func79, Tryz.ntmps79
    go_wp2_with fail
    refine (H.out).mono ?_
    rintro e w1 ⟨rfl, bl⟩
    go_wp2_with fail
    refine (H2.out _).mono ?_
    rintro e w2 ⟨rfl, bl2⟩
    go_wp2_with fail
    go_ret
    exact ⟨ret_bool (by simp), below_trans bl bl2 bl.size⟩
  | false =>
    go_enter Tryz.func79, Tryz.ntmps79
    go_wp2_with fail
    refine (H.out).mono ?_
    rintro e w1 ⟨rfl, bl⟩
    go_wp2_with fail
    go_ret
    exact ⟨ret_bool (by simp), bl⟩
set_option maxHeartbeats 1000000 in
theorem tmSimple_any (t : Tm) (ho : t.ok nmE = true) (hl : t.pr.length ≤ 700) (w : World) : Calls Tryz.prog 86 #[.string (S t)] w fun e w' => e = .returned (.bool (t.grd && t.inp)) ∧ Below w.heap.size w w' := by
  have HG := grd_any t ho hl
  have HI := inp_any t ho hl
  obtain ⟨s, hs⟩ : ∃ s, s = S t := ⟨_, rfl⟩
  obtain ⟨G, hG⟩ : ∃ G, G = t.grd := ⟨_, rfl⟩
  obtain ⟨I, hI⟩ : ∃ I, I = t.inp := ⟨_, rfl⟩
  rw [← hs, ← hG] at HG
  rw [← hs, ← hI] at HI
  rw [← hs, ← hG, ← hI]
  have H := Lib.hid HG
  have H2 := Lib.hid HI
  clear hs hG hI HG HI
  cases G with
  | true =>
    go_enter Tryz.func86, Tryz.ntmps86
    go_wp2_with fail
    refine (H.out _).mono ?_
    rintro e w1 ⟨rfl, bl⟩
    go_wp2_with fail
    refine (H2.out _).mono ?_
    rintro e w2 ⟨rfl, bl2⟩
    go_wp2_with fail
    go_ret
    exact ⟨ret_bool (by simp), below_trans bl bl2 bl.size⟩
  | false =>
    go_enter Tryz.func86, Tryz.ntmps86
    go_wp2_with fail
    refine (H.out _).mono ?_
    rintro e w1 ⟨rfl, bl⟩
    go_wp2_with fail
    go_ret
    exact ⟨ret_bool (by simp), bl⟩

end Go.Proofs.YtnkjbdgnmgoefaaGreat.T1

/- Offers on the specification's side; the normal form of a simple process, on both sides. MADE BY gen_Rb.py. -/
namespace Go.Proofs.YtnkjbdgnmgoefaaGreat.T1
open Go.RowKit
set_option maxRecDepth 100000
set_option linter.unusedVariables false
set_option linter.unusedSimpArgs false

theorem gd_gp (t : Tm) : gd t = gp t := by cases t <;> simp only [gd, Tm.kind, gp] <;> decide +kernel
theorem kind_rq (t : Tm) : (t.kind == 63) = rq t := by cases t <;> rfl
theorem smp_eq (t : Tm) : (t.grd && t.inp) = t.smp := by
  induction t with
  | nil => rfl
  | snd a b p ih => exact ih
  | rcv a x p ih => exact ih
  | tau p ih => exact ih
  | own x p ih => exact ih
  | mat a b p ih => exact ih
  | sum p q ih ih2 => simp only [Tm.grd, Tm.inp, Tm.smp, gd_gp]; rw [← ih, ← ih2]; cases gp p <;> cases gp q <;> cases p.grd <;> cases q.grd <;> cases p.inp <;> cases q.inp <;> rfl
  | par p q ih ih2 => simp only [Tm.grd, Tm.inp, Tm.smp]; rw [← ih, ← ih2]; cases p.grd <;> cases q.grd <;> cases p.inp <;> cases q.inp <;> rfl
  | rep p ih => simp only [Tm.grd, Tm.inp, Tm.smp]; rw [kind_rq, ← ih]; cases rq p <;> cases p.grd <;> cases p.inp <;> rfl

/-- The cells of an offer. -/
def offCs (o : Off) : List Value := offC (o.k.toNat : Int) (o.a.toNat : Int) (o.b.toNat : Int) (S o.r) o.st
def OffP (T : Tm) (w : World) (e : Ending) (w' : World) : Prop :=
  (offs T = [] ∧ e = .returned (.slice none 0 0) ∧ Below w.heap.size w w') ∨ RowO ((offs T).flatMap offCs) (offs T).length w e w'
theorem offs_len (t : Tm) : (offs t).length ≤ t.size := by
  induction t with
  | sum p q ih ih2 => simp only [offs, List.length_append, Tm.size]; omega
  | rep p ih => simp only [offs, List.length_map, Tm.size]; omega
  | _ => simp [offs, Tm.size]
theorem offCs_one (l : List Off) : ∀ x ∈ l.flatMap offCs, x.oneCell' = true := by
  intro x hx
  obtain ⟨o, _, h⟩ := List.mem_flatMap.1 hx
  simp only [offCs, offC, List.mem_cons, List.not_mem_nil, or_false] at h
  rcases h with rfl | rfl | rfl | rfl | rfl <;> rfl
theorem rdO_row (t : Tm) (hE : t.ok nmE = true) (hl : t.pr.length ≤ 700) (hs : t.size ≤ 900) (hq : t.smq = true) (hg : gq t = true) (w : World) :
    Calls Tryz.prog 77 #[.string (S t)] w (RowO ((offs t).flatMap offCs) (offs t).length w) := by
  have hsz := S_size t
  induction t generalizing w with
  | snd a b p ih =>
    have hp : (Tm.snd a b p).pr = a :: 33 :: b :: 46 :: p.pr := rfl
    have h4 : 4 ≤ (S (.snd a b p)).size := by rw [hsz, hp]; simp
    have h := rdo_pair (S (.snd a b p)) 33 (by omega) (by omega) h4 (by omega) (.inl rfl) (tmKind_any _ hE hl) w
    have e4 : (S (.snd a b p)).extract 4 (S (.snd a b p)).size = S p := S_sub (.snd a b p) p rfl
    rw [S_at, S_at, e4] at h
    exact h
  | rcv a x p ih =>
    have hp : (Tm.rcv a x p).pr = a :: 63 :: x :: 46 :: p.pr := rfl
    have h4 : 4 ≤ (S (.rcv a x p)).size := by rw [hsz, hp]; simp
    have h := rdo_pair (S (.rcv a x p)) 63 (by omega) (by omega) h4 (by omega) (.inr ⟨rfl, rfl⟩) (tmKind_any _ hE hl) w
    have e4 : (S (.rcv a x p)).extract 4 (S (.rcv a x p)).size = S p := S_sub (.rcv a x p) p rfl
    rw [S_at, S_at, e4] at h
    exact h
  | tau p ih =>
    have hp : (Tm.tau p).pr = 126 :: 46 :: p.pr := rfl
    have h4 : 2 ≤ (S (.tau p)).size := by rw [hsz, hp]; simp
    have h := rdo_tau (S (.tau p)) 126 h4 (by omega) rfl rfl rfl (tmKind_any _ hE hl) w
    have e4 : (S (.tau p)).extract 2 (S (.tau p)).size = S p := S_sub (.tau p) p rfl
    rw [e4] at h
    exact h
  | sum p q ih ih2 =>
    obtain ⟨⟨g1, s1⟩, g2, s2⟩ := smq_sum.1 hq
    simp only [Tm.ok, Bool.and_eq_true] at hE
    simp only [Tm.size] at hs
    have hlp : p.pr.length ≤ 700 ∧ q.pr.length ≤ 700 := by simp only [Tm.pr, List.length_cons, List.length_append] at hl; omega
    have l1 := offs_len p
    have l2 := offs_len q
    have hne := offs_ne q s2 g2
    have h := rdo_sum (S (.sum p q)) (S p) (S q) 43 rfl rfl rfl rfl (tmKind_any _ (by simp only [Tm.ok, Bool.and_eq_true]; exact hE) hl) ((offs p).flatMap offCs) ((offs q).flatMap offCs) (offs p).length (offs q).length (by omega) (by omega) (List.length_pos_iff.2 hne) (offCs_one _)
      (tmParts_any (.sum p q) (by simp only [Tm.ok, Bool.and_eq_true]; exact hE) hl) (fun w => ih hE.1 hlp.1 (by omega) s1 g1 w (S_size p)) (fun w => ih2 hE.2 hlp.2 (by omega) s2 g2 w (S_size q)) w
    simp only [offs, List.flatMap_append, List.length_append]
    exact h
  | _ => cases hg
theorem rdO_any (t : Tm) (hE : t.ok nmE = true) (hl : t.pr.length ≤ 700) (hs : t.size ≤ 900) (hq : t.smq = true) (w : World) : Calls Tryz.prog 77 #[.string (S t)] w (OffP t w) := by
  cases t with
  | snd a b p => exact (rdO_row _ hE hl hs hq rfl w).mono fun e w' h => .inr h
  | rcv a x p => exact (rdO_row _ hE hl hs hq rfl w).mono fun e w' h => .inr h
  | tau p => exact (rdO_row _ hE hl hs hq rfl w).mono fun e w' h => .inr h
  | sum p q => exact (rdO_row _ hE hl hs hq rfl w).mono fun e w' h => .inr h
  | nil => exact (rdo_none _ 48 rfl rfl rfl rfl rfl (tmKind_any _ hE hl) w).mono fun e w' h => .inl ⟨rfl, h⟩
  | par p q => exact (rdo_none _ 38 rfl rfl rfl rfl rfl (tmKind_any _ hE hl) w).mono fun e w' h => .inl ⟨rfl, h⟩
  | own x p => exact (rdo_none _ 35 rfl rfl rfl rfl rfl (tmKind_any _ hE hl) w).mono fun e w' h => .inl ⟨rfl, h⟩
  | mat a b p => exact (rdo_none _ 61 rfl rfl rfl rfl rfl (tmKind_any _ hE hl) w).mono fun e w' h => .inl ⟨rfl, h⟩
  | rep p =>
    have hq' := hq
    simp only [Tm.smq, Bool.and_eq_true] at hq'
    cases p with
    | rcv a x p =>
      have hsz := S_size (.rep (.rcv a x p))
      have hp : (Tm.rep (.rcv a x p)).pr = 42 :: (Tm.rcv a x p).pr := rfl
      have hE' : (Tm.rcv a x p).ok nmE = true := hE
      have h := rdO_row (.rcv a x p) hE' (by rw [hp] at hl; simp at hl; omega) (by simp only [Tm.size] at hs ⊢; omega) hq'.2 rfl
      have e4 : (S (.rep (.rcv a x p))).extract 1 (S (.rep (.rcv a x p))).size = S (.rcv a x p) := S_sub (.rep (.rcv a x p)) (.rcv a x p) rfl
      have h2 := rdo_rep (S (.rep (.rcv a x p))) 42 (by rw [hsz, hp]; simp) (by omega) rfl rfl rfl rfl rfl (tmKind_any _ hE hl) 63 (a.toNat : Int) (x.toNat : Int) (S p) (by rw [e4]; exact h) w
      exact h2.mono fun e w' h => .inr h
    | _ => cases hq'.1

/-- The normal form of a simple process that is told as a text. -/
noncomputable def stO (s : ByteArray) : Option Tm := (good s.data.toList).bind fun t => if t.smp then nfI t else none
theorem stO_some {s : ByteArray} {r : Tm} (h : stO s = some r) : NfForm r ∧ r.ok nmL = true ∧ r.pr.length ≤ 300 ∧ r.size ≤ 60 ∧ r.smq = true := by
  unfold stO at h
  cases hg : good s.data.toList with
  | none => rw [hg] at h; cases h
  | some t =>
    rw [hg] at h
    have h' : (if t.smp = true then nfI t else none) = some r := h
    split at h'
    · rename_i hs
      have h2 := h'
      refine ⟨nfI_form h', ?_⟩
      unfold nfI at h'
      split at h'
      · cases h'
      · split at h'
        · rename_i hh; cases h'; exact ⟨hh.1, hh.2.1, hh.2.2, nfI_smq h2 hs⟩
        · cases h'
    · cases h'
set_option maxHeartbeats 2000000 in
theorem rs_no (s : ByteArray) (n1 : ∀ w, Calls Tryz.prog 61 #[.string s] w fun e w' => e = .returned (.bool false) ∧ Below w.heap.size w w') (w : World) : Calls Tryz.prog 57 #[.string s] w fun e w' => e = .returned (.tuple #[.string ⟨#[]⟩, .bool false]) ∧ Below w.heap.size w w' := by
  have Hn1 := Lib.hid n1
  clear n1
  go_enter Tryz.func57, Tryz.ntmps57
  go_wp2_with fail
  refine (Hn1.out _).mono ?_
  rintro e w1 ⟨rfl, c1⟩
  have b1 := c1
  go_wp2_with fail
  go_ret2
  exact ⟨rfl, b1⟩
set_option maxHeartbeats 2000000 in
theorem rs_ns (s : ByteArray) (n1 : ∀ w, Calls Tryz.prog 61 #[.string s] w fun e w' => e = .returned (.bool true) ∧ Below w.heap.size w w') (n2 : ∀ w, Calls Tryz.prog 86 #[.string s] w fun e w' => e = .returned (.bool false) ∧ Below w.heap.size w w') (w : World) : Calls Tryz.prog 57 #[.string s] w fun e w' => e = .returned (.tuple #[.string ⟨#[]⟩, .bool false]) ∧ Below w.heap.size w w' := by
  have Hn1 := Lib.hid n1
  have Hn2 := Lib.hid n2
  clear n1 n2
  go_enter Tryz.func57, Tryz.ntmps57
  go_wp2_with fail
  refine (Hn1.out _).mono ?_
  rintro e w1 ⟨rfl, c1⟩
  have b1 := c1
  go_wp2_with fail
  refine (Hn2.out _).mono ?_
  rintro e w2 ⟨rfl, c2⟩
  have b2 := below_go b1 c2
  go_wp2_with fail
  go_ret2
  exact ⟨rfl, b2⟩
set_option maxHeartbeats 2000000 in
theorem rs_yes (s X : ByteArray) (b : Bool) (n1 : ∀ w, Calls Tryz.prog 61 #[.string s] w fun e w' => e = .returned (.bool true) ∧ Below w.heap.size w w') (n2 : ∀ w, Calls Tryz.prog 86 #[.string s] w fun e w' => e = .returned (.bool true) ∧ Below w.heap.size w w') (n3 : ∀ w, Calls Tryz.prog 38 #[.string s] w fun e w' => e = .returned (.tuple #[.string X, .bool b]) ∧ Below w.heap.size w w') (w : World) : Calls Tryz.prog 57 #[.string s] w fun e w' => e = .returned (.tuple #[.string X, .bool b]) ∧ Below w.heap.size w w' := by
  have Hn1 := Lib.hid n1
  have Hn2 := Lib.hid n2
  have Hn3 := Lib.hid n3
  clear n1 n2 n3
  go_enter Tryz.func57, Tryz.ntmps57
  go_wp2_with fail
  refine (Hn1.out _).mono ?_
  rintro e w1 ⟨rfl, c1⟩
  have b1 := c1
  go_wp2_with fail
  refine (Hn2.out _).mono ?_
  rintro e w2 ⟨rfl, c2⟩
  have b2 := below_go b1 c2
  go_wp2_with fail
  refine (Hn3.out _).mono ?_
  rintro e w3 ⟨rfl, c3⟩
  have b3 := below_go b2 c3
  go_wp2_with fail
  go_ret2
  exact ⟨rfl, b3⟩
set_option maxHeartbeats 2000000 in
theorem sn_no (s : ByteArray) (n1 : ∀ w, Calls Tryz.prog 70 #[.string s] w fun e w' => e = .returned (.tuple #[.nilIface, .bool false]) ∧ Below w.heap.size w w') (w : World) : Calls Tryz.prog 53 #[.string s] w fun e w' => e = .returned (.tuple #[.nilIface, .bool false]) ∧ Below w.heap.size w w' := by
  have Hn1 := Lib.hid n1
  clear n1
  go_enter Tryz.func53, Tryz.ntmps53
  go_wp2_with fail
  refine (Hn1.out _).mono ?_
  rintro e w1 ⟨rfl, c1⟩
  have b1 := c1
  go_wp2_with fail
  go_ret2
  exact ⟨rfl, b1⟩
set_option maxHeartbeats 2000000 in
theorem sn_ns (s : ByteArray) (T : TypeId) (V : Value) (n1 : ∀ w, Calls Tryz.prog 70 #[.string s] w fun e w' => e = .returned (.tuple #[.iface T V, .bool true]) ∧ Below w.heap.size w w') (n2 : ∀ w, Calls Tryz.prog 79 #[.iface T V] w fun e w' => e = .returned (.bool false) ∧ Below w.heap.size w w') (w : World) : Calls Tryz.prog 53 #[.string s] w fun e w' => e = .returned (.tuple #[.nilIface, .bool false]) ∧ Below w.heap.size w w' := by
  have Hn1 := Lib.hid n1
  have Hn2 := Lib.hid n2
  clear n1 n2
  go_enter Tryz.func53, Tryz.ntmps53
  go_wp2_with fail
  refine (Hn1.out _).mono ?_
  rintro e w1 ⟨rfl, c1⟩
  have b1 := c1
  go_wp2_with fail
  refine (Hn2.out _).mono ?_
  rintro e w2 ⟨rfl, c2⟩
  have b2 := below_go b1 c2
  go_wp2_with fail
  go_ret2
  exact ⟨rfl, b2⟩
set_option maxHeartbeats 2000000 in
theorem sn_yes (s : ByteArray) (T : TypeId) (V PV : Value) (b : Bool) (n1 : ∀ w, Calls Tryz.prog 70 #[.string s] w fun e w' => e = .returned (.tuple #[.iface T V, .bool true]) ∧ Below w.heap.size w w') (n2 : ∀ w, Calls Tryz.prog 79 #[.iface T V] w fun e w' => e = .returned (.bool true) ∧ Below w.heap.size w w') (n3 : ∀ w, Calls Tryz.prog 71 #[.iface T V] w fun e w' => e = .returned (.tuple #[PV, .bool b]) ∧ Below w.heap.size w w') (w : World) : Calls Tryz.prog 53 #[.string s] w fun e w' => e = .returned (.tuple #[PV, .bool b]) ∧ Below w.heap.size w w' := by
  have Hn1 := Lib.hid n1
  have Hn2 := Lib.hid n2
  have Hn3 := Lib.hid n3
  clear n1 n2 n3
  go_enter Tryz.func53, Tryz.ntmps53
  go_wp2_with fail
  refine (Hn1.out _).mono ?_
  rintro e w1 ⟨rfl, c1⟩
  have b1 := c1
  go_wp2_with fail
  refine (Hn2.out _).mono ?_
  rintro e w2 ⟨rfl, c2⟩
  have b2 := below_go b1 c2
  go_wp2_with fail
  refine (Hn3.out _).mono ?_
  rintro e w3 ⟨rfl, c3⟩
  have b3 := below_go b2 c3
  go_wp2_with fail
  go_ret2
  exact ⟨rfl, b3⟩
theorem rdStart_any (s : ByteArray) (hm : s.size ≤ 9223372036854775807) (w : World) : Calls Tryz.prog 57 #[.string s] w (TwoS (optS (stO s)) (stO s).isSome w) := by
  unfold stO
  cases hg : good s.data.toList with
  | none => exact rs_no s (fun w => tmGood_none hg w hm) w
  | some t =>
    obtain ⟨es, hL, hE, h300, h60⟩ := good_S hg
    have hf : FitT t := .inl (fit_ok t hL (by omega))
    have h2 := tmSimple_any t hE (by omega)
    rw [smp_eq, ← es] at h2
    show Calls Tryz.prog 57 #[.string s] w (TwoS (optS (if t.smp = true then nfI t else none)) (if t.smp = true then nfI t else none).isSome w)
    cases hs : t.smp with
    | false => rw [hs] at h2; exact rs_ns s (fun w => tmGood_some hg w hm) h2 w
    | true =>
      rw [hs] at h2
      have h1 := nfIf_any t (by omega) hf hL (by omega)
      rw [nf_same hL (by omega) hf, ← es] at h1
      exact rs_yes s _ _ (fun w => tmGood_some hg w hm) h2 h1 w
theorem simpleNormal_any (s : ByteArray) (hm : s.size ≤ 9223372036854775807) (w : World) : Calls Tryz.prog 53 #[.string s] w fun e w' => e = .returned (.tuple #[nfV (stO s), .bool (stO s).isSome]) ∧ Below w.heap.size w w' := by
  unfold stO
  cases hg : good s.data.toList with
  | none => exact sn_no s (fun w => parse_none hg w hm) w
  | some t =>
    obtain ⟨es, hL, hE, h300, h60⟩ := good_S hg
    have h2 := isSimple_any t (by omega)
    rw [smp_eq] at h2
    show Calls Tryz.prog 53 #[.string s] w fun e w' => e = .returned (.tuple #[nfV (if t.smp = true then nfI t else none), .bool (if t.smp = true then nfI t else none).isSome]) ∧ Below w.heap.size w w'
    cases hs : t.smp with
    | false => rw [hs] at h2; exact sn_ns s _ _ (fun w => parse_some hg w hm) h2 w
    | true => rw [hs] at h2; exact sn_yes s _ _ _ _ (fun w => parse_some hg w hm) h2 (normalForm_any t hL (by omega) (by omega)) w
end Go.Proofs.YtnkjbdgnmgoefaaGreat.T1

/- The names over which threads can send or receive, on the specification's side. MADE BY gen_Rc.py. -/
namespace Go.Proofs.YtnkjbdgnmgoefaaGreat.T1
open Go.RowKit
set_option maxRecDepth 100000
set_option linter.unusedVariables false
set_option linter.unusedSimpArgs false

def OffQ (T : Tm) (w : World) (e : Ending) (w' : World) : Prop := ∃ v, e = .returned v ∧ w'.ownsRow w.heap.size 103 5 v (offs T).length ((offs T).flatMap offCs) ∧ Below w.heap.size w w'
theorem OffP.q {T : Tm} {w : World} {e : Ending} {w' : World} (h : OffP T w e w') : OffQ T w e w' := by
  rcases h with ⟨h1, h2, h3⟩ | ⟨g, c, h1, h2, h3⟩
  · exact ⟨_, h2, by rw [h1]; exact World.ownsRow_nil _ _ _ _, h3⟩
  · exact ⟨_, h1, h2, h3⟩
theorem ownK_form {w : World} {base n k : Nat} {e : TypeId} {v : Value} {xs : List Value} (h : w.ownsRow base e k v n xs) : ∃ p cap, v = .slice p n cap := by
  rcases h.2 with ⟨h1, h2⟩ | ⟨g, cap, cur, h1, _⟩
  · exact ⟨_, _, by rw [h1, h2]⟩
  · exact ⟨_, _, h1⟩
theorem ownK_at {w : World} {base n cap k : Nat} {e : TypeId} {p : Option Addr} {xs : List Value} (h : w.ownsRow base e k (.slice p n cap) n xs) (hn : 0 < n) : ∃ g, p = some ⟨g, 0, none⟩ ∧ base ≤ g ∧ g < w.heap.size ∧ n ≤ cap ∧ ∀ j u, xs[j]? = some u → w.cell? ⟨g, j, none⟩ = some u := by
  rcases h.2 with ⟨h1, h2⟩ | ⟨g, cap', cur, h1, h2, h3, h4, _⟩
  · omega
  · have h1' := h1
    injection h1 with e1 e2 e3
    subst e1 e3
    refine ⟨g, rfl, h2, lt_of_block h3, h4, fun j u hj => ?_⟩
    have := ownK_cells h j u hj
    have e2 : (Addr.add ⟨g, 0, none⟩ j) = ⟨g, j, none⟩ := by cases j <;> simp [Addr.add]
    rw [e2] at this; exact this
theorem offs_at (l : List Off) : ∀ (i : Nat) (h : i < l.length), (l.flatMap offCs)[i * 5]? = some (.int .u8 (l[i].k.toNat : Int)) ∧ (l.flatMap offCs)[i * 5 + 1]? = some (.int .u8 (l[i].a.toNat : Int)) ∧ (l.flatMap offCs)[i * 5 + 2]? = some (.int .u8 (l[i].b.toNat : Int)) ∧ (l.flatMap offCs)[i * 5 + 3]? = some (.string (S l[i].r)) ∧ (l.flatMap offCs)[i * 5 + 4]? = some (.bool l[i].st) := by
  induction l with
  | nil => intro i h; simp at h
  | cons x l ih =>
    intro i h
    cases i with
    | zero => exact ⟨rfl, rfl, rfl, rfl, rfl⟩
    | succ i =>
      have hl : (offCs x).length = 5 := rfl
      have e : ∀ j, ((x :: l).flatMap offCs)[(i + 1) * 5 + j]? = (l.flatMap offCs)[i * 5 + j]? := fun j => by
        rw [List.flatMap_cons, List.getElem?_append_right (by omega)]; congr 1; omega
      have h0 := e 0
      simp only [Nat.add_zero] at h0
      rw [h0, e 1, e 2, e 3, e 4]
      exact ih i (by simpa using h)
theorem fm_one (g : Off → Option UInt8) (o : Off) : [o].filterMap g = (g o).toList := by cases h : g o <;> simp [h]
theorem inB_mem (l : List UInt8) (a : UInt8) : inB (B l) (a.toNat : Int) = decide (a ∈ l) := by
  rw [Bool.eq_iff_iff, decide_eq_true_eq]
  unfold inB
  rw [B_list, List.any_eq_true]
  constructor
  · rintro ⟨x, hx, e⟩
    have : x = a := UInt8.toNat_inj.1 (by have := beq_iff_eq.1 e; omega)
    exact this ▸ hx
  · intro h; exact ⟨a, h, by simp⟩
theorem ov_nm (k : UInt8) (fr : List UInt8) (hk : k ≠ 126) (l : List Off) (h : ∀ o ∈ l, nmL o.a = true ∨ o.k = 126) : ∀ c ∈ l.filterMap (ovS k fr), nmL c = true := by
  intro c hc
  obtain ⟨o, ho, e⟩ := List.mem_filterMap.1 hc
  unfold ovS at e
  split at e
  · rename_i hk'
    split at e
    · cases e
    · cases e
      exact (h o ho).resolve_right fun e' => hk (hk'.symm.trans e')
  · cases e
theorem lets_setNc (l : List UInt8) (hs : Srt l) (hl : Lets l) : lets (setN l) 26 = l := by
  refine srt_ext ?_ hs fun x => ?_
  · unfold lets Srt
    rw [List.pairwise_map]
    refine List.Pairwise.imp_of_mem ?_ (List.Pairwise.filter _ List.pairwise_lt_range)
    intro a b ha hb hab
    have ha' := (List.mem_filter.1 ha).1
    have hb' := (List.mem_filter.1 hb).1
    rw [List.mem_range] at ha' hb'
    rw [u8_lt, UInt8.toNat_ofNat', UInt8.toNat_ofNat']; omega
  · unfold lets
    rw [List.mem_map]
    constructor
    · rintro ⟨i, hi, rfl⟩
      obtain ⟨h1, h2⟩ := List.mem_filter.1 hi
      rw [List.mem_range] at h1
      obtain ⟨d, hd, e⟩ := (setN_bit l hl i).1 h2
      rw [show UInt8.ofNat (97 + i) = d from u8_ext (by rw [UInt8.toNat_ofNat']; omega)]
      exact hd
    · intro hx
      have := hl x hx
      refine ⟨x.toNat - 97, List.mem_filter.2 ⟨List.mem_range.2 (by omega), (setN_bit l hl _).2 ⟨x, hx, by omega⟩⟩, u8_ext ?_⟩
      rw [UInt8.toNat_ofNat']; omega
theorem acc_size (l : List UInt8) (h : ∀ c ∈ l, nmL c = true) : (B (addsL [] l)).size ≤ 26 := by
  have hl := lets_addsL l [] lets_nil0 h
  have e := lets_setNc _ (srt_addsL l [] srt_nil) hl
  have := lets_len (setN (addsL [] l)) 26
  rw [e] at this
  have h2 : (B (addsL [] l)).size = (addsL [] l).length := by show (addsL [] l).toArray.size = _; simp
  omega
set_option maxHeartbeats 8000000 in
theorem ov_no (s : ByteArray) (k : Int) (n1 : ∀ w, Calls Tryz.prog 57 #[.string s] w fun e w' => e = .returned (.tuple #[.string ⟨#[]⟩, .bool false]) ∧ Below w.heap.size w w') (w : World) : Calls Tryz.prog 48 #[.string s, .int .u8 k] w fun e w' => e = .returned (.tuple #[.string ⟨#[]⟩, .bool false]) ∧ Below w.heap.size w w' := by
  have G1 := Lib.hid n1
  clear n1
  go_enter Tryz.func48, Tryz.ntmps48
  go_wp2_with fail
  refine (G1.out _).mono ?_
  rintro e w1 ⟨rfl, b1⟩
  go_wp2_with fail
  go_ret2
  exact ⟨rfl, b1⟩
set_option maxHeartbeats 8000000 in
theorem ov_yes (s X FB Y : ByteArray) (fr : List UInt8) (hfb : FB = B fr) (hfl : FB.size ≤ 1000) (us : List Tm) (hu : us.length ≤ 300) (k : UInt8) (n1 : ∀ w, Calls Tryz.prog 57 #[.string s] w fun e w' => e = .returned (.tuple #[.string X, .bool true]) ∧ Below w.heap.size w w') (n2 : ∀ w, Calls Tryz.prog 31 #[.string X] w fun e w' => e = .returned (.tuple #[.string FB, .string Y]) ∧ w = w') (n3 : ∀ w, Calls Tryz.prog 32 #[.string X] w (TxP us us.length w))
    (n4 : ∀ T ∈ us, (offs T).length ≤ 1000 ∧ (∀ o ∈ offs T, nmL o.a = true ∨ o.k = 126) ∧ ∀ w, Calls Tryz.prog 77 #[.string (S T)] w (OffQ T w)) (hk : k ≠ 126) (w : World) :
    Calls Tryz.prog 48 #[.string s, .int .u8 (k.toNat : Int)] w fun e w' => e = .returned (.tuple #[.string (B (addsL [] (us.flatMap fun T => (offs T).filterMap (ovS k fr)))), .bool true]) ∧ Below w.heap.size w w' := by
  have G1 := Lib.hid n1
  have G2 := Lib.hid n2
  have G3 := Lib.hid n3
  have G4 := Lib.hid n4
  have hfl2 : (B fr).size ≤ 1000 := hfb ▸ hfl
  clear n1 n2 n3 n4
  go_enter Tryz.func48, Tryz.ntmps48
  go_wp2_with fail
  refine (G1.out _).mono ?_
  rintro e w1 ⟨rfl, b1⟩
  go_wp2_with fail
  refine (G2.out _).mono ?_
  rintro e w2 ⟨rfl, rfl⟩
  go_wp2_with fail
  refine (G3.out _).mono ?_
  rintro e w3 ⟨v3, rfl, o3, b3⟩
  obtain ⟨p3, c3, rfl⟩ := ownK_form o3
  have O3 := Lib.hid o3
  have B3 := Lib.hid (below_go b1 b3)
  clear o3 b1 b3
  go_wp2_with fail
  go_loopg [10, 30] us.length (fun gk s10 s30 wr => (∃ i : Nat, s30 = .int .i64 (i : Int) ∧ i + gk = us.length ∧ s10 = .string (B (addsL [] ((us.take i).flatMap fun T => (offs T).filterMap (ovS k fr))))) ∧ Hid (Below w3.heap.size w3 wr))
  case atStart => exact ⟨⟨0, by congr 1, by omega, rfl⟩, Below.refl _ _⟩
  case round =>
    obtain ⟨⟨i, rfl, hik, rfl⟩, hbw⟩ := hrel
    obtain ⟨GO, hGO⟩ : ∃ G, G = gk := ⟨_, rfl⟩
    have hsz := hbw.out.size
    by_cases hlt : (i : Int) < (us.length : Int)
    · have hit : i < us.length := by omega
      obtain ⟨g, hpg, hg1, hg2, hg3, hcells⟩ := ownK_at O3.out (by omega)
      subst hpg
      obtain ⟨hol, hnm, hRO⟩ := G4.out us[i] (List.getElem_mem hit)
      obtain ⟨T, hT⟩ : ∃ T, T = us[i] := ⟨_, rfl⟩
      have c1 : wr.cell? ⟨g, i, none⟩ = some (.string (S T)) :=
        (hbw.out.cell (p := ⟨g, i, none⟩) hg2).trans (hcells i (.string (S T)) (by rw [hT, List.getElem?_map, List.getElem?_eq_getElem hit]; rfl))
      rw [← hT] at hRO hol hnm
      have HRO := Lib.hid hRO
      have HNM := Lib.hid hnm
      obtain ⟨P, hP⟩ : ∃ P, P = (us.take i).flatMap fun T => (offs T).filterMap (ovS k fr) := ⟨_, rfl⟩
      have HPn : Hid (∀ c ∈ P, nmL c = true) := by
        intro c hc
        rw [hP] at hc
        obtain ⟨T', hT', hc'⟩ := List.mem_flatMap.1 hc
        exact ov_nm k fr hk _ (G4.out T' (List.mem_of_mem_take hT')).2.1 c hc'
      have HPs : Hid (((us.take (i + 1)).flatMap fun T => (offs T).filterMap (ovS k fr)) = P ++ (offs T).filterMap (ovS k fr)) := by
        show _ = _
        rw [List.take_succ_eq_append_getElem hit, List.flatMap_append, ← hP, hT]; simp
      rw [← hP]
      clear hcells hRO hnm hP hT
      go_wp2_with fail
      refine (HRO.out _).mono ?_
      rintro e w4 ⟨v4, rfl, o4, b4⟩
      obtain ⟨p4, c4, rfl⟩ := ownK_form o4
      have O4 := Lib.hid o4
      have B4 := Lib.hid (below_go hbw.out b4)
      clear o4 b4 c1
      go_wp2_with fail
      go_loopg [10, 37] (offs T).length (fun gj s10 s37 wr => (∃ j : Nat, s37 = .int .i64 (j : Int) ∧ j + gj = (offs T).length ∧ s10 = .string (B (addsL [] (P ++ ((offs T).take j).filterMap (ovS k fr))))) ∧ Hid (Below w4.heap.size w4 wr))
      case atStart => exact ⟨⟨0, by congr 1, by omega, by simp⟩, Below.refl _ _⟩
      case round =>
        obtain ⟨⟨j, rfl, hjk, rfl⟩, hbv⟩ := hrel
        have hvz := hbv.out.size
        by_cases hlt2 : (j : Int) < ((offs T).length : Int)
        · have hjt : j < (offs T).length := by omega
          obtain ⟨g4, hp4, hh1, hh2, hh3, hcells⟩ := ownK_at O4.out (by omega)
          subst hp4
          obtain ⟨x0, x1, x2, x3, x4⟩ := offs_at (offs T) j hjt
          obtain ⟨oj, hoj⟩ : ∃ oj, oj = (offs T)[j] := ⟨_, rfl⟩
          rw [← hoj] at x0 x1 x2 x3 x4
          have k0 := (hbv.out.cell (p := ⟨g4, j * 5, none⟩) hh2).trans (hcells _ _ x0)
          have k1 := (hbv.out.cell (p := ⟨g4, j * 5 + 1, none⟩) hh2).trans (hcells _ _ x1)
          have k2 := (hbv.out.cell (p := ⟨g4, j * 5 + 2, none⟩) hh2).trans (hcells _ _ x2)
          have k3 := (hbv.out.cell (p := ⟨g4, j * 5 + 3, none⟩) hh2).trans (hcells _ _ x3)
          have k4 := (hbv.out.cell (p := ⟨g4, j * 5 + 4, none⟩) hh2).trans (hcells _ _ x4)
          have htk : ((offs T).take (j + 1)).filterMap (ovS k fr) = ((offs T).take j).filterMap (ovS k fr) ++ (ovS k fr oj).toList := by
            rw [List.take_succ_eq_append_getElem hjt, List.filterMap_append, ← hoj, fm_one]
          have hoja : nmL oj.a = true ∨ oj.k = 126 := HNM.out _ (hoj ▸ List.getElem_mem hjt)
          obtain ⟨Q, hQ⟩ : ∃ Q, Q = P ++ ((offs T).take j).filterMap (ovS k fr) := ⟨_, rfl⟩
          have HQ : Hid (P ++ ((offs T).take (j + 1)).filterMap (ovS k fr) = Q ++ (ovS k fr oj).toList) := by
            show _ = _
            rw [htk, hQ, List.append_assoc]
          have hQn : ∀ c ∈ Q, nmL c = true := by
            intro c hc
            rw [hQ] at hc
            rcases List.mem_append.1 hc with hc | hc
            · exact HPn.out c hc
            · exact ov_nm k fr hk _ (fun o ho => HNM.out o (List.mem_of_mem_take ho)) c hc
          have hQs := acc_size Q hQn
          rw [← hQ]
          have hby : (k.toNat : Int) = (k.toNat : Int) := rfl
          have HAD : Hid (∀ w, Calls Tryz.prog 67 #[.string (B (addsL [] Q)), .int .u8 (oj.a.toNat : Int)] w fun e w' => e = .returned (.string (B (addL (addsL [] Q) oj.a))) ∧ Below w.heap.size w w') := fun w => by
            have := tmAdd_any (B (addsL [] Q)) oj.a (by omega) w
            rw [B_list] at this; exact this
          have HIN : Hid (∀ w, Calls Tryz.prog 64 #[.string (B fr), .int .u8 (oj.a.toNat : Int)] w fun e w' => e = .returned (.bool (decide (oj.a ∈ fr))) ∧ w = w') := fun w => by
            have := tmIn_any (B fr) (oj.a.toNat : Int) w (by omega)
            rw [inB_mem] at this; exact this
          obtain ⟨KO, hKO⟩ : ∃ KO : Int, KO = (oj.k.toNat : Int) := ⟨_, rfl⟩
          obtain ⟨KK, hKK⟩ : ∃ KK : Int, KK = (k.toNat : Int) := ⟨_, rfl⟩
          obtain ⟨AO, hAO⟩ : ∃ AO : Int, AO = (oj.a.toNat : Int) := ⟨_, rfl⟩
          clear x0 x1 x2 x3 x4 hcells htk hQ hoj
          by_cases hkk : oj.k = k
          · have hc : ((oj.k.toNat : Int) == (k.toNat : Int)) = true := by rw [hkk]; simp
            by_cases hin : oj.a ∈ fr
            · have hi : decide (oj.a ∈ fr) = true := decide_eq_true hin
              rw [hi] at HIN
              have HR : Hid (P ++ ((offs T).take (j + 1)).filterMap (ovS k fr) = Q) := by
                show _ = _
                rw [HQ.out]; unfold ovS; rw [if_pos hkk, if_pos hin]; simp
              clear hi hin hkk
              go_wp2_with fail
              refine (HIN.out _).mono ?_
              rintro e w5 ⟨rfl, rfl⟩
              clear k0 k1 k2 k3 k4
              go_wp2_with fail
              go_roundg (gk - 1)
              case rel => exact ⟨⟨j + 1, by congr 1, by omega, by rw [HR.out]⟩, hbv.out.alloc hvz _⟩
              case measure => omega
            · have hi : decide (oj.a ∈ fr) = false := decide_eq_false hin
              rw [hi] at HIN
              have HR : Hid (P ++ ((offs T).take (j + 1)).filterMap (ovS k fr) = Q ++ [oj.a]) := by
                show _ = _
                rw [HQ.out]; unfold ovS; rw [if_pos hkk, if_neg hin]; rfl
              clear hi hin hkk
              go_wp2_with fail
              refine (HIN.out _).mono ?_
              rintro e w5 ⟨rfl, rfl⟩
              clear k0 k1 k2 k3 k4
              go_wp2_with fail
              refine (HAD.out _).mono ?_
              rintro e w6 ⟨rfl, b6⟩
              have B6 := Lib.hid (below_go (hbv.out.alloc hvz _) b6)
              clear b6
              go_wp2_with fail
              go_roundg (gk - 1)
              case rel => exact ⟨⟨j + 1, by congr 1, by omega, by rw [HR.out, addsL_one]⟩, B6⟩
              case measure => omega
          · have hc : ((oj.k.toNat : Int) == (k.toNat : Int)) = false := by
              rw [beq_eq_false_iff_ne]; intro e; exact hkk (UInt8.toNat_inj.1 (by omega))
            have HR : Hid (P ++ ((offs T).take (j + 1)).filterMap (ovS k fr) = Q) := by
              show _ = _
              rw [HQ.out]; unfold ovS; rw [if_neg hkk]; simp
            clear hkk
            go_wp2_with fail
            clear k0 k1 k2 k3 k4
            go_roundg (gk - 1)
            case rel => exact ⟨⟨j + 1, by congr 1, by omega, by rw [HR.out]⟩, hbv.out.alloc hvz _⟩
            case measure => omega
        · obtain rfl : j = (offs T).length := by omega
          have htk : P ++ ((offs T).take (offs T).length).filterMap (ovS k fr) = ((us.take (i + 1)).flatMap fun T => (offs T).filterMap (ovS k fr)) := by
            rw [List.take_of_length_le (Nat.le_refl _), HPs.out]
          rw [htk]
          have B7 := Lib.hid (below_go B4.out hbv.out)
          clear htk
          go_wp2_with fail
          go_roundg (GO - 1)
          case rel => exact ⟨⟨i + 1, by congr 1, by omega, rfl⟩, B7⟩
          case measure => omega
    · obtain rfl : i = us.length := by omega
      have htk : us.take us.length = us := List.take_of_length_le (Nat.le_refl _)
      rw [htk]
      have B7 := Lib.hid (below_go B3.out hbw.out)
      clear htk
      go_wp2_with fail
      go_ret2
      exact ⟨rfl, B7.out⟩
end Go.Proofs.YtnkjbdgnmgoefaaGreat.T1
