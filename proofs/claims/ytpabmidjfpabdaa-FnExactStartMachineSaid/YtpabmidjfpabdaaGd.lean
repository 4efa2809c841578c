/- Guarded and simple processes, in the specification and in the program. -/
import Derived.Test.YtpabmidjfpabdaaKind
import Derived.Test.YtpabmidjfpabdaaIn
namespace Go.Proofs.Ytpabmidjfpabdaa.T1
open Go.RowKit
set_option maxRecDepth 100000

/-- May a sign be a part of a sum? -/
def gd (t : Tm) : Bool := inB ⟨#[33, 63, 126, 43, 48]⟩ (t.kind.toNat : Int)
def Tm.grd : Tm → Bool
  | .nil => true
  | .snd _ _ p => p.grd
  | .rcv _ _ p => p.grd
  | .tau p => p.grd
  | .sum p q => gd p && p.grd && (gd q && q.grd)
  | .par p q => p.grd && q.grd
  | .own _ p => p.grd
  | .mat _ _ p => p.grd
  | .rep p => p.grd
/-- Is a sign a sum with a part that may not be one? -/
def opn : Tm → Bool
  | .sum p q => !(gd p && gd q)
  | _ => false
theorem cp_cons (g : Tm → Bool) (t : Tm) (l : List Tm) : (t :: l).countP g = cond (g t) 1 0 + l.countP g := by
  cases h : g t
  · simp [h]
  · simp [h]; omega
theorem opn_grd (t : Tm) : ((t.subs.countP opn : Nat) : Int) = 0 ↔ t.grd = true := by
  induction t with
  | nil => simp [Tm.subs, opn, Tm.grd]
  | sum p q ih ih2 =>
    simp only [Tm.subs, Tm.grd, cp_cons, List.countP_append, Bool.and_eq_true]
    rw [← ih, ← ih2, show opn (.sum p q) = !(gd p && gd q) from rfl]
    generalize p.subs.countP opn = A
    generalize q.subs.countP opn = B
    cases gd p <;> cases gd q <;> simp <;> omega
  | par p q ih ih2 =>
    simp only [Tm.subs, Tm.grd, cp_cons, List.countP_append, Bool.and_eq_true]
    rw [← ih, ← ih2, show opn (.par p q) = false from rfl]
    generalize p.subs.countP opn = A
    generalize q.subs.countP opn = B
    simp; omega
  | _ => simp_all [Tm.subs, opn, Tm.grd]
theorem opn_eq (t : Tm) : (((t.subs.countP opn : Nat) : Int) == 0) = t.grd := by
  rw [Bool.eq_iff_iff, beq_iff_eq]; exact opn_grd t

set_option maxHeartbeats 1000000 in
theorem grd0 (s : ByteArray) (HP : ∀ w, Calls Try.prog 36 #[.string s] w (PartsS [] w)) (w : World) :
    Calls Try.prog 29 #[.string s] w fun e w' => e = .returned (.bool true) ∧ Below w.heap.size w w' := by
  have H := Lib.hid HP
  clear HP
  go_enter Try.func29, Try.ntmps29
  go_wp2_with fail
  refine (H.out _).mono ?_
  rintro e w1 ⟨rfl, bl⟩
  go_wp2_with fail
  refine wp_loop_rounds 1 ?_
  rw [rounds_succ]
  go_wp2_with fail
  go_ret
  exact ⟨rfl, bl⟩

set_option maxHeartbeats 1000000 in
theorem grd1 (s u : ByteArray) (kd : Int) (hk : (kd == 43) = false) (r : Bool) (HK : ∀ w, Calls Try.prog 37 #[.string s] w fun e w' => e = .returned (.int .u8 kd) ∧ w = w') (HP : ∀ w, Calls Try.prog 36 #[.string s] w fun e w' => ∃ b, e = .returned (.slice (some ⟨b, 0, none⟩) 1 1) ∧ w.heap.size ≤ b ∧ w'.heap[b]? = some (.cells #[.string u] 9 (0, 0)) ∧ Below w.heap.size w w')
    (ih : ∀ w, Calls Try.prog 29 #[.string u] w fun e w' => e = .returned (.bool r) ∧ Below w.heap.size w w') (w : World) :
    Calls Try.prog 29 #[.string s] w fun e w' => e = .returned (.bool r) ∧ Below w.heap.size w w' := by
  have H := Lib.hid HP
  have HK2 := Lib.hid HK
  have IH := Lib.hid ih
  clear HP ih HK
  cases r
  · go_enter Try.func29, Try.ntmps29
    go_wp2_with fail
    refine (H.out _).mono ?_
    rintro e w1 ⟨b, rfl, hb, hh, bl⟩
    have c0 := cellOf1 hh
    have Hh := Lib.hid hh
    clear hh
    go_wp2_with fail
    refine wp_loop_rounds 2 ?_
    rw [rounds_succ]
    go_wp2_with fail
    refine (HK2.out _).mono ?_
    rintro e w' ⟨rfl, rfl⟩
    go_wp2_with fail
    refine (IH.out _).mono ?_
    rintro e w2 ⟨rfl, bl2⟩
    clear c0
    go_wp2_with fail
    go_ret
    exact ⟨rfl, (below_trans bl bl2 bl.size)⟩
  · go_enter Try.func29, Try.ntmps29
    go_wp2_with fail
    refine (H.out _).mono ?_
    rintro e w1 ⟨b, rfl, hb, hh, bl⟩
    have c0 := cellOf1 hh
    have Hh := Lib.hid hh
    clear hh
    go_wp2_with fail
    refine wp_loop_rounds 2 ?_
    rw [rounds_succ]
    go_wp2_with fail
    refine (HK2.out _).mono ?_
    rintro e w' ⟨rfl, rfl⟩
    go_wp2_with fail
    refine (IH.out _).mono ?_
    rintro e w2 ⟨rfl, bl2⟩
    clear c0
    go_wp2_with fail
    rw [rounds_succ]
    go_wp2_with fail
    go_ret
    exact ⟨rfl, (below_trans bl bl2 bl.size)⟩

set_option maxHeartbeats 1000000 in
theorem grd2 (s u v : ByteArray) (kd : Int) (hk : (kd == 43) = false) (r1 r2 : Bool) (HK : ∀ w, Calls Try.prog 37 #[.string s] w fun e w' => e = .returned (.int .u8 kd) ∧ w = w') (HP : ∀ w, Calls Try.prog 36 #[.string s] w fun e w' => ∃ b, e = .returned (.slice (some ⟨b, 0, none⟩) 2 2) ∧ w.heap.size ≤ b ∧ w'.heap[b]? = some (.cells #[.string u, .string v] 9 (0, 0)) ∧ Below w.heap.size w w')
    (ih : ∀ w, Calls Try.prog 29 #[.string u] w fun e w' => e = .returned (.bool r1) ∧ Below w.heap.size w w') (ih2 : ∀ w, Calls Try.prog 29 #[.string v] w fun e w' => e = .returned (.bool r2) ∧ Below w.heap.size w w') (w : World) :
    Calls Try.prog 29 #[.string s] w fun e w' => e = .returned (.bool (r1 && r2)) ∧ Below w.heap.size w w' := by
  have H := Lib.hid HP
  have HK2 := Lib.hid HK
  have IH := Lib.hid ih
  have IH2 := Lib.hid ih2
  clear HP ih ih2 HK
  cases r1
  · go_enter Try.func29, Try.ntmps29
    go_wp2_with fail
    refine (H.out _).mono ?_
    rintro e w1 ⟨b, rfl, hb, hh, bl⟩
    have c0 := cellOf2a hh
    have Hh := Lib.hid hh
    clear hh
    go_wp2_with fail
    refine wp_loop_rounds 3 ?_
    rw [rounds_succ]
    go_wp2_with fail
    refine (HK2.out _).mono ?_
    rintro e w' ⟨rfl, rfl⟩
    go_wp2_with fail
    refine (IH.out _).mono ?_
    rintro e w2 ⟨rfl, bl2⟩
    clear c0
    go_wp2_with fail
    go_ret
    exact ⟨rfl, (below_trans bl bl2 bl.size)⟩
  · cases r2
    · go_enter Try.func29, Try.ntmps29
      go_wp2_with fail
      refine (H.out _).mono ?_
      rintro e w1 ⟨b, rfl, hb, hh, bl⟩
      have c0 := cellOf2a hh
      have Hh := Lib.hid hh
      clear hh
      go_wp2_with fail
      refine wp_loop_rounds 3 ?_
      rw [rounds_succ]
      go_wp2_with fail
      refine (HK2.out _).mono ?_
      rintro e w' ⟨rfl, rfl⟩
      go_wp2_with fail
      refine (IH.out _).mono ?_
      rintro e w2 ⟨rfl, bl2⟩
      have h2 := (bl2.block b (lt_of_block Hh.out)).trans Hh.out
      clear c0
      have c1 := cellOf2b h2
      clear h2
      go_wp2_with fail
      rw [rounds_succ]
      go_wp2_with fail
      refine (HK2.out _).mono ?_
      rintro e w' ⟨rfl, rfl⟩
      go_wp2_with fail
      refine (IH2.out _).mono ?_
      rintro e w3 ⟨rfl, bl3⟩
      clear c1
      go_wp2_with fail
      go_ret
      exact ⟨rfl, (below_trans (below_trans bl bl2 bl.size) bl3 (Nat.le_trans bl.size bl2.size))⟩
    · go_enter Try.func29, Try.ntmps29
      go_wp2_with fail
      refine (H.out _).mono ?_
      rintro e w1 ⟨b, rfl, hb, hh, bl⟩
      have c0 := cellOf2a hh
      have Hh := Lib.hid hh
      clear hh
      go_wp2_with fail
      refine wp_loop_rounds 3 ?_
      rw [rounds_succ]
      go_wp2_with fail
      refine (HK2.out _).mono ?_
      rintro e w' ⟨rfl, rfl⟩
      go_wp2_with fail
      refine (IH.out _).mono ?_
      rintro e w2 ⟨rfl, bl2⟩
      have h2 := (bl2.block b (lt_of_block Hh.out)).trans Hh.out
      clear c0
      have c1 := cellOf2b h2
      clear h2
      go_wp2_with fail
      rw [rounds_succ]
      go_wp2_with fail
      refine (HK2.out _).mono ?_
      rintro e w' ⟨rfl, rfl⟩
      go_wp2_with fail
      refine (IH2.out _).mono ?_
      rintro e w3 ⟨rfl, bl3⟩
      clear c1
      go_wp2_with fail
      rw [rounds_succ]
      go_wp2_with fail
      go_ret
      exact ⟨rfl, (below_trans (below_trans bl bl2 bl.size) bl3 (Nat.le_trans bl.size bl2.size))⟩

set_option maxHeartbeats 1000000 in
theorem grdS (s u v : ByteArray) (k1 k2 : Int) (g1 r1 g2 r2 : Bool) (HK : ∀ w, Calls Try.prog 37 #[.string s] w fun e w' => e = .returned (.int .u8 43) ∧ w = w') (HK1 : ∀ w, Calls Try.prog 37 #[.string u] w fun e w' => e = .returned (.int .u8 k1) ∧ w = w') (HK2' : ∀ w, Calls Try.prog 37 #[.string v] w fun e w' => e = .returned (.int .u8 k2) ∧ w = w') (HT1 : ∀ w, Calls Try.prog 38 #[.string ⟨#[33, 63, 126, 43, 48]⟩, .int .u8 k1] w fun e w' => e = .returned (.bool g1) ∧ w = w') (HT2 : ∀ w, Calls Try.prog 38 #[.string ⟨#[33, 63, 126, 43, 48]⟩, .int .u8 k2] w fun e w' => e = .returned (.bool g2) ∧ w = w') (HP : ∀ w, Calls Try.prog 36 #[.string s] w fun e w' => ∃ b, e = .returned (.slice (some ⟨b, 0, none⟩) 2 2) ∧ w.heap.size ≤ b ∧ w'.heap[b]? = some (.cells #[.string u, .string v] 9 (0, 0)) ∧ Below w.heap.size w w')
    (ih : ∀ w, Calls Try.prog 29 #[.string u] w fun e w' => e = .returned (.bool r1) ∧ Below w.heap.size w w') (ih2 : ∀ w, Calls Try.prog 29 #[.string v] w fun e w' => e = .returned (.bool r2) ∧ Below w.heap.size w w') (w : World) :
    Calls Try.prog 29 #[.string s] w fun e w' => e = .returned (.bool (g1 && r1 && (g2 && r2))) ∧ Below w.heap.size w w' := by
  have H := Lib.hid HP
  have HK2 := Lib.hid HK
  have HU1 := Lib.hid HK1
  have HU2 := Lib.hid HK2'
  have HI1 := Lib.hid HT1
  have HI2 := Lib.hid HT2
  have IH := Lib.hid ih
  have IH2 := Lib.hid ih2
  clear HP ih ih2 HK HK1 HK2' HT1 HT2
  cases g1
  · go_enter Try.func29, Try.ntmps29
    go_wp2_with fail
    refine (H.out _).mono ?_
    rintro e w1 ⟨b, rfl, hb, hh, bl⟩
    have c0 := cellOf2a hh
    have Hh := Lib.hid hh
    clear hh
    go_wp2_with fail
    refine wp_loop_rounds 3 ?_
    rw [rounds_succ]
    go_wp2_with fail
    refine (HK2.out _).mono ?_
    rintro e w' ⟨rfl, rfl⟩
    go_wp2_with fail
    refine (HU1.out _).mono ?_
    rintro e w' ⟨rfl, rfl⟩
    go_wp2_with fail
    refine (HI1.out _).mono ?_
    rintro e w' ⟨rfl, rfl⟩
    clear c0
    go_wp2_with fail
    go_ret
    exact ⟨rfl, bl⟩
  · cases r1
    · go_enter Try.func29, Try.ntmps29
      go_wp2_with fail
      refine (H.out _).mono ?_
      rintro e w1 ⟨b, rfl, hb, hh, bl⟩
      have c0 := cellOf2a hh
      have Hh := Lib.hid hh
      clear hh
      go_wp2_with fail
      refine wp_loop_rounds 3 ?_
      rw [rounds_succ]
      go_wp2_with fail
      refine (HK2.out _).mono ?_
      rintro e w' ⟨rfl, rfl⟩
      go_wp2_with fail
      refine (HU1.out _).mono ?_
      rintro e w' ⟨rfl, rfl⟩
      go_wp2_with fail
      refine (HI1.out _).mono ?_
      rintro e w' ⟨rfl, rfl⟩
      go_wp2_with fail
      refine (IH.out _).mono ?_
      rintro e w2 ⟨rfl, bl2⟩
      clear c0
      go_wp2_with fail
      go_ret
      exact ⟨rfl, (below_trans bl bl2 bl.size)⟩
    · cases g2
      · go_enter Try.func29, Try.ntmps29
        go_wp2_with fail
        refine (H.out _).mono ?_
        rintro e w1 ⟨b, rfl, hb, hh, bl⟩
        have c0 := cellOf2a hh
        have Hh := Lib.hid hh
        clear hh
        go_wp2_with fail
        refine wp_loop_rounds 3 ?_
        rw [rounds_succ]
        go_wp2_with fail
        refine (HK2.out _).mono ?_
        rintro e w' ⟨rfl, rfl⟩
        go_wp2_with fail
        refine (HU1.out _).mono ?_
        rintro e w' ⟨rfl, rfl⟩
        go_wp2_with fail
        refine (HI1.out _).mono ?_
        rintro e w' ⟨rfl, rfl⟩
        go_wp2_with fail
        refine (IH.out _).mono ?_
        rintro e w2 ⟨rfl, bl2⟩
        have h2 := (bl2.block b (lt_of_block Hh.out)).trans Hh.out
        clear c0
        have c1 := cellOf2b h2
        clear h2
        go_wp2_with fail
        rw [rounds_succ]
        go_wp2_with fail
        refine (HK2.out _).mono ?_
        rintro e w' ⟨rfl, rfl⟩
        go_wp2_with fail
        refine (HU2.out _).mono ?_
        rintro e w' ⟨rfl, rfl⟩
        go_wp2_with fail
        refine (HI2.out _).mono ?_
        rintro e w' ⟨rfl, rfl⟩
        clear c1
        go_wp2_with fail
        go_ret
        exact ⟨rfl, (below_trans bl bl2 bl.size)⟩
      · cases r2
        · go_enter Try.func29, Try.ntmps29
          go_wp2_with fail
          refine (H.out _).mono ?_
          rintro e w1 ⟨b, rfl, hb, hh, bl⟩
          have c0 := cellOf2a hh
          have Hh := Lib.hid hh
          clear hh
          go_wp2_with fail
          refine wp_loop_rounds 3 ?_
          rw [rounds_succ]
          go_wp2_with fail
          refine (HK2.out _).mono ?_
          rintro e w' ⟨rfl, rfl⟩
          go_wp2_with fail
          refine (HU1.out _).mono ?_
          rintro e w' ⟨rfl, rfl⟩
          go_wp2_with fail
          refine (HI1.out _).mono ?_
          rintro e w' ⟨rfl, rfl⟩
          go_wp2_with fail
          refine (IH.out _).mono ?_
          rintro e w2 ⟨rfl, bl2⟩
          have h2 := (bl2.block b (lt_of_block Hh.out)).trans Hh.out
          clear c0
          have c1 := cellOf2b h2
          clear h2
          go_wp2_with fail
          rw [rounds_succ]
          go_wp2_with fail
          refine (HK2.out _).mono ?_
          rintro e w' ⟨rfl, rfl⟩
          go_wp2_with fail
          refine (HU2.out _).mono ?_
          rintro e w' ⟨rfl, rfl⟩
          go_wp2_with fail
          refine (HI2.out _).mono ?_
          rintro e w' ⟨rfl, rfl⟩
          go_wp2_with fail
          refine (IH2.out _).mono ?_
          rintro e w3 ⟨rfl, bl3⟩
          clear c1
          go_wp2_with fail
          go_ret
          exact ⟨rfl, (below_trans (below_trans bl bl2 bl.size) bl3 (Nat.le_trans bl.size bl2.size))⟩
        · go_enter Try.func29, Try.ntmps29
          go_wp2_with fail
          refine (H.out _).mono ?_
          rintro e w1 ⟨b, rfl, hb, hh, bl⟩
          have c0 := cellOf2a hh
          have Hh := Lib.hid hh
          clear hh
          go_wp2_with fail
          refine wp_loop_rounds 3 ?_
          rw [rounds_succ]
          go_wp2_with fail
          refine (HK2.out _).mono ?_
          rintro e w' ⟨rfl, rfl⟩
          go_wp2_with fail
          refine (HU1.out _).mono ?_
          rintro e w' ⟨rfl, rfl⟩
          go_wp2_with fail
          refine (HI1.out _).mono ?_
          rintro e w' ⟨rfl, rfl⟩
          go_wp2_with fail
          refine (IH.out _).mono ?_
          rintro e w2 ⟨rfl, bl2⟩
          have h2 := (bl2.block b (lt_of_block Hh.out)).trans Hh.out
          clear c0
          have c1 := cellOf2b h2
          clear h2
          go_wp2_with fail
          rw [rounds_succ]
          go_wp2_with fail
          refine (HK2.out _).mono ?_
          rintro e w' ⟨rfl, rfl⟩
          go_wp2_with fail
          refine (HU2.out _).mono ?_
          rintro e w' ⟨rfl, rfl⟩
          go_wp2_with fail
          refine (HI2.out _).mono ?_
          rintro e w' ⟨rfl, rfl⟩
          go_wp2_with fail
          refine (IH2.out _).mono ?_
          rintro e w3 ⟨rfl, bl3⟩
          clear c1
          go_wp2_with fail
          rw [rounds_succ]
          go_wp2_with fail
          go_ret
          exact ⟨rfl, (below_trans (below_trans bl bl2 bl.size) bl3 (Nat.le_trans bl.size bl2.size))⟩

theorem grd_any (t : Tm) : t.ok nmE = true → t.pr.length ≤ 700 → ∀ (w : World), Calls Try.prog 29 #[.string (S t)] w fun e w' => e = .returned (.bool t.grd) ∧ Below w.heap.size w w' := by
  induction t with
  | nil => exact fun ho hl => grd0 _ (tmParts_any .nil ho hl)
  | snd a b p ih =>
    intro ho hl
    have ho' := ho
    simp only [Tm.ok, Bool.and_eq_true] at ho'
    have hl' := hl
    simp only [Tm.pr, List.length_cons] at hl'
    exact grd1 _ _ _ (by simp only [Tm.kind]; decide) p.grd (tmKind_any (.snd a b p) ho hl) (tmParts_any (.snd a b p) ho hl) (ih ho'.2 (by omega))
  | rcv a b p ih =>
    intro ho hl
    have ho' := ho
    simp only [Tm.ok, Bool.and_eq_true] at ho'
    have hl' := hl
    simp only [Tm.pr, List.length_cons] at hl'
    exact grd1 _ _ _ (by simp only [Tm.kind]; decide) p.grd (tmKind_any (.rcv a b p) ho hl) (tmParts_any (.rcv a b p) ho hl) (ih ho'.2 (by omega))
  | mat a b p ih =>
    intro ho hl
    have ho' := ho
    simp only [Tm.ok, Bool.and_eq_true] at ho'
    have hl' := hl
    simp only [Tm.pr, List.length_cons] at hl'
    exact grd1 _ _ _ (by simp only [Tm.kind]; decide) p.grd (tmKind_any (.mat a b p) ho hl) (tmParts_any (.mat a b p) ho hl) (ih ho'.2 (by omega))
  | own x p ih =>
    intro ho hl
    have ho' := ho
    simp only [Tm.ok, Bool.and_eq_true] at ho'
    have hl' := hl
    simp only [Tm.pr, List.length_cons] at hl'
    exact grd1 _ _ _ (by simp only [Tm.kind]; decide) p.grd (tmKind_any (.own x p) ho hl) (tmParts_any (.own x p) ho hl) (ih ho'.2 (by omega))
  | tau p ih =>
    intro ho hl
    have ho' := ho
    simp only [Tm.ok] at ho'
    have hl' := hl
    simp only [Tm.pr, List.length_cons] at hl'
    exact grd1 _ _ _ (by simp only [Tm.kind]; decide) p.grd (tmKind_any (.tau p) ho hl) (tmParts_any (.tau p) ho hl) (ih ho (by omega))
  | rep p ih =>
    intro ho hl
    have ho' := ho
    simp only [Tm.ok] at ho'
    have hl' := hl
    simp only [Tm.pr, List.length_cons] at hl'
    exact grd1 _ _ _ (by simp only [Tm.kind]; decide) p.grd (tmKind_any (.rep p) ho hl) (tmParts_any (.rep p) ho hl) (ih ho (by omega))
  | sum p q ih ih2 =>
    intro ho hl
    have ho' := ho
    simp only [Tm.ok, Bool.and_eq_true] at ho'
    have hl' := hl
    simp only [Tm.pr, List.length_cons, List.length_append] at hl'
    exact grdS _ _ _ _ _ (gd p) p.grd (gd q) q.grd (tmKind_any (.sum p q) ho hl) (tmKind_any p ho'.1 (by omega)) (tmKind_any q ho'.2 (by omega)) (fun w => tmIn_any _ _ w (by decide)) (fun w => tmIn_any _ _ w (by decide)) (tmParts_any (.sum p q) ho hl) (ih ho'.1 (by omega)) (ih2 ho'.2 (by omega))
  | par p q ih ih2 =>
    intro ho hl
    have ho' := ho
    simp only [Tm.ok, Bool.and_eq_true] at ho'
    have hl' := hl
    simp only [Tm.pr, List.length_cons, List.length_append] at hl'
    exact grd2 _ _ _ _ (by simp only [Tm.kind]; decide) p.grd q.grd (tmKind_any (.par p q) ho hl) (tmParts_any (.par p q) ho hl) (ih ho'.1 (by omega)) (ih2 ho'.2 (by omega))

set_option maxHeartbeats 1000000 in
theorem ig_nothing (V : Value) (w : World) : Calls Try.prog 50 #[.iface 79 V] w fun e w' => e = .returned (.bool true) ∧ w = w' := by
  go_enter Try.func50, Try.ntmps50
  go_wp2_with fail
  go_ret
  exact ⟨rfl, rfl⟩
set_option maxHeartbeats 1000000 in
theorem ig_send (V : Value) (w : World) : Calls Try.prog 50 #[.iface 86 V] w fun e w' => e = .returned (.bool true) ∧ w = w' := by
  go_enter Try.func50, Try.ntmps50
  go_wp2_with fail
  go_ret
  exact ⟨rfl, rfl⟩
set_option maxHeartbeats 1000000 in
theorem ig_receive (V : Value) (w : World) : Calls Try.prog 50 #[.iface 88 V] w fun e w' => e = .returned (.bool true) ∧ w = w' := by
  go_enter Try.func50, Try.ntmps50
  go_wp2_with fail
  go_ret
  exact ⟨rfl, rfl⟩
set_option maxHeartbeats 1000000 in
theorem ig_silent (V : Value) (w : World) : Calls Try.prog 50 #[.iface 89 V] w fun e w' => e = .returned (.bool true) ∧ w = w' := by
  go_enter Try.func50, Try.ntmps50
  go_wp2_with fail
  go_ret
  exact ⟨rfl, rfl⟩
set_option maxHeartbeats 1000000 in
theorem ig_choice (V : Value) (w : World) : Calls Try.prog 50 #[.iface 77 V] w fun e w' => e = .returned (.bool true) ∧ w = w' := by
  go_enter Try.func50, Try.ntmps50
  go_wp2_with fail
  go_ret
  exact ⟨rfl, rfl⟩
set_option maxHeartbeats 1000000 in
theorem ig_beside (V : Value) (w : World) : Calls Try.prog 50 #[.iface 81 V] w fun e w' => e = .returned (.bool false) ∧ w = w' := by
  go_enter Try.func50, Try.ntmps50
  go_wp2_with fail
  go_ret
  exact ⟨rfl, rfl⟩
set_option maxHeartbeats 1000000 in
theorem ig_own (V : Value) (w : World) : Calls Try.prog 50 #[.iface 91 V] w fun e w' => e = .returned (.bool false) ∧ w = w' := by
  go_enter Try.func50, Try.ntmps50
  go_wp2_with fail
  go_ret
  exact ⟨rfl, rfl⟩
set_option maxHeartbeats 1000000 in
theorem ig_match (V : Value) (w : World) : Calls Try.prog 50 #[.iface 93 V] w fun e w' => e = .returned (.bool false) ∧ w = w' := by
  go_enter Try.func50, Try.ntmps50
  go_wp2_with fail
  go_ret
  exact ⟨rfl, rfl⟩
set_option maxHeartbeats 1000000 in
theorem ig_repeat (V : Value) (w : World) : Calls Try.prog 50 #[.iface 65 V] w fun e w' => e = .returned (.bool false) ∧ w = w' := by
  go_enter Try.func50, Try.ntmps50
  go_wp2_with fail
  go_ret
  exact ⟨rfl, rfl⟩
theorem isGuard_any (t : Tm) (w : World) : Calls Try.prog 50 #[.iface (tyOf t) (pay t)] w fun e w' => e = .returned (.bool (gd t)) ∧ w = w' := by
  cases t with
  | nil => exact ig_nothing _ w
  | snd a b p => exact ig_send _ w
  | rcv a b p => exact ig_receive _ w
  | tau p => exact ig_silent _ w
  | sum p q => exact ig_choice _ w
  | par p q => exact ig_beside _ w
  | own x p => exact ig_own _ w
  | mat a b p => exact ig_match _ w
  | rep p => exact ig_repeat _ w

theorem cf_g1 (args : Array Value) (w : World) : (callFunc 49 args).run Try.prog w = .ok (.enter 49 args) w := by kernel_rfl
set_option maxHeartbeats 1000000 in
theorem g1_other (T : TypeId) (V : Value) (w : World) (h : ∀ w, (Instr.typeAssert (.iface T V) 42 77 true).run Try.prog w = .ok (.tuple #[.agg #[.nilIface, .nilIface], .bool false]) w) :
    Calls Try.prog 49 (#[.iface T V] ++ #[]) w fun e w' => e = .returned (.bool false) ∧ Below w.heap.size w w' := by
  show Calls Try.prog 49 #[.iface T V] w _
  go_enter Try.func49, Try.ntmps49
  go_wp2_with fail
  go_ret
  exact ⟨rfl, (Below.refl _ _).alloc (Nat.le_refl _) _⟩
set_option maxHeartbeats 1000000 in
theorem g1_sum (tp : TypeId) (vp : Value) (tq : TypeId) (vq : Value) (a b : Bool) (H1 : ∀ w, Calls Try.prog 50 #[.iface tp vp] w fun e w' => e = .returned (.bool a) ∧ w = w') (H2 : ∀ w, Calls Try.prog 50 #[.iface tq vq] w fun e w' => e = .returned (.bool b) ∧ w = w') (w : World) :
    Calls Try.prog 49 (#[.iface 77 (.agg #[.iface tp vp, .iface tq vq])] ++ #[]) w fun e w' => e = .returned (.bool (!(a && b))) ∧ Below w.heap.size w w' := by
  show Calls Try.prog 49 #[.iface 77 (.agg #[.iface tp vp, .iface tq vq])] w _
  have HA := Lib.hid H1
  have HB := Lib.hid H2
  clear H1 H2
  cases a
  · go_enter Try.func49, Try.ntmps49
    go_wp2_with fail
    refine (HA.out _).mono ?_
    rintro e w' ⟨rfl, rfl⟩
    go_wp2_with fail
    go_ret
    exact ⟨rfl, (Below.refl _ _).alloc (Nat.le_refl _) _⟩
  · go_enter Try.func49, Try.ntmps49
    go_wp2_with fail
    refine (HA.out _).mono ?_
    rintro e w' ⟨rfl, rfl⟩
    go_wp2_with fail
    refine (HB.out _).mono ?_
    rintro e w' ⟨rfl, rfl⟩
    go_wp2_with fail
    go_ret
    exact ⟨by cases b <;> rfl, (Below.refl _ _).alloc (Nat.le_refl _) _⟩
theorem g1_any (t : Tm) (w : World) : Calls Try.prog 49 (#[.iface (tyOf t) (pay t)] ++ #[]) w fun e w' => e = .returned (.bool (opn t)) ∧ Below w.heap.size w w' := by
  cases t with
  | nil => exact g1_other _ _ w (ta_nothing_choice _)
  | snd a b p => exact g1_other _ _ w (ta_send_choice _)
  | rcv a b p => exact g1_other _ _ w (ta_receive_choice _)
  | tau p => exact g1_other _ _ w (ta_silent_choice _)
  | sum p q => exact g1_sum _ _ _ _ _ _ (isGuard_any p) (isGuard_any q) w
  | par p q => exact g1_other _ _ w (ta_beside_choice _)
  | own x p => exact g1_other _ _ w (ta_own_choice _)
  | mat a b p => exact g1_other _ _ w (ta_match_choice _)
  | rep p => exact g1_other _ _ w (ta_repeat_choice _)
theorem isGuarded_any (t : Tm) (ht : t.size ≤ 1000) (w : World) : Calls Try.prog 42 #[.iface (tyOf t) (pay t)] w fun e w' => e = .returned (.bool t.grd) ∧ Below w.heap.size w w' := by
  have HC := countOf_any 49 #[] opn (fun _ => True) cf_g1 (fun t w _ => g1_any t w) t ht w (fun _ _ _ _ => trivial) trivial
  rw [← opn_eq]
  obtain ⟨T, hT⟩ : ∃ T, T = tyOf t := ⟨_, rfl⟩
  obtain ⟨V, hV⟩ : ∃ V, V = pay t := ⟨_, rfl⟩
  obtain ⟨N, hN⟩ : ∃ N, N = t.subs.countP opn := ⟨_, rfl⟩
  rw [← hT, ← hV, ← hN] at HC
  rw [← hT, ← hV, ← hN]
  have H := Lib.hid HC
  clear hT hV hN HC
  go_enter Try.func42, Try.ntmps42
  go_wp2_with fail
  refine (H.out).mono ?_
  rintro e w1 ⟨rfl, bl⟩
  go_wp2_with fail
  go_ret
  exact ⟨rfl, bl⟩

end Go.Proofs.Ytpabmidjfpabdaa.T1
