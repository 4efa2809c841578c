/- Nothing comes behind what is sent: in the specification and in the program. -/
import Derived.Test.YtdfelpahacmdpabIz
import Derived.Deep.RegionWith
namespace Go.Proofs.Ytdfelpahacmdpab.T1
open Go.RowKit
set_option maxRecDepth 100000
set_option linter.unusedVariables false
set_option linter.unusedSimpArgs false

def Tm.last : Tm → Bool → Bool
  | .nil, _ => true
  | .snd _ _ p, s => !s && isN p
  | .rcv _ _ p, _ => p.last false
  | .tau p, _ => p.last false
  | .sum p q, _ => p.last true && q.last true
  | .par p q, _ => p.last false && q.last false
  | .own _ p, _ => p.last false
  | .mat _ _ p, _ => p.last false
  | .rep p, _ => p.last false
def isSnd : Tm → Bool
  | .snd _ _ _ => true
  | _ => false
/-- A sign that goes on behind what is sent, or a sum with one that sends. -/
def bad6 : Tm → Bool
  | .snd _ _ p => !isN p
  | .sum p q => isSnd p || isSnd q
  | _ => false
theorem isSnd_kind (t : Tm) : ((one t.kind).toList == [33]) = isSnd t := by
  rw [show ([33] : List UInt8) = (one 33).toList from by rw [ByteArray.toList_eq]; rfl]
  rw [one_eq]
  cases t <;> first | rfl | skip
theorem cq_cons (g : Tm → Bool) (t : Tm) (l : List Tm) : (t :: l).countP g = cond (g t) 1 0 + l.countP g := by
  cases h : g t
  · simp [h]
  · simp [h]; omega
theorem last_of (t : Tm) : (t.last true = true ↔ t.last false = true ∧ isSnd t = false) := by
  cases t <;> simp [Tm.last, isSnd]
theorem isN_subs (t : Tm) (h : isN t = true) : t.subs.countP bad6 = 0 := by cases t <;> simp_all [isN, Tm.subs, bad6]
theorem bad6_last (t : Tm) : t.subs.countP bad6 = 0 ↔ t.last false = true := by
  induction t with
  | nil => simp [Tm.subs, bad6, Tm.last]
  | snd a b p ih =>
    simp only [Tm.subs, Tm.last, cq_cons, show bad6 (.snd a b p) = !isN p from rfl]
    cases h : isN p with
    | true => simp [isN_subs p h]
    | false => simp
  | sum p q ih ih2 =>
    simp only [Tm.subs, Tm.last, cq_cons, List.countP_append, Bool.and_eq_true, last_of]
    rw [← ih, ← ih2, show bad6 (.sum p q) = (isSnd p || isSnd q) from rfl]
    generalize p.subs.countP bad6 = A
    generalize q.subs.countP bad6 = B
    cases isSnd p <;> cases isSnd q <;> simp <;> omega
  | par p q ih ih2 =>
    simp only [Tm.subs, Tm.last, cq_cons, List.countP_append, Bool.and_eq_true]
    rw [← ih, ← ih2, show bad6 (.par p q) = false from rfl]
    generalize p.subs.countP bad6 = A
    generalize q.subs.countP bad6 = B
    simp
  | _ => simp_all [Tm.subs, bad6, Tm.last, cq_cons]
theorem bad6_eq (t : Tm) : (((t.subs.countP bad6 : Nat) : Int) == 0) = t.last false := by
  rw [Bool.eq_iff_iff, beq_iff_eq, ← bad6_last]; omega
theorem one_list (k : UInt8) : (one k).toList = [k] := by rw [ByteArray.toList_eq]; rfl
theorem S_zero (t : Tm) : ((S t).toList == [48]) = isN t := by
  rw [ByteArray.toList_eq, S_list]
  cases t <;> simp [Tm.pr, isN]

set_option maxHeartbeats 1000000 in
theorem last0 (s : ByteArray) (b : Bool) (HK : ∀ w, Calls Try.prog 25 #[.string s] w fun e w' => e = .returned (.int .u8 48) ∧ w = w') (HP : ∀ w, Calls Try.prog 27 #[.string s] w (PartsS [] w)) (w : World) :
    Calls Try.prog 20 #[.string s, .bool b] w fun e w' => e = .returned (.bool true) ∧ Below w.heap.size w w' := by
  have H := Lib.hid HP
  have HK2 := Lib.hid HK
  clear HP HK
  go_enter Try.func20, Try.ntmps20
  go_wp2_with fail
  refine (H.out _).mono ?_
  rintro e w1 ⟨rfl, bl⟩
  go_wp2_with fail
  refine (HK2.out _).mono ?_
  rintro e w2 ⟨rfl, rfl⟩
  go_wp2_with fail
  refine wp_loop_rounds 1 ?_
  rw [rounds_succ]
  go_wp2_with fail
  go_ret
  exact ⟨rfl, bl⟩

set_option maxHeartbeats 1000000 in
theorem lastS (s u : ByteArray) (z b : Bool) (hz : (u.toList == [48]) = z) (HK : ∀ w, Calls Try.prog 25 #[.string s] w fun e w' => e = .returned (.int .u8 33) ∧ w = w') (HP : ∀ w, Calls Try.prog 27 #[.string s] w fun e w' => ∃ b, e = .returned (.slice (some ⟨b, 0, none⟩) 1 1) ∧ w.heap.size ≤ b ∧ w'.heap[b]? = some (.cells #[.string u] 9 (0, 0)) ∧ Below w.heap.size w w')
    (ih : z = true → ∀ w, Calls Try.prog 20 #[.string u, .bool false] w fun e w' => e = .returned (.bool true) ∧ Below w.heap.size w w') (w : World) :
    Calls Try.prog 20 #[.string s, .bool b] w fun e w' => e = .returned (.bool (!b && z)) ∧ Below w.heap.size w w' := by
  have H := Lib.hid HP
  have HK2 := Lib.hid HK
  have IH := Lib.hid ih
  clear HP HK ih
  cases b
  · cases z
    · go_enter Try.func20, Try.ntmps20
      go_wp2_with fail
      refine (H.out _).mono ?_
      rintro e w1 ⟨b, rfl, hb, hh, bl⟩
      have c0 := cellOf1 hh
      have Hh := Lib.hid hh
      clear hh
      go_wp2_with fail
      refine (HK2.out _).mono ?_
      rintro e w2 ⟨rfl, rfl⟩
      go_wp2_with fail
      go_ret
      exact ⟨rfl, bl⟩
    · have IH2 := Lib.hid (IH.out rfl)
      clear IH
      go_enter Try.func20, Try.ntmps20
      go_wp2_with fail
      refine (H.out _).mono ?_
      rintro e w1 ⟨b, rfl, hb, hh, bl⟩
      have c0 := cellOf1 hh
      have Hh := Lib.hid hh
      clear hh
      go_wp2_with fail
      refine (HK2.out _).mono ?_
      rintro e w2 ⟨rfl, rfl⟩
      go_wp2_with fail
      refine wp_loop_rounds 2 ?_
      rw [rounds_succ]
      go_wp2_with fail
      refine (HK2.out _).mono ?_
      rintro e w3 ⟨rfl, rfl⟩
      go_wp2_with fail
      refine (IH2.out _).mono ?_
      rintro e w4 ⟨rfl, bl2⟩
      clear c0
      go_wp2_with fail
      rw [rounds_succ]
      go_wp2_with fail
      go_ret
      exact ⟨rfl, below_trans bl bl2 bl.size⟩
  · go_enter Try.func20, Try.ntmps20
    go_wp2_with fail
    refine (H.out _).mono ?_
    rintro e w1 ⟨b, rfl, hb, hh, bl⟩
    have c0 := cellOf1 hh
    have Hh := Lib.hid hh
    clear hh
    go_wp2_with fail
    refine (HK2.out _).mono ?_
    rintro e w2 ⟨rfl, rfl⟩
    go_wp2_with fail
    go_ret
    exact ⟨rfl, bl⟩

set_option maxHeartbeats 1000000 in
theorem last1 (s u : ByteArray) (kd : Int) (b : Bool) (hk : (kd == 33) = false) (hk2 : (kd == 43) = false) (r : Bool) (HK : ∀ w, Calls Try.prog 25 #[.string s] w fun e w' => e = .returned (.int .u8 kd) ∧ w = w') (HP : ∀ w, Calls Try.prog 27 #[.string s] w fun e w' => ∃ b, e = .returned (.slice (some ⟨b, 0, none⟩) 1 1) ∧ w.heap.size ≤ b ∧ w'.heap[b]? = some (.cells #[.string u] 9 (0, 0)) ∧ Below w.heap.size w w')
    (ih : ∀ w, Calls Try.prog 20 #[.string u, .bool false] w fun e w' => e = .returned (.bool r) ∧ Below w.heap.size w w') (w : World) :
    Calls Try.prog 20 #[.string s, .bool b] w fun e w' => e = .returned (.bool r) ∧ Below w.heap.size w w' := by
  have H := Lib.hid HP
  have HK2 := Lib.hid HK
  have IH := Lib.hid ih
  clear HP HK ih
  cases r
  · go_enter Try.func20, Try.ntmps20
    go_wp2_with fail
    refine (H.out _).mono ?_
    rintro e w1 ⟨b, rfl, hb, hh, bl⟩
    have c0 := cellOf1 hh
    have Hh := Lib.hid hh
    clear hh
    go_wp2_with fail
    refine (HK2.out _).mono ?_
    rintro e w2 ⟨rfl, rfl⟩
    go_wp2_with fail
    refine wp_loop_rounds 2 ?_
    rw [rounds_succ]
    go_wp2_with fail
    refine (HK2.out _).mono ?_
    rintro e w3 ⟨rfl, rfl⟩
    go_wp2_with fail
    refine (IH.out _).mono ?_
    rintro e w4 ⟨rfl, bl2⟩
    clear c0
    go_wp2_with fail
    go_ret
    exact ⟨rfl, below_trans bl bl2 bl.size⟩
  · go_enter Try.func20, Try.ntmps20
    go_wp2_with fail
    refine (H.out _).mono ?_
    rintro e w1 ⟨b, rfl, hb, hh, bl⟩
    have c0 := cellOf1 hh
    have Hh := Lib.hid hh
    clear hh
    go_wp2_with fail
    refine (HK2.out _).mono ?_
    rintro e w2 ⟨rfl, rfl⟩
    go_wp2_with fail
    refine wp_loop_rounds 2 ?_
    rw [rounds_succ]
    go_wp2_with fail
    refine (HK2.out _).mono ?_
    rintro e w3 ⟨rfl, rfl⟩
    go_wp2_with fail
    refine (IH.out _).mono ?_
    rintro e w4 ⟨rfl, bl2⟩
    clear c0
    go_wp2_with fail
    rw [rounds_succ]
    go_wp2_with fail
    go_ret
    exact ⟨rfl, below_trans bl bl2 bl.size⟩

set_option maxHeartbeats 1000000 in
theorem last2 (s u v : ByteArray) (kd : Int) (b0 g : Bool) (hk : (kd == 33) = false) (hk2 : (kd == 43) = g) (r1 r2 : Bool) (HK : ∀ w, Calls Try.prog 25 #[.string s] w fun e w' => e = .returned (.int .u8 kd) ∧ w = w') (HP : ∀ w, Calls Try.prog 27 #[.string s] w fun e w' => ∃ b, e = .returned (.slice (some ⟨b, 0, none⟩) 2 2) ∧ w.heap.size ≤ b ∧ w'.heap[b]? = some (.cells #[.string u, .string v] 9 (0, 0)) ∧ Below w.heap.size w w')
    (ih : ∀ w, Calls Try.prog 20 #[.string u, .bool g] w fun e w' => e = .returned (.bool r1) ∧ Below w.heap.size w w') (ih2 : ∀ w, Calls Try.prog 20 #[.string v, .bool g] w fun e w' => e = .returned (.bool r2) ∧ Below w.heap.size w w') (w : World) :
    Calls Try.prog 20 #[.string s, .bool b0] w fun e w' => e = .returned (.bool (r1 && r2)) ∧ Below w.heap.size w w' := by
  have H := Lib.hid HP
  have HK2 := Lib.hid HK
  have IH := Lib.hid ih
  have IH2 := Lib.hid ih2
  clear HP HK ih ih2
  cases r1
  · go_enter Try.func20, Try.ntmps20
    go_wp2_with fail
    refine (H.out _).mono ?_
    rintro e w1 ⟨b, rfl, hb, hh, bl⟩
    have c0 := cellOf2a hh
    have Hh := Lib.hid hh
    clear hh
    go_wp2_with fail
    refine (HK2.out _).mono ?_
    rintro e w2 ⟨rfl, rfl⟩
    go_wp2_with fail
    refine wp_loop_rounds 3 ?_
    rw [rounds_succ]
    go_wp2_with fail
    refine (HK2.out _).mono ?_
    rintro e w3 ⟨rfl, rfl⟩
    go_wp2_with fail
    refine (IH.out _).mono ?_
    rintro e w4 ⟨rfl, bl2⟩
    clear c0
    go_wp2_with fail
    go_ret
    exact ⟨rfl, below_trans bl bl2 bl.size⟩
  · cases r2
    · go_enter Try.func20, Try.ntmps20
      go_wp2_with fail
      refine (H.out _).mono ?_
      rintro e w1 ⟨b, rfl, hb, hh, bl⟩
      have c0 := cellOf2a hh
      have Hh := Lib.hid hh
      clear hh
      go_wp2_with fail
      refine (HK2.out _).mono ?_
      rintro e w2 ⟨rfl, rfl⟩
      go_wp2_with fail
      refine wp_loop_rounds 3 ?_
      rw [rounds_succ]
      go_wp2_with fail
      refine (HK2.out _).mono ?_
      rintro e w3 ⟨rfl, rfl⟩
      go_wp2_with fail
      refine (IH.out _).mono ?_
      rintro e w4 ⟨rfl, bl2⟩
      have h2 := (bl2.block b (lt_of_block Hh.out)).trans Hh.out
      clear c0
      have c1 := cellOf2b h2
      clear h2
      go_wp2_with fail
      rw [rounds_succ]
      go_wp2_with fail
      refine (HK2.out _).mono ?_
      rintro e w5 ⟨rfl, rfl⟩
      go_wp2_with fail
      refine (IH2.out _).mono ?_
      rintro e w6 ⟨rfl, bl3⟩
      clear c1
      go_wp2_with fail
      go_ret
      exact ⟨rfl, below_trans (below_trans bl bl2 bl.size) bl3 (Nat.le_trans bl.size bl2.size)⟩
    · go_enter Try.func20, Try.ntmps20
      go_wp2_with fail
      refine (H.out _).mono ?_
      rintro e w1 ⟨b, rfl, hb, hh, bl⟩
      have c0 := cellOf2a hh
      have Hh := Lib.hid hh
      clear hh
      go_wp2_with fail
      refine (HK2.out _).mono ?_
      rintro e w2 ⟨rfl, rfl⟩
      go_wp2_with fail
      refine wp_loop_rounds 3 ?_
      rw [rounds_succ]
      go_wp2_with fail
      refine (HK2.out _).mono ?_
      rintro e w3 ⟨rfl, rfl⟩
      go_wp2_with fail
      refine (IH.out _).mono ?_
      rintro e w4 ⟨rfl, bl2⟩
      have h2 := (bl2.block b (lt_of_block Hh.out)).trans Hh.out
      clear c0
      have c1 := cellOf2b h2
      clear h2
      go_wp2_with fail
      rw [rounds_succ]
      go_wp2_with fail
      refine (HK2.out _).mono ?_
      rintro e w5 ⟨rfl, rfl⟩
      go_wp2_with fail
      refine (IH2.out _).mono ?_
      rintro e w6 ⟨rfl, bl3⟩
      clear c1
      go_wp2_with fail
      rw [rounds_succ]
      go_wp2_with fail
      go_ret
      exact ⟨rfl, below_trans (below_trans bl bl2 bl.size) bl3 (Nat.le_trans bl.size bl2.size)⟩

theorem soLast_any (t : Tm) : t.ok nmE = true → t.pr.length ≤ 700 → ∀ (b : Bool) (w : World), Calls Try.prog 20 #[.string (S t), .bool b] w fun e w' => e = .returned (.bool (t.last b)) ∧ Below w.heap.size w w' := by
  induction t with
  | nil => exact fun ho hl b => last0 _ b (tmKind_any .nil ho hl) (tmParts_any .nil ho hl)
  | snd a b p ih =>
    intro ho hl b0
    have ho' := ho
    simp only [Tm.ok, Bool.and_eq_true] at ho'
    have hl' := hl
    simp only [Tm.pr, List.length_cons] at hl'
    exact lastS _ _ _ b0 (S_zero p) (tmKind_any (.snd a b p) ho hl) (tmParts_any (.snd a b p) ho hl) (fun hz => by have := ih ho'.2 (by omega) false; rw [show p.last false = true from by cases p <;> simp_all [isN, Tm.last]] at this; exact this)
  | rcv a b p ih =>
    intro ho hl b0
    have ho' := ho
    simp only [Tm.ok, Bool.and_eq_true] at ho'
    have hl' := hl
    simp only [Tm.pr, List.length_cons] at hl'
    exact last1 _ _ _ b0 (by simp only [Tm.kind]; decide) (by simp only [Tm.kind]; decide) (p.last false) (tmKind_any (.rcv a b p) ho hl) (tmParts_any (.rcv a b p) ho hl) (ih ho'.2 (by omega) false)
  | mat a b p ih =>
    intro ho hl b0
    have ho' := ho
    simp only [Tm.ok, Bool.and_eq_true] at ho'
    have hl' := hl
    simp only [Tm.pr, List.length_cons] at hl'
    exact last1 _ _ _ b0 (by simp only [Tm.kind]; decide) (by simp only [Tm.kind]; decide) (p.last false) (tmKind_any (.mat a b p) ho hl) (tmParts_any (.mat a b p) ho hl) (ih ho'.2 (by omega) false)
  | own x p ih =>
    intro ho hl b0
    have ho' := ho
    simp only [Tm.ok, Bool.and_eq_true] at ho'
    have hl' := hl
    simp only [Tm.pr, List.length_cons] at hl'
    exact last1 _ _ _ b0 (by simp only [Tm.kind]; decide) (by simp only [Tm.kind]; decide) (p.last false) (tmKind_any (.own x p) ho hl) (tmParts_any (.own x p) ho hl) (ih ho'.2 (by omega) false)
  | tau p ih =>
    intro ho hl b0
    have ho' := ho
    simp only [Tm.ok] at ho'
    have hl' := hl
    simp only [Tm.pr, List.length_cons] at hl'
    exact last1 _ _ _ b0 (by simp only [Tm.kind]; decide) (by simp only [Tm.kind]; decide) (p.last false) (tmKind_any (.tau p) ho hl) (tmParts_any (.tau p) ho hl) (ih ho (by omega) false)
  | rep p ih =>
    intro ho hl b0
    have ho' := ho
    simp only [Tm.ok] at ho'
    have hl' := hl
    simp only [Tm.pr, List.length_cons] at hl'
    exact last1 _ _ _ b0 (by simp only [Tm.kind]; decide) (by simp only [Tm.kind]; decide) (p.last false) (tmKind_any (.rep p) ho hl) (tmParts_any (.rep p) ho hl) (ih ho (by omega) false)
  | sum p q ih ih2 =>
    intro ho hl b0
    have ho' := ho
    simp only [Tm.ok, Bool.and_eq_true] at ho'
    have hl' := hl
    simp only [Tm.pr, List.length_cons, List.length_append] at hl'
    exact last2 _ _ _ _ b0 true (by simp only [Tm.kind]; decide) (by simp only [Tm.kind]; decide) (p.last true) (q.last true) (tmKind_any (.sum p q) ho hl) (tmParts_any (.sum p q) ho hl) (ih ho'.1 (by omega) true) (ih2 ho'.2 (by omega) true)
  | par p q ih ih2 =>
    intro ho hl b0
    have ho' := ho
    simp only [Tm.ok, Bool.and_eq_true] at ho'
    have hl' := hl
    simp only [Tm.pr, List.length_cons, List.length_append] at hl'
    exact last2 _ _ _ _ b0 false (by simp only [Tm.kind]; decide) (by simp only [Tm.kind]; decide) (p.last false) (q.last false) (tmKind_any (.par p q) ho hl) (tmParts_any (.par p q) ho hl) (ih ho'.1 (by omega) false) (ih2 ho'.2 (by omega) false)

theorem cf_sl (args : Array Value) (w : World) : (callFunc 39 args).run Try.prog w = .ok (.enter 39 args) w := by kernel_rfl
set_option maxHeartbeats 1000000 in
theorem sl_other (T : TypeId) (V : Value) (w : World) (h0 : ∀ w, (Instr.typeAssert (.iface T V) 42 67 true).run Try.prog w = .ok (.tuple #[.agg #[.int .u8 0, .int .u8 0, .nilIface], .bool false]) w) (h : ∀ w, (Instr.typeAssert (.iface T V) 42 71 true).run Try.prog w = .ok (.tuple #[.agg #[.nilIface, .nilIface], .bool false]) w) :
    Calls Try.prog 39 (#[.iface T V] ++ #[]) w fun e w' => e = .returned (.bool false) ∧ Below w.heap.size w w' := by
  show Calls Try.prog 39 #[.iface T V] w _
  go_enter Try.func39, Try.ntmps39
  go_wp2_with fail
  go_ret
  exact ⟨rfl, Below.refl _ _⟩
set_option maxHeartbeats 1000000 in
theorem sl_send (n0 n1 : Int) (tp : TypeId) (vp : Value) (z : Bool) (H1 : ∀ w, Calls Try.prog 40 #[.iface tp vp] w fun e w' => e = .returned (.bool z) ∧ Below w.heap.size w w') (w : World) :
    Calls Try.prog 39 (#[.iface 67 (.agg #[.int .u8 n0, .int .u8 n1, .iface tp vp])] ++ #[]) w fun e w' => e = .returned (.bool (!z)) ∧ Below w.heap.size w w' := by
  show Calls Try.prog 39 #[.iface 67 (.agg #[.int .u8 n0, .int .u8 n1, .iface tp vp])] w _
  have HA := Lib.hid H1
  clear H1
  go_enter Try.func39, Try.ntmps39
  go_wp2_with fail
  refine (HA.out _).mono ?_
  rintro e w1 ⟨rfl, bl⟩
  go_wp2_with fail
  go_ret
  exact ⟨rfl, below_trans ((Below.refl _ _).alloc (Nat.le_refl _) _) bl (by simp)⟩
set_option maxHeartbeats 1000000 in
theorem sl_sum (T1 : TypeId) (V1 : Value) (T2 : TypeId) (V2 : Value) (k1 k2 : ByteArray) (z1 z2 : Bool) (hz1 : (k1.toList == [33]) = z1) (hz2 : (k2.toList == [33]) = z2) (H1 : (∃ (F : FuncId) (R : Value), (∀ n w, (method (n + 1) T1 V1 "loop.example/g01175/impl.kind").run Try.prog w = .ok (F, R) w) ∧ (∀ n w, (nilAhead (n + 1) T1 V1 "loop.example/g01175/impl.kind").run Try.prog w = .ok (some false) w) ∧ (∀ args w, (callFunc F args).run Try.prog w = .ok (.enter F args) w) ∧ ∀ w, Calls Try.prog F #[R] w fun e w' => e = .returned (.string k1) ∧ Below w.heap.size w w')) (H2 : (∃ (F : FuncId) (R : Value), (∀ n w, (method (n + 1) T2 V2 "loop.example/g01175/impl.kind").run Try.prog w = .ok (F, R) w) ∧ (∀ n w, (nilAhead (n + 1) T2 V2 "loop.example/g01175/impl.kind").run Try.prog w = .ok (some false) w) ∧ (∀ args w, (callFunc F args).run Try.prog w = .ok (.enter F args) w) ∧ ∀ w, Calls Try.prog F #[R] w fun e w' => e = .returned (.string k2) ∧ Below w.heap.size w w')) (w : World) :
    Calls Try.prog 39 (#[.iface 71 (.agg #[.iface T1 V1, .iface T2 V2])] ++ #[]) w fun e w' => e = .returned (.bool (z1 || z2)) ∧ Below w.heap.size w w' := by
  show Calls Try.prog 39 #[.iface 71 (.agg #[.iface T1 V1, .iface T2 V2])] w _
  obtain ⟨F1, R1, a1, b1, c1, h1⟩ := H1
  obtain ⟨F2, R2, a2, b2, c2, h2⟩ := H2
  have HA := Lib.hid h1
  have HB := Lib.hid h2
  clear h1 h2
  cases z1
  · go_enter Try.func39, Try.ntmps39
    go_wp2_with fail
    refine (HA.out _).mono ?_
    rintro e w1 ⟨rfl, bl⟩
    have c1 : w1.cell? ⟨w.heap.size, 1, none⟩ = some (.iface T2 V2) := by rw [bl.cell (p := ⟨w.heap.size, 1, none⟩) (by simp)]; rw [World.cell?_alloc_new]; rfl
    go_wp2_with fail
    refine (HB.out _).mono ?_
    rintro e w2 ⟨rfl, bl2⟩
    go_wp2_with fail
    go_ret
    exact ⟨by cases z2 <;> rfl, below_trans (below_trans ((Below.refl _ _).alloc (Nat.le_refl _) _) bl (by simp)) bl2 (by have := bl.size; simp at this; omega)⟩
  · go_enter Try.func39, Try.ntmps39
    go_wp2_with fail
    refine (HA.out _).mono ?_
    rintro e w1 ⟨rfl, bl⟩
    have c1 : w1.cell? ⟨w.heap.size, 1, none⟩ = some (.iface T2 V2) := by rw [bl.cell (p := ⟨w.heap.size, 1, none⟩) (by simp)]; rw [World.cell?_alloc_new]; rfl
    go_wp2_with fail
    go_ret
    exact ⟨rfl, below_trans ((Below.refl _ _).alloc (Nat.le_refl _) _) bl (by simp)⟩
theorem sl_any (t : Tm) (w : World) : Calls Try.prog 39 (#[.iface (tyOf t) (pay t)] ++ #[]) w fun e w' => e = .returned (.bool (bad6 t)) ∧ Below w.heap.size w w' := by
  cases t with
  | nil => exact sl_other _ _ w (ta_nothing_send _) (ta_nothing_choice _)
  | snd a b p => exact sl_send _ _ _ _ _ (isNothing_any p) w
  | rcv a b p => exact sl_other _ _ w (ta_receive_send _) (ta_receive_choice _)
  | tau p => exact sl_other _ _ w (ta_silent_send _) (ta_silent_choice _)
  | sum p q => exact sl_sum _ _ _ _ _ _ _ _ (isSnd_kind p) (isSnd_kind q) (kind_fact p).pf (kind_fact q).pf w
  | par p q => exact sl_other _ _ w (ta_beside_send _) (ta_beside_choice _)
  | own x p => exact sl_other _ _ w (ta_own_send _) (ta_own_choice _)
  | mat a b p => exact sl_other _ _ w (ta_match_send _) (ta_match_choice _)
  | rep p => exact sl_other _ _ w (ta_repeat_send _) (ta_repeat_choice _)
theorem sendsLast_any (t : Tm) (ht : t.size ≤ 1000) (w : World) : Calls Try.prog 22 #[.iface (tyOf t) (pay t)] w fun e w' => e = .returned (.bool (t.last false)) ∧ Below w.heap.size w w' := by
  have HC := countOf_any 39 #[] bad6 (fun _ => True) cf_sl (fun t w _ => sl_any t w) t ht w (fun _ _ _ _ => trivial) trivial
  rw [← bad6_eq]
  obtain ⟨T, hT⟩ : ∃ T, T = tyOf t := ⟨_, rfl⟩
  obtain ⟨V, hV⟩ : ∃ V, V = pay t := ⟨_, rfl⟩
  obtain ⟨N, hN⟩ : ∃ N, N = t.subs.countP bad6 := ⟨_, rfl⟩
  rw [← hT, ← hV, ← hN] at HC
  rw [← hT, ← hV, ← hN]
  have H := Lib.hid HC
  clear hT hV hN HC
  go_enter Try.func22, Try.ntmps22
  go_wp2_with fail
  refine (H.out).mono ?_
  rintro e w1 ⟨rfl, bl⟩
  go_wp2_with fail
  go_ret
  exact ⟨rfl, bl⟩

end Go.Proofs.Ytdfelpahacmdpab.T1
