/- Texts of the proof, put together: Depth, CDepthOf. No conditions. -/
import Derived.Test.YtajgncapgeiniaaGreatHaq
import Derived.Test.YtajgncapgeiniaaGreatProg
import Derived.WalkKit
import Derived.ProofKit
import Derived.OpenShut
import Derived.ShutString
import Derived.ChangeOld
import Derived.Below

/- The depth of a process, in the specification and in the program. -/
namespace Go.Proofs.YtajgncapgeiniaaGreat.T1
open Go.RowKit
set_option maxRecDepth 100000

def Tm.depth : Tm → Nat
  | .nil => 1
  | .snd _ _ p => p.depth + 1
  | .rcv _ _ p => p.depth + 1
  | .tau p => p.depth + 1
  | .sum p q => max p.depth q.depth + 1
  | .par p q => max p.depth q.depth + 1
  | .own _ p => p.depth + 1
  | .mat _ _ p => p.depth + 1
  | .rep p => p.depth + 1
theorem depth_le (t : Tm) : 1 ≤ t.depth ∧ t.depth ≤ t.size := by
  induction t <;> simp only [Tm.depth, Tm.size] <;> omega

set_option maxHeartbeats 400000 in
theorem l1Most_is (a b r : Int) (h : r = max a b) (w : World) : Calls Tryz.prog 102 #[.int .i64 a, .int .i64 b] w fun e w' => e = .returned (.int .i64 r) ∧ w = w' := by
  have H := Lib.hid h
  clear h
  go_enter Tryz.func102, Tryz.ntmps102
  go_wp2_with fail
  all_goals (go_ret; refine ⟨ret_int ?_, rfl⟩; have := H.out; omega)

set_option maxHeartbeats 1000000 in
theorem tmDepth0 (s : ByteArray) (HP : ∀ w, Calls Tryz.prog 53 #[.string s] w (PartsS [] w)) (w : World) :
    Calls Tryz.prog 57 #[.string s] w fun e w' => e = .returned (.int .i64 1) ∧ Below w.heap.size w w' := by
  have H := Lib.hid HP
  clear HP
  go_enter Tryz.func57, Tryz.ntmps57
  go_wp2_with fail
  refine (H.out _).mono ?_
  rintro e w1 ⟨rfl, bl⟩
  go_wp2_with fail
  refine wp_loop_rounds 1 ?_
  rw [rounds_succ]
  go_wp2_with fail
  go_ret
  exact ⟨rfl, bl⟩

set_option maxHeartbeats 1000000 in
theorem tmDepth1 (s u : ByteArray) (n : Nat) (hn : n ≤ 1000) (HP : ∀ w, Calls Tryz.prog 53 #[.string s] w fun e w' => ∃ b, e = .returned (.slice (some ⟨b, 0, none⟩) 1 1) ∧ w.heap.size ≤ b ∧ w'.heap[b]? = some (.cells #[.string u] 9 (0, 0)) ∧ Below w.heap.size w w')
    (ih : ∀ w, Calls Tryz.prog 57 #[.string u] w fun e w' => e = .returned (.int .i64 (n : Int)) ∧ Below w.heap.size w w') (w : World) :
    Calls Tryz.prog 57 #[.string s] w fun e w' => e = .returned (.int .i64 ((n : Int) + 1)) ∧ Below w.heap.size w w' := by
  have H := Lib.hid HP
  have IH := Lib.hid ih
  clear HP ih
  go_enter Tryz.func57, Tryz.ntmps57
  go_wp2_with fail
  refine (H.out _).mono ?_
  rintro e w1 ⟨b, rfl, hb, hh, bl⟩
  have c0 := cellOf1 hh
  clear hh
  go_wp2_with fail
  refine wp_loop_rounds 2 ?_
  rw [rounds_succ]
  go_wp2_with fail
  refine (IH.out _).mono ?_
  rintro e w2 ⟨rfl, bl2⟩
  clear c0
  go_wp2_with fail
  refine (l1Most_is 0 (n : Int) (n : Int) (by omega) _).mono ?_
  rintro e w3 ⟨rfl, rfl⟩
  go_wp2_with fail
  rw [rounds_succ]
  go_wp2_with fail
  go_ret
  exact ⟨rfl, below_trans bl bl2 bl.size⟩

set_option maxHeartbeats 1000000 in
theorem tmDepth2 (s u v : ByteArray) (n m k : Nat) (hn : n ≤ 1000) (hm : m ≤ 1000) (hk : k = max n m) (HP : ∀ w, Calls Tryz.prog 53 #[.string s] w fun e w' => ∃ b, e = .returned (.slice (some ⟨b, 0, none⟩) 2 2) ∧ w.heap.size ≤ b ∧ w'.heap[b]? = some (.cells #[.string u, .string v] 9 (0, 0)) ∧ Below w.heap.size w w')
    (ih : ∀ w, Calls Tryz.prog 57 #[.string u] w fun e w' => e = .returned (.int .i64 (n : Int)) ∧ Below w.heap.size w w') (ih2 : ∀ w, Calls Tryz.prog 57 #[.string v] w fun e w' => e = .returned (.int .i64 (m : Int)) ∧ Below w.heap.size w w') (w : World) :
    Calls Tryz.prog 57 #[.string s] w fun e w' => e = .returned (.int .i64 ((k : Int) + 1)) ∧ Below w.heap.size w w' := by
  have H := Lib.hid HP
  have IH := Lib.hid ih
  have IH2 := Lib.hid ih2
  have kb : k ≤ 1000 := by omega
  have HK := Lib.hid hk
  clear HP ih ih2 hk
  go_enter Tryz.func57, Tryz.ntmps57
  go_wp2_with fail
  refine (H.out _).mono ?_
  rintro e w1 ⟨b, rfl, hb, hh, bl⟩
  have c0 := cellOf2a hh
  have Hh := Lib.hid hh
  clear hh
  go_wp2_with fail
  refine wp_loop_rounds 3 ?_
  rw [rounds_succ]
  go_wp2_with fail
  refine (IH.out _).mono ?_
  rintro e w2 ⟨rfl, bl2⟩
  have h2 := (bl2.block b (lt_of_block Hh.out)).trans Hh.out
  clear c0
  have c1 := cellOf2b h2
  clear h2
  go_wp2_with fail
  refine (l1Most_is 0 (n : Int) (n : Int) (by omega) _).mono ?_
  rintro e w3 ⟨rfl, rfl⟩
  go_wp2_with fail
  rw [rounds_succ]
  go_wp2_with fail
  refine (IH2.out _).mono ?_
  rintro e w3 ⟨rfl, bl3⟩
  clear c1
  go_wp2_with fail
  refine (l1Most_is (n : Int) (m : Int) (k : Int) (by have := HK.out; omega) _).mono ?_
  rintro e w4 ⟨rfl, rfl⟩
  go_wp2_with fail
  rw [rounds_succ]
  go_wp2_with fail
  go_ret
  exact ⟨rfl, below_trans (below_trans bl bl2 bl.size) bl3 (Nat.le_trans bl.size bl2.size)⟩

theorem tmDepth_any (t : Tm) : t.ok nmE = true → t.pr.length ≤ 700 → ∀ (w : World), Calls Tryz.prog 57 #[.string (S t)] w fun e w' => e = .returned (.int .i64 (t.depth : Nat)) ∧ Below w.heap.size w w' := by
  have conv : ∀ (t : Tm) (n : Int), n = (t.depth : Nat) → (∀ w, Calls Tryz.prog 57 #[.string (S t)] w fun e w' => e = .returned (.int .i64 n) ∧ Below w.heap.size w w') → ∀ w, Calls Tryz.prog 57 #[.string (S t)] w fun e w' => e = .returned (.int .i64 (t.depth : Nat)) ∧ Below w.heap.size w w' := by
    intro t n h hc; rw [h] at hc; exact hc
  induction t with
  | nil => exact fun ho hl => tmDepth0 _ (tmParts_any .nil ho hl)
  | snd a b p ih =>
    intro ho hl
    have hd := depth_le p
    have hq := size_le_pr p
    have ho' := ho
    simp only [Tm.ok, Bool.and_eq_true] at ho'
    have hl' := hl
    simp only [Tm.pr, List.length_cons] at hl'
    exact conv _ _ (by simp only [Tm.depth]; omega) (tmDepth1 _ _ p.depth (by omega) (tmParts_any (.snd a b p) ho hl) (ih ho'.2 (by omega)))
  | rcv a b p ih =>
    intro ho hl
    have hd := depth_le p
    have hq := size_le_pr p
    have ho' := ho
    simp only [Tm.ok, Bool.and_eq_true] at ho'
    have hl' := hl
    simp only [Tm.pr, List.length_cons] at hl'
    exact conv _ _ (by simp only [Tm.depth]; omega) (tmDepth1 _ _ p.depth (by omega) (tmParts_any (.rcv a b p) ho hl) (ih ho'.2 (by omega)))
  | mat a b p ih =>
    intro ho hl
    have hd := depth_le p
    have hq := size_le_pr p
    have ho' := ho
    simp only [Tm.ok, Bool.and_eq_true] at ho'
    have hl' := hl
    simp only [Tm.pr, List.length_cons] at hl'
    exact conv _ _ (by simp only [Tm.depth]; omega) (tmDepth1 _ _ p.depth (by omega) (tmParts_any (.mat a b p) ho hl) (ih ho'.2 (by omega)))
  | own x p ih =>
    intro ho hl
    have hd := depth_le p
    have hq := size_le_pr p
    have ho' := ho
    simp only [Tm.ok, Bool.and_eq_true] at ho'
    have hl' := hl
    simp only [Tm.pr, List.length_cons] at hl'
    exact conv _ _ (by simp only [Tm.depth]; omega) (tmDepth1 _ _ p.depth (by omega) (tmParts_any (.own x p) ho hl) (ih ho'.2 (by omega)))
  | tau p ih =>
    intro ho hl
    have hd := depth_le p
    have hq := size_le_pr p
    have ho' := ho
    simp only [Tm.ok] at ho'
    have hl' := hl
    simp only [Tm.pr, List.length_cons] at hl'
    exact conv _ _ (by simp only [Tm.depth]; omega) (tmDepth1 _ _ p.depth (by omega) (tmParts_any (.tau p) ho hl) (ih ho (by omega)))
  | rep p ih =>
    intro ho hl
    have hd := depth_le p
    have hq := size_le_pr p
    have ho' := ho
    simp only [Tm.ok] at ho'
    have hl' := hl
    simp only [Tm.pr, List.length_cons] at hl'
    exact conv _ _ (by simp only [Tm.depth]; omega) (tmDepth1 _ _ p.depth (by omega) (tmParts_any (.rep p) ho hl) (ih ho (by omega)))
  | sum p q ih ih2 =>
    intro ho hl
    have hd := depth_le p
    have hq := size_le_pr p
    have hd2 := depth_le q
    have hq2 := size_le_pr q
    have ho' := ho
    simp only [Tm.ok, Bool.and_eq_true] at ho'
    have hl' := hl
    simp only [Tm.pr, List.length_cons, List.length_append] at hl'
    exact conv _ _ (by simp only [Tm.depth]; omega) (tmDepth2 _ _ _ p.depth q.depth (max p.depth q.depth) (by omega) (by omega) rfl (tmParts_any (.sum p q) ho hl) (ih ho'.1 (by omega)) (ih2 ho'.2 (by omega)))
  | par p q ih ih2 =>
    intro ho hl
    have hd := depth_le p
    have hq := size_le_pr p
    have hd2 := depth_le q
    have hq2 := size_le_pr q
    have ho' := ho
    simp only [Tm.ok, Bool.and_eq_true] at ho'
    have hl' := hl
    simp only [Tm.pr, List.length_cons, List.length_append] at hl'
    exact conv _ _ (by simp only [Tm.depth]; omega) (tmDepth2 _ _ _ p.depth q.depth (max p.depth q.depth) (by omega) (by omega) rfl (tmParts_any (.par p q) ho hl) (ih ho'.1 (by omega)) (ih2 ho'.2 (by omega)))

set_option maxHeartbeats 1000000 in
theorem depth0 (T : TypeId) (V : Value) (hP : PartsFact T V []) (w : World) :
    Calls Tryz.prog 56 #[.iface T V] w fun e w' => e = .returned (.int .i64 1) ∧ Below w.heap.size w w' := by
  obtain ⟨F, R, hm, hn, hc, hp⟩ := hP
  have HP := Lib.hid hp
  clear hp
  go_enter Tryz.func56, Tryz.ntmps56
  go_wp2_with fail
  refine (HP.out _).mono ?_
  rintro e w1 ⟨rfl, bl⟩
  go_wp2_with fail
  refine wp_loop_rounds 1 ?_
  rw [rounds_succ]
  go_wp2_with fail
  go_ret
  exact ⟨rfl, bl⟩

set_option maxHeartbeats 1000000 in
theorem depth1 (T : TypeId) (V : Value) (tp : TypeId) (vp : Value) (n : Nat) (h1n : 1 ≤ n) (hn : n ≤ 1000) (hP : ∃ (F : FuncId) (R : Value), (∀ n w, (method (n + 1) T V "loop.example/g01175/impl.parts").run Tryz.prog w = .ok (F, R) w) ∧ (∀ n w, (nilAhead (n + 1) T V "loop.example/g01175/impl.parts").run Tryz.prog w = .ok (some false) w) ∧ (∀ args w, (callFunc F args).run Tryz.prog w = .ok (.enter F args) w) ∧ ∀ w, Calls Tryz.prog F #[R] w fun e w' => ∃ b, e = .returned (.slice (some ⟨b, 0, none⟩) 1 1) ∧ w.heap.size ≤ b ∧ w'.heap[b]? = some (.cells #[.iface tp vp] 46 (0, 0)) ∧ Below w.heap.size w w')
    (ih : ∀ w, Calls Tryz.prog 56 #[.iface tp vp] w fun e w' => e = .returned (.int .i64 (n : Int)) ∧ Below w.heap.size w w') (w : World) :
    Calls Tryz.prog 56 #[.iface T V] w fun e w' => e = .returned (.int .i64 ((n : Int) + 1)) ∧ Below w.heap.size w w' := by
  obtain ⟨F, R, hm, hna, hc, hp⟩ := hP
  have HP := Lib.hid hp
  have IH := Lib.hid ih
  have x1 : (0 : Int) < (n : Int) := by omega
  have x2 : ¬ (n : Int) < 0 := by omega
  clear hp ih
  go_enter Tryz.func56, Tryz.ntmps56
  go_wp2_with fail
  refine (HP.out _).mono ?_
  rintro e w1 ⟨b, rfl, hb, hh, bl⟩
  have c0 := cellOf1 hh
  clear hh
  go_wp2_with fail
  refine wp_loop_rounds 2 ?_
  rw [rounds_succ]
  go_wp2_with fail
  refine (IH.out _).mono ?_
  rintro e w2 ⟨rfl, bl2⟩
  clear c0
  go_wp2_with fail
  rw [rounds_succ]
  go_wp2_with fail
  go_ret
  exact ⟨rfl, below_trans bl bl2 bl.size⟩

set_option maxHeartbeats 1000000 in
theorem depth2 (T : TypeId) (V : Value) (tp : TypeId) (vp : Value) (tq : TypeId) (vq : Value) (n m k : Nat) (h1n : 1 ≤ n) (hn : n ≤ 1000) (h1m : 1 ≤ m) (hm1 : m ≤ 1000) (hk : k = max n m) (hP : ∃ (F : FuncId) (R : Value), (∀ n w, (method (n + 1) T V "loop.example/g01175/impl.parts").run Tryz.prog w = .ok (F, R) w) ∧ (∀ n w, (nilAhead (n + 1) T V "loop.example/g01175/impl.parts").run Tryz.prog w = .ok (some false) w) ∧ (∀ args w, (callFunc F args).run Tryz.prog w = .ok (.enter F args) w) ∧ ∀ w, Calls Tryz.prog F #[R] w fun e w' => ∃ b, e = .returned (.slice (some ⟨b, 0, none⟩) 2 2) ∧ w.heap.size ≤ b ∧ w'.heap[b]? = some (.cells #[.iface tp vp, .iface tq vq] 46 (0, 0)) ∧ Below w.heap.size w w')
    (ih : ∀ w, Calls Tryz.prog 56 #[.iface tp vp] w fun e w' => e = .returned (.int .i64 (n : Int)) ∧ Below w.heap.size w w')
    (ih2 : ∀ w, Calls Tryz.prog 56 #[.iface tq vq] w fun e w' => e = .returned (.int .i64 (m : Int)) ∧ Below w.heap.size w w') (w : World) :
    Calls Tryz.prog 56 #[.iface T V] w fun e w' => e = .returned (.int .i64 ((k : Int) + 1)) ∧ Below w.heap.size w w' := by
  obtain ⟨F, R, hm, hna, hc, hp⟩ := hP
  have HP := Lib.hid hp
  have IH := Lib.hid ih
  have IH2 := Lib.hid ih2
  have x1 : (0 : Int) < (n : Int) := by omega
  have x2 : ¬ (n : Int) < 0 := by omega
  have HK := Lib.hid hk
  clear hp ih ih2 hk
  have key : (n : Int) < (m : Int) ∨ ¬ (n : Int) < (m : Int) := by omega
  rcases key with x3 | x3
  all_goals
    go_enter Tryz.func56, Tryz.ntmps56
    go_wp2_with fail
    refine (HP.out _).mono ?_
    rintro e w1 ⟨b, rfl, hb, hh, bl⟩
    have c0 := cellOf2a hh
    have Hh := Lib.hid hh
    clear hh
    go_wp2_with fail
    refine wp_loop_rounds 3 ?_
    rw [rounds_succ]
    go_wp2_with fail
    refine (IH.out _).mono ?_
    rintro e w2 ⟨rfl, bl2⟩
    have h2 := (bl2.block b (lt_of_block Hh.out)).trans Hh.out
    clear c0
    have c1 := cellOf2b h2
    clear h2
    go_wp2_with fail
    rw [rounds_succ]
    go_wp2_with fail
    refine (IH2.out _).mono ?_
    rintro e w3 ⟨rfl, bl3⟩
    clear c1
    go_wp2_with fail
    rw [rounds_succ]
    go_wp2_with fail
    go_ret
    refine ⟨?_, below_trans (below_trans bl bl2 bl.size) bl3 (Nat.le_trans bl.size bl2.size)⟩
  · obtain rfl : k = m := by have := HK.out; omega
    rfl
  · obtain rfl : k = n := by have := HK.out; omega
    rfl

theorem depth_any (t : Tm) : ∀ (w : World), t.size ≤ 1000 → Calls Tryz.prog 56 #[.iface (tyOf t) (pay t)] w fun e w' => e = .returned (.int .i64 (t.depth : Nat)) ∧ Below w.heap.size w w' := by
  have conv : ∀ (t : Tm) (n : Int), n = (t.depth : Nat) → (∀ w, Calls Tryz.prog 56 #[.iface (tyOf t) (pay t)] w fun e w' => e = .returned (.int .i64 n) ∧ Below w.heap.size w w') → ∀ w, Calls Tryz.prog 56 #[.iface (tyOf t) (pay t)] w fun e w' => e = .returned (.int .i64 (t.depth : Nat)) ∧ Below w.heap.size w w' := by
    intro t n h hc; rw [h] at hc; exact hc
  induction t with
  | nil => exact fun w _ => depth0 _ _ (parts_fact .nil) w
  | snd a b p ih =>
    intro w ht
    have hd := depth_le p
    simp only [Tm.size] at ht
    exact conv (.snd a b p) _ (by simp only [Tm.depth]; omega) (fun w => depth1 _ _ _ _ p.depth (by omega) (by omega) (parts_fact (.snd a b p)).pf (fun w => ih w (by omega)) w) w
  | rcv a b p ih =>
    intro w ht
    have hd := depth_le p
    simp only [Tm.size] at ht
    exact conv (.rcv a b p) _ (by simp only [Tm.depth]; omega) (fun w => depth1 _ _ _ _ p.depth (by omega) (by omega) (parts_fact (.rcv a b p)).pf (fun w => ih w (by omega)) w) w
  | mat a b p ih =>
    intro w ht
    have hd := depth_le p
    simp only [Tm.size] at ht
    exact conv (.mat a b p) _ (by simp only [Tm.depth]; omega) (fun w => depth1 _ _ _ _ p.depth (by omega) (by omega) (parts_fact (.mat a b p)).pf (fun w => ih w (by omega)) w) w
  | own x p ih =>
    intro w ht
    have hd := depth_le p
    simp only [Tm.size] at ht
    exact conv (.own x p) _ (by simp only [Tm.depth]; omega) (fun w => depth1 _ _ _ _ p.depth (by omega) (by omega) (parts_fact (.own x p)).pf (fun w => ih w (by omega)) w) w
  | tau p ih =>
    intro w ht
    have hd := depth_le p
    simp only [Tm.size] at ht
    exact conv (.tau p) _ (by simp only [Tm.depth]; omega) (fun w => depth1 _ _ _ _ p.depth (by omega) (by omega) (parts_fact (.tau p)).pf (fun w => ih w (by omega)) w) w
  | rep p ih =>
    intro w ht
    have hd := depth_le p
    simp only [Tm.size] at ht
    exact conv (.rep p) _ (by simp only [Tm.depth]; omega) (fun w => depth1 _ _ _ _ p.depth (by omega) (by omega) (parts_fact (.rep p)).pf (fun w => ih w (by omega)) w) w
  | sum p q ih ih2 =>
    intro w ht
    have hd := depth_le p
    have hd2 := depth_le q
    simp only [Tm.size] at ht
    exact conv (.sum p q) _ (by simp only [Tm.depth]; omega) (fun w => depth2 _ _ _ _ _ _ p.depth q.depth (max p.depth q.depth) (by omega) (by omega) (by omega) (by omega) rfl (parts_fact (.sum p q)).pf (fun w => ih w (by omega)) (fun w => ih2 w (by omega)) w) w
  | par p q ih ih2 =>
    intro w ht
    have hd := depth_le p
    have hd2 := depth_le q
    simp only [Tm.size] at ht
    exact conv (.par p q) _ (by simp only [Tm.depth]; omega) (fun w => depth2 _ _ _ _ _ _ p.depth q.depth (max p.depth q.depth) (by omega) (by omega) (by omega) (by omega) rfl (parts_fact (.par p q)).pf (fun w => ih w (by omega)) (fun w => ih2 w (by omega)) w) w
end Go.Proofs.YtajgncapgeiniaaGreat.T1

/- What DepthOf answers on both sides. No conditions. -/
namespace Go.Proofs.YtajgncapgeiniaaGreat
namespace LawDepthOf
open Go.ChangeShapes Go.WideShapes Go.ChangeAt Go.RowKit Go.Proofs.YtajgncapgeiniaaGreat.T1
open Go.ChangeMaps (open_string shut_string)
set_option linter.unusedVariables false

theorem spec_none (s : ByteArray) (hg : good s.data.toList = none) (hm : s.size ≤ 9223372036854775807) (w : World) : Calls Tryz.prog 12 #[.string s] w fun e w' => e = .returned (.tuple #[.int .i64 0, .bool false]) ∧ Below w.heap.size w w' := by
  have H := Lib.hid (tmGood_none hg w hm)
  clear hg
  go_enter Tryz.func12, Tryz.ntmps12
  go_wp2_with fail
  refine (H.out).mono ?_
  rintro e w1 ⟨rfl, bl⟩
  go_wp2_with fail
  go_ret2
  exact ⟨rfl, bl⟩
theorem impl_none (s : ByteArray) (hg : good s.data.toList = none) (hm : s.size ≤ 9223372036854775807) (w : World) : Calls Tryz.prog 11 #[.string s] w fun e w' => e = .returned (.tuple #[.int .i64 0, .bool false]) ∧ Below w.heap.size w w' := by
  have H := Lib.hid (parse_none hg w hm)
  clear hg
  go_enter Tryz.func11, Tryz.ntmps11
  go_wp2_with fail
  refine (H.out).mono ?_
  rintro e w1 ⟨rfl, bl⟩
  go_wp2_with fail
  go_ret2
  exact ⟨rfl, bl⟩
set_option maxHeartbeats 1000000 in
theorem spec_some (s : ByteArray) (t : Tm) (hg : good s.data.toList = some t) (hm : s.size ≤ 9223372036854775807) (w : World) : Calls Tryz.prog 12 #[.string s] w fun e w' => e = .returned (.tuple #[.int .i64 (t.depth : Nat), .bool true]) ∧ Below w.heap.size w w' := by
  have H := Lib.hid (tmGood_some hg w hm)
  obtain ⟨es, hL, hE, h300, h60⟩ := good_S hg
  have HS := tmDepth_any t hE (by omega)
  rw [← es] at HS
  obtain ⟨N, hN⟩ : ∃ N, N = t.depth := ⟨_, rfl⟩
  rw [← hN] at HS ⊢
  have H2 := Lib.hid HS
  clear hg es hL hE h300 h60 HS hN
  go_enter Tryz.func12, Tryz.ntmps12
  go_wp2_with fail
  refine (H.out).mono ?_
  rintro e w1 ⟨rfl, bl⟩
  go_wp2_with fail
  refine (H2.out _).mono ?_
  rintro e w2 ⟨rfl, b2⟩
  go_wp2_with fail
  go_ret2
  exact ⟨rfl, below_trans bl b2 bl.size⟩

set_option maxHeartbeats 1000000 in
theorem impl_some (s : ByteArray) (t : Tm) (hg : good s.data.toList = some t) (hm : s.size ≤ 9223372036854775807) (w : World) : Calls Tryz.prog 11 #[.string s] w fun e w' => e = .returned (.tuple #[.int .i64 (t.depth : Nat), .bool true]) ∧ Below w.heap.size w w' := by
  have H := Lib.hid (parse_some hg w hm)
  obtain ⟨es, hL, hE, h300, h60⟩ := good_S hg
  have HS := (fun w => depth_any t w (by omega))
  obtain ⟨T, hT⟩ : ∃ T, T = tyOf t := ⟨_, rfl⟩
  obtain ⟨V, hV⟩ : ∃ V, V = pay t := ⟨_, rfl⟩
  obtain ⟨N, hN⟩ : ∃ N, N = t.depth := ⟨_, rfl⟩
  rw [← hT, ← hV, ← hN] at HS
  rw [← hT, ← hV] at H
  rw [← hN]
  have H2 := Lib.hid HS
  clear hg es hL hE h300 h60 HS hT hV hN
  go_enter Tryz.func11, Tryz.ntmps11
  go_wp2_with fail
  refine (H.out).mono ?_
  rintro e w1 ⟨rfl, bl⟩
  go_wp2_with fail
  refine (H2.out _).mono ?_
  rintro e w2 ⟨rfl, b2⟩
  go_wp2_with fail
  go_ret2
  exact ⟨rfl, below_trans bl b2 bl.size⟩
end LawDepthOf
end Go.Proofs.YtajgncapgeiniaaGreat
