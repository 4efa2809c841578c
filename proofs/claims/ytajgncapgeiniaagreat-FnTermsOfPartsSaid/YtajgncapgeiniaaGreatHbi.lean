/- Texts of the proof, put together: Ck, CIsFinite. No conditions. -/
import Derived.Test.YtajgncapgeiniaaGreatHbh
import Derived.Deep.RegionWith
import Derived.Test.YtajgncapgeiniaaGreatProg
import Derived.WalkKit
import Derived.ProofKit
import Derived.OpenShut
import Derived.ShutString
import Derived.ChangeOld
import Derived.Below

/- How many signs of a kind there are, in the specification. -/
namespace Go.Proofs.YtajgncapgeiniaaGreat.T1
open Go.RowKit
set_option maxRecDepth 100000

/-- One, if a kind is the wanted one. -/
def i01 (b : Bool) : Nat := if b then 1 else 0
theorem cnt_cons (k : UInt8) (t : Tm) (l : List Tm) : (t :: l).countP (isK k) = i01 (isK k t) + l.countP (isK k) := by
  rw [List.countP_cons]; unfold i01; omega

set_option maxHeartbeats 1000000 in
theorem tmCount0 (s : ByteArray) (kd kk : Int) (b : Bool) (hb : (kd == kk) = b) (HK : ∀ w, Calls Tryz.prog 58 #[.string s] w fun e w' => e = .returned (.int .u8 kd) ∧ w = w') (HP : ∀ w, Calls Tryz.prog 53 #[.string s] w (PartsS [] w)) (w : World) :
    Calls Tryz.prog 72 #[.string s, .int .u8 kk] w fun e w' => e = .returned (.int .i64 (i01 b : Nat)) ∧ Below w.heap.size w w' := by
  have H := Lib.hid HP
  have HK2 := Lib.hid HK
  clear HP HK
  cases b
  all_goals
    go_enter Tryz.func72, Tryz.ntmps72
    go_wp2_with fail
    refine (HK2.out _).mono ?_
    rintro e w1 ⟨rfl, rfl⟩
    go_wp2_with fail
    refine (H.out _).mono ?_
    rintro e w1 ⟨rfl, bl⟩
    go_wp2_with fail
    refine wp_loop_rounds 1 ?_
    rw [rounds_succ]
    go_wp2_with fail
    go_ret
    exact ⟨rfl, bl⟩

set_option maxHeartbeats 1000000 in
theorem tmCount1 (s u : ByteArray) (kd kk : Int) (b : Bool) (hb : (kd == kk) = b) (n : Nat) (hn : n ≤ 1000) (HK : ∀ w, Calls Tryz.prog 58 #[.string s] w fun e w' => e = .returned (.int .u8 kd) ∧ w = w') (HP : ∀ w, Calls Tryz.prog 53 #[.string s] w fun e w' => ∃ b, e = .returned (.slice (some ⟨b, 0, none⟩) 1 1) ∧ w.heap.size ≤ b ∧ w'.heap[b]? = some (.cells #[.string u] 9 (0, 0)) ∧ Below w.heap.size w w')
    (ih : ∀ w, Calls Tryz.prog 72 #[.string u, .int .u8 kk] w fun e w' => e = .returned (.int .i64 (n : Int)) ∧ Below w.heap.size w w') (w : World) :
    Calls Tryz.prog 72 #[.string s, .int .u8 kk] w fun e w' => e = .returned (.int .i64 ((i01 b + n : Nat) : Int)) ∧ Below w.heap.size w w' := by
  have H := Lib.hid HP
  have HK2 := Lib.hid HK
  have IH := Lib.hid ih
  clear HP ih HK
  cases b
  all_goals
    go_enter Tryz.func72, Tryz.ntmps72
    go_wp2_with fail
    refine (HK2.out _).mono ?_
    rintro e w1 ⟨rfl, rfl⟩
    go_wp2_with fail
    refine (H.out _).mono ?_
    rintro e w1 ⟨b, rfl, hb, hh, bl⟩
    have c0 := cellOf1 hh
    clear hh
    go_wp2_with fail
    refine wp_loop_rounds 2 ?_
    rw [rounds_succ]
    go_wp2_with fail
    refine (IH.out _).mono ?_
    rintro e w2 ⟨rfl, bl2⟩
    clear c0
    go_wp2_with fail
    rw [rounds_succ]
    go_wp2_with fail
    go_ret
    exact ⟨ret_int (by simp [i01]), below_trans bl bl2 bl.size⟩

set_option maxHeartbeats 1000000 in
theorem tmCount2 (s u v : ByteArray) (kd kk : Int) (b : Bool) (hb : (kd == kk) = b) (n m : Nat) (hn : n ≤ 1000) (hm : m ≤ 1000) (HK : ∀ w, Calls Tryz.prog 58 #[.string s] w fun e w' => e = .returned (.int .u8 kd) ∧ w = w') (HP : ∀ w, Calls Tryz.prog 53 #[.string s] w fun e w' => ∃ b, e = .returned (.slice (some ⟨b, 0, none⟩) 2 2) ∧ w.heap.size ≤ b ∧ w'.heap[b]? = some (.cells #[.string u, .string v] 9 (0, 0)) ∧ Below w.heap.size w w')
    (ih : ∀ w, Calls Tryz.prog 72 #[.string u, .int .u8 kk] w fun e w' => e = .returned (.int .i64 (n : Int)) ∧ Below w.heap.size w w')
    (ih2 : ∀ w, Calls Tryz.prog 72 #[.string v, .int .u8 kk] w fun e w' => e = .returned (.int .i64 (m : Int)) ∧ Below w.heap.size w w') (w : World) :
    Calls Tryz.prog 72 #[.string s, .int .u8 kk] w fun e w' => e = .returned (.int .i64 ((i01 b + (n + m) : Nat) : Int)) ∧ Below w.heap.size w w' := by
  have H := Lib.hid HP
  have HK2 := Lib.hid HK
  have IH := Lib.hid ih
  have IH2 := Lib.hid ih2
  clear HP ih ih2 HK
  cases b
  all_goals
    go_enter Tryz.func72, Tryz.ntmps72
    go_wp2_with fail
    refine (HK2.out _).mono ?_
    rintro e w1 ⟨rfl, rfl⟩
    go_wp2_with fail
    refine (H.out _).mono ?_
    rintro e w1 ⟨b, rfl, hb, hh, bl⟩
    have c0 := cellOf2a hh
    have Hh := Lib.hid hh
    clear hh
    go_wp2_with fail
    refine wp_loop_rounds 3 ?_
    rw [rounds_succ]
    go_wp2_with fail
    refine (IH.out _).mono ?_
    rintro e w2 ⟨rfl, bl2⟩
    have h2 := (bl2.block b (lt_of_block Hh.out)).trans Hh.out
    clear c0
    have c1 := cellOf2b h2
    clear h2
    go_wp2_with fail
    rw [rounds_succ]
    go_wp2_with fail
    refine (IH2.out _).mono ?_
    rintro e w3 ⟨rfl, bl3⟩
    clear c1
    go_wp2_with fail
    rw [rounds_succ]
    go_wp2_with fail
    go_ret
    exact ⟨ret_int (by simp [i01]; try omega), below_trans (below_trans bl bl2 bl.size) bl3 (Nat.le_trans bl.size bl2.size)⟩

theorem kb (t : Tm) (k : UInt8) : ((t.kind.toNat : Int) == (k.toNat : Int)) = isK k t := by
  unfold isK
  rw [Bool.eq_iff_iff]
  simp only [beq_iff_eq]
  rw [← UInt8.toNat_inj]
  omega
theorem cnt_le (k : UInt8) (t : Tm) : t.subs.countP (isK k) ≤ t.size := by rw [← subs_len]; exact List.countP_le_length

theorem tmCount_any (k : UInt8) (t : Tm) : t.ok nmE = true → t.pr.length ≤ 700 → ∀ (w : World), Calls Tryz.prog 72 #[.string (S t), .int .u8 (k.toNat : Int)] w fun e w' => e = .returned (.int .i64 (t.subs.countP (isK k) : Nat)) ∧ Below w.heap.size w w' := by
  have conv : ∀ (t : Tm) (n : Nat), n = t.subs.countP (isK k) → (∀ w, Calls Tryz.prog 72 #[.string (S t), .int .u8 (k.toNat : Int)] w fun e w' => e = .returned (.int .i64 (n : Int)) ∧ Below w.heap.size w w') → ∀ w, Calls Tryz.prog 72 #[.string (S t), .int .u8 (k.toNat : Int)] w fun e w' => e = .returned (.int .i64 (t.subs.countP (isK k) : Nat)) ∧ Below w.heap.size w w' := by
    intro t n h hc; rw [h] at hc; exact hc
  induction t with
  | nil => exact fun ho hl => conv _ _ (by simp only [Tm.subs, cnt_cons, List.countP_nil]; omega) (tmCount0 _ _ _ _ (kb .nil k) (tmKind_any .nil ho hl) (tmParts_any .nil ho hl))
  | snd a b p ih =>
    intro ho hl
    have hd := cnt_le k p
    have hq := size_le_pr p
    have ho' := ho
    simp only [Tm.ok, Bool.and_eq_true] at ho'
    have hl' := hl
    simp only [Tm.pr, List.length_cons] at hl'
    exact conv _ _ (by simp only [Tm.subs, cnt_cons]) (tmCount1 _ _ _ _ _ (kb (.snd a b p) k) (p.subs.countP (isK k)) (by omega) (tmKind_any (.snd a b p) ho hl) (tmParts_any (.snd a b p) ho hl) (ih ho'.2 (by omega)))
  | rcv a b p ih =>
    intro ho hl
    have hd := cnt_le k p
    have hq := size_le_pr p
    have ho' := ho
    simp only [Tm.ok, Bool.and_eq_true] at ho'
    have hl' := hl
    simp only [Tm.pr, List.length_cons] at hl'
    exact conv _ _ (by simp only [Tm.subs, cnt_cons]) (tmCount1 _ _ _ _ _ (kb (.rcv a b p) k) (p.subs.countP (isK k)) (by omega) (tmKind_any (.rcv a b p) ho hl) (tmParts_any (.rcv a b p) ho hl) (ih ho'.2 (by omega)))
  | mat a b p ih =>
    intro ho hl
    have hd := cnt_le k p
    have hq := size_le_pr p
    have ho' := ho
    simp only [Tm.ok, Bool.and_eq_true] at ho'
    have hl' := hl
    simp only [Tm.pr, List.length_cons] at hl'
    exact conv _ _ (by simp only [Tm.subs, cnt_cons]) (tmCount1 _ _ _ _ _ (kb (.mat a b p) k) (p.subs.countP (isK k)) (by omega) (tmKind_any (.mat a b p) ho hl) (tmParts_any (.mat a b p) ho hl) (ih ho'.2 (by omega)))
  | own x p ih =>
    intro ho hl
    have hd := cnt_le k p
    have hq := size_le_pr p
    have ho' := ho
    simp only [Tm.ok, Bool.and_eq_true] at ho'
    have hl' := hl
    simp only [Tm.pr, List.length_cons] at hl'
    exact conv _ _ (by simp only [Tm.subs, cnt_cons]) (tmCount1 _ _ _ _ _ (kb (.own x p) k) (p.subs.countP (isK k)) (by omega) (tmKind_any (.own x p) ho hl) (tmParts_any (.own x p) ho hl) (ih ho'.2 (by omega)))
  | tau p ih =>
    intro ho hl
    have hd := cnt_le k p
    have hq := size_le_pr p
    have ho' := ho
    simp only [Tm.ok] at ho'
    have hl' := hl
    simp only [Tm.pr, List.length_cons] at hl'
    exact conv _ _ (by simp only [Tm.subs, cnt_cons]) (tmCount1 _ _ _ _ _ (kb (.tau p) k) (p.subs.countP (isK k)) (by omega) (tmKind_any (.tau p) ho hl) (tmParts_any (.tau p) ho hl) (ih ho (by omega)))
  | rep p ih =>
    intro ho hl
    have hd := cnt_le k p
    have hq := size_le_pr p
    have ho' := ho
    simp only [Tm.ok] at ho'
    have hl' := hl
    simp only [Tm.pr, List.length_cons] at hl'
    exact conv _ _ (by simp only [Tm.subs, cnt_cons]) (tmCount1 _ _ _ _ _ (kb (.rep p) k) (p.subs.countP (isK k)) (by omega) (tmKind_any (.rep p) ho hl) (tmParts_any (.rep p) ho hl) (ih ho (by omega)))
  | sum p q ih ih2 =>
    intro ho hl
    have hd := cnt_le k p
    have hq := size_le_pr p
    have hd2 := cnt_le k q
    have hq2 := size_le_pr q
    have ho' := ho
    simp only [Tm.ok, Bool.and_eq_true] at ho'
    have hl' := hl
    simp only [Tm.pr, List.length_cons, List.length_append] at hl'
    exact conv _ _ (by simp only [Tm.subs, cnt_cons, List.countP_append]) (tmCount2 _ _ _ _ _ _ (kb (.sum p q) k) (p.subs.countP (isK k)) (q.subs.countP (isK k)) (by omega) (by omega) (tmKind_any (.sum p q) ho hl) (tmParts_any (.sum p q) ho hl) (ih ho'.1 (by omega)) (ih2 ho'.2 (by omega)))
  | par p q ih ih2 =>
    intro ho hl
    have hd := cnt_le k p
    have hq := size_le_pr p
    have hd2 := cnt_le k q
    have hq2 := size_le_pr q
    have ho' := ho
    simp only [Tm.ok, Bool.and_eq_true] at ho'
    have hl' := hl
    simp only [Tm.pr, List.length_cons, List.length_append] at hl'
    exact conv _ _ (by simp only [Tm.subs, cnt_cons, List.countP_append]) (tmCount2 _ _ _ _ _ _ (kb (.par p q) k) (p.subs.countP (isK k)) (q.subs.countP (isK k)) (by omega) (by omega) (tmKind_any (.par p q) ho hl) (tmParts_any (.par p q) ho hl) (ih ho'.1 (by omega)) (ih2 ho'.2 (by omega)))

end Go.Proofs.YtajgncapgeiniaaGreat.T1

/- What IsFinite answers on both sides. No conditions. -/
namespace Go.Proofs.YtajgncapgeiniaaGreat
namespace LawIsFinite
open Go.ChangeShapes Go.WideShapes Go.ChangeAt Go.RowKit Go.Proofs.YtajgncapgeiniaaGreat.T1
open Go.ChangeMaps (open_string shut_string)
set_option linter.unusedVariables false

theorem spec_none (s : ByteArray) (hg : good s.data.toList = none) (hm : s.size ≤ 9223372036854775807) (w : World) : Calls Tryz.prog 33 #[.string s] w fun e w' => e = .returned (.tuple #[.bool false, .bool false]) ∧ Below w.heap.size w w' := by
  have H := Lib.hid (tmGood_none hg w hm)
  clear hg
  go_enter Tryz.func33, Tryz.ntmps33
  go_wp2_with fail
  refine (H.out).mono ?_
  rintro e w1 ⟨rfl, bl⟩
  go_wp2_with fail
  go_ret2
  exact ⟨rfl, bl⟩
theorem impl_none (s : ByteArray) (hg : good s.data.toList = none) (hm : s.size ≤ 9223372036854775807) (w : World) : Calls Tryz.prog 20 #[.string s] w fun e w' => e = .returned (.tuple #[.bool false, .bool false]) ∧ Below w.heap.size w w' := by
  have H := Lib.hid (parse_none hg w hm)
  clear hg
  go_enter Tryz.func20, Tryz.ntmps20
  go_wp2_with fail
  refine (H.out).mono ?_
  rintro e w1 ⟨rfl, bl⟩
  go_wp2_with fail
  go_ret2
  exact ⟨rfl, bl⟩
set_option maxHeartbeats 1000000 in
theorem spec_some (s : ByteArray) (t : Tm) (hg : good s.data.toList = some t) (hm : s.size ≤ 9223372036854775807) (w : World) : Calls Tryz.prog 33 #[.string s] w fun e w' => e = .returned (.tuple #[.bool (((t.subs.countP (isK 42) : Nat) : Int) == 0), .bool true]) ∧ Below w.heap.size w w' := by
  have H := Lib.hid (tmGood_some hg w hm)
  obtain ⟨es, hL, hE, h300, h60⟩ := good_S hg
  have HS := tmCount_any 42 t hE (by omega)
  rw [← es] at HS
  obtain ⟨N, hN⟩ : ∃ N, N = t.subs.countP (isK 42) := ⟨_, rfl⟩
  rw [← hN] at HS ⊢
  have H2 : Hid (∀ w, Calls Tryz.prog 72 #[.string s, .int .u8 42] w fun e w' => e = .returned (.int .i64 (N : Int)) ∧ Below w.heap.size w w') := HS
  clear hg es hL hE h300 h60 HS hN
  go_enter Tryz.func33, Tryz.ntmps33
  go_wp2_with fail
  refine (H.out).mono ?_
  rintro e w1 ⟨rfl, bl⟩
  go_wp2_with fail
  refine (H2.out _).mono ?_
  rintro e w2 ⟨rfl, b2⟩
  go_wp2_with fail
  go_ret2
  exact ⟨rfl, below_trans bl b2 bl.size⟩

set_option maxHeartbeats 1000000 in
theorem impl_some (s : ByteArray) (t : Tm) (hg : good s.data.toList = some t) (hm : s.size ≤ 9223372036854775807) (w : World) : Calls Tryz.prog 20 #[.string s] w fun e w' => e = .returned (.tuple #[.bool (((t.subs.countP (isK 42) : Nat) : Int) == 0), .bool true]) ∧ Below w.heap.size w w' := by
  have H := Lib.hid (parse_some hg w hm)
  obtain ⟨es, hL, hE, h300, h60⟩ := good_S hg
  have HS := countKind_any t (by omega) (one 42)
  rw [show (fun u : Tm => (one u.kind).toList == (one 42).toList) = isK 42 from by funext u; rw [one_eq]; rfl] at HS
  obtain ⟨T, hT⟩ : ∃ T, T = tyOf t := ⟨_, rfl⟩
  obtain ⟨V, hV⟩ : ∃ V, V = pay t := ⟨_, rfl⟩
  obtain ⟨N, hN⟩ : ∃ N, N = t.subs.countP (isK 42) := ⟨_, rfl⟩
  rw [← hT, ← hV, ← hN] at HS
  rw [← hT, ← hV] at H
  rw [← hN]
  have H2 : Hid (∀ w, Calls Tryz.prog 62 #[.iface T V, .string ⟨#[42]⟩] w fun e w' => e = .returned (.int .i64 (N : Int)) ∧ Below w.heap.size w w') := HS
  clear hg es hL hE h300 h60 HS hT hV hN
  go_enter Tryz.func20, Tryz.ntmps20
  go_wp2_with fail
  refine (H.out).mono ?_
  rintro e w1 ⟨rfl, bl⟩
  go_wp2_with fail
  refine (H2.out _).mono ?_
  rintro e w2 ⟨rfl, b2⟩
  go_wp2_with fail
  go_ret2
  exact ⟨rfl, below_trans bl b2 bl.size⟩
end LawIsFinite
end Go.Proofs.YtajgncapgeiniaaGreat
