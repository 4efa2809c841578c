/- How many signs of a kind there are, in the specification and in the program. -/
import Derived.Test.YtgobbeohiiodoabKind
import Derived.Deep.RegionWith
namespace Go.Proofs.Ytgobbeohiiodoab.T1
open Go.RowKit
set_option maxRecDepth 100000

def isK (k : UInt8) (t : Tm) : Bool := t.kind == k
/-- One, if a kind is the wanted one. -/
def i01 (b : Bool) : Nat := if b then 1 else 0
theorem cnt_cons (k : UInt8) (t : Tm) (l : List Tm) : (t :: l).countP (isK k) = i01 (isK k t) + l.countP (isK k) := by
  rw [List.countP_cons]; unfold i01; omega

set_option maxHeartbeats 1000000 in
theorem tmCount0 (s : ByteArray) (kd kk : Int) (b : Bool) (hb : (kd == kk) = b) (HK : ∀ w, Calls Try.prog 56 #[.string s] w fun e w' => e = .returned (.int .u8 kd) ∧ w = w') (HP : ∀ w, Calls Try.prog 49 #[.string s] w (PartsS [] w)) (w : World) :
    Calls Try.prog 29 #[.string s, .int .u8 kk] w fun e w' => e = .returned (.int .i64 (i01 b : Nat)) ∧ Below w.heap.size w w' := by
  have H := Lib.hid HP
  have HK2 := Lib.hid HK
  clear HP HK
  cases b
  all_goals
    go_enter Try.func29, Try.ntmps29
    go_wp2_with fail
    refine (HK2.out _).mono ?_
    rintro e w1 ⟨rfl, rfl⟩
    go_wp2_with fail
    refine (H.out _).mono ?_
    rintro e w1 ⟨rfl, bl⟩
    go_wp2_with fail
    refine wp_loop_rounds 1 ?_
    rw [rounds_succ]
    go_wp2_with fail
    go_ret
    exact ⟨rfl, bl⟩

set_option maxHeartbeats 1000000 in
theorem tmCount1 (s u : ByteArray) (kd kk : Int) (b : Bool) (hb : (kd == kk) = b) (n : Nat) (hn : n ≤ 1000) (HK : ∀ w, Calls Try.prog 56 #[.string s] w fun e w' => e = .returned (.int .u8 kd) ∧ w = w') (HP : ∀ w, Calls Try.prog 49 #[.string s] w fun e w' => ∃ b, e = .returned (.slice (some ⟨b, 0, none⟩) 1 1) ∧ w.heap.size ≤ b ∧ w'.heap[b]? = some (.cells #[.string u] 9 (0, 0)) ∧ Below w.heap.size w w')
    (ih : ∀ w, Calls Try.prog 29 #[.string u, .int .u8 kk] w fun e w' => e = .returned (.int .i64 (n : Int)) ∧ Below w.heap.size w w') (w : World) :
    Calls Try.prog 29 #[.string s, .int .u8 kk] w fun e w' => e = .returned (.int .i64 ((i01 b + n : Nat) : Int)) ∧ Below w.heap.size w w' := by
  have H := Lib.hid HP
  have HK2 := Lib.hid HK
  have IH := Lib.hid ih
  clear HP ih HK
  cases b
  all_goals
    go_enter Try.func29, Try.ntmps29
    go_wp2_with fail
    refine (HK2.out _).mono ?_
    rintro e w1 ⟨rfl, rfl⟩
    go_wp2_with fail
    refine (H.out _).mono ?_
    rintro e w1 ⟨b, rfl, hb, hh, bl⟩
    have c0 := cellOf1 hh
    clear hh
    go_wp2_with fail
    refine wp_loop_rounds 2 ?_
    rw [rounds_succ]
    go_wp2_with fail
    refine (IH.out _).mono ?_
    rintro e w2 ⟨rfl, bl2⟩
    clear c0
    go_wp2_with fail
    rw [rounds_succ]
    go_wp2_with fail
    go_ret
    exact ⟨ret_int (by simp [i01]), below_trans bl bl2 bl.size⟩

set_option maxHeartbeats 1000000 in
theorem tmCount2 (s u v : ByteArray) (kd kk : Int) (b : Bool) (hb : (kd == kk) = b) (n m : Nat) (hn : n ≤ 1000) (hm : m ≤ 1000) (HK : ∀ w, Calls Try.prog 56 #[.string s] w fun e w' => e = .returned (.int .u8 kd) ∧ w = w') (HP : ∀ w, Calls Try.prog 49 #[.string s] w fun e w' => ∃ b, e = .returned (.slice (some ⟨b, 0, none⟩) 2 2) ∧ w.heap.size ≤ b ∧ w'.heap[b]? = some (.cells #[.string u, .string v] 9 (0, 0)) ∧ Below w.heap.size w w')
    (ih : ∀ w, Calls Try.prog 29 #[.string u, .int .u8 kk] w fun e w' => e = .returned (.int .i64 (n : Int)) ∧ Below w.heap.size w w')
    (ih2 : ∀ w, Calls Try.prog 29 #[.string v, .int .u8 kk] w fun e w' => e = .returned (.int .i64 (m : Int)) ∧ Below w.heap.size w w') (w : World) :
    Calls Try.prog 29 #[.string s, .int .u8 kk] w fun e w' => e = .returned (.int .i64 ((i01 b + (n + m) : Nat) : Int)) ∧ Below w.heap.size w w' := by
  have H := Lib.hid HP
  have HK2 := Lib.hid HK
  have IH := Lib.hid ih
  have IH2 := Lib.hid ih2
  clear HP ih ih2 HK
  cases b
  all_goals
    go_enter Try.func29, Try.ntmps29
    go_wp2_with fail
    refine (HK2.out _).mono ?_
    rintro e w1 ⟨rfl, rfl⟩
    go_wp2_with fail
    refine (H.out _).mono ?_
    rintro e w1 ⟨b, rfl, hb, hh, bl⟩
    have c0 := cellOf2a hh
    have Hh := Lib.hid hh
    clear hh
    go_wp2_with fail
    refine wp_loop_rounds 3 ?_
    rw [rounds_succ]
    go_wp2_with fail
    refine (IH.out _).mono ?_
    rintro e w2 ⟨rfl, bl2⟩
    have h2 := (bl2.block b (lt_of_block Hh.out)).trans Hh.out
    clear c0
    have c1 := cellOf2b h2
    clear h2
    go_wp2_with fail
    rw [rounds_succ]
    go_wp2_with fail
    refine (IH2.out _).mono ?_
    rintro e w3 ⟨rfl, bl3⟩
    clear c1
    go_wp2_with fail
    rw [rounds_succ]
    go_wp2_with fail
    go_ret
    exact ⟨ret_int (by simp [i01]; try omega), below_trans (below_trans bl bl2 bl.size) bl3 (Nat.le_trans bl.size bl2.size)⟩

theorem kb (t : Tm) (k : UInt8) : ((t.kind.toNat : Int) == (k.toNat : Int)) = isK k t := by
  unfold isK
  rw [Bool.eq_iff_iff]
  simp only [beq_iff_eq]
  rw [← UInt8.toNat_inj]
  omega
theorem cnt_le (k : UInt8) (t : Tm) : t.subs.countP (isK k) ≤ t.size := by rw [← subs_len]; exact List.countP_le_length

theorem tmCount_any (k : UInt8) (t : Tm) : t.ok nmE = true → t.pr.length ≤ 300 → ∀ (w : World), Calls Try.prog 29 #[.string (S t), .int .u8 (k.toNat : Int)] w fun e w' => e = .returned (.int .i64 (t.subs.countP (isK k) : Nat)) ∧ Below w.heap.size w w' := by
  have conv : ∀ (t : Tm) (n : Nat), n = t.subs.countP (isK k) → (∀ w, Calls Try.prog 29 #[.string (S t), .int .u8 (k.toNat : Int)] w fun e w' => e = .returned (.int .i64 (n : Int)) ∧ Below w.heap.size w w') → ∀ w, Calls Try.prog 29 #[.string (S t), .int .u8 (k.toNat : Int)] w fun e w' => e = .returned (.int .i64 (t.subs.countP (isK k) : Nat)) ∧ Below w.heap.size w w' := by
    intro t n h hc; rw [h] at hc; exact hc
  induction t with
  | nil => exact fun ho hl => conv _ _ (by simp only [Tm.subs, cnt_cons, List.countP_nil]; omega) (tmCount0 _ _ _ _ (kb .nil k) (tmKind_any .nil ho hl) (tmParts_any .nil ho hl))
  | snd a b p ih =>
    intro ho hl
    have hd := cnt_le k p
    have hq := size_le_pr p
    have ho' := ho
    simp only [Tm.ok, Bool.and_eq_true] at ho'
    have hl' := hl
    simp only [Tm.pr, List.length_cons] at hl'
    exact conv _ _ (by simp only [Tm.subs, cnt_cons]) (tmCount1 _ _ _ _ _ (kb (.snd a b p) k) (p.subs.countP (isK k)) (by omega) (tmKind_any (.snd a b p) ho hl) (tmParts_any (.snd a b p) ho hl) (ih ho'.2 (by omega)))
  | rcv a b p ih =>
    intro ho hl
    have hd := cnt_le k p
    have hq := size_le_pr p
    have ho' := ho
    simp only [Tm.ok, Bool.and_eq_true] at ho'
    have hl' := hl
    simp only [Tm.pr, List.length_cons] at hl'
    exact conv _ _ (by simp only [Tm.subs, cnt_cons]) (tmCount1 _ _ _ _ _ (kb (.rcv a b p) k) (p.subs.countP (isK k)) (by omega) (tmKind_any (.rcv a b p) ho hl) (tmParts_any (.rcv a b p) ho hl) (ih ho'.2 (by omega)))
  | mat a b p ih =>
    intro ho hl
    have hd := cnt_le k p
    have hq := size_le_pr p
    have ho' := ho
    simp only [Tm.ok, Bool.and_eq_true] at ho'
    have hl' := hl
    simp only [Tm.pr, List.length_cons] at hl'
    exact conv _ _ (by simp only [Tm.subs, cnt_cons]) (tmCount1 _ _ _ _ _ (kb (.mat a b p) k) (p.subs.countP (isK k)) (by omega) (tmKind_any (.mat a b p) ho hl) (tmParts_any (.mat a b p) ho hl) (ih ho'.2 (by omega)))
  | own x p ih =>
    intro ho hl
    have hd := cnt_le k p
    have hq := size_le_pr p
    have ho' := ho
    simp only [Tm.ok, Bool.and_eq_true] at ho'
    have hl' := hl
    simp only [Tm.pr, List.length_cons] at hl'
    exact conv _ _ (by simp only [Tm.subs, cnt_cons]) (tmCount1 _ _ _ _ _ (kb (.own x p) k) (p.subs.countP (isK k)) (by omega) (tmKind_any (.own x p) ho hl) (tmParts_any (.own x p) ho hl) (ih ho'.2 (by omega)))
  | tau p ih =>
    intro ho hl
    have hd := cnt_le k p
    have hq := size_le_pr p
    have ho' := ho
    simp only [Tm.ok] at ho'
    have hl' := hl
    simp only [Tm.pr, List.length_cons] at hl'
    exact conv _ _ (by simp only [Tm.subs, cnt_cons]) (tmCount1 _ _ _ _ _ (kb (.tau p) k) (p.subs.countP (isK k)) (by omega) (tmKind_any (.tau p) ho hl) (tmParts_any (.tau p) ho hl) (ih ho (by omega)))
  | rep p ih =>
    intro ho hl
    have hd := cnt_le k p
    have hq := size_le_pr p
    have ho' := ho
    simp only [Tm.ok] at ho'
    have hl' := hl
    simp only [Tm.pr, List.length_cons] at hl'
    exact conv _ _ (by simp only [Tm.subs, cnt_cons]) (tmCount1 _ _ _ _ _ (kb (.rep p) k) (p.subs.countP (isK k)) (by omega) (tmKind_any (.rep p) ho hl) (tmParts_any (.rep p) ho hl) (ih ho (by omega)))
  | sum p q ih ih2 =>
    intro ho hl
    have hd := cnt_le k p
    have hq := size_le_pr p
    have hd2 := cnt_le k q
    have hq2 := size_le_pr q
    have ho' := ho
    simp only [Tm.ok, Bool.and_eq_true] at ho'
    have hl' := hl
    simp only [Tm.pr, List.length_cons, List.length_append] at hl'
    exact conv _ _ (by simp only [Tm.subs, cnt_cons, List.countP_append]) (tmCount2 _ _ _ _ _ _ (kb (.sum p q) k) (p.subs.countP (isK k)) (q.subs.countP (isK k)) (by omega) (by omega) (tmKind_any (.sum p q) ho hl) (tmParts_any (.sum p q) ho hl) (ih ho'.1 (by omega)) (ih2 ho'.2 (by omega)))
  | par p q ih ih2 =>
    intro ho hl
    have hd := cnt_le k p
    have hq := size_le_pr p
    have hd2 := cnt_le k q
    have hq2 := size_le_pr q
    have ho' := ho
    simp only [Tm.ok, Bool.and_eq_true] at ho'
    have hl' := hl
    simp only [Tm.pr, List.length_cons, List.length_append] at hl'
    exact conv _ _ (by simp only [Tm.subs, cnt_cons, List.countP_append]) (tmCount2 _ _ _ _ _ _ (kb (.par p q) k) (p.subs.countP (isK k)) (q.subs.countP (isK k)) (by omega) (by omega) (tmKind_any (.par p q) ho hl) (tmParts_any (.par p q) ho hl) (ih ho'.1 (by omega)) (ih2 ho'.2 (by omega)))

theorem cf_ck (args : Array Value) (w : World) : (callFunc 58 args).run Try.prog w = .ok (.enter 58 args) w := by kernel_rfl
set_option maxHeartbeats 1000000 in
theorem ck1 (T : TypeId) (V : Value) (ks kt : ByteArray) (hk : KindFact T V kt) (bk : Nat) (w : World) (hc : w.cell? ⟨bk, 0, none⟩ = some (.string ks)) :
    Calls Try.prog 58 (#[.iface T V] ++ #[.pointer (some ⟨bk, 0, none⟩)]) w fun e w' => e = .returned (.bool (kt.toList == ks.toList)) ∧ Below w.heap.size w w' := by
  show Calls Try.prog 58 #[.iface T V, .pointer (some ⟨bk, 0, none⟩)] w _
  obtain ⟨F, R, hm1, hn1, hc1, hp⟩ := hk
  have hlt : bk < w.heap.size := World.block_lt_of_cell? w _ hc
  have H := Lib.hid hp
  clear hp
  go_enter Try.func58, Try.ntmps58
  go_wp2_with fail
  go_region_with (refine (H.out _).mono ?_; rintro e w' ⟨rfl, bl⟩; have c2 := (bl.cell (p := ⟨bk, 0, none⟩) hlt).trans hc)
  all_goals
    go_wp2_with fail
    go_ret
    refine ⟨rfl, ?_⟩
    first
      | exact bl
      | exact ((Below.refl w.heap.size w).drew).trans bl
      | exact bl.drew
      | exact (((Below.refl w.heap.size w).drew).trans bl).drew
      | exact (((Below.refl w.heap.size w).drew).drew).trans bl
      | trace_state

/-- A block with the wanted kind, as long as what is older than B stays. -/
def KBlk (bk : Nat) (ks : ByteArray) (w : World) : Prop := w.cell? ⟨bk, 0, none⟩ = some (.string ks)

theorem countKind_any (t : Tm) (ht : t.size ≤ 1000) (ks : ByteArray) (w : World) :
    Calls Try.prog 31 #[.iface (tyOf t) (pay t), .string ks] w fun e w' => e = .returned (.int .i64 (t.subs.countP (fun u => (one u.kind).toList == ks.toList) : Nat)) ∧ Below w.heap.size w w' := by
  have HC := countOf_any 58 #[.pointer (some ⟨w.heap.size, 0, none⟩)] (fun u => (one u.kind).toList == ks.toList) (KBlk w.heap.size ks) cf_ck
    (fun u w1 j => ck1 _ _ ks (one u.kind) (kind_fact u) w.heap.size w1 j) t ht
  have HC2 : Hid (∀ T, Calls Try.prog 57 #[.iface (tyOf t) (pay t), .func (.func 58) #[] #[.pointer (some ⟨w.heap.size, 0, none⟩)]] (w.alloc (.cells #[.string ks] T)) fun e w' => e = .returned (.int .i64 (t.subs.countP (fun u => (one u.kind).toList == ks.toList) : Nat)) ∧ Below (w.alloc (.cells #[.string ks] T)).heap.size (w.alloc (.cells #[.string ks] T)) w') := fun T =>
    HC (w.alloc (.cells #[.string ks] T)) (fun w1 w' j bl => by unfold KBlk at j ⊢; rw [bl.cell (p := ⟨w.heap.size, 0, none⟩) (by simp)]; exact j) (by unfold KBlk; rw [World.cell?_alloc_new]; rfl)
  clear HC
  obtain ⟨T, hT⟩ : ∃ T, T = tyOf t := ⟨_, rfl⟩
  obtain ⟨V, hV⟩ : ∃ V, V = pay t := ⟨_, rfl⟩
  obtain ⟨N, hN⟩ : ∃ N, N = t.subs.countP (fun u => (one u.kind).toList == ks.toList) := ⟨_, rfl⟩
  rw [← hT, ← hV, ← hN] at HC2
  rw [← hT, ← hV, ← hN]
  clear hT hV hN
  go_enter Try.func31, Try.ntmps31
  go_wp2_with fail
  refine (HC2.out _).mono ?_
  rintro e w1 ⟨rfl, bl⟩
  go_wp2_with fail
  go_ret
  exact ⟨rfl, below_trans ((Below.refl _ _).alloc (Nat.le_refl _) _) bl (by simp)⟩

theorem one_eq (a b : UInt8) : ((one a).toList == (one b).toList) = (a == b) := by
  have h : ∀ c, (one c).toList = [c] := fun c => by rw [ByteArray.toList_eq]; rfl
  rw [h, h]; simp

end Go.Proofs.Ytgobbeohiiodoab.T1
