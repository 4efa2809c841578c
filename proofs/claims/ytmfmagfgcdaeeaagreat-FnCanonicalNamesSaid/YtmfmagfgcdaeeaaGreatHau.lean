/- Texts of the proof, put together: Tx, Ls, Bn, Bd, We, CIsWellNamed, Sh, Ap, Ke. No conditions. -/
import Derived.Test.YtmfmagfgcdaeeaaGreatHaa
import Derived.Test.YtmfmagfgcdaeeaaGreatHai
import Derived.Test.YtmfmagfgcdaeeaaGreatHaj
import Derived.Test.YtmfmagfgcdaeeaaGreatHak
import Derived.Test.YtmfmagfgcdaeeaaGreatHan
import Derived.Test.YtmfmagfgcdaeeaaGreatHap
import Derived.Test.YtmfmagfgcdaeeaaGreatHat
import Derived.Laws.IdiomStrings
import Derived.Test.YtmfmagfgcdaeeaaGreatProg
import Derived.WalkKit
import Derived.ProofKit
import Derived.OpenShut
import Derived.ShutString
import Derived.ChangeOld
import Derived.Below
import Derived.Shelf.SlGeneric
import Derived.Ground.SlgnProg
import Derived.Shelf.SlicesE.Reverse
import Derived.Shelf.SlicesE.Clone
import Derived.Shelf.Small.Bits
import Derived.Shelf.Strconv.Itoa0
import Derived.Shelf.Sort.Plain
import Derived.Shelf.Slices.In.SortNone
import Derived.Maps.AppendAt
import Derived.Laws.AppendOwnNone
import Derived.Laws.AppendOwn

/- The text of a tree. -/
namespace Go.Proofs.YtmfmagfgcdaeeaaGreat.T1
open Go.RowKit
set_option maxRecDepth 100000

theorem add0 (g j : Nat) : (⟨g, 0, none⟩ : Addr).add j = ⟨g, j, none⟩ := by
  unfold Addr.add
  split
  · rename_i h; rw [h]
  · rw [Nat.zero_add]
theorem conv_row {w : World} {base n : Nat} {v : Value} (l : List UInt8) (hn : n = l.length) (hne : 0 < l.length) (h : w.ownsRow base 5 1 v n (l.map ub)) :
    (convert 22 9 v).run Tryz.prog w = .ok (.string ⟨l.toArray⟩) w := by
  subst hn
  rcases h.2 with ⟨_, h0⟩ | ⟨g, cap, cur, rfl, _⟩
  · omega
  · refine run_convert_bytes_back w 22 9 5 ⟨g, 0, none⟩ cap l Tryz.underlying22 Tryz.underlying5 Tryz.underlying9 fun j hj => ?_
    rw [add0, h.cellAt j (by omega)]
    simp [ub, hj]

set_option maxHeartbeats 1000000 in
theorem textOf_any (t : Tm) (hl : t.pr.length ≤ 900) (w : World) : Calls Tryz.prog 65 #[.iface (tyOf t) (pay t)] w fun e w' => e = .returned (.string (S t)) ∧ Below w.heap.size w w' := by
  have HW := write_any t w.heap.size 0 [] (.slice none 0 0) w (World.ownsRow_nil _ _ _ _) (by omega) (Nat.le_refl _)
  have hpos := pr_pos t
  have HC : Hid (∀ (w : World) (v : Value), w.ownsRow w.heap.size 5 1 v (0 + t.pr.length) ([] ++ t.pr.map ub) → True) := fun _ _ _ => trivial
  have HV : Hid (∀ (w1 : World) (b : Nat) (v : Value), w1.ownsRow b 5 1 v (0 + t.pr.length) ([] ++ t.pr.map ub) → (convert 22 9 v).run Tryz.prog w1 = .ok (.string (S t)) w1) := fun w1 b v h =>
    conv_row t.pr (by omega) hpos h
  clear HC
  obtain ⟨T, hT⟩ : ∃ T, T = tyOf t := ⟨_, rfl⟩
  obtain ⟨V, hV⟩ : ∃ V, V = pay t := ⟨_, rfl⟩
  obtain ⟨X, hX⟩ : ∃ X, X = S t := ⟨_, rfl⟩
  rw [← hT, ← hV] at HW
  rw [← hX] at HV
  rw [← hT, ← hV, ← hX]
  have H := Lib.hid HW
  clear hT hV hX HW hpos
  go_enter Tryz.func65, Tryz.ntmps65
  go_wp2_with fail
  refine (H.out).mono ?_
  rintro e w1 ⟨v1, rfl, ho, k1⟩
  have hcv := HV.out w1 _ v1 ho
  clear ho
  go_wp2_with fail
  go_ret
  exact ⟨rfl, k1.below⟩

end Go.Proofs.YtmfmagfgcdaeeaaGreat.T1

/- A set of letters as a text. -/
namespace Go.Proofs.YtmfmagfgcdaeeaaGreat.T1
open Go.RowKit
set_option maxRecDepth 100000
theorem conv_nil (w : World) : (convert 22 9 (.slice none 0 0)).run Tryz.prog w = .ok (.string ⟨#[]⟩) w := by kernel_rfl
theorem conv_rowE {w : World} {base n : Nat} {v : Value} (l : List UInt8) (hn : n = l.length) (h : w.ownsRow base 5 1 v n (l.map ub)) :
    (convert 22 9 v).run Tryz.prog w = .ok (.string (B l)) w := by
  cases l with
  | nil =>
    subst hn
    rcases h.2 with ⟨rfl, _⟩ | ⟨g, cap, cur, rfl, _⟩
    · exact conv_nil w
    · exact run_convert_bytes_back w 22 9 5 ⟨g, 0, none⟩ cap [] Tryz.underlying22 Tryz.underlying5 Tryz.underlying9 fun j hj => by simp at hj
  | cons c l => exact conv_row (c :: l) hn (by simp) h
theorem lets_setN (l : List UInt8) (hs : Srt l) (hl : Lets l) : lets (setN l) 26 = l := by
  refine srt_ext ?_ hs fun x => ?_
  · unfold lets Srt
    rw [List.pairwise_map]
    refine List.Pairwise.imp_of_mem ?_ (List.Pairwise.filter _ List.pairwise_lt_range)
    intro a b ha hb hab
    have ha' := (List.mem_filter.1 ha).1
    have hb' := (List.mem_filter.1 hb).1
    rw [List.mem_range] at ha' hb'
    rw [u8_lt, UInt8.toNat_ofNat', UInt8.toNat_ofNat']; omega
  · unfold lets
    rw [List.mem_map]
    constructor
    · rintro ⟨i, hi, rfl⟩
      obtain ⟨h1, h2⟩ := List.mem_filter.1 hi
      rw [List.mem_range] at h1
      obtain ⟨d, hd, e⟩ := (setN_bit l hl i).1 h2
      rw [show UInt8.ofNat (97 + i) = d from u8_ext (by rw [UInt8.toNat_ofNat']; omega)]
      exact hd
    · intro hx
      have := hl x hx
      refine ⟨x.toNat - 97, List.mem_filter.2 ⟨List.mem_range.2 (by omega), (setN_bit l hl _).2 ⟨x, hx, by omega⟩⟩, u8_ext ?_⟩
      rw [UInt8.toNat_ofNat']; omega

end Go.Proofs.YtmfmagfgcdaeeaaGreat.T1

/- How many signs bind a name, in the program. -/
namespace Go.Proofs.YtmfmagfgcdaeeaaGreat.T1
open Go.RowKit
set_option maxRecDepth 100000
set_option linter.unusedVariables false

theorem kinds_bnd (t : Tm) : t.subs.countP (isK 63) + t.subs.countP (isK 35) = t.bnd.length := by
  induction t <;> simp_all [Tm.subs, Tm.bnd, isK, Tm.kind] <;> omega
set_option maxHeartbeats 2000000 in
theorem bindersIn_any (t : Tm) (ht : t.size ≤ 1000) : ∀ w, Calls Tryz.prog 62 #[.iface (tyOf t) (pay t)] w fun e w' => e = .returned (.int .i64 (t.bnd.length : Nat)) ∧ Below w.heap.size w w' := by
  intro w
  have h1 := countKind_any t ht (one 63)
  have h2 := countKind_any t ht (one 35)
  rw [show (fun u : Tm => (one u.kind).toList == (one 63).toList) = isK 63 from by funext u; rw [one_eq]; rfl] at h1
  rw [show (fun u : Tm => (one u.kind).toList == (one 35).toList) = isK 35 from by funext u; rw [one_eq]; rfl] at h2
  have hk := kinds_bnd t
  have hb := bnd_len t
  obtain ⟨T, hT⟩ : ∃ T, T = tyOf t := ⟨_, rfl⟩
  obtain ⟨V, hV⟩ : ∃ V, V = pay t := ⟨_, rfl⟩
  obtain ⟨N, hN⟩ : ∃ N, N = t.subs.countP (isK 63) := ⟨_, rfl⟩
  obtain ⟨M, hM⟩ : ∃ M, M = t.subs.countP (isK 35) := ⟨_, rfl⟩
  obtain ⟨K, hK⟩ : ∃ K, K = t.bnd.length := ⟨_, rfl⟩
  rw [← hT, ← hV, ← hN] at h1
  rw [← hT, ← hV, ← hM] at h2
  rw [← hN, ← hM, ← hK] at hk
  rw [← hK] at hb
  rw [← hT, ← hV, ← hK]
  have H1 : Hid (∀ w, Calls Tryz.prog 115 #[.iface T V, .string ⟨#[63]⟩] w fun e w' => e = .returned (.int .i64 (N : Int)) ∧ Below w.heap.size w w') := h1
  have H2 : Hid (∀ w, Calls Tryz.prog 115 #[.iface T V, .string ⟨#[35]⟩] w fun e w' => e = .returned (.int .i64 (M : Int)) ∧ Below w.heap.size w w') := h2
  have hn : N ≤ 1000 := by omega
  have hm : M ≤ 1000 := by omega
  have HK := Lib.hid hk
  clear h1 h2 hT hV hN hM hK hk hb ht
  go_enter Tryz.func62, Tryz.ntmps62
  go_wp2_with fail
  refine (H1.out _).mono ?_
  rintro e w1 ⟨rfl, b1⟩
  go_wp2_with fail
  refine (H2.out _).mono ?_
  rintro e w2 ⟨rfl, b2⟩
  go_wp2_with fail
  go_ret
  exact ⟨ret_int (by have := HK.out; omega), below_trans b1 b2 b1.size⟩


end Go.Proofs.YtmfmagfgcdaeeaaGreat.T1

/- The names that signs bind, in the specification and in the program. -/
namespace Go.Proofs.YtmfmagfgcdaeeaaGreat.T1
open Go.RowKit
set_option maxRecDepth 100000
set_option linter.unusedVariables false

theorem B_app (l m : List UInt8) : B l ++ B m = B (l ++ m) := by apply B_eq; simp [B]
theorem one_app (c : UInt8) (m : List UInt8) : one c ++ B m = B (c :: m) := by apply B_eq; simp [B, one]
theorem nil_app (m : List UInt8) : (⟨#[]⟩ : ByteArray) ++ B m = B m := by apply B_eq; simp [B]
set_option maxHeartbeats 2000000 in
theorem tb_0 (s : ByteArray) (HB : ∀ w, Calls Tryz.prog 124 #[.string s] w fun e w' => e = .returned (.tuple #[.int .u8 0, .bool false]) ∧ w = w') (HP : ∀ w, Calls Tryz.prog 101 #[.string s] w (PartsS [] w))  (w : World) :
    Calls Tryz.prog 78 #[.string s] w fun e w' => e = .returned (.string (⟨#[]⟩)) ∧ Below w.heap.size w w' := by
  have HP' := Lib.hid HP
  have HB' := Lib.hid HB
  clear HP HB 
  go_enter Tryz.func78, Tryz.ntmps78
  go_wp2_with fail
  refine (HB'.out _).mono ?_
  rintro e w0 ⟨rfl, rfl⟩
  go_wp2_with fail
  refine (HP'.out _).mono ?_
  rintro e w1 ⟨rfl, bl⟩
  have bl0 := bl
  go_wp2_with fail
  refine wp_loop_rounds 1 ?_
  rw [rounds_succ]
  go_wp2_with fail
  go_ret
  exact ⟨rfl, bl0⟩

set_option maxHeartbeats 2000000 in
theorem tb_1 (s u U : ByteArray) (hU : U.size ≤ 1000) (HB : ∀ w, Calls Tryz.prog 124 #[.string s] w fun e w' => e = .returned (.tuple #[.int .u8 0, .bool false]) ∧ w = w') (HP : ∀ w, Calls Tryz.prog 101 #[.string s] w fun e w' => ∃ b, e = .returned (.slice (some ⟨b, 0, none⟩) 1 1) ∧ w.heap.size ≤ b ∧ w'.heap[b]? = some (.cells #[.string u] 9 (0, 0)) ∧ Below w.heap.size w w') (IH : ∀ w, Calls Tryz.prog 78 #[.string u] w fun e w' => e = .returned (.string U) ∧ Below w.heap.size w w') (w : World) :
    Calls Tryz.prog 78 #[.string s] w fun e w' => e = .returned (.string (⟨#[]⟩ ++ U)) ∧ Below w.heap.size w w' := by
  have HP' := Lib.hid HP
  have HB' := Lib.hid HB
  have IH' := Lib.hid IH
  clear HP HB IH
  go_enter Tryz.func78, Tryz.ntmps78
  go_wp2_with fail
  refine (HB'.out _).mono ?_
  rintro e w0 ⟨rfl, rfl⟩
  go_wp2_with fail
  refine (HP'.out _).mono ?_
  rintro e w1 ⟨b, rfl, hb, hh, bl⟩
  have bl0 := bl
  have c0 := cellOf1 hh
  have Hh := Lib.hid hh
  clear hh
  go_wp2_with fail
  refine wp_loop_rounds 2 ?_
  rw [rounds_succ]
  go_wp2_with fail
  refine (IH'.out _).mono ?_
  rintro e w2 ⟨rfl, b2⟩
  have bl2 := below_trans bl0 b2 bl0.size
  have h2 := (b2.block b (lt_of_block Hh.out)).trans Hh.out
  clear c0 bl bl0
  clear h2
  go_wp2_with fail
  rw [rounds_succ]
  go_wp2_with fail
  go_ret
  exact ⟨rfl, bl2⟩

set_option maxHeartbeats 2000000 in
theorem tb_1b (s u U : ByteArray) (hU : U.size ≤ 1000) (x : UInt8) (HB : ∀ w, Calls Tryz.prog 124 #[.string s] w fun e w' => e = .returned (.tuple #[.int .u8 (x.toNat : Int), .bool true]) ∧ w = w') (HP : ∀ w, Calls Tryz.prog 101 #[.string s] w fun e w' => ∃ b, e = .returned (.slice (some ⟨b, 0, none⟩) 1 1) ∧ w.heap.size ≤ b ∧ w'.heap[b]? = some (.cells #[.string u] 9 (0, 0)) ∧ Below w.heap.size w w') (IH : ∀ w, Calls Tryz.prog 78 #[.string u] w fun e w' => e = .returned (.string U) ∧ Below w.heap.size w w') (w : World) :
    Calls Tryz.prog 78 #[.string s] w fun e w' => e = .returned (.string (one x ++ U)) ∧ Below w.heap.size w w' := by
  have hcv := conv1 x
  obtain ⟨xx, hxx⟩ : ∃ xx, xx = (x.toNat : Int) := ⟨_, rfl⟩
  rw [← hxx] at hcv HB
  obtain ⟨O, hO⟩ : ∃ O, O = one x := ⟨_, rfl⟩
  have hO1 : O.size ≤ 1 := by rw [hO]; exact Nat.le_refl 1
  rw [← hO] at hcv ⊢
  clear hxx hO
  have HP' := Lib.hid HP
  have HB' := Lib.hid HB
  have IH' := Lib.hid IH
  clear HP HB IH
  go_enter Tryz.func78, Tryz.ntmps78
  go_wp2_with fail
  refine (HB'.out _).mono ?_
  rintro e w0 ⟨rfl, rfl⟩
  go_wp2_with fail
  refine (HP'.out _).mono ?_
  rintro e w1 ⟨b, rfl, hb, hh, bl⟩
  have bl0 := below_trans ((Below.refl _ _).alloc (Nat.le_refl _) _) bl (by simp)
  have c0 := cellOf1 hh
  have Hh := Lib.hid hh
  clear hh
  go_wp2_with fail
  refine wp_loop_rounds 2 ?_
  rw [rounds_succ]
  go_wp2_with fail
  refine (IH'.out _).mono ?_
  rintro e w2 ⟨rfl, b2⟩
  have bl2 := below_trans bl0 b2 bl0.size
  have h2 := (b2.block b (lt_of_block Hh.out)).trans Hh.out
  clear c0 bl bl0
  clear h2
  go_wp2_with fail
  rw [rounds_succ]
  go_wp2_with fail
  go_ret
  exact ⟨rfl, bl2⟩

set_option maxHeartbeats 2000000 in
theorem tb_2 (s u U v V : ByteArray) (hU : U.size ≤ 1000) (hV : V.size ≤ 1000) (HB : ∀ w, Calls Tryz.prog 124 #[.string s] w fun e w' => e = .returned (.tuple #[.int .u8 0, .bool false]) ∧ w = w') (HP : ∀ w, Calls Tryz.prog 101 #[.string s] w fun e w' => ∃ b, e = .returned (.slice (some ⟨b, 0, none⟩) 2 2) ∧ w.heap.size ≤ b ∧ w'.heap[b]? = some (.cells #[.string u, .string v] 9 (0, 0)) ∧ Below w.heap.size w w') (IH : ∀ w, Calls Tryz.prog 78 #[.string u] w fun e w' => e = .returned (.string U) ∧ Below w.heap.size w w') (IH2 : ∀ w, Calls Tryz.prog 78 #[.string v] w fun e w' => e = .returned (.string V) ∧ Below w.heap.size w w') (w : World) :
    Calls Tryz.prog 78 #[.string s] w fun e w' => e = .returned (.string (⟨#[]⟩ ++ U ++ V)) ∧ Below w.heap.size w w' := by
  have HP' := Lib.hid HP
  have HB' := Lib.hid HB
  have IH' := Lib.hid IH
  have IH2' := Lib.hid IH2
  clear HP HB IH IH2
  go_enter Tryz.func78, Tryz.ntmps78
  go_wp2_with fail
  refine (HB'.out _).mono ?_
  rintro e w0 ⟨rfl, rfl⟩
  go_wp2_with fail
  refine (HP'.out _).mono ?_
  rintro e w1 ⟨b, rfl, hb, hh, bl⟩
  have bl0 := bl
  have c0 := cellOf2a hh
  have Hh := Lib.hid hh
  clear hh
  go_wp2_with fail
  refine wp_loop_rounds 3 ?_
  rw [rounds_succ]
  go_wp2_with fail
  refine (IH'.out _).mono ?_
  rintro e w2 ⟨rfl, b2⟩
  have bl2 := below_trans bl0 b2 bl0.size
  have h2 := (b2.block b (lt_of_block Hh.out)).trans Hh.out
  clear c0 bl bl0
  have c1 := cellOf2b h2
  clear h2
  go_wp2_with fail
  rw [rounds_succ]
  go_wp2_with fail
  refine (IH2'.out _).mono ?_
  rintro e w3 ⟨rfl, b3⟩
  have bl3 := below_trans bl2 b3 bl2.size
  clear c1
  go_wp2_with fail
  rw [rounds_succ]
  go_wp2_with fail
  go_ret
  exact ⟨rfl, bl3⟩

theorem convS {s X Y : ByteArray} (h : X = Y) (hc : ∀ w, Calls Tryz.prog 78 #[.string s] w fun e w' => e = .returned (.string X) ∧ Below w.heap.size w w') : ∀ w, Calls Tryz.prog 78 #[.string s] w fun e w' => e = .returned (.string Y) ∧ Below w.heap.size w w' := by rw [← h]; exact hc
theorem bnd_pr (t : Tm) : t.bnd.length ≤ t.pr.length := Nat.le_trans (bnd_len t) (size_le_pr t)
theorem tmBinders_any (t : Tm) : t.ok nmE = true → t.pr.length ≤ 700 → ∀ w, Calls Tryz.prog 78 #[.string (S t)] w fun e w' => e = .returned (.string (B t.bnd)) ∧ Below w.heap.size w w' := by
  have sz : ∀ p : Tm, p.pr.length ≤ 700 → (B p.bnd).size ≤ 1000 := fun p h => by rw [B_size]; have := bnd_pr p; omega
  induction t with
  | nil => exact fun ho hl => tb_0 _ (tmBinds_any .nil ho hl) (tmParts_any .nil ho hl)
  | snd a b p ih =>
    intro ho hl
    have ho' := ho
    simp only [Tm.ok, Bool.and_eq_true] at ho'
    have hl' := hl
    simp only [Tm.pr, List.length_cons] at hl'
    exact convS (nil_app p.bnd) (tb_1 _ _ _ (sz p (by omega)) (tmBinds_any (.snd a b p) ho hl) (tmParts_any (.snd a b p) ho hl) (ih ho'.2 (by omega)))
  | rcv a x p ih =>
    intro ho hl
    have ho' := ho
    simp only [Tm.ok, Bool.and_eq_true] at ho'
    have hl' := hl
    simp only [Tm.pr, List.length_cons] at hl'
    exact convS (one_app x p.bnd) (tb_1b _ _ _ (sz p (by omega)) x (tmBinds_any (.rcv a x p) ho hl) (tmParts_any (.rcv a x p) ho hl) (ih ho'.2 (by omega)))
  | tau p ih =>
    intro ho hl
    have ho' := ho
    simp only [Tm.ok] at ho'
    have hl' := hl
    simp only [Tm.pr, List.length_cons] at hl'
    exact convS (nil_app p.bnd) (tb_1 _ _ _ (sz p (by omega)) (tmBinds_any (.tau p) ho hl) (tmParts_any (.tau p) ho hl) (ih ho' (by omega)))
  | own x p ih =>
    intro ho hl
    have ho' := ho
    simp only [Tm.ok, Bool.and_eq_true] at ho'
    have hl' := hl
    simp only [Tm.pr, List.length_cons] at hl'
    exact convS (one_app x p.bnd) (tb_1b _ _ _ (sz p (by omega)) x (tmBinds_any (.own x p) ho hl) (tmParts_any (.own x p) ho hl) (ih ho'.2 (by omega)))
  | mat a b p ih =>
    intro ho hl
    have ho' := ho
    simp only [Tm.ok, Bool.and_eq_true] at ho'
    have hl' := hl
    simp only [Tm.pr, List.length_cons] at hl'
    exact convS (nil_app p.bnd) (tb_1 _ _ _ (sz p (by omega)) (tmBinds_any (.mat a b p) ho hl) (tmParts_any (.mat a b p) ho hl) (ih ho'.2 (by omega)))
  | rep p ih =>
    intro ho hl
    have ho' := ho
    simp only [Tm.ok] at ho'
    have hl' := hl
    simp only [Tm.pr, List.length_cons] at hl'
    exact convS (nil_app p.bnd) (tb_1 _ _ _ (sz p (by omega)) (tmBinds_any (.rep p) ho hl) (tmParts_any (.rep p) ho hl) (ih ho' (by omega)))
  | sum p q ih ih2 =>
    intro ho hl
    have ho' := ho
    simp only [Tm.ok, Bool.and_eq_true] at ho'
    have hl' := hl
    simp only [Tm.pr, List.length_cons, List.length_append] at hl'
    exact convS (by rw [nil_app, B_app]; rfl) (tb_2 _ _ _ _ _ (sz p (by omega)) (sz q (by omega)) (tmBinds_any (.sum p q) ho hl) (tmParts_any (.sum p q) ho hl) (ih ho'.1 (by omega)) (ih2 ho'.2 (by omega)))
  | par p q ih ih2 =>
    intro ho hl
    have ho' := ho
    simp only [Tm.ok, Bool.and_eq_true] at ho'
    have hl' := hl
    simp only [Tm.pr, List.length_cons, List.length_append] at hl'
    exact convS (by rw [nil_app, B_app]; rfl) (tb_2 _ _ _ _ _ (sz p (by omega)) (sz q (by omega)) (tmBinds_any (.par p q) ho hl) (tmParts_any (.par p q) ho hl) (ih ho'.1 (by omega)) (ih2 ho'.2 (by omega)))

theorem setN_snoc (l : List UInt8) (c : UInt8) : setN (l ++ [c]) = setN l ||| 2 ^ (c.toNat - 97) := by
  induction l with
  | nil => simp [setN]
  | cons x l ih => show setN (l ++ [c]) ||| _ = _; rw [ih, setN, Nat.or_assoc, Nat.or_assoc, Nat.or_comm (2 ^ (c.toNat - 97))]
/-- The block of the set holds the names that the signs visited so far bind. -/
def BndI (bn : Nat) (acc : List Tm) (w : World) : Prop := Lets (acc.filterMap Tm.binds) ∧ ∃ T, w.heap[bn]? = some (.cells #[.int .u32 (setN (acc.filterMap Tm.binds) : Nat)] T (0, 0))
theorem subs_bnd (t : Tm) : t.subs.filterMap Tm.binds = t.bnd := by
  induction t with
  | nil => rfl
  | snd a b p ih => rw [Tm.subs, List.filterMap_cons_none (by rfl), ih]; rfl
  | rcv a x p ih => rw [Tm.subs, List.filterMap_cons_some (b := x) (by rfl), ih]; rfl
  | tau p ih => rw [Tm.subs, List.filterMap_cons_none (by rfl), ih]; rfl
  | sum p q ih ih2 => rw [Tm.subs, List.filterMap_cons_none (by rfl), List.filterMap_append, ih, ih2]; rfl
  | par p q ih ih2 => rw [Tm.subs, List.filterMap_cons_none (by rfl), List.filterMap_append, ih, ih2]; rfl
  | own x p ih => rw [Tm.subs, List.filterMap_cons_some (b := x) (by rfl), ih]; rfl
  | mat a b p ih => rw [Tm.subs, List.filterMap_cons_none (by rfl), ih]; rfl
  | rep p ih => rw [Tm.subs, List.filterMap_cons_none (by rfl), ih]; rfl
theorem cf_b1 (args : Array Value) (w : World) : (callFunc 131 args).run Tryz.prog w = .ok (.enter 131 args) w := by kernel_rfl
set_option maxHeartbeats 2000000 in
theorem b1_no (bn : Nat) (T : TypeId) (V : Value) (HB : ∀ w, Calls Tryz.prog 112 #[.iface T V] w fun e w' => e = .returned (.tuple #[.int .u8 0, .bool false]) ∧ Below w.heap.size w w') (w : World) :
    Calls Tryz.prog 131 #[.iface T V, .pointer (some ⟨bn, 0, none⟩)] w fun e w' => e = .returned (.tuple #[]) ∧ Below w.heap.size w w' := by
  have HB' := Lib.hid HB
  clear HB
  go_enter Tryz.func131, Tryz.ntmps131
  go_wp2_with fail
  refine (HB'.out _).mono ?_
  rintro e w1 ⟨rfl, bl⟩
  go_wp2_with fail
  go_end0
  exact ⟨rfl, bl⟩
set_option maxHeartbeats 2000000 in
theorem b1_yes (bn : Nat) (T : TypeId) (V : Value) (x : UInt8) (l : List UInt8) (hx : nmL x = true) (hl : Lets l) (HB : ∀ w, Calls Tryz.prog 112 #[.iface T V] w fun e w' => e = .returned (.tuple #[.int .u8 (x.toNat : Int), .bool true]) ∧ Below w.heap.size w w') (w : World) (Tn : TypeId) (hn : w.heap[bn]? = some (.cells #[.int .u32 (setN l : Nat)] Tn (0, 0))) :
    Calls Tryz.prog 131 #[.iface T V, .pointer (some ⟨bn, 0, none⟩)] w fun e w' => e = .returned (.tuple #[]) ∧ w'.heap[bn]? = some (.cells #[.int .u32 (setN (l ++ [x]) : Nat)] Tn (0, 0)) ∧ Only bn w w' := by
  have HB' := Lib.hid HB
  have hx' := (nmL_iff x).1 hx
  have HW := with_any (setN l) x.toNat (setN_lt32 _ hl) hx'.1 hx'.2
  rw [← setN_snoc] at HW
  have HW' := Lib.hid HW
  obtain ⟨N, hN⟩ : ∃ N, N = ((setN l : Nat) : Int) := ⟨_, rfl⟩
  obtain ⟨M, hM⟩ : ∃ M, M = ((setN (l ++ [x]) : Nat) : Int) := ⟨_, rfl⟩
  obtain ⟨xx, hxx⟩ : ∃ xx, xx = (x.toNat : Int) := ⟨_, rfl⟩
  rw [← hN, ← hM, ← hxx] at HW'
  rw [← hN] at hn
  rw [← hM]
  rw [← hxx] at HB'
  have Hn := Lib.hid hn
  clear HB HW hN hM hxx hx' hx hn hl
  go_enter Tryz.func131, Tryz.ntmps131
  go_wp2_with fail
  refine (HB'.out _).mono ?_
  rintro e w1 ⟨rfl, bl⟩
  have hn1 := (bl.block bn (lt_of_block Hn.out)).trans Hn.out
  have cn := cellOf1 hn1
  have fn := free_of_one hn1
  have Hn1 := Lib.hid hn1
  clear hn1
  go_wp2_with fail
  refine (HW'.out _).mono ?_
  rintro e w2 ⟨rfl, rfl⟩
  go_wp2_with fail
  go_end0
  exact ⟨rfl, one_setCell Hn1.out, ((Only.refl bn w).below bl).setCell _ _ _⟩
theorem visitAll_ok (CF : FuncId) (caps : Array Value) (bn : Nat) (I : List Tm → World → Prop) (hF : ∀ args w, (callFunc CF args).run Tryz.prog w = .ok (.enter CF args) w)
    (hI : ∀ acc w w', I acc w → Below w.heap.size w w' → I acc w') (hB : ∀ acc w, I acc w → bn < w.heap.size)
    (hv : ∀ t, t.ok nmL = true → ∀ acc w, I acc w → Calls Tryz.prog CF (#[.iface (tyOf t) (pay t)] ++ caps) w (VisPost bn I (acc ++ [t]) w)) (t : Tm) : t.ok nmL = true → ∀ (acc : List Tm) (w : World), I acc w →
    Calls Tryz.prog 130 #[.iface (tyOf t) (pay t), .func (.func CF) #[] caps] w (VisPost bn I (acc ++ t.subs) w) := by
  induction t with
  | nil => exact fun ho => visit0 CF caps bn I hF hI hB _ _ .nil (parts_fact .nil) (hv .nil ho)
  | snd a b p ih =>
    intro ho
    have ho' := ho
    simp only [Tm.ok, Bool.and_eq_true] at ho'
    exact visit1 CF caps bn I hF hI hB _ _ _ _ (.snd a b p) p.subs (parts_fact (.snd a b p)).pf (hv _ ho) (ih ho'.2)
  | rcv a b p ih =>
    intro ho
    have ho' := ho
    simp only [Tm.ok, Bool.and_eq_true] at ho'
    exact visit1 CF caps bn I hF hI hB _ _ _ _ (.rcv a b p) p.subs (parts_fact (.rcv a b p)).pf (hv _ ho) (ih ho'.2)
  | tau p ih =>
    intro ho
    have ho' := ho
    simp only [Tm.ok] at ho'
    exact visit1 CF caps bn I hF hI hB _ _ _ _ (.tau p) p.subs (parts_fact (.tau p)).pf (hv _ ho) (ih ho')
  | own x p ih =>
    intro ho
    have ho' := ho
    simp only [Tm.ok, Bool.and_eq_true] at ho'
    exact visit1 CF caps bn I hF hI hB _ _ _ _ (.own x p) p.subs (parts_fact (.own x p)).pf (hv _ ho) (ih ho'.2)
  | mat a b p ih =>
    intro ho
    have ho' := ho
    simp only [Tm.ok, Bool.and_eq_true] at ho'
    exact visit1 CF caps bn I hF hI hB _ _ _ _ (.mat a b p) p.subs (parts_fact (.mat a b p)).pf (hv _ ho) (ih ho'.2)
  | rep p ih =>
    intro ho
    have ho' := ho
    simp only [Tm.ok] at ho'
    exact visit1 CF caps bn I hF hI hB _ _ _ _ (.rep p) p.subs (parts_fact (.rep p)).pf (hv _ ho) (ih ho')
  | sum p q ih ih2 =>
    intro ho
    have ho' := ho
    simp only [Tm.ok, Bool.and_eq_true] at ho'
    exact visit2 CF caps bn I hF hI hB _ _ _ _ _ _ (.sum p q) p.subs q.subs (parts_fact (.sum p q)).pf (hv _ ho) (ih ho'.1) (ih2 ho'.2)
  | par p q ih ih2 =>
    intro ho
    have ho' := ho
    simp only [Tm.ok, Bool.and_eq_true] at ho'
    exact visit2 CF caps bn I hF hI hB _ _ _ _ _ _ (.par p q) p.subs q.subs (parts_fact (.par p q)).pf (hv _ ho) (ih ho'.1) (ih2 ho'.2)

theorem lets_snoc {l : List UInt8} {x : UInt8} (h : Lets l) (k : nmL x = true) : Lets (l ++ [x]) := fun c hc => by
  rcases List.mem_append.1 hc with hc | hc
  · exact h c hc
  · simp at hc; subst hc; exact (nmL_iff _).1 k
theorem binds_ok (t : Tm) (ho : t.ok nmL = true) (x : UInt8) (h : t.binds = some x) : nmL x = true := by
  cases t <;> simp_all [Tm.binds, Tm.ok]
theorem b1_any (bn : Nat) (t : Tm) (ho : t.ok nmL = true) (acc : List Tm) (w : World) (h0 : BndI bn acc w) :
    Calls Tryz.prog 131 (#[.iface (tyOf t) (pay t)] ++ #[.pointer (some ⟨bn, 0, none⟩)]) w (VisPost bn (BndI bn) (acc ++ [t]) w) := by
  obtain ⟨hl, Tn, hn⟩ := h0
  have hb := binderOf_any t
  cases hq : t.binds with
  | none =>
    rw [hq] at hb
    refine (b1_no bn _ _ hb w).mono ?_
    rintro e w' ⟨he, bl⟩
    have e1 : (acc ++ [t]).filterMap Tm.binds = acc.filterMap Tm.binds := by simp [hq]
    exact ⟨he, ⟨by rw [e1]; exact hl, Tn, by rw [e1]; exact (bl.block bn (lt_of_block hn)).trans hn⟩, (Only.refl bn w).below bl⟩
  | some x =>
    rw [hq] at hb
    refine (b1_yes bn _ _ x _ (binds_ok t ho x hq) hl hb w Tn hn).mono ?_
    rintro e w' ⟨he, h1, h2⟩
    have e1 : (acc ++ [t]).filterMap Tm.binds = acc.filterMap Tm.binds ++ [x] := by simp [hq]
    exact ⟨he, ⟨by rw [e1]; exact lets_snoc hl (binds_ok t ho x hq), Tn, by rw [e1]; exact h1⟩, h2⟩

set_option maxHeartbeats 2000000 in
theorem boundNames_any (t : Tm) (ho : t.ok nmL = true) : ∀ w, Calls Tryz.prog 72 #[.iface (tyOf t) (pay t)] w fun e w' => e = .returned (.int .u32 (setN t.bnd : Nat)) ∧ Below w.heap.size w w' := by
  intro w
  have HV := Lib.hid (visitAll_ok 131 #[.pointer (some ⟨w.heap.size, 0, none⟩)] w.heap.size (BndI w.heap.size) cf_b1
    (fun acc w1 w' h bl => by
      obtain ⟨hl, Tn, hn⟩ := h
      exact ⟨hl, Tn, (bl.block _ (lt_of_block hn)).trans hn⟩)
    (fun acc w1 h => by obtain ⟨_, Tn, hn⟩ := h; exact lt_of_block hn)
    (fun t ho acc w1 h => b1_any _ t ho acc w1 h) t ho)
  have H0 : Hid (∀ T1, BndI w.heap.size [] (w.alloc (.cells #[.int .u32 0] T1))) :=
    fun T1 => ⟨lets_nil0, T1, new_block0 _ _⟩
  have HS := Lib.hid (subs_bnd t)
  obtain ⟨T, hT⟩ : ∃ T, T = tyOf t := ⟨_, rfl⟩
  obtain ⟨V, hV⟩ : ∃ V, V = pay t := ⟨_, rfl⟩
  obtain ⟨N, hN⟩ : ∃ N, N = ((setN t.bnd : Nat) : Int) := ⟨_, rfl⟩
  rw [← hT, ← hV] at HV ⊢
  rw [← hN]
  have HN := Lib.hid hN
  clear hT hV hN ho
  go_enter Tryz.func72, Tryz.ntmps72
  go_wp2_with fail
  refine ((HV.out) [] _ (H0.out _)).mono ?_
  rintro e w1 ⟨rfl, ⟨_, Tn, hn⟩, o1⟩
  rw [List.nil_append, HS.out, ← HN.out] at hn
  have cn := cellOf1 hn
  go_wp2_with fail
  go_ret
  exact ⟨rfl, Below.only ((Below.refl _ _).alloc (Nat.le_refl _) _) o1 (by omega) (by simp)⟩

end Go.Proofs.YtmfmagfgcdaeeaaGreat.T1

/- No name is bound twice, or bound and free, in the specification and in the program. -/
namespace Go.Proofs.YtmfmagfgcdaeeaaGreat.T1
open Go.RowKit
set_option maxRecDepth 100000
set_option linter.unusedVariables false

instance wellN_dec (t : Tm) : Decidable t.wellN := by unfold Tm.wellN; infer_instance
theorem inB_iff (s : ByteArray) (c : UInt8) : inB s (c.toNat : Int) = decide (c ∈ s.data.toList) := by
  rw [Bool.eq_iff_iff, decide_eq_true_iff]
  unfold inB
  rw [List.any_eq_true]
  constructor
  · rintro ⟨x, hx, h⟩
    have : x = c := u8_ext (by have := eq_of_beq h; omega)
    rw [← this]; exact hx
  · intro h; exact ⟨c, h, by simp⟩
/-- The first names, seen alone, are well named. -/
def wellK (t : Tm) (k : Nat) : Prop := (t.bnd.take k).Nodup ∧ ∀ x ∈ t.bnd.take k, x ∉ t.free
theorem wellK_step (t : Tm) (k : Nat) (h : k < t.bnd.length) (h0 : wellK t k) (h1 : t.bnd[k] ∉ t.free) (h2 : t.bnd[k] ∉ t.bnd.take k) : wellK t (k + 1) := by
  unfold wellK
  rw [List.take_succ_eq_append_getElem h]
  refine ⟨List.nodup_append.2 ⟨h0.1, by simp, ?_⟩, ?_⟩
  · rintro a ha b hb rfl
    simp at hb; subst hb; exact h2 ha
  · intro x hx
    rcases List.mem_append.1 hx with hx | hx
    · exact h0.2 x hx
    · simp at hx; subst hx; exact h1
theorem wellK_free (t : Tm) (k : Nat) (h : k < t.bnd.length) (h1 : t.bnd[k] ∈ t.free) : ¬ t.wellN := fun hw => hw.2 _ (List.getElem_mem h) h1
theorem wellK_twice (t : Tm) (k : Nat) (h : k < t.bnd.length) (h2 : t.bnd[k] ∈ t.bnd.take k) : ¬ t.wellN := fun hw => by
  have h3 := hw.1
  rw [← List.take_append_drop k t.bnd, List.nodup_append] at h3
  exact h3.2.2 _ h2 _ (by rw [List.drop_eq_getElem_cons h]; exact List.mem_cons_self) rfl
theorem wellK_all (t : Tm) (k : Nat) (h : t.bnd.length ≤ k) (h0 : wellK t k) : t.wellN := by
  unfold wellK at h0
  rw [List.take_of_length_le h] at h0
  exact h0
theorem bnd_at (t : Tm) (k : Nat) (h : k < (B t.bnd).size) : (B t.bnd)[k]'h = t.bnd[k]'(by rw [B_size] at h; exact h) := byte_of (B_list _) k h (by rw [B_size] at h; exact h)
theorem bnd_ext (t : Tm) (k : Nat) : ((B t.bnd).extract 0 k).data.toList = t.bnd.take k := by
  rw [ByteArray.data_extract, Array.toList_extract, B_list]; simp [List.extract_eq_take_drop]

set_option maxHeartbeats 2000000 in
theorem specWell (s : ByteArray) (t : Tm) (hbl : t.bnd.length ≤ 300) (HG : ∀ w, Calls Tryz.prog 66 #[.string s] w fun e w' => e = .returned (.bool true) ∧ Below w.heap.size w w') (HN : ∀ w, Calls Tryz.prog 78 #[.string s] w fun e w' => e = .returned (.string (B t.bnd)) ∧ Below w.heap.size w w') (HF : ∀ w, Calls Tryz.prog 68 #[.string s] w fun e w' => e = .returned (.string (B t.free)) ∧ Below w.heap.size w w') (w : World) :
    Calls Tryz.prog 18 #[.string s] w fun e w' => e = .returned (.tuple #[.bool (decide t.wellN), .bool true]) ∧ Below w.heap.size w w' := by
  have hIF := fun c w => tmIn_any (B t.free) c w (by rw [B_size]; have := srt_len (srt_free t); omega)
  have hIB := fun k c w => tmIn_any ((B t.bnd).extract 0 k) c w (by simp; rw [B_size]; omega)
  obtain ⟨X, hX⟩ : ∃ X, X = B t.bnd := ⟨_, rfl⟩
  obtain ⟨Y, hY⟩ : ∃ Y, Y = B t.free := ⟨_, rfl⟩
  rw [← hX] at hIB HN
  rw [← hY] at hIF HF
  have hXs : X.size = t.bnd.length := by rw [hX, B_size]
  have hat : Hid (∀ k (h : k < X.size) (h' : k < t.bnd.length), X[k]'h = t.bnd[k]'h') := by subst hX; exact fun k h h' => bnd_at t k h
  have hex : Hid (∀ k, (X.extract 0 k).data.toList = t.bnd.take k) := by subst hX; exact fun k => bnd_ext t k
  have hYl : Hid (Y.data.toList = t.free) := by subst hY; rfl
  have HG' := Lib.hid HG
  have HN' := Lib.hid HN
  have HF' := Lib.hid HF
  have HIF := Lib.hid hIF
  have HIB := Lib.hid hIB
  have hsz : X.size ≤ 300 := by omega
  have HXS := Lib.hid hXs
  clear HG HN HF hIF hIB hX hY hbl hXs
  go_enter Tryz.func18, Tryz.ntmps18
  go_wp2_with fail
  refine (HG'.out _).mono ?_
  rintro e w1 ⟨rfl, b1⟩
  go_wp2_with fail
  refine (HN'.out _).mono ?_
  rintro e w2 ⟨rfl, b2⟩
  have bl2 := below_trans b1 b2 b1.size
  go_wp2_with fail
  refine (HF'.out _).mono ?_
  rintro e w3 ⟨rfl, b3⟩
  have bl3 := below_trans bl2 b3 bl2.size
  go_wp2_with fail
  go_loopw [6] (fun v wr => ∃ k : Nat, k ≤ X.size ∧ v = .int .i64 (k : Int) ∧ Hid (wellK t k) ∧ Below w.heap.size w wr) (fun v _ => X.size - (intOf v).toNat)
  case atStart => exact ⟨0, Nat.zero_le _, rfl, ⟨by simp, by simp⟩, bl3⟩
  case round =>
    obtain ⟨k, hk, rfl, H, hbw⟩ := hrel
    by_cases hlt : k < X.size
    · have hlt' := Lib.hid hlt
      have hkb : k < t.bnd.length := by have := HXS.out; omega
      have e1 := hat.out k hlt hkb
      have q1 : inB Y ((X[k]'hlt).toNat : Int) = decide (t.bnd[k]'hkb ∈ t.free) := by rw [inB_iff, hYl.out, e1]
      have q2 : inB (X.extract 0 k) ((X[k]'hlt).toNat : Int) = decide (t.bnd[k]'hkb ∈ t.bnd.take k) := by rw [inB_iff, hex.out, e1]
      have HC1 : Hid (∀ w, Calls Tryz.prog 69 #[.string Y, .int .u8 ((X[k]'hlt).toNat : Int)] w fun e w' => e = .returned (.bool (decide (t.bnd[k]'hkb ∈ t.free))) ∧ w = w') := fun w => by rw [← q1]; exact HIF.out _ w
      have HC2 : Hid (∀ w, Calls Tryz.prog 69 #[.string (X.extract 0 k), .int .u8 ((X[k]'hlt).toNat : Int)] w fun e w' => e = .returned (.bool (decide (t.bnd[k]'hkb ∈ t.bnd.take k))) ∧ w = w') := fun w => by rw [← q2]; exact HIB.out _ _ w
      have hby : (X[k]'hlt).toNat < 256 := (X[k]'hlt).toNat_lt
      by_cases d1 : t.bnd[k]'hkb ∈ t.free
      · have hno := Lib.hid (wellK_free t k hkb d1)
        rw [decide_eq_true d1] at HC1
        clear d1 HC2 q1 q2 e1
        go_wp2_with fail
        go_quiet ((go_at_call_of 69 Y; exact Calls.quiet_of_same ((HC1.out _).mono fun _ _ hh => ⟨hh.1, hh.2.symm⟩)))
        go_wp2_with fail
        go_ret2
        exact ⟨by rw [decide_eq_false hno.out]; rfl, below_drewN' hbw _⟩
      · rw [decide_eq_false d1] at HC1
        by_cases d2 : t.bnd[k]'hkb ∈ t.bnd.take k
        · have hno := Lib.hid (wellK_twice t k hkb d2)
          rw [decide_eq_true d2] at HC2
          clear d1 d2 q1 q2 e1
          go_wp2_with fail
          go_quiet (first | (go_at_call_of 69 Y; exact Calls.quiet_of_same ((HC1.out _).mono fun _ _ hh => ⟨hh.1, hh.2.symm⟩)) | (go_at_call 69; exact Calls.quiet_of_same ((HC2.out _).mono fun _ _ hh => ⟨hh.1, hh.2.symm⟩)))
          go_wp2_with fail
          go_ret2
          exact ⟨by rw [decide_eq_false hno.out]; rfl, below_drewN' hbw _⟩
        · have H' := Lib.hid (wellK_step t k hkb H.out d1 d2)
          rw [decide_eq_false d2] at HC2
          clear d1 d2 q1 q2 e1
          go_wp2_with fail
          go_quiet (first | (go_at_call_of 69 Y; exact Calls.quiet_of_same ((HC1.out _).mono fun _ _ hh => ⟨hh.1, hh.2.symm⟩)) | (go_at_call 69; exact Calls.quiet_of_same ((HC2.out _).mono fun _ _ hh => ⟨hh.1, hh.2.symm⟩)))
          go_wp2_with fail
          go_roundw
          case rel => exact ⟨k + 1, by omega, by go_num, H', below_drewN' hbw _⟩
          case measure => simp [intOf]; omega
    · have hyes := Lib.hid (wellK_all t k (by have := HXS.out; omega) H.out)
      go_wp2_with fail
      go_ret2
      exact ⟨by rw [decide_eq_true hyes.out]; rfl, hbw⟩

set_option maxHeartbeats 2000000 in
theorem implWell (s : ByteArray) (T : TypeId) (V : Value) (Bi Fi : Int) (K L : Nat) (xs : List Value) (hK : K ≤ 1000) (hL : L ≤ 1000) (HP : ∀ w, Calls Tryz.prog 59 #[.string s] w fun e w' => e = .returned (.tuple #[.iface T V, .bool true]) ∧ Below w.heap.size w w') (HB : ∀ w, Calls Tryz.prog 72 #[.iface T V] w fun e w' => e = .returned (.int .u32 Bi) ∧ Below w.heap.size w w') (HI : ∀ w, Calls Tryz.prog 62 #[.iface T V] w fun e w' => e = .returned (.int .i64 (K : Int)) ∧ Below w.heap.size w w')
    (HL : ∀ w, Calls Tryz.prog 73 #[.int .u32 Bi] w fun e w' => ∃ v, e = .returned v ∧ w'.ownsRow w.heap.size 5 1 v L xs ∧ Below w.heap.size w w') (HF : ∀ w, Calls Tryz.prog 60 #[.iface T V] w fun e w' => e = .returned (.int .u32 Fi) ∧ Below w.heap.size w w') (w : World) :
    Calls Tryz.prog 12 #[.string s] w fun e w' => e = .returned (.tuple #[.bool (decide (K = L) && (bits .and .u32 Bi Fi == 0)), .bool true]) ∧ Below w.heap.size w w' := by
  have HP' := Lib.hid HP
  have HB' := Lib.hid HB
  have HI' := Lib.hid HI
  have HL' := Lib.hid HL
  have HF' := Lib.hid HF
  clear HP HB HI HL HF
  go_enter Tryz.func12, Tryz.ntmps12
  go_wp2_with fail
  refine (HP'.out _).mono ?_
  rintro e w1 ⟨rfl, b1⟩
  go_wp2_with fail
  refine (HB'.out _).mono ?_
  rintro e w2 ⟨rfl, b2⟩
  have bl2 := below_trans b1 b2 b1.size
  go_wp2_with fail
  refine (HI'.out _).mono ?_
  rintro e w3 ⟨rfl, b3⟩
  have bl3 := below_trans bl2 b3 bl2.size
  go_wp2_with fail
  refine (HL'.out _).mono ?_
  rintro e w4 ⟨v, rfl, ho, b4⟩
  have bl4 := below_trans bl3 b4 bl3.size
  clear b1 b2 b3 b4
  have hv : ∃ a c, v = .slice a L c := by
    rcases ho.2 with ⟨rfl, rfl⟩ | ⟨g, cap, cur, rfl, _⟩
    · exact ⟨_, _, rfl⟩
    · exact ⟨_, _, rfl⟩
  clear ho
  obtain ⟨a, c, rfl⟩ := hv
  by_cases hq : K = L
  · have q1 : ((K : Int) == (L : Int)) = true := by simp [hq]
    have hd := Lib.hid (decide_eq_true hq)
    clear hq
    go_wp2_with fail
    refine (HF'.out _).mono ?_
    rintro e w5 ⟨rfl, b5⟩
    have bl5 := below_trans bl4 b5 bl4.size
    go_wp2_with fail
    go_ret2
    exact ⟨by rw [hd.out, Bool.true_and]; rfl, bl5⟩
  · have q1 : ((K : Int) == (L : Int)) = false := by rw [beq_eq_false_iff_ne]; omega
    have hd := Lib.hid (decide_eq_false hq)
    clear hq
    go_wp2_with fail
    go_ret2
    exact ⟨by rw [hd.out, Bool.false_and]; rfl, bl4⟩

end Go.Proofs.YtmfmagfgcdaeeaaGreat.T1

/- What IsWellNamed answers on both sides. No conditions. -/
namespace Go.Proofs.YtmfmagfgcdaeeaaGreat
namespace LawIsWellNamed
open Go.ChangeShapes Go.WideShapes Go.ChangeAt Go.RowKit Go.Proofs.YtmfmagfgcdaeeaaGreat.T1
open Go.ChangeMaps (open_string shut_string)
set_option linter.unusedVariables false

theorem spec_none (s : ByteArray) (hg : good s.data.toList = none) (hm : s.size ≤ 9223372036854775807) (w : World) : Calls Tryz.prog 18 #[.string s] w fun e w' => e = .returned (.tuple #[.bool false, .bool false]) ∧ Below w.heap.size w w' := by
  have H := Lib.hid (tmGood_none hg w hm)
  clear hg
  go_enter Tryz.func18, Tryz.ntmps18
  go_wp2_with fail
  refine (H.out).mono ?_
  rintro e w1 ⟨rfl, bl⟩
  go_wp2_with fail
  go_ret2
  exact ⟨rfl, bl⟩
theorem impl_none (s : ByteArray) (hg : good s.data.toList = none) (hm : s.size ≤ 9223372036854775807) (w : World) : Calls Tryz.prog 12 #[.string s] w fun e w' => e = .returned (.tuple #[.bool false, .bool false]) ∧ Below w.heap.size w w' := by
  have H := Lib.hid (parse_none hg w hm)
  clear hg
  go_enter Tryz.func12, Tryz.ntmps12
  go_wp2_with fail
  refine (H.out).mono ?_
  rintro e w1 ⟨rfl, bl⟩
  go_wp2_with fail
  go_ret2
  exact ⟨rfl, bl⟩
set_option maxHeartbeats 1000000 in
theorem spec_some (s : ByteArray) (t : Tm) (hg : good s.data.toList = some t) (hm : s.size ≤ 9223372036854775807) (w : World) : Calls Tryz.prog 18 #[.string s] w fun e w' => e = .returned (.tuple #[.bool (decide t.wellN), .bool true]) ∧ Below w.heap.size w w' := by
  have H := Lib.hid (tmGood_some hg w hm)
  obtain ⟨es, hL, hE, h300, h60⟩ := good_S hg
  have HS := specWell s t (by have := bnd_pr t; omega) (tmGood_some hg · hm) (by rw [es]; exact tmBinders_any t hE (by omega)) (by rw [es]; exact tmFree_any t hE (by omega)) w
  exact HS

set_option maxHeartbeats 1000000 in
theorem impl_some (s : ByteArray) (t : Tm) (hg : good s.data.toList = some t) (hm : s.size ≤ 9223372036854775807) (w : World) : Calls Tryz.prog 12 #[.string s] w fun e w' => e = .returned (.tuple #[.bool (decide t.wellN), .bool true]) ∧ Below w.heap.size w w' := by
  have H := Lib.hid (parse_some hg w hm)
  obtain ⟨es, hL, hE, h300, h60⟩ := good_S hg
  have hB := letters_any (setN t.bnd) (setN_lt32 _ (lets_bnd t hL))
  rw [← setN_nilboth _ (lets_bnd t hL), lets_setN _ (srt_bothL _ srt_nil) (lets_bothL lets_nil0 (lets_bnd t hL)), setN_nilboth _ (lets_bnd t hL)] at hB
  have hbl := bnd_len t
  have hb2 := srt_len (srt_bothL t.bnd srt_nil)
  have HS := implWell s _ _ _ _ _ _ _ (by omega) (by omega) (parse_some hg · hm) (boundNames_any t hL) (bindersIn_any t (by omega)) hB (freeNames_any t hL) w
  rw [and32 _ _ (setN_lt32 _ (lets_bnd t hL)) (setN_lt32 _ (lets_free t hL))] at HS
  rw [show decide t.wellN = (decide (t.bnd.length = (bothL [] t.bnd).length) && (((setN t.bnd &&& setN t.free : Nat) : Int) == 0)) from by
    rw [Bool.eq_iff_iff, decide_eq_true_iff, wellN_iff t hL, Bool.and_eq_true, decide_eq_true_iff]
    refine and_congr_right fun _ => ?_
    constructor
    · intro h; rw [h]; rfl
    · intro h; have := eq_of_beq h; omega]
  exact HS
end LawIsWellNamed
end Go.Proofs.YtmfmagfgcdaeeaaGreat

/-
  DERIVED: THE SHELF's CONTRACTS AT THIS DUMP, IN PLAIN WORDS (tools/lay-plain.mjs out of 'TryzShelf.lean', which tools/lay-shelf.mjs wrote): THE SAME DECLARATIONS UNDER THE SAME NAMES: 'import', 'namespace', 'open', 'def', 'theorem' AND NOTHING ELSE: no command of the shelf's: FOR A HAND-IN. Each laying: the table of numbers ('.._ren') and one theorem, a field a fact of the dump's own or the kernel's comparison; each contract: ONE APPLICATION.
-/
namespace Go.Proofs
open Go.Shelf
def Tryz.lays128_ren : Go.Shelf.Ren := ⟨fun | 128 => 173 | n => n, fun | 51 => 46 | 3 => 3 | 4 => 4 | 46 => 135 | 5 => 5 | 9 => 9 | n => n, fun | n => n⟩
theorem Tryz.lays128 : Go.Proofs.Lays.n128 Tryz.prog Tryz.lays128_ren := {
  mixed := by kernel_rfl
  f128 := Tryz.func173.trans (congrArg some (by kernel_rfl))
  t3 := Tryz.underlying3
  a3 := Tryz.isAgg3
  z3 := Tryz.sizeOf3
  v3 := Tryz.zeroValue3
  t4 := Tryz.underlying4
  a4 := Tryz.isAgg4
  z4 := Tryz.sizeOf4
  v4 := Tryz.zeroValue4
  t5 := Tryz.underlying5
  a5 := Tryz.isAgg5
  z5 := Tryz.sizeOf5
  v5 := Tryz.zeroValue5
  t9 := Tryz.underlying9
  a9 := Tryz.isAgg9
  z9 := Tryz.sizeOf9
  v9 := Tryz.zeroValue9
  t46 := Tryz.underlying135
  a46 := Tryz.isAgg135
  z46 := Tryz.sizeOf135
  v46 := Tryz.zeroValue135
  t51 := Tryz.underlying46
  a51 := Tryz.isAgg46
  z51 := Tryz.sizeOf46
  v51 := Tryz.zeroValue46 }
/-- bits.Len32: "Len32 returns the minimum number of bits required to represent x; the result is 0 for x == 0.": IT RETURNS 'Lib.bitLen x'; the world is as it was. ('h0', 'h1': x is a uint32.) (LAID: no walk: one application.) -/
theorem Tryz.bits_Len32 (x : Int) (w : World) (h0 : 0 ≤ x) (h1 : x ≤ 4294967295) :
    Calls Tryz.prog 173 #[.int .u32 x] w fun e w' => e = .returned (.int .i64 (Lib.bitLen x.toNat)) ∧ w' = w := Any.bits_Len32 Tryz.lays128 x w h0 h1
def Tryz.lays125_ren : Go.Shelf.Ren := ⟨fun | 125 => 145 | 128 => 173 | 129 => 174 | n => n, fun | 46 => 135 | 3 => 3 | 51 => 46 | 53 => 61 | 4 => 4 | 5 => 5 | 9 => 9 | n => n, fun | n => n⟩
theorem Tryz.lays125 : Go.Proofs.Lays.n125 Tryz.prog Tryz.lays125_ren := {
  mixed := by kernel_rfl
  f125 := Tryz.func145.trans (congrArg some (by kernel_rfl))
  f128 := Tryz.func173.trans (congrArg some (by kernel_rfl))
  f129 := Tryz.func174.trans (congrArg some (by kernel_rfl))
  t3 := Tryz.underlying3
  a3 := Tryz.isAgg3
  z3 := Tryz.sizeOf3
  v3 := Tryz.zeroValue3
  t4 := Tryz.underlying4
  a4 := Tryz.isAgg4
  z4 := Tryz.sizeOf4
  v4 := Tryz.zeroValue4
  t5 := Tryz.underlying5
  a5 := Tryz.isAgg5
  z5 := Tryz.sizeOf5
  v5 := Tryz.zeroValue5
  t9 := Tryz.underlying9
  a9 := Tryz.isAgg9
  z9 := Tryz.sizeOf9
  v9 := Tryz.zeroValue9
  t46 := Tryz.underlying135
  a46 := Tryz.isAgg135
  z46 := Tryz.sizeOf135
  v46 := Tryz.zeroValue135
  t51 := Tryz.underlying46
  a51 := Tryz.isAgg46
  z51 := Tryz.sizeOf46
  v51 := Tryz.zeroValue46
  t53 := Tryz.underlying61
  a53 := Tryz.isAgg61
  z53 := Tryz.sizeOf61
  v53 := Tryz.zeroValue61 }
/-- bits.Len: "Len returns the minimum number of bits required to represent x; the result is 0 for x == 0.": IT RETURNS 'Lib.bitLen x'; the world is as it was. (A uint has 64 bits in the model.) ITS CALLEE bits.Len64 IS MET BY ITS OWN CONTRACT OFF THE SHELF (lay that first). (LAID: no walk: one application.) -/
theorem Tryz.bits_Len (x : Int) (w : World) (h0 : 0 ≤ x) (h1 : x ≤ 18446744073709551615) :
    Calls Tryz.prog 145 #[.int .u64 x] w fun e w' => e = .returned (.int .i64 (Lib.bitLen x.toNat)) ∧ w' = w := Any.bits_Len Tryz.lays125 x w h0 h1
def Tryz.lays129_ren : Go.Shelf.Ren := ⟨fun | 129 => 174 | n => n, fun | 53 => 61 | 3 => 3 | 4 => 4 | 46 => 135 | 5 => 5 | 9 => 9 | n => n, fun | n => n⟩
theorem Tryz.lays129 : Go.Proofs.Lays.n129 Tryz.prog Tryz.lays129_ren := {
  mixed := by kernel_rfl
  f129 := Tryz.func174.trans (congrArg some (by kernel_rfl))
  t3 := Tryz.underlying3
  a3 := Tryz.isAgg3
  z3 := Tryz.sizeOf3
  v3 := Tryz.zeroValue3
  t4 := Tryz.underlying4
  a4 := Tryz.isAgg4
  z4 := Tryz.sizeOf4
  v4 := Tryz.zeroValue4
  t5 := Tryz.underlying5
  a5 := Tryz.isAgg5
  z5 := Tryz.sizeOf5
  v5 := Tryz.zeroValue5
  t9 := Tryz.underlying9
  a9 := Tryz.isAgg9
  z9 := Tryz.sizeOf9
  v9 := Tryz.zeroValue9
  t46 := Tryz.underlying135
  a46 := Tryz.isAgg135
  z46 := Tryz.sizeOf135
  v46 := Tryz.zeroValue135
  t53 := Tryz.underlying61
  a53 := Tryz.isAgg61
  z53 := Tryz.sizeOf61
  v53 := Tryz.zeroValue61 }
/-- bits.Len64: "Len64 returns the minimum number of bits required to represent x; the result is 0 for x == 0.": IT RETURNS 'Lib.bitLen x'; the world is as it was. ('h0', 'h1': x is a uint64.) (LAID: no walk: one application.) -/
theorem Tryz.bits_Len64 (x : Int) (w : World) (h0 : 0 ≤ x) (h1 : x ≤ 18446744073709551615) :
    Calls Tryz.prog 174 #[.int .u64 x] w fun e w' => e = .returned (.int .i64 (Lib.bitLen x.toNat)) ∧ w' = w := Any.bits_Len64 Tryz.lays129 x w h0 h1
def Tryz.lays190_ren : Go.Shelf.Ren := ⟨fun | 190 => 93 | 125 => 145 | 258 => 144 | 128 => 173 | 129 => 174 | 302 => 164 | 303 => 165 | 304 => 166 | 305 => 167 | 306 => 168 | 307 => 169 | 308 => 170 | 309 => 171 | 310 => 172 | 333 => 191 | 329 => 192 | 330 => 193 | 334 => 194 | 335 => 195 | 336 => 196 | 344 => 203 | n => n, fun | 31 => 36 | 9 => 9 | 3 => 3 | 46 => 135 | 0 => 0 | 51 => 46 | 53 => 61 | 4 => 4 | 183 => 158 | 182 => 157 | 131 => 33 | 5 => 5 | 218 => 177 | 222 => 181 | 228 => 187 | 229 => 188 | n => n, fun | n => n⟩
theorem Tryz.lays190 : Go.Proofs.Lays.n190 Tryz.prog Tryz.lays190_ren := {
  mixed := by kernel_rfl
  f125 := Tryz.func145.trans (congrArg some (by kernel_rfl))
  f128 := Tryz.func173.trans (congrArg some (by kernel_rfl))
  f129 := Tryz.func174.trans (congrArg some (by kernel_rfl))
  f190 := Tryz.func93.trans (congrArg some (by kernel_rfl))
  f258 := Tryz.func144.trans (congrArg some (by kernel_rfl))
  f302 := Tryz.func164.trans (congrArg some (by kernel_rfl))
  f303 := Tryz.func165.trans (congrArg some (by kernel_rfl))
  f304 := Tryz.func166.trans (congrArg some (by kernel_rfl))
  f305 := Tryz.func167.trans (congrArg some (by kernel_rfl))
  f306 := Tryz.func168.trans (congrArg some (by kernel_rfl))
  f307 := Tryz.func169.trans (congrArg some (by kernel_rfl))
  f308 := Tryz.func170.trans (congrArg some (by kernel_rfl))
  f309 := Tryz.func171.trans (congrArg some (by kernel_rfl))
  f310 := Tryz.func172.trans (congrArg some (by kernel_rfl))
  f329 := Tryz.func192.trans (congrArg some (by kernel_rfl))
  f330 := Tryz.func193.trans (congrArg some (by kernel_rfl))
  f333 := Tryz.func191.trans (congrArg some (by kernel_rfl))
  f334 := Tryz.func194.trans (congrArg some (by kernel_rfl))
  f335 := Tryz.func195.trans (congrArg some (by kernel_rfl))
  f336 := Tryz.func196.trans (congrArg some (by kernel_rfl))
  f344 := Tryz.func203.trans (congrArg some (by kernel_rfl))
  t0 := Tryz.underlying0
  a0 := Tryz.isAgg0
  z0 := Tryz.sizeOf0
  v0 := Tryz.zeroValue0
  t3 := Tryz.underlying3
  a3 := Tryz.isAgg3
  z3 := Tryz.sizeOf3
  v3 := Tryz.zeroValue3
  t4 := Tryz.underlying4
  a4 := Tryz.isAgg4
  z4 := Tryz.sizeOf4
  v4 := Tryz.zeroValue4
  t5 := Tryz.underlying5
  a5 := Tryz.isAgg5
  z5 := Tryz.sizeOf5
  v5 := Tryz.zeroValue5
  t9 := Tryz.underlying9
  a9 := Tryz.isAgg9
  z9 := Tryz.sizeOf9
  v9 := Tryz.zeroValue9
  t31 := Tryz.underlying36
  a31 := Tryz.isAgg36
  z31 := Tryz.sizeOf36
  v31 := Tryz.zeroValue36
  t46 := Tryz.underlying135
  a46 := Tryz.isAgg135
  z46 := Tryz.sizeOf135
  v46 := Tryz.zeroValue135
  t51 := Tryz.underlying46
  a51 := Tryz.isAgg46
  z51 := Tryz.sizeOf46
  v51 := Tryz.zeroValue46
  t53 := Tryz.underlying61
  a53 := Tryz.isAgg61
  z53 := Tryz.sizeOf61
  v53 := Tryz.zeroValue61
  t131 := Tryz.underlying33
  a131 := Tryz.isAgg33
  z131 := Tryz.sizeOf33
  v131 := Tryz.zeroValue33
  t182 := Tryz.underlying157
  a182 := Tryz.isAgg157
  z182 := Tryz.sizeOf157
  v182 := Tryz.zeroValue157
  t183 := Tryz.underlying158
  a183 := Tryz.isAgg158
  z183 := Tryz.sizeOf158
  v183 := Tryz.zeroValue158
  t218 := Tryz.underlying177
  a218 := Tryz.isAgg177
  z218 := Tryz.sizeOf177
  v218 := Tryz.zeroValue177
  t222 := Tryz.underlying181
  a222 := Tryz.isAgg181
  z222 := Tryz.sizeOf181
  v222 := Tryz.zeroValue181
  t228 := Tryz.underlying187
  a228 := Tryz.isAgg187
  z228 := Tryz.sizeOf187
  v228 := Tryz.zeroValue187
  t229 := Tryz.underlying188
  a229 := Tryz.isAgg188
  z229 := Tryz.sizeOf188
  v229 := Tryz.zeroValue188 }
open Go.Sort Go.RowKit in
theorem Tryz.slices_Sort_string (blk off cap : Nat) (ss : List (List UInt8)) (w : World) (hH : Holds encStr w blk off ss.toArray) (hblk : blk < w.heap.size) (hsz : ss.length < 4611686018427387904) :
    Calls Tryz.prog 93 #[.slice (some ⟨blk, off, none⟩) ss.length cap] w fun e w' =>
      e = .returned (.tuple #[]) ∧ ∃ n os, w' = grow (putRow encStr (Sort.ahead w n) blk off (ss.mergeSort fun x y => decide (x ≤ y)).toArray) os := Any.slices_Sort_string Tryz.lays190 blk off cap ss w hH hblk hsz
open Go.RowKit Go.Sort in
/-- .. and plain. (LAID: no walk: one application.) -/
theorem Tryz.slices_Sort_string_none (p : Option Addr) (cap : Nat) (w : World) :
    Calls Tryz.prog 93 #[.slice p 0 cap] w fun e w' => e = .returned (.tuple #[]) ∧ w' = w := Any.slices_Sort_string_none Tryz.lays190 p cap w
def Tryz.laysRev_ren : Go.Shelf.Ren := ⟨fun | 35 => 205 | n => n, fun | 22 => 22 | 23 => 5 | 3 => 3 | 4 => 4 | 0 => 0 | n => n, fun | n => n⟩
theorem Tryz.laysRev : Go.Proofs.SlLaysE.n35 Tryz.prog Tryz.laysRev_ren := {
  mixed := by kernel_rfl
  f35 := ⟨Tryz.f205.name, by decide, Tryz.func205.trans (congrArg some (by kernel_rfl))⟩
  t0 := Tryz.underlying0
  a0 := Tryz.isAgg0
  z0 := Tryz.sizeOf0
  v0 := Tryz.zeroValue0
  t3 := Tryz.underlying3
  a3 := Tryz.isAgg3
  z3 := Tryz.sizeOf3
  v3 := Tryz.zeroValue3
  t4 := Tryz.underlying4
  a4 := Tryz.isAgg4
  z4 := Tryz.sizeOf4
  v4 := Tryz.zeroValue4
  t22 := Tryz.underlying22
  a22 := Tryz.isAgg22
  z22 := Tryz.sizeOf22
  v22 := Tryz.zeroValue22
  a23 := Tryz.isAgg5
  z23 := Tryz.sizeOf5 }
def Tryz.laysCln_ren : Go.Shelf.Ren := ⟨fun | 41 => 198 | n => n, fun | 22 => 22 | 23 => 5 | 4 => 4 | n => n, fun | n => n⟩
theorem Tryz.laysCln : Go.Proofs.SlLaysE0.n41 Tryz.prog Tryz.laysCln_ren := {
  mixed := by kernel_rfl
  f41 := ⟨Tryz.f198.name, by decide, Tryz.func198.trans (congrArg some (by kernel_rfl))⟩
  t4 := Tryz.underlying4
  a4 := Tryz.isAgg4
  z4 := Tryz.sizeOf4
  v4 := Tryz.zeroValue4
  t22 := Tryz.underlying22
  a22 := Tryz.isAgg22
  z22 := Tryz.sizeOf22
  v22 := Tryz.zeroValue22 }
end Go.Proofs

/- A row of one's own with another one behind it. -/
namespace Go.Proofs.YtmfmagfgcdaeeaaGreat.T1
open Go.RowKit

theorem own_cells {w : World} {base : Nat} {e : TypeId} {g n cap : Nat} {xs : List Value} (h : w.ownsRow base e 1 (.slice (some ⟨g, 0, none⟩) n cap) n xs) : ∀ j u, xs[j]? = some u → w.cell? ((⟨g, 0, none⟩ : Addr).add j) = some u := by
  intro j u hj
  rcases h.2 with ⟨h1, _⟩ | ⟨g', cap', cur, h1, _, h3, _, _, _, h7⟩
  · cases h1
  · cases h1
    have hjl : j < xs.length := by
      rcases Nat.lt_or_ge j xs.length with c | c
      · exact c
      · rw [List.getElem?_eq_none c] at hj; cases hj
    have hx := h.1
    have : (cur.toList.take (n * 1))[j]? = some u := by rw [h7]; exact hj
    rw [List.getElem?_take, if_pos (by omega)] at this
    show w.cell? (Addr.add ⟨g, 0, none⟩ j) = some u
    have e2 : (Addr.add ⟨g, 0, none⟩ j) = ⟨g, j, none⟩ := by cases j <;> simp [Addr.add]
    rw [e2]
    simp only [World.cell?, h3]
    simpa using this
theorem wpList_append_rows {P : Program} {w : World} {ops : Array Oper} {rest : List Oper} {o : Oper} {a : Act} {Q : Exit → Act → World → Prop} (hgd : o.guard = none) (s x : Operand) (t : TypeId)
    (ho : o.op = .call { callee := .builtin .append, args := #[s, x], argTypes := #[t, t] })
    (base base2 : Nat) (e : TypeId) (i : TypeInfo) (z : Value) (bytes : Nat) (ht : P.underlying t = some (.slice e)) (hi : P.info? e = some i) (hz : i.zero = some z)
    (hsize : i.size = 1) (hby : i.bytes = bytes) (hzs : z.cells.size = 1)
    (v : Value) (n : Nat) (xs : List Value) (hs : a.eval s = v) (hown : w.ownsRow base e 1 v n xs)
    (v2 : Value) (m : Nat) (ys : List Value) (hx : a.eval x = v2) (hown2 : w.ownsRow base2 e 1 v2 m ys) (h1 : ∀ u ∈ ys, u.oneCell' = true)
    (h63 : n + m ≤ maxLen) (hbytes : (n + m) * bytes ≤ 140737488355328) (hbase : base ≤ w.heap.size)
    (h : ∀ v' w', w'.ownsRow base e 1 v' (n + m) (xs ++ ys) → w.grownBy w' v.ownBlock → (v'.ownBlock = v.ownBlock ∨ v'.ownBlock = some w.heap.size) → wpList P ops Q rest (a.put o.dst v') w') :
    wpList P ops Q (o :: rest) a w := by
  rcases hown2.2 with ⟨e1, e2⟩ | ⟨g, cap, cur, e1, _⟩
  · subst e2
    have hy : ys = [] := by have := hown2.1; simpa using this
    subst hy
    refine wpList_append_own_none hgd s x t ho base e i 1 ht hi v n xs hs hown (hx.trans e1) ?_
    exact h v w (by simpa using hown) ⟨rfl, rfl, rfl, Nat.le_refl _, fun _ _ _ => rfl⟩ (.inl rfl)
  · subst e1
    refine wpList_append_own_at w hgd s x t ho base e i z 1 bytes ht hi hz hsize hby hzs (by decide) v n xs hs hown ⟨g, 0, none⟩ m cap ys hx (by have := hown2.1; omega) (own_cells hown2) h1 h63 hbytes hbase ?_
    intro v' w' a1 a2 _ a3
    exact h v' w' a1 a2 a3
/-- A row of one's own stays while blocks that are not its own change. -/
theorem own_keep {w w' : World} {base n : Nat} {e : TypeId} {v : Value} {xs : List Value} (h : w.ownsRow base e 1 v n xs) (hk : ∀ g, v.ownBlock = some g → w'.heap[g]? = w.heap[g]?) : w'.ownsRow base e 1 v n xs := by
  refine ⟨h.1, h.2.imp id ?_⟩
  rintro ⟨g, cap, cur, hv, h2, h3, h4⟩
  exact ⟨g, cap, cur, hv, h2, (hk g (by rw [hv]; rfl)).trans h3, h4⟩
/-- Rows of different types lie in different blocks. -/
theorem own_apart {w : World} {b1 b2 n m : Nat} {e f : TypeId} {v u : Value} {xs ys : List Value} (hef : e ≠ f) (h : w.ownsRow b1 e 1 v n xs) (k : w.ownsRow b2 f 1 u m ys) (g : Nat) (h1 : v.ownBlock = some g) : u.ownBlock ≠ some g := by
  intro h2
  rcases h.2 with ⟨e1, _⟩ | ⟨g1, c1, r1, e1, _, d1, _⟩
  · rw [e1] at h1; simp [Value.ownBlock] at h1
  · rcases k.2 with ⟨e2, _⟩ | ⟨g2, c2, r2, e2, _, d2, _⟩
    · rw [e2] at h2; simp [Value.ownBlock] at h2
    · rw [e1] at h1; rw [e2] at h2
      simp only [Value.ownBlock, Option.some.injEq] at h1 h2
      subst h1; subst h2
      rw [d1] at d2
      simp only [Option.some.injEq, Obj.cells.injEq] at d2
      exact hef d2.2.1
theorem own_bas2 {w : World} {base b2 n : Nat} {e : TypeId} {v : Value} {xs : List Value} (h : w.ownsRow base e 1 v n xs) (hb : b2 ≤ base) : w.ownsRow b2 e 1 v n xs := by
  refine ⟨h.1, h.2.imp id ?_⟩
  rintro ⟨g, cap, cur, hv, h2, h3⟩
  exact ⟨g, cap, cur, hv, Nat.le_trans hb h2, h3⟩
theorem own_below2 {w w' : World} {base n : Nat} {e : TypeId} {v : Value} {xs : List Value} (h : w.ownsRow base e 1 v n xs) (k : Below w.heap.size w w') : w'.ownsRow base e 1 v n xs :=
  own_keep h fun g hg => k.block g (h.lt g hg).2
theorem own_grown {w w' : World} {base n : Nat} {e : TypeId} {v : Value} {r : Option Nat} {xs : List Value} (h : w.ownsRow base e 1 v n xs) (k : w.grownBy w' r) (hr : ∀ g, v.ownBlock = some g → r ≠ some g) : w'.ownsRow base e 1 v n xs :=
  own_keep h fun g hg => k.block g (h.lt g hg).2 (fun e => hr g hg e.symm)
theorem own_new1 (w : World) (x : Value) (T : TypeId) (base : Nat) (hb : base ≤ w.heap.size) : (w.alloc (.cells #[x] T)).ownsRow base T 1 (.slice (some ⟨w.heap.size, 0, none⟩) 1 1) 1 [x] :=
  ⟨rfl, .inr ⟨w.heap.size, 1, #[x], rfl, hb, heap_alloc_new w _, Nat.le_refl _, by unfold maxLen; omega, rfl, rfl⟩⟩
/-- What grows in a row of one's own leaves what is older. -/
theorem below_grown2 {w0 w w' : World} {r : Option Nat} {B : Nat} (h : Below B w0 w) (k : w.grownBy w' r) (hr : ∀ g, r = some g → B ≤ g) (hB : B ≤ w.heap.size) : Below B w0 w' :=
  ⟨k.os.trans h.os, k.tape.trans h.tape, k.output.trans h.output, Nat.le_trans h.size k.size, fun i hi => (k.block i (by omega) (fun e => by have := hr i e.symm; omega)).trans (h.block i hi)⟩

end Go.Proofs.YtmfmagfgcdaeeaaGreat.T1

/- Rows of texts put in order; rows of bytes cloned, turned and put in order: in the program, by the library's contracts. -/
namespace Go.Proofs.YtmfmagfgcdaeeaaGreat.T1
open Go.RowKit
open Go.Sort (Holds putRow putCells swp ahead)
set_option maxRecDepth 100000
set_option linter.unusedVariables false
set_option linter.unusedSimpArgs false

theorem revC : RevC := fun g k c zs w hH hz => AnyE.slices_Reverse Tryz.laysRev ub (fun _ => rfl) g k c zs w hH (by omega)
/-- A text of a tree as a value. -/
def sv (t : Tm) : Value := .string (S t)
theorem sv_enc (ts : List Tm) : ts.map sv = (ts.map Tm.pr).map encStr := by rw [List.map_map]; rfl
theorem sort_pr (ts : List Tm) : ((ts.map Tm.pr).mergeSort fun x y => decide (x ≤ y)) = (srtT ts).map Tm.pr := by
  unfold srtT
  exact (List.map_mergeSort (r := fun a b : Tm => decide (a.pr ≤ b.pr)) (s := fun x y : List UInt8 => decide (x ≤ y)) (f := Tm.pr) (fun a _ b _ => rfl)).symm
theorem sortT (ts : List Tm) (v : Value) (n base : Nat) (w : World) (h : w.ownsRow base 9 1 v n (ts.map sv)) (hn : n ≤ 1000) :
    Calls Tryz.prog 93 #[v] w fun e w' => e = .returned (.tuple #[]) ∧ w'.ownsRow base 9 1 v n ((srtT ts).map sv) ∧ w.grownBy w' v.ownBlock := by
  have hl := h.1
  rw [List.length_map, Nat.mul_one] at hl
  rcases h.2 with ⟨rfl, rfl⟩ | ⟨g, cap, cur, rfl, h2, h3, h4, h5, h6, h7⟩
  · have ht : ts = [] := List.length_eq_zero_iff.1 hl
    subst ht
    refine (Tryz.slices_Sort_string_none none 0 w).mono ?_
    rintro e w' ⟨rfl, rfl⟩
    refine ⟨rfl, ?_, ⟨rfl, rfl, rfl, Nat.le_refl _, fun _ _ _ => rfl⟩⟩
    have : srtT ([] : List Tm) = [] := List.length_eq_zero_iff.1 (srtT_len [])
    rw [this]; exact h
  · subst hl
    rw [Nat.mul_one, sv_enc] at h7
    have hlen : (ts.map Tm.pr).length = ts.length := List.length_map _
    have hH : Holds encStr w g 0 (ts.map Tm.pr).toArray := holds_block encStr h3 (by rw [hlen]; exact h7)
    have := Tryz.slices_Sort_string g 0 cap (ts.map Tm.pr) w hH (lt_of_block h3) (by rw [hlen]; omega)
    rw [hlen, sort_pr] at this
    refine this.mono ?_
    rintro e w' ⟨rfl, q, os, rfl⟩
    refine ⟨rfl, ?_, grownBy_sorted _⟩
    have h8 := ownsRow_sorted (n := q) (os := os) (ss := ts.map Tm.pr) (ts := (srtT ts).map Tm.pr) (base := base) (g := g) (cap := cap) (cur := cur) (e := 9) (w := w) (by rw [List.length_map, List.length_map, srtT_len]) h2 h3 (by rw [hlen]; exact h4) h5 h6
    rw [hlen, ← sv_enc] at h8
    exact h8
theorem cloneB (fs : List UInt8) (v : Value) (n base : Nat) (w : World) (h : w.ownsRow base 5 1 v n (fs.map ub)) (hn : n ≤ 1000) :
    Calls Tryz.prog 198 #[v] w fun e w' => ∃ v', e = .returned v' ∧ w'.ownsRow w.heap.size 5 1 v' n (fs.map ub) ∧ Below w.heap.size w w' := by
  obtain ⟨i0, hi, hz0, hz1, hz2⟩ := info_parts Tryz.infoU8
  have hl := h.1
  rw [List.length_map, Nat.mul_one] at hl
  rcases h.2 with ⟨rfl, rfl⟩ | ⟨g, cap, cur, rfl, h2, h3, h4, h5, h6, h7⟩
  · refine (AnyE.slices_Clone_nil Tryz.laysCln 0 0 w).mono ?_
    rintro e w' ⟨rfl, rfl⟩
    have ht : fs = [] := List.length_eq_zero_iff.1 hl
    subst ht
    exact ⟨_, rfl, World.ownsRow_nil _ _ _ _, Below.refl _ _⟩
  · refine (AnyE.slices_Clone Tryz.laysCln i0 (.int .u8 0) 1 1 hi hz0 hz1 hz2 rfl (by decide) Tryz.sizeOf5 g 0 n cap (fs.map ub) w (by rw [List.length_map, Nat.mul_one]; exact hl) (by unfold maxLen; omega) (by omega) (fun j u hj => ?_) (ub_one fs)).mono ?_
    · have := own_cells h j u hj
      rw [add0] at this
      rw [Nat.zero_add]; exact this
    · rintro e w' ⟨v', rfl, ho, _, bl⟩
      exact ⟨v', rfl, ho, bl⟩

end Go.Proofs.YtmfmagfgcdaeeaaGreat.T1
