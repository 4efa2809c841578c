/- Texts of the proof, put together: SpecB, Count, ImplF, SpecC. No conditions. -/
import Derived.Test.YtmfmagfgcdaeeaaGreatHab
import Derived.Test.YtmfmagfgcdaeeaaGreatHae
import Derived.Test.YtmfmagfgcdaeeaaGreatHag
import Derived.RegionTactic
import Derived.BigRegion
import Derived.OneCell
import Derived.IntWalk
import Derived.LoopN

/- The specification's look at a process in a text: the kind of its first sign, what stands in front of its part, its parts. -/
namespace Go.Proofs.YtmfmagfgcdaeeaaGreat.T1
open Go.RowKit
set_option maxRecDepth 100000

/-- The text of a tree. -/
def S (t : Tm) : ByteArray := ⟨t.pr.toArray⟩
theorem S_list (t : Tm) : (S t).data.toList = t.pr := rfl
theorem S_size (t : Tm) : (S t).size = t.pr.length := by simp [S, ByteArray.size]
theorem byte_of {s : ByteArray} {l : List UInt8} (h : s.data.toList = l) (i : Nat) (hi : i < s.size) (hl : i < l.length) : s[i] = l[i] := by
  subst h; rfl
theorem size_of_l {s : ByteArray} {l : List UInt8} (h : s.data.toList = l) : s.size = l.length := by subst h; simp
theorem endOf_1 {s : ByteArray} {p : Tm} {m : UInt8} {r : List UInt8} (h : s.data.toList = 40 :: (p.pr ++ m :: r)) (ho : p.ok nmE = true) : endOf nmE s 1 = ((p.pr.length + 1 : Nat) : Int) := by
  have he : E nmE (s.data.toList.drop 1) = some (p, m :: r) := (E_some nmE_nm).2 ⟨by rw [h]; simp, ho⟩
  unfold endOf
  rw [he]
  have := size_of_l h
  simp at this
  simp only [List.length_cons]
  omega
theorem mid_at {s : ByteArray} {p : Tm} {m : UInt8} {r : List UInt8} (h : s.data.toList = 40 :: (p.pr ++ m :: r)) (hi : p.pr.length + 1 < s.size) : s[p.pr.length + 1] = m := by
  rw [byte_of h _ hi (by rw [size_of_l h] at hi; exact hi)]
  simp

set_option maxHeartbeats 1000000 in
theorem kind_nil (s : ByteArray) (w : World) (hs : s.size ≤ 700) (h : s.data.toList = [48]) :
    Calls Tryz.prog 100 #[.string s] w fun e w' => e = .returned (.int .u8 48) ∧ w = w' := by
  have z := size_of_l h
  simp only [List.length_cons] at z
  have hz : 0 < s.size := by omega
  have c0 : (s[0].toNat : Int) = 48 := by rw [byte_of h 0 hz (by simp)]; rfl
  have Hc := Lib.hid c0
  have b48 : ((s[0].toNat : Int) == 48) = true := by rw [c0]; rfl
  clear c0
  go_enter Tryz.func100, Tryz.ntmps100
  go_wp2_with fail
  go_ret
  exact ⟨ret_int Hc.out, rfl⟩

set_option maxHeartbeats 1000000 in
theorem kind_rep (r : List UInt8) (s : ByteArray) (w : World) (hs : s.size ≤ 700) (h : s.data.toList = 42 :: r) :
    Calls Tryz.prog 100 #[.string s] w fun e w' => e = .returned (.int .u8 42) ∧ w = w' := by
  have z := size_of_l h
  simp only [List.length_cons] at z
  have hz : 0 < s.size := by omega
  have c0 : (s[0].toNat : Int) = 42 := by rw [byte_of h 0 hz (by simp)]; rfl
  have Hc := Lib.hid c0
  have b48 : ((s[0].toNat : Int) == 48) = false := by rw [c0]; rfl
  have b42 : ((s[0].toNat : Int) == 42) = true := by rw [c0]; rfl
  clear c0
  go_enter Tryz.func100, Tryz.ntmps100
  go_wp2_with fail
  go_ret
  exact ⟨ret_int Hc.out, rfl⟩

set_option maxHeartbeats 1000000 in
theorem kind_tau (r : List UInt8) (s : ByteArray) (w : World) (hs : s.size ≤ 700) (h : s.data.toList = 126 :: r) :
    Calls Tryz.prog 100 #[.string s] w fun e w' => e = .returned (.int .u8 126) ∧ w = w' := by
  have z := size_of_l h
  simp only [List.length_cons] at z
  have hz : 0 < s.size := by omega
  have c0 : (s[0].toNat : Int) = 126 := by rw [byte_of h 0 hz (by simp)]; rfl
  have Hc := Lib.hid c0
  have b48 : ((s[0].toNat : Int) == 48) = false := by rw [c0]; rfl
  have b42 : ((s[0].toNat : Int) == 42) = false := by rw [c0]; rfl
  have b126 : ((s[0].toNat : Int) == 126) = true := by rw [c0]; rfl
  clear c0
  go_enter Tryz.func100, Tryz.ntmps100
  go_wp2_with fail
  go_ret
  exact ⟨ret_int Hc.out, rfl⟩

set_option maxHeartbeats 1000000 in
theorem kind_own (r : List UInt8) (s : ByteArray) (w : World) (hs : s.size ≤ 700) (h : s.data.toList = 35 :: r) :
    Calls Tryz.prog 100 #[.string s] w fun e w' => e = .returned (.int .u8 35) ∧ w = w' := by
  have z := size_of_l h
  simp only [List.length_cons] at z
  have hz : 0 < s.size := by omega
  have c0 : (s[0].toNat : Int) = 35 := by rw [byte_of h 0 hz (by simp)]; rfl
  have Hc := Lib.hid c0
  have b48 : ((s[0].toNat : Int) == 48) = false := by rw [c0]; rfl
  have b42 : ((s[0].toNat : Int) == 42) = false := by rw [c0]; rfl
  have b126 : ((s[0].toNat : Int) == 126) = false := by rw [c0]; rfl
  have b35 : ((s[0].toNat : Int) == 35) = true := by rw [c0]; rfl
  clear c0
  go_enter Tryz.func100, Tryz.ntmps100
  go_wp2_with fail
  go_ret
  exact ⟨ret_int Hc.out, rfl⟩

set_option maxHeartbeats 1000000 in
theorem kind_mat (r : List UInt8) (s : ByteArray) (w : World) (hs : s.size ≤ 700) (h : s.data.toList = 91 :: r) :
    Calls Tryz.prog 100 #[.string s] w fun e w' => e = .returned (.int .u8 61) ∧ w = w' := by
  have z := size_of_l h
  simp only [List.length_cons] at z
  have hz : 0 < s.size := by omega
  have c0 : (s[0].toNat : Int) = 91 := by rw [byte_of h 0 hz (by simp)]; rfl
  have b48 : ((s[0].toNat : Int) == 48) = false := by rw [c0]; rfl
  have b42 : ((s[0].toNat : Int) == 42) = false := by rw [c0]; rfl
  have b126 : ((s[0].toNat : Int) == 126) = false := by rw [c0]; rfl
  have b35 : ((s[0].toNat : Int) == 35) = false := by rw [c0]; rfl
  have b91 : ((s[0].toNat : Int) == 91) = true := by rw [c0]; rfl
  clear c0
  go_enter Tryz.func100, Tryz.ntmps100
  go_wp2_with fail
  go_ret
  exact ⟨rfl, rfl⟩

set_option maxHeartbeats 1000000 in
theorem kind_msg (a m : UInt8) (r : List UInt8) (s : ByteArray) (w : World) (hs : s.size ≤ 700) (h : s.data.toList = a :: m :: r) (ha : nmE a = true) :
    Calls Tryz.prog 100 #[.string s] w fun e w' => e = .returned (.int .u8 (m.toNat : Int)) ∧ w = w' := by
  have z := size_of_l h
  simp only [List.length_cons] at z
  have hz : 1 < s.size := by omega
  have hq := nmE_nm a ha
  have hk : (s[1].toNat : Int) = (m.toNat : Int) := by rw [byte_of h 1 hz (by simp)]; rfl
  have e0 : s[0] = a := by rw [byte_of h 0 (by omega) (by simp)]; rfl
  have b48 : ((s[0].toNat : Int) == 48) = false := by rw [beq_eq_false_iff_ne, e0]; intro h'; exact hq.1 (by rw [← UInt8.toNat_inj]; simp; omega)
  have b42 : ((s[0].toNat : Int) == 42) = false := by rw [beq_eq_false_iff_ne, e0]; intro h'; exact hq.2.1 (by rw [← UInt8.toNat_inj]; simp; omega)
  have b126 : ((s[0].toNat : Int) == 126) = false := by rw [beq_eq_false_iff_ne, e0]; intro h'; exact hq.2.2.1 (by rw [← UInt8.toNat_inj]; simp; omega)
  have b35 : ((s[0].toNat : Int) == 35) = false := by rw [beq_eq_false_iff_ne, e0]; intro h'; exact hq.2.2.2.1 (by rw [← UInt8.toNat_inj]; simp; omega)
  have b91 : ((s[0].toNat : Int) == 91) = false := by rw [beq_eq_false_iff_ne, e0]; intro h'; exact hq.2.2.2.2.1 (by rw [← UInt8.toNat_inj]; simp; omega)
  have b40 : ((s[0].toNat : Int) == 40) = false := by rw [beq_eq_false_iff_ne, e0]; intro h'; exact hq.2.2.2.2.2 (by rw [← UInt8.toNat_inj]; simp; omega)
  have Hk := Lib.hid hk
  clear hq e0 hk
  go_enter Tryz.func100, Tryz.ntmps100
  go_wp2_with fail
  go_ret
  exact ⟨ret_int Hk.out, rfl⟩

set_option maxHeartbeats 1000000 in
theorem kind_pair (p : Tm) (m : UInt8) (r : List UInt8) (s : ByteArray) (w : World) (hs : s.size ≤ 700) (h : s.data.toList = 40 :: (p.pr ++ m :: r)) (ho : p.ok nmE = true) :
    Calls Tryz.prog 100 #[.string s] w fun e w' => e = .returned (.int .u8 (m.toNat : Int)) ∧ w = w' := by
  have z := size_of_l h
  simp only [List.length_cons, List.length_append] at z
  have hz : 0 < s.size := by omega
  have hm : p.pr.length + 1 < s.size := by omega
  have c0 : (s[0].toNat : Int) = 40 := by rw [byte_of h 0 hz (by simp)]; rfl
  have b48 : ((s[0].toNat : Int) == 48) = false := by rw [c0]; rfl
  have b42 : ((s[0].toNat : Int) == 42) = false := by rw [c0]; rfl
  have b126 : ((s[0].toNat : Int) == 126) = false := by rw [c0]; rfl
  have b35 : ((s[0].toNat : Int) == 35) = false := by rw [c0]; rfl
  have b91 : ((s[0].toNat : Int) == 91) = false := by rw [c0]; rfl
  have b40 : ((s[0].toNat : Int) == 40) = true := by rw [c0]; rfl
  have hc := tmEnd_any s hs 710 1 w (by omega) (by omega)
  rw [endOf_1 h ho] at hc
  obtain ⟨k, hk'⟩ : ∃ k, k = p.pr.length := ⟨_, rfl⟩
  rw [← hk'] at hc
  have hm' : k + 1 < s.size := by omega
  have hk : (s[k + 1].toNat : Int) = (m.toNat : Int) := by subst hk'; rw [mid_at h hm']
  have HC : Hid (Calls Tryz.prog 122 #[.string s, .int .i64 1] w fun e w' => e = .returned (.int .i64 ((k : Int) + 1)) ∧ w = w') := hc
  have Hk := Lib.hid hk
  clear c0 hk hc hm z hk' h
  go_enter Tryz.func100, Tryz.ntmps100
  go_wp2_with fail
  refine (HC.out).mono ?_
  rintro e w' ⟨rfl, rfl⟩
  go_wp2_with fail
  go_ret
  exact ⟨ret_int Hk.out, rfl⟩

theorem tmKind_any (t : Tm) (ho : t.ok nmE = true) (hl : t.pr.length ≤ 700) (w : World) : Calls Tryz.prog 100 #[.string (S t)] w fun e w' => e = .returned (.int .u8 (t.kind.toNat : Int)) ∧ w = w' := by
  have hs : (S t).size ≤ 700 := by rw [S_size]; exact hl
  cases t with
  | nil => exact kind_nil _ w hs rfl
  | snd a b p => simp only [Tm.ok, Bool.and_eq_true] at ho; exact kind_msg a 33 _ _ w hs rfl ho.1.1
  | rcv a b p => simp only [Tm.ok, Bool.and_eq_true] at ho; exact kind_msg a 63 _ _ w hs rfl ho.1.1
  | tau p => exact kind_tau _ _ w hs rfl
  | sum p q => simp only [Tm.ok, Bool.and_eq_true] at ho; exact kind_pair p 43 _ _ w hs rfl ho.1
  | par p q => simp only [Tm.ok, Bool.and_eq_true] at ho; exact kind_pair p 38 _ _ w hs rfl ho.1
  | own x p => exact kind_own _ _ w hs rfl
  | mat a b p => exact kind_mat _ _ w hs rfl
  | rep p => exact kind_rep _ _ w hs rfl

/-- How many bytes stand in front of the first part. -/
def Tm.hd : Tm → Nat
  | .rep _ => 1
  | .sum _ _ => 1
  | .par _ _ => 1
  | .tau _ => 2
  | .own _ _ => 3
  | .mat _ _ _ => 5
  | _ => 4

theorem new_block0 (w : World) (o : Obj) : (w.alloc o).heap[w.heap.size]? = some o := by
  show (w.heap.push o)[w.heap.size]? = _
  rw [Array.getElem?_push, if_pos rfl]

set_option maxHeartbeats 1000000 in
theorem tmHead_any (t : Tm) (ho : t.ok nmE = true) (hl : t.pr.length ≤ 700) (w : World) : Calls Tryz.prog 126 #[.string (S t)] w fun e w' => e = .returned (.int .i64 (t.hd : Nat)) ∧ w = w' := by
  have HK := tmKind_any t ho hl w
  obtain ⟨s, hs⟩ : ∃ s, s = S t := ⟨_, rfl⟩
  rw [← hs] at HK ⊢
  clear hs hl ho
  cases t
  all_goals
    simp only [Tm.kind, Tm.hd] at HK ⊢
    have H := Lib.hid HK
    clear HK
    go_enter Tryz.func126, Tryz.ntmps126
    go_wp2_with fail
    refine (H.out).mono ?_
    rintro e w' ⟨rfl, rfl⟩
    go_wp2_with fail
    go_ret
    exact ⟨rfl, rfl⟩

/-- A slice of the parts' texts, in memory of the call's own. -/
def PartsS (ps : List Tm) (w : World) (e : Ending) (w' : World) : Prop :=
  match ps with
  | [] => e = .returned (.slice none 0 0) ∧ Below w.heap.size w w'
  | [p] => ∃ b, e = .returned (.slice (some ⟨b, 0, none⟩) 1 1) ∧ w.heap.size ≤ b ∧ w'.heap[b]? = some (.cells #[.string (S p)] 9 (0, 0)) ∧ Below w.heap.size w w'
  | [p, q] => ∃ b, e = .returned (.slice (some ⟨b, 0, none⟩) 2 2) ∧ w.heap.size ≤ b ∧ w'.heap[b]? = some (.cells #[.string (S p), .string (S q)] 9 (0, 0)) ∧ Below w.heap.size w w'
  | _ => False

theorem ext_S {s : ByteArray} {l : List UInt8} (h : s.data.toList = l) (i j : Nat) (t : Tm) (ht : (l.drop i).take (j - i) = t.pr) : s.extract i j = S t := by
  apply ByteArray.ext
  apply Array.ext'
  show (s.extract i j).data.toList = t.pr
  rw [← ht, ← h]
  simp [ByteArray.data_extract, Array.toList_extract]

set_option maxHeartbeats 1000000 in
theorem parts_one (t p : Tm) (w : World) (_hs : (S t).size ≤ 700) (hd : t.hd < (S t).size) (hx : (S t).extract t.hd (S t).size = S p) (hk : t.kind ≠ 48 ∧ t.kind ≠ 43 ∧ t.kind ≠ 38)
    (HK : ∀ w, Calls Tryz.prog 100 #[.string (S t)] w fun e w' => e = .returned (.int .u8 (t.kind.toNat : Int)) ∧ w = w') (HH : ∀ w, Calls Tryz.prog 126 #[.string (S t)] w fun e w' => e = .returned (.int .i64 (t.hd : Nat)) ∧ w = w') :
    Calls Tryz.prog 101 #[.string (S t)] w (PartsS [p] w) := by
  have b1 : ((t.kind.toNat : Int) == 48) = false := by rw [beq_eq_false_iff_ne]; intro h'; exact hk.1 (by rw [← UInt8.toNat_inj]; simp; omega)
  have b2 : ((t.kind.toNat : Int) == 43) = false := by rw [beq_eq_false_iff_ne]; intro h'; exact hk.2.1 (by rw [← UInt8.toNat_inj]; simp; omega)
  have b3 : ((t.kind.toNat : Int) == 38) = false := by rw [beq_eq_false_iff_ne]; intro h'; exact hk.2.2 (by rw [← UInt8.toNat_inj]; simp; omega)
  obtain ⟨s, es⟩ : ∃ s, s = S t := ⟨_, rfl⟩
  obtain ⟨v, ev⟩ : ∃ v, v = S p := ⟨_, rfl⟩
  obtain ⟨n, en⟩ : ∃ n, n = t.hd := ⟨_, rfl⟩
  obtain ⟨k, ek⟩ : ∃ k, k = (t.kind.toNat : Int) := ⟨_, rfl⟩
  rw [← es, ← en] at hd
  rw [← es] at _hs
  rw [← es, ← en, ← ev] at hx
  rw [← ek] at b1 b2 b3
  have HK2 : Hid (∀ w, Calls Tryz.prog 100 #[.string s] w fun e w' => e = .returned (.int .u8 k) ∧ w = w') := by rw [es, ek]; exact HK
  have HH2 : Hid (∀ w, Calls Tryz.prog 126 #[.string s] w fun e w' => e = .returned (.int .i64 (n : Nat)) ∧ w = w') := by rw [es, en]; exact HH
  have EV := Lib.hid ev
  rw [← es]
  clear es ev en ek HK HH hk
  go_enter Tryz.func101, Tryz.ntmps101
  go_wp2_with fail
  refine (HK2.out _).mono ?_
  rintro e w' ⟨rfl, rfl⟩
  go_wp2_with fail
  refine (HH2.out _).mono ?_
  rintro e w' ⟨rfl, rfl⟩
  go_wp2_with fail
  go_ret
  exact ⟨_, rfl, Nat.le_refl _, by rw [← EV.out]; exact new_block0 _ _, (Below.refl _ _).alloc (Nat.le_refl _) _⟩

theorem parts_none (w : World) : Calls Tryz.prog 101 #[.string (S .nil)] w (PartsS [] w) := by
  have HK := tmKind_any .nil rfl (by simp [Tm.pr])
  obtain ⟨s, es⟩ : ∃ s, s = S .nil := ⟨_, rfl⟩
  have HK2 : Hid (∀ w, Calls Tryz.prog 100 #[.string s] w fun e w' => e = .returned (.int .u8 48) ∧ w = w') := by rw [es]; exact HK
  rw [← es]
  clear es HK
  go_enter Tryz.func101, Tryz.ntmps101
  go_wp2_with fail
  refine (HK2.out _).mono ?_
  rintro e w' ⟨rfl, rfl⟩
  go_wp2_with fail
  go_ret
  exact ⟨rfl, Below.refl _ _⟩

set_option maxHeartbeats 1000000 in
theorem parts_two (t p q : Tm) (m : Int) (w : World) (hs : (S t).size ≤ 700) (hm : m = 43 ∨ m = 38) (hsz : (S t).size = p.pr.length + q.pr.length + 3) (hx : (S t).extract 1 (p.pr.length + 1) = S p) (hy : (S t).extract (p.pr.length + 1 + 1) ((S t).size - 1) = S q)
    (HK : ∀ w, Calls Tryz.prog 100 #[.string (S t)] w fun e w' => e = .returned (.int .u8 m) ∧ w = w') (HE : ∀ w, Calls Tryz.prog 122 #[.string (S t), .int .i64 1] w fun e w' => e = .returned (.int .i64 ((p.pr.length + 1 : Nat) : Int)) ∧ w = w') :
    Calls Tryz.prog 101 #[.string (S t)] w (PartsS [p, q] w) := by
  have T : ((m == 43) = true ∧ (m == 48) = false) ∨ ((m == 43) = false ∧ (m == 48) = false ∧ (m == 38) = true) := by rcases hm with rfl | rfl <;> decide
  obtain ⟨s, es⟩ : ∃ s, s = S t := ⟨_, rfl⟩
  obtain ⟨v, ev⟩ : ∃ v, v = S p := ⟨_, rfl⟩
  obtain ⟨u, eu⟩ : ∃ u, u = S q := ⟨_, rfl⟩
  obtain ⟨k, ek⟩ : ∃ k, k = p.pr.length := ⟨_, rfl⟩
  rw [← es] at hs hsz
  rw [← es, ← ev, ← ek] at hx
  rw [← es, ← eu, ← ek] at hy
  have h1 : k + 2 ≤ s.size - 1 := by omega
  have h2 : 3 ≤ s.size := by omega
  have HK2 : Hid (∀ w, Calls Tryz.prog 100 #[.string s] w fun e w' => e = .returned (.int .u8 m) ∧ w = w') := by rw [es]; exact HK
  have HE2 : Hid (∀ w, Calls Tryz.prog 122 #[.string s, .int .i64 1] w fun e w' => e = .returned (.int .i64 ((k : Int) + 1)) ∧ w = w') := by rw [es, ek]; exact HE
  have EV := Lib.hid ev
  have EU := Lib.hid eu
  rw [← es]
  clear es ev eu ek HK HE hm hsz
  have w1 : IntKind.i64.wrap ((k : Int) + 1 + 1) = (k : Int) + 1 + 1 := IntWalk.i64_in _ (by omega)
  have w2 : IntKind.i64.wrap ((s.size : Int) - 1) = (s.size : Int) - 1 := IntWalk.i64_in _ (by omega)
  rcases T with ⟨T1, T2⟩ | ⟨T1, T2, T3⟩
  all_goals
    go_enter Tryz.func101, Tryz.ntmps101
    go_wp2_with fail
    refine (HK2.out _).mono ?_
    rintro e w' ⟨rfl, rfl⟩
    go_wp2_with fail
    refine (HE2.out _).mono ?_
    rintro e w' ⟨rfl, rfl⟩
    go_wp2_with fail
    go_region
    all_goals go_wp2_with fail
    all_goals go_ret
    all_goals exact ⟨_, rfl, Nat.le_refl _, by rw [← EV.out, ← EU.out]; exact new_block0 _ _, ((Below.refl _ _).alloc (Nat.le_refl _) _).drew⟩

theorem pr_take (l : List UInt8) (n : Nat) (h : l.length ≤ n) : l.take n = l := List.take_of_length_le h
theorem ext_pre {t p : Tm} {pre : List UInt8} (h : t.pr = pre ++ p.pr) : (S t).extract pre.length (S t).size = S p :=
  ext_S (S_list t) _ _ p (by rw [h, List.drop_left, S_size, h, List.length_append]; exact pr_take _ _ (by omega))
theorem ext_l {t p : Tm} {m : UInt8} {r : List UInt8} (h : t.pr = 40 :: (p.pr ++ m :: r)) : (S t).extract 1 (p.pr.length + 1) = S p :=
  ext_S (S_list t) _ _ p (by rw [h, List.drop_succ_cons, List.drop_zero, Nat.add_sub_cancel, List.take_left])
theorem ext_r {t p q : Tm} {m : UInt8} (h : t.pr = 40 :: (p.pr ++ m :: (q.pr ++ [41]))) : (S t).extract (p.pr.length + 1 + 1) ((S t).size - 1) = S q :=
  ext_S (S_list t) _ _ q (by
    have e : t.pr = (40 :: p.pr ++ [m]) ++ (q.pr ++ [41]) := by rw [h]; simp
    have l1 : (40 :: p.pr ++ [m]).length = p.pr.length + 1 + 1 := by simp
    rw [S_size, e, ← l1, List.drop_left, List.length_append]
    have : (40 :: p.pr ++ [m]).length + (q.pr ++ [41]).length - 1 - (40 :: p.pr ++ [m]).length = q.pr.length := by simp
    rw [this, List.take_left])

theorem end_pair {t p : Tm} {m : UInt8} {r : List UInt8} (h : t.pr = 40 :: (p.pr ++ m :: r)) (ho : p.ok nmE = true) (hl : t.pr.length ≤ 700) (w : World) :
    Calls Tryz.prog 122 #[.string (S t), .int .i64 1] w fun e w' => e = .returned (.int .i64 ((p.pr.length + 1 : Nat) : Int)) ∧ w = w' := by
  have hc := tmEnd_any (S t) (by rw [S_size]; exact hl) 710 1 w (by omega) (by omega)
  rw [endOf_1 (s := S t) h ho] at hc
  exact hc

theorem tmParts_any (t : Tm) (ho : t.ok nmE = true) (hl : t.pr.length ≤ 700) (w : World) : Calls Tryz.prog 101 #[.string (S t)] w (PartsS t.parts w) := by
  have hs : (S t).size ≤ 700 := by rw [S_size]; exact hl
  have HK := tmKind_any t ho hl
  have HH := tmHead_any t ho hl
  have hz := S_size t
  cases t with
  | nil => exact parts_none w
  | snd a b p => exact parts_one _ p w hs (by rw [hz]; have := pr_pos p; simp [Tm.pr, Tm.hd]; omega) (ext_pre (pre := [a, 33, b, 46]) rfl) (by simp only [Tm.kind]; decide) HK HH
  | rcv a b p => exact parts_one _ p w hs (by rw [hz]; have := pr_pos p; simp [Tm.pr, Tm.hd]; omega) (ext_pre (pre := [a, 63, b, 46]) rfl) (by simp only [Tm.kind]; decide) HK HH
  | tau p => exact parts_one _ p w hs (by rw [hz]; have := pr_pos p; simp [Tm.pr, Tm.hd]; omega) (ext_pre (pre := [126, 46]) rfl) (by simp only [Tm.kind]; decide) HK HH
  | sum p q =>
    simp only [Tm.ok, Bool.and_eq_true] at ho
    exact parts_two _ p q 43 w hs (.inl rfl) (by rw [hz]; simp [Tm.pr]; omega) (ext_l rfl) (ext_r rfl) HK (end_pair rfl ho.1 hl)
  | par p q =>
    simp only [Tm.ok, Bool.and_eq_true] at ho
    exact parts_two _ p q 38 w hs (.inr rfl) (by rw [hz]; simp [Tm.pr]; omega) (ext_l rfl) (ext_r rfl) HK (end_pair rfl ho.1 hl)
  | own x p => exact parts_one _ p w hs (by rw [hz]; have := pr_pos p; simp [Tm.pr, Tm.hd]; omega) (ext_pre (pre := [35, x, 46]) rfl) (by simp only [Tm.kind]; decide) HK HH
  | mat a b p => exact parts_one _ p w hs (by rw [hz]; have := pr_pos p; simp [Tm.pr, Tm.hd]; omega) (ext_pre (pre := [91, a, 61, b, 93]) rfl) (by simp only [Tm.kind]; decide) HK HH
  | rep p => exact parts_one _ p w hs (by rw [hz]; have := pr_pos p; simp [Tm.pr, Tm.hd]; omega) (ext_pre (pre := [42]) rfl) (by simp only [Tm.kind]; decide) HK HH

end Go.Proofs.YtmfmagfgcdaeeaaGreat.T1

/- Subterms counted for which a function says yes. -/
namespace Go.Proofs.YtmfmagfgcdaeeaaGreat.T1
open Go.RowKit
set_option maxRecDepth 100000

/-- The counter's block and the function's block. -/
def CntI (bf bn : Nat) (fv : Value) (hp : Tm → Bool) (J : World → Prop) (acc : List Tm) (w : World) : Prop :=
  (∃ Tf, w.heap[bf]? = some (.cells #[fv] Tf (0, 0))) ∧ (∃ Tn, w.heap[bn]? = some (.cells #[.int .i64 (wrap64 (acc.countP hp : Nat))] Tn (0, 0))) ∧ J w

theorem wrap64_lo (x : Int) : -9223372036854775808 ≤ wrap64 x ∧ wrap64 x ≤ 9223372036854775807 := by unfold wrap64; omega
theorem wrap64_succ (c : Nat) : wrap64 (wrap64 (c : Int) + 1) = wrap64 ((c + 1 : Nat) : Int) := by unfold wrap64; omega

set_option maxHeartbeats 1000000 in
theorem count1 (bf bn : Nat) (HF : FuncId) (hcaps : Array Value) (hp : Tm → Bool) (J : World → Prop) (B : Nat) (hne : bf ≠ bn) (hB : B ≤ bn)
    (hFH : ∀ args w, (callFunc HF args).run Tryz.prog w = .ok (.enter HF args) w) (hJ : ∀ w w', J w → Below B w w' → J w')
    (T : TypeId) (V : Value) (t : Tm) (hH : ∀ w, J w → Calls Tryz.prog HF (#[.iface T V] ++ hcaps) w fun e w' => e = .returned (.bool (hp t)) ∧ Below w.heap.size w w')
    (acc : List Tm) (w : World) (h0 : CntI bf bn (.func (.func HF) #[] hcaps) hp J acc w) (hBw : B ≤ w.heap.size) :
    Calls Tryz.prog 163 #[.iface T V, .pointer (some ⟨bf, 0, none⟩), .pointer (some ⟨bn, 0, none⟩)] w (VisPost bn (CntI bf bn (.func (.func HF) #[] hcaps) hp J) (acc ++ [t]) w) := by
  obtain ⟨⟨Tf, hf⟩, ⟨Tn, hn⟩, j0⟩ := h0
  have cf := cellOf1 hf
  have Hf := Lib.hid hf
  have Hn := Lib.hid hn
  have HH := Lib.hid hH
  have HJ := Lib.hid hJ
  clear hf hn hH hJ
  cases hq : hp t with
  | true =>
    have Hq : Hid ((acc ++ [t]).countP hp = acc.countP hp + 1) := by simp [Hid, hq]
    have HH2 : Hid (Calls Tryz.prog HF (#[.iface T V] ++ hcaps) w fun e w' => e = .returned (.bool true) ∧ Below w.heap.size w w') := by have := HH.out w j0; rw [hq] at this; exact this
    clear HH hq
    go_enter Tryz.func163, Tryz.ntmps163
    go_wp2_with fail
    refine (HH2.out).mono ?_
    rintro e w1 ⟨rfl, bl⟩
    have hn1 := (bl.block bn (lt_of_block Hn.out)).trans Hn.out
    have hf1 := (bl.block bf (lt_of_block Hf.out)).trans Hf.out
    obtain ⟨x, hx⟩ : ∃ x, x = wrap64 (acc.countP hp : Nat) := ⟨_, rfl⟩
    rw [← hx] at hn1
    have cn := cellOf1 hn1
    have fn := free_of_one hn1
    have Hn1 := Lib.hid hn1
    have Hf1 := Lib.hid hf1
    have xb := wrap64_lo (acc.countP hp : Nat)
    rw [← hx] at xb
    have Hx := Lib.hid hx
    have HJ1 : Hid (J w1) := HJ.out _ _ j0 (bl.mono hBw)
    clear hn1 hf1 hx cf j0
    go_wp2_with fail
    go_end0
    refine ⟨rfl, ⟨⟨Tf, ?_⟩, ⟨Tn, ?_⟩, ?_⟩, ?_⟩
    · rw [Below.heap_setCell _ _ _ _ hne]; exact Hf1.out
    · rw [one_setCell Hn1.out, Hq.out, ← wrap64_succ, ← Hx.out]
    · exact HJ.out _ _ HJ1.out ((Below.refl _ _).setCell hB _)
    · exact ((Only.refl bn w).below bl).setCell _ _ _
  | false =>
    have Hq : Hid ((acc ++ [t]).countP hp = acc.countP hp) := by simp [Hid, hq]
    have HH2 : Hid (Calls Tryz.prog HF (#[.iface T V] ++ hcaps) w fun e w' => e = .returned (.bool false) ∧ Below w.heap.size w w') := by have := HH.out w j0; rw [hq] at this; exact this
    clear HH hq
    go_enter Tryz.func163, Tryz.ntmps163
    go_wp2_with fail
    refine (HH2.out).mono ?_
    rintro e w1 ⟨rfl, bl⟩
    have HJ1 : Hid (J w1) := HJ.out _ _ j0 (bl.mono hBw)
    clear cf j0
    go_wp2_with fail
    go_end0
    refine ⟨rfl, ⟨⟨Tf, (bl.block bf (lt_of_block Hf.out)).trans Hf.out⟩, ⟨Tn, ?_⟩, HJ1.out⟩, (Only.refl bn w).below bl⟩
    rw [Hq.out]
    exact (bl.block bn (lt_of_block Hn.out)).trans Hn.out

theorem cf_c1 (args : Array Value) (w : World) : (callFunc 163 args).run Tryz.prog w = .ok (.enter 163 args) w := by kernel_rfl
theorem subs_len (t : Tm) : t.subs.length = t.size := by
  induction t <;> simp_all [Tm.subs, Tm.size] <;> omega

theorem first_block (w : World) (o o' : Obj) : ((w.alloc o).alloc o').heap[w.heap.size]? = some o := by
  show ((w.heap.push o).push o')[w.heap.size]? = _
  rw [Array.getElem?_push, if_neg (by simp), Array.getElem?_push, if_pos rfl]

set_option maxHeartbeats 1000000 in
theorem countOf_any (HF : FuncId) (hcaps : Array Value) (hp : Tm → Bool) (J : World → Prop)
    (hFH : ∀ args w, (callFunc HF args).run Tryz.prog w = .ok (.enter HF args) w)
    (hH : ∀ t w, J w → Calls Tryz.prog HF (#[.iface (tyOf t) (pay t)] ++ hcaps) w fun e w' => e = .returned (.bool (hp t)) ∧ Below w.heap.size w w')
    (t : Tm) (ht : t.size ≤ 1000) (w : World) (hJ : ∀ w1 w', J w1 → Below w.heap.size w1 w' → J w') (j0 : J w) :
    Calls Tryz.prog 142 #[.iface (tyOf t) (pay t), .func (.func HF) #[] hcaps] w fun e w' => e = .returned (.int .i64 (t.subs.countP hp : Nat)) ∧ Below w.heap.size w w' := by
  have HV := Lib.hid (visitAll_any 163 #[.pointer (some ⟨w.heap.size, 0, none⟩), .pointer (some ⟨w.heap.size + 1, 0, none⟩)] (w.heap.size + 1)
    (fun acc w1 => CntI w.heap.size (w.heap.size + 1) (.func (.func HF) #[] hcaps) hp J acc w1) cf_c1
    (fun acc w1 w' h bl => by
      obtain ⟨⟨Tf, hf⟩, ⟨Tn, hn⟩, j⟩ := h
      exact ⟨⟨Tf, (bl.block _ (lt_of_block hf)).trans hf⟩, ⟨Tn, (bl.block _ (lt_of_block hn)).trans hn⟩, hJ _ _ j (bl.mono (Nat.le_of_lt (lt_of_block hf)))⟩)
    (fun acc w1 h => by obtain ⟨_, ⟨Tn, hn⟩, _⟩ := h; exact lt_of_block hn)
    (fun t acc w1 h => count1 _ _ HF hcaps hp J w.heap.size (by omega) (by omega) hFH hJ _ _ t (fun w2 j => hH t w2 j) acc w1 h (by obtain ⟨⟨Tf, hf⟩, _⟩ := h; exact Nat.le_of_lt (lt_of_block hf))) t)
  have HJ := Lib.hid hJ
  have J0 := Lib.hid j0
  have hc : Hid (wrap64 ((t.subs.countP hp : Nat) : Int) = ((t.subs.countP hp : Nat) : Int)) := by
    have h1 : t.subs.countP hp ≤ t.subs.length := List.countP_le_length
    rw [subs_len] at h1
    exact IntWalk.wrap64_in _ (by omega)
  have H0 : Hid (∀ T1 T2, CntI w.heap.size (w.heap.size + 1) (.func (.func HF) #[] hcaps) hp J [] ((w.alloc (.cells #[.func (.func HF) #[] hcaps] T1)).alloc (.cells #[.int .i64 0] T2))) :=
    fun T1 T2 => ⟨⟨T1, first_block _ _ _⟩, ⟨T2, (last_block _ _ _).trans (by simp [wrap64])⟩, hJ _ _ j0 (below_two _ _ _)⟩
  clear hJ hH j0
  obtain ⟨T, hT⟩ : ∃ T, T = tyOf t := ⟨_, rfl⟩
  obtain ⟨V, hV⟩ : ∃ V, V = pay t := ⟨_, rfl⟩
  obtain ⟨N, hN⟩ : ∃ N, N = t.subs.countP hp := ⟨_, rfl⟩
  rw [← hT, ← hV] at HV ⊢
  rw [← hN] at hc ⊢
  have HN := Lib.hid hN
  clear hT hV hN
  go_enter Tryz.func142, Tryz.ntmps142
  go_wp2_with fail
  refine ((HV.out) [] _ (H0.out _ _)).mono ?_
  rintro e w1 ⟨rfl, ⟨_, ⟨Tn, hn⟩, _⟩, o1⟩
  rw [List.nil_append, ← HN.out, hc.out] at hn
  have cn := cellOf1 hn
  go_wp2_with fail
  go_ret
  exact ⟨rfl, Below.only (below_two _ _ _) o1 (by omega) (by simp; omega)⟩

end Go.Proofs.YtmfmagfgcdaeeaaGreat.T1

/- The size of a tree; a text parsed. -/
namespace Go.Proofs.YtmfmagfgcdaeeaaGreat.T1
open Go.RowKit
set_option maxRecDepth 100000

theorem size1_any (T : TypeId) (V : Value) (w : World) : Calls Tryz.prog 143 (#[.iface T V] ++ #[]) w fun e w' => e = .returned (.bool true) ∧ Below w.heap.size w w' := by
  show Calls Tryz.prog 143 #[.iface T V] w _
  go_enter Tryz.func143, Tryz.ntmps143
  go_wp2_with fail
  go_ret
  exact ⟨rfl, Below.refl _ _⟩
theorem cf_s1 (args : Array Value) (w : World) : (callFunc 143 args).run Tryz.prog w = .ok (.enter 143 args) w := by kernel_rfl

theorem size_any (t : Tm) (ht : t.size ≤ 1000) (w : World) : Calls Tryz.prog 84 #[.iface (tyOf t) (pay t)] w fun e w' => e = .returned (.int .i64 (t.size : Nat)) ∧ Below w.heap.size w w' := by
  have HC := countOf_any 143 #[] (fun _ => true) (fun _ => True) cf_s1 (fun t w _ => size1_any _ _ w) t ht w (fun _ _ _ _ => trivial) trivial
  rw [List.countP_true, subs_len] at HC
  obtain ⟨T, hT⟩ : ∃ T, T = tyOf t := ⟨_, rfl⟩
  obtain ⟨V, hV⟩ : ∃ V, V = pay t := ⟨_, rfl⟩
  obtain ⟨N, hN⟩ : ∃ N, N = t.size := ⟨_, rfl⟩
  rw [← hT, ← hV] at HC ⊢
  rw [← hN] at HC ⊢
  have H := Lib.hid HC
  clear hT hV hN HC
  go_enter Tryz.func84, Tryz.ntmps84
  go_wp2_with fail
  refine (H.out).mono ?_
  rintro e w1 ⟨rfl, bl⟩
  go_wp2_with fail
  go_ret
  exact ⟨rfl, bl⟩

/-- The tree of a process; nothing if the text is none. -/
noncomputable def good (l : List UInt8) : Option Tm :=
  if l.length ≤ 300 then
    match E nmL l with
    | some (t, []) => if t.size ≤ 60 then some t else none
    | _ => none
  else none
theorem good_long {l : List UInt8} (h : 300 < l.length) : good l = none := by rw [good, if_neg (by omega)]
theorem good_none {l : List UInt8} (h : E nmL l = none) : good l = none := by unfold good; rw [h]; split <;> rfl
theorem good_rest {l r : List UInt8} {t : Tm} (h : E nmL l = some (t, r)) (hr : r ≠ []) : good l = none := by
  unfold good; rw [h]
  cases r with
  | nil => exact absurd rfl hr
  | cons c r => split <;> rfl
theorem good_great {l : List UInt8} {t : Tm} (h : E nmL l = some (t, [])) (ht : 60 < t.size) : good l = none := by
  unfold good; rw [h]
  split
  · simp only []; rw [if_neg (by omega)]
  · rfl
theorem good_yes {l : List UInt8} {t : Tm} (hl : l.length ≤ 300) (h : E nmL l = some (t, [])) (ht : t.size ≤ 60) : good l = some t := by
  unfold good; rw [h, if_pos hl]
  simp only []; rw [if_pos ht]
theorem good_out {l : List UInt8} {t : Tm} (h : good l = some t) : l.length ≤ 300 ∧ l = t.pr ∧ t.ok nmL = true ∧ t.size ≤ 60 := by
  unfold good at h
  split at h
  · rename_i hl
    split at h
    · rename_i t' he
      split at h
      · rename_i ht
        cases h
        have := (E_some nmL_nm).1 he
        exact ⟨hl, by have h2 := this.1; rw [List.append_nil] at h2; exact h2, this.2, ht⟩
      · cases h
    · cases h
  · cases h

def ParsePost (s : ByteArray) (w : World) (e : Ending) (w' : World) : Prop :=
  ((∃ t, good s.data.toList = some t ∧ e = .returned (.tuple #[.iface (tyOf t) (pay t), .bool true])) ∨ (good s.data.toList = none ∧ e = .returned (.tuple #[.nilIface, .bool false]))) ∧ Below w.heap.size w w'

theorem new_block (w : World) (o : Obj) : (w.alloc o).heap[w.heap.size]? = some o := by
  show (w.heap.push o)[w.heap.size]? = _
  rw [Array.getElem?_push, if_pos rfl]

set_option maxHeartbeats 1000000 in
theorem parse_any (s : ByteArray) (w : World) (hm : s.size ≤ 9223372036854775807) : Calls Tryz.prog 59 #[.string s] w (ParsePost s w) := by
  by_cases hs : s.size ≤ 300
  · have HR : Hid (∀ T, RdAt (w.alloc (.cells #[.string s, .int .i64 0] T)) w.heap.size s 0) := fun T => ⟨T, new_block _ _⟩
    have HL : Hid (s.data.toList.length = s.size) := by simp [Hid]
    go_enter Tryz.func59, Tryz.ntmps59
    go_wp2_with fail
    refine (process_any w.heap.size s hs 0 _ (Nat.zero_le _) (HR.out _)).mono ?_
    rintro e w1 (⟨t, m, rfl, r1, o1, h1, h2, e1⟩ | ⟨v, rfl, o1, e1⟩)
    · have HE : Hid (E nmL s.data.toList = some (t, s.data.toList.drop m)) := e1
      have hsz : t.size ≤ 300 := by
        have h3 := (E_some nmL_nm).1 HE.out
        have h4 := size_le_pr t
        have h5 : s.data.toList.length = t.pr.length + (s.data.toList.drop m).length := by rw [← List.length_append, ← h3.1]
        rw [HL.out] at h5
        omega
      have HS := fun w => size_any t (by omega) w
      clear e1
      have hB : Below w.heap.size w w1 := Below.only ((Below.refl _ _).alloc (Nat.le_refl _) _) o1 (Nat.le_refl _) (by simp)
      have c1 := r1.c1
      by_cases hme : m = s.size
      · have t1 : ((m : Int) != (s.size : Int)) = false := by rw [hme]; simp
        have HE2 : Hid (E nmL s.data.toList = some (t, [])) := by have := HE.out; rw [List.drop_of_length_le (by rw [HL.out]; omega)] at this; exact this
        by_cases ht : t.size ≤ 60
        · have HG : Hid (good s.data.toList = some t) := good_yes (by rw [HL.out]; exact hs) HE2.out ht
          obtain ⟨T, hT⟩ : ∃ T, T = tyOf t := ⟨_, rfl⟩
          obtain ⟨V, hV⟩ : ∃ V, V = pay t := ⟨_, rfl⟩
          obtain ⟨N, hN⟩ : ∃ N, N = t.size := ⟨_, rfl⟩
          rw [← hT, ← hV, ← hN] at HS
          rw [← hT, ← hV]
          rw [← hN] at ht
          have HTV : Hid (T = tyOf t ∧ V = pay t) := ⟨hT, hV⟩
          have HS2 := Lib.hid HS
          clear hme hT hV hN HS
          go_wp2_with fail
          refine (HS2.out _).mono ?_
          rintro e w2 ⟨rfl, bl⟩
          go_wp2_with fail
          go_ret2
          exact ⟨.inl ⟨t, HG.out, by rw [← HTV.out.1, ← HTV.out.2]; rfl⟩, below_trans hB bl hB.size⟩
        · have HG : Hid (good s.data.toList = none) := good_great HE2.out (by omega)
          obtain ⟨T, hT⟩ : ∃ T, T = tyOf t := ⟨_, rfl⟩
          obtain ⟨V, hV⟩ : ∃ V, V = pay t := ⟨_, rfl⟩
          obtain ⟨N, hN⟩ : ∃ N, N = t.size := ⟨_, rfl⟩
          rw [← hT, ← hV, ← hN] at HS
          rw [← hT, ← hV]
          rw [← hN] at ht
          have HS2 := Lib.hid HS
          clear hme hT hV hN HS
          go_wp2_with fail
          refine (HS2.out _).mono ?_
          rintro e w2 ⟨rfl, bl⟩
          go_wp2_with fail
          go_ret2
          exact ⟨.inr ⟨HG.out, rfl⟩, below_trans hB bl hB.size⟩
      · have t1 : ((m : Int) != (s.size : Int)) = true := by simp; omega
        have HG : Hid (good s.data.toList = none) := good_rest HE.out (by intro h; have := congrArg List.length h; rw [List.length_drop, HL.out] at this; simp at this; omega)
        obtain ⟨T, hT⟩ : ∃ T, T = tyOf t := ⟨_, rfl⟩
        obtain ⟨V, hV⟩ : ∃ V, V = pay t := ⟨_, rfl⟩
        rw [← hT, ← hV]
        clear hme hT hV HS
        go_wp2_with fail
        go_ret2
        exact ⟨.inr ⟨HG.out, rfl⟩, hB⟩
    · have HG : Hid (good s.data.toList = none) := good_none e1
      have hB : Below w.heap.size w w1 := Below.only ((Below.refl _ _).alloc (Nat.le_refl _) _) o1 (Nat.le_refl _) (by simp)
      clear e1
      go_wp2_with fail
      go_ret2
      exact ⟨.inr ⟨HG.out, rfl⟩, hB⟩
  · have HG : Hid (good s.data.toList = none) := good_long (by simp; omega)
    go_enter Tryz.func59, Tryz.ntmps59
    go_wp2_with fail
    go_ret2
    exact ⟨.inr ⟨HG.out, rfl⟩, Below.refl _ _⟩

end Go.Proofs.YtmfmagfgcdaeeaaGreat.T1

/- The specification's size of a process, and when a text is one. -/
namespace Go.Proofs.YtmfmagfgcdaeeaaGreat.T1
open Go.RowKit
set_option maxRecDepth 100000

set_option maxHeartbeats 1000000 in
theorem tmSize0 (s : ByteArray) (HP : ∀ w, Calls Tryz.prog 101 #[.string s] w (PartsS [] w)) (w : World) :
    Calls Tryz.prog 123 #[.string s] w fun e w' => e = .returned (.int .i64 1) ∧ Below w.heap.size w w' := by
  have H := Lib.hid HP
  clear HP
  go_enter Tryz.func123, Tryz.ntmps123
  go_wp2_with fail
  refine (H.out _).mono ?_
  rintro e w1 ⟨rfl, bl⟩
  go_wp2_with fail
  refine wp_loop_rounds 1 ?_
  rw [rounds_succ]
  go_wp2_with fail
  go_ret
  exact ⟨rfl, bl⟩

set_option maxHeartbeats 1000000 in
theorem tmSize1 (s u : ByteArray) (n : Nat) (hn : n ≤ 1000) (HP : ∀ w, Calls Tryz.prog 101 #[.string s] w fun e w' => ∃ b, e = .returned (.slice (some ⟨b, 0, none⟩) 1 1) ∧ w.heap.size ≤ b ∧ w'.heap[b]? = some (.cells #[.string u] 9 (0, 0)) ∧ Below w.heap.size w w')
    (ih : ∀ w, Calls Tryz.prog 123 #[.string u] w fun e w' => e = .returned (.int .i64 (n : Int)) ∧ Below w.heap.size w w') (w : World) :
    Calls Tryz.prog 123 #[.string s] w fun e w' => e = .returned (.int .i64 (1 + (n : Int))) ∧ Below w.heap.size w w' := by
  have H := Lib.hid HP
  have IH := Lib.hid ih
  clear HP ih
  go_enter Tryz.func123, Tryz.ntmps123
  go_wp2_with fail
  refine (H.out _).mono ?_
  rintro e w1 ⟨b, rfl, hb, hh, bl⟩
  have c0 := cellOf1 hh
  clear hh
  go_wp2_with fail
  refine wp_loop_rounds 2 ?_
  rw [rounds_succ]
  go_wp2_with fail
  refine (IH.out _).mono ?_
  rintro e w2 ⟨rfl, bl2⟩
  clear c0
  go_wp2_with fail
  rw [rounds_succ]
  go_wp2_with fail
  go_ret
  exact ⟨rfl, below_trans bl bl2 bl.size⟩

set_option maxHeartbeats 1000000 in
theorem tmSize2 (s u v : ByteArray) (n m : Nat) (hn : n ≤ 1000) (hm : m ≤ 1000) (HP : ∀ w, Calls Tryz.prog 101 #[.string s] w fun e w' => ∃ b, e = .returned (.slice (some ⟨b, 0, none⟩) 2 2) ∧ w.heap.size ≤ b ∧ w'.heap[b]? = some (.cells #[.string u, .string v] 9 (0, 0)) ∧ Below w.heap.size w w')
    (ih : ∀ w, Calls Tryz.prog 123 #[.string u] w fun e w' => e = .returned (.int .i64 (n : Int)) ∧ Below w.heap.size w w') (ih2 : ∀ w, Calls Tryz.prog 123 #[.string v] w fun e w' => e = .returned (.int .i64 (m : Int)) ∧ Below w.heap.size w w') (w : World) :
    Calls Tryz.prog 123 #[.string s] w fun e w' => e = .returned (.int .i64 (1 + (n : Int) + (m : Int))) ∧ Below w.heap.size w w' := by
  have H := Lib.hid HP
  have IH := Lib.hid ih
  have IH2 := Lib.hid ih2
  clear HP ih ih2
  go_enter Tryz.func123, Tryz.ntmps123
  go_wp2_with fail
  refine (H.out _).mono ?_
  rintro e w1 ⟨b, rfl, hb, hh, bl⟩
  have c0 := cellOf2a hh
  have Hh := Lib.hid hh
  clear hh
  go_wp2_with fail
  refine wp_loop_rounds 3 ?_
  rw [rounds_succ]
  go_wp2_with fail
  refine (IH.out _).mono ?_
  rintro e w2 ⟨rfl, bl2⟩
  have h2 := (bl2.block b (lt_of_block Hh.out)).trans Hh.out
  clear c0
  have c1 := cellOf2b h2
  clear h2
  go_wp2_with fail
  rw [rounds_succ]
  go_wp2_with fail
  refine (IH2.out _).mono ?_
  rintro e w3 ⟨rfl, bl3⟩
  clear c1
  go_wp2_with fail
  rw [rounds_succ]
  go_wp2_with fail
  go_ret
  exact ⟨rfl, below_trans (below_trans bl bl2 bl.size) bl3 (Nat.le_trans bl.size bl2.size)⟩

theorem tmSize_any (t : Tm) : t.ok nmE = true → t.pr.length ≤ 700 → ∀ (w : World), Calls Tryz.prog 123 #[.string (S t)] w fun e w' => e = .returned (.int .i64 (t.size : Nat)) ∧ Below w.heap.size w w' := by
  have conv : ∀ (t : Tm) (n : Int), n = (t.size : Nat) → (∀ w, Calls Tryz.prog 123 #[.string (S t)] w fun e w' => e = .returned (.int .i64 n) ∧ Below w.heap.size w w') → ∀ w, Calls Tryz.prog 123 #[.string (S t)] w fun e w' => e = .returned (.int .i64 (t.size : Nat)) ∧ Below w.heap.size w w' := by
    intro t n h hc; rw [h] at hc; exact hc
  induction t with
  | nil => exact fun ho hl => tmSize0 _ (tmParts_any .nil ho hl)
  | snd a b p ih =>
    intro ho hl
    have hq := size_le_pr p
    have ho' := ho
    simp only [Tm.ok, Bool.and_eq_true] at ho'
    have hl' := hl
    simp only [Tm.pr, List.length_cons] at hl'
    exact conv _ _ (by simp only [Tm.size]; omega) (tmSize1 _ _ p.size (by omega) (tmParts_any (.snd a b p) ho hl) (ih ho'.2 (by omega)))
  | rcv a b p ih =>
    intro ho hl
    have hq := size_le_pr p
    have ho' := ho
    simp only [Tm.ok, Bool.and_eq_true] at ho'
    have hl' := hl
    simp only [Tm.pr, List.length_cons] at hl'
    exact conv _ _ (by simp only [Tm.size]; omega) (tmSize1 _ _ p.size (by omega) (tmParts_any (.rcv a b p) ho hl) (ih ho'.2 (by omega)))
  | mat a b p ih =>
    intro ho hl
    have hq := size_le_pr p
    have ho' := ho
    simp only [Tm.ok, Bool.and_eq_true] at ho'
    have hl' := hl
    simp only [Tm.pr, List.length_cons] at hl'
    exact conv _ _ (by simp only [Tm.size]; omega) (tmSize1 _ _ p.size (by omega) (tmParts_any (.mat a b p) ho hl) (ih ho'.2 (by omega)))
  | own x p ih =>
    intro ho hl
    have hq := size_le_pr p
    have ho' := ho
    simp only [Tm.ok, Bool.and_eq_true] at ho'
    have hl' := hl
    simp only [Tm.pr, List.length_cons] at hl'
    exact conv _ _ (by simp only [Tm.size]; omega) (tmSize1 _ _ p.size (by omega) (tmParts_any (.own x p) ho hl) (ih ho'.2 (by omega)))
  | tau p ih =>
    intro ho hl
    have hq := size_le_pr p
    have hl' := hl
    simp only [Tm.pr, List.length_cons] at hl'
    exact conv _ _ (by simp only [Tm.size]; omega) (tmSize1 _ _ p.size (by omega) (tmParts_any (.tau p) ho hl) (ih ho (by omega)))
  | rep p ih =>
    intro ho hl
    have hq := size_le_pr p
    have hl' := hl
    simp only [Tm.pr, List.length_cons] at hl'
    exact conv _ _ (by simp only [Tm.size]; omega) (tmSize1 _ _ p.size (by omega) (tmParts_any (.rep p) ho hl) (ih ho (by omega)))
  | sum p q ih ih2 =>
    intro ho hl
    have hq := size_le_pr p
    have hq2 := size_le_pr q
    have ho' := ho
    simp only [Tm.ok, Bool.and_eq_true] at ho'
    have hl' := hl
    simp only [Tm.pr, List.length_cons, List.length_append] at hl'
    exact conv _ _ (by simp only [Tm.size]; omega) (tmSize2 _ _ _ p.size q.size (by omega) (by omega) (tmParts_any (.sum p q) ho hl) (ih ho'.1 (by omega)) (ih2 ho'.2 (by omega)))
  | par p q ih ih2 =>
    intro ho hl
    have hq := size_le_pr p
    have hq2 := size_le_pr q
    have ho' := ho
    simp only [Tm.ok, Bool.and_eq_true] at ho'
    have hl' := hl
    simp only [Tm.pr, List.length_cons, List.length_append] at hl'
    exact conv _ _ (by simp only [Tm.size]; omega) (tmSize2 _ _ _ p.size q.size (by omega) (by omega) (tmParts_any (.par p q) ho hl) (ih ho'.1 (by omega)) (ih2 ho'.2 (by omega)))

/-! When a text is a process. -/
theorem ok_EL (t : Tm) (h : t.ok nmL = true) : t.ok nmE = true := by
  have k : ∀ c, nmL c = true → nmE c = true := fun c h => by simp [nmL, nmE] at h ⊢; omega
  induction t <;> simp_all [Tm.ok]
theorem ok_small (t : Tm) (h : t.ok nmE = true) (hs : t.pr.all smB = true) : t.ok nmL = true := by
  have k : ∀ c, nmE c = true → smB c = true → nmL c = true := fun c h h2 => by simp [nmL, nmE, smB] at h h2 ⊢; omega
  induction t <;> simp_all [Tm.ok, Tm.pr]
theorem small_ok (t : Tm) (h : t.ok nmL = true) : t.pr.all smB = true := by
  have k : ∀ c, nmL c = true → smB c = true := fun c h => by simp [nmL, smB] at h ⊢; omega
  induction t <;> simp_all [Tm.ok, Tm.pr, smB]
/-- Is a text a process? -/
noncomputable def goodB (s : ByteArray) : Bool := (good s.data.toList).isSome

theorem good_E {l : List UInt8} {t : Tm} (h : good l = some t) : E nmE l = some (t, []) ∧ l.all smB = true := by
  obtain ⟨_, h2, h3, _⟩ := good_out h
  exact ⟨(E_some nmE_nm).2 ⟨by rw [h2, List.append_nil], ok_EL t h3⟩, by rw [h2]; exact small_ok t h3⟩
theorem goodB_no {s : ByteArray} (h : ∀ t, good s.data.toList ≠ some t) : goodB s = false := by
  unfold goodB
  cases hg : good s.data.toList with
  | none => rfl
  | some t => exact absurd hg (h t)
theorem goodB_yes {s : ByteArray} {t : Tm} (h : good s.data.toList = some t) : goodB s = true := by unfold goodB; rw [h]; rfl
theorem S_of {s : ByteArray} {t : Tm} (h : s.data.toList = t.pr) : s = S t := by
  apply ByteArray.ext
  apply Array.ext'
  exact h

set_option maxHeartbeats 1000000 in
theorem tmGood_any (s : ByteArray) (w : World) (hmax : s.size ≤ 9223372036854775807) : Calls Tryz.prog 66 #[.string s] w fun e w' => e = .returned (.bool (goodB s)) ∧ Below w.heap.size w w' := by
  have HL : Hid (s.data.toList.length = s.size) := by simp [Hid]
  by_cases hs : s.size ≤ 300
  · have HSM := fun w => tmSmall_any s w hs
    cases hsm : allSm s with
    | false =>
      have HG : Hid (goodB s = false) := goodB_no (fun t h => by have := (good_E h).2; rw [show s.data.toList.all smB = allSm s from rfl, hsm] at this; cases this)
      rw [hsm] at HSM
      have H1 := Lib.hid HSM
      clear HSM hsm
      go_enter Tryz.func66, Tryz.ntmps66
      go_wp2_with fail
      refine (H1.out _).mono ?_
      rintro e w1 ⟨rfl, rfl⟩
      go_wp2_with fail
      go_ret
      exact ⟨by rw [HG.out]; rfl, Below.refl _ _⟩
    | true =>
      rw [hsm] at HSM
      have H1 := Lib.hid HSM
      have HS : Hid (s.data.toList.all smB = true) := hsm
      clear HSM hsm
      have HEN := fun w => tmEnd_any s (by omega) 710 0 w (by omega) (by omega)
      rcases endOf_cases nmE nmE_nm s 0 with ⟨e1, E1⟩ | ⟨t, m, hm1, hm2, e1, E1⟩
      · have HG : Hid (goodB s = false) := goodB_no (fun t h => by have := (good_E h).1; rw [List.drop_zero] at E1; rw [E1] at this; cases this)
        rw [e1] at HEN
        have H2 : Hid (∀ w, Calls Tryz.prog 122 #[.string s, .int .i64 0] w fun e w' => e = .returned (.int .i64 (-1)) ∧ w = w') := HEN
        have t1 : ((-1 : Int) == (s.size : Int)) = false := by rw [beq_eq_false_iff_ne]; omega
        clear HEN e1 E1
        go_enter Tryz.func66, Tryz.ntmps66
        go_wp2_with fail
        refine (H1.out _).mono ?_
        rintro e w1 ⟨rfl, rfl⟩
        go_wp2_with fail
        refine (H2.out _).mono ?_
        rintro e w1 ⟨rfl, rfl⟩
        go_wp2_with fail
        go_ret
        exact ⟨by rw [HG.out]; rfl, Below.refl _ _⟩
      · rw [e1] at HEN
        have H2 : Hid (∀ w, Calls Tryz.prog 122 #[.string s, .int .i64 0] w fun e w' => e = .returned (.int .i64 (m : Int)) ∧ w = w') := HEN
        rw [List.drop_zero] at E1
        clear HEN e1
        by_cases hms : m = s.size
        · rw [List.drop_of_length_le (by rw [HL.out]; omega)] at E1
          have hr := (E_some nmE_nm).1 E1
          have hl : s.data.toList = t.pr := by have := hr.1; rw [List.append_nil] at this; exact this
          have hokL := ok_small t hr.2 (by rw [← hl]; exact HS.out)
          have hlen : t.pr.length ≤ 300 := by rw [← hl, HL.out]; exact hs
          have H3 := tmSize_any t hr.2 (by omega)
          rw [← S_of hl] at H3
          have EL : E nmL s.data.toList = some (t, []) := (E_some nmL_nm).2 ⟨by rw [hl, List.append_nil], hokL⟩
          have t1 : ((m : Int) == (s.size : Int)) = true := by rw [hms]; simp
          by_cases hts : t.size ≤ 60
          · have HG : Hid (goodB s = true) := goodB_yes (good_yes (by rw [HL.out]; exact hs) EL hts)
            obtain ⟨N, hN⟩ : ∃ N, N = t.size := ⟨_, rfl⟩
            rw [← hN] at H3 hts
            have H3' := Lib.hid H3
            clear E1 hr hl hokL hlen H3 EL hms hN
            go_enter Tryz.func66, Tryz.ntmps66
            go_wp2_with fail
            refine (H1.out _).mono ?_
            rintro e w1 ⟨rfl, rfl⟩
            go_wp2_with fail
            refine (H2.out _).mono ?_
            rintro e w1 ⟨rfl, rfl⟩
            go_wp2_with fail
            refine (H3'.out _).mono ?_
            rintro e w1 ⟨rfl, bl⟩
            go_wp2_with fail
            go_ret
            exact ⟨by rw [HG.out]; exact ret_bool (a := decide ((N : Int) ≤ 60)) (by simp; omega), bl⟩
          · have HG : Hid (goodB s = false) := goodB_no (fun t' h => by rw [good_great EL (by omega)] at h; cases h)
            obtain ⟨N, hN⟩ : ∃ N, N = t.size := ⟨_, rfl⟩
            rw [← hN] at H3 hts
            have H3' := Lib.hid H3
            clear E1 hr hl hokL hlen H3 EL hms hN
            go_enter Tryz.func66, Tryz.ntmps66
            go_wp2_with fail
            refine (H1.out _).mono ?_
            rintro e w1 ⟨rfl, rfl⟩
            go_wp2_with fail
            refine (H2.out _).mono ?_
            rintro e w1 ⟨rfl, rfl⟩
            go_wp2_with fail
            refine (H3'.out _).mono ?_
            rintro e w1 ⟨rfl, bl⟩
            go_wp2_with fail
            go_ret
            exact ⟨by rw [HG.out]; exact ret_bool (a := decide ((N : Int) ≤ 60)) (by simp; omega), bl⟩
        · have HG : Hid (goodB s = false) := goodB_no (fun t' h => by
            have := (good_E h).1
            rw [E1] at this
            have h5 := congrArg (Option.map (fun x : Tm × List UInt8 => x.2.length)) this
            simp at h5
            omega)
          have t1 : ((m : Int) == (s.size : Int)) = false := by rw [beq_eq_false_iff_ne]; omega
          clear E1 hms
          go_enter Tryz.func66, Tryz.ntmps66
          go_wp2_with fail
          refine (H1.out _).mono ?_
          rintro e w1 ⟨rfl, rfl⟩
          go_wp2_with fail
          refine (H2.out _).mono ?_
          rintro e w1 ⟨rfl, rfl⟩
          go_wp2_with fail
          go_ret
          exact ⟨by rw [HG.out]; rfl, Below.refl _ _⟩
  · have HG : Hid (goodB s = false) := goodB_no (fun t h => by have := (good_out h).1; rw [HL.out] at this; omega)
    go_enter Tryz.func66, Tryz.ntmps66
    go_wp2_with fail
    go_ret
    exact ⟨by rw [HG.out]; rfl, Below.refl _ _⟩

end Go.Proofs.YtmfmagfgcdaeeaaGreat.T1
