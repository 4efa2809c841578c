/- Texts of the proof, put together: SpecB. No conditions. -/
import Derived.Test.YtinkioodkgccjaaDoorHag
import Derived.RegionTactic
import Derived.BigRegion
import Derived.OneCell
import Derived.IntWalk

/- The specification's look at a process in a text: the kind of its first sign, what stands in front of its part, its parts. -/
namespace Go.Proofs.YtinkioodkgccjaaDoor.T1
open Go.RowKit
set_option maxRecDepth 100000

/-- The text of a tree. -/
def S (t : Tm) : ByteArray := ⟨t.pr.toArray⟩
theorem S_list (t : Tm) : (S t).data.toList = t.pr := rfl
theorem S_size (t : Tm) : (S t).size = t.pr.length := by simp [S, ByteArray.size]
theorem byte_of {s : ByteArray} {l : List UInt8} (h : s.data.toList = l) (i : Nat) (hi : i < s.size) (hl : i < l.length) : s[i] = l[i] := by
  subst h; rfl
theorem size_of_l {s : ByteArray} {l : List UInt8} (h : s.data.toList = l) : s.size = l.length := by subst h; simp
theorem endOf_1 {s : ByteArray} {p : Tm} {m : UInt8} {r : List UInt8} (h : s.data.toList = 40 :: (p.pr ++ m :: r)) (ho : p.ok nmE = true) : endOf nmE s 1 = ((p.pr.length + 1 : Nat) : Int) := by
  have he : E nmE (s.data.toList.drop 1) = some (p, m :: r) := (E_some nmE_nm).2 ⟨by rw [h]; simp, ho⟩
  unfold endOf
  rw [he]
  have := size_of_l h
  simp at this
  simp only [List.length_cons]
  omega
theorem mid_at {s : ByteArray} {p : Tm} {m : UInt8} {r : List UInt8} (h : s.data.toList = 40 :: (p.pr ++ m :: r)) (hi : p.pr.length + 1 < s.size) : s[p.pr.length + 1] = m := by
  rw [byte_of h _ hi (by rw [size_of_l h] at hi; exact hi)]
  simp

set_option maxHeartbeats 1000000 in
theorem kind_nil (s : ByteArray) (w : World) (hs : s.size ≤ 700) (h : s.data.toList = [48]) :
    Calls Tryd.prog 50 #[.string s] w fun e w' => e = .returned (.int .u8 48) ∧ w = w' := by
  have z := size_of_l h
  simp only [List.length_cons] at z
  have hz : 0 < s.size := by omega
  have c0 : (s[0].toNat : Int) = 48 := by rw [byte_of h 0 hz (by simp)]; rfl
  have Hc := Lib.hid c0
  have b48 : ((s[0].toNat : Int) == 48) = true := by rw [c0]; rfl
  clear c0
  go_enter Tryd.func50, Tryd.ntmps50
  go_wp2_with fail
  go_ret
  exact ⟨ret_int Hc.out, rfl⟩

set_option maxHeartbeats 1000000 in
theorem kind_rep (r : List UInt8) (s : ByteArray) (w : World) (hs : s.size ≤ 700) (h : s.data.toList = 42 :: r) :
    Calls Tryd.prog 50 #[.string s] w fun e w' => e = .returned (.int .u8 42) ∧ w = w' := by
  have z := size_of_l h
  simp only [List.length_cons] at z
  have hz : 0 < s.size := by omega
  have c0 : (s[0].toNat : Int) = 42 := by rw [byte_of h 0 hz (by simp)]; rfl
  have Hc := Lib.hid c0
  have b48 : ((s[0].toNat : Int) == 48) = false := by rw [c0]; rfl
  have b42 : ((s[0].toNat : Int) == 42) = true := by rw [c0]; rfl
  clear c0
  go_enter Tryd.func50, Tryd.ntmps50
  go_wp2_with fail
  go_ret
  exact ⟨ret_int Hc.out, rfl⟩

set_option maxHeartbeats 1000000 in
theorem kind_tau (r : List UInt8) (s : ByteArray) (w : World) (hs : s.size ≤ 700) (h : s.data.toList = 126 :: r) :
    Calls Tryd.prog 50 #[.string s] w fun e w' => e = .returned (.int .u8 126) ∧ w = w' := by
  have z := size_of_l h
  simp only [List.length_cons] at z
  have hz : 0 < s.size := by omega
  have c0 : (s[0].toNat : Int) = 126 := by rw [byte_of h 0 hz (by simp)]; rfl
  have Hc := Lib.hid c0
  have b48 : ((s[0].toNat : Int) == 48) = false := by rw [c0]; rfl
  have b42 : ((s[0].toNat : Int) == 42) = false := by rw [c0]; rfl
  have b126 : ((s[0].toNat : Int) == 126) = true := by rw [c0]; rfl
  clear c0
  go_enter Tryd.func50, Tryd.ntmps50
  go_wp2_with fail
  go_ret
  exact ⟨ret_int Hc.out, rfl⟩

set_option maxHeartbeats 1000000 in
theorem kind_own (r : List UInt8) (s : ByteArray) (w : World) (hs : s.size ≤ 700) (h : s.data.toList = 35 :: r) :
    Calls Tryd.prog 50 #[.string s] w fun e w' => e = .returned (.int .u8 35) ∧ w = w' := by
  have z := size_of_l h
  simp only [List.length_cons] at z
  have hz : 0 < s.size := by omega
  have c0 : (s[0].toNat : Int) = 35 := by rw [byte_of h 0 hz (by simp)]; rfl
  have Hc := Lib.hid c0
  have b48 : ((s[0].toNat : Int) == 48) = false := by rw [c0]; rfl
  have b42 : ((s[0].toNat : Int) == 42) = false := by rw [c0]; rfl
  have b126 : ((s[0].toNat : Int) == 126) = false := by rw [c0]; rfl
  have b35 : ((s[0].toNat : Int) == 35) = true := by rw [c0]; rfl
  clear c0
  go_enter Tryd.func50, Tryd.ntmps50
  go_wp2_with fail
  go_ret
  exact ⟨ret_int Hc.out, rfl⟩

set_option maxHeartbeats 1000000 in
theorem kind_mat (r : List UInt8) (s : ByteArray) (w : World) (hs : s.size ≤ 700) (h : s.data.toList = 91 :: r) :
    Calls Tryd.prog 50 #[.string s] w fun e w' => e = .returned (.int .u8 61) ∧ w = w' := by
  have z := size_of_l h
  simp only [List.length_cons] at z
  have hz : 0 < s.size := by omega
  have c0 : (s[0].toNat : Int) = 91 := by rw [byte_of h 0 hz (by simp)]; rfl
  have b48 : ((s[0].toNat : Int) == 48) = false := by rw [c0]; rfl
  have b42 : ((s[0].toNat : Int) == 42) = false := by rw [c0]; rfl
  have b126 : ((s[0].toNat : Int) == 126) = false := by rw [c0]; rfl
  have b35 : ((s[0].toNat : Int) == 35) = false := by rw [c0]; rfl
  have b91 : ((s[0].toNat : Int) == 91) = true := by rw [c0]; rfl
  clear c0
  go_enter Tryd.func50, Tryd.ntmps50
  go_wp2_with fail
  go_ret
  exact ⟨rfl, rfl⟩

set_option maxHeartbeats 1000000 in
theorem kind_msg (a m : UInt8) (r : List UInt8) (s : ByteArray) (w : World) (hs : s.size ≤ 700) (h : s.data.toList = a :: m :: r) (ha : nmE a = true) :
    Calls Tryd.prog 50 #[.string s] w fun e w' => e = .returned (.int .u8 (m.toNat : Int)) ∧ w = w' := by
  have z := size_of_l h
  simp only [List.length_cons] at z
  have hz : 1 < s.size := by omega
  have hq := nmE_nm a ha
  have hk : (s[1].toNat : Int) = (m.toNat : Int) := by rw [byte_of h 1 hz (by simp)]; rfl
  have e0 : s[0] = a := by rw [byte_of h 0 (by omega) (by simp)]; rfl
  have b48 : ((s[0].toNat : Int) == 48) = false := by rw [beq_eq_false_iff_ne, e0]; intro h'; exact hq.1 (by rw [← UInt8.toNat_inj]; simp; omega)
  have b42 : ((s[0].toNat : Int) == 42) = false := by rw [beq_eq_false_iff_ne, e0]; intro h'; exact hq.2.1 (by rw [← UInt8.toNat_inj]; simp; omega)
  have b126 : ((s[0].toNat : Int) == 126) = false := by rw [beq_eq_false_iff_ne, e0]; intro h'; exact hq.2.2.1 (by rw [← UInt8.toNat_inj]; simp; omega)
  have b35 : ((s[0].toNat : Int) == 35) = false := by rw [beq_eq_false_iff_ne, e0]; intro h'; exact hq.2.2.2.1 (by rw [← UInt8.toNat_inj]; simp; omega)
  have b91 : ((s[0].toNat : Int) == 91) = false := by rw [beq_eq_false_iff_ne, e0]; intro h'; exact hq.2.2.2.2.1 (by rw [← UInt8.toNat_inj]; simp; omega)
  have b40 : ((s[0].toNat : Int) == 40) = false := by rw [beq_eq_false_iff_ne, e0]; intro h'; exact hq.2.2.2.2.2 (by rw [← UInt8.toNat_inj]; simp; omega)
  have Hk := Lib.hid hk
  clear hq e0 hk
  go_enter Tryd.func50, Tryd.ntmps50
  go_wp2_with fail
  go_ret
  exact ⟨ret_int Hk.out, rfl⟩

set_option maxHeartbeats 1000000 in
theorem kind_pair (p : Tm) (m : UInt8) (r : List UInt8) (s : ByteArray) (w : World) (hs : s.size ≤ 700) (h : s.data.toList = 40 :: (p.pr ++ m :: r)) (ho : p.ok nmE = true) :
    Calls Tryd.prog 50 #[.string s] w fun e w' => e = .returned (.int .u8 (m.toNat : Int)) ∧ w = w' := by
  have z := size_of_l h
  simp only [List.length_cons, List.length_append] at z
  have hz : 0 < s.size := by omega
  have hm : p.pr.length + 1 < s.size := by omega
  have c0 : (s[0].toNat : Int) = 40 := by rw [byte_of h 0 hz (by simp)]; rfl
  have b48 : ((s[0].toNat : Int) == 48) = false := by rw [c0]; rfl
  have b42 : ((s[0].toNat : Int) == 42) = false := by rw [c0]; rfl
  have b126 : ((s[0].toNat : Int) == 126) = false := by rw [c0]; rfl
  have b35 : ((s[0].toNat : Int) == 35) = false := by rw [c0]; rfl
  have b91 : ((s[0].toNat : Int) == 91) = false := by rw [c0]; rfl
  have b40 : ((s[0].toNat : Int) == 40) = true := by rw [c0]; rfl
  have hc := tmEnd_any s hs 710 1 w (by omega) (by omega)
  rw [endOf_1 h ho] at hc
  obtain ⟨k, hk'⟩ : ∃ k, k = p.pr.length := ⟨_, rfl⟩
  rw [← hk'] at hc
  have hm' : k + 1 < s.size := by omega
  have hk : (s[k + 1].toNat : Int) = (m.toNat : Int) := by subst hk'; rw [mid_at h hm']
  have HC : Hid (Calls Tryd.prog 27 #[.string s, .int .i64 1] w fun e w' => e = .returned (.int .i64 ((k : Int) + 1)) ∧ w = w') := hc
  have Hk := Lib.hid hk
  clear c0 hk hc hm z hk' h
  go_enter Tryd.func50, Tryd.ntmps50
  go_wp2_with fail
  refine (HC.out).mono ?_
  rintro e w' ⟨rfl, rfl⟩
  go_wp2_with fail
  go_ret
  exact ⟨ret_int Hk.out, rfl⟩

theorem tmKind_any (t : Tm) (ho : t.ok nmE = true) (hl : t.pr.length ≤ 700) (w : World) : Calls Tryd.prog 50 #[.string (S t)] w fun e w' => e = .returned (.int .u8 (t.kind.toNat : Int)) ∧ w = w' := by
  have hs : (S t).size ≤ 700 := by rw [S_size]; exact hl
  cases t with
  | nil => exact kind_nil _ w hs rfl
  | snd a b p => simp only [Tm.ok, Bool.and_eq_true] at ho; exact kind_msg a 33 _ _ w hs rfl ho.1.1
  | rcv a b p => simp only [Tm.ok, Bool.and_eq_true] at ho; exact kind_msg a 63 _ _ w hs rfl ho.1.1
  | tau p => exact kind_tau _ _ w hs rfl
  | sum p q => simp only [Tm.ok, Bool.and_eq_true] at ho; exact kind_pair p 43 _ _ w hs rfl ho.1
  | par p q => simp only [Tm.ok, Bool.and_eq_true] at ho; exact kind_pair p 38 _ _ w hs rfl ho.1
  | own x p => exact kind_own _ _ w hs rfl
  | mat a b p => exact kind_mat _ _ w hs rfl
  | rep p => exact kind_rep _ _ w hs rfl

/-- How many bytes stand in front of the first part. -/
def Tm.hd : Tm → Nat
  | .rep _ => 1
  | .sum _ _ => 1
  | .par _ _ => 1
  | .tau _ => 2
  | .own _ _ => 3
  | .mat _ _ _ => 5
  | _ => 4

theorem new_block0 (w : World) (o : Obj) : (w.alloc o).heap[w.heap.size]? = some o := by
  show (w.heap.push o)[w.heap.size]? = _
  rw [Array.getElem?_push, if_pos rfl]

set_option maxHeartbeats 1000000 in
theorem tmHead_any (t : Tm) (ho : t.ok nmE = true) (hl : t.pr.length ≤ 700) (w : World) : Calls Tryd.prog 64 #[.string (S t)] w fun e w' => e = .returned (.int .i64 (t.hd : Nat)) ∧ w = w' := by
  have HK := tmKind_any t ho hl w
  obtain ⟨s, hs⟩ : ∃ s, s = S t := ⟨_, rfl⟩
  rw [← hs] at HK ⊢
  clear hs hl ho
  cases t
  all_goals
    simp only [Tm.kind, Tm.hd] at HK ⊢
    have H := Lib.hid HK
    clear HK
    go_enter Tryd.func64, Tryd.ntmps64
    go_wp2_with fail
    refine (H.out).mono ?_
    rintro e w' ⟨rfl, rfl⟩
    go_wp2_with fail
    go_ret
    exact ⟨rfl, rfl⟩

/-- A slice of the parts' texts, in memory of the call's own. -/
def PartsS (ps : List Tm) (w : World) (e : Ending) (w' : World) : Prop :=
  match ps with
  | [] => e = .returned (.slice none 0 0) ∧ Below w.heap.size w w'
  | [p] => ∃ b, e = .returned (.slice (some ⟨b, 0, none⟩) 1 1) ∧ w.heap.size ≤ b ∧ w'.heap[b]? = some (.cells #[.string (S p)] 9 (0, 0)) ∧ Below w.heap.size w w'
  | [p, q] => ∃ b, e = .returned (.slice (some ⟨b, 0, none⟩) 2 2) ∧ w.heap.size ≤ b ∧ w'.heap[b]? = some (.cells #[.string (S p), .string (S q)] 9 (0, 0)) ∧ Below w.heap.size w w'
  | _ => False

theorem ext_S {s : ByteArray} {l : List UInt8} (h : s.data.toList = l) (i j : Nat) (t : Tm) (ht : (l.drop i).take (j - i) = t.pr) : s.extract i j = S t := by
  apply ByteArray.ext
  apply Array.ext'
  show (s.extract i j).data.toList = t.pr
  rw [← ht, ← h]
  simp [ByteArray.data_extract, Array.toList_extract]

set_option maxHeartbeats 1000000 in
theorem parts_one (t p : Tm) (w : World) (_hs : (S t).size ≤ 700) (hd : t.hd < (S t).size) (hx : (S t).extract t.hd (S t).size = S p) (hk : t.kind ≠ 48 ∧ t.kind ≠ 43 ∧ t.kind ≠ 38)
    (HK : ∀ w, Calls Tryd.prog 50 #[.string (S t)] w fun e w' => e = .returned (.int .u8 (t.kind.toNat : Int)) ∧ w = w') (HH : ∀ w, Calls Tryd.prog 64 #[.string (S t)] w fun e w' => e = .returned (.int .i64 (t.hd : Nat)) ∧ w = w') :
    Calls Tryd.prog 46 #[.string (S t)] w (PartsS [p] w) := by
  have b1 : ((t.kind.toNat : Int) == 48) = false := by rw [beq_eq_false_iff_ne]; intro h'; exact hk.1 (by rw [← UInt8.toNat_inj]; simp; omega)
  have b2 : ((t.kind.toNat : Int) == 43) = false := by rw [beq_eq_false_iff_ne]; intro h'; exact hk.2.1 (by rw [← UInt8.toNat_inj]; simp; omega)
  have b3 : ((t.kind.toNat : Int) == 38) = false := by rw [beq_eq_false_iff_ne]; intro h'; exact hk.2.2 (by rw [← UInt8.toNat_inj]; simp; omega)
  obtain ⟨s, es⟩ : ∃ s, s = S t := ⟨_, rfl⟩
  obtain ⟨v, ev⟩ : ∃ v, v = S p := ⟨_, rfl⟩
  obtain ⟨n, en⟩ : ∃ n, n = t.hd := ⟨_, rfl⟩
  obtain ⟨k, ek⟩ : ∃ k, k = (t.kind.toNat : Int) := ⟨_, rfl⟩
  rw [← es, ← en] at hd
  rw [← es] at _hs
  rw [← es, ← en, ← ev] at hx
  rw [← ek] at b1 b2 b3
  have HK2 : Hid (∀ w, Calls Tryd.prog 50 #[.string s] w fun e w' => e = .returned (.int .u8 k) ∧ w = w') := by rw [es, ek]; exact HK
  have HH2 : Hid (∀ w, Calls Tryd.prog 64 #[.string s] w fun e w' => e = .returned (.int .i64 (n : Nat)) ∧ w = w') := by rw [es, en]; exact HH
  have EV := Lib.hid ev
  rw [← es]
  clear es ev en ek HK HH hk
  go_enter Tryd.func46, Tryd.ntmps46
  go_wp2_with fail
  refine (HK2.out _).mono ?_
  rintro e w' ⟨rfl, rfl⟩
  go_wp2_with fail
  refine (HH2.out _).mono ?_
  rintro e w' ⟨rfl, rfl⟩
  go_wp2_with fail
  go_ret
  exact ⟨_, rfl, Nat.le_refl _, by rw [← EV.out]; exact new_block0 _ _, (Below.refl _ _).alloc (Nat.le_refl _) _⟩

theorem parts_none (w : World) : Calls Tryd.prog 46 #[.string (S .nil)] w (PartsS [] w) := by
  have HK := tmKind_any .nil rfl (by simp [Tm.pr])
  obtain ⟨s, es⟩ : ∃ s, s = S .nil := ⟨_, rfl⟩
  have HK2 : Hid (∀ w, Calls Tryd.prog 50 #[.string s] w fun e w' => e = .returned (.int .u8 48) ∧ w = w') := by rw [es]; exact HK
  rw [← es]
  clear es HK
  go_enter Tryd.func46, Tryd.ntmps46
  go_wp2_with fail
  refine (HK2.out _).mono ?_
  rintro e w' ⟨rfl, rfl⟩
  go_wp2_with fail
  go_ret
  exact ⟨rfl, Below.refl _ _⟩

set_option maxHeartbeats 1000000 in
theorem parts_two (t p q : Tm) (m : Int) (w : World) (hs : (S t).size ≤ 700) (hm : m = 43 ∨ m = 38) (hsz : (S t).size = p.pr.length + q.pr.length + 3) (hx : (S t).extract 1 (p.pr.length + 1) = S p) (hy : (S t).extract (p.pr.length + 1 + 1) ((S t).size - 1) = S q)
    (HK : ∀ w, Calls Tryd.prog 50 #[.string (S t)] w fun e w' => e = .returned (.int .u8 m) ∧ w = w') (HE : ∀ w, Calls Tryd.prog 27 #[.string (S t), .int .i64 1] w fun e w' => e = .returned (.int .i64 ((p.pr.length + 1 : Nat) : Int)) ∧ w = w') :
    Calls Tryd.prog 46 #[.string (S t)] w (PartsS [p, q] w) := by
  have T : ((m == 43) = true ∧ (m == 48) = false) ∨ ((m == 43) = false ∧ (m == 48) = false ∧ (m == 38) = true) := by rcases hm with rfl | rfl <;> decide
  obtain ⟨s, es⟩ : ∃ s, s = S t := ⟨_, rfl⟩
  obtain ⟨v, ev⟩ : ∃ v, v = S p := ⟨_, rfl⟩
  obtain ⟨u, eu⟩ : ∃ u, u = S q := ⟨_, rfl⟩
  obtain ⟨k, ek⟩ : ∃ k, k = p.pr.length := ⟨_, rfl⟩
  rw [← es] at hs hsz
  rw [← es, ← ev, ← ek] at hx
  rw [← es, ← eu, ← ek] at hy
  have h1 : k + 2 ≤ s.size - 1 := by omega
  have h2 : 3 ≤ s.size := by omega
  have HK2 : Hid (∀ w, Calls Tryd.prog 50 #[.string s] w fun e w' => e = .returned (.int .u8 m) ∧ w = w') := by rw [es]; exact HK
  have HE2 : Hid (∀ w, Calls Tryd.prog 27 #[.string s, .int .i64 1] w fun e w' => e = .returned (.int .i64 ((k : Int) + 1)) ∧ w = w') := by rw [es, ek]; exact HE
  have EV := Lib.hid ev
  have EU := Lib.hid eu
  rw [← es]
  clear es ev eu ek HK HE hm hsz
  have w1 : IntKind.i64.wrap ((k : Int) + 1 + 1) = (k : Int) + 1 + 1 := IntWalk.i64_in _ (by omega)
  have w2 : IntKind.i64.wrap ((s.size : Int) - 1) = (s.size : Int) - 1 := IntWalk.i64_in _ (by omega)
  rcases T with ⟨T1, T2⟩ | ⟨T1, T2, T3⟩
  all_goals
    go_enter Tryd.func46, Tryd.ntmps46
    go_wp2_with fail
    refine (HK2.out _).mono ?_
    rintro e w' ⟨rfl, rfl⟩
    go_wp2_with fail
    refine (HE2.out _).mono ?_
    rintro e w' ⟨rfl, rfl⟩
    go_wp2_with fail
    go_region
    all_goals go_wp2_with fail
    all_goals go_ret
    all_goals exact ⟨_, rfl, Nat.le_refl _, by rw [← EV.out, ← EU.out]; exact new_block0 _ _, ((Below.refl _ _).alloc (Nat.le_refl _) _).drew⟩

theorem pr_take (l : List UInt8) (n : Nat) (h : l.length ≤ n) : l.take n = l := List.take_of_length_le h
theorem ext_pre {t p : Tm} {pre : List UInt8} (h : t.pr = pre ++ p.pr) : (S t).extract pre.length (S t).size = S p :=
  ext_S (S_list t) _ _ p (by rw [h, List.drop_left, S_size, h, List.length_append]; exact pr_take _ _ (by omega))
theorem ext_l {t p : Tm} {m : UInt8} {r : List UInt8} (h : t.pr = 40 :: (p.pr ++ m :: r)) : (S t).extract 1 (p.pr.length + 1) = S p :=
  ext_S (S_list t) _ _ p (by rw [h, List.drop_succ_cons, List.drop_zero, Nat.add_sub_cancel, List.take_left])
theorem ext_r {t p q : Tm} {m : UInt8} (h : t.pr = 40 :: (p.pr ++ m :: (q.pr ++ [41]))) : (S t).extract (p.pr.length + 1 + 1) ((S t).size - 1) = S q :=
  ext_S (S_list t) _ _ q (by
    have e : t.pr = (40 :: p.pr ++ [m]) ++ (q.pr ++ [41]) := by rw [h]; simp
    have l1 : (40 :: p.pr ++ [m]).length = p.pr.length + 1 + 1 := by simp
    rw [S_size, e, ← l1, List.drop_left, List.length_append]
    have : (40 :: p.pr ++ [m]).length + (q.pr ++ [41]).length - 1 - (40 :: p.pr ++ [m]).length = q.pr.length := by simp
    rw [this, List.take_left])

theorem end_pair {t p : Tm} {m : UInt8} {r : List UInt8} (h : t.pr = 40 :: (p.pr ++ m :: r)) (ho : p.ok nmE = true) (hl : t.pr.length ≤ 700) (w : World) :
    Calls Tryd.prog 27 #[.string (S t), .int .i64 1] w fun e w' => e = .returned (.int .i64 ((p.pr.length + 1 : Nat) : Int)) ∧ w = w' := by
  have hc := tmEnd_any (S t) (by rw [S_size]; exact hl) 710 1 w (by omega) (by omega)
  rw [endOf_1 (s := S t) h ho] at hc
  exact hc

theorem tmParts_any (t : Tm) (ho : t.ok nmE = true) (hl : t.pr.length ≤ 700) (w : World) : Calls Tryd.prog 46 #[.string (S t)] w (PartsS t.parts w) := by
  have hs : (S t).size ≤ 700 := by rw [S_size]; exact hl
  have HK := tmKind_any t ho hl
  have HH := tmHead_any t ho hl
  have hz := S_size t
  cases t with
  | nil => exact parts_none w
  | snd a b p => exact parts_one _ p w hs (by rw [hz]; have := pr_pos p; simp [Tm.pr, Tm.hd]; omega) (ext_pre (pre := [a, 33, b, 46]) rfl) (by simp only [Tm.kind]; decide) HK HH
  | rcv a b p => exact parts_one _ p w hs (by rw [hz]; have := pr_pos p; simp [Tm.pr, Tm.hd]; omega) (ext_pre (pre := [a, 63, b, 46]) rfl) (by simp only [Tm.kind]; decide) HK HH
  | tau p => exact parts_one _ p w hs (by rw [hz]; have := pr_pos p; simp [Tm.pr, Tm.hd]; omega) (ext_pre (pre := [126, 46]) rfl) (by simp only [Tm.kind]; decide) HK HH
  | sum p q =>
    simp only [Tm.ok, Bool.and_eq_true] at ho
    exact parts_two _ p q 43 w hs (.inl rfl) (by rw [hz]; simp [Tm.pr]; omega) (ext_l rfl) (ext_r rfl) HK (end_pair rfl ho.1 hl)
  | par p q =>
    simp only [Tm.ok, Bool.and_eq_true] at ho
    exact parts_two _ p q 38 w hs (.inr rfl) (by rw [hz]; simp [Tm.pr]; omega) (ext_l rfl) (ext_r rfl) HK (end_pair rfl ho.1 hl)
  | own x p => exact parts_one _ p w hs (by rw [hz]; have := pr_pos p; simp [Tm.pr, Tm.hd]; omega) (ext_pre (pre := [35, x, 46]) rfl) (by simp only [Tm.kind]; decide) HK HH
  | mat a b p => exact parts_one _ p w hs (by rw [hz]; have := pr_pos p; simp [Tm.pr, Tm.hd]; omega) (ext_pre (pre := [91, a, 61, b, 93]) rfl) (by simp only [Tm.kind]; decide) HK HH
  | rep p => exact parts_one _ p w hs (by rw [hz]; have := pr_pos p; simp [Tm.pr, Tm.hd]; omega) (ext_pre (pre := [42]) rfl) (by simp only [Tm.kind]; decide) HK HH

end Go.Proofs.YtinkioodkgccjaaDoor.T1
