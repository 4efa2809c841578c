/- How deep a formula is: the program's methods; the specification's look at a formula in a text. MADE BY gen_Fi.py. -/
import Derived.Test.YtllnplabiehcgaaFh
import Derived.LoopN
namespace Go.Proofs.Ytllnplabiehcgaa.T1
open Go.RowKit
set_option maxRecDepth 100000
set_option linter.unusedVariables false
set_option linter.unusedSimpArgs false

/-- Asked for its depth, what answers, and what. -/
def DepF (T : TypeId) (V : Value) (n : Nat) : Prop := (∃ (F : FuncId) (R : Value), (∀ k w, (method (k + 1) T V "loop.example/g01175/impl.depth").run Try.prog w = .ok (F, R) w) ∧ (∀ k w, (nilAhead (k + 1) T V "loop.example/g01175/impl.depth").run Try.prog w = .ok (some false) w) ∧ (∀ args w, (callFunc F args).run Try.prog w = .ok (.enter F args) w) ∧ ∀ w, Calls Try.prog F #[R] w fun e w' => e = .returned (.int .i64 (n : Int)) ∧ Below w.heap.size w w')
theorem fdeep_le (f : Fm) : f.deep ≤ f.pr.length := by
  induction f with
  | tt => simp [Fm.deep]
  | neg f ih => simp [Fm.deep, Fm.pr]; omega
  | and f g ih ih2 => simp [Fm.deep, Fm.pr]; omega
  | dia l f ih => simp [Fm.deep, Fm.pr]; omega
theorem dep_tt (w : World) : Calls Try.prog 47 #[.agg #[]] w fun e w' => e = .returned (.int .i64 0) ∧ Below w.heap.size w w' := by
  go_enter Try.func47, Try.ntmps47
  go_wp2_with fail
  go_ret
  exact ⟨rfl, by first | exact Below.refl _ _ | exact (Below.refl _ _).alloc (Nat.le_refl _) _⟩
theorem dep_neg (T : TypeId) (V : Value) (n : Nat) (hP : DepF T V n) (w : World) : Calls Try.prog 49 #[.agg #[.iface T V]] w fun e w' => e = .returned (.int .i64 (n : Int)) ∧ Below w.heap.size w w' := by
  obtain ⟨F, R, hm, hn, hc, hp⟩ := hP
  have HP := Lib.hid hp
  clear hp
  go_enter Try.func49, Try.ntmps49
  go_wp2_with fail
  refine (HP.out _).mono ?_
  rintro e w1 ⟨rfl, b1⟩
  go_wp2_with fail
  go_ret
  exact ⟨rfl, below_trans ((Below.refl _ _).alloc (Nat.le_refl _) _) b1 (by simp)⟩
theorem dep_dia (A : Value) (T : TypeId) (V : Value) (n : Nat) (hl : n ≤ 1000) (hA : ∃ t v, A = .iface t v) (hP : DepF T V n) (w : World) : Calls Try.prog 53 #[.agg #[A, .iface T V]] w fun e w' => e = .returned (.int .i64 ((n + 1 : Nat) : Int)) ∧ Below w.heap.size w w' := by
  obtain ⟨F, R, hm, hn, hc, hp⟩ := hP
  obtain ⟨ta, va, rfl⟩ := hA
  have HP := Lib.hid hp
  clear hp
  go_enter Try.func53, Try.ntmps53
  go_wp2_with fail
  refine (HP.out _).mono ?_
  rintro e w1 ⟨rfl, b1⟩
  go_wp2_with fail
  go_ret
  exact ⟨rfl, below_trans ((Below.refl _ _).alloc (Nat.le_refl _) _) b1 (by simp)⟩
set_option maxHeartbeats 1000000 in
theorem dep_and (T : TypeId) (V : Value) (T2 : TypeId) (V2 : Value) (n k : Nat) (h1 : n ≤ 1000) (h2 : k ≤ 1000) (hP : DepF T V n) (hP2 : DepF T2 V2 k) (w : World) : Calls Try.prog 51 #[.agg #[.iface T V, .iface T2 V2]] w fun e w' => e = .returned (.int .i64 ((max n k : Nat) : Int)) ∧ Below w.heap.size w w' := by
  obtain ⟨F, R, hm, hn, hc, hp⟩ := hP
  obtain ⟨F2, R2, hm2, hn2, hc2, hp2⟩ := hP2
  have HP := Lib.hid hp
  have HP2 := Lib.hid hp2
  have HX : Hid (((max n k : Nat) : Int) = max (n : Int) (k : Int)) := by show _ = _; omega
  clear hp hp2
  go_enter Try.func51, Try.ntmps51
  go_wp2_with fail
  have b0 : Below w.heap.size w (w.alloc (.cells #[.iface T V, .iface T2 V2] 46)) := (Below.refl _ _).alloc (Nat.le_refl _) _
  have c0 : (w.alloc (.cells #[.iface T V, .iface T2 V2] 46)).cell? ⟨w.heap.size, 0, none⟩ = some (.iface T V) := by rw [World.cell?_alloc_new]; rfl
  have c1 : (w.alloc (.cells #[.iface T V, .iface T2 V2] 46)).cell? ⟨w.heap.size, 1, none⟩ = some (.iface T2 V2) := by rw [World.cell?_alloc_new]; rfl
  obtain ⟨W, hW⟩ : ∃ W, W = w.alloc (.cells #[.iface T V, .iface T2 V2] 46) := ⟨_, rfl⟩
  rw [← hW] at b0 c0 c1 ⊢
  clear hW
  have hbl := World.block_lt_of_cell? W _ c0
  go_region_held3 (fun w' => w'.cell? ⟨w.heap.size, 0, none⟩ = some (.iface T V) ∧ w'.cell? ⟨w.heap.size, 1, none⟩ = some (.iface T2 V2)) (first | exact ⟨c0, c1⟩ | exact ⟨y0, y1⟩ | exact ⟨z0, z1⟩)
    ((first
      | ((with_reducible refine (HP.out _).mono ?_); rintro e v1 ⟨rfl, d1⟩; have y0 := (d1.cell (p := ⟨w.heap.size, 0, none⟩) hbl).trans c0; have y1 := (d1.cell (p := ⟨w.heap.size, 1, none⟩) hbl).trans c1; have B1 : Hid (Below w.heap.size w v1) := Lib.hid (by first | exact below_trans b0.drew d1 b0.size | exact below_trans b0 d1 b0.size); have hb2 := World.block_lt_of_cell? v1 _ y0; clear d1)
      | ((with_reducible refine (HP2.out _).mono ?_); rintro e v2 ⟨rfl, d2⟩; have z0 := (d2.cell (p := ⟨w.heap.size, 0, none⟩) hb2).trans y0; have z1 := (d2.cell (p := ⟨w.heap.size, 1, none⟩) hb2).trans y1; have B2 : Hid (Below w.heap.size w v2) := Lib.hid (by first | exact below_trans B1.out.drew d2 B1.out.size | exact below_trans B1.out d2 B1.out.size); clear d2)
      | fail))
  all_goals go_wp2_with fail
  all_goals go_ret
  all_goals exact ⟨by rw [HX.out]; rfl, by first | exact B2.out.drew | exact B2.out⟩

theorem mp_tt (n : Nat) (w : World) : (method (n + 1) 42 (.agg #[]) "loop.example/g01175/impl.depth").run Try.prog w = .ok (47, .agg #[]) w := by kernel_rfl
theorem np_tt (n : Nat) (w : World) : (nilAhead (n + 1) 42 (.agg #[]) "loop.example/g01175/impl.depth").run Try.prog w = .ok (some false) w := by kernel_rfl
theorem mp_neg (x : Value) (n : Nat) (w : World) : (method (n + 1) 44 (.agg #[x]) "loop.example/g01175/impl.depth").run Try.prog w = .ok (49, .agg #[x]) w := by kernel_rfl
theorem np_neg (x : Value) (n : Nat) (w : World) : (nilAhead (n + 1) 44 (.agg #[x]) "loop.example/g01175/impl.depth").run Try.prog w = .ok (some false) w := by kernel_rfl
theorem mp_and (x y : Value) (n : Nat) (w : World) : (method (n + 1) 46 (.agg #[x, y]) "loop.example/g01175/impl.depth").run Try.prog w = .ok (51, .agg #[x, y]) w := by kernel_rfl
theorem np_and (x y : Value) (n : Nat) (w : World) : (nilAhead (n + 1) 46 (.agg #[x, y]) "loop.example/g01175/impl.depth").run Try.prog w = .ok (some false) w := by kernel_rfl
theorem mp_dia (x y : Value) (n : Nat) (w : World) : (method (n + 1) 54 (.agg #[x, y]) "loop.example/g01175/impl.depth").run Try.prog w = .ok (53, .agg #[x, y]) w := by kernel_rfl
theorem np_dia (x y : Value) (n : Nat) (w : World) : (nilAhead (n + 1) 54 (.agg #[x, y]) "loop.example/g01175/impl.depth").run Try.prog w = .ok (some false) w := by kernel_rfl
theorem cf_tt (args : Array Value) (w : World) : (callFunc 47 args).run Try.prog w = .ok (.enter 47 args) w := by kernel_rfl
theorem cf_neg (args : Array Value) (w : World) : (callFunc 49 args).run Try.prog w = .ok (.enter 49 args) w := by kernel_rfl
theorem cf_and (args : Array Value) (w : World) : (callFunc 51 args).run Try.prog w = .ok (.enter 51 args) w := by kernel_rfl
theorem cf_dia (args : Array Value) (w : World) : (callFunc 53 args).run Try.prog w = .ok (.enter 53 args) w := by kernel_rfl
theorem dep_any (f : Fm) : f.pr.length ≤ 1000 → DepF (ftyOf f) (fpay f) f.deep := by
  induction f with
  | tt => exact fun _ => ⟨_, _, mp_tt, np_tt, cf_tt, dep_tt⟩
  | neg f ih =>
    intro h
    simp only [Fm.pr, List.length_cons] at h
    exact ⟨_, _, mp_neg _, np_neg _, cf_neg, dep_neg _ _ _ (ih (by omega))⟩
  | and f g ih ih2 =>
    intro h
    simp only [Fm.pr, List.length_cons, List.length_append] at h
    have d1 := fdeep_le f
    have d2 := fdeep_le g
    exact ⟨_, _, mp_and _ _, np_and _ _, cf_and, dep_and _ _ _ _ _ _ (by omega) (by omega) (ih (by omega)) (ih2 (by omega))⟩
  | dia l f ih =>
    intro h
    simp only [Fm.pr, List.length_cons, List.length_append] at h
    have d1 := fdeep_le f
    exact ⟨_, _, mp_dia _ _, np_dia _ _, cf_dia, dep_dia _ _ _ _ (by omega) (actV_if l) (ih (by omega))⟩

/-- The label of a formula, and its parts, in memory of the call's own. -/
def PartsFm (lab : ByteArray) (ps : List (List UInt8)) (w : World) (e : Ending) (w' : World) : Prop :=
  match ps with
  | [] => e = .returned (.tuple #[.string lab, .slice none 0 0]) ∧ Below w.heap.size w w'
  | [p] => ∃ b, e = .returned (.tuple #[.string lab, .slice (some ⟨b, 0, none⟩) 1 1]) ∧ w.heap.size ≤ b ∧ w'.heap[b]? = some (.cells #[.string (B p)] 9 (0, 0)) ∧ Below w.heap.size w w'
  | [p, q] => ∃ b, e = .returned (.tuple #[.string lab, .slice (some ⟨b, 0, none⟩) 2 2]) ∧ w.heap.size ≤ b ∧ w'.heap[b]? = some (.cells #[.string (B p), .string (B q)] 9 (0, 0)) ∧ Below w.heap.size w w'
  | _ => False
theorem new_blk0 (w : World) (cs : Array Value) (T : TypeId) : (w.alloc (.cells cs T)).heap[w.heap.size]? = some (.cells cs T (0, 0)) := new_blockF w _
theorem byte_at {s : ByteArray} {l : List UInt8} (h : s.data.toList = l) (i : Nat) (hi : i < s.size) (hl : i < l.length) : s[i] = l[i] := by subst h; rfl
theorem ext_B {s : ByteArray} {l p : List UInt8} (h : s.data.toList = l) (i j : Nat) (ht : (l.drop i).take (j - i) = p) : s.extract i j = B p := by
  apply ByteArray.ext; apply Array.ext'
  show (s.extract i j).data.toList = p
  rw [Lab.ext_d, h, ht]
set_option maxHeartbeats 1000000 in
theorem bp_tt (s : ByteArray) (h : s.data.toList = [84]) (w : World) : Calls Try.prog 14 #[.string s] w (PartsFm ByteArray.empty [] w) := by
  have z := Lab.size_l h
  simp only [List.length_cons, List.length_nil] at z
  have hz : 0 < s.size := by omega
  have c0 : (s[0].toNat : Int) = 84 := by rw [byte_at h 0 hz (by simp)]; rfl
  have b33 : ((s[0].toNat : Int) == 33) = false := by rw [c0]; rfl
  have b40 : ((s[0].toNat : Int) == 40) = false := by rw [c0]; rfl
  have b60 : ((s[0].toNat : Int) == 60) = false := by rw [c0]; rfl
  clear c0 h
  go_enter Try.func14, Try.ntmps14
  go_wp2_with fail
  go_ret2
  exact ⟨rfl, Below.refl _ _⟩
set_option maxHeartbeats 1000000 in
theorem bp_neg (s : ByteArray) (p : List UInt8) (hs : s.size ≤ 400) (h : s.data.toList = 33 :: p) (w : World) : Calls Try.prog 14 #[.string s] w (PartsFm ByteArray.empty [p] w) := by
  have z := Lab.size_l h
  simp only [List.length_cons] at z
  have hz : 0 < s.size := by omega
  have h1 : (1 : Int) ≤ (s.size : Int) := by omega
  have c0 : (s[0].toNat : Int) = 33 := by rw [byte_at h 0 hz (by simp)]; rfl
  have b33 : ((s[0].toNat : Int) == 33) = true := by rw [c0]; rfl
  have HX : Hid (s.extract 1 s.size = B p) := ext_B h 1 s.size (by rw [List.drop_succ_cons, List.drop_zero, List.take_of_length_le (by omega)])
  clear c0 h z
  go_enter Try.func14, Try.ntmps14
  go_wp2_with fail
  go_region
  all_goals go_wp2_with fail
  all_goals go_ret2
  all_goals exact ⟨_, rfl, Nat.le_refl _, by rw [← HX.out]; exact new_blk0 _ _ _, ((Below.refl _ _).alloc (Nat.le_refl _) _).drew⟩
set_option maxHeartbeats 2000000 in
theorem bp_and (s : ByteArray) (f g : Fm) (hs : s.size ≤ 400) (hf : f.ok = true) (h : s.data.toList = (Fm.and f g).pr) (w : World) : Calls Try.prog 14 #[.string s] w (PartsFm ByteArray.empty [f.pr, g.pr] w) := by
  have z := Lab.size_l h
  simp only [Fm.pr, List.length_cons, List.length_append, List.length_nil] at z
  have hz : 0 < s.size := by omega
  have c0 : (s[0].toNat : Int) = 40 := by rw [byte_at h 0 hz (by simp [Fm.pr])]; rfl
  have b33 : ((s[0].toNat : Int) == 33) = false := by rw [c0]; rfl
  have b40 : ((s[0].toNat : Int) == 40) = true := by rw [c0]; rfl
  obtain ⟨k, hk⟩ : ∃ k, k = f.pr.length := ⟨_, rfl⟩
  have HE : Hid (∀ w, Calls Try.prog 12 #[.string s, .int .i64 1] w fun e w' => e = .returned (.int .i64 ((k : Int) + 1)) ∧ Below w.heap.size w w') := fun w => by
    have he : F (s.data.toList.drop 1) = some (f, 38 :: (g.pr ++ [41])) := by
      rw [h]; show F (f.pr ++ 38 :: (g.pr ++ [41])) = _; exact F_pr f _ hf
    have e2 : fEnd s 1 = (k : Int) + 1 := by
      rw [fEnd, he]; simp only [List.length_cons, List.length_append, List.length_nil]; omega
    have := biEnd_any s hs 1 (by omega) w
    rw [e2] at this
    exact this
  have HX : Hid (s.extract 1 (k + 1) = B f.pr) := ext_B h 1 (k + 1) (by
    show (f.pr ++ 38 :: (g.pr ++ [41])).take (k + 1 - 1) = _
    rw [Nat.add_sub_cancel, hk, List.take_left])
  have HY : Hid (s.extract (k + 1 + 1) (s.size - 1) = B g.pr) := ext_B h _ _ (by
    have e : (Fm.and f g).pr = (40 :: f.pr ++ [38]) ++ (g.pr ++ [41]) := by simp [Fm.pr]
    have l1 : (40 :: f.pr ++ [38]).length = k + 1 + 1 := by simp [hk]
    rw [e, ← l1, List.drop_left]
    have : s.size - 1 - (40 :: f.pr ++ [38]).length = g.pr.length := by rw [l1]; omega
    rw [this, List.take_left])
  have h1 : k + 2 ≤ s.size - 1 := by omega
  have h2 : 3 ≤ s.size := by omega
  obtain ⟨P, hP⟩ : ∃ P, P = f.pr := ⟨_, rfl⟩
  obtain ⟨Q, hQ⟩ : ∃ Q, Q = g.pr := ⟨_, rfl⟩
  rw [← hP] at HX
  rw [← hQ] at HY
  rw [← hP, ← hQ]
  clear c0 h z hk hP hQ hf
  have w1 : IntKind.i64.wrap ((k : Int) + 1 + 1) = (k : Int) + 1 + 1 := IntWalk.i64_in _ (by omega)
  have w2 : IntKind.i64.wrap ((s.size : Int) - 1) = (s.size : Int) - 1 := IntWalk.i64_in _ (by omega)
  go_enter Try.func14, Try.ntmps14
  go_wp2_with fail
  refine (HE.out _).mono ?_
  rintro e W ⟨rfl, bW⟩
  have BW := Lib.hid bW
  clear bW
  go_wp2_with fail
  go_region
  all_goals go_wp2_with fail
  all_goals go_ret2
  all_goals exact ⟨_, rfl, BW.out.size, by rw [← HX.out, ← HY.out]; exact new_blk0 _ _ _, (BW.out.alloc BW.out.size _).drew⟩
set_option maxHeartbeats 2000000 in
theorem bp_dia (s : ByteArray) (l p : List UInt8) (hs : s.size ≤ 400) (hl : labB l = true) (h : s.data.toList = 60 :: (l ++ 62 :: p)) (w : World) : Calls Try.prog 14 #[.string s] w (PartsFm (B l) [p] w) := by
  have z := Lab.size_l h
  simp only [List.length_cons, List.length_append, List.length_nil] at z
  have hz : 0 < s.size := by omega
  have c0 : (s[0].toNat : Int) = 60 := by rw [byte_at h 0 hz (by simp)]; rfl
  have b33 : ((s[0].toNat : Int) == 33) = false := by rw [c0]; rfl
  have b40 : ((s[0].toNat : Int) == 40) = false := by rw [c0]; rfl
  have b60 : ((s[0].toNat : Int) == 60) = true := by rw [c0]; rfl
  obtain ⟨k, hk⟩ : ∃ k, k = l.length := ⟨_, rfl⟩
  have HX : Hid (s.extract 1 (k + 1) = B l) := ext_B h 1 (k + 1) (by
    show (l ++ 62 :: p).take (k + 1 - 1) = _
    rw [Nat.add_sub_cancel, hk, List.take_left])
  have HY : Hid (s.extract (k + 1 + 1) s.size = B p) := ext_B h _ _ (by
    have e : 60 :: (l ++ 62 :: p) = (60 :: l ++ [62]) ++ p := by simp
    have l1 : (60 :: l ++ [62]).length = k + 1 + 1 := by simp [hk]
    rw [e, ← l1, List.drop_left, List.take_of_length_le (by rw [l1]; omega)])
  have h1 : k + 2 ≤ s.size := by omega
  have hin : ∀ i, 1 ≤ i → i < k + 1 → ∀ hi : i < s.size, s[i] ≠ 62 := by
    intro i hi1 hi2 hi
    rw [byte_at h i hi (by simp; omega)]
    obtain ⟨j, rfl⟩ : ∃ j, i = j + 1 := ⟨i - 1, by omega⟩
    rw [List.getElem_cons_succ, List.getElem_append_left (by omega)]
    exact labB_gt hl _ (List.getElem_mem _)
  have hend : ∀ hi : k + 1 < s.size, s[k + 1] = 62 := by
    intro hi
    rw [byte_at h _ hi (by simp; omega)]
    rw [List.getElem_cons_succ, List.getElem_append_right (by omega)]
    simp [hk]
  have HIN := Lib.hid hin
  have HEND := Lib.hid hend
  clear c0 h z hk hin hend
  go_enter Try.func14, Try.ntmps14
  go_wp2_with fail
  go_loopg [5] (k + 1) (fun gk s5 wr => ∃ n : Nat, s5 = .int .i64 (n : Int) ∧ 1 ≤ n ∧ n ≤ k + 1 ∧ n + gk = k + 2 ∧ wr = w)
  case atStart => exact ⟨1, rfl, by omega, by omega, by omega, rfl⟩
  case round =>
    obtain ⟨n, rfl, h1n, hnk, hng, rfl⟩ := hrel
    have hns : n < s.size := by omega
    by_cases hn : n < k + 1
    · have t1 : ((s[n].toNat : Int) != 62) = true := by rw [bne_iff_ne]; intro h; exact HIN.out n h1n hn hns (by rw [← UInt8.toNat_inj]; simp; omega)
      go_wp2_with fail
      go_roundg (gk - 1)
      case rel => exact ⟨n + 1, by first | rfl | go_num, by omega, by omega, by omega, rfl⟩
      case measure => omega
    · obtain rfl : n = k + 1 := by omega
      have t1 : ((s[k + 1].toNat : Int) != 62) = false := by rw [HEND.out hns]; simp
      have w1 : IntKind.i64.wrap (((k + 1 : Nat) : Int) + 1) = ((k + 1 : Nat) : Int) + 1 := IntWalk.i64_in _ (by omega)
      go_wp2_with fail
      go_region
      all_goals go_wp2_with fail
      all_goals go_ret2
      all_goals exact ⟨_, by rw [← HX.out]; rfl, Nat.le_refl _, by rw [← HY.out]; exact new_blk0 _ _ _, ((Below.refl _ _).alloc (Nat.le_refl _) _).drew⟩

end Go.Proofs.Ytllnplabiehcgaa.T1
