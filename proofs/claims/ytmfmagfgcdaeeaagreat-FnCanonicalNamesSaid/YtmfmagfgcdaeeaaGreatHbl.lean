/- Texts of the proof, put together: Kl. No conditions. -/
import Derived.Test.YtmfmagfgcdaeeaaGreatHbk

/- The ways through a thread: in the program. MADE BY gen_Kl.py. -/
namespace Go.Proofs.YtmfmagfgcdaeeaaGreat.T1
open Go.RowKit
set_option maxRecDepth 100000
set_option linter.unusedVariables false
set_option linter.unusedSimpArgs false

set_option maxHeartbeats 8000000 in
theorem th_plain (T T1 tp : TypeId) (V V1 vp : Value) (D : Array Value) (hD : D.size = 257) (H X kt : ByteArray) (hHs : H.size ≤ 10) (hXs : X.size ≤ 1000) (hkt : (kt.toList == [43]) = false) (w : World)
    (hKF : ∃ (F : FuncId) (R : Value), (∀ n w, (method (n + 1) T V "loop.example/g01175/impl.kind").run Tryz.prog w = .ok (F, R) w) ∧ (∀ n w, (nilAhead (n + 1) T V "loop.example/g01175/impl.kind").run Tryz.prog w = .ok (some false) w) ∧ (∀ args w, (callFunc F args).run Tryz.prog w = .ok (.enter F args) w) ∧ ∀ w, Calls Tryz.prog F #[R] w fun e w' => e = .returned (.string kt) ∧ Below w.heap.size w w')
    (hU : ∀ v : World, v.heap[w.heap.size]? = some (.cells D 152 (0, 0)) → Calls Tryz.prog 116 #[.iface T V, .func (.func 197) #[] #[.pointer (some ⟨w.heap.size, 0, none⟩)]] v fun e v' => e = .returned (.iface T1 V1) ∧ Below v.heap.size v v')
    (hB : ∀ w, Calls Tryz.prog 112 #[.iface T1 V1] w fun e w' => e = .returned (.tuple #[.int .u8 0, .bool false]) ∧ Below w.heap.size w w')
    (hta : ∀ w, (Instr.typeAssert (.iface T1 V1) 43 146 true).run Tryz.prog w = .ok (.tuple #[.agg #[.int .u8 0, .int .u8 0, .nilIface], .bool false]) w)
    (hH : ∀ w, Calls Tryz.prog 185 #[.iface T1 V1] w (StrP H w))
    (hP : ∃ (F : FuncId) (R : Value), (∀ n w, (method (n + 1) T1 V1 "loop.example/g01175/impl.parts").run Tryz.prog w = .ok (F, R) w) ∧ (∀ n w, (nilAhead (n + 1) T1 V1 "loop.example/g01175/impl.parts").run Tryz.prog w = .ok (some false) w) ∧ (∀ args w, (callFunc F args).run Tryz.prog w = .ok (.enter F args) w) ∧ ∀ w, Calls Tryz.prog F #[R] w fun e w' => ∃ b, e = .returned (.slice (some ⟨b, 0, none⟩) 1 1) ∧ w.heap.size ≤ b ∧ w'.heap[b]? = some (.cells #[.iface tp vp] 43 (0, 0)) ∧ Below w.heap.size w w')
    (hL : ∀ w1, Below w.heap.size w w1 → Calls Tryz.prog 160 #[.agg D, .iface tp vp] w1 (StrP X w1)) :
    Calls Tryz.prog 182 #[.agg D, .iface T V] w (StrP (H ++ X) w) := by
  obtain ⟨FK, RK, km, kn, kc, kp⟩ := hKF
  obtain ⟨FP, RP, hm, hn, hc, hp⟩ := hP
  have HK := Lib.hid kp
  have HP := Lib.hid hp
  have HU' := Lib.hid hU
  have HB := Lib.hid hB
  have HH := Lib.hid hH
  have HL' := Lib.hid hL
  have HDs := Lib.hid hD
  clear kp hp hU hB hH hL hD
  go_enter Tryz.func182, Tryz.ntmps182
  go_wp2_with fail
  obtain ⟨W, hW⟩ : ∃ W, W = w.alloc (.cells D 152) := ⟨_, rfl⟩
  have hr := Lib.hid (show W.heap[w.heap.size]? = some (.cells D 152 (0, 0)) by rw [hW]; exact new_block0 _ _)
  have bl : Below w.heap.size w W := by rw [hW]; exact (Below.refl _ _).alloc (Nat.le_refl _) _
  rw [← hW]
  clear hW
  refine (HK.out _).mono ?_
  rintro e w1 ⟨rfl, b1⟩
  replace hr := Lib.hid (row_below0 hr.out b1)
  replace bl := below_go bl b1
  clear b1
  go_wp2_with fail
  refine (HU'.out _ hr.out).mono ?_
  rintro e w2 ⟨rfl, b2⟩
  replace hr := Lib.hid (row_below0 hr.out b2)
  replace bl := below_go bl b2
  clear b2
  go_wp2_with fail
  refine (HB.out _).mono ?_
  rintro e w3 ⟨rfl, b3⟩
  replace hr := Lib.hid (row_below0 hr.out b3)
  replace bl := below_go bl b3
  clear b3
  go_wp2_with fail
  obtain ⟨W8, hW8⟩ : ∃ W8, W8 = w3.alloc (.cells #[.int .u8 0, .int .u8 0, .nilIface] 146) := ⟨_, rfl⟩
  have bl8 : Below w.heap.size w W8 := by rw [hW8]; exact bl.alloc bl.size _
  have hr8 := Lib.hid (show W8.heap[w.heap.size]? = some (.cells D 152 (0, 0)) by rw [hW8]; exact (heap_alloc_old _ _ (lt_of_block hr.out)).trans hr.out)
  have rg := Lib.hid fun w1 (b : Below W8.heap.size W8 w1) => df_range w1 w.heap.size D (row_below0 hr8.out b)
  have HL := Lib.hid fun w1 (b : Below W8.heap.size W8 w1) => HL'.out w1 (below_go bl8 b)
  rw [← hW8]
  clear hW8 hr bl
  refine wp_region_held_drew (S := fun w' => w'.rangeAt w.heap.size 0 D.toList) (by kernel_rfl) (rg.out _ ((Below.refl _ _).drew)) (fun hHeld => ?_)
  refine wpAnyH_take (i := 0) (oi := ⟨some 57, _, _, _, _, _⟩) (v := ?_) rfl (by kernel_rfl) (by kernel_rfl) (by kernel_rfl) (fun _ _ _ h => h) (Or.inl ⟨by rfl, ?_⟩) (by assumption) ?_
  rotate_left
  · intro w hSw
    go_simp
    first | done | with_reducible rfl | (rw [if_neg (by omega)])
  try simp only [Act.put, List.setIfInBounds_toArray, List.set_cons_zero, List.set_cons_succ]
  refine wpAnyH_take (i := 2) (oi := ⟨some 59, _, _, _, _, _⟩) (v := .agg D) rfl (by kernel_rfl) (by kernel_rfl) (by kernel_rfl) (fun _ _ _ h => h) (df_yields rfl _ _ rfl rfl rfl HDs.out (fun w h => h)) (by assumption) ?_
  try simp only [Act.put, List.setIfInBounds_toArray, List.set_cons_zero, List.set_cons_succ]
  refine wpAnyH_take (i := 3) (oi := ⟨some 60, _, _, _, _, _⟩) (v := ?_) rfl (by kernel_rfl) (by kernel_rfl) (by kernel_rfl) (fun _ _ _ h => h) (Or.inl ⟨by rfl, ?_⟩) (by assumption) ?_
  rotate_left
  · intro w hSw
    go_simp
    first | done | with_reducible rfl | (rw [if_neg (by omega)])
  try simp only [Act.put, List.setIfInBounds_toArray, List.set_cons_zero, List.set_cons_succ]
  refine wpAnyH_ready (rs := [1]) (by kernel_rfl) (by simp) ?_
  refine AllReadyH.cons rfl (fun K hK => ?_) AllReadyH.nil
  go_simp
  refine (HH.out _).mono ?_
  rintro e w1 ⟨rfl, b1⟩
  have bd1 := below_go (Below.refl W8.heap.size W8).drew b1
  try dsimp only
  refine hK.out _ _ (rg.out _ bd1) (fun hHeld => ?_)
  clear hK K
  try simp only [Act.put, List.setIfInBounds_toArray, List.set_cons_zero, List.set_cons_succ]
  refine wpAnyH_ready (rs := [4]) (by kernel_rfl) (by simp) ?_
  refine AllReadyH.cons rfl (fun K hK => ?_) AllReadyH.nil
  go_simp
  refine (HP.out _).mono ?_
  rintro e w2 ⟨b, rfl, hb, hh, b2⟩
  have bd2 := below_go bd1 b2
  have d0 := cellOf1 hh
  clear hb hh b2 b1
  try dsimp only
  refine hK.out _ _ (rg.out _ bd2) (fun hHeld => ?_)
  clear hK K
  try simp only [Act.put, List.setIfInBounds_toArray, List.set_cons_zero, List.set_cons_succ]
  refine wpAnyH_take (i := 5) (oi := ⟨some 62, _, _, _, _, _⟩) (v := ?_) rfl (by kernel_rfl) (by kernel_rfl) (by kernel_rfl) (fun _ _ _ h => h) (Or.inl ⟨by rfl, ?_⟩) (by assumption) ?_
  rotate_left
  · intro w hSw
    go_simp
    first | done | with_reducible rfl | (rw [if_neg (by omega)])
  try simp only [Act.put, List.setIfInBounds_toArray, List.set_cons_zero, List.set_cons_succ]
  refine wpAnyH_ready (rs := [6]) (by kernel_rfl) (by simp) ?_
  refine AllReadyH.cons rfl (fun K hK => ?_) AllReadyH.nil
  go_simp
  try dsimp only
  refine hK.out _ _ (by assumption) (fun hHeld => ?_)
  clear hK K
  try simp only [Act.put, List.setIfInBounds_toArray, List.set_cons_zero, List.set_cons_succ]
  refine wpAnyH_ready (rs := [7]) (by kernel_rfl) (by simp) ?_
  refine AllReadyH.cons rfl (fun K hK => ?_) AllReadyH.nil
  go_simp
  refine (HL.out _ bd2).mono ?_
  rintro e w3 ⟨rfl, b3⟩
  have bd3 := below_go bd2 b3
  try dsimp only
  refine hK.out _ _ (rg.out _ bd3) (fun hHeld => ?_)
  clear hK K
  try simp only [Act.put, List.setIfInBounds_toArray, List.set_cons_zero, List.set_cons_succ]
  refine wpAnyH_take (i := 8) (oi := ⟨some 65, _, _, _, _, _⟩) (v := ?_) rfl (by kernel_rfl) (by kernel_rfl) (by kernel_rfl) (fun _ _ _ h => h) (Or.inl ⟨by rfl, ?_⟩) (by assumption) ?_
  rotate_left
  · intro w hSw
    go_simp
    first | done | with_reducible rfl | (rw [if_neg (by omega)])
  try simp only [Act.put, List.setIfInBounds_toArray, List.set_cons_zero, List.set_cons_succ]
  refine wpAnyH_take (i := 9) (oi := ⟨some 4, _, _, _, _, _⟩) (v := ?_) rfl (by kernel_rfl) (by kernel_rfl) (by kernel_rfl) (fun _ _ _ h => h) (Or.inl ⟨by rfl, ?_⟩) (by assumption) ?_
  rotate_left
  · intro w hSw
    go_simp
    first | done | with_reducible rfl | (rw [if_neg (by omega)])
  try simp only [Act.put, List.setIfInBounds_toArray, List.set_cons_zero, List.set_cons_succ]
  refine wpAnyH_done (by kernel_rfl) ?_ _
  go_wp2_with fail
  go_ret
  exact ⟨rfl, below_go bl8 bd3⟩


set_option maxHeartbeats 8000000 in
theorem th_matN (T T1 tp : TypeId) (V V1 vp : Value) (D : Array Value) (hD : D.size = 257) (H X kt : ByteArray) (hHs : H.size ≤ 10) (hXs : X.size ≤ 1000) (hkt : (kt.toList == [43]) = false) (m0 m1 : Int) (hlt : ¬ m1 < m0) (w : World)
    (hT1 : T1 = 146) (hV1 : V1 = .agg #[.int .u8 m0, .int .u8 m1, .iface tp vp])
    (hKF : ∃ (F : FuncId) (R : Value), (∀ n w, (method (n + 1) T V "loop.example/g01175/impl.kind").run Tryz.prog w = .ok (F, R) w) ∧ (∀ n w, (nilAhead (n + 1) T V "loop.example/g01175/impl.kind").run Tryz.prog w = .ok (some false) w) ∧ (∀ args w, (callFunc F args).run Tryz.prog w = .ok (.enter F args) w) ∧ ∀ w, Calls Tryz.prog F #[R] w fun e w' => e = .returned (.string kt) ∧ Below w.heap.size w w')
    (hU : ∀ v : World, v.heap[w.heap.size]? = some (.cells D 152 (0, 0)) → Calls Tryz.prog 116 #[.iface T V, .func (.func 197) #[] #[.pointer (some ⟨w.heap.size, 0, none⟩)]] v fun e v' => e = .returned (.iface T1 V1) ∧ Below v.heap.size v v')
    (hB : ∀ w, Calls Tryz.prog 112 #[.iface T1 V1] w fun e w' => e = .returned (.tuple #[.int .u8 0, .bool false]) ∧ Below w.heap.size w w')
    (hH : ∀ w, Calls Tryz.prog 185 #[.iface 146 (.agg #[.int .u8 m0, .int .u8 m1, .iface tp vp])] w (StrP H w))
    (hP : ∃ (F : FuncId) (R : Value), (∀ n w, (method (n + 1) 146 (.agg #[.int .u8 m0, .int .u8 m1, .iface tp vp]) "loop.example/g01175/impl.parts").run Tryz.prog w = .ok (F, R) w) ∧ (∀ n w, (nilAhead (n + 1) 146 (.agg #[.int .u8 m0, .int .u8 m1, .iface tp vp]) "loop.example/g01175/impl.parts").run Tryz.prog w = .ok (some false) w) ∧ (∀ args w, (callFunc F args).run Tryz.prog w = .ok (.enter F args) w) ∧ ∀ w, Calls Tryz.prog F #[R] w fun e w' => ∃ b, e = .returned (.slice (some ⟨b, 0, none⟩) 1 1) ∧ w.heap.size ≤ b ∧ w'.heap[b]? = some (.cells #[.iface tp vp] 43 (0, 0)) ∧ Below w.heap.size w w')
    (hL : ∀ w1, Below w.heap.size w w1 → Calls Tryz.prog 160 #[.agg D, .iface tp vp] w1 (StrP X w1)) :
    Calls Tryz.prog 182 #[.agg D, .iface T V] w (StrP (H ++ X) w) := by
  subst hT1 hV1
  obtain ⟨FK, RK, km, kn, kc, kp⟩ := hKF
  obtain ⟨FP, RP, hm, hn, hc, hp⟩ := hP
  have HK := Lib.hid kp
  have HP := Lib.hid hp
  have HU' := Lib.hid hU
  have HB := Lib.hid hB
  have HH := Lib.hid hH
  have HL' := Lib.hid hL
  have HDs := Lib.hid hD
  clear kp hp hU hB hH hL
  clear hD
  go_enter Tryz.func182, Tryz.ntmps182
  go_wp2_with fail
  obtain ⟨W, hW⟩ : ∃ W, W = w.alloc (.cells D 152) := ⟨_, rfl⟩
  have hr := Lib.hid (show W.heap[w.heap.size]? = some (.cells D 152 (0, 0)) by rw [hW]; exact new_block0 _ _)
  have bl : Below w.heap.size w W := by rw [hW]; exact (Below.refl _ _).alloc (Nat.le_refl _) _
  rw [← hW]
  clear hW
  refine (HK.out _).mono ?_
  rintro e w1 ⟨rfl, b1⟩
  replace hr := Lib.hid (row_below0 hr.out b1)
  replace bl := below_go bl b1
  clear b1
  go_wp2_with fail
  refine (HU'.out _ hr.out).mono ?_
  rintro e w2 ⟨rfl, b2⟩
  replace hr := Lib.hid (row_below0 hr.out b2)
  replace bl := below_go bl b2
  clear b2
  go_wp2_with fail
  refine (HB.out _).mono ?_
  rintro e w3 ⟨rfl, b3⟩
  replace hr := Lib.hid (row_below0 hr.out b3)
  replace bl := below_go bl b3
  clear b3
  go_wp2_with fail
  obtain ⟨W8, hW8⟩ : ∃ W8, W8 = w3.alloc (.cells #[.int .u8 m0, .int .u8 m1, .iface tp vp] 146) := ⟨_, rfl⟩
  have bl8 : Below w.heap.size w W8 := by rw [hW8]; exact bl.alloc bl.size _
  have hr8 := Lib.hid (show W8.heap[w.heap.size]? = some (.cells D 152 (0, 0)) by rw [hW8]; exact (heap_alloc_old _ _ (lt_of_block hr.out)).trans hr.out)
  have rg := Lib.hid fun w1 (b : Below W8.heap.size W8 w1) => df_range w1 w.heap.size D (row_below0 hr8.out b)
  have HL := Lib.hid fun w1 (b : Below W8.heap.size W8 w1) => HL'.out w1 (below_go bl8 b)
  rw [← hW8]
  clear hW8 hr bl
  refine wp_region_held_drew (S := fun w' => w'.rangeAt w.heap.size 0 D.toList) (by kernel_rfl) (rg.out _ ((Below.refl _ _).drew)) (fun hHeld => ?_)
  refine wpAnyH_take (i := 0) (oi := ⟨some 57, _, _, _, _, _⟩) (v := ?_) rfl (by kernel_rfl) (by kernel_rfl) (by kernel_rfl) (fun _ _ _ h => h) (Or.inl ⟨by rfl, ?_⟩) (by assumption) ?_
  rotate_left
  · intro w hSw
    go_simp
    first | done | with_reducible rfl | (rw [if_neg (by omega)])
  try simp only [Act.put, List.setIfInBounds_toArray, List.set_cons_zero, List.set_cons_succ]
  refine wpAnyH_take (i := 2) (oi := ⟨some 59, _, _, _, _, _⟩) (v := .agg D) rfl (by kernel_rfl) (by kernel_rfl) (by kernel_rfl) (fun _ _ _ h => h) (df_yields rfl _ _ rfl rfl rfl HDs.out (fun w h => h)) (by assumption) ?_
  try simp only [Act.put, List.setIfInBounds_toArray, List.set_cons_zero, List.set_cons_succ]
  refine wpAnyH_take (i := 3) (oi := ⟨some 60, _, _, _, _, _⟩) (v := ?_) rfl (by kernel_rfl) (by kernel_rfl) (by kernel_rfl) (fun _ _ _ h => h) (Or.inl ⟨by rfl, ?_⟩) (by assumption) ?_
  rotate_left
  · intro w hSw
    go_simp
    first | done | with_reducible rfl | (rw [if_neg (by omega)])
  try simp only [Act.put, List.setIfInBounds_toArray, List.set_cons_zero, List.set_cons_succ]
  refine wpAnyH_ready (rs := [1]) (by kernel_rfl) (by simp) ?_
  refine AllReadyH.cons rfl (fun K hK => ?_) AllReadyH.nil
  go_simp
  refine (HH.out _).mono ?_
  rintro e w1 ⟨rfl, b1⟩
  have bd1 := below_go (Below.refl W8.heap.size W8).drew b1
  try dsimp only
  refine hK.out _ _ (rg.out _ bd1) (fun hHeld => ?_)
  clear hK K
  try simp only [Act.put, List.setIfInBounds_toArray, List.set_cons_zero, List.set_cons_succ]
  refine wpAnyH_ready (rs := [4]) (by kernel_rfl) (by simp) ?_
  refine AllReadyH.cons rfl (fun K hK => ?_) AllReadyH.nil
  go_simp
  refine (HP.out _).mono ?_
  rintro e w2 ⟨b, rfl, hb, hh, b2⟩
  have bd2 := below_go bd1 b2
  have d0 := cellOf1 hh
  clear hb hh b2 b1
  try dsimp only
  refine hK.out _ _ (rg.out _ bd2) (fun hHeld => ?_)
  clear hK K
  try simp only [Act.put, List.setIfInBounds_toArray, List.set_cons_zero, List.set_cons_succ]
  refine wpAnyH_take (i := 5) (oi := ⟨some 62, _, _, _, _, _⟩) (v := ?_) rfl (by kernel_rfl) (by kernel_rfl) (by kernel_rfl) (fun _ _ _ h => h) (Or.inl ⟨by rfl, ?_⟩) (by assumption) ?_
  rotate_left
  · intro w hSw
    go_simp
    first | done | with_reducible rfl | (rw [if_neg (by omega)])
  try simp only [Act.put, List.setIfInBounds_toArray, List.set_cons_zero, List.set_cons_succ]
  refine wpAnyH_ready (rs := [6]) (by kernel_rfl) (by simp) ?_
  refine AllReadyH.cons rfl (fun K hK => ?_) AllReadyH.nil
  go_simp
  try dsimp only
  refine hK.out _ _ (by assumption) (fun hHeld => ?_)
  clear hK K
  try simp only [Act.put, List.setIfInBounds_toArray, List.set_cons_zero, List.set_cons_succ]
  refine wpAnyH_ready (rs := [7]) (by kernel_rfl) (by simp) ?_
  refine AllReadyH.cons rfl (fun K hK => ?_) AllReadyH.nil
  go_simp
  refine (HL.out _ bd2).mono ?_
  rintro e w3 ⟨rfl, b3⟩
  have bd3 := below_go bd2 b3
  try dsimp only
  refine hK.out _ _ (rg.out _ bd3) (fun hHeld => ?_)
  clear hK K
  try simp only [Act.put, List.setIfInBounds_toArray, List.set_cons_zero, List.set_cons_succ]
  refine wpAnyH_take (i := 8) (oi := ⟨some 65, _, _, _, _, _⟩) (v := ?_) rfl (by kernel_rfl) (by kernel_rfl) (by kernel_rfl) (fun _ _ _ h => h) (Or.inl ⟨by rfl, ?_⟩) (by assumption) ?_
  rotate_left
  · intro w hSw
    go_simp
    first | done | with_reducible rfl | (rw [if_neg (by omega)])
  try simp only [Act.put, List.setIfInBounds_toArray, List.set_cons_zero, List.set_cons_succ]
  refine wpAnyH_take (i := 9) (oi := ⟨some 4, _, _, _, _, _⟩) (v := ?_) rfl (by kernel_rfl) (by kernel_rfl) (by kernel_rfl) (fun _ _ _ h => h) (Or.inl ⟨by rfl, ?_⟩) (by assumption) ?_
  rotate_left
  · intro w hSw
    go_simp
    first | done | with_reducible rfl | (rw [if_neg (by omega)])
  try simp only [Act.put, List.setIfInBounds_toArray, List.set_cons_zero, List.set_cons_succ]
  refine wpAnyH_done (by kernel_rfl) ?_ _
  go_wp2_with fail
  go_ret
  exact ⟨rfl, below_go bl8 bd3⟩


set_option maxHeartbeats 8000000 in
theorem th_matS (T T1 tp : TypeId) (V V1 vp : Value) (D : Array Value) (hD : D.size = 257) (H X kt : ByteArray) (hHs : H.size ≤ 10) (hXs : X.size ≤ 1000) (hkt : (kt.toList == [43]) = false) (m0 m1 : Int) (hlt : m1 < m0) (w : World)
    (hT1 : T1 = 146) (hV1 : V1 = .agg #[.int .u8 m0, .int .u8 m1, .iface tp vp])
    (hKF : ∃ (F : FuncId) (R : Value), (∀ n w, (method (n + 1) T V "loop.example/g01175/impl.kind").run Tryz.prog w = .ok (F, R) w) ∧ (∀ n w, (nilAhead (n + 1) T V "loop.example/g01175/impl.kind").run Tryz.prog w = .ok (some false) w) ∧ (∀ args w, (callFunc F args).run Tryz.prog w = .ok (.enter F args) w) ∧ ∀ w, Calls Tryz.prog F #[R] w fun e w' => e = .returned (.string kt) ∧ Below w.heap.size w w')
    (hU : ∀ v : World, v.heap[w.heap.size]? = some (.cells D 152 (0, 0)) → Calls Tryz.prog 116 #[.iface T V, .func (.func 197) #[] #[.pointer (some ⟨w.heap.size, 0, none⟩)]] v fun e v' => e = .returned (.iface T1 V1) ∧ Below v.heap.size v v')
    (hB : ∀ w, Calls Tryz.prog 112 #[.iface T1 V1] w fun e w' => e = .returned (.tuple #[.int .u8 0, .bool false]) ∧ Below w.heap.size w w')
    (hH : ∀ w, Calls Tryz.prog 185 #[.iface 146 (.agg #[.int .u8 m1, .int .u8 m0, .iface tp vp])] w (StrP H w))
    (hP : ∃ (F : FuncId) (R : Value), (∀ n w, (method (n + 1) 146 (.agg #[.int .u8 m1, .int .u8 m0, .iface tp vp]) "loop.example/g01175/impl.parts").run Tryz.prog w = .ok (F, R) w) ∧ (∀ n w, (nilAhead (n + 1) 146 (.agg #[.int .u8 m1, .int .u8 m0, .iface tp vp]) "loop.example/g01175/impl.parts").run Tryz.prog w = .ok (some false) w) ∧ (∀ args w, (callFunc F args).run Tryz.prog w = .ok (.enter F args) w) ∧ ∀ w, Calls Tryz.prog F #[R] w fun e w' => ∃ b, e = .returned (.slice (some ⟨b, 0, none⟩) 1 1) ∧ w.heap.size ≤ b ∧ w'.heap[b]? = some (.cells #[.iface tp vp] 43 (0, 0)) ∧ Below w.heap.size w w')
    (hL : ∀ w1, Below w.heap.size w w1 → Calls Tryz.prog 160 #[.agg D, .iface tp vp] w1 (StrP X w1)) :
    Calls Tryz.prog 182 #[.agg D, .iface T V] w (StrP (H ++ X) w) := by
  subst hT1 hV1
  obtain ⟨FK, RK, km, kn, kc, kp⟩ := hKF
  obtain ⟨FP, RP, hm, hn, hc, hp⟩ := hP
  have HK := Lib.hid kp
  have HP := Lib.hid hp
  have HU' := Lib.hid hU
  have HB := Lib.hid hB
  have HH := Lib.hid hH
  have HL' := Lib.hid hL
  have HDs := Lib.hid hD
  clear kp hp hU hB hH hL
  clear hD
  go_enter Tryz.func182, Tryz.ntmps182
  go_wp2_with fail
  obtain ⟨W, hW⟩ : ∃ W, W = w.alloc (.cells D 152) := ⟨_, rfl⟩
  have hr := Lib.hid (show W.heap[w.heap.size]? = some (.cells D 152 (0, 0)) by rw [hW]; exact new_block0 _ _)
  have bl : Below w.heap.size w W := by rw [hW]; exact (Below.refl _ _).alloc (Nat.le_refl _) _
  rw [← hW]
  clear hW
  refine (HK.out _).mono ?_
  rintro e w1 ⟨rfl, b1⟩
  replace hr := Lib.hid (row_below0 hr.out b1)
  replace bl := below_go bl b1
  clear b1
  go_wp2_with fail
  refine (HU'.out _ hr.out).mono ?_
  rintro e w2 ⟨rfl, b2⟩
  replace hr := Lib.hid (row_below0 hr.out b2)
  replace bl := below_go bl b2
  clear b2
  go_wp2_with fail
  refine (HB.out _).mono ?_
  rintro e w3 ⟨rfl, b3⟩
  replace hr := Lib.hid (row_below0 hr.out b3)
  replace bl := below_go bl b3
  clear b3
  go_wp2_with fail
  obtain ⟨W8, hW8⟩ : ∃ W8, W8 = w3.alloc (.cells #[.int .u8 m1, .int .u8 m0, .iface tp vp] 146) := ⟨_, rfl⟩
  have bl8 : Below w.heap.size w W8 := by rw [hW8]; exact bl.alloc bl.size _
  have hr8 := Lib.hid (show W8.heap[w.heap.size]? = some (.cells D 152 (0, 0)) by rw [hW8]; exact (heap_alloc_old _ _ (lt_of_block hr.out)).trans hr.out)
  have rg := Lib.hid fun w1 (b : Below W8.heap.size W8 w1) => df_range w1 w.heap.size D (row_below0 hr8.out b)
  have HL := Lib.hid fun w1 (b : Below W8.heap.size W8 w1) => HL'.out w1 (below_go bl8 b)
  rw [← hW8]
  clear hW8 hr bl
  refine wp_region_held_drew (S := fun w' => w'.rangeAt w.heap.size 0 D.toList) (by kernel_rfl) (rg.out _ ((Below.refl _ _).drew)) (fun hHeld => ?_)
  refine wpAnyH_take (i := 0) (oi := ⟨some 57, _, _, _, _, _⟩) (v := ?_) rfl (by kernel_rfl) (by kernel_rfl) (by kernel_rfl) (fun _ _ _ h => h) (Or.inl ⟨by rfl, ?_⟩) (by assumption) ?_
  rotate_left
  · intro w hSw
    go_simp
    first | done | with_reducible rfl | (rw [if_neg (by omega)])
  try simp only [Act.put, List.setIfInBounds_toArray, List.set_cons_zero, List.set_cons_succ]
  refine wpAnyH_take (i := 2) (oi := ⟨some 59, _, _, _, _, _⟩) (v := .agg D) rfl (by kernel_rfl) (by kernel_rfl) (by kernel_rfl) (fun _ _ _ h => h) (df_yields rfl _ _ rfl rfl rfl HDs.out (fun w h => h)) (by assumption) ?_
  try simp only [Act.put, List.setIfInBounds_toArray, List.set_cons_zero, List.set_cons_succ]
  refine wpAnyH_take (i := 3) (oi := ⟨some 60, _, _, _, _, _⟩) (v := ?_) rfl (by kernel_rfl) (by kernel_rfl) (by kernel_rfl) (fun _ _ _ h => h) (Or.inl ⟨by rfl, ?_⟩) (by assumption) ?_
  rotate_left
  · intro w hSw
    go_simp
    first | done | with_reducible rfl | (rw [if_neg (by omega)])
  try simp only [Act.put, List.setIfInBounds_toArray, List.set_cons_zero, List.set_cons_succ]
  refine wpAnyH_ready (rs := [1]) (by kernel_rfl) (by simp) ?_
  refine AllReadyH.cons rfl (fun K hK => ?_) AllReadyH.nil
  go_simp
  refine (HH.out _).mono ?_
  rintro e w1 ⟨rfl, b1⟩
  have bd1 := below_go (Below.refl W8.heap.size W8).drew b1
  try dsimp only
  refine hK.out _ _ (rg.out _ bd1) (fun hHeld => ?_)
  clear hK K
  try simp only [Act.put, List.setIfInBounds_toArray, List.set_cons_zero, List.set_cons_succ]
  refine wpAnyH_ready (rs := [4]) (by kernel_rfl) (by simp) ?_
  refine AllReadyH.cons rfl (fun K hK => ?_) AllReadyH.nil
  go_simp
  refine (HP.out _).mono ?_
  rintro e w2 ⟨b, rfl, hb, hh, b2⟩
  have bd2 := below_go bd1 b2
  have d0 := cellOf1 hh
  clear hb hh b2 b1
  try dsimp only
  refine hK.out _ _ (rg.out _ bd2) (fun hHeld => ?_)
  clear hK K
  try simp only [Act.put, List.setIfInBounds_toArray, List.set_cons_zero, List.set_cons_succ]
  refine wpAnyH_take (i := 5) (oi := ⟨some 62, _, _, _, _, _⟩) (v := ?_) rfl (by kernel_rfl) (by kernel_rfl) (by kernel_rfl) (fun _ _ _ h => h) (Or.inl ⟨by rfl, ?_⟩) (by assumption) ?_
  rotate_left
  · intro w hSw
    go_simp
    first | done | with_reducible rfl | (rw [if_neg (by omega)])
  try simp only [Act.put, List.setIfInBounds_toArray, List.set_cons_zero, List.set_cons_succ]
  refine wpAnyH_ready (rs := [6]) (by kernel_rfl) (by simp) ?_
  refine AllReadyH.cons rfl (fun K hK => ?_) AllReadyH.nil
  go_simp
  try dsimp only
  refine hK.out _ _ (by assumption) (fun hHeld => ?_)
  clear hK K
  try simp only [Act.put, List.setIfInBounds_toArray, List.set_cons_zero, List.set_cons_succ]
  refine wpAnyH_ready (rs := [7]) (by kernel_rfl) (by simp) ?_
  refine AllReadyH.cons rfl (fun K hK => ?_) AllReadyH.nil
  go_simp
  refine (HL.out _ bd2).mono ?_
  rintro e w3 ⟨rfl, b3⟩
  have bd3 := below_go bd2 b3
  try dsimp only
  refine hK.out _ _ (rg.out _ bd3) (fun hHeld => ?_)
  clear hK K
  try simp only [Act.put, List.setIfInBounds_toArray, List.set_cons_zero, List.set_cons_succ]
  refine wpAnyH_take (i := 8) (oi := ⟨some 65, _, _, _, _, _⟩) (v := ?_) rfl (by kernel_rfl) (by kernel_rfl) (by kernel_rfl) (fun _ _ _ h => h) (Or.inl ⟨by rfl, ?_⟩) (by assumption) ?_
  rotate_left
  · intro w hSw
    go_simp
    first | done | with_reducible rfl | (rw [if_neg (by omega)])
  try simp only [Act.put, List.setIfInBounds_toArray, List.set_cons_zero, List.set_cons_succ]
  refine wpAnyH_take (i := 9) (oi := ⟨some 4, _, _, _, _, _⟩) (v := ?_) rfl (by kernel_rfl) (by kernel_rfl) (by kernel_rfl) (fun _ _ _ h => h) (Or.inl ⟨by rfl, ?_⟩) (by assumption) ?_
  rotate_left
  · intro w hSw
    go_simp
    first | done | with_reducible rfl | (rw [if_neg (by omega)])
  try simp only [Act.put, List.setIfInBounds_toArray, List.set_cons_zero, List.set_cons_succ]
  refine wpAnyH_done (by kernel_rfl) ?_ _
  go_wp2_with fail
  go_ret
  exact ⟨rfl, below_go bl8 bd3⟩


set_option maxHeartbeats 8000000 in
theorem thr_rcv (T T1 T2 tp : TypeId) (V V1 V2 vp : Value) (D : Array Value) (L : UInt8 → UInt8) (vL : Value) (gL : Nat) (ns : List UInt8) (hD : DrOf D L vL) (hns : ns.length ≤ 1000) (hn1 : 1 ≤ ns.length) (x : UInt8) (H X kt : ByteArray) (hHs : H.size ≤ 10) (hXs : X.size ≤ 1000) (hkt : (kt.toList == [43]) = false) (w : World)
    (hLf : LfS w gL vL ns) (hgL : gL < w.heap.size)
    (hKF : ∃ (F : FuncId) (R : Value), (∀ n w, (method (n + 1) T V "loop.example/g01175/impl.kind").run Tryz.prog w = .ok (F, R) w) ∧ (∀ n w, (nilAhead (n + 1) T V "loop.example/g01175/impl.kind").run Tryz.prog w = .ok (some false) w) ∧ (∀ args w, (callFunc F args).run Tryz.prog w = .ok (.enter F args) w) ∧ ∀ w, Calls Tryz.prog F #[R] w fun e w' => e = .returned (.string kt) ∧ Below w.heap.size w w')
    (hU : ∀ v : World, v.heap[w.heap.size]? = some (.cells D 152 (0, 0)) → Calls Tryz.prog 116 #[.iface T V, .func (.func 197) #[] #[.pointer (some ⟨w.heap.size, 0, none⟩)]] v fun e v' => e = .returned (.iface T1 V1) ∧ Below v.heap.size v v')
    (hB : ∀ w, Calls Tryz.prog 112 #[.iface T1 V1] w fun e w' => e = .returned (.tuple #[.int .u8 (x.toNat : Int), .bool true]) ∧ Below w.heap.size w w')
    (hWB : ∀ w, Calls Tryz.prog 118 #[.iface T1 V1, .int .u8 ((updL L [x] ns x).toNat : Int)] w fun e w' => e = .returned (.iface T2 V2) ∧ Below w.heap.size w w')
    (hta : ∀ w, (Instr.typeAssert (.iface T2 V2) 43 146 true).run Tryz.prog w = .ok (.tuple #[.agg #[.int .u8 0, .int .u8 0, .nilIface], .bool false]) w)
    (hH : ∀ w, Calls Tryz.prog 185 #[.iface T2 V2] w (StrP H w))
    (hP : ∃ (F : FuncId) (R : Value), (∀ n w, (method (n + 1) T2 V2 "loop.example/g01175/impl.parts").run Tryz.prog w = .ok (F, R) w) ∧ (∀ n w, (nilAhead (n + 1) T2 V2 "loop.example/g01175/impl.parts").run Tryz.prog w = .ok (some false) w) ∧ (∀ args w, (callFunc F args).run Tryz.prog w = .ok (.enter F args) w) ∧ ∀ w, Calls Tryz.prog F #[R] w fun e w' => ∃ b, e = .returned (.slice (some ⟨b, 0, none⟩) 1 1) ∧ w.heap.size ≤ b ∧ w'.heap[b]? = some (.cells #[.iface tp vp] 43 (0, 0)) ∧ Below w.heap.size w w')
    (hL : ∀ D2 v2 w1, DrOf D2 (updL L [x] ns) v2 → LfS w1 gL v2 (ns.drop 1) → Below w.heap.size w w1 → Calls Tryz.prog 160 #[.agg D2, .iface tp vp] w1 (StrP X w1)) :
    Calls Tryz.prog 182 #[.agg D, .iface T V] w (StrP (H ++ X) w) := by
  obtain ⟨FK, RK, km, kn, kc, kp⟩ := hKF
  obtain ⟨FP, RP, hm, hn, hc, hp⟩ := hP
  have HK := Lib.hid kp
  have HP := Lib.hid hp
  have HU' := Lib.hid hU
  have HB := Lib.hid hB
  have HH := Lib.hid hH
  have HL' := Lib.hid hL
  have HDs := Lib.hid hD.sz
  clear kp hp hU hB hH hL
  have HWB := Lib.hid hWB
  have HBd := Lib.hid fun (w1 : World) (g : Nat) (b : Below w.heap.size w w1) (hc : w1.cell? ⟨g, 0, none⟩ = some (.int .u8 (x.toNat : Int))) =>
    binding_any D L vL gL ns [x] (some ⟨g, 0, none⟩) g 1 hD (by simp) (by simpa using hn1) hns w1 (hLf.below b) (Nat.lt_of_lt_of_le hgL b.size) (fun _ => ⟨rfl, fun k hk => by (obtain rfl : k = 0 := (by simpa using hk)); exact hc⟩)
  have HI : Hid ((Tryz.prog.info? 152).map (·.size) = some D.size) := by show _ = _; rw [Tryz.infoDf, hD.sz]
  obtain ⟨j, hj⟩ : ∃ j, j = x.toNat := ⟨_, rfl⟩
  have hj2 : (j : Int) < 256 := by have := x.toNat_lt; omega
  have hgl := Lib.hid hgL
  have HJ := Lib.hid hj
  rw [← hj] at HB HBd
  simp only [List.length_singleton] at HBd
  clear hWB hD hLf hgL hj hns hn1
  go_enter Tryz.func182, Tryz.ntmps182
  go_wp2_with fail
  obtain ⟨W, hW⟩ : ∃ W, W = w.alloc (.cells D 152) := ⟨_, rfl⟩
  have hr := Lib.hid (show W.heap[w.heap.size]? = some (.cells D 152 (0, 0)) by rw [hW]; exact new_block0 _ _)
  have bl : Below w.heap.size w W := by rw [hW]; exact (Below.refl _ _).alloc (Nat.le_refl _) _
  rw [← hW]
  clear hW
  refine (HK.out _).mono ?_
  rintro e w1 ⟨rfl, b1⟩
  replace hr := Lib.hid (row_below0 hr.out b1)
  replace bl := below_go bl b1
  clear b1
  go_wp2_with fail
  refine (HU'.out _ hr.out).mono ?_
  rintro e w2 ⟨rfl, b2⟩
  replace hr := Lib.hid (row_below0 hr.out b2)
  replace bl := below_go bl b2
  clear b2
  go_wp2_with fail
  refine (HB.out _).mono ?_
  rintro e w3 ⟨rfl, b3⟩
  replace hr := Lib.hid (row_below0 hr.out b3)
  replace bl := below_go bl b3
  clear b3
  have cnew := new_block0 w3 (.cells #[.int .u8 (j : Int)] 5)
  have HB3 := Lib.hid (HBd.out (w3.alloc (.cells #[.int .u8 (j : Int)] 5)) w3.heap.size (bl.alloc bl.size _) (cellOf1 cnew))
  have hr3 := Lib.hid ((heap_alloc_old w3 (.cells #[.int .u8 (j : Int)] 5) (lt_of_block hr.out)).trans hr.out)
  have bl3 := Lib.hid (bl.alloc bl.size (.cells #[.int .u8 (j : Int)] 5))
  clear cnew HBd bl
  go_wp2_with (refine wpList_load_row rfl 152 (.tmp 2) rfl w.heap.size rfl 152 D (0, 0) _ hr.out Tryz.underlying152 rfl HI.out ?_)
  refine (HB3.out).mono ?_
  rintro e w5 ⟨D2, v2, rfl, hd2, hl2, b5⟩
  have hr5 := Lib.hid (row_below0 hr3.out b5)
  have bl5 := Lib.hid (below_go bl3.out b5)
  have HD2 := Lib.hid hd2
  have HL2 := Lib.hid hl2
  have hi2 : Hid ((Tryz.prog.info? 152).map (·.size) = some D2.size) := by show _ = _; rw [Tryz.infoDf, hd2.sz]
  have hold : Hid (D.size = D2.size) := by show _ = _; rw [HDs.out, hd2.sz]
  have hone : Hid (D2.all (·.oneCell') = true) := hd2.all
  clear hr hr3 bl3 b5 hd2 hl2 HB3
  obtain ⟨W6, hW6⟩ : ∃ W6, W6 = w5.setRow w.heap.size D2 := ⟨_, rfl⟩
  have hr6 := Lib.hid (show W6.heap[w.heap.size]? = some (.cells D2 152 (0, 0)) by rw [hW6]; exact setRow_heap _ w.heap.size D D2 152 _ hr5.out)
  have bl6 := Lib.hid (show Below w.heap.size w W6 by rw [hW6]; exact below_setRow bl5.out (Nat.le_refl _) bl5.out.size)
  have hl6 := Lib.hid (show LfS W6 gL v2 (ns.drop 1) by rw [hW6]; exact HL2.out.keep (setRow_other w5 w.heap.size gL D2 (by have := hgl.out; omega)))
  obtain ⟨n0, hn0⟩ : ∃ n0 : Int, n0 = ((updL L [x] ns x).toNat : Int) := ⟨_, rfl⟩
  have c6 : W6.cell? ⟨w.heap.size, j, none⟩ = some (.int .u8 n0) := by
    have hx := x.toNat_lt
    have h3 : UInt8.ofNat x.toNat = x := u8_ext (by rw [UInt8.toNat_ofNat']; omega)
    rw [cell_of_row W6 w.heap.size j D2 _ _ hr6.out, HJ.out, HD2.out.at_ _ (by omega), h3, hn0]
  rw [← hn0] at HWB
  have c7 : (w5.setRow w.heap.size D2).cell? ⟨w.heap.size, j, none⟩ = some (.int .u8 n0) := by rw [← hW6]; exact c6
  clear hn0 HL2 c6
  go_wp2_with (refine wpList_store_row rfl 152 (.tmp 2) (.tmp 29) rfl w.heap.size D2 rfl rfl 152 D hr5.out hi2.out hold.out hone.out ?_)
  rw [← hW6]
  clear hW6 hr5 bl5 c7
  refine (HWB.out _).mono ?_
  rintro e w7 ⟨rfl, b7⟩
  have hr := Lib.hid (row_below0 hr6.out b7)
  have bl := below_go bl6.out b7
  have bl7 := Lib.hid bl
  have hl7 := Lib.hid (hl6.out.below b7)
  have HL7 := Lib.hid fun w1 (b : Below w.heap.size w w1) (hl : LfS w1 gL v2 (ns.drop 1)) => HL'.out D2 v2 w1 HD2.out hl b
  have HDs := Lib.hid HD2.out.sz
  clear hr6 bl6 hl6 b7
  go_wp2_with fail
  obtain ⟨W8, hW8⟩ : ∃ W8, W8 = w7.alloc (.cells #[.int .u8 0, .int .u8 0, .nilIface] 146) := ⟨_, rfl⟩
  have bl8 : Below w.heap.size w W8 := by rw [hW8]; exact bl.alloc bl.size _
  have hr8 := Lib.hid (show W8.heap[w.heap.size]? = some (.cells D2 152 (0, 0)) by rw [hW8]; exact (heap_alloc_old _ _ (lt_of_block hr.out)).trans hr.out)
  have rg := Lib.hid fun w1 (b : Below W8.heap.size W8 w1) => df_range w1 w.heap.size D2 (row_below0 hr8.out b)
  have b78 : Below w7.heap.size w7 W8 := by rw [hW8]; exact (Below.refl _ _).alloc (Nat.le_refl _) _
  have HL := Lib.hid fun w1 (b : Below W8.heap.size W8 w1) => HL7.out w1 (below_go bl8 b) (hl7.out.below (below_go b78 b))
  rw [← hW8]
  clear hW8 hr bl b78
  refine wp_region_held_drew (S := fun w' => w'.rangeAt w.heap.size 0 D2.toList) (by kernel_rfl) (rg.out _ ((Below.refl _ _).drew)) (fun hHeld => ?_)
  refine wpAnyH_take (i := 0) (oi := ⟨some 57, _, _, _, _, _⟩) (v := ?_) rfl (by kernel_rfl) (by kernel_rfl) (by kernel_rfl) (fun _ _ _ h => h) (Or.inl ⟨by rfl, ?_⟩) (by assumption) ?_
  rotate_left
  · intro w hSw
    go_simp
    first | done | with_reducible rfl | (rw [if_neg (by omega)])
  try simp only [Act.put, List.setIfInBounds_toArray, List.set_cons_zero, List.set_cons_succ]
  refine wpAnyH_take (i := 2) (oi := ⟨some 59, _, _, _, _, _⟩) (v := .agg D2) rfl (by kernel_rfl) (by kernel_rfl) (by kernel_rfl) (fun _ _ _ h => h) (df_yields rfl _ _ rfl rfl rfl HDs.out (fun w h => h)) (by assumption) ?_
  try simp only [Act.put, List.setIfInBounds_toArray, List.set_cons_zero, List.set_cons_succ]
  refine wpAnyH_take (i := 3) (oi := ⟨some 60, _, _, _, _, _⟩) (v := ?_) rfl (by kernel_rfl) (by kernel_rfl) (by kernel_rfl) (fun _ _ _ h => h) (Or.inl ⟨by rfl, ?_⟩) (by assumption) ?_
  rotate_left
  · intro w hSw
    go_simp
    first | done | with_reducible rfl | (rw [if_neg (by omega)])
  try simp only [Act.put, List.setIfInBounds_toArray, List.set_cons_zero, List.set_cons_succ]
  refine wpAnyH_ready (rs := [1]) (by kernel_rfl) (by simp) ?_
  refine AllReadyH.cons rfl (fun K hK => ?_) AllReadyH.nil
  go_simp
  refine (HH.out _).mono ?_
  rintro e w1 ⟨rfl, b1⟩
  have bd1 := below_go (Below.refl W8.heap.size W8).drew b1
  try dsimp only
  refine hK.out _ _ (rg.out _ bd1) (fun hHeld => ?_)
  clear hK K
  try simp only [Act.put, List.setIfInBounds_toArray, List.set_cons_zero, List.set_cons_succ]
  refine wpAnyH_ready (rs := [4]) (by kernel_rfl) (by simp) ?_
  refine AllReadyH.cons rfl (fun K hK => ?_) AllReadyH.nil
  go_simp
  refine (HP.out _).mono ?_
  rintro e w2 ⟨b, rfl, hb, hh, b2⟩
  have bd2 := below_go bd1 b2
  have d0 := cellOf1 hh
  clear hb hh b2 b1
  try dsimp only
  refine hK.out _ _ (rg.out _ bd2) (fun hHeld => ?_)
  clear hK K
  try simp only [Act.put, List.setIfInBounds_toArray, List.set_cons_zero, List.set_cons_succ]
  refine wpAnyH_take (i := 5) (oi := ⟨some 62, _, _, _, _, _⟩) (v := ?_) rfl (by kernel_rfl) (by kernel_rfl) (by kernel_rfl) (fun _ _ _ h => h) (Or.inl ⟨by rfl, ?_⟩) (by assumption) ?_
  rotate_left
  · intro w hSw
    go_simp
    first | done | with_reducible rfl | (rw [if_neg (by omega)])
  try simp only [Act.put, List.setIfInBounds_toArray, List.set_cons_zero, List.set_cons_succ]
  refine wpAnyH_ready (rs := [6]) (by kernel_rfl) (by simp) ?_
  refine AllReadyH.cons rfl (fun K hK => ?_) AllReadyH.nil
  go_simp
  try dsimp only
  refine hK.out _ _ (by assumption) (fun hHeld => ?_)
  clear hK K
  try simp only [Act.put, List.setIfInBounds_toArray, List.set_cons_zero, List.set_cons_succ]
  refine wpAnyH_ready (rs := [7]) (by kernel_rfl) (by simp) ?_
  refine AllReadyH.cons rfl (fun K hK => ?_) AllReadyH.nil
  go_simp
  refine (HL.out _ bd2).mono ?_
  rintro e w3 ⟨rfl, b3⟩
  have bd3 := below_go bd2 b3
  try dsimp only
  refine hK.out _ _ (rg.out _ bd3) (fun hHeld => ?_)
  clear hK K
  try simp only [Act.put, List.setIfInBounds_toArray, List.set_cons_zero, List.set_cons_succ]
  refine wpAnyH_take (i := 8) (oi := ⟨some 65, _, _, _, _, _⟩) (v := ?_) rfl (by kernel_rfl) (by kernel_rfl) (by kernel_rfl) (fun _ _ _ h => h) (Or.inl ⟨by rfl, ?_⟩) (by assumption) ?_
  rotate_left
  · intro w hSw
    go_simp
    first | done | with_reducible rfl | (rw [if_neg (by omega)])
  try simp only [Act.put, List.setIfInBounds_toArray, List.set_cons_zero, List.set_cons_succ]
  refine wpAnyH_take (i := 9) (oi := ⟨some 4, _, _, _, _, _⟩) (v := ?_) rfl (by kernel_rfl) (by kernel_rfl) (by kernel_rfl) (fun _ _ _ h => h) (Or.inl ⟨by rfl, ?_⟩) (by assumption) ?_
  rotate_left
  · intro w hSw
    go_simp
    first | done | with_reducible rfl | (rw [if_neg (by omega)])
  try simp only [Act.put, List.setIfInBounds_toArray, List.set_cons_zero, List.set_cons_succ]
  refine wpAnyH_done (by kernel_rfl) ?_ _
  go_wp2_with fail
  go_ret
  exact ⟨rfl, below_go bl8 bd3⟩


set_option maxHeartbeats 8000000 in
theorem thr_sum (T : TypeId) (V : Value) (D : Array Value) (hD : D.size = 257) (ts us : List Tm) (n : Nat) (Y kt : ByteArray) (hkt : (kt.toList == [43]) = true) (w : World)
    (hKF : ∃ (F : FuncId) (R : Value), (∀ n w, (method (n + 1) T V "loop.example/g01175/impl.kind").run Tryz.prog w = .ok (F, R) w) ∧ (∀ n w, (nilAhead (n + 1) T V "loop.example/g01175/impl.kind").run Tryz.prog w = .ok (some false) w) ∧ (∀ args w, (callFunc F args).run Tryz.prog w = .ok (.enter F args) w) ∧ ∀ w, Calls Tryz.prog F #[R] w fun e w' => e = .returned (.string kt) ∧ Below w.heap.size w w')
    (hS : ∀ w1, Calls Tryz.prog 99 #[.iface T V] w1 (SumP (ts.map enc) w1))
    (hI : ∀ w1 v base, Below w.heap.size w w1 → w1.ownsRow base 43 1 v ts.length (ts.map enc) → Calls Tryz.prog 181 #[.agg D, v, .func (.func 160) #[] #[]] w1 (TxP us n w1))
    (hBr : ∀ w1 v base, w1.ownsRow base 9 1 v n (us.map sv) → Calls Tryz.prog 183 #[v, .string ⟨#[43]⟩] w1 fun e w' => e = .returned (.string Y) ∧ w1 = w') :
    Calls Tryz.prog 182 #[.agg D, .iface T V] w (StrP Y w) := by
  obtain ⟨FK, RK, km, kn, kc, kp⟩ := hKF
  have HK := Lib.hid kp
  have HS := Lib.hid hS
  have HI := Lib.hid hI
  have HBr := Lib.hid hBr
  have HDs := Lib.hid hD
  clear kp hS hI hBr hD
  go_enter Tryz.func182, Tryz.ntmps182
  go_wp2_with fail
  obtain ⟨W, hW⟩ : ∃ W, W = w.alloc (.cells D 152) := ⟨_, rfl⟩
  have hr := Lib.hid (show W.heap[w.heap.size]? = some (.cells D 152 (0, 0)) by rw [hW]; exact new_block0 _ _)
  have bl : Below w.heap.size w W := by rw [hW]; exact (Below.refl _ _).alloc (Nat.le_refl _) _
  rw [← hW]
  clear hW
  refine (HK.out _).mono ?_
  rintro e w1 ⟨rfl, b1⟩
  replace hr := Lib.hid (row_below0 hr.out b1)
  replace bl := below_go bl b1
  clear b1
  have rg := Lib.hid fun w2 (b : Below w1.heap.size w1 w2) => df_range w2 w.heap.size D (row_below0 hr.out b)
  clear hr
  go_wp2_with fail
  refine wp_region_held_drew (S := fun w' => w'.rangeAt w.heap.size 0 D.toList) (by kernel_rfl) (rg.out _ ((Below.refl _ _).drew)) (fun hHeld => ?_)
  refine wpAnyH_take (i := 0) (oi := ⟨some 12, _, _, _, _, _⟩) (v := .agg D) rfl (by kernel_rfl) (by kernel_rfl) (by kernel_rfl) (fun _ _ _ h => h) (df_yields rfl _ _ rfl rfl rfl HDs.out (fun w h => h)) (by assumption) ?_
  try simp only [Act.put, List.setIfInBounds_toArray, List.set_cons_zero, List.set_cons_succ]
  refine wpAnyH_take (i := 1) (oi := ⟨some 13, _, _, _, _, _⟩) (v := ?_) rfl (by kernel_rfl) (by kernel_rfl) (by kernel_rfl) (fun _ _ _ h => h) (Or.inl ⟨by rfl, ?_⟩) (by assumption) ?_
  rotate_left
  · intro w hSw
    go_simp
    first | done | with_reducible rfl | (rw [if_neg (by omega)])
  try simp only [Act.put, List.setIfInBounds_toArray, List.set_cons_zero, List.set_cons_succ]
  refine wpAnyH_ready (rs := [2]) (by kernel_rfl) (by simp) ?_
  refine AllReadyH.cons rfl (fun K hK => ?_) AllReadyH.nil
  go_simp
  refine (HS.out _).mono ?_
  rintro e w2 ⟨g, cap, rfl, o2, b2⟩
  have bd2 := below_go (Below.refl w1.heap.size w1).drew b2
  rw [List.length_map] at o2
  try dsimp only
  refine hK.out _ _ (rg.out _ bd2) (fun hHeld => ?_)
  clear hK K
  try simp only [Act.put, List.setIfInBounds_toArray, List.set_cons_zero, List.set_cons_succ]
  refine wpAnyH_ready (rs := [3]) (by kernel_rfl) (by simp) ?_
  refine AllReadyH.cons rfl (fun K hK => ?_) AllReadyH.nil
  go_simp
  try simp only [List.length_map]
  refine (HI.out _ _ _ (below_go bl bd2) o2).mono ?_
  rintro e w3 ⟨v3, rfl, o3, b3⟩
  have bd3 := below_go bd2 b3
  try dsimp only
  refine hK.out _ _ (rg.out _ bd3) (fun hHeld => ?_)
  clear hK K
  try simp only [Act.put, List.setIfInBounds_toArray, List.set_cons_zero, List.set_cons_succ]
  refine wpAnyH_ready (rs := [4]) (by kernel_rfl) (by simp) ?_
  refine AllReadyH.cons rfl (fun K hK => ?_) AllReadyH.nil
  go_simp
  refine (HBr.out _ _ _ o3).mono ?_
  rintro e w4 ⟨rfl, rfl⟩
  try dsimp only
  refine hK.out _ _ (rg.out _ bd3) (fun hHeld => ?_)
  clear hK K
  try simp only [Act.put, List.setIfInBounds_toArray, List.set_cons_zero, List.set_cons_succ]
  refine wpAnyH_take (i := 5) (oi := ⟨some 4, _, _, _, _, _⟩) (v := ?_) rfl (by kernel_rfl) (by kernel_rfl) (by kernel_rfl) (fun _ _ _ h => h) (Or.inl ⟨by rfl, ?_⟩) (by assumption) ?_
  rotate_left
  · intro w hSw
    go_simp
    first | done | with_reducible rfl | (rw [if_neg (by omega)])
  try simp only [Act.put, List.setIfInBounds_toArray, List.set_cons_zero, List.set_cons_succ]
  refine wpAnyH_done (by kernel_rfl) ?_ _
  go_wp2_with fail
  go_ret
  exact ⟨rfl, below_go bl bd3⟩

end Go.Proofs.YtmfmagfgcdaeeaaGreat.T1
