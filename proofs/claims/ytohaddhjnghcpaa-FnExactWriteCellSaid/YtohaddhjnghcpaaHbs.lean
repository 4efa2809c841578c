/- Texts of the proof, put together: Cdm. No conditions. -/
import Derived.Test.YtohaddhjnghcpaaHbp
import Derived.Deep.RegionHeld3

/- The functions behind the door: what each answers, way by way. MADE BY gen_Ch.py. No conditions. -/
namespace Go.Proofs.Ytohaddhjnghcpaa.T1
open Go.RowKit
set_option maxRecDepth 100000
set_option linter.unusedVariables false
set_option linter.unusedSimpArgs false

set_option maxHeartbeats 2000000 in
theorem cl_ForwardAt_yes (a : ByteArray) (b : ByteArray) (b0 : Nat) (b1 : Nat) (x0 : Int) (x1 : Int) (X z : Int) (T1 : TypeId) (V1 : Value) (T : TypeId) (V : Value) (w : World) (h0 : w.cell? ⟨b0, 0, none⟩ = some (.string a)) (h1 : w.cell? ⟨b1, 0, none⟩ = some (.string b))
    (H0 : ∀ w, Calls Try.prog 36 #[.string a] w fun e w' => e = .returned (.int .u8 x0) ∧ Below w.heap.size w w')
    (H1 : ∀ w, Calls Try.prog 36 #[.string b] w fun e w' => e = .returned (.int .u8 x1) ∧ Below w.heap.size w w')
    (HS : ∀ (W : World) g, W.cell? ⟨g, 0, none⟩ = some (.int .u8 x0) → W.cell? ⟨g, 1, none⟩ = some (.int .u8 x1) → Calls Try.prog 52 #[.slice (some ⟨g, 0, none⟩) 2 2] W fun e w' => e = .returned (.int .u32 X) ∧ W = w')
    (HFF : ∀ w, Calls Try.prog 51 #[.int .u32 X, .int .i64 1] w fun e w' => ∃ g, e = .returned (.slice (some ⟨g, 0, none⟩) 1 1) ∧ w'.cell? ⟨g, 0, none⟩ = some (.int .u8 z) ∧ Below w.heap.size w w')
    (HO : ∀ w, Calls Try.prog 53 #[.int .u8 x1, .int .u8 z] w fun e w' => e = .returned (.iface T1 V1) ∧ w = w')
    (hneT : T = 54 ∧ V = .agg #[.iface 52 (.agg #[.int .u8 x0, .int .u8 z, .iface T1 V1])]) :
    Calls Try.prog 50 #[.pointer (some ⟨b0, 0, none⟩), .pointer (some ⟨b1, 0, none⟩)] w fun e w' => e = .returned (.iface T V) ∧ Below w.heap.size w w' := by
  have l0 : b0 < w.heap.size := World.block_lt_of_cell? w _ h0
  have l1 : b1 < w.heap.size := World.block_lt_of_cell? w _ h1
  have CC : Hid (∀ x, Below w.heap.size w x → (fun w' => w'.cell? ⟨b0, 0, none⟩ = some (.string a) ∧ w'.cell? ⟨b1, 0, none⟩ = some (.string b) ∧ True) x) := fun x k => ⟨(k.cell (p := ⟨b0, 0, none⟩) l0).trans h0, (k.cell (p := ⟨b1, 0, none⟩) l1).trans h1, trivial⟩
  have k0 := (Below.refl w.heap.size w).drew
  have H0' := Lib.hid H0
  have H1' := Lib.hid H1
  have HS' := Lib.hid HS
  have HFF' := Lib.hid HFF
  have HO' := Lib.hid HO
  clear H0 H1 HS HFF HO
  go_enter Try.func50, Try.ntmps50
  go_wp2_with fail
  refine wp_region_held_drew (S := fun w' => w'.cell? ⟨b0, 0, none⟩ = some (.string a) ∧ w'.cell? ⟨b1, 0, none⟩ = some (.string b) ∧ True) (by kernel_rfl) (CC.out _ k0) (fun hHeld => ?_)
  try simp only [Act.put, List.setIfInBounds_toArray, List.set_cons_zero, List.set_cons_succ]
  refine wpAnyH_take (i := 0) (oi := ⟨some 6, _, _, _, _, _⟩) (v := ?_) rfl (by kernel_rfl) (by kernel_rfl) (by kernel_rfl) (fun _ _ _ h => h) (Or.inl ⟨by rfl, ?_⟩) (by assumption) ?_
  rotate_left
  · intro w hSw
    (try dsimp only at hSw)
    (try obtain ⟨q0, q1, q2, q3⟩ := hSw)
    (try obtain ⟨q0, q1, q2⟩ := hSw)
    (try obtain ⟨q0, q1⟩ := hSw)
    go_simp
    with_reducible rfl
  try simp only [Act.put, List.setIfInBounds_toArray, List.set_cons_zero, List.set_cons_succ]
  refine wpAnyH_take (i := 2) (oi := ⟨some 8, _, _, _, _, _⟩) (v := ?_) rfl (by kernel_rfl) (by kernel_rfl) (by kernel_rfl) (fun _ _ _ h => h) (Or.inl ⟨by rfl, ?_⟩) (by assumption) ?_
  rotate_left
  · intro w hSw
    (try dsimp only at hSw)
    (try obtain ⟨q0, q1, q2, q3⟩ := hSw)
    (try obtain ⟨q0, q1, q2⟩ := hSw)
    (try obtain ⟨q0, q1⟩ := hSw)
    go_simp
    with_reducible rfl
  try simp only [Act.put, List.setIfInBounds_toArray, List.set_cons_zero, List.set_cons_succ]
  refine wpAnyH_ready (rs := [1]) (by kernel_rfl) (by simp) ?_
  refine AllReadyH.cons rfl (fun K hK => ?_) AllReadyH.nil
  go_simp
  with_reducible refine (H0'.out _).mono ?_
  rintro e w1 ⟨rfl, b1⟩
  have k1 := cdgo k0 b1
  dsimp only
  refine hK.out _ _ (CC.out _ k1) (fun hHeld => ?_)
  clear hK K
  try simp only [Act.put, List.setIfInBounds_toArray, List.set_cons_zero, List.set_cons_succ]
  refine wpAnyH_ready (rs := [3]) (by kernel_rfl) (by simp) ?_
  refine AllReadyH.cons rfl (fun K hK => ?_) AllReadyH.nil
  go_simp
  with_reducible refine (H1'.out _).mono ?_
  rintro e w2 ⟨rfl, b2⟩
  have k2 := cdgo k1 b2
  dsimp only
  refine hK.out _ _ (CC.out _ k2) (fun hHeld => ?_)
  clear hK K
  try simp only [Act.put, List.setIfInBounds_toArray, List.set_cons_zero, List.set_cons_succ]
  refine wpAnyH_take (i := 4) (oi := ⟨some 3, _, _, _, _, _⟩) (v := ?_) rfl (by kernel_rfl) (by kernel_rfl) (by kernel_rfl) (fun _ _ _ h => h) (Or.inl ⟨by rfl, ?_⟩) (by assumption) ?_
  rotate_left
  · intro w hSw
    (try dsimp only at hSw)
    (try obtain ⟨q0, q1, q2, q3⟩ := hSw)
    (try obtain ⟨q0, q1, q2⟩ := hSw)
    (try obtain ⟨q0, q1⟩ := hSw)
    go_simp
    with_reducible rfl
  try simp only [Act.put, List.setIfInBounds_toArray, List.set_cons_zero, List.set_cons_succ]
  refine wpAnyH_take (i := 5) (oi := ⟨some 4, _, _, _, _, _⟩) (v := ?_) rfl (by kernel_rfl) (by kernel_rfl) (by kernel_rfl) (fun _ _ _ h => h) (Or.inl ⟨by rfl, ?_⟩) (by assumption) ?_
  rotate_left
  · intro w hSw
    (try dsimp only at hSw)
    (try obtain ⟨q0, q1, q2, q3⟩ := hSw)
    (try obtain ⟨q0, q1, q2⟩ := hSw)
    (try obtain ⟨q0, q1⟩ := hSw)
    go_simp
    with_reducible rfl
  try simp only [Act.put, List.setIfInBounds_toArray, List.set_cons_zero, List.set_cons_succ]
  refine wpAnyH_done (by kernel_rfl) ?_ _
  go_wp2_with fail
  with_reducible refine (HS'.out _ _ ?_ ?_).mono ?_
  · rw [World.cell?_alloc_new]; rfl
  · rw [World.cell?_alloc_new]; rfl
  rintro e w3 ⟨rfl, rfl⟩
  have k3 := k2.alloc k2.size (.cells #[.int .u8 x0, .int .u8 x1] 5)
  go_wp2_with fail
  with_reducible refine (HFF'.out _).mono ?_
  rintro e w4 ⟨g, rfl, c0, b4⟩
  have k4 := cdgo k3 b4
  go_wp2_with fail
  with_reducible refine (HO'.out _).mono ?_
  rintro e w5 ⟨rfl, rfl⟩
  go_wp2_with fail
  go_ret
  exact ⟨by rw [hneT.1, hneT.2]; rfl, k4⟩
set_option maxHeartbeats 2000000 in
theorem cl_ForwardAt_0 (a : ByteArray) (b : ByteArray) (b0 : Nat) (b1 : Nat) (w : World) (h0 : w.cell? ⟨b0, 0, none⟩ = some (.string a)) (h1 : w.cell? ⟨b1, 0, none⟩ = some (.string b))
    (H0 : ∀ w, Calls Try.prog 36 #[.string a] w fun e w' => e = failed ∧ Below w.heap.size w w') :
    Calls Try.prog 50 #[.pointer (some ⟨b0, 0, none⟩), .pointer (some ⟨b1, 0, none⟩)] w fun e w' => e = failed ∧ Below w.heap.size w w' := by
  have l0 : b0 < w.heap.size := World.block_lt_of_cell? w _ h0
  have l1 : b1 < w.heap.size := World.block_lt_of_cell? w _ h1
  have CC : Hid (∀ x, Below w.heap.size w x → (fun w' => w'.cell? ⟨b0, 0, none⟩ = some (.string a) ∧ w'.cell? ⟨b1, 0, none⟩ = some (.string b) ∧ True) x) := fun x k => ⟨(k.cell (p := ⟨b0, 0, none⟩) l0).trans h0, (k.cell (p := ⟨b1, 0, none⟩) l1).trans h1, trivial⟩
  have k0 := (Below.refl w.heap.size w).drew
  have H0' := Lib.hid H0
  clear H0
  go_enter Try.func50, Try.ntmps50
  go_wp2_with fail
  refine wp_region_held_drew (S := fun w' => w'.cell? ⟨b0, 0, none⟩ = some (.string a) ∧ w'.cell? ⟨b1, 0, none⟩ = some (.string b) ∧ True) (by kernel_rfl) (CC.out _ k0) (fun hHeld => ?_)
  try simp only [Act.put, List.setIfInBounds_toArray, List.set_cons_zero, List.set_cons_succ]
  refine wpAnyH_take (i := 0) (oi := ⟨some 6, _, _, _, _, _⟩) (v := ?_) rfl (by kernel_rfl) (by kernel_rfl) (by kernel_rfl) (fun _ _ _ h => h) (Or.inl ⟨by rfl, ?_⟩) (by assumption) ?_
  rotate_left
  · intro w hSw
    (try dsimp only at hSw)
    (try obtain ⟨q0, q1, q2, q3⟩ := hSw)
    (try obtain ⟨q0, q1, q2⟩ := hSw)
    (try obtain ⟨q0, q1⟩ := hSw)
    go_simp
    with_reducible rfl
  try simp only [Act.put, List.setIfInBounds_toArray, List.set_cons_zero, List.set_cons_succ]
  refine wpAnyH_take (i := 2) (oi := ⟨some 8, _, _, _, _, _⟩) (v := ?_) rfl (by kernel_rfl) (by kernel_rfl) (by kernel_rfl) (fun _ _ _ h => h) (Or.inl ⟨by rfl, ?_⟩) (by assumption) ?_
  rotate_left
  · intro w hSw
    (try dsimp only at hSw)
    (try obtain ⟨q0, q1, q2, q3⟩ := hSw)
    (try obtain ⟨q0, q1, q2⟩ := hSw)
    (try obtain ⟨q0, q1⟩ := hSw)
    go_simp
    with_reducible rfl
  try simp only [Act.put, List.setIfInBounds_toArray, List.set_cons_zero, List.set_cons_succ]
  refine wpAnyH_ready (rs := [1]) (by kernel_rfl) (by simp) ?_
  refine AllReadyH.cons rfl (fun K hK => ?_) AllReadyH.nil
  go_simp
  with_reducible refine (H0'.out _).mono ?_
  rintro e w1 ⟨rfl, b1⟩
  have k1 := cdgo k0 b1
  exact And.intro rfl (And.intro rfl k1)
set_option maxHeartbeats 2000000 in
theorem cl_ForwardAt_1 (a : ByteArray) (b : ByteArray) (b0 : Nat) (b1 : Nat) (x0 : Int) (w : World) (h0 : w.cell? ⟨b0, 0, none⟩ = some (.string a)) (h1 : w.cell? ⟨b1, 0, none⟩ = some (.string b))
    (H0 : ∀ w, Calls Try.prog 36 #[.string a] w fun e w' => e = .returned (.int .u8 x0) ∧ Below w.heap.size w w')
    (H1 : ∀ w, Calls Try.prog 36 #[.string b] w fun e w' => e = failed ∧ Below w.heap.size w w') :
    Calls Try.prog 50 #[.pointer (some ⟨b0, 0, none⟩), .pointer (some ⟨b1, 0, none⟩)] w fun e w' => e = failed ∧ Below w.heap.size w w' := by
  have l0 : b0 < w.heap.size := World.block_lt_of_cell? w _ h0
  have l1 : b1 < w.heap.size := World.block_lt_of_cell? w _ h1
  have CC : Hid (∀ x, Below w.heap.size w x → (fun w' => w'.cell? ⟨b0, 0, none⟩ = some (.string a) ∧ w'.cell? ⟨b1, 0, none⟩ = some (.string b) ∧ True) x) := fun x k => ⟨(k.cell (p := ⟨b0, 0, none⟩) l0).trans h0, (k.cell (p := ⟨b1, 0, none⟩) l1).trans h1, trivial⟩
  have k0 := (Below.refl w.heap.size w).drew
  have H0' := Lib.hid H0
  have H1' := Lib.hid H1
  clear H0 H1
  go_enter Try.func50, Try.ntmps50
  go_wp2_with fail
  refine wp_region_held_drew (S := fun w' => w'.cell? ⟨b0, 0, none⟩ = some (.string a) ∧ w'.cell? ⟨b1, 0, none⟩ = some (.string b) ∧ True) (by kernel_rfl) (CC.out _ k0) (fun hHeld => ?_)
  try simp only [Act.put, List.setIfInBounds_toArray, List.set_cons_zero, List.set_cons_succ]
  refine wpAnyH_take (i := 0) (oi := ⟨some 6, _, _, _, _, _⟩) (v := ?_) rfl (by kernel_rfl) (by kernel_rfl) (by kernel_rfl) (fun _ _ _ h => h) (Or.inl ⟨by rfl, ?_⟩) (by assumption) ?_
  rotate_left
  · intro w hSw
    (try dsimp only at hSw)
    (try obtain ⟨q0, q1, q2, q3⟩ := hSw)
    (try obtain ⟨q0, q1, q2⟩ := hSw)
    (try obtain ⟨q0, q1⟩ := hSw)
    go_simp
    with_reducible rfl
  try simp only [Act.put, List.setIfInBounds_toArray, List.set_cons_zero, List.set_cons_succ]
  refine wpAnyH_take (i := 2) (oi := ⟨some 8, _, _, _, _, _⟩) (v := ?_) rfl (by kernel_rfl) (by kernel_rfl) (by kernel_rfl) (fun _ _ _ h => h) (Or.inl ⟨by rfl, ?_⟩) (by assumption) ?_
  rotate_left
  · intro w hSw
    (try dsimp only at hSw)
    (try obtain ⟨q0, q1, q2, q3⟩ := hSw)
    (try obtain ⟨q0, q1, q2⟩ := hSw)
    (try obtain ⟨q0, q1⟩ := hSw)
    go_simp
    with_reducible rfl
  try simp only [Act.put, List.setIfInBounds_toArray, List.set_cons_zero, List.set_cons_succ]
  refine wpAnyH_ready (rs := [1]) (by kernel_rfl) (by simp) ?_
  refine AllReadyH.cons rfl (fun K hK => ?_) AllReadyH.nil
  go_simp
  with_reducible refine (H0'.out _).mono ?_
  rintro e w1 ⟨rfl, b1⟩
  have k1 := cdgo k0 b1
  dsimp only
  refine hK.out _ _ (CC.out _ k1) (fun hHeld => ?_)
  clear hK K
  try simp only [Act.put, List.setIfInBounds_toArray, List.set_cons_zero, List.set_cons_succ]
  refine wpAnyH_ready (rs := [3]) (by kernel_rfl) (by simp) ?_
  refine AllReadyH.cons rfl (fun K hK => ?_) AllReadyH.nil
  go_simp
  with_reducible refine (H1'.out _).mono ?_
  rintro e w2 ⟨rfl, b2⟩
  have k2 := cdgo k1 b2
  exact And.intro rfl (And.intro rfl k2)
set_option maxHeartbeats 2000000 in
theorem cl_ReadCell_yes (a : ByteArray) (b : ByteArray) (p : ByteArray) (b0 : Nat) (b1 : Nat) (b2 : Nat) (x0 : Int) (x1 : Int) (T2 : TypeId) (V2 : Value) (T : TypeId) (V : Value) (w : World) (h0 : w.cell? ⟨b0, 0, none⟩ = some (.string a)) (h1 : w.cell? ⟨b1, 0, none⟩ = some (.string b)) (h2 : w.cell? ⟨b2, 0, none⟩ = some (.string p))
    (H0 : ∀ w, Calls Try.prog 36 #[.string a] w fun e w' => e = .returned (.int .u8 x0) ∧ Below w.heap.size w w')
    (H1 : ∀ w, Calls Try.prog 36 #[.string b] w fun e w' => e = .returned (.int .u8 x1) ∧ Below w.heap.size w w')
    (hne : (x0 != x1) = true)
    (H2 : ∀ w, Calls Try.prog 41 #[.string p] w fun e w' => e = .returned (.iface T2 V2) ∧ Below w.heap.size w w')
    (HB : ∀ w, Calls Try.prog 57 #[.int .u8 x0, .int .u8 x1, .int .u8 x1, .iface T2 V2] w fun e w' => e = .returned (.iface T V) ∧ w = w') :
    Calls Try.prog 55 #[.pointer (some ⟨b0, 0, none⟩), .pointer (some ⟨b1, 0, none⟩), .pointer (some ⟨b2, 0, none⟩)] w fun e w' => e = .returned (.iface T V) ∧ Below w.heap.size w w' := by
  have l0 : b0 < w.heap.size := World.block_lt_of_cell? w _ h0
  have l1 : b1 < w.heap.size := World.block_lt_of_cell? w _ h1
  have l2 : b2 < w.heap.size := World.block_lt_of_cell? w _ h2
  have CC : Hid (∀ x, Below w.heap.size w x → (fun w' => w'.cell? ⟨b0, 0, none⟩ = some (.string a) ∧ w'.cell? ⟨b1, 0, none⟩ = some (.string b) ∧ w'.cell? ⟨b2, 0, none⟩ = some (.string p) ∧ True) x) := fun x k => ⟨(k.cell (p := ⟨b0, 0, none⟩) l0).trans h0, (k.cell (p := ⟨b1, 0, none⟩) l1).trans h1, (k.cell (p := ⟨b2, 0, none⟩) l2).trans h2, trivial⟩
  have k0 := (Below.refl w.heap.size w).drew
  have H0' := Lib.hid H0
  have H1' := Lib.hid H1
  have H2' := Lib.hid H2
  have HB' := Lib.hid HB
  clear H0 H1 H2 HB
  go_enter Try.func55, Try.ntmps55
  go_wp2_with fail
  refine wp_region_held_drew (S := fun w' => w'.cell? ⟨b0, 0, none⟩ = some (.string a) ∧ w'.cell? ⟨b1, 0, none⟩ = some (.string b) ∧ w'.cell? ⟨b2, 0, none⟩ = some (.string p) ∧ True) (by kernel_rfl) (CC.out _ k0) (fun hHeld => ?_)
  try simp only [Act.put, List.setIfInBounds_toArray, List.set_cons_zero, List.set_cons_succ]
  refine wpAnyH_take (i := 0) (oi := ⟨some 6, _, _, _, _, _⟩) (v := ?_) rfl (by kernel_rfl) (by kernel_rfl) (by kernel_rfl) (fun _ _ _ h => h) (Or.inl ⟨by rfl, ?_⟩) (by assumption) ?_
  rotate_left
  · intro w hSw
    (try dsimp only at hSw)
    (try obtain ⟨q0, q1, q2, q3⟩ := hSw)
    (try obtain ⟨q0, q1, q2⟩ := hSw)
    (try obtain ⟨q0, q1⟩ := hSw)
    go_simp
    with_reducible rfl
  try simp only [Act.put, List.setIfInBounds_toArray, List.set_cons_zero, List.set_cons_succ]
  refine wpAnyH_take (i := 2) (oi := ⟨some 8, _, _, _, _, _⟩) (v := ?_) rfl (by kernel_rfl) (by kernel_rfl) (by kernel_rfl) (fun _ _ _ h => h) (Or.inl ⟨by rfl, ?_⟩) (by assumption) ?_
  rotate_left
  · intro w hSw
    (try dsimp only at hSw)
    (try obtain ⟨q0, q1, q2, q3⟩ := hSw)
    (try obtain ⟨q0, q1, q2⟩ := hSw)
    (try obtain ⟨q0, q1⟩ := hSw)
    go_simp
    with_reducible rfl
  try simp only [Act.put, List.setIfInBounds_toArray, List.set_cons_zero, List.set_cons_succ]
  refine wpAnyH_ready (rs := [1]) (by kernel_rfl) (by simp) ?_
  refine AllReadyH.cons rfl (fun K hK => ?_) AllReadyH.nil
  go_simp
  with_reducible refine (H0'.out _).mono ?_
  rintro e w1 ⟨rfl, b1⟩
  have k1 := cdgo k0 b1
  dsimp only
  refine hK.out _ _ (CC.out _ k1) (fun hHeld => ?_)
  clear hK K
  try simp only [Act.put, List.setIfInBounds_toArray, List.set_cons_zero, List.set_cons_succ]
  refine wpAnyH_ready (rs := [3]) (by kernel_rfl) (by simp) ?_
  refine AllReadyH.cons rfl (fun K hK => ?_) AllReadyH.nil
  go_simp
  with_reducible refine (H1'.out _).mono ?_
  rintro e w2 ⟨rfl, b2⟩
  have k2 := cdgo k1 b2
  dsimp only
  refine hK.out _ _ (CC.out _ k2) (fun hHeld => ?_)
  clear hK K
  try simp only [Act.put, List.setIfInBounds_toArray, List.set_cons_zero, List.set_cons_succ]
  refine wpAnyH_take (i := 4) (oi := ⟨some 4, _, _, _, _, _⟩) (v := ?_) rfl (by kernel_rfl) (by kernel_rfl) (by kernel_rfl) (fun _ _ _ h => h) (Or.inl ⟨by rfl, ?_⟩) (by assumption) ?_
  rotate_left
  · intro w hSw
    (try dsimp only at hSw)
    (try obtain ⟨q0, q1, q2, q3⟩ := hSw)
    (try obtain ⟨q0, q1, q2⟩ := hSw)
    (try obtain ⟨q0, q1⟩ := hSw)
    go_simp
    with_reducible rfl
  try simp only [Act.put, List.setIfInBounds_toArray, List.set_cons_zero, List.set_cons_succ]
  refine wpAnyH_take (i := 5) (oi := ⟨some 5, _, _, _, _, _⟩) (v := ?_) rfl (by kernel_rfl) (by kernel_rfl) (by kernel_rfl) (fun _ _ _ h => h) (Or.inl ⟨by rfl, ?_⟩) (by assumption) ?_
  rotate_left
  · intro w hSw
    (try dsimp only at hSw)
    (try obtain ⟨q0, q1, q2, q3⟩ := hSw)
    (try obtain ⟨q0, q1, q2⟩ := hSw)
    (try obtain ⟨q0, q1⟩ := hSw)
    go_simp
    with_reducible rfl
  try simp only [Act.put, List.setIfInBounds_toArray, List.set_cons_zero, List.set_cons_succ]
  refine wpAnyH_done (by kernel_rfl) ?_ _
  go_wp2_with fail
  with_reducible refine (ensure_yes _).mono ?_
  rintro e w' ⟨rfl, rfl⟩
  have c2 := (CC.out _ k2).2.2.1
  go_wp2_with fail
  with_reducible refine (H2'.out _).mono ?_
  rintro e w3 ⟨rfl, b3⟩
  have k3 := cdgo k2 b3
  go_wp2_with fail
  with_reducible refine (HB'.out _).mono ?_
  rintro e w4 ⟨rfl, rfl⟩
  go_wp2_with fail
  go_ret
  exact ⟨rfl, k3⟩
set_option maxHeartbeats 2000000 in
theorem cl_ReadCell_eq (a : ByteArray) (b : ByteArray) (p : ByteArray) (b0 : Nat) (b1 : Nat) (b2 : Nat) (x0 : Int) (x1 : Int) (w : World) (h0 : w.cell? ⟨b0, 0, none⟩ = some (.string a)) (h1 : w.cell? ⟨b1, 0, none⟩ = some (.string b)) (h2 : w.cell? ⟨b2, 0, none⟩ = some (.string p))
    (H0 : ∀ w, Calls Try.prog 36 #[.string a] w fun e w' => e = .returned (.int .u8 x0) ∧ Below w.heap.size w w')
    (H1 : ∀ w, Calls Try.prog 36 #[.string b] w fun e w' => e = .returned (.int .u8 x1) ∧ Below w.heap.size w w')
    (hne : (x0 != x1) = false) :
    Calls Try.prog 55 #[.pointer (some ⟨b0, 0, none⟩), .pointer (some ⟨b1, 0, none⟩), .pointer (some ⟨b2, 0, none⟩)] w fun e w' => e = failed ∧ Below w.heap.size w w' := by
  have l0 : b0 < w.heap.size := World.block_lt_of_cell? w _ h0
  have l1 : b1 < w.heap.size := World.block_lt_of_cell? w _ h1
  have l2 : b2 < w.heap.size := World.block_lt_of_cell? w _ h2
  have CC : Hid (∀ x, Below w.heap.size w x → (fun w' => w'.cell? ⟨b0, 0, none⟩ = some (.string a) ∧ w'.cell? ⟨b1, 0, none⟩ = some (.string b) ∧ w'.cell? ⟨b2, 0, none⟩ = some (.string p) ∧ True) x) := fun x k => ⟨(k.cell (p := ⟨b0, 0, none⟩) l0).trans h0, (k.cell (p := ⟨b1, 0, none⟩) l1).trans h1, (k.cell (p := ⟨b2, 0, none⟩) l2).trans h2, trivial⟩
  have k0 := (Below.refl w.heap.size w).drew
  have H0' := Lib.hid H0
  have H1' := Lib.hid H1
  clear H0 H1
  go_enter Try.func55, Try.ntmps55
  go_wp2_with fail
  refine wp_region_held_drew (S := fun w' => w'.cell? ⟨b0, 0, none⟩ = some (.string a) ∧ w'.cell? ⟨b1, 0, none⟩ = some (.string b) ∧ w'.cell? ⟨b2, 0, none⟩ = some (.string p) ∧ True) (by kernel_rfl) (CC.out _ k0) (fun hHeld => ?_)
  try simp only [Act.put, List.setIfInBounds_toArray, List.set_cons_zero, List.set_cons_succ]
  refine wpAnyH_take (i := 0) (oi := ⟨some 6, _, _, _, _, _⟩) (v := ?_) rfl (by kernel_rfl) (by kernel_rfl) (by kernel_rfl) (fun _ _ _ h => h) (Or.inl ⟨by rfl, ?_⟩) (by assumption) ?_
  rotate_left
  · intro w hSw
    (try dsimp only at hSw)
    (try obtain ⟨q0, q1, q2, q3⟩ := hSw)
    (try obtain ⟨q0, q1, q2⟩ := hSw)
    (try obtain ⟨q0, q1⟩ := hSw)
    go_simp
    with_reducible rfl
  try simp only [Act.put, List.setIfInBounds_toArray, List.set_cons_zero, List.set_cons_succ]
  refine wpAnyH_take (i := 2) (oi := ⟨some 8, _, _, _, _, _⟩) (v := ?_) rfl (by kernel_rfl) (by kernel_rfl) (by kernel_rfl) (fun _ _ _ h => h) (Or.inl ⟨by rfl, ?_⟩) (by assumption) ?_
  rotate_left
  · intro w hSw
    (try dsimp only at hSw)
    (try obtain ⟨q0, q1, q2, q3⟩ := hSw)
    (try obtain ⟨q0, q1, q2⟩ := hSw)
    (try obtain ⟨q0, q1⟩ := hSw)
    go_simp
    with_reducible rfl
  try simp only [Act.put, List.setIfInBounds_toArray, List.set_cons_zero, List.set_cons_succ]
  refine wpAnyH_ready (rs := [1]) (by kernel_rfl) (by simp) ?_
  refine AllReadyH.cons rfl (fun K hK => ?_) AllReadyH.nil
  go_simp
  with_reducible refine (H0'.out _).mono ?_
  rintro e w1 ⟨rfl, b1⟩
  have k1 := cdgo k0 b1
  dsimp only
  refine hK.out _ _ (CC.out _ k1) (fun hHeld => ?_)
  clear hK K
  try simp only [Act.put, List.setIfInBounds_toArray, List.set_cons_zero, List.set_cons_succ]
  refine wpAnyH_ready (rs := [3]) (by kernel_rfl) (by simp) ?_
  refine AllReadyH.cons rfl (fun K hK => ?_) AllReadyH.nil
  go_simp
  with_reducible refine (H1'.out _).mono ?_
  rintro e w2 ⟨rfl, b2⟩
  have k2 := cdgo k1 b2
  dsimp only
  refine hK.out _ _ (CC.out _ k2) (fun hHeld => ?_)
  clear hK K
  try simp only [Act.put, List.setIfInBounds_toArray, List.set_cons_zero, List.set_cons_succ]
  refine wpAnyH_take (i := 4) (oi := ⟨some 4, _, _, _, _, _⟩) (v := ?_) rfl (by kernel_rfl) (by kernel_rfl) (by kernel_rfl) (fun _ _ _ h => h) (Or.inl ⟨by rfl, ?_⟩) (by assumption) ?_
  rotate_left
  · intro w hSw
    (try dsimp only at hSw)
    (try obtain ⟨q0, q1, q2, q3⟩ := hSw)
    (try obtain ⟨q0, q1, q2⟩ := hSw)
    (try obtain ⟨q0, q1⟩ := hSw)
    go_simp
    with_reducible rfl
  try simp only [Act.put, List.setIfInBounds_toArray, List.set_cons_zero, List.set_cons_succ]
  refine wpAnyH_take (i := 5) (oi := ⟨some 5, _, _, _, _, _⟩) (v := ?_) rfl (by kernel_rfl) (by kernel_rfl) (by kernel_rfl) (fun _ _ _ h => h) (Or.inl ⟨by rfl, ?_⟩) (by assumption) ?_
  rotate_left
  · intro w hSw
    (try dsimp only at hSw)
    (try obtain ⟨q0, q1, q2, q3⟩ := hSw)
    (try obtain ⟨q0, q1, q2⟩ := hSw)
    (try obtain ⟨q0, q1⟩ := hSw)
    go_simp
    with_reducible rfl
  try simp only [Act.put, List.setIfInBounds_toArray, List.set_cons_zero, List.set_cons_succ]
  refine wpAnyH_done (by kernel_rfl) ?_ _
  go_wp2_with fail
  with_reducible refine (ensure_no _).mono ?_
  rintro e w' ⟨rfl, rfl⟩
  exact ⟨rfl, rfl, k2⟩
set_option maxHeartbeats 2000000 in
theorem cl_ReadCell_p (a : ByteArray) (b : ByteArray) (p : ByteArray) (b0 : Nat) (b1 : Nat) (b2 : Nat) (x0 : Int) (x1 : Int) (w : World) (h0 : w.cell? ⟨b0, 0, none⟩ = some (.string a)) (h1 : w.cell? ⟨b1, 0, none⟩ = some (.string b)) (h2 : w.cell? ⟨b2, 0, none⟩ = some (.string p))
    (H0 : ∀ w, Calls Try.prog 36 #[.string a] w fun e w' => e = .returned (.int .u8 x0) ∧ Below w.heap.size w w')
    (H1 : ∀ w, Calls Try.prog 36 #[.string b] w fun e w' => e = .returned (.int .u8 x1) ∧ Below w.heap.size w w')
    (hne : (x0 != x1) = true)
    (H2 : ∀ w, Calls Try.prog 41 #[.string p] w fun e w' => e = failed ∧ Below w.heap.size w w') :
    Calls Try.prog 55 #[.pointer (some ⟨b0, 0, none⟩), .pointer (some ⟨b1, 0, none⟩), .pointer (some ⟨b2, 0, none⟩)] w fun e w' => e = failed ∧ Below w.heap.size w w' := by
  have l0 : b0 < w.heap.size := World.block_lt_of_cell? w _ h0
  have l1 : b1 < w.heap.size := World.block_lt_of_cell? w _ h1
  have l2 : b2 < w.heap.size := World.block_lt_of_cell? w _ h2
  have CC : Hid (∀ x, Below w.heap.size w x → (fun w' => w'.cell? ⟨b0, 0, none⟩ = some (.string a) ∧ w'.cell? ⟨b1, 0, none⟩ = some (.string b) ∧ w'.cell? ⟨b2, 0, none⟩ = some (.string p) ∧ True) x) := fun x k => ⟨(k.cell (p := ⟨b0, 0, none⟩) l0).trans h0, (k.cell (p := ⟨b1, 0, none⟩) l1).trans h1, (k.cell (p := ⟨b2, 0, none⟩) l2).trans h2, trivial⟩
  have k0 := (Below.refl w.heap.size w).drew
  have H0' := Lib.hid H0
  have H1' := Lib.hid H1
  have H2' := Lib.hid H2
  clear H0 H1 H2
  go_enter Try.func55, Try.ntmps55
  go_wp2_with fail
  refine wp_region_held_drew (S := fun w' => w'.cell? ⟨b0, 0, none⟩ = some (.string a) ∧ w'.cell? ⟨b1, 0, none⟩ = some (.string b) ∧ w'.cell? ⟨b2, 0, none⟩ = some (.string p) ∧ True) (by kernel_rfl) (CC.out _ k0) (fun hHeld => ?_)
  try simp only [Act.put, List.setIfInBounds_toArray, List.set_cons_zero, List.set_cons_succ]
  refine wpAnyH_take (i := 0) (oi := ⟨some 6, _, _, _, _, _⟩) (v := ?_) rfl (by kernel_rfl) (by kernel_rfl) (by kernel_rfl) (fun _ _ _ h => h) (Or.inl ⟨by rfl, ?_⟩) (by assumption) ?_
  rotate_left
  · intro w hSw
    (try dsimp only at hSw)
    (try obtain ⟨q0, q1, q2, q3⟩ := hSw)
    (try obtain ⟨q0, q1, q2⟩ := hSw)
    (try obtain ⟨q0, q1⟩ := hSw)
    go_simp
    with_reducible rfl
  try simp only [Act.put, List.setIfInBounds_toArray, List.set_cons_zero, List.set_cons_succ]
  refine wpAnyH_take (i := 2) (oi := ⟨some 8, _, _, _, _, _⟩) (v := ?_) rfl (by kernel_rfl) (by kernel_rfl) (by kernel_rfl) (fun _ _ _ h => h) (Or.inl ⟨by rfl, ?_⟩) (by assumption) ?_
  rotate_left
  · intro w hSw
    (try dsimp only at hSw)
    (try obtain ⟨q0, q1, q2, q3⟩ := hSw)
    (try obtain ⟨q0, q1, q2⟩ := hSw)
    (try obtain ⟨q0, q1⟩ := hSw)
    go_simp
    with_reducible rfl
  try simp only [Act.put, List.setIfInBounds_toArray, List.set_cons_zero, List.set_cons_succ]
  refine wpAnyH_ready (rs := [1]) (by kernel_rfl) (by simp) ?_
  refine AllReadyH.cons rfl (fun K hK => ?_) AllReadyH.nil
  go_simp
  with_reducible refine (H0'.out _).mono ?_
  rintro e w1 ⟨rfl, b1⟩
  have k1 := cdgo k0 b1
  dsimp only
  refine hK.out _ _ (CC.out _ k1) (fun hHeld => ?_)
  clear hK K
  try simp only [Act.put, List.setIfInBounds_toArray, List.set_cons_zero, List.set_cons_succ]
  refine wpAnyH_ready (rs := [3]) (by kernel_rfl) (by simp) ?_
  refine AllReadyH.cons rfl (fun K hK => ?_) AllReadyH.nil
  go_simp
  with_reducible refine (H1'.out _).mono ?_
  rintro e w2 ⟨rfl, b2⟩
  have k2 := cdgo k1 b2
  dsimp only
  refine hK.out _ _ (CC.out _ k2) (fun hHeld => ?_)
  clear hK K
  try simp only [Act.put, List.setIfInBounds_toArray, List.set_cons_zero, List.set_cons_succ]
  refine wpAnyH_take (i := 4) (oi := ⟨some 4, _, _, _, _, _⟩) (v := ?_) rfl (by kernel_rfl) (by kernel_rfl) (by kernel_rfl) (fun _ _ _ h => h) (Or.inl ⟨by rfl, ?_⟩) (by assumption) ?_
  rotate_left
  · intro w hSw
    (try dsimp only at hSw)
    (try obtain ⟨q0, q1, q2, q3⟩ := hSw)
    (try obtain ⟨q0, q1, q2⟩ := hSw)
    (try obtain ⟨q0, q1⟩ := hSw)
    go_simp
    with_reducible rfl
  try simp only [Act.put, List.setIfInBounds_toArray, List.set_cons_zero, List.set_cons_succ]
  refine wpAnyH_take (i := 5) (oi := ⟨some 5, _, _, _, _, _⟩) (v := ?_) rfl (by kernel_rfl) (by kernel_rfl) (by kernel_rfl) (fun _ _ _ h => h) (Or.inl ⟨by rfl, ?_⟩) (by assumption) ?_
  rotate_left
  · intro w hSw
    (try dsimp only at hSw)
    (try obtain ⟨q0, q1, q2, q3⟩ := hSw)
    (try obtain ⟨q0, q1, q2⟩ := hSw)
    (try obtain ⟨q0, q1⟩ := hSw)
    go_simp
    with_reducible rfl
  try simp only [Act.put, List.setIfInBounds_toArray, List.set_cons_zero, List.set_cons_succ]
  refine wpAnyH_done (by kernel_rfl) ?_ _
  go_wp2_with fail
  with_reducible refine (ensure_yes _).mono ?_
  rintro e w' ⟨rfl, rfl⟩
  have c2 := (CC.out _ k2).2.2.1
  go_wp2_with fail
  with_reducible refine (H2'.out _).mono ?_
  rintro e w3 ⟨rfl, b3⟩
  exact ⟨rfl, rfl, cdgo k2 b3⟩
set_option maxHeartbeats 2000000 in
theorem cl_ReadCell_0 (a : ByteArray) (b : ByteArray) (p : ByteArray) (b0 : Nat) (b1 : Nat) (b2 : Nat) (w : World) (h0 : w.cell? ⟨b0, 0, none⟩ = some (.string a)) (h1 : w.cell? ⟨b1, 0, none⟩ = some (.string b)) (h2 : w.cell? ⟨b2, 0, none⟩ = some (.string p))
    (H0 : ∀ w, Calls Try.prog 36 #[.string a] w fun e w' => e = failed ∧ Below w.heap.size w w') :
    Calls Try.prog 55 #[.pointer (some ⟨b0, 0, none⟩), .pointer (some ⟨b1, 0, none⟩), .pointer (some ⟨b2, 0, none⟩)] w fun e w' => e = failed ∧ Below w.heap.size w w' := by
  have l0 : b0 < w.heap.size := World.block_lt_of_cell? w _ h0
  have l1 : b1 < w.heap.size := World.block_lt_of_cell? w _ h1
  have l2 : b2 < w.heap.size := World.block_lt_of_cell? w _ h2
  have CC : Hid (∀ x, Below w.heap.size w x → (fun w' => w'.cell? ⟨b0, 0, none⟩ = some (.string a) ∧ w'.cell? ⟨b1, 0, none⟩ = some (.string b) ∧ w'.cell? ⟨b2, 0, none⟩ = some (.string p) ∧ True) x) := fun x k => ⟨(k.cell (p := ⟨b0, 0, none⟩) l0).trans h0, (k.cell (p := ⟨b1, 0, none⟩) l1).trans h1, (k.cell (p := ⟨b2, 0, none⟩) l2).trans h2, trivial⟩
  have k0 := (Below.refl w.heap.size w).drew
  have H0' := Lib.hid H0
  clear H0
  go_enter Try.func55, Try.ntmps55
  go_wp2_with fail
  refine wp_region_held_drew (S := fun w' => w'.cell? ⟨b0, 0, none⟩ = some (.string a) ∧ w'.cell? ⟨b1, 0, none⟩ = some (.string b) ∧ w'.cell? ⟨b2, 0, none⟩ = some (.string p) ∧ True) (by kernel_rfl) (CC.out _ k0) (fun hHeld => ?_)
  try simp only [Act.put, List.setIfInBounds_toArray, List.set_cons_zero, List.set_cons_succ]
  refine wpAnyH_take (i := 0) (oi := ⟨some 6, _, _, _, _, _⟩) (v := ?_) rfl (by kernel_rfl) (by kernel_rfl) (by kernel_rfl) (fun _ _ _ h => h) (Or.inl ⟨by rfl, ?_⟩) (by assumption) ?_
  rotate_left
  · intro w hSw
    (try dsimp only at hSw)
    (try obtain ⟨q0, q1, q2, q3⟩ := hSw)
    (try obtain ⟨q0, q1, q2⟩ := hSw)
    (try obtain ⟨q0, q1⟩ := hSw)
    go_simp
    with_reducible rfl
  try simp only [Act.put, List.setIfInBounds_toArray, List.set_cons_zero, List.set_cons_succ]
  refine wpAnyH_take (i := 2) (oi := ⟨some 8, _, _, _, _, _⟩) (v := ?_) rfl (by kernel_rfl) (by kernel_rfl) (by kernel_rfl) (fun _ _ _ h => h) (Or.inl ⟨by rfl, ?_⟩) (by assumption) ?_
  rotate_left
  · intro w hSw
    (try dsimp only at hSw)
    (try obtain ⟨q0, q1, q2, q3⟩ := hSw)
    (try obtain ⟨q0, q1, q2⟩ := hSw)
    (try obtain ⟨q0, q1⟩ := hSw)
    go_simp
    with_reducible rfl
  try simp only [Act.put, List.setIfInBounds_toArray, List.set_cons_zero, List.set_cons_succ]
  refine wpAnyH_ready (rs := [1]) (by kernel_rfl) (by simp) ?_
  refine AllReadyH.cons rfl (fun K hK => ?_) AllReadyH.nil
  go_simp
  with_reducible refine (H0'.out _).mono ?_
  rintro e w1 ⟨rfl, b1⟩
  have k1 := cdgo k0 b1
  exact And.intro rfl (And.intro rfl k1)
set_option maxHeartbeats 2000000 in
theorem cl_ReadCell_1 (a : ByteArray) (b : ByteArray) (p : ByteArray) (b0 : Nat) (b1 : Nat) (b2 : Nat) (x0 : Int) (w : World) (h0 : w.cell? ⟨b0, 0, none⟩ = some (.string a)) (h1 : w.cell? ⟨b1, 0, none⟩ = some (.string b)) (h2 : w.cell? ⟨b2, 0, none⟩ = some (.string p))
    (H0 : ∀ w, Calls Try.prog 36 #[.string a] w fun e w' => e = .returned (.int .u8 x0) ∧ Below w.heap.size w w')
    (H1 : ∀ w, Calls Try.prog 36 #[.string b] w fun e w' => e = failed ∧ Below w.heap.size w w') :
    Calls Try.prog 55 #[.pointer (some ⟨b0, 0, none⟩), .pointer (some ⟨b1, 0, none⟩), .pointer (some ⟨b2, 0, none⟩)] w fun e w' => e = failed ∧ Below w.heap.size w w' := by
  have l0 : b0 < w.heap.size := World.block_lt_of_cell? w _ h0
  have l1 : b1 < w.heap.size := World.block_lt_of_cell? w _ h1
  have l2 : b2 < w.heap.size := World.block_lt_of_cell? w _ h2
  have CC : Hid (∀ x, Below w.heap.size w x → (fun w' => w'.cell? ⟨b0, 0, none⟩ = some (.string a) ∧ w'.cell? ⟨b1, 0, none⟩ = some (.string b) ∧ w'.cell? ⟨b2, 0, none⟩ = some (.string p) ∧ True) x) := fun x k => ⟨(k.cell (p := ⟨b0, 0, none⟩) l0).trans h0, (k.cell (p := ⟨b1, 0, none⟩) l1).trans h1, (k.cell (p := ⟨b2, 0, none⟩) l2).trans h2, trivial⟩
  have k0 := (Below.refl w.heap.size w).drew
  have H0' := Lib.hid H0
  have H1' := Lib.hid H1
  clear H0 H1
  go_enter Try.func55, Try.ntmps55
  go_wp2_with fail
  refine wp_region_held_drew (S := fun w' => w'.cell? ⟨b0, 0, none⟩ = some (.string a) ∧ w'.cell? ⟨b1, 0, none⟩ = some (.string b) ∧ w'.cell? ⟨b2, 0, none⟩ = some (.string p) ∧ True) (by kernel_rfl) (CC.out _ k0) (fun hHeld => ?_)
  try simp only [Act.put, List.setIfInBounds_toArray, List.set_cons_zero, List.set_cons_succ]
  refine wpAnyH_take (i := 0) (oi := ⟨some 6, _, _, _, _, _⟩) (v := ?_) rfl (by kernel_rfl) (by kernel_rfl) (by kernel_rfl) (fun _ _ _ h => h) (Or.inl ⟨by rfl, ?_⟩) (by assumption) ?_
  rotate_left
  · intro w hSw
    (try dsimp only at hSw)
    (try obtain ⟨q0, q1, q2, q3⟩ := hSw)
    (try obtain ⟨q0, q1, q2⟩ := hSw)
    (try obtain ⟨q0, q1⟩ := hSw)
    go_simp
    with_reducible rfl
  try simp only [Act.put, List.setIfInBounds_toArray, List.set_cons_zero, List.set_cons_succ]
  refine wpAnyH_take (i := 2) (oi := ⟨some 8, _, _, _, _, _⟩) (v := ?_) rfl (by kernel_rfl) (by kernel_rfl) (by kernel_rfl) (fun _ _ _ h => h) (Or.inl ⟨by rfl, ?_⟩) (by assumption) ?_
  rotate_left
  · intro w hSw
    (try dsimp only at hSw)
    (try obtain ⟨q0, q1, q2, q3⟩ := hSw)
    (try obtain ⟨q0, q1, q2⟩ := hSw)
    (try obtain ⟨q0, q1⟩ := hSw)
    go_simp
    with_reducible rfl
  try simp only [Act.put, List.setIfInBounds_toArray, List.set_cons_zero, List.set_cons_succ]
  refine wpAnyH_ready (rs := [1]) (by kernel_rfl) (by simp) ?_
  refine AllReadyH.cons rfl (fun K hK => ?_) AllReadyH.nil
  go_simp
  with_reducible refine (H0'.out _).mono ?_
  rintro e w1 ⟨rfl, b1⟩
  have k1 := cdgo k0 b1
  dsimp only
  refine hK.out _ _ (CC.out _ k1) (fun hHeld => ?_)
  clear hK K
  try simp only [Act.put, List.setIfInBounds_toArray, List.set_cons_zero, List.set_cons_succ]
  refine wpAnyH_ready (rs := [3]) (by kernel_rfl) (by simp) ?_
  refine AllReadyH.cons rfl (fun K hK => ?_) AllReadyH.nil
  go_simp
  with_reducible refine (H1'.out _).mono ?_
  rintro e w2 ⟨rfl, b2⟩
  have k2 := cdgo k1 b2
  exact And.intro rfl (And.intro rfl k2)
set_option maxHeartbeats 2000000 in
theorem cl_WriteCell_yes (a : ByteArray) (b : ByteArray) (p : ByteArray) (b0 : Nat) (b1 : Nat) (b2 : Nat) (x0 : Int) (x1 : Int) (T2 : TypeId) (V2 : Value) (X1 X2 X3 : Int) (z : Int) (T : TypeId) (V : Value) (w : World) (h0 : w.cell? ⟨b0, 0, none⟩ = some (.string a)) (h1 : w.cell? ⟨b1, 0, none⟩ = some (.string b)) (h2 : w.cell? ⟨b2, 0, none⟩ = some (.string p))
    (H0 : ∀ w, Calls Try.prog 36 #[.string a] w fun e w' => e = .returned (.int .u8 x0) ∧ Below w.heap.size w w')
    (H1 : ∀ w, Calls Try.prog 36 #[.string b] w fun e w' => e = .returned (.int .u8 x1) ∧ Below w.heap.size w w')
    (H2 : ∀ w, Calls Try.prog 41 #[.string p] w fun e w' => e = .returned (.iface T2 V2) ∧ Below w.heap.size w w')
    (HF : ∀ w, Calls Try.prog 60 #[.iface T2 V2] w fun e w' => e = .returned (.int .u32 X1) ∧ Below w.heap.size w w')
    (HW1 : ∀ w, Calls Try.prog 61 #[.int .u32 X1, .int .u8 x0] w fun e w' => e = .returned (.int .u32 X2) ∧ w = w')
    (HW2 : ∀ w, Calls Try.prog 61 #[.int .u32 X2, .int .u8 x1] w fun e w' => e = .returned (.int .u32 X3) ∧ w = w')
    (HFF : ∀ w, Calls Try.prog 51 #[.int .u32 X3, .int .i64 1] w fun e w' => ∃ g, e = .returned (.slice (some ⟨g, 0, none⟩) 1 1) ∧ w'.cell? ⟨g, 0, none⟩ = some (.int .u8 z) ∧ Below w.heap.size w w')
    (HB : ∀ w, Calls Try.prog 57 #[.int .u8 x0, .int .u8 z, .int .u8 x1, .iface T2 V2] w fun e w' => e = .returned (.iface T V) ∧ w = w') :
    Calls Try.prog 59 #[.pointer (some ⟨b0, 0, none⟩), .pointer (some ⟨b1, 0, none⟩), .pointer (some ⟨b2, 0, none⟩)] w fun e w' => e = .returned (.iface T V) ∧ Below w.heap.size w w' := by
  have l0 : b0 < w.heap.size := World.block_lt_of_cell? w _ h0
  have l1 : b1 < w.heap.size := World.block_lt_of_cell? w _ h1
  have l2 : b2 < w.heap.size := World.block_lt_of_cell? w _ h2
  have CC : Hid (∀ x, Below w.heap.size w x → (fun w' => w'.cell? ⟨b0, 0, none⟩ = some (.string a) ∧ w'.cell? ⟨b1, 0, none⟩ = some (.string b) ∧ w'.cell? ⟨b2, 0, none⟩ = some (.string p) ∧ True) x) := fun x k => ⟨(k.cell (p := ⟨b0, 0, none⟩) l0).trans h0, (k.cell (p := ⟨b1, 0, none⟩) l1).trans h1, (k.cell (p := ⟨b2, 0, none⟩) l2).trans h2, trivial⟩
  have k0 := (Below.refl w.heap.size w).drew
  have H0' := Lib.hid H0
  have H1' := Lib.hid H1
  have H2' := Lib.hid H2
  have HF' := Lib.hid HF
  have HW1' := Lib.hid HW1
  have HW2' := Lib.hid HW2
  have HFF' := Lib.hid HFF
  have HB' := Lib.hid HB
  clear H0 H1 H2 HF HW1 HW2 HFF HB
  go_enter Try.func59, Try.ntmps59
  go_wp2_with fail
  refine wp_region_held_drew (S := fun w' => w'.cell? ⟨b0, 0, none⟩ = some (.string a) ∧ w'.cell? ⟨b1, 0, none⟩ = some (.string b) ∧ w'.cell? ⟨b2, 0, none⟩ = some (.string p) ∧ True) (by kernel_rfl) (CC.out _ k0) (fun hHeld => ?_)
  try simp only [Act.put, List.setIfInBounds_toArray, List.set_cons_zero, List.set_cons_succ]
  refine wpAnyH_take (i := 0) (oi := ⟨some 8, _, _, _, _, _⟩) (v := ?_) rfl (by kernel_rfl) (by kernel_rfl) (by kernel_rfl) (fun _ _ _ h => h) (Or.inl ⟨by rfl, ?_⟩) (by assumption) ?_
  rotate_left
  · intro w hSw
    (try dsimp only at hSw)
    (try obtain ⟨q0, q1, q2, q3⟩ := hSw)
    (try obtain ⟨q0, q1, q2⟩ := hSw)
    (try obtain ⟨q0, q1⟩ := hSw)
    go_simp
    with_reducible rfl
  try simp only [Act.put, List.setIfInBounds_toArray, List.set_cons_zero, List.set_cons_succ]
  refine wpAnyH_take (i := 2) (oi := ⟨some 10, _, _, _, _, _⟩) (v := ?_) rfl (by kernel_rfl) (by kernel_rfl) (by kernel_rfl) (fun _ _ _ h => h) (Or.inl ⟨by rfl, ?_⟩) (by assumption) ?_
  rotate_left
  · intro w hSw
    (try dsimp only at hSw)
    (try obtain ⟨q0, q1, q2, q3⟩ := hSw)
    (try obtain ⟨q0, q1, q2⟩ := hSw)
    (try obtain ⟨q0, q1⟩ := hSw)
    go_simp
    with_reducible rfl
  try simp only [Act.put, List.setIfInBounds_toArray, List.set_cons_zero, List.set_cons_succ]
  refine wpAnyH_take (i := 4) (oi := ⟨some 12, _, _, _, _, _⟩) (v := ?_) rfl (by kernel_rfl) (by kernel_rfl) (by kernel_rfl) (fun _ _ _ h => h) (Or.inl ⟨by rfl, ?_⟩) (by assumption) ?_
  rotate_left
  · intro w hSw
    (try dsimp only at hSw)
    (try obtain ⟨q0, q1, q2, q3⟩ := hSw)
    (try obtain ⟨q0, q1, q2⟩ := hSw)
    (try obtain ⟨q0, q1⟩ := hSw)
    go_simp
    with_reducible rfl
  try simp only [Act.put, List.setIfInBounds_toArray, List.set_cons_zero, List.set_cons_succ]
  refine wpAnyH_ready (rs := [1]) (by kernel_rfl) (by simp) ?_
  refine AllReadyH.cons rfl (fun K hK => ?_) AllReadyH.nil
  go_simp
  with_reducible refine (H0'.out _).mono ?_
  rintro e w1 ⟨rfl, b1⟩
  have k1 := cdgo k0 b1
  dsimp only
  refine hK.out _ _ (CC.out _ k1) (fun hHeld => ?_)
  clear hK K
  try simp only [Act.put, List.setIfInBounds_toArray, List.set_cons_zero, List.set_cons_succ]
  refine wpAnyH_ready (rs := [3]) (by kernel_rfl) (by simp) ?_
  refine AllReadyH.cons rfl (fun K hK => ?_) AllReadyH.nil
  go_simp
  with_reducible refine (H1'.out _).mono ?_
  rintro e w2 ⟨rfl, b2⟩
  have k2 := cdgo k1 b2
  dsimp only
  refine hK.out _ _ (CC.out _ k2) (fun hHeld => ?_)
  clear hK K
  try simp only [Act.put, List.setIfInBounds_toArray, List.set_cons_zero, List.set_cons_succ]
  refine wpAnyH_ready (rs := [5]) (by kernel_rfl) (by simp) ?_
  refine AllReadyH.cons rfl (fun K hK => ?_) AllReadyH.nil
  go_simp
  with_reducible refine (H2'.out _).mono ?_
  rintro e w3 ⟨rfl, b3⟩
  have k3 := cdgo k2 b3
  dsimp only
  refine hK.out _ _ (CC.out _ k3) (fun hHeld => ?_)
  clear hK K
  try simp only [Act.put, List.setIfInBounds_toArray, List.set_cons_zero, List.set_cons_succ]
  refine wpAnyH_take (i := 6) (oi := ⟨some 4, _, _, _, _, _⟩) (v := ?_) rfl (by kernel_rfl) (by kernel_rfl) (by kernel_rfl) (fun _ _ _ h => h) (Or.inl ⟨by rfl, ?_⟩) (by assumption) ?_
  rotate_left
  · intro w hSw
    (try dsimp only at hSw)
    (try obtain ⟨q0, q1, q2, q3⟩ := hSw)
    (try obtain ⟨q0, q1, q2⟩ := hSw)
    (try obtain ⟨q0, q1⟩ := hSw)
    go_simp
    with_reducible rfl
  try simp only [Act.put, List.setIfInBounds_toArray, List.set_cons_zero, List.set_cons_succ]
  refine wpAnyH_take (i := 7) (oi := ⟨some 5, _, _, _, _, _⟩) (v := ?_) rfl (by kernel_rfl) (by kernel_rfl) (by kernel_rfl) (fun _ _ _ h => h) (Or.inl ⟨by rfl, ?_⟩) (by assumption) ?_
  rotate_left
  · intro w hSw
    (try dsimp only at hSw)
    (try obtain ⟨q0, q1, q2, q3⟩ := hSw)
    (try obtain ⟨q0, q1, q2⟩ := hSw)
    (try obtain ⟨q0, q1⟩ := hSw)
    go_simp
    with_reducible rfl
  try simp only [Act.put, List.setIfInBounds_toArray, List.set_cons_zero, List.set_cons_succ]
  refine wpAnyH_take (i := 8) (oi := ⟨some 6, _, _, _, _, _⟩) (v := ?_) rfl (by kernel_rfl) (by kernel_rfl) (by kernel_rfl) (fun _ _ _ h => h) (Or.inl ⟨by rfl, ?_⟩) (by assumption) ?_
  rotate_left
  · intro w hSw
    (try dsimp only at hSw)
    (try obtain ⟨q0, q1, q2, q3⟩ := hSw)
    (try obtain ⟨q0, q1, q2⟩ := hSw)
    (try obtain ⟨q0, q1⟩ := hSw)
    go_simp
    with_reducible rfl
  try simp only [Act.put, List.setIfInBounds_toArray, List.set_cons_zero, List.set_cons_succ]
  refine wpAnyH_done (by kernel_rfl) ?_ _
  go_wp2_with fail
  with_reducible refine (HF'.out _).mono ?_
  rintro e w4 ⟨rfl, b4⟩
  have k4 := cdgo k3 b4
  go_wp2_with fail
  with_reducible refine (HW1'.out _).mono ?_
  rintro e w' ⟨rfl, rfl⟩
  go_wp2_with fail
  with_reducible refine (HW2'.out _).mono ?_
  rintro e w' ⟨rfl, rfl⟩
  go_wp2_with fail
  with_reducible refine (HFF'.out _).mono ?_
  rintro e w5 ⟨g, rfl, c0, b5⟩
  have k5 := cdgo k4 b5
  go_wp2_with fail
  with_reducible refine (HB'.out _).mono ?_
  rintro e w6 ⟨rfl, rfl⟩
  go_wp2_with fail
  go_ret
  exact ⟨rfl, k5⟩
set_option maxHeartbeats 2000000 in
theorem cl_WriteCell_fresh (a : ByteArray) (b : ByteArray) (p : ByteArray) (b0 : Nat) (b1 : Nat) (b2 : Nat) (x0 : Int) (x1 : Int) (T2 : TypeId) (V2 : Value) (X1 X2 X3 : Int) (w : World) (h0 : w.cell? ⟨b0, 0, none⟩ = some (.string a)) (h1 : w.cell? ⟨b1, 0, none⟩ = some (.string b)) (h2 : w.cell? ⟨b2, 0, none⟩ = some (.string p))
    (H0 : ∀ w, Calls Try.prog 36 #[.string a] w fun e w' => e = .returned (.int .u8 x0) ∧ Below w.heap.size w w')
    (H1 : ∀ w, Calls Try.prog 36 #[.string b] w fun e w' => e = .returned (.int .u8 x1) ∧ Below w.heap.size w w')
    (H2 : ∀ w, Calls Try.prog 41 #[.string p] w fun e w' => e = .returned (.iface T2 V2) ∧ Below w.heap.size w w')
    (HF : ∀ w, Calls Try.prog 60 #[.iface T2 V2] w fun e w' => e = .returned (.int .u32 X1) ∧ Below w.heap.size w w')
    (HW1 : ∀ w, Calls Try.prog 61 #[.int .u32 X1, .int .u8 x0] w fun e w' => e = .returned (.int .u32 X2) ∧ w = w')
    (HW2 : ∀ w, Calls Try.prog 61 #[.int .u32 X2, .int .u8 x1] w fun e w' => e = .returned (.int .u32 X3) ∧ w = w')
    (HFF : ∀ w, Calls Try.prog 51 #[.int .u32 X3, .int .i64 1] w fun e w' => e = failed ∧ Below w.heap.size w w') :
    Calls Try.prog 59 #[.pointer (some ⟨b0, 0, none⟩), .pointer (some ⟨b1, 0, none⟩), .pointer (some ⟨b2, 0, none⟩)] w fun e w' => e = failed ∧ Below w.heap.size w w' := by
  have l0 : b0 < w.heap.size := World.block_lt_of_cell? w _ h0
  have l1 : b1 < w.heap.size := World.block_lt_of_cell? w _ h1
  have l2 : b2 < w.heap.size := World.block_lt_of_cell? w _ h2
  have CC : Hid (∀ x, Below w.heap.size w x → (fun w' => w'.cell? ⟨b0, 0, none⟩ = some (.string a) ∧ w'.cell? ⟨b1, 0, none⟩ = some (.string b) ∧ w'.cell? ⟨b2, 0, none⟩ = some (.string p) ∧ True) x) := fun x k => ⟨(k.cell (p := ⟨b0, 0, none⟩) l0).trans h0, (k.cell (p := ⟨b1, 0, none⟩) l1).trans h1, (k.cell (p := ⟨b2, 0, none⟩) l2).trans h2, trivial⟩
  have k0 := (Below.refl w.heap.size w).drew
  have H0' := Lib.hid H0
  have H1' := Lib.hid H1
  have H2' := Lib.hid H2
  have HF' := Lib.hid HF
  have HW1' := Lib.hid HW1
  have HW2' := Lib.hid HW2
  have HFF' := Lib.hid HFF
  clear H0 H1 H2 HF HW1 HW2 HFF
  go_enter Try.func59, Try.ntmps59
  go_wp2_with fail
  refine wp_region_held_drew (S := fun w' => w'.cell? ⟨b0, 0, none⟩ = some (.string a) ∧ w'.cell? ⟨b1, 0, none⟩ = some (.string b) ∧ w'.cell? ⟨b2, 0, none⟩ = some (.string p) ∧ True) (by kernel_rfl) (CC.out _ k0) (fun hHeld => ?_)
  try simp only [Act.put, List.setIfInBounds_toArray, List.set_cons_zero, List.set_cons_succ]
  refine wpAnyH_take (i := 0) (oi := ⟨some 8, _, _, _, _, _⟩) (v := ?_) rfl (by kernel_rfl) (by kernel_rfl) (by kernel_rfl) (fun _ _ _ h => h) (Or.inl ⟨by rfl, ?_⟩) (by assumption) ?_
  rotate_left
  · intro w hSw
    (try dsimp only at hSw)
    (try obtain ⟨q0, q1, q2, q3⟩ := hSw)
    (try obtain ⟨q0, q1, q2⟩ := hSw)
    (try obtain ⟨q0, q1⟩ := hSw)
    go_simp
    with_reducible rfl
  try simp only [Act.put, List.setIfInBounds_toArray, List.set_cons_zero, List.set_cons_succ]
  refine wpAnyH_take (i := 2) (oi := ⟨some 10, _, _, _, _, _⟩) (v := ?_) rfl (by kernel_rfl) (by kernel_rfl) (by kernel_rfl) (fun _ _ _ h => h) (Or.inl ⟨by rfl, ?_⟩) (by assumption) ?_
  rotate_left
  · intro w hSw
    (try dsimp only at hSw)
    (try obtain ⟨q0, q1, q2, q3⟩ := hSw)
    (try obtain ⟨q0, q1, q2⟩ := hSw)
    (try obtain ⟨q0, q1⟩ := hSw)
    go_simp
    with_reducible rfl
  try simp only [Act.put, List.setIfInBounds_toArray, List.set_cons_zero, List.set_cons_succ]
  refine wpAnyH_take (i := 4) (oi := ⟨some 12, _, _, _, _, _⟩) (v := ?_) rfl (by kernel_rfl) (by kernel_rfl) (by kernel_rfl) (fun _ _ _ h => h) (Or.inl ⟨by rfl, ?_⟩) (by assumption) ?_
  rotate_left
  · intro w hSw
    (try dsimp only at hSw)
    (try obtain ⟨q0, q1, q2, q3⟩ := hSw)
    (try obtain ⟨q0, q1, q2⟩ := hSw)
    (try obtain ⟨q0, q1⟩ := hSw)
    go_simp
    with_reducible rfl
  try simp only [Act.put, List.setIfInBounds_toArray, List.set_cons_zero, List.set_cons_succ]
  refine wpAnyH_ready (rs := [1]) (by kernel_rfl) (by simp) ?_
  refine AllReadyH.cons rfl (fun K hK => ?_) AllReadyH.nil
  go_simp
  with_reducible refine (H0'.out _).mono ?_
  rintro e w1 ⟨rfl, b1⟩
  have k1 := cdgo k0 b1
  dsimp only
  refine hK.out _ _ (CC.out _ k1) (fun hHeld => ?_)
  clear hK K
  try simp only [Act.put, List.setIfInBounds_toArray, List.set_cons_zero, List.set_cons_succ]
  refine wpAnyH_ready (rs := [3]) (by kernel_rfl) (by simp) ?_
  refine AllReadyH.cons rfl (fun K hK => ?_) AllReadyH.nil
  go_simp
  with_reducible refine (H1'.out _).mono ?_
  rintro e w2 ⟨rfl, b2⟩
  have k2 := cdgo k1 b2
  dsimp only
  refine hK.out _ _ (CC.out _ k2) (fun hHeld => ?_)
  clear hK K
  try simp only [Act.put, List.setIfInBounds_toArray, List.set_cons_zero, List.set_cons_succ]
  refine wpAnyH_ready (rs := [5]) (by kernel_rfl) (by simp) ?_
  refine AllReadyH.cons rfl (fun K hK => ?_) AllReadyH.nil
  go_simp
  with_reducible refine (H2'.out _).mono ?_
  rintro e w3 ⟨rfl, b3⟩
  have k3 := cdgo k2 b3
  dsimp only
  refine hK.out _ _ (CC.out _ k3) (fun hHeld => ?_)
  clear hK K
  try simp only [Act.put, List.setIfInBounds_toArray, List.set_cons_zero, List.set_cons_succ]
  refine wpAnyH_take (i := 6) (oi := ⟨some 4, _, _, _, _, _⟩) (v := ?_) rfl (by kernel_rfl) (by kernel_rfl) (by kernel_rfl) (fun _ _ _ h => h) (Or.inl ⟨by rfl, ?_⟩) (by assumption) ?_
  rotate_left
  · intro w hSw
    (try dsimp only at hSw)
    (try obtain ⟨q0, q1, q2, q3⟩ := hSw)
    (try obtain ⟨q0, q1, q2⟩ := hSw)
    (try obtain ⟨q0, q1⟩ := hSw)
    go_simp
    with_reducible rfl
  try simp only [Act.put, List.setIfInBounds_toArray, List.set_cons_zero, List.set_cons_succ]
  refine wpAnyH_take (i := 7) (oi := ⟨some 5, _, _, _, _, _⟩) (v := ?_) rfl (by kernel_rfl) (by kernel_rfl) (by kernel_rfl) (fun _ _ _ h => h) (Or.inl ⟨by rfl, ?_⟩) (by assumption) ?_
  rotate_left
  · intro w hSw
    (try dsimp only at hSw)
    (try obtain ⟨q0, q1, q2, q3⟩ := hSw)
    (try obtain ⟨q0, q1, q2⟩ := hSw)
    (try obtain ⟨q0, q1⟩ := hSw)
    go_simp
    with_reducible rfl
  try simp only [Act.put, List.setIfInBounds_toArray, List.set_cons_zero, List.set_cons_succ]
  refine wpAnyH_take (i := 8) (oi := ⟨some 6, _, _, _, _, _⟩) (v := ?_) rfl (by kernel_rfl) (by kernel_rfl) (by kernel_rfl) (fun _ _ _ h => h) (Or.inl ⟨by rfl, ?_⟩) (by assumption) ?_
  rotate_left
  · intro w hSw
    (try dsimp only at hSw)
    (try obtain ⟨q0, q1, q2, q3⟩ := hSw)
    (try obtain ⟨q0, q1, q2⟩ := hSw)
    (try obtain ⟨q0, q1⟩ := hSw)
    go_simp
    with_reducible rfl
  try simp only [Act.put, List.setIfInBounds_toArray, List.set_cons_zero, List.set_cons_succ]
  refine wpAnyH_done (by kernel_rfl) ?_ _
  go_wp2_with fail
  with_reducible refine (HF'.out _).mono ?_
  rintro e w4 ⟨rfl, b4⟩
  have k4 := cdgo k3 b4
  go_wp2_with fail
  with_reducible refine (HW1'.out _).mono ?_
  rintro e w' ⟨rfl, rfl⟩
  go_wp2_with fail
  with_reducible refine (HW2'.out _).mono ?_
  rintro e w' ⟨rfl, rfl⟩
  go_wp2_with fail
  with_reducible refine (HFF'.out _).mono ?_
  rintro e w5 ⟨rfl, b5⟩
  exact ⟨rfl, rfl, cdgo k4 b5⟩
set_option maxHeartbeats 2000000 in
theorem cl_WriteCell_0 (a : ByteArray) (b : ByteArray) (p : ByteArray) (b0 : Nat) (b1 : Nat) (b2 : Nat) (w : World) (h0 : w.cell? ⟨b0, 0, none⟩ = some (.string a)) (h1 : w.cell? ⟨b1, 0, none⟩ = some (.string b)) (h2 : w.cell? ⟨b2, 0, none⟩ = some (.string p))
    (H0 : ∀ w, Calls Try.prog 36 #[.string a] w fun e w' => e = failed ∧ Below w.heap.size w w') :
    Calls Try.prog 59 #[.pointer (some ⟨b0, 0, none⟩), .pointer (some ⟨b1, 0, none⟩), .pointer (some ⟨b2, 0, none⟩)] w fun e w' => e = failed ∧ Below w.heap.size w w' := by
  have l0 : b0 < w.heap.size := World.block_lt_of_cell? w _ h0
  have l1 : b1 < w.heap.size := World.block_lt_of_cell? w _ h1
  have l2 : b2 < w.heap.size := World.block_lt_of_cell? w _ h2
  have CC : Hid (∀ x, Below w.heap.size w x → (fun w' => w'.cell? ⟨b0, 0, none⟩ = some (.string a) ∧ w'.cell? ⟨b1, 0, none⟩ = some (.string b) ∧ w'.cell? ⟨b2, 0, none⟩ = some (.string p) ∧ True) x) := fun x k => ⟨(k.cell (p := ⟨b0, 0, none⟩) l0).trans h0, (k.cell (p := ⟨b1, 0, none⟩) l1).trans h1, (k.cell (p := ⟨b2, 0, none⟩) l2).trans h2, trivial⟩
  have k0 := (Below.refl w.heap.size w).drew
  have H0' := Lib.hid H0
  clear H0
  go_enter Try.func59, Try.ntmps59
  go_wp2_with fail
  refine wp_region_held_drew (S := fun w' => w'.cell? ⟨b0, 0, none⟩ = some (.string a) ∧ w'.cell? ⟨b1, 0, none⟩ = some (.string b) ∧ w'.cell? ⟨b2, 0, none⟩ = some (.string p) ∧ True) (by kernel_rfl) (CC.out _ k0) (fun hHeld => ?_)
  try simp only [Act.put, List.setIfInBounds_toArray, List.set_cons_zero, List.set_cons_succ]
  refine wpAnyH_take (i := 0) (oi := ⟨some 8, _, _, _, _, _⟩) (v := ?_) rfl (by kernel_rfl) (by kernel_rfl) (by kernel_rfl) (fun _ _ _ h => h) (Or.inl ⟨by rfl, ?_⟩) (by assumption) ?_
  rotate_left
  · intro w hSw
    (try dsimp only at hSw)
    (try obtain ⟨q0, q1, q2, q3⟩ := hSw)
    (try obtain ⟨q0, q1, q2⟩ := hSw)
    (try obtain ⟨q0, q1⟩ := hSw)
    go_simp
    with_reducible rfl
  try simp only [Act.put, List.setIfInBounds_toArray, List.set_cons_zero, List.set_cons_succ]
  refine wpAnyH_take (i := 2) (oi := ⟨some 10, _, _, _, _, _⟩) (v := ?_) rfl (by kernel_rfl) (by kernel_rfl) (by kernel_rfl) (fun _ _ _ h => h) (Or.inl ⟨by rfl, ?_⟩) (by assumption) ?_
  rotate_left
  · intro w hSw
    (try dsimp only at hSw)
    (try obtain ⟨q0, q1, q2, q3⟩ := hSw)
    (try obtain ⟨q0, q1, q2⟩ := hSw)
    (try obtain ⟨q0, q1⟩ := hSw)
    go_simp
    with_reducible rfl
  try simp only [Act.put, List.setIfInBounds_toArray, List.set_cons_zero, List.set_cons_succ]
  refine wpAnyH_take (i := 4) (oi := ⟨some 12, _, _, _, _, _⟩) (v := ?_) rfl (by kernel_rfl) (by kernel_rfl) (by kernel_rfl) (fun _ _ _ h => h) (Or.inl ⟨by rfl, ?_⟩) (by assumption) ?_
  rotate_left
  · intro w hSw
    (try dsimp only at hSw)
    (try obtain ⟨q0, q1, q2, q3⟩ := hSw)
    (try obtain ⟨q0, q1, q2⟩ := hSw)
    (try obtain ⟨q0, q1⟩ := hSw)
    go_simp
    with_reducible rfl
  try simp only [Act.put, List.setIfInBounds_toArray, List.set_cons_zero, List.set_cons_succ]
  refine wpAnyH_ready (rs := [1]) (by kernel_rfl) (by simp) ?_
  refine AllReadyH.cons rfl (fun K hK => ?_) AllReadyH.nil
  go_simp
  with_reducible refine (H0'.out _).mono ?_
  rintro e w1 ⟨rfl, b1⟩
  have k1 := cdgo k0 b1
  exact And.intro rfl (And.intro rfl k1)
set_option maxHeartbeats 2000000 in
theorem cl_WriteCell_1 (a : ByteArray) (b : ByteArray) (p : ByteArray) (b0 : Nat) (b1 : Nat) (b2 : Nat) (x0 : Int) (w : World) (h0 : w.cell? ⟨b0, 0, none⟩ = some (.string a)) (h1 : w.cell? ⟨b1, 0, none⟩ = some (.string b)) (h2 : w.cell? ⟨b2, 0, none⟩ = some (.string p))
    (H0 : ∀ w, Calls Try.prog 36 #[.string a] w fun e w' => e = .returned (.int .u8 x0) ∧ Below w.heap.size w w')
    (H1 : ∀ w, Calls Try.prog 36 #[.string b] w fun e w' => e = failed ∧ Below w.heap.size w w') :
    Calls Try.prog 59 #[.pointer (some ⟨b0, 0, none⟩), .pointer (some ⟨b1, 0, none⟩), .pointer (some ⟨b2, 0, none⟩)] w fun e w' => e = failed ∧ Below w.heap.size w w' := by
  have l0 : b0 < w.heap.size := World.block_lt_of_cell? w _ h0
  have l1 : b1 < w.heap.size := World.block_lt_of_cell? w _ h1
  have l2 : b2 < w.heap.size := World.block_lt_of_cell? w _ h2
  have CC : Hid (∀ x, Below w.heap.size w x → (fun w' => w'.cell? ⟨b0, 0, none⟩ = some (.string a) ∧ w'.cell? ⟨b1, 0, none⟩ = some (.string b) ∧ w'.cell? ⟨b2, 0, none⟩ = some (.string p) ∧ True) x) := fun x k => ⟨(k.cell (p := ⟨b0, 0, none⟩) l0).trans h0, (k.cell (p := ⟨b1, 0, none⟩) l1).trans h1, (k.cell (p := ⟨b2, 0, none⟩) l2).trans h2, trivial⟩
  have k0 := (Below.refl w.heap.size w).drew
  have H0' := Lib.hid H0
  have H1' := Lib.hid H1
  clear H0 H1
  go_enter Try.func59, Try.ntmps59
  go_wp2_with fail
  refine wp_region_held_drew (S := fun w' => w'.cell? ⟨b0, 0, none⟩ = some (.string a) ∧ w'.cell? ⟨b1, 0, none⟩ = some (.string b) ∧ w'.cell? ⟨b2, 0, none⟩ = some (.string p) ∧ True) (by kernel_rfl) (CC.out _ k0) (fun hHeld => ?_)
  try simp only [Act.put, List.setIfInBounds_toArray, List.set_cons_zero, List.set_cons_succ]
  refine wpAnyH_take (i := 0) (oi := ⟨some 8, _, _, _, _, _⟩) (v := ?_) rfl (by kernel_rfl) (by kernel_rfl) (by kernel_rfl) (fun _ _ _ h => h) (Or.inl ⟨by rfl, ?_⟩) (by assumption) ?_
  rotate_left
  · intro w hSw
    (try dsimp only at hSw)
    (try obtain ⟨q0, q1, q2, q3⟩ := hSw)
    (try obtain ⟨q0, q1, q2⟩ := hSw)
    (try obtain ⟨q0, q1⟩ := hSw)
    go_simp
    with_reducible rfl
  try simp only [Act.put, List.setIfInBounds_toArray, List.set_cons_zero, List.set_cons_succ]
  refine wpAnyH_take (i := 2) (oi := ⟨some 10, _, _, _, _, _⟩) (v := ?_) rfl (by kernel_rfl) (by kernel_rfl) (by kernel_rfl) (fun _ _ _ h => h) (Or.inl ⟨by rfl, ?_⟩) (by assumption) ?_
  rotate_left
  · intro w hSw
    (try dsimp only at hSw)
    (try obtain ⟨q0, q1, q2, q3⟩ := hSw)
    (try obtain ⟨q0, q1, q2⟩ := hSw)
    (try obtain ⟨q0, q1⟩ := hSw)
    go_simp
    with_reducible rfl
  try simp only [Act.put, List.setIfInBounds_toArray, List.set_cons_zero, List.set_cons_succ]
  refine wpAnyH_take (i := 4) (oi := ⟨some 12, _, _, _, _, _⟩) (v := ?_) rfl (by kernel_rfl) (by kernel_rfl) (by kernel_rfl) (fun _ _ _ h => h) (Or.inl ⟨by rfl, ?_⟩) (by assumption) ?_
  rotate_left
  · intro w hSw
    (try dsimp only at hSw)
    (try obtain ⟨q0, q1, q2, q3⟩ := hSw)
    (try obtain ⟨q0, q1, q2⟩ := hSw)
    (try obtain ⟨q0, q1⟩ := hSw)
    go_simp
    with_reducible rfl
  try simp only [Act.put, List.setIfInBounds_toArray, List.set_cons_zero, List.set_cons_succ]
  refine wpAnyH_ready (rs := [1]) (by kernel_rfl) (by simp) ?_
  refine AllReadyH.cons rfl (fun K hK => ?_) AllReadyH.nil
  go_simp
  with_reducible refine (H0'.out _).mono ?_
  rintro e w1 ⟨rfl, b1⟩
  have k1 := cdgo k0 b1
  dsimp only
  refine hK.out _ _ (CC.out _ k1) (fun hHeld => ?_)
  clear hK K
  try simp only [Act.put, List.setIfInBounds_toArray, List.set_cons_zero, List.set_cons_succ]
  refine wpAnyH_ready (rs := [3]) (by kernel_rfl) (by simp) ?_
  refine AllReadyH.cons rfl (fun K hK => ?_) AllReadyH.nil
  go_simp
  with_reducible refine (H1'.out _).mono ?_
  rintro e w2 ⟨rfl, b2⟩
  have k2 := cdgo k1 b2
  exact And.intro rfl (And.intro rfl k2)
set_option maxHeartbeats 2000000 in
theorem cl_WriteCell_2 (a : ByteArray) (b : ByteArray) (p : ByteArray) (b0 : Nat) (b1 : Nat) (b2 : Nat) (x0 : Int) (x1 : Int) (w : World) (h0 : w.cell? ⟨b0, 0, none⟩ = some (.string a)) (h1 : w.cell? ⟨b1, 0, none⟩ = some (.string b)) (h2 : w.cell? ⟨b2, 0, none⟩ = some (.string p))
    (H0 : ∀ w, Calls Try.prog 36 #[.string a] w fun e w' => e = .returned (.int .u8 x0) ∧ Below w.heap.size w w')
    (H1 : ∀ w, Calls Try.prog 36 #[.string b] w fun e w' => e = .returned (.int .u8 x1) ∧ Below w.heap.size w w')
    (H2 : ∀ w, Calls Try.prog 41 #[.string p] w fun e w' => e = failed ∧ Below w.heap.size w w') :
    Calls Try.prog 59 #[.pointer (some ⟨b0, 0, none⟩), .pointer (some ⟨b1, 0, none⟩), .pointer (some ⟨b2, 0, none⟩)] w fun e w' => e = failed ∧ Below w.heap.size w w' := by
  have l0 : b0 < w.heap.size := World.block_lt_of_cell? w _ h0
  have l1 : b1 < w.heap.size := World.block_lt_of_cell? w _ h1
  have l2 : b2 < w.heap.size := World.block_lt_of_cell? w _ h2
  have CC : Hid (∀ x, Below w.heap.size w x → (fun w' => w'.cell? ⟨b0, 0, none⟩ = some (.string a) ∧ w'.cell? ⟨b1, 0, none⟩ = some (.string b) ∧ w'.cell? ⟨b2, 0, none⟩ = some (.string p) ∧ True) x) := fun x k => ⟨(k.cell (p := ⟨b0, 0, none⟩) l0).trans h0, (k.cell (p := ⟨b1, 0, none⟩) l1).trans h1, (k.cell (p := ⟨b2, 0, none⟩) l2).trans h2, trivial⟩
  have k0 := (Below.refl w.heap.size w).drew
  have H0' := Lib.hid H0
  have H1' := Lib.hid H1
  have H2' := Lib.hid H2
  clear H0 H1 H2
  go_enter Try.func59, Try.ntmps59
  go_wp2_with fail
  refine wp_region_held_drew (S := fun w' => w'.cell? ⟨b0, 0, none⟩ = some (.string a) ∧ w'.cell? ⟨b1, 0, none⟩ = some (.string b) ∧ w'.cell? ⟨b2, 0, none⟩ = some (.string p) ∧ True) (by kernel_rfl) (CC.out _ k0) (fun hHeld => ?_)
  try simp only [Act.put, List.setIfInBounds_toArray, List.set_cons_zero, List.set_cons_succ]
  refine wpAnyH_take (i := 0) (oi := ⟨some 8, _, _, _, _, _⟩) (v := ?_) rfl (by kernel_rfl) (by kernel_rfl) (by kernel_rfl) (fun _ _ _ h => h) (Or.inl ⟨by rfl, ?_⟩) (by assumption) ?_
  rotate_left
  · intro w hSw
    (try dsimp only at hSw)
    (try obtain ⟨q0, q1, q2, q3⟩ := hSw)
    (try obtain ⟨q0, q1, q2⟩ := hSw)
    (try obtain ⟨q0, q1⟩ := hSw)
    go_simp
    with_reducible rfl
  try simp only [Act.put, List.setIfInBounds_toArray, List.set_cons_zero, List.set_cons_succ]
  refine wpAnyH_take (i := 2) (oi := ⟨some 10, _, _, _, _, _⟩) (v := ?_) rfl (by kernel_rfl) (by kernel_rfl) (by kernel_rfl) (fun _ _ _ h => h) (Or.inl ⟨by rfl, ?_⟩) (by assumption) ?_
  rotate_left
  · intro w hSw
    (try dsimp only at hSw)
    (try obtain ⟨q0, q1, q2, q3⟩ := hSw)
    (try obtain ⟨q0, q1, q2⟩ := hSw)
    (try obtain ⟨q0, q1⟩ := hSw)
    go_simp
    with_reducible rfl
  try simp only [Act.put, List.setIfInBounds_toArray, List.set_cons_zero, List.set_cons_succ]
  refine wpAnyH_take (i := 4) (oi := ⟨some 12, _, _, _, _, _⟩) (v := ?_) rfl (by kernel_rfl) (by kernel_rfl) (by kernel_rfl) (fun _ _ _ h => h) (Or.inl ⟨by rfl, ?_⟩) (by assumption) ?_
  rotate_left
  · intro w hSw
    (try dsimp only at hSw)
    (try obtain ⟨q0, q1, q2, q3⟩ := hSw)
    (try obtain ⟨q0, q1, q2⟩ := hSw)
    (try obtain ⟨q0, q1⟩ := hSw)
    go_simp
    with_reducible rfl
  try simp only [Act.put, List.setIfInBounds_toArray, List.set_cons_zero, List.set_cons_succ]
  refine wpAnyH_ready (rs := [1]) (by kernel_rfl) (by simp) ?_
  refine AllReadyH.cons rfl (fun K hK => ?_) AllReadyH.nil
  go_simp
  with_reducible refine (H0'.out _).mono ?_
  rintro e w1 ⟨rfl, b1⟩
  have k1 := cdgo k0 b1
  dsimp only
  refine hK.out _ _ (CC.out _ k1) (fun hHeld => ?_)
  clear hK K
  try simp only [Act.put, List.setIfInBounds_toArray, List.set_cons_zero, List.set_cons_succ]
  refine wpAnyH_ready (rs := [3]) (by kernel_rfl) (by simp) ?_
  refine AllReadyH.cons rfl (fun K hK => ?_) AllReadyH.nil
  go_simp
  with_reducible refine (H1'.out _).mono ?_
  rintro e w2 ⟨rfl, b2⟩
  have k2 := cdgo k1 b2
  dsimp only
  refine hK.out _ _ (CC.out _ k2) (fun hHeld => ?_)
  clear hK K
  try simp only [Act.put, List.setIfInBounds_toArray, List.set_cons_zero, List.set_cons_succ]
  refine wpAnyH_ready (rs := [5]) (by kernel_rfl) (by simp) ?_
  refine AllReadyH.cons rfl (fun K hK => ?_) AllReadyH.nil
  go_simp
  with_reducible refine (H2'.out _).mono ?_
  rintro e w3 ⟨rfl, b3⟩
  have k3 := cdgo k2 b3
  exact And.intro rfl (And.intro rfl k3)
end Go.Proofs.Ytohaddhjnghcpaa.T1
