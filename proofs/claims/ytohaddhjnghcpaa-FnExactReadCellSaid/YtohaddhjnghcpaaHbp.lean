/- Texts of the proof, put together: Cdg. No conditions. -/
import Derived.Test.YtohaddhjnghcpaaHbg
import Derived.Test.YtohaddhjnghcpaaHbo
import Derived.Deep.RegionHeld3

/- The functions behind the door: what each answers, way by way. MADE BY gen_Ch.py. No conditions. -/
namespace Go.Proofs.Ytohaddhjnghcpaa.T1
open Go.RowKit
set_option maxRecDepth 100000
set_option linter.unusedVariables false
set_option linter.unusedSimpArgs false

set_option maxHeartbeats 2000000 in
theorem cl_TruthAt_yes (a : ByteArray) (v : Bool) (b0 : Nat) (b1 : Nat) (x0 : Int) (T : TypeId) (V : Value) (w : World) (h0 : w.cell? ⟨b0, 0, none⟩ = some (.string a)) (h1 : w.cell? ⟨b1, 0, none⟩ = some (.bool v))
    (H0 : ∀ w, Calls Try.prog 36 #[.string a] w fun e w' => e = .returned (.int .u8 x0) ∧ Below w.heap.size w w')
    (HF : ∀ w, Calls Try.prog 35 #[(.int .u8 x0), (.bool v)] w fun e w' => e = .returned (.iface T V) ∧ Below w.heap.size w w') :
    Calls Try.prog 34 #[.pointer (some ⟨b0, 0, none⟩), .pointer (some ⟨b1, 0, none⟩)] w fun e w' => e = .returned (.iface T V) ∧ Below w.heap.size w w' := by
  have l0 : b0 < w.heap.size := World.block_lt_of_cell? w _ h0
  have l1 : b1 < w.heap.size := World.block_lt_of_cell? w _ h1
  have CC : Hid (∀ x, Below w.heap.size w x → (fun w' => w'.cell? ⟨b0, 0, none⟩ = some (.string a) ∧ w'.cell? ⟨b1, 0, none⟩ = some (.bool v) ∧ True) x) := fun x k => ⟨(k.cell (p := ⟨b0, 0, none⟩) l0).trans h0, (k.cell (p := ⟨b1, 0, none⟩) l1).trans h1, trivial⟩
  have k0 := (Below.refl w.heap.size w).drew
  have H0' := Lib.hid H0
  have HF' := Lib.hid HF
  clear H0 HF
  go_enter Try.func34, Try.ntmps34
  go_wp2_with fail
  refine wp_region_held_drew (S := fun w' => w'.cell? ⟨b0, 0, none⟩ = some (.string a) ∧ w'.cell? ⟨b1, 0, none⟩ = some (.bool v) ∧ True) (by kernel_rfl) (CC.out _ k0) (fun hHeld => ?_)
  try simp only [Act.put, List.setIfInBounds_toArray, List.set_cons_zero, List.set_cons_succ]
  refine wpAnyH_take (i := 0) (oi := ⟨some 3, _, _, _, _, _⟩) (v := ?_) rfl (by kernel_rfl) (by kernel_rfl) (by kernel_rfl) (fun _ _ _ h => h) (Or.inl ⟨by rfl, ?_⟩) (by assumption) ?_
  rotate_left
  · intro w hSw
    (try dsimp only at hSw)
    (try obtain ⟨q0, q1, q2, q3⟩ := hSw)
    (try obtain ⟨q0, q1, q2⟩ := hSw)
    (try obtain ⟨q0, q1⟩ := hSw)
    go_simp
    with_reducible rfl
  try simp only [Act.put, List.setIfInBounds_toArray, List.set_cons_zero, List.set_cons_succ]
  refine wpAnyH_take (i := 2) (oi := ⟨some 5, _, _, _, _, _⟩) (v := ?_) rfl (by kernel_rfl) (by kernel_rfl) (by kernel_rfl) (fun _ _ _ h => h) (Or.inl ⟨by rfl, ?_⟩) (by assumption) ?_
  rotate_left
  · intro w hSw
    (try dsimp only at hSw)
    (try obtain ⟨q0, q1, q2, q3⟩ := hSw)
    (try obtain ⟨q0, q1, q2⟩ := hSw)
    (try obtain ⟨q0, q1⟩ := hSw)
    go_simp
    with_reducible rfl
  try simp only [Act.put, List.setIfInBounds_toArray, List.set_cons_zero, List.set_cons_succ]
  refine wpAnyH_ready (rs := [1]) (by kernel_rfl) (by simp) ?_
  refine AllReadyH.cons rfl (fun K hK => ?_) AllReadyH.nil
  go_simp
  with_reducible refine (H0'.out _).mono ?_
  rintro e w1 ⟨rfl, b1⟩
  have k1 := cdgo k0 b1
  dsimp only
  refine hK.out _ _ (CC.out _ k1) (fun hHeld => ?_)
  clear hK K
  try simp only [Act.put, List.setIfInBounds_toArray, List.set_cons_zero, List.set_cons_succ]
  refine wpAnyH_ready (rs := [3]) (by kernel_rfl) (by simp) ?_
  refine AllReadyH.cons rfl (fun K hK => ?_) AllReadyH.nil
  go_simp
  with_reducible refine (HF'.out _).mono ?_
  rintro e w2 ⟨rfl, b2⟩
  have k2 := cdgo k1 b2
  dsimp only
  refine hK.out _ _ (CC.out _ k2) (fun hHeld => ?_)
  clear hK K
  try simp only [Act.put, List.setIfInBounds_toArray, List.set_cons_zero, List.set_cons_succ]
  refine wpAnyH_take (i := 4) (oi := ⟨some 2, _, _, _, _, _⟩) (v := ?_) rfl (by kernel_rfl) (by kernel_rfl) (by kernel_rfl) (fun _ _ _ h => h) (Or.inl ⟨by rfl, ?_⟩) (by assumption) ?_
  rotate_left
  · intro w hSw
    (try dsimp only at hSw)
    (try obtain ⟨q0, q1, q2, q3⟩ := hSw)
    (try obtain ⟨q0, q1, q2⟩ := hSw)
    (try obtain ⟨q0, q1⟩ := hSw)
    go_simp
    with_reducible rfl
  try simp only [Act.put, List.setIfInBounds_toArray, List.set_cons_zero, List.set_cons_succ]
  refine wpAnyH_done (by kernel_rfl) ?_ _
  go_wp2_with fail
  go_ret
  exact ⟨rfl, k2⟩
set_option maxHeartbeats 2000000 in
theorem cl_TruthAt_0 (a : ByteArray) (v : Bool) (b0 : Nat) (b1 : Nat) (w : World) (h0 : w.cell? ⟨b0, 0, none⟩ = some (.string a)) (h1 : w.cell? ⟨b1, 0, none⟩ = some (.bool v))
    (H0 : ∀ w, Calls Try.prog 36 #[.string a] w fun e w' => e = failed ∧ Below w.heap.size w w') :
    Calls Try.prog 34 #[.pointer (some ⟨b0, 0, none⟩), .pointer (some ⟨b1, 0, none⟩)] w fun e w' => e = failed ∧ Below w.heap.size w w' := by
  have l0 : b0 < w.heap.size := World.block_lt_of_cell? w _ h0
  have l1 : b1 < w.heap.size := World.block_lt_of_cell? w _ h1
  have CC : Hid (∀ x, Below w.heap.size w x → (fun w' => w'.cell? ⟨b0, 0, none⟩ = some (.string a) ∧ w'.cell? ⟨b1, 0, none⟩ = some (.bool v) ∧ True) x) := fun x k => ⟨(k.cell (p := ⟨b0, 0, none⟩) l0).trans h0, (k.cell (p := ⟨b1, 0, none⟩) l1).trans h1, trivial⟩
  have k0 := (Below.refl w.heap.size w).drew
  have H0' := Lib.hid H0
  clear H0
  go_enter Try.func34, Try.ntmps34
  go_wp2_with fail
  refine wp_region_held_drew (S := fun w' => w'.cell? ⟨b0, 0, none⟩ = some (.string a) ∧ w'.cell? ⟨b1, 0, none⟩ = some (.bool v) ∧ True) (by kernel_rfl) (CC.out _ k0) (fun hHeld => ?_)
  try simp only [Act.put, List.setIfInBounds_toArray, List.set_cons_zero, List.set_cons_succ]
  refine wpAnyH_take (i := 0) (oi := ⟨some 3, _, _, _, _, _⟩) (v := ?_) rfl (by kernel_rfl) (by kernel_rfl) (by kernel_rfl) (fun _ _ _ h => h) (Or.inl ⟨by rfl, ?_⟩) (by assumption) ?_
  rotate_left
  · intro w hSw
    (try dsimp only at hSw)
    (try obtain ⟨q0, q1, q2, q3⟩ := hSw)
    (try obtain ⟨q0, q1, q2⟩ := hSw)
    (try obtain ⟨q0, q1⟩ := hSw)
    go_simp
    with_reducible rfl
  try simp only [Act.put, List.setIfInBounds_toArray, List.set_cons_zero, List.set_cons_succ]
  refine wpAnyH_take (i := 2) (oi := ⟨some 5, _, _, _, _, _⟩) (v := ?_) rfl (by kernel_rfl) (by kernel_rfl) (by kernel_rfl) (fun _ _ _ h => h) (Or.inl ⟨by rfl, ?_⟩) (by assumption) ?_
  rotate_left
  · intro w hSw
    (try dsimp only at hSw)
    (try obtain ⟨q0, q1, q2, q3⟩ := hSw)
    (try obtain ⟨q0, q1, q2⟩ := hSw)
    (try obtain ⟨q0, q1⟩ := hSw)
    go_simp
    with_reducible rfl
  try simp only [Act.put, List.setIfInBounds_toArray, List.set_cons_zero, List.set_cons_succ]
  refine wpAnyH_ready (rs := [1]) (by kernel_rfl) (by simp) ?_
  refine AllReadyH.cons rfl (fun K hK => ?_) AllReadyH.nil
  go_simp
  with_reducible refine (H0'.out _).mono ?_
  rintro e w1 ⟨rfl, b1⟩
  have k1 := cdgo k0 b1
  exact And.intro rfl (And.intro rfl k1)
set_option maxHeartbeats 2000000 in
theorem cl_TestAt_yes (a : ByteArray) (p : ByteArray) (q : ByteArray) (b0 : Nat) (b1 : Nat) (b2 : Nat) (x0 : Int) (T1 : TypeId) (V1 : Value) (T2 : TypeId) (V2 : Value) (T : TypeId) (V : Value) (w : World) (h0 : w.cell? ⟨b0, 0, none⟩ = some (.string a)) (h1 : w.cell? ⟨b1, 0, none⟩ = some (.string p)) (h2 : w.cell? ⟨b2, 0, none⟩ = some (.string q))
    (H0 : ∀ w, Calls Try.prog 36 #[.string a] w fun e w' => e = .returned (.int .u8 x0) ∧ Below w.heap.size w w')
    (H1 : ∀ w, Calls Try.prog 41 #[.string p] w fun e w' => e = .returned (.iface T1 V1) ∧ Below w.heap.size w w')
    (H2 : ∀ w, Calls Try.prog 41 #[.string q] w fun e w' => e = .returned (.iface T2 V2) ∧ Below w.heap.size w w')
    (HF : ∀ w, Calls Try.prog 40 #[(.int .u8 x0), (.iface T1 V1), (.iface T2 V2)] w fun e w' => e = .returned (.iface T V) ∧ Below w.heap.size w w') :
    Calls Try.prog 39 #[.pointer (some ⟨b0, 0, none⟩), .pointer (some ⟨b1, 0, none⟩), .pointer (some ⟨b2, 0, none⟩)] w fun e w' => e = .returned (.iface T V) ∧ Below w.heap.size w w' := by
  have l0 : b0 < w.heap.size := World.block_lt_of_cell? w _ h0
  have l1 : b1 < w.heap.size := World.block_lt_of_cell? w _ h1
  have l2 : b2 < w.heap.size := World.block_lt_of_cell? w _ h2
  have CC : Hid (∀ x, Below w.heap.size w x → (fun w' => w'.cell? ⟨b0, 0, none⟩ = some (.string a) ∧ w'.cell? ⟨b1, 0, none⟩ = some (.string p) ∧ w'.cell? ⟨b2, 0, none⟩ = some (.string q) ∧ True) x) := fun x k => ⟨(k.cell (p := ⟨b0, 0, none⟩) l0).trans h0, (k.cell (p := ⟨b1, 0, none⟩) l1).trans h1, (k.cell (p := ⟨b2, 0, none⟩) l2).trans h2, trivial⟩
  have k0 := (Below.refl w.heap.size w).drew
  have H0' := Lib.hid H0
  have H1' := Lib.hid H1
  have H2' := Lib.hid H2
  have HF' := Lib.hid HF
  clear H0 H1 H2 HF
  go_enter Try.func39, Try.ntmps39
  go_wp2_with fail
  refine wp_region_held_drew (S := fun w' => w'.cell? ⟨b0, 0, none⟩ = some (.string a) ∧ w'.cell? ⟨b1, 0, none⟩ = some (.string p) ∧ w'.cell? ⟨b2, 0, none⟩ = some (.string q) ∧ True) (by kernel_rfl) (CC.out _ k0) (fun hHeld => ?_)
  try simp only [Act.put, List.setIfInBounds_toArray, List.set_cons_zero, List.set_cons_succ]
  refine wpAnyH_take (i := 0) (oi := ⟨some 4, _, _, _, _, _⟩) (v := ?_) rfl (by kernel_rfl) (by kernel_rfl) (by kernel_rfl) (fun _ _ _ h => h) (Or.inl ⟨by rfl, ?_⟩) (by assumption) ?_
  rotate_left
  · intro w hSw
    (try dsimp only at hSw)
    (try obtain ⟨q0, q1, q2, q3⟩ := hSw)
    (try obtain ⟨q0, q1, q2⟩ := hSw)
    (try obtain ⟨q0, q1⟩ := hSw)
    go_simp
    with_reducible rfl
  try simp only [Act.put, List.setIfInBounds_toArray, List.set_cons_zero, List.set_cons_succ]
  refine wpAnyH_take (i := 2) (oi := ⟨some 6, _, _, _, _, _⟩) (v := ?_) rfl (by kernel_rfl) (by kernel_rfl) (by kernel_rfl) (fun _ _ _ h => h) (Or.inl ⟨by rfl, ?_⟩) (by assumption) ?_
  rotate_left
  · intro w hSw
    (try dsimp only at hSw)
    (try obtain ⟨q0, q1, q2, q3⟩ := hSw)
    (try obtain ⟨q0, q1, q2⟩ := hSw)
    (try obtain ⟨q0, q1⟩ := hSw)
    go_simp
    with_reducible rfl
  try simp only [Act.put, List.setIfInBounds_toArray, List.set_cons_zero, List.set_cons_succ]
  refine wpAnyH_take (i := 4) (oi := ⟨some 8, _, _, _, _, _⟩) (v := ?_) rfl (by kernel_rfl) (by kernel_rfl) (by kernel_rfl) (fun _ _ _ h => h) (Or.inl ⟨by rfl, ?_⟩) (by assumption) ?_
  rotate_left
  · intro w hSw
    (try dsimp only at hSw)
    (try obtain ⟨q0, q1, q2, q3⟩ := hSw)
    (try obtain ⟨q0, q1, q2⟩ := hSw)
    (try obtain ⟨q0, q1⟩ := hSw)
    go_simp
    with_reducible rfl
  try simp only [Act.put, List.setIfInBounds_toArray, List.set_cons_zero, List.set_cons_succ]
  refine wpAnyH_ready (rs := [1]) (by kernel_rfl) (by simp) ?_
  refine AllReadyH.cons rfl (fun K hK => ?_) AllReadyH.nil
  go_simp
  with_reducible refine (H0'.out _).mono ?_
  rintro e w1 ⟨rfl, b1⟩
  have k1 := cdgo k0 b1
  dsimp only
  refine hK.out _ _ (CC.out _ k1) (fun hHeld => ?_)
  clear hK K
  try simp only [Act.put, List.setIfInBounds_toArray, List.set_cons_zero, List.set_cons_succ]
  refine wpAnyH_ready (rs := [3]) (by kernel_rfl) (by simp) ?_
  refine AllReadyH.cons rfl (fun K hK => ?_) AllReadyH.nil
  go_simp
  with_reducible refine (H1'.out _).mono ?_
  rintro e w2 ⟨rfl, b2⟩
  have k2 := cdgo k1 b2
  dsimp only
  refine hK.out _ _ (CC.out _ k2) (fun hHeld => ?_)
  clear hK K
  try simp only [Act.put, List.setIfInBounds_toArray, List.set_cons_zero, List.set_cons_succ]
  refine wpAnyH_ready (rs := [5]) (by kernel_rfl) (by simp) ?_
  refine AllReadyH.cons rfl (fun K hK => ?_) AllReadyH.nil
  go_simp
  with_reducible refine (H2'.out _).mono ?_
  rintro e w3 ⟨rfl, b3⟩
  have k3 := cdgo k2 b3
  dsimp only
  refine hK.out _ _ (CC.out _ k3) (fun hHeld => ?_)
  clear hK K
  try simp only [Act.put, List.setIfInBounds_toArray, List.set_cons_zero, List.set_cons_succ]
  refine wpAnyH_ready (rs := [6]) (by kernel_rfl) (by simp) ?_
  refine AllReadyH.cons rfl (fun K hK => ?_) AllReadyH.nil
  go_simp
  with_reducible refine (HF'.out _).mono ?_
  rintro e w4 ⟨rfl, b4⟩
  have k4 := cdgo k3 b4
  dsimp only
  refine hK.out _ _ (CC.out _ k4) (fun hHeld => ?_)
  clear hK K
  try simp only [Act.put, List.setIfInBounds_toArray, List.set_cons_zero, List.set_cons_succ]
  refine wpAnyH_take (i := 7) (oi := ⟨some 3, _, _, _, _, _⟩) (v := ?_) rfl (by kernel_rfl) (by kernel_rfl) (by kernel_rfl) (fun _ _ _ h => h) (Or.inl ⟨by rfl, ?_⟩) (by assumption) ?_
  rotate_left
  · intro w hSw
    (try dsimp only at hSw)
    (try obtain ⟨q0, q1, q2, q3⟩ := hSw)
    (try obtain ⟨q0, q1, q2⟩ := hSw)
    (try obtain ⟨q0, q1⟩ := hSw)
    go_simp
    with_reducible rfl
  try simp only [Act.put, List.setIfInBounds_toArray, List.set_cons_zero, List.set_cons_succ]
  refine wpAnyH_done (by kernel_rfl) ?_ _
  go_wp2_with fail
  go_ret
  exact ⟨rfl, k4⟩
set_option maxHeartbeats 2000000 in
theorem cl_TestAt_0 (a : ByteArray) (p : ByteArray) (q : ByteArray) (b0 : Nat) (b1 : Nat) (b2 : Nat) (w : World) (h0 : w.cell? ⟨b0, 0, none⟩ = some (.string a)) (h1 : w.cell? ⟨b1, 0, none⟩ = some (.string p)) (h2 : w.cell? ⟨b2, 0, none⟩ = some (.string q))
    (H0 : ∀ w, Calls Try.prog 36 #[.string a] w fun e w' => e = failed ∧ Below w.heap.size w w') :
    Calls Try.prog 39 #[.pointer (some ⟨b0, 0, none⟩), .pointer (some ⟨b1, 0, none⟩), .pointer (some ⟨b2, 0, none⟩)] w fun e w' => e = failed ∧ Below w.heap.size w w' := by
  have l0 : b0 < w.heap.size := World.block_lt_of_cell? w _ h0
  have l1 : b1 < w.heap.size := World.block_lt_of_cell? w _ h1
  have l2 : b2 < w.heap.size := World.block_lt_of_cell? w _ h2
  have CC : Hid (∀ x, Below w.heap.size w x → (fun w' => w'.cell? ⟨b0, 0, none⟩ = some (.string a) ∧ w'.cell? ⟨b1, 0, none⟩ = some (.string p) ∧ w'.cell? ⟨b2, 0, none⟩ = some (.string q) ∧ True) x) := fun x k => ⟨(k.cell (p := ⟨b0, 0, none⟩) l0).trans h0, (k.cell (p := ⟨b1, 0, none⟩) l1).trans h1, (k.cell (p := ⟨b2, 0, none⟩) l2).trans h2, trivial⟩
  have k0 := (Below.refl w.heap.size w).drew
  have H0' := Lib.hid H0
  clear H0
  go_enter Try.func39, Try.ntmps39
  go_wp2_with fail
  refine wp_region_held_drew (S := fun w' => w'.cell? ⟨b0, 0, none⟩ = some (.string a) ∧ w'.cell? ⟨b1, 0, none⟩ = some (.string p) ∧ w'.cell? ⟨b2, 0, none⟩ = some (.string q) ∧ True) (by kernel_rfl) (CC.out _ k0) (fun hHeld => ?_)
  try simp only [Act.put, List.setIfInBounds_toArray, List.set_cons_zero, List.set_cons_succ]
  refine wpAnyH_take (i := 0) (oi := ⟨some 4, _, _, _, _, _⟩) (v := ?_) rfl (by kernel_rfl) (by kernel_rfl) (by kernel_rfl) (fun _ _ _ h => h) (Or.inl ⟨by rfl, ?_⟩) (by assumption) ?_
  rotate_left
  · intro w hSw
    (try dsimp only at hSw)
    (try obtain ⟨q0, q1, q2, q3⟩ := hSw)
    (try obtain ⟨q0, q1, q2⟩ := hSw)
    (try obtain ⟨q0, q1⟩ := hSw)
    go_simp
    with_reducible rfl
  try simp only [Act.put, List.setIfInBounds_toArray, List.set_cons_zero, List.set_cons_succ]
  refine wpAnyH_take (i := 2) (oi := ⟨some 6, _, _, _, _, _⟩) (v := ?_) rfl (by kernel_rfl) (by kernel_rfl) (by kernel_rfl) (fun _ _ _ h => h) (Or.inl ⟨by rfl, ?_⟩) (by assumption) ?_
  rotate_left
  · intro w hSw
    (try dsimp only at hSw)
    (try obtain ⟨q0, q1, q2, q3⟩ := hSw)
    (try obtain ⟨q0, q1, q2⟩ := hSw)
    (try obtain ⟨q0, q1⟩ := hSw)
    go_simp
    with_reducible rfl
  try simp only [Act.put, List.setIfInBounds_toArray, List.set_cons_zero, List.set_cons_succ]
  refine wpAnyH_take (i := 4) (oi := ⟨some 8, _, _, _, _, _⟩) (v := ?_) rfl (by kernel_rfl) (by kernel_rfl) (by kernel_rfl) (fun _ _ _ h => h) (Or.inl ⟨by rfl, ?_⟩) (by assumption) ?_
  rotate_left
  · intro w hSw
    (try dsimp only at hSw)
    (try obtain ⟨q0, q1, q2, q3⟩ := hSw)
    (try obtain ⟨q0, q1, q2⟩ := hSw)
    (try obtain ⟨q0, q1⟩ := hSw)
    go_simp
    with_reducible rfl
  try simp only [Act.put, List.setIfInBounds_toArray, List.set_cons_zero, List.set_cons_succ]
  refine wpAnyH_ready (rs := [1]) (by kernel_rfl) (by simp) ?_
  refine AllReadyH.cons rfl (fun K hK => ?_) AllReadyH.nil
  go_simp
  with_reducible refine (H0'.out _).mono ?_
  rintro e w1 ⟨rfl, b1⟩
  have k1 := cdgo k0 b1
  exact And.intro rfl (And.intro rfl k1)
set_option maxHeartbeats 2000000 in
theorem cl_TestAt_1 (a : ByteArray) (p : ByteArray) (q : ByteArray) (b0 : Nat) (b1 : Nat) (b2 : Nat) (x0 : Int) (w : World) (h0 : w.cell? ⟨b0, 0, none⟩ = some (.string a)) (h1 : w.cell? ⟨b1, 0, none⟩ = some (.string p)) (h2 : w.cell? ⟨b2, 0, none⟩ = some (.string q))
    (H0 : ∀ w, Calls Try.prog 36 #[.string a] w fun e w' => e = .returned (.int .u8 x0) ∧ Below w.heap.size w w')
    (H1 : ∀ w, Calls Try.prog 41 #[.string p] w fun e w' => e = failed ∧ Below w.heap.size w w') :
    Calls Try.prog 39 #[.pointer (some ⟨b0, 0, none⟩), .pointer (some ⟨b1, 0, none⟩), .pointer (some ⟨b2, 0, none⟩)] w fun e w' => e = failed ∧ Below w.heap.size w w' := by
  have l0 : b0 < w.heap.size := World.block_lt_of_cell? w _ h0
  have l1 : b1 < w.heap.size := World.block_lt_of_cell? w _ h1
  have l2 : b2 < w.heap.size := World.block_lt_of_cell? w _ h2
  have CC : Hid (∀ x, Below w.heap.size w x → (fun w' => w'.cell? ⟨b0, 0, none⟩ = some (.string a) ∧ w'.cell? ⟨b1, 0, none⟩ = some (.string p) ∧ w'.cell? ⟨b2, 0, none⟩ = some (.string q) ∧ True) x) := fun x k => ⟨(k.cell (p := ⟨b0, 0, none⟩) l0).trans h0, (k.cell (p := ⟨b1, 0, none⟩) l1).trans h1, (k.cell (p := ⟨b2, 0, none⟩) l2).trans h2, trivial⟩
  have k0 := (Below.refl w.heap.size w).drew
  have H0' := Lib.hid H0
  have H1' := Lib.hid H1
  clear H0 H1
  go_enter Try.func39, Try.ntmps39
  go_wp2_with fail
  refine wp_region_held_drew (S := fun w' => w'.cell? ⟨b0, 0, none⟩ = some (.string a) ∧ w'.cell? ⟨b1, 0, none⟩ = some (.string p) ∧ w'.cell? ⟨b2, 0, none⟩ = some (.string q) ∧ True) (by kernel_rfl) (CC.out _ k0) (fun hHeld => ?_)
  try simp only [Act.put, List.setIfInBounds_toArray, List.set_cons_zero, List.set_cons_succ]
  refine wpAnyH_take (i := 0) (oi := ⟨some 4, _, _, _, _, _⟩) (v := ?_) rfl (by kernel_rfl) (by kernel_rfl) (by kernel_rfl) (fun _ _ _ h => h) (Or.inl ⟨by rfl, ?_⟩) (by assumption) ?_
  rotate_left
  · intro w hSw
    (try dsimp only at hSw)
    (try obtain ⟨q0, q1, q2, q3⟩ := hSw)
    (try obtain ⟨q0, q1, q2⟩ := hSw)
    (try obtain ⟨q0, q1⟩ := hSw)
    go_simp
    with_reducible rfl
  try simp only [Act.put, List.setIfInBounds_toArray, List.set_cons_zero, List.set_cons_succ]
  refine wpAnyH_take (i := 2) (oi := ⟨some 6, _, _, _, _, _⟩) (v := ?_) rfl (by kernel_rfl) (by kernel_rfl) (by kernel_rfl) (fun _ _ _ h => h) (Or.inl ⟨by rfl, ?_⟩) (by assumption) ?_
  rotate_left
  · intro w hSw
    (try dsimp only at hSw)
    (try obtain ⟨q0, q1, q2, q3⟩ := hSw)
    (try obtain ⟨q0, q1, q2⟩ := hSw)
    (try obtain ⟨q0, q1⟩ := hSw)
    go_simp
    with_reducible rfl
  try simp only [Act.put, List.setIfInBounds_toArray, List.set_cons_zero, List.set_cons_succ]
  refine wpAnyH_take (i := 4) (oi := ⟨some 8, _, _, _, _, _⟩) (v := ?_) rfl (by kernel_rfl) (by kernel_rfl) (by kernel_rfl) (fun _ _ _ h => h) (Or.inl ⟨by rfl, ?_⟩) (by assumption) ?_
  rotate_left
  · intro w hSw
    (try dsimp only at hSw)
    (try obtain ⟨q0, q1, q2, q3⟩ := hSw)
    (try obtain ⟨q0, q1, q2⟩ := hSw)
    (try obtain ⟨q0, q1⟩ := hSw)
    go_simp
    with_reducible rfl
  try simp only [Act.put, List.setIfInBounds_toArray, List.set_cons_zero, List.set_cons_succ]
  refine wpAnyH_ready (rs := [1]) (by kernel_rfl) (by simp) ?_
  refine AllReadyH.cons rfl (fun K hK => ?_) AllReadyH.nil
  go_simp
  with_reducible refine (H0'.out _).mono ?_
  rintro e w1 ⟨rfl, b1⟩
  have k1 := cdgo k0 b1
  dsimp only
  refine hK.out _ _ (CC.out _ k1) (fun hHeld => ?_)
  clear hK K
  try simp only [Act.put, List.setIfInBounds_toArray, List.set_cons_zero, List.set_cons_succ]
  refine wpAnyH_ready (rs := [3]) (by kernel_rfl) (by simp) ?_
  refine AllReadyH.cons rfl (fun K hK => ?_) AllReadyH.nil
  go_simp
  with_reducible refine (H1'.out _).mono ?_
  rintro e w2 ⟨rfl, b2⟩
  have k2 := cdgo k1 b2
  exact And.intro rfl (And.intro rfl k2)
set_option maxHeartbeats 2000000 in
theorem cl_TestAt_2 (a : ByteArray) (p : ByteArray) (q : ByteArray) (b0 : Nat) (b1 : Nat) (b2 : Nat) (x0 : Int) (T1 : TypeId) (V1 : Value) (w : World) (h0 : w.cell? ⟨b0, 0, none⟩ = some (.string a)) (h1 : w.cell? ⟨b1, 0, none⟩ = some (.string p)) (h2 : w.cell? ⟨b2, 0, none⟩ = some (.string q))
    (H0 : ∀ w, Calls Try.prog 36 #[.string a] w fun e w' => e = .returned (.int .u8 x0) ∧ Below w.heap.size w w')
    (H1 : ∀ w, Calls Try.prog 41 #[.string p] w fun e w' => e = .returned (.iface T1 V1) ∧ Below w.heap.size w w')
    (H2 : ∀ w, Calls Try.prog 41 #[.string q] w fun e w' => e = failed ∧ Below w.heap.size w w') :
    Calls Try.prog 39 #[.pointer (some ⟨b0, 0, none⟩), .pointer (some ⟨b1, 0, none⟩), .pointer (some ⟨b2, 0, none⟩)] w fun e w' => e = failed ∧ Below w.heap.size w w' := by
  have l0 : b0 < w.heap.size := World.block_lt_of_cell? w _ h0
  have l1 : b1 < w.heap.size := World.block_lt_of_cell? w _ h1
  have l2 : b2 < w.heap.size := World.block_lt_of_cell? w _ h2
  have CC : Hid (∀ x, Below w.heap.size w x → (fun w' => w'.cell? ⟨b0, 0, none⟩ = some (.string a) ∧ w'.cell? ⟨b1, 0, none⟩ = some (.string p) ∧ w'.cell? ⟨b2, 0, none⟩ = some (.string q) ∧ True) x) := fun x k => ⟨(k.cell (p := ⟨b0, 0, none⟩) l0).trans h0, (k.cell (p := ⟨b1, 0, none⟩) l1).trans h1, (k.cell (p := ⟨b2, 0, none⟩) l2).trans h2, trivial⟩
  have k0 := (Below.refl w.heap.size w).drew
  have H0' := Lib.hid H0
  have H1' := Lib.hid H1
  have H2' := Lib.hid H2
  clear H0 H1 H2
  go_enter Try.func39, Try.ntmps39
  go_wp2_with fail
  refine wp_region_held_drew (S := fun w' => w'.cell? ⟨b0, 0, none⟩ = some (.string a) ∧ w'.cell? ⟨b1, 0, none⟩ = some (.string p) ∧ w'.cell? ⟨b2, 0, none⟩ = some (.string q) ∧ True) (by kernel_rfl) (CC.out _ k0) (fun hHeld => ?_)
  try simp only [Act.put, List.setIfInBounds_toArray, List.set_cons_zero, List.set_cons_succ]
  refine wpAnyH_take (i := 0) (oi := ⟨some 4, _, _, _, _, _⟩) (v := ?_) rfl (by kernel_rfl) (by kernel_rfl) (by kernel_rfl) (fun _ _ _ h => h) (Or.inl ⟨by rfl, ?_⟩) (by assumption) ?_
  rotate_left
  · intro w hSw
    (try dsimp only at hSw)
    (try obtain ⟨q0, q1, q2, q3⟩ := hSw)
    (try obtain ⟨q0, q1, q2⟩ := hSw)
    (try obtain ⟨q0, q1⟩ := hSw)
    go_simp
    with_reducible rfl
  try simp only [Act.put, List.setIfInBounds_toArray, List.set_cons_zero, List.set_cons_succ]
  refine wpAnyH_take (i := 2) (oi := ⟨some 6, _, _, _, _, _⟩) (v := ?_) rfl (by kernel_rfl) (by kernel_rfl) (by kernel_rfl) (fun _ _ _ h => h) (Or.inl ⟨by rfl, ?_⟩) (by assumption) ?_
  rotate_left
  · intro w hSw
    (try dsimp only at hSw)
    (try obtain ⟨q0, q1, q2, q3⟩ := hSw)
    (try obtain ⟨q0, q1, q2⟩ := hSw)
    (try obtain ⟨q0, q1⟩ := hSw)
    go_simp
    with_reducible rfl
  try simp only [Act.put, List.setIfInBounds_toArray, List.set_cons_zero, List.set_cons_succ]
  refine wpAnyH_take (i := 4) (oi := ⟨some 8, _, _, _, _, _⟩) (v := ?_) rfl (by kernel_rfl) (by kernel_rfl) (by kernel_rfl) (fun _ _ _ h => h) (Or.inl ⟨by rfl, ?_⟩) (by assumption) ?_
  rotate_left
  · intro w hSw
    (try dsimp only at hSw)
    (try obtain ⟨q0, q1, q2, q3⟩ := hSw)
    (try obtain ⟨q0, q1, q2⟩ := hSw)
    (try obtain ⟨q0, q1⟩ := hSw)
    go_simp
    with_reducible rfl
  try simp only [Act.put, List.setIfInBounds_toArray, List.set_cons_zero, List.set_cons_succ]
  refine wpAnyH_ready (rs := [1]) (by kernel_rfl) (by simp) ?_
  refine AllReadyH.cons rfl (fun K hK => ?_) AllReadyH.nil
  go_simp
  with_reducible refine (H0'.out _).mono ?_
  rintro e w1 ⟨rfl, b1⟩
  have k1 := cdgo k0 b1
  dsimp only
  refine hK.out _ _ (CC.out _ k1) (fun hHeld => ?_)
  clear hK K
  try simp only [Act.put, List.setIfInBounds_toArray, List.set_cons_zero, List.set_cons_succ]
  refine wpAnyH_ready (rs := [3]) (by kernel_rfl) (by simp) ?_
  refine AllReadyH.cons rfl (fun K hK => ?_) AllReadyH.nil
  go_simp
  with_reducible refine (H1'.out _).mono ?_
  rintro e w2 ⟨rfl, b2⟩
  have k2 := cdgo k1 b2
  dsimp only
  refine hK.out _ _ (CC.out _ k2) (fun hHeld => ?_)
  clear hK K
  try simp only [Act.put, List.setIfInBounds_toArray, List.set_cons_zero, List.set_cons_succ]
  refine wpAnyH_ready (rs := [5]) (by kernel_rfl) (by simp) ?_
  refine AllReadyH.cons rfl (fun K hK => ?_) AllReadyH.nil
  go_simp
  with_reducible refine (H2'.out _).mono ?_
  rintro e w3 ⟨rfl, b3⟩
  have k3 := cdgo k2 b3
  exact And.intro rfl (And.intro rfl k3)
set_option maxHeartbeats 2000000 in
theorem cl_TestAt_nofin (a : ByteArray) (p : ByteArray) (q : ByteArray) (b0 : Nat) (b1 : Nat) (b2 : Nat) (x0 : Int) (T1 : TypeId) (V1 : Value) (T2 : TypeId) (V2 : Value) (w : World) (h0 : w.cell? ⟨b0, 0, none⟩ = some (.string a)) (h1 : w.cell? ⟨b1, 0, none⟩ = some (.string p)) (h2 : w.cell? ⟨b2, 0, none⟩ = some (.string q))
    (H0 : ∀ w, Calls Try.prog 36 #[.string a] w fun e w' => e = .returned (.int .u8 x0) ∧ Below w.heap.size w w')
    (H1 : ∀ w, Calls Try.prog 41 #[.string p] w fun e w' => e = .returned (.iface T1 V1) ∧ Below w.heap.size w w')
    (H2 : ∀ w, Calls Try.prog 41 #[.string q] w fun e w' => e = .returned (.iface T2 V2) ∧ Below w.heap.size w w')
    (HF : ∀ w, Calls Try.prog 40 #[(.int .u8 x0), (.iface T1 V1), (.iface T2 V2)] w fun e w' => e = failed ∧ Below w.heap.size w w') :
    Calls Try.prog 39 #[.pointer (some ⟨b0, 0, none⟩), .pointer (some ⟨b1, 0, none⟩), .pointer (some ⟨b2, 0, none⟩)] w fun e w' => e = failed ∧ Below w.heap.size w w' := by
  have l0 : b0 < w.heap.size := World.block_lt_of_cell? w _ h0
  have l1 : b1 < w.heap.size := World.block_lt_of_cell? w _ h1
  have l2 : b2 < w.heap.size := World.block_lt_of_cell? w _ h2
  have CC : Hid (∀ x, Below w.heap.size w x → (fun w' => w'.cell? ⟨b0, 0, none⟩ = some (.string a) ∧ w'.cell? ⟨b1, 0, none⟩ = some (.string p) ∧ w'.cell? ⟨b2, 0, none⟩ = some (.string q) ∧ True) x) := fun x k => ⟨(k.cell (p := ⟨b0, 0, none⟩) l0).trans h0, (k.cell (p := ⟨b1, 0, none⟩) l1).trans h1, (k.cell (p := ⟨b2, 0, none⟩) l2).trans h2, trivial⟩
  have k0 := (Below.refl w.heap.size w).drew
  have H0' := Lib.hid H0
  have H1' := Lib.hid H1
  have H2' := Lib.hid H2
  have HF' := Lib.hid HF
  clear H0 H1 H2 HF
  go_enter Try.func39, Try.ntmps39
  go_wp2_with fail
  refine wp_region_held_drew (S := fun w' => w'.cell? ⟨b0, 0, none⟩ = some (.string a) ∧ w'.cell? ⟨b1, 0, none⟩ = some (.string p) ∧ w'.cell? ⟨b2, 0, none⟩ = some (.string q) ∧ True) (by kernel_rfl) (CC.out _ k0) (fun hHeld => ?_)
  try simp only [Act.put, List.setIfInBounds_toArray, List.set_cons_zero, List.set_cons_succ]
  refine wpAnyH_take (i := 0) (oi := ⟨some 4, _, _, _, _, _⟩) (v := ?_) rfl (by kernel_rfl) (by kernel_rfl) (by kernel_rfl) (fun _ _ _ h => h) (Or.inl ⟨by rfl, ?_⟩) (by assumption) ?_
  rotate_left
  · intro w hSw
    (try dsimp only at hSw)
    (try obtain ⟨q0, q1, q2, q3⟩ := hSw)
    (try obtain ⟨q0, q1, q2⟩ := hSw)
    (try obtain ⟨q0, q1⟩ := hSw)
    go_simp
    with_reducible rfl
  try simp only [Act.put, List.setIfInBounds_toArray, List.set_cons_zero, List.set_cons_succ]
  refine wpAnyH_take (i := 2) (oi := ⟨some 6, _, _, _, _, _⟩) (v := ?_) rfl (by kernel_rfl) (by kernel_rfl) (by kernel_rfl) (fun _ _ _ h => h) (Or.inl ⟨by rfl, ?_⟩) (by assumption) ?_
  rotate_left
  · intro w hSw
    (try dsimp only at hSw)
    (try obtain ⟨q0, q1, q2, q3⟩ := hSw)
    (try obtain ⟨q0, q1, q2⟩ := hSw)
    (try obtain ⟨q0, q1⟩ := hSw)
    go_simp
    with_reducible rfl
  try simp only [Act.put, List.setIfInBounds_toArray, List.set_cons_zero, List.set_cons_succ]
  refine wpAnyH_take (i := 4) (oi := ⟨some 8, _, _, _, _, _⟩) (v := ?_) rfl (by kernel_rfl) (by kernel_rfl) (by kernel_rfl) (fun _ _ _ h => h) (Or.inl ⟨by rfl, ?_⟩) (by assumption) ?_
  rotate_left
  · intro w hSw
    (try dsimp only at hSw)
    (try obtain ⟨q0, q1, q2, q3⟩ := hSw)
    (try obtain ⟨q0, q1, q2⟩ := hSw)
    (try obtain ⟨q0, q1⟩ := hSw)
    go_simp
    with_reducible rfl
  try simp only [Act.put, List.setIfInBounds_toArray, List.set_cons_zero, List.set_cons_succ]
  refine wpAnyH_ready (rs := [1]) (by kernel_rfl) (by simp) ?_
  refine AllReadyH.cons rfl (fun K hK => ?_) AllReadyH.nil
  go_simp
  with_reducible refine (H0'.out _).mono ?_
  rintro e w1 ⟨rfl, b1⟩
  have k1 := cdgo k0 b1
  dsimp only
  refine hK.out _ _ (CC.out _ k1) (fun hHeld => ?_)
  clear hK K
  try simp only [Act.put, List.setIfInBounds_toArray, List.set_cons_zero, List.set_cons_succ]
  refine wpAnyH_ready (rs := [3]) (by kernel_rfl) (by simp) ?_
  refine AllReadyH.cons rfl (fun K hK => ?_) AllReadyH.nil
  go_simp
  with_reducible refine (H1'.out _).mono ?_
  rintro e w2 ⟨rfl, b2⟩
  have k2 := cdgo k1 b2
  dsimp only
  refine hK.out _ _ (CC.out _ k2) (fun hHeld => ?_)
  clear hK K
  try simp only [Act.put, List.setIfInBounds_toArray, List.set_cons_zero, List.set_cons_succ]
  refine wpAnyH_ready (rs := [5]) (by kernel_rfl) (by simp) ?_
  refine AllReadyH.cons rfl (fun K hK => ?_) AllReadyH.nil
  go_simp
  with_reducible refine (H2'.out _).mono ?_
  rintro e w3 ⟨rfl, b3⟩
  have k3 := cdgo k2 b3
  dsimp only
  refine hK.out _ _ (CC.out _ k3) (fun hHeld => ?_)
  clear hK K
  try simp only [Act.put, List.setIfInBounds_toArray, List.set_cons_zero, List.set_cons_succ]
  refine wpAnyH_ready (rs := [6]) (by kernel_rfl) (by simp) ?_
  refine AllReadyH.cons rfl (fun K hK => ?_) AllReadyH.nil
  go_simp
  with_reducible refine (HF'.out _).mono ?_
  rintro e w4 ⟨rfl, b4⟩
  have k4 := cdgo k3 b4
  exact And.intro rfl (And.intro rfl k4)
set_option maxHeartbeats 2000000 in
theorem cl_NotAt_yes (a : ByteArray) (b : ByteArray) (b0 : Nat) (b1 : Nat) (x0 : Int) (x1 : Int) (T : TypeId) (V : Value) (w : World) (h0 : w.cell? ⟨b0, 0, none⟩ = some (.string a)) (h1 : w.cell? ⟨b1, 0, none⟩ = some (.string b))
    (H0 : ∀ w, Calls Try.prog 36 #[.string a] w fun e w' => e = .returned (.int .u8 x0) ∧ Below w.heap.size w w')
    (H1 : ∀ w, Calls Try.prog 36 #[.string b] w fun e w' => e = .returned (.int .u8 x1) ∧ Below w.heap.size w w')
    (HF : ∀ w, Calls Try.prog 47 #[(.int .u8 x0), (.int .u8 x1)] w fun e w' => e = .returned (.iface T V) ∧ Below w.heap.size w w') :
    Calls Try.prog 46 #[.pointer (some ⟨b0, 0, none⟩), .pointer (some ⟨b1, 0, none⟩)] w fun e w' => e = .returned (.iface T V) ∧ Below w.heap.size w w' := by
  have l0 : b0 < w.heap.size := World.block_lt_of_cell? w _ h0
  have l1 : b1 < w.heap.size := World.block_lt_of_cell? w _ h1
  have CC : Hid (∀ x, Below w.heap.size w x → (fun w' => w'.cell? ⟨b0, 0, none⟩ = some (.string a) ∧ w'.cell? ⟨b1, 0, none⟩ = some (.string b) ∧ True) x) := fun x k => ⟨(k.cell (p := ⟨b0, 0, none⟩) l0).trans h0, (k.cell (p := ⟨b1, 0, none⟩) l1).trans h1, trivial⟩
  have k0 := (Below.refl w.heap.size w).drew
  have H0' := Lib.hid H0
  have H1' := Lib.hid H1
  have HF' := Lib.hid HF
  clear H0 H1 HF
  go_enter Try.func46, Try.ntmps46
  go_wp2_with fail
  refine wp_region_held_drew (S := fun w' => w'.cell? ⟨b0, 0, none⟩ = some (.string a) ∧ w'.cell? ⟨b1, 0, none⟩ = some (.string b) ∧ True) (by kernel_rfl) (CC.out _ k0) (fun hHeld => ?_)
  try simp only [Act.put, List.setIfInBounds_toArray, List.set_cons_zero, List.set_cons_succ]
  refine wpAnyH_take (i := 0) (oi := ⟨some 3, _, _, _, _, _⟩) (v := ?_) rfl (by kernel_rfl) (by kernel_rfl) (by kernel_rfl) (fun _ _ _ h => h) (Or.inl ⟨by rfl, ?_⟩) (by assumption) ?_
  rotate_left
  · intro w hSw
    (try dsimp only at hSw)
    (try obtain ⟨q0, q1, q2, q3⟩ := hSw)
    (try obtain ⟨q0, q1, q2⟩ := hSw)
    (try obtain ⟨q0, q1⟩ := hSw)
    go_simp
    with_reducible rfl
  try simp only [Act.put, List.setIfInBounds_toArray, List.set_cons_zero, List.set_cons_succ]
  refine wpAnyH_take (i := 2) (oi := ⟨some 5, _, _, _, _, _⟩) (v := ?_) rfl (by kernel_rfl) (by kernel_rfl) (by kernel_rfl) (fun _ _ _ h => h) (Or.inl ⟨by rfl, ?_⟩) (by assumption) ?_
  rotate_left
  · intro w hSw
    (try dsimp only at hSw)
    (try obtain ⟨q0, q1, q2, q3⟩ := hSw)
    (try obtain ⟨q0, q1, q2⟩ := hSw)
    (try obtain ⟨q0, q1⟩ := hSw)
    go_simp
    with_reducible rfl
  try simp only [Act.put, List.setIfInBounds_toArray, List.set_cons_zero, List.set_cons_succ]
  refine wpAnyH_ready (rs := [1]) (by kernel_rfl) (by simp) ?_
  refine AllReadyH.cons rfl (fun K hK => ?_) AllReadyH.nil
  go_simp
  with_reducible refine (H0'.out _).mono ?_
  rintro e w1 ⟨rfl, b1⟩
  have k1 := cdgo k0 b1
  dsimp only
  refine hK.out _ _ (CC.out _ k1) (fun hHeld => ?_)
  clear hK K
  try simp only [Act.put, List.setIfInBounds_toArray, List.set_cons_zero, List.set_cons_succ]
  refine wpAnyH_ready (rs := [3]) (by kernel_rfl) (by simp) ?_
  refine AllReadyH.cons rfl (fun K hK => ?_) AllReadyH.nil
  go_simp
  with_reducible refine (H1'.out _).mono ?_
  rintro e w2 ⟨rfl, b2⟩
  have k2 := cdgo k1 b2
  dsimp only
  refine hK.out _ _ (CC.out _ k2) (fun hHeld => ?_)
  clear hK K
  try simp only [Act.put, List.setIfInBounds_toArray, List.set_cons_zero, List.set_cons_succ]
  refine wpAnyH_ready (rs := [4]) (by kernel_rfl) (by simp) ?_
  refine AllReadyH.cons rfl (fun K hK => ?_) AllReadyH.nil
  go_simp
  with_reducible refine (HF'.out _).mono ?_
  rintro e w3 ⟨rfl, b3⟩
  have k3 := cdgo k2 b3
  dsimp only
  refine hK.out _ _ (CC.out _ k3) (fun hHeld => ?_)
  clear hK K
  try simp only [Act.put, List.setIfInBounds_toArray, List.set_cons_zero, List.set_cons_succ]
  refine wpAnyH_take (i := 5) (oi := ⟨some 2, _, _, _, _, _⟩) (v := ?_) rfl (by kernel_rfl) (by kernel_rfl) (by kernel_rfl) (fun _ _ _ h => h) (Or.inl ⟨by rfl, ?_⟩) (by assumption) ?_
  rotate_left
  · intro w hSw
    (try dsimp only at hSw)
    (try obtain ⟨q0, q1, q2, q3⟩ := hSw)
    (try obtain ⟨q0, q1, q2⟩ := hSw)
    (try obtain ⟨q0, q1⟩ := hSw)
    go_simp
    with_reducible rfl
  try simp only [Act.put, List.setIfInBounds_toArray, List.set_cons_zero, List.set_cons_succ]
  refine wpAnyH_done (by kernel_rfl) ?_ _
  go_wp2_with fail
  go_ret
  exact ⟨rfl, k3⟩
set_option maxHeartbeats 2000000 in
theorem cl_NotAt_0 (a : ByteArray) (b : ByteArray) (b0 : Nat) (b1 : Nat) (w : World) (h0 : w.cell? ⟨b0, 0, none⟩ = some (.string a)) (h1 : w.cell? ⟨b1, 0, none⟩ = some (.string b))
    (H0 : ∀ w, Calls Try.prog 36 #[.string a] w fun e w' => e = failed ∧ Below w.heap.size w w') :
    Calls Try.prog 46 #[.pointer (some ⟨b0, 0, none⟩), .pointer (some ⟨b1, 0, none⟩)] w fun e w' => e = failed ∧ Below w.heap.size w w' := by
  have l0 : b0 < w.heap.size := World.block_lt_of_cell? w _ h0
  have l1 : b1 < w.heap.size := World.block_lt_of_cell? w _ h1
  have CC : Hid (∀ x, Below w.heap.size w x → (fun w' => w'.cell? ⟨b0, 0, none⟩ = some (.string a) ∧ w'.cell? ⟨b1, 0, none⟩ = some (.string b) ∧ True) x) := fun x k => ⟨(k.cell (p := ⟨b0, 0, none⟩) l0).trans h0, (k.cell (p := ⟨b1, 0, none⟩) l1).trans h1, trivial⟩
  have k0 := (Below.refl w.heap.size w).drew
  have H0' := Lib.hid H0
  clear H0
  go_enter Try.func46, Try.ntmps46
  go_wp2_with fail
  refine wp_region_held_drew (S := fun w' => w'.cell? ⟨b0, 0, none⟩ = some (.string a) ∧ w'.cell? ⟨b1, 0, none⟩ = some (.string b) ∧ True) (by kernel_rfl) (CC.out _ k0) (fun hHeld => ?_)
  try simp only [Act.put, List.setIfInBounds_toArray, List.set_cons_zero, List.set_cons_succ]
  refine wpAnyH_take (i := 0) (oi := ⟨some 3, _, _, _, _, _⟩) (v := ?_) rfl (by kernel_rfl) (by kernel_rfl) (by kernel_rfl) (fun _ _ _ h => h) (Or.inl ⟨by rfl, ?_⟩) (by assumption) ?_
  rotate_left
  · intro w hSw
    (try dsimp only at hSw)
    (try obtain ⟨q0, q1, q2, q3⟩ := hSw)
    (try obtain ⟨q0, q1, q2⟩ := hSw)
    (try obtain ⟨q0, q1⟩ := hSw)
    go_simp
    with_reducible rfl
  try simp only [Act.put, List.setIfInBounds_toArray, List.set_cons_zero, List.set_cons_succ]
  refine wpAnyH_take (i := 2) (oi := ⟨some 5, _, _, _, _, _⟩) (v := ?_) rfl (by kernel_rfl) (by kernel_rfl) (by kernel_rfl) (fun _ _ _ h => h) (Or.inl ⟨by rfl, ?_⟩) (by assumption) ?_
  rotate_left
  · intro w hSw
    (try dsimp only at hSw)
    (try obtain ⟨q0, q1, q2, q3⟩ := hSw)
    (try obtain ⟨q0, q1, q2⟩ := hSw)
    (try obtain ⟨q0, q1⟩ := hSw)
    go_simp
    with_reducible rfl
  try simp only [Act.put, List.setIfInBounds_toArray, List.set_cons_zero, List.set_cons_succ]
  refine wpAnyH_ready (rs := [1]) (by kernel_rfl) (by simp) ?_
  refine AllReadyH.cons rfl (fun K hK => ?_) AllReadyH.nil
  go_simp
  with_reducible refine (H0'.out _).mono ?_
  rintro e w1 ⟨rfl, b1⟩
  have k1 := cdgo k0 b1
  exact And.intro rfl (And.intro rfl k1)
set_option maxHeartbeats 2000000 in
theorem cl_NotAt_1 (a : ByteArray) (b : ByteArray) (b0 : Nat) (b1 : Nat) (x0 : Int) (w : World) (h0 : w.cell? ⟨b0, 0, none⟩ = some (.string a)) (h1 : w.cell? ⟨b1, 0, none⟩ = some (.string b))
    (H0 : ∀ w, Calls Try.prog 36 #[.string a] w fun e w' => e = .returned (.int .u8 x0) ∧ Below w.heap.size w w')
    (H1 : ∀ w, Calls Try.prog 36 #[.string b] w fun e w' => e = failed ∧ Below w.heap.size w w') :
    Calls Try.prog 46 #[.pointer (some ⟨b0, 0, none⟩), .pointer (some ⟨b1, 0, none⟩)] w fun e w' => e = failed ∧ Below w.heap.size w w' := by
  have l0 : b0 < w.heap.size := World.block_lt_of_cell? w _ h0
  have l1 : b1 < w.heap.size := World.block_lt_of_cell? w _ h1
  have CC : Hid (∀ x, Below w.heap.size w x → (fun w' => w'.cell? ⟨b0, 0, none⟩ = some (.string a) ∧ w'.cell? ⟨b1, 0, none⟩ = some (.string b) ∧ True) x) := fun x k => ⟨(k.cell (p := ⟨b0, 0, none⟩) l0).trans h0, (k.cell (p := ⟨b1, 0, none⟩) l1).trans h1, trivial⟩
  have k0 := (Below.refl w.heap.size w).drew
  have H0' := Lib.hid H0
  have H1' := Lib.hid H1
  clear H0 H1
  go_enter Try.func46, Try.ntmps46
  go_wp2_with fail
  refine wp_region_held_drew (S := fun w' => w'.cell? ⟨b0, 0, none⟩ = some (.string a) ∧ w'.cell? ⟨b1, 0, none⟩ = some (.string b) ∧ True) (by kernel_rfl) (CC.out _ k0) (fun hHeld => ?_)
  try simp only [Act.put, List.setIfInBounds_toArray, List.set_cons_zero, List.set_cons_succ]
  refine wpAnyH_take (i := 0) (oi := ⟨some 3, _, _, _, _, _⟩) (v := ?_) rfl (by kernel_rfl) (by kernel_rfl) (by kernel_rfl) (fun _ _ _ h => h) (Or.inl ⟨by rfl, ?_⟩) (by assumption) ?_
  rotate_left
  · intro w hSw
    (try dsimp only at hSw)
    (try obtain ⟨q0, q1, q2, q3⟩ := hSw)
    (try obtain ⟨q0, q1, q2⟩ := hSw)
    (try obtain ⟨q0, q1⟩ := hSw)
    go_simp
    with_reducible rfl
  try simp only [Act.put, List.setIfInBounds_toArray, List.set_cons_zero, List.set_cons_succ]
  refine wpAnyH_take (i := 2) (oi := ⟨some 5, _, _, _, _, _⟩) (v := ?_) rfl (by kernel_rfl) (by kernel_rfl) (by kernel_rfl) (fun _ _ _ h => h) (Or.inl ⟨by rfl, ?_⟩) (by assumption) ?_
  rotate_left
  · intro w hSw
    (try dsimp only at hSw)
    (try obtain ⟨q0, q1, q2, q3⟩ := hSw)
    (try obtain ⟨q0, q1, q2⟩ := hSw)
    (try obtain ⟨q0, q1⟩ := hSw)
    go_simp
    with_reducible rfl
  try simp only [Act.put, List.setIfInBounds_toArray, List.set_cons_zero, List.set_cons_succ]
  refine wpAnyH_ready (rs := [1]) (by kernel_rfl) (by simp) ?_
  refine AllReadyH.cons rfl (fun K hK => ?_) AllReadyH.nil
  go_simp
  with_reducible refine (H0'.out _).mono ?_
  rintro e w1 ⟨rfl, b1⟩
  have k1 := cdgo k0 b1
  dsimp only
  refine hK.out _ _ (CC.out _ k1) (fun hHeld => ?_)
  clear hK K
  try simp only [Act.put, List.setIfInBounds_toArray, List.set_cons_zero, List.set_cons_succ]
  refine wpAnyH_ready (rs := [3]) (by kernel_rfl) (by simp) ?_
  refine AllReadyH.cons rfl (fun K hK => ?_) AllReadyH.nil
  go_simp
  with_reducible refine (H1'.out _).mono ?_
  rintro e w2 ⟨rfl, b2⟩
  have k2 := cdgo k1 b2
  exact And.intro rfl (And.intro rfl k2)
set_option maxHeartbeats 2000000 in
theorem cl_AndAt_yes (a : ByteArray) (b : ByteArray) (c : ByteArray) (b0 : Nat) (b1 : Nat) (b2 : Nat) (x0 : Int) (x1 : Int) (x2 : Int) (T : TypeId) (V : Value) (w : World) (h0 : w.cell? ⟨b0, 0, none⟩ = some (.string a)) (h1 : w.cell? ⟨b1, 0, none⟩ = some (.string b)) (h2 : w.cell? ⟨b2, 0, none⟩ = some (.string c))
    (H0 : ∀ w, Calls Try.prog 36 #[.string a] w fun e w' => e = .returned (.int .u8 x0) ∧ Below w.heap.size w w')
    (H1 : ∀ w, Calls Try.prog 36 #[.string b] w fun e w' => e = .returned (.int .u8 x1) ∧ Below w.heap.size w w')
    (H2 : ∀ w, Calls Try.prog 36 #[.string c] w fun e w' => e = .returned (.int .u8 x2) ∧ Below w.heap.size w w')
    (HF : ∀ w, Calls Try.prog 49 #[(.int .u8 x0), (.int .u8 x1), (.int .u8 x2)] w fun e w' => e = .returned (.iface T V) ∧ Below w.heap.size w w') :
    Calls Try.prog 48 #[.pointer (some ⟨b0, 0, none⟩), .pointer (some ⟨b1, 0, none⟩), .pointer (some ⟨b2, 0, none⟩)] w fun e w' => e = .returned (.iface T V) ∧ Below w.heap.size w w' := by
  have l0 : b0 < w.heap.size := World.block_lt_of_cell? w _ h0
  have l1 : b1 < w.heap.size := World.block_lt_of_cell? w _ h1
  have l2 : b2 < w.heap.size := World.block_lt_of_cell? w _ h2
  have CC : Hid (∀ x, Below w.heap.size w x → (fun w' => w'.cell? ⟨b0, 0, none⟩ = some (.string a) ∧ w'.cell? ⟨b1, 0, none⟩ = some (.string b) ∧ w'.cell? ⟨b2, 0, none⟩ = some (.string c) ∧ True) x) := fun x k => ⟨(k.cell (p := ⟨b0, 0, none⟩) l0).trans h0, (k.cell (p := ⟨b1, 0, none⟩) l1).trans h1, (k.cell (p := ⟨b2, 0, none⟩) l2).trans h2, trivial⟩
  have k0 := (Below.refl w.heap.size w).drew
  have H0' := Lib.hid H0
  have H1' := Lib.hid H1
  have H2' := Lib.hid H2
  have HF' := Lib.hid HF
  clear H0 H1 H2 HF
  go_enter Try.func48, Try.ntmps48
  go_wp2_with fail
  refine wp_region_held_drew (S := fun w' => w'.cell? ⟨b0, 0, none⟩ = some (.string a) ∧ w'.cell? ⟨b1, 0, none⟩ = some (.string b) ∧ w'.cell? ⟨b2, 0, none⟩ = some (.string c) ∧ True) (by kernel_rfl) (CC.out _ k0) (fun hHeld => ?_)
  try simp only [Act.put, List.setIfInBounds_toArray, List.set_cons_zero, List.set_cons_succ]
  refine wpAnyH_take (i := 0) (oi := ⟨some 4, _, _, _, _, _⟩) (v := ?_) rfl (by kernel_rfl) (by kernel_rfl) (by kernel_rfl) (fun _ _ _ h => h) (Or.inl ⟨by rfl, ?_⟩) (by assumption) ?_
  rotate_left
  · intro w hSw
    (try dsimp only at hSw)
    (try obtain ⟨q0, q1, q2, q3⟩ := hSw)
    (try obtain ⟨q0, q1, q2⟩ := hSw)
    (try obtain ⟨q0, q1⟩ := hSw)
    go_simp
    with_reducible rfl
  try simp only [Act.put, List.setIfInBounds_toArray, List.set_cons_zero, List.set_cons_succ]
  refine wpAnyH_take (i := 2) (oi := ⟨some 6, _, _, _, _, _⟩) (v := ?_) rfl (by kernel_rfl) (by kernel_rfl) (by kernel_rfl) (fun _ _ _ h => h) (Or.inl ⟨by rfl, ?_⟩) (by assumption) ?_
  rotate_left
  · intro w hSw
    (try dsimp only at hSw)
    (try obtain ⟨q0, q1, q2, q3⟩ := hSw)
    (try obtain ⟨q0, q1, q2⟩ := hSw)
    (try obtain ⟨q0, q1⟩ := hSw)
    go_simp
    with_reducible rfl
  try simp only [Act.put, List.setIfInBounds_toArray, List.set_cons_zero, List.set_cons_succ]
  refine wpAnyH_take (i := 4) (oi := ⟨some 8, _, _, _, _, _⟩) (v := ?_) rfl (by kernel_rfl) (by kernel_rfl) (by kernel_rfl) (fun _ _ _ h => h) (Or.inl ⟨by rfl, ?_⟩) (by assumption) ?_
  rotate_left
  · intro w hSw
    (try dsimp only at hSw)
    (try obtain ⟨q0, q1, q2, q3⟩ := hSw)
    (try obtain ⟨q0, q1, q2⟩ := hSw)
    (try obtain ⟨q0, q1⟩ := hSw)
    go_simp
    with_reducible rfl
  try simp only [Act.put, List.setIfInBounds_toArray, List.set_cons_zero, List.set_cons_succ]
  refine wpAnyH_ready (rs := [1]) (by kernel_rfl) (by simp) ?_
  refine AllReadyH.cons rfl (fun K hK => ?_) AllReadyH.nil
  go_simp
  with_reducible refine (H0'.out _).mono ?_
  rintro e w1 ⟨rfl, b1⟩
  have k1 := cdgo k0 b1
  dsimp only
  refine hK.out _ _ (CC.out _ k1) (fun hHeld => ?_)
  clear hK K
  try simp only [Act.put, List.setIfInBounds_toArray, List.set_cons_zero, List.set_cons_succ]
  refine wpAnyH_ready (rs := [3]) (by kernel_rfl) (by simp) ?_
  refine AllReadyH.cons rfl (fun K hK => ?_) AllReadyH.nil
  go_simp
  with_reducible refine (H1'.out _).mono ?_
  rintro e w2 ⟨rfl, b2⟩
  have k2 := cdgo k1 b2
  dsimp only
  refine hK.out _ _ (CC.out _ k2) (fun hHeld => ?_)
  clear hK K
  try simp only [Act.put, List.setIfInBounds_toArray, List.set_cons_zero, List.set_cons_succ]
  refine wpAnyH_ready (rs := [5]) (by kernel_rfl) (by simp) ?_
  refine AllReadyH.cons rfl (fun K hK => ?_) AllReadyH.nil
  go_simp
  with_reducible refine (H2'.out _).mono ?_
  rintro e w3 ⟨rfl, b3⟩
  have k3 := cdgo k2 b3
  dsimp only
  refine hK.out _ _ (CC.out _ k3) (fun hHeld => ?_)
  clear hK K
  try simp only [Act.put, List.setIfInBounds_toArray, List.set_cons_zero, List.set_cons_succ]
  refine wpAnyH_ready (rs := [6]) (by kernel_rfl) (by simp) ?_
  refine AllReadyH.cons rfl (fun K hK => ?_) AllReadyH.nil
  go_simp
  with_reducible refine (HF'.out _).mono ?_
  rintro e w4 ⟨rfl, b4⟩
  have k4 := cdgo k3 b4
  dsimp only
  refine hK.out _ _ (CC.out _ k4) (fun hHeld => ?_)
  clear hK K
  try simp only [Act.put, List.setIfInBounds_toArray, List.set_cons_zero, List.set_cons_succ]
  refine wpAnyH_take (i := 7) (oi := ⟨some 3, _, _, _, _, _⟩) (v := ?_) rfl (by kernel_rfl) (by kernel_rfl) (by kernel_rfl) (fun _ _ _ h => h) (Or.inl ⟨by rfl, ?_⟩) (by assumption) ?_
  rotate_left
  · intro w hSw
    (try dsimp only at hSw)
    (try obtain ⟨q0, q1, q2, q3⟩ := hSw)
    (try obtain ⟨q0, q1, q2⟩ := hSw)
    (try obtain ⟨q0, q1⟩ := hSw)
    go_simp
    with_reducible rfl
  try simp only [Act.put, List.setIfInBounds_toArray, List.set_cons_zero, List.set_cons_succ]
  refine wpAnyH_done (by kernel_rfl) ?_ _
  go_wp2_with fail
  go_ret
  exact ⟨rfl, k4⟩
set_option maxHeartbeats 2000000 in
theorem cl_AndAt_0 (a : ByteArray) (b : ByteArray) (c : ByteArray) (b0 : Nat) (b1 : Nat) (b2 : Nat) (w : World) (h0 : w.cell? ⟨b0, 0, none⟩ = some (.string a)) (h1 : w.cell? ⟨b1, 0, none⟩ = some (.string b)) (h2 : w.cell? ⟨b2, 0, none⟩ = some (.string c))
    (H0 : ∀ w, Calls Try.prog 36 #[.string a] w fun e w' => e = failed ∧ Below w.heap.size w w') :
    Calls Try.prog 48 #[.pointer (some ⟨b0, 0, none⟩), .pointer (some ⟨b1, 0, none⟩), .pointer (some ⟨b2, 0, none⟩)] w fun e w' => e = failed ∧ Below w.heap.size w w' := by
  have l0 : b0 < w.heap.size := World.block_lt_of_cell? w _ h0
  have l1 : b1 < w.heap.size := World.block_lt_of_cell? w _ h1
  have l2 : b2 < w.heap.size := World.block_lt_of_cell? w _ h2
  have CC : Hid (∀ x, Below w.heap.size w x → (fun w' => w'.cell? ⟨b0, 0, none⟩ = some (.string a) ∧ w'.cell? ⟨b1, 0, none⟩ = some (.string b) ∧ w'.cell? ⟨b2, 0, none⟩ = some (.string c) ∧ True) x) := fun x k => ⟨(k.cell (p := ⟨b0, 0, none⟩) l0).trans h0, (k.cell (p := ⟨b1, 0, none⟩) l1).trans h1, (k.cell (p := ⟨b2, 0, none⟩) l2).trans h2, trivial⟩
  have k0 := (Below.refl w.heap.size w).drew
  have H0' := Lib.hid H0
  clear H0
  go_enter Try.func48, Try.ntmps48
  go_wp2_with fail
  refine wp_region_held_drew (S := fun w' => w'.cell? ⟨b0, 0, none⟩ = some (.string a) ∧ w'.cell? ⟨b1, 0, none⟩ = some (.string b) ∧ w'.cell? ⟨b2, 0, none⟩ = some (.string c) ∧ True) (by kernel_rfl) (CC.out _ k0) (fun hHeld => ?_)
  try simp only [Act.put, List.setIfInBounds_toArray, List.set_cons_zero, List.set_cons_succ]
  refine wpAnyH_take (i := 0) (oi := ⟨some 4, _, _, _, _, _⟩) (v := ?_) rfl (by kernel_rfl) (by kernel_rfl) (by kernel_rfl) (fun _ _ _ h => h) (Or.inl ⟨by rfl, ?_⟩) (by assumption) ?_
  rotate_left
  · intro w hSw
    (try dsimp only at hSw)
    (try obtain ⟨q0, q1, q2, q3⟩ := hSw)
    (try obtain ⟨q0, q1, q2⟩ := hSw)
    (try obtain ⟨q0, q1⟩ := hSw)
    go_simp
    with_reducible rfl
  try simp only [Act.put, List.setIfInBounds_toArray, List.set_cons_zero, List.set_cons_succ]
  refine wpAnyH_take (i := 2) (oi := ⟨some 6, _, _, _, _, _⟩) (v := ?_) rfl (by kernel_rfl) (by kernel_rfl) (by kernel_rfl) (fun _ _ _ h => h) (Or.inl ⟨by rfl, ?_⟩) (by assumption) ?_
  rotate_left
  · intro w hSw
    (try dsimp only at hSw)
    (try obtain ⟨q0, q1, q2, q3⟩ := hSw)
    (try obtain ⟨q0, q1, q2⟩ := hSw)
    (try obtain ⟨q0, q1⟩ := hSw)
    go_simp
    with_reducible rfl
  try simp only [Act.put, List.setIfInBounds_toArray, List.set_cons_zero, List.set_cons_succ]
  refine wpAnyH_take (i := 4) (oi := ⟨some 8, _, _, _, _, _⟩) (v := ?_) rfl (by kernel_rfl) (by kernel_rfl) (by kernel_rfl) (fun _ _ _ h => h) (Or.inl ⟨by rfl, ?_⟩) (by assumption) ?_
  rotate_left
  · intro w hSw
    (try dsimp only at hSw)
    (try obtain ⟨q0, q1, q2, q3⟩ := hSw)
    (try obtain ⟨q0, q1, q2⟩ := hSw)
    (try obtain ⟨q0, q1⟩ := hSw)
    go_simp
    with_reducible rfl
  try simp only [Act.put, List.setIfInBounds_toArray, List.set_cons_zero, List.set_cons_succ]
  refine wpAnyH_ready (rs := [1]) (by kernel_rfl) (by simp) ?_
  refine AllReadyH.cons rfl (fun K hK => ?_) AllReadyH.nil
  go_simp
  with_reducible refine (H0'.out _).mono ?_
  rintro e w1 ⟨rfl, b1⟩
  have k1 := cdgo k0 b1
  exact And.intro rfl (And.intro rfl k1)
set_option maxHeartbeats 2000000 in
theorem cl_AndAt_1 (a : ByteArray) (b : ByteArray) (c : ByteArray) (b0 : Nat) (b1 : Nat) (b2 : Nat) (x0 : Int) (w : World) (h0 : w.cell? ⟨b0, 0, none⟩ = some (.string a)) (h1 : w.cell? ⟨b1, 0, none⟩ = some (.string b)) (h2 : w.cell? ⟨b2, 0, none⟩ = some (.string c))
    (H0 : ∀ w, Calls Try.prog 36 #[.string a] w fun e w' => e = .returned (.int .u8 x0) ∧ Below w.heap.size w w')
    (H1 : ∀ w, Calls Try.prog 36 #[.string b] w fun e w' => e = failed ∧ Below w.heap.size w w') :
    Calls Try.prog 48 #[.pointer (some ⟨b0, 0, none⟩), .pointer (some ⟨b1, 0, none⟩), .pointer (some ⟨b2, 0, none⟩)] w fun e w' => e = failed ∧ Below w.heap.size w w' := by
  have l0 : b0 < w.heap.size := World.block_lt_of_cell? w _ h0
  have l1 : b1 < w.heap.size := World.block_lt_of_cell? w _ h1
  have l2 : b2 < w.heap.size := World.block_lt_of_cell? w _ h2
  have CC : Hid (∀ x, Below w.heap.size w x → (fun w' => w'.cell? ⟨b0, 0, none⟩ = some (.string a) ∧ w'.cell? ⟨b1, 0, none⟩ = some (.string b) ∧ w'.cell? ⟨b2, 0, none⟩ = some (.string c) ∧ True) x) := fun x k => ⟨(k.cell (p := ⟨b0, 0, none⟩) l0).trans h0, (k.cell (p := ⟨b1, 0, none⟩) l1).trans h1, (k.cell (p := ⟨b2, 0, none⟩) l2).trans h2, trivial⟩
  have k0 := (Below.refl w.heap.size w).drew
  have H0' := Lib.hid H0
  have H1' := Lib.hid H1
  clear H0 H1
  go_enter Try.func48, Try.ntmps48
  go_wp2_with fail
  refine wp_region_held_drew (S := fun w' => w'.cell? ⟨b0, 0, none⟩ = some (.string a) ∧ w'.cell? ⟨b1, 0, none⟩ = some (.string b) ∧ w'.cell? ⟨b2, 0, none⟩ = some (.string c) ∧ True) (by kernel_rfl) (CC.out _ k0) (fun hHeld => ?_)
  try simp only [Act.put, List.setIfInBounds_toArray, List.set_cons_zero, List.set_cons_succ]
  refine wpAnyH_take (i := 0) (oi := ⟨some 4, _, _, _, _, _⟩) (v := ?_) rfl (by kernel_rfl) (by kernel_rfl) (by kernel_rfl) (fun _ _ _ h => h) (Or.inl ⟨by rfl, ?_⟩) (by assumption) ?_
  rotate_left
  · intro w hSw
    (try dsimp only at hSw)
    (try obtain ⟨q0, q1, q2, q3⟩ := hSw)
    (try obtain ⟨q0, q1, q2⟩ := hSw)
    (try obtain ⟨q0, q1⟩ := hSw)
    go_simp
    with_reducible rfl
  try simp only [Act.put, List.setIfInBounds_toArray, List.set_cons_zero, List.set_cons_succ]
  refine wpAnyH_take (i := 2) (oi := ⟨some 6, _, _, _, _, _⟩) (v := ?_) rfl (by kernel_rfl) (by kernel_rfl) (by kernel_rfl) (fun _ _ _ h => h) (Or.inl ⟨by rfl, ?_⟩) (by assumption) ?_
  rotate_left
  · intro w hSw
    (try dsimp only at hSw)
    (try obtain ⟨q0, q1, q2, q3⟩ := hSw)
    (try obtain ⟨q0, q1, q2⟩ := hSw)
    (try obtain ⟨q0, q1⟩ := hSw)
    go_simp
    with_reducible rfl
  try simp only [Act.put, List.setIfInBounds_toArray, List.set_cons_zero, List.set_cons_succ]
  refine wpAnyH_take (i := 4) (oi := ⟨some 8, _, _, _, _, _⟩) (v := ?_) rfl (by kernel_rfl) (by kernel_rfl) (by kernel_rfl) (fun _ _ _ h => h) (Or.inl ⟨by rfl, ?_⟩) (by assumption) ?_
  rotate_left
  · intro w hSw
    (try dsimp only at hSw)
    (try obtain ⟨q0, q1, q2, q3⟩ := hSw)
    (try obtain ⟨q0, q1, q2⟩ := hSw)
    (try obtain ⟨q0, q1⟩ := hSw)
    go_simp
    with_reducible rfl
  try simp only [Act.put, List.setIfInBounds_toArray, List.set_cons_zero, List.set_cons_succ]
  refine wpAnyH_ready (rs := [1]) (by kernel_rfl) (by simp) ?_
  refine AllReadyH.cons rfl (fun K hK => ?_) AllReadyH.nil
  go_simp
  with_reducible refine (H0'.out _).mono ?_
  rintro e w1 ⟨rfl, b1⟩
  have k1 := cdgo k0 b1
  dsimp only
  refine hK.out _ _ (CC.out _ k1) (fun hHeld => ?_)
  clear hK K
  try simp only [Act.put, List.setIfInBounds_toArray, List.set_cons_zero, List.set_cons_succ]
  refine wpAnyH_ready (rs := [3]) (by kernel_rfl) (by simp) ?_
  refine AllReadyH.cons rfl (fun K hK => ?_) AllReadyH.nil
  go_simp
  with_reducible refine (H1'.out _).mono ?_
  rintro e w2 ⟨rfl, b2⟩
  have k2 := cdgo k1 b2
  exact And.intro rfl (And.intro rfl k2)
set_option maxHeartbeats 2000000 in
theorem cl_AndAt_2 (a : ByteArray) (b : ByteArray) (c : ByteArray) (b0 : Nat) (b1 : Nat) (b2 : Nat) (x0 : Int) (x1 : Int) (w : World) (h0 : w.cell? ⟨b0, 0, none⟩ = some (.string a)) (h1 : w.cell? ⟨b1, 0, none⟩ = some (.string b)) (h2 : w.cell? ⟨b2, 0, none⟩ = some (.string c))
    (H0 : ∀ w, Calls Try.prog 36 #[.string a] w fun e w' => e = .returned (.int .u8 x0) ∧ Below w.heap.size w w')
    (H1 : ∀ w, Calls Try.prog 36 #[.string b] w fun e w' => e = .returned (.int .u8 x1) ∧ Below w.heap.size w w')
    (H2 : ∀ w, Calls Try.prog 36 #[.string c] w fun e w' => e = failed ∧ Below w.heap.size w w') :
    Calls Try.prog 48 #[.pointer (some ⟨b0, 0, none⟩), .pointer (some ⟨b1, 0, none⟩), .pointer (some ⟨b2, 0, none⟩)] w fun e w' => e = failed ∧ Below w.heap.size w w' := by
  have l0 : b0 < w.heap.size := World.block_lt_of_cell? w _ h0
  have l1 : b1 < w.heap.size := World.block_lt_of_cell? w _ h1
  have l2 : b2 < w.heap.size := World.block_lt_of_cell? w _ h2
  have CC : Hid (∀ x, Below w.heap.size w x → (fun w' => w'.cell? ⟨b0, 0, none⟩ = some (.string a) ∧ w'.cell? ⟨b1, 0, none⟩ = some (.string b) ∧ w'.cell? ⟨b2, 0, none⟩ = some (.string c) ∧ True) x) := fun x k => ⟨(k.cell (p := ⟨b0, 0, none⟩) l0).trans h0, (k.cell (p := ⟨b1, 0, none⟩) l1).trans h1, (k.cell (p := ⟨b2, 0, none⟩) l2).trans h2, trivial⟩
  have k0 := (Below.refl w.heap.size w).drew
  have H0' := Lib.hid H0
  have H1' := Lib.hid H1
  have H2' := Lib.hid H2
  clear H0 H1 H2
  go_enter Try.func48, Try.ntmps48
  go_wp2_with fail
  refine wp_region_held_drew (S := fun w' => w'.cell? ⟨b0, 0, none⟩ = some (.string a) ∧ w'.cell? ⟨b1, 0, none⟩ = some (.string b) ∧ w'.cell? ⟨b2, 0, none⟩ = some (.string c) ∧ True) (by kernel_rfl) (CC.out _ k0) (fun hHeld => ?_)
  try simp only [Act.put, List.setIfInBounds_toArray, List.set_cons_zero, List.set_cons_succ]
  refine wpAnyH_take (i := 0) (oi := ⟨some 4, _, _, _, _, _⟩) (v := ?_) rfl (by kernel_rfl) (by kernel_rfl) (by kernel_rfl) (fun _ _ _ h => h) (Or.inl ⟨by rfl, ?_⟩) (by assumption) ?_
  rotate_left
  · intro w hSw
    (try dsimp only at hSw)
    (try obtain ⟨q0, q1, q2, q3⟩ := hSw)
    (try obtain ⟨q0, q1, q2⟩ := hSw)
    (try obtain ⟨q0, q1⟩ := hSw)
    go_simp
    with_reducible rfl
  try simp only [Act.put, List.setIfInBounds_toArray, List.set_cons_zero, List.set_cons_succ]
  refine wpAnyH_take (i := 2) (oi := ⟨some 6, _, _, _, _, _⟩) (v := ?_) rfl (by kernel_rfl) (by kernel_rfl) (by kernel_rfl) (fun _ _ _ h => h) (Or.inl ⟨by rfl, ?_⟩) (by assumption) ?_
  rotate_left
  · intro w hSw
    (try dsimp only at hSw)
    (try obtain ⟨q0, q1, q2, q3⟩ := hSw)
    (try obtain ⟨q0, q1, q2⟩ := hSw)
    (try obtain ⟨q0, q1⟩ := hSw)
    go_simp
    with_reducible rfl
  try simp only [Act.put, List.setIfInBounds_toArray, List.set_cons_zero, List.set_cons_succ]
  refine wpAnyH_take (i := 4) (oi := ⟨some 8, _, _, _, _, _⟩) (v := ?_) rfl (by kernel_rfl) (by kernel_rfl) (by kernel_rfl) (fun _ _ _ h => h) (Or.inl ⟨by rfl, ?_⟩) (by assumption) ?_
  rotate_left
  · intro w hSw
    (try dsimp only at hSw)
    (try obtain ⟨q0, q1, q2, q3⟩ := hSw)
    (try obtain ⟨q0, q1, q2⟩ := hSw)
    (try obtain ⟨q0, q1⟩ := hSw)
    go_simp
    with_reducible rfl
  try simp only [Act.put, List.setIfInBounds_toArray, List.set_cons_zero, List.set_cons_succ]
  refine wpAnyH_ready (rs := [1]) (by kernel_rfl) (by simp) ?_
  refine AllReadyH.cons rfl (fun K hK => ?_) AllReadyH.nil
  go_simp
  with_reducible refine (H0'.out _).mono ?_
  rintro e w1 ⟨rfl, b1⟩
  have k1 := cdgo k0 b1
  dsimp only
  refine hK.out _ _ (CC.out _ k1) (fun hHeld => ?_)
  clear hK K
  try simp only [Act.put, List.setIfInBounds_toArray, List.set_cons_zero, List.set_cons_succ]
  refine wpAnyH_ready (rs := [3]) (by kernel_rfl) (by simp) ?_
  refine AllReadyH.cons rfl (fun K hK => ?_) AllReadyH.nil
  go_simp
  with_reducible refine (H1'.out _).mono ?_
  rintro e w2 ⟨rfl, b2⟩
  have k2 := cdgo k1 b2
  dsimp only
  refine hK.out _ _ (CC.out _ k2) (fun hHeld => ?_)
  clear hK K
  try simp only [Act.put, List.setIfInBounds_toArray, List.set_cons_zero, List.set_cons_succ]
  refine wpAnyH_ready (rs := [5]) (by kernel_rfl) (by simp) ?_
  refine AllReadyH.cons rfl (fun K hK => ?_) AllReadyH.nil
  go_simp
  with_reducible refine (H2'.out _).mono ?_
  rintro e w3 ⟨rfl, b3⟩
  have k3 := cdgo k2 b3
  exact And.intro rfl (And.intro rfl k3)
set_option maxHeartbeats 2000000 in
theorem cl_CellAt_yes (a : ByteArray) (b : ByteArray) (b0 : Nat) (b1 : Nat) (x0 : Int) (x1 : Int) (T : TypeId) (V : Value) (w : World) (h0 : w.cell? ⟨b0, 0, none⟩ = some (.string a)) (h1 : w.cell? ⟨b1, 0, none⟩ = some (.string b))
    (H0 : ∀ w, Calls Try.prog 36 #[.string a] w fun e w' => e = .returned (.int .u8 x0) ∧ Below w.heap.size w w')
    (H1 : ∀ w, Calls Try.prog 36 #[.string b] w fun e w' => e = .returned (.int .u8 x1) ∧ Below w.heap.size w w')
    (HF : ∀ w, Calls Try.prog 53 #[(.int .u8 x0), (.int .u8 x1)] w fun e w' => e = .returned (.iface T V) ∧ Below w.heap.size w w') :
    Calls Try.prog 54 #[.pointer (some ⟨b0, 0, none⟩), .pointer (some ⟨b1, 0, none⟩)] w fun e w' => e = .returned (.iface T V) ∧ Below w.heap.size w w' := by
  have l0 : b0 < w.heap.size := World.block_lt_of_cell? w _ h0
  have l1 : b1 < w.heap.size := World.block_lt_of_cell? w _ h1
  have CC : Hid (∀ x, Below w.heap.size w x → (fun w' => w'.cell? ⟨b0, 0, none⟩ = some (.string a) ∧ w'.cell? ⟨b1, 0, none⟩ = some (.string b) ∧ True) x) := fun x k => ⟨(k.cell (p := ⟨b0, 0, none⟩) l0).trans h0, (k.cell (p := ⟨b1, 0, none⟩) l1).trans h1, trivial⟩
  have k0 := (Below.refl w.heap.size w).drew
  have H0' := Lib.hid H0
  have H1' := Lib.hid H1
  have HF' := Lib.hid HF
  clear H0 H1 HF
  go_enter Try.func54, Try.ntmps54
  go_wp2_with fail
  refine wp_region_held_drew (S := fun w' => w'.cell? ⟨b0, 0, none⟩ = some (.string a) ∧ w'.cell? ⟨b1, 0, none⟩ = some (.string b) ∧ True) (by kernel_rfl) (CC.out _ k0) (fun hHeld => ?_)
  try simp only [Act.put, List.setIfInBounds_toArray, List.set_cons_zero, List.set_cons_succ]
  refine wpAnyH_take (i := 0) (oi := ⟨some 3, _, _, _, _, _⟩) (v := ?_) rfl (by kernel_rfl) (by kernel_rfl) (by kernel_rfl) (fun _ _ _ h => h) (Or.inl ⟨by rfl, ?_⟩) (by assumption) ?_
  rotate_left
  · intro w hSw
    (try dsimp only at hSw)
    (try obtain ⟨q0, q1, q2, q3⟩ := hSw)
    (try obtain ⟨q0, q1, q2⟩ := hSw)
    (try obtain ⟨q0, q1⟩ := hSw)
    go_simp
    with_reducible rfl
  try simp only [Act.put, List.setIfInBounds_toArray, List.set_cons_zero, List.set_cons_succ]
  refine wpAnyH_take (i := 2) (oi := ⟨some 5, _, _, _, _, _⟩) (v := ?_) rfl (by kernel_rfl) (by kernel_rfl) (by kernel_rfl) (fun _ _ _ h => h) (Or.inl ⟨by rfl, ?_⟩) (by assumption) ?_
  rotate_left
  · intro w hSw
    (try dsimp only at hSw)
    (try obtain ⟨q0, q1, q2, q3⟩ := hSw)
    (try obtain ⟨q0, q1, q2⟩ := hSw)
    (try obtain ⟨q0, q1⟩ := hSw)
    go_simp
    with_reducible rfl
  try simp only [Act.put, List.setIfInBounds_toArray, List.set_cons_zero, List.set_cons_succ]
  refine wpAnyH_ready (rs := [1]) (by kernel_rfl) (by simp) ?_
  refine AllReadyH.cons rfl (fun K hK => ?_) AllReadyH.nil
  go_simp
  with_reducible refine (H0'.out _).mono ?_
  rintro e w1 ⟨rfl, b1⟩
  have k1 := cdgo k0 b1
  dsimp only
  refine hK.out _ _ (CC.out _ k1) (fun hHeld => ?_)
  clear hK K
  try simp only [Act.put, List.setIfInBounds_toArray, List.set_cons_zero, List.set_cons_succ]
  refine wpAnyH_ready (rs := [3]) (by kernel_rfl) (by simp) ?_
  refine AllReadyH.cons rfl (fun K hK => ?_) AllReadyH.nil
  go_simp
  with_reducible refine (H1'.out _).mono ?_
  rintro e w2 ⟨rfl, b2⟩
  have k2 := cdgo k1 b2
  dsimp only
  refine hK.out _ _ (CC.out _ k2) (fun hHeld => ?_)
  clear hK K
  try simp only [Act.put, List.setIfInBounds_toArray, List.set_cons_zero, List.set_cons_succ]
  refine wpAnyH_ready (rs := [4]) (by kernel_rfl) (by simp) ?_
  refine AllReadyH.cons rfl (fun K hK => ?_) AllReadyH.nil
  go_simp
  with_reducible refine (HF'.out _).mono ?_
  rintro e w3 ⟨rfl, b3⟩
  have k3 := cdgo k2 b3
  dsimp only
  refine hK.out _ _ (CC.out _ k3) (fun hHeld => ?_)
  clear hK K
  try simp only [Act.put, List.setIfInBounds_toArray, List.set_cons_zero, List.set_cons_succ]
  refine wpAnyH_take (i := 5) (oi := ⟨some 2, _, _, _, _, _⟩) (v := ?_) rfl (by kernel_rfl) (by kernel_rfl) (by kernel_rfl) (fun _ _ _ h => h) (Or.inl ⟨by rfl, ?_⟩) (by assumption) ?_
  rotate_left
  · intro w hSw
    (try dsimp only at hSw)
    (try obtain ⟨q0, q1, q2, q3⟩ := hSw)
    (try obtain ⟨q0, q1, q2⟩ := hSw)
    (try obtain ⟨q0, q1⟩ := hSw)
    go_simp
    with_reducible rfl
  try simp only [Act.put, List.setIfInBounds_toArray, List.set_cons_zero, List.set_cons_succ]
  refine wpAnyH_done (by kernel_rfl) ?_ _
  go_wp2_with fail
  go_ret
  exact ⟨rfl, k3⟩
set_option maxHeartbeats 2000000 in
theorem cl_CellAt_0 (a : ByteArray) (b : ByteArray) (b0 : Nat) (b1 : Nat) (w : World) (h0 : w.cell? ⟨b0, 0, none⟩ = some (.string a)) (h1 : w.cell? ⟨b1, 0, none⟩ = some (.string b))
    (H0 : ∀ w, Calls Try.prog 36 #[.string a] w fun e w' => e = failed ∧ Below w.heap.size w w') :
    Calls Try.prog 54 #[.pointer (some ⟨b0, 0, none⟩), .pointer (some ⟨b1, 0, none⟩)] w fun e w' => e = failed ∧ Below w.heap.size w w' := by
  have l0 : b0 < w.heap.size := World.block_lt_of_cell? w _ h0
  have l1 : b1 < w.heap.size := World.block_lt_of_cell? w _ h1
  have CC : Hid (∀ x, Below w.heap.size w x → (fun w' => w'.cell? ⟨b0, 0, none⟩ = some (.string a) ∧ w'.cell? ⟨b1, 0, none⟩ = some (.string b) ∧ True) x) := fun x k => ⟨(k.cell (p := ⟨b0, 0, none⟩) l0).trans h0, (k.cell (p := ⟨b1, 0, none⟩) l1).trans h1, trivial⟩
  have k0 := (Below.refl w.heap.size w).drew
  have H0' := Lib.hid H0
  clear H0
  go_enter Try.func54, Try.ntmps54
  go_wp2_with fail
  refine wp_region_held_drew (S := fun w' => w'.cell? ⟨b0, 0, none⟩ = some (.string a) ∧ w'.cell? ⟨b1, 0, none⟩ = some (.string b) ∧ True) (by kernel_rfl) (CC.out _ k0) (fun hHeld => ?_)
  try simp only [Act.put, List.setIfInBounds_toArray, List.set_cons_zero, List.set_cons_succ]
  refine wpAnyH_take (i := 0) (oi := ⟨some 3, _, _, _, _, _⟩) (v := ?_) rfl (by kernel_rfl) (by kernel_rfl) (by kernel_rfl) (fun _ _ _ h => h) (Or.inl ⟨by rfl, ?_⟩) (by assumption) ?_
  rotate_left
  · intro w hSw
    (try dsimp only at hSw)
    (try obtain ⟨q0, q1, q2, q3⟩ := hSw)
    (try obtain ⟨q0, q1, q2⟩ := hSw)
    (try obtain ⟨q0, q1⟩ := hSw)
    go_simp
    with_reducible rfl
  try simp only [Act.put, List.setIfInBounds_toArray, List.set_cons_zero, List.set_cons_succ]
  refine wpAnyH_take (i := 2) (oi := ⟨some 5, _, _, _, _, _⟩) (v := ?_) rfl (by kernel_rfl) (by kernel_rfl) (by kernel_rfl) (fun _ _ _ h => h) (Or.inl ⟨by rfl, ?_⟩) (by assumption) ?_
  rotate_left
  · intro w hSw
    (try dsimp only at hSw)
    (try obtain ⟨q0, q1, q2, q3⟩ := hSw)
    (try obtain ⟨q0, q1, q2⟩ := hSw)
    (try obtain ⟨q0, q1⟩ := hSw)
    go_simp
    with_reducible rfl
  try simp only [Act.put, List.setIfInBounds_toArray, List.set_cons_zero, List.set_cons_succ]
  refine wpAnyH_ready (rs := [1]) (by kernel_rfl) (by simp) ?_
  refine AllReadyH.cons rfl (fun K hK => ?_) AllReadyH.nil
  go_simp
  with_reducible refine (H0'.out _).mono ?_
  rintro e w1 ⟨rfl, b1⟩
  have k1 := cdgo k0 b1
  exact And.intro rfl (And.intro rfl k1)
set_option maxHeartbeats 2000000 in
theorem cl_CellAt_1 (a : ByteArray) (b : ByteArray) (b0 : Nat) (b1 : Nat) (x0 : Int) (w : World) (h0 : w.cell? ⟨b0, 0, none⟩ = some (.string a)) (h1 : w.cell? ⟨b1, 0, none⟩ = some (.string b))
    (H0 : ∀ w, Calls Try.prog 36 #[.string a] w fun e w' => e = .returned (.int .u8 x0) ∧ Below w.heap.size w w')
    (H1 : ∀ w, Calls Try.prog 36 #[.string b] w fun e w' => e = failed ∧ Below w.heap.size w w') :
    Calls Try.prog 54 #[.pointer (some ⟨b0, 0, none⟩), .pointer (some ⟨b1, 0, none⟩)] w fun e w' => e = failed ∧ Below w.heap.size w w' := by
  have l0 : b0 < w.heap.size := World.block_lt_of_cell? w _ h0
  have l1 : b1 < w.heap.size := World.block_lt_of_cell? w _ h1
  have CC : Hid (∀ x, Below w.heap.size w x → (fun w' => w'.cell? ⟨b0, 0, none⟩ = some (.string a) ∧ w'.cell? ⟨b1, 0, none⟩ = some (.string b) ∧ True) x) := fun x k => ⟨(k.cell (p := ⟨b0, 0, none⟩) l0).trans h0, (k.cell (p := ⟨b1, 0, none⟩) l1).trans h1, trivial⟩
  have k0 := (Below.refl w.heap.size w).drew
  have H0' := Lib.hid H0
  have H1' := Lib.hid H1
  clear H0 H1
  go_enter Try.func54, Try.ntmps54
  go_wp2_with fail
  refine wp_region_held_drew (S := fun w' => w'.cell? ⟨b0, 0, none⟩ = some (.string a) ∧ w'.cell? ⟨b1, 0, none⟩ = some (.string b) ∧ True) (by kernel_rfl) (CC.out _ k0) (fun hHeld => ?_)
  try simp only [Act.put, List.setIfInBounds_toArray, List.set_cons_zero, List.set_cons_succ]
  refine wpAnyH_take (i := 0) (oi := ⟨some 3, _, _, _, _, _⟩) (v := ?_) rfl (by kernel_rfl) (by kernel_rfl) (by kernel_rfl) (fun _ _ _ h => h) (Or.inl ⟨by rfl, ?_⟩) (by assumption) ?_
  rotate_left
  · intro w hSw
    (try dsimp only at hSw)
    (try obtain ⟨q0, q1, q2, q3⟩ := hSw)
    (try obtain ⟨q0, q1, q2⟩ := hSw)
    (try obtain ⟨q0, q1⟩ := hSw)
    go_simp
    with_reducible rfl
  try simp only [Act.put, List.setIfInBounds_toArray, List.set_cons_zero, List.set_cons_succ]
  refine wpAnyH_take (i := 2) (oi := ⟨some 5, _, _, _, _, _⟩) (v := ?_) rfl (by kernel_rfl) (by kernel_rfl) (by kernel_rfl) (fun _ _ _ h => h) (Or.inl ⟨by rfl, ?_⟩) (by assumption) ?_
  rotate_left
  · intro w hSw
    (try dsimp only at hSw)
    (try obtain ⟨q0, q1, q2, q3⟩ := hSw)
    (try obtain ⟨q0, q1, q2⟩ := hSw)
    (try obtain ⟨q0, q1⟩ := hSw)
    go_simp
    with_reducible rfl
  try simp only [Act.put, List.setIfInBounds_toArray, List.set_cons_zero, List.set_cons_succ]
  refine wpAnyH_ready (rs := [1]) (by kernel_rfl) (by simp) ?_
  refine AllReadyH.cons rfl (fun K hK => ?_) AllReadyH.nil
  go_simp
  with_reducible refine (H0'.out _).mono ?_
  rintro e w1 ⟨rfl, b1⟩
  have k1 := cdgo k0 b1
  dsimp only
  refine hK.out _ _ (CC.out _ k1) (fun hHeld => ?_)
  clear hK K
  try simp only [Act.put, List.setIfInBounds_toArray, List.set_cons_zero, List.set_cons_succ]
  refine wpAnyH_ready (rs := [3]) (by kernel_rfl) (by simp) ?_
  refine AllReadyH.cons rfl (fun K hK => ?_) AllReadyH.nil
  go_simp
  with_reducible refine (H1'.out _).mono ?_
  rintro e w2 ⟨rfl, b2⟩
  have k2 := cdgo k1 b2
  exact And.intro rfl (And.intro rfl k2)
set_option maxHeartbeats 2000000 in
theorem cl_ChoiceOf_yes (p : ByteArray) (q : ByteArray) (b0 : Nat) (b1 : Nat) (T0 : TypeId) (V0 : Value) (T1 : TypeId) (V1 : Value) (T : TypeId) (V : Value) (w : World) (h0 : w.cell? ⟨b0, 0, none⟩ = some (.string p)) (h1 : w.cell? ⟨b1, 0, none⟩ = some (.string q))
    (H0 : ∀ w, Calls Try.prog 41 #[.string p] w fun e w' => e = .returned (.iface T0 V0) ∧ Below w.heap.size w w')
    (H1 : ∀ w, Calls Try.prog 41 #[.string q] w fun e w' => e = .returned (.iface T1 V1) ∧ Below w.heap.size w w')
    (HF : ∀ w, Calls Try.prog 63 #[(.iface T0 V0), (.iface T1 V1)] w fun e w' => e = .returned (.iface T V) ∧ Below w.heap.size w w') :
    Calls Try.prog 62 #[.pointer (some ⟨b0, 0, none⟩), .pointer (some ⟨b1, 0, none⟩)] w fun e w' => e = .returned (.iface T V) ∧ Below w.heap.size w w' := by
  have l0 : b0 < w.heap.size := World.block_lt_of_cell? w _ h0
  have l1 : b1 < w.heap.size := World.block_lt_of_cell? w _ h1
  have CC : Hid (∀ x, Below w.heap.size w x → (fun w' => w'.cell? ⟨b0, 0, none⟩ = some (.string p) ∧ w'.cell? ⟨b1, 0, none⟩ = some (.string q) ∧ True) x) := fun x k => ⟨(k.cell (p := ⟨b0, 0, none⟩) l0).trans h0, (k.cell (p := ⟨b1, 0, none⟩) l1).trans h1, trivial⟩
  have k0 := (Below.refl w.heap.size w).drew
  have H0' := Lib.hid H0
  have H1' := Lib.hid H1
  have HF' := Lib.hid HF
  clear H0 H1 HF
  go_enter Try.func62, Try.ntmps62
  go_wp2_with fail
  refine wp_region_held_drew (S := fun w' => w'.cell? ⟨b0, 0, none⟩ = some (.string p) ∧ w'.cell? ⟨b1, 0, none⟩ = some (.string q) ∧ True) (by kernel_rfl) (CC.out _ k0) (fun hHeld => ?_)
  try simp only [Act.put, List.setIfInBounds_toArray, List.set_cons_zero, List.set_cons_succ]
  refine wpAnyH_take (i := 0) (oi := ⟨some 3, _, _, _, _, _⟩) (v := ?_) rfl (by kernel_rfl) (by kernel_rfl) (by kernel_rfl) (fun _ _ _ h => h) (Or.inl ⟨by rfl, ?_⟩) (by assumption) ?_
  rotate_left
  · intro w hSw
    (try dsimp only at hSw)
    (try obtain ⟨q0, q1, q2, q3⟩ := hSw)
    (try obtain ⟨q0, q1, q2⟩ := hSw)
    (try obtain ⟨q0, q1⟩ := hSw)
    go_simp
    with_reducible rfl
  try simp only [Act.put, List.setIfInBounds_toArray, List.set_cons_zero, List.set_cons_succ]
  refine wpAnyH_take (i := 2) (oi := ⟨some 5, _, _, _, _, _⟩) (v := ?_) rfl (by kernel_rfl) (by kernel_rfl) (by kernel_rfl) (fun _ _ _ h => h) (Or.inl ⟨by rfl, ?_⟩) (by assumption) ?_
  rotate_left
  · intro w hSw
    (try dsimp only at hSw)
    (try obtain ⟨q0, q1, q2, q3⟩ := hSw)
    (try obtain ⟨q0, q1, q2⟩ := hSw)
    (try obtain ⟨q0, q1⟩ := hSw)
    go_simp
    with_reducible rfl
  try simp only [Act.put, List.setIfInBounds_toArray, List.set_cons_zero, List.set_cons_succ]
  refine wpAnyH_ready (rs := [1]) (by kernel_rfl) (by simp) ?_
  refine AllReadyH.cons rfl (fun K hK => ?_) AllReadyH.nil
  go_simp
  with_reducible refine (H0'.out _).mono ?_
  rintro e w1 ⟨rfl, b1⟩
  have k1 := cdgo k0 b1
  dsimp only
  refine hK.out _ _ (CC.out _ k1) (fun hHeld => ?_)
  clear hK K
  try simp only [Act.put, List.setIfInBounds_toArray, List.set_cons_zero, List.set_cons_succ]
  refine wpAnyH_ready (rs := [3]) (by kernel_rfl) (by simp) ?_
  refine AllReadyH.cons rfl (fun K hK => ?_) AllReadyH.nil
  go_simp
  with_reducible refine (H1'.out _).mono ?_
  rintro e w2 ⟨rfl, b2⟩
  have k2 := cdgo k1 b2
  dsimp only
  refine hK.out _ _ (CC.out _ k2) (fun hHeld => ?_)
  clear hK K
  try simp only [Act.put, List.setIfInBounds_toArray, List.set_cons_zero, List.set_cons_succ]
  refine wpAnyH_ready (rs := [4]) (by kernel_rfl) (by simp) ?_
  refine AllReadyH.cons rfl (fun K hK => ?_) AllReadyH.nil
  go_simp
  with_reducible refine (HF'.out _).mono ?_
  rintro e w3 ⟨rfl, b3⟩
  have k3 := cdgo k2 b3
  dsimp only
  refine hK.out _ _ (CC.out _ k3) (fun hHeld => ?_)
  clear hK K
  try simp only [Act.put, List.setIfInBounds_toArray, List.set_cons_zero, List.set_cons_succ]
  refine wpAnyH_take (i := 5) (oi := ⟨some 2, _, _, _, _, _⟩) (v := ?_) rfl (by kernel_rfl) (by kernel_rfl) (by kernel_rfl) (fun _ _ _ h => h) (Or.inl ⟨by rfl, ?_⟩) (by assumption) ?_
  rotate_left
  · intro w hSw
    (try dsimp only at hSw)
    (try obtain ⟨q0, q1, q2, q3⟩ := hSw)
    (try obtain ⟨q0, q1, q2⟩ := hSw)
    (try obtain ⟨q0, q1⟩ := hSw)
    go_simp
    with_reducible rfl
  try simp only [Act.put, List.setIfInBounds_toArray, List.set_cons_zero, List.set_cons_succ]
  refine wpAnyH_done (by kernel_rfl) ?_ _
  go_wp2_with fail
  go_ret
  exact ⟨rfl, k3⟩
set_option maxHeartbeats 2000000 in
theorem cl_ChoiceOf_0 (p : ByteArray) (q : ByteArray) (b0 : Nat) (b1 : Nat) (w : World) (h0 : w.cell? ⟨b0, 0, none⟩ = some (.string p)) (h1 : w.cell? ⟨b1, 0, none⟩ = some (.string q))
    (H0 : ∀ w, Calls Try.prog 41 #[.string p] w fun e w' => e = failed ∧ Below w.heap.size w w') :
    Calls Try.prog 62 #[.pointer (some ⟨b0, 0, none⟩), .pointer (some ⟨b1, 0, none⟩)] w fun e w' => e = failed ∧ Below w.heap.size w w' := by
  have l0 : b0 < w.heap.size := World.block_lt_of_cell? w _ h0
  have l1 : b1 < w.heap.size := World.block_lt_of_cell? w _ h1
  have CC : Hid (∀ x, Below w.heap.size w x → (fun w' => w'.cell? ⟨b0, 0, none⟩ = some (.string p) ∧ w'.cell? ⟨b1, 0, none⟩ = some (.string q) ∧ True) x) := fun x k => ⟨(k.cell (p := ⟨b0, 0, none⟩) l0).trans h0, (k.cell (p := ⟨b1, 0, none⟩) l1).trans h1, trivial⟩
  have k0 := (Below.refl w.heap.size w).drew
  have H0' := Lib.hid H0
  clear H0
  go_enter Try.func62, Try.ntmps62
  go_wp2_with fail
  refine wp_region_held_drew (S := fun w' => w'.cell? ⟨b0, 0, none⟩ = some (.string p) ∧ w'.cell? ⟨b1, 0, none⟩ = some (.string q) ∧ True) (by kernel_rfl) (CC.out _ k0) (fun hHeld => ?_)
  try simp only [Act.put, List.setIfInBounds_toArray, List.set_cons_zero, List.set_cons_succ]
  refine wpAnyH_take (i := 0) (oi := ⟨some 3, _, _, _, _, _⟩) (v := ?_) rfl (by kernel_rfl) (by kernel_rfl) (by kernel_rfl) (fun _ _ _ h => h) (Or.inl ⟨by rfl, ?_⟩) (by assumption) ?_
  rotate_left
  · intro w hSw
    (try dsimp only at hSw)
    (try obtain ⟨q0, q1, q2, q3⟩ := hSw)
    (try obtain ⟨q0, q1, q2⟩ := hSw)
    (try obtain ⟨q0, q1⟩ := hSw)
    go_simp
    with_reducible rfl
  try simp only [Act.put, List.setIfInBounds_toArray, List.set_cons_zero, List.set_cons_succ]
  refine wpAnyH_take (i := 2) (oi := ⟨some 5, _, _, _, _, _⟩) (v := ?_) rfl (by kernel_rfl) (by kernel_rfl) (by kernel_rfl) (fun _ _ _ h => h) (Or.inl ⟨by rfl, ?_⟩) (by assumption) ?_
  rotate_left
  · intro w hSw
    (try dsimp only at hSw)
    (try obtain ⟨q0, q1, q2, q3⟩ := hSw)
    (try obtain ⟨q0, q1, q2⟩ := hSw)
    (try obtain ⟨q0, q1⟩ := hSw)
    go_simp
    with_reducible rfl
  try simp only [Act.put, List.setIfInBounds_toArray, List.set_cons_zero, List.set_cons_succ]
  refine wpAnyH_ready (rs := [1]) (by kernel_rfl) (by simp) ?_
  refine AllReadyH.cons rfl (fun K hK => ?_) AllReadyH.nil
  go_simp
  with_reducible refine (H0'.out _).mono ?_
  rintro e w1 ⟨rfl, b1⟩
  have k1 := cdgo k0 b1
  exact And.intro rfl (And.intro rfl k1)
set_option maxHeartbeats 2000000 in
theorem cl_ChoiceOf_1 (p : ByteArray) (q : ByteArray) (b0 : Nat) (b1 : Nat) (T0 : TypeId) (V0 : Value) (w : World) (h0 : w.cell? ⟨b0, 0, none⟩ = some (.string p)) (h1 : w.cell? ⟨b1, 0, none⟩ = some (.string q))
    (H0 : ∀ w, Calls Try.prog 41 #[.string p] w fun e w' => e = .returned (.iface T0 V0) ∧ Below w.heap.size w w')
    (H1 : ∀ w, Calls Try.prog 41 #[.string q] w fun e w' => e = failed ∧ Below w.heap.size w w') :
    Calls Try.prog 62 #[.pointer (some ⟨b0, 0, none⟩), .pointer (some ⟨b1, 0, none⟩)] w fun e w' => e = failed ∧ Below w.heap.size w w' := by
  have l0 : b0 < w.heap.size := World.block_lt_of_cell? w _ h0
  have l1 : b1 < w.heap.size := World.block_lt_of_cell? w _ h1
  have CC : Hid (∀ x, Below w.heap.size w x → (fun w' => w'.cell? ⟨b0, 0, none⟩ = some (.string p) ∧ w'.cell? ⟨b1, 0, none⟩ = some (.string q) ∧ True) x) := fun x k => ⟨(k.cell (p := ⟨b0, 0, none⟩) l0).trans h0, (k.cell (p := ⟨b1, 0, none⟩) l1).trans h1, trivial⟩
  have k0 := (Below.refl w.heap.size w).drew
  have H0' := Lib.hid H0
  have H1' := Lib.hid H1
  clear H0 H1
  go_enter Try.func62, Try.ntmps62
  go_wp2_with fail
  refine wp_region_held_drew (S := fun w' => w'.cell? ⟨b0, 0, none⟩ = some (.string p) ∧ w'.cell? ⟨b1, 0, none⟩ = some (.string q) ∧ True) (by kernel_rfl) (CC.out _ k0) (fun hHeld => ?_)
  try simp only [Act.put, List.setIfInBounds_toArray, List.set_cons_zero, List.set_cons_succ]
  refine wpAnyH_take (i := 0) (oi := ⟨some 3, _, _, _, _, _⟩) (v := ?_) rfl (by kernel_rfl) (by kernel_rfl) (by kernel_rfl) (fun _ _ _ h => h) (Or.inl ⟨by rfl, ?_⟩) (by assumption) ?_
  rotate_left
  · intro w hSw
    (try dsimp only at hSw)
    (try obtain ⟨q0, q1, q2, q3⟩ := hSw)
    (try obtain ⟨q0, q1, q2⟩ := hSw)
    (try obtain ⟨q0, q1⟩ := hSw)
    go_simp
    with_reducible rfl
  try simp only [Act.put, List.setIfInBounds_toArray, List.set_cons_zero, List.set_cons_succ]
  refine wpAnyH_take (i := 2) (oi := ⟨some 5, _, _, _, _, _⟩) (v := ?_) rfl (by kernel_rfl) (by kernel_rfl) (by kernel_rfl) (fun _ _ _ h => h) (Or.inl ⟨by rfl, ?_⟩) (by assumption) ?_
  rotate_left
  · intro w hSw
    (try dsimp only at hSw)
    (try obtain ⟨q0, q1, q2, q3⟩ := hSw)
    (try obtain ⟨q0, q1, q2⟩ := hSw)
    (try obtain ⟨q0, q1⟩ := hSw)
    go_simp
    with_reducible rfl
  try simp only [Act.put, List.setIfInBounds_toArray, List.set_cons_zero, List.set_cons_succ]
  refine wpAnyH_ready (rs := [1]) (by kernel_rfl) (by simp) ?_
  refine AllReadyH.cons rfl (fun K hK => ?_) AllReadyH.nil
  go_simp
  with_reducible refine (H0'.out _).mono ?_
  rintro e w1 ⟨rfl, b1⟩
  have k1 := cdgo k0 b1
  dsimp only
  refine hK.out _ _ (CC.out _ k1) (fun hHeld => ?_)
  clear hK K
  try simp only [Act.put, List.setIfInBounds_toArray, List.set_cons_zero, List.set_cons_succ]
  refine wpAnyH_ready (rs := [3]) (by kernel_rfl) (by simp) ?_
  refine AllReadyH.cons rfl (fun K hK => ?_) AllReadyH.nil
  go_simp
  with_reducible refine (H1'.out _).mono ?_
  rintro e w2 ⟨rfl, b2⟩
  have k2 := cdgo k1 b2
  exact And.intro rfl (And.intro rfl k2)
set_option maxHeartbeats 2000000 in
theorem cl_ChoiceOf_nofin (p : ByteArray) (q : ByteArray) (b0 : Nat) (b1 : Nat) (T0 : TypeId) (V0 : Value) (T1 : TypeId) (V1 : Value) (w : World) (h0 : w.cell? ⟨b0, 0, none⟩ = some (.string p)) (h1 : w.cell? ⟨b1, 0, none⟩ = some (.string q))
    (H0 : ∀ w, Calls Try.prog 41 #[.string p] w fun e w' => e = .returned (.iface T0 V0) ∧ Below w.heap.size w w')
    (H1 : ∀ w, Calls Try.prog 41 #[.string q] w fun e w' => e = .returned (.iface T1 V1) ∧ Below w.heap.size w w')
    (HF : ∀ w, Calls Try.prog 63 #[(.iface T0 V0), (.iface T1 V1)] w fun e w' => e = failed ∧ Below w.heap.size w w') :
    Calls Try.prog 62 #[.pointer (some ⟨b0, 0, none⟩), .pointer (some ⟨b1, 0, none⟩)] w fun e w' => e = failed ∧ Below w.heap.size w w' := by
  have l0 : b0 < w.heap.size := World.block_lt_of_cell? w _ h0
  have l1 : b1 < w.heap.size := World.block_lt_of_cell? w _ h1
  have CC : Hid (∀ x, Below w.heap.size w x → (fun w' => w'.cell? ⟨b0, 0, none⟩ = some (.string p) ∧ w'.cell? ⟨b1, 0, none⟩ = some (.string q) ∧ True) x) := fun x k => ⟨(k.cell (p := ⟨b0, 0, none⟩) l0).trans h0, (k.cell (p := ⟨b1, 0, none⟩) l1).trans h1, trivial⟩
  have k0 := (Below.refl w.heap.size w).drew
  have H0' := Lib.hid H0
  have H1' := Lib.hid H1
  have HF' := Lib.hid HF
  clear H0 H1 HF
  go_enter Try.func62, Try.ntmps62
  go_wp2_with fail
  refine wp_region_held_drew (S := fun w' => w'.cell? ⟨b0, 0, none⟩ = some (.string p) ∧ w'.cell? ⟨b1, 0, none⟩ = some (.string q) ∧ True) (by kernel_rfl) (CC.out _ k0) (fun hHeld => ?_)
  try simp only [Act.put, List.setIfInBounds_toArray, List.set_cons_zero, List.set_cons_succ]
  refine wpAnyH_take (i := 0) (oi := ⟨some 3, _, _, _, _, _⟩) (v := ?_) rfl (by kernel_rfl) (by kernel_rfl) (by kernel_rfl) (fun _ _ _ h => h) (Or.inl ⟨by rfl, ?_⟩) (by assumption) ?_
  rotate_left
  · intro w hSw
    (try dsimp only at hSw)
    (try obtain ⟨q0, q1, q2, q3⟩ := hSw)
    (try obtain ⟨q0, q1, q2⟩ := hSw)
    (try obtain ⟨q0, q1⟩ := hSw)
    go_simp
    with_reducible rfl
  try simp only [Act.put, List.setIfInBounds_toArray, List.set_cons_zero, List.set_cons_succ]
  refine wpAnyH_take (i := 2) (oi := ⟨some 5, _, _, _, _, _⟩) (v := ?_) rfl (by kernel_rfl) (by kernel_rfl) (by kernel_rfl) (fun _ _ _ h => h) (Or.inl ⟨by rfl, ?_⟩) (by assumption) ?_
  rotate_left
  · intro w hSw
    (try dsimp only at hSw)
    (try obtain ⟨q0, q1, q2, q3⟩ := hSw)
    (try obtain ⟨q0, q1, q2⟩ := hSw)
    (try obtain ⟨q0, q1⟩ := hSw)
    go_simp
    with_reducible rfl
  try simp only [Act.put, List.setIfInBounds_toArray, List.set_cons_zero, List.set_cons_succ]
  refine wpAnyH_ready (rs := [1]) (by kernel_rfl) (by simp) ?_
  refine AllReadyH.cons rfl (fun K hK => ?_) AllReadyH.nil
  go_simp
  with_reducible refine (H0'.out _).mono ?_
  rintro e w1 ⟨rfl, b1⟩
  have k1 := cdgo k0 b1
  dsimp only
  refine hK.out _ _ (CC.out _ k1) (fun hHeld => ?_)
  clear hK K
  try simp only [Act.put, List.setIfInBounds_toArray, List.set_cons_zero, List.set_cons_succ]
  refine wpAnyH_ready (rs := [3]) (by kernel_rfl) (by simp) ?_
  refine AllReadyH.cons rfl (fun K hK => ?_) AllReadyH.nil
  go_simp
  with_reducible refine (H1'.out _).mono ?_
  rintro e w2 ⟨rfl, b2⟩
  have k2 := cdgo k1 b2
  dsimp only
  refine hK.out _ _ (CC.out _ k2) (fun hHeld => ?_)
  clear hK K
  try simp only [Act.put, List.setIfInBounds_toArray, List.set_cons_zero, List.set_cons_succ]
  refine wpAnyH_ready (rs := [4]) (by kernel_rfl) (by simp) ?_
  refine AllReadyH.cons rfl (fun K hK => ?_) AllReadyH.nil
  go_simp
  with_reducible refine (HF'.out _).mono ?_
  rintro e w3 ⟨rfl, b3⟩
  have k3 := cdgo k2 b3
  exact And.intro rfl (And.intro rfl k3)
end Go.Proofs.Ytohaddhjnghcpaa.T1
