/- Texts of the proof, put together: Cw. No conditions. -/
import Derived.Test.YtinkioodkgccjaaDoorHaz
import Derived.Test.YtinkioodkgccjaaDoorHbl
import Derived.Test.YtinkioodkgccjaaDoorHbo
import Derived.Test.YtinkioodkgccjaaDoorHbp
import Derived.Deep.RegionHeld3
import Derived.WalkKit

/- SendTuple and ReceiveTuple, way by way, both sides. MADE BY gen_Cw.py. No conditions. -/
namespace Go.Proofs.YtinkioodkgccjaaDoor.T1
open Go.RowKit
set_option maxRecDepth 100000
set_option linter.unusedVariables false
set_option linter.unusedSimpArgs false

set_option maxHeartbeats 2000000 in
theorem cs_yes (a s p : ByteArray) (b0 b1 b2 : Nat) (x0 : Int) (l : List UInt8) (n : Nat) (hn : n = l.length) (T2 : TypeId) (V2 : Value) (T : TypeId) (V : Value) (w : World) (h0 : w.cell? ⟨b0, 0, none⟩ = some (.string a)) (h1 : w.cell? ⟨b1, 0, none⟩ = some (.string s)) (h2 : w.cell? ⟨b2, 0, none⟩ = some (.string p))
    (H0 : ∀ w, Calls Tryd.prog 17 #[.string a] w fun e w' => e = .returned (.int .u8 x0) ∧ Below w.heap.size w w')
    (H1 : ∀ w1, Below w.heap.size w w1 → Calls Tryd.prog 18 #[.string s] w1 fun e w' => ∃ g cap, e = .returned (.slice (some ⟨g, 0, none⟩) n cap) ∧ BRow w' g l ∧ Below w1.heap.size w1 w')
    (H2 : ∀ w, Calls Tryd.prog 19 #[.string p] w fun e w' => e = .returned (.iface T2 V2) ∧ Below w.heap.size w w')
    (HF : ∀ g cap w1, BRow w1 g l → Calls Tryd.prog 16 #[.int .u8 x0, .slice (some ⟨g, 0, none⟩) n cap, .iface T2 V2] w1 fun e w' => e = .returned (.iface T V) ∧ Below w1.heap.size w1 w') :
    Calls Tryd.prog 15 #[.pointer (some ⟨b0, 0, none⟩), .pointer (some ⟨b1, 0, none⟩), .pointer (some ⟨b2, 0, none⟩)] w fun e w' => e = .returned (.iface T V) ∧ Below w.heap.size w w' := by
  have l0 : b0 < w.heap.size := World.block_lt_of_cell? w _ h0
  have l1 : b1 < w.heap.size := World.block_lt_of_cell? w _ h1
  have l2 : b2 < w.heap.size := World.block_lt_of_cell? w _ h2
  have CC : Hid (∀ x, Below w.heap.size w x → (fun w' => w'.cell? ⟨b0, 0, none⟩ = some (.string a) ∧ w'.cell? ⟨b1, 0, none⟩ = some (.string s) ∧ w'.cell? ⟨b2, 0, none⟩ = some (.string p) ∧ True) x) := fun x k => ⟨(k.cell (p := ⟨b0, 0, none⟩) l0).trans h0, (k.cell (p := ⟨b1, 0, none⟩) l1).trans h1, (k.cell (p := ⟨b2, 0, none⟩) l2).trans h2, trivial⟩
  have H0' := Lib.hid H0
  have H1' := Lib.hid H1
  have H2' := Lib.hid H2
  have HF' := Lib.hid HF
  clear H0 H1 H2 HF
  clear hn
  go_enter Tryd.func15, Tryd.ntmps15
  go_wp2_with fail
  have k0 := (Below.refl w.heap.size w).drew
  refine wp_region_held_drew (S := fun w' => w'.cell? ⟨b0, 0, none⟩ = some (.string a) ∧ w'.cell? ⟨b1, 0, none⟩ = some (.string s) ∧ w'.cell? ⟨b2, 0, none⟩ = some (.string p) ∧ True) (by kernel_rfl) (CC.out _ k0) (fun hHeld => ?_)
  try simp only [Act.put, List.setIfInBounds_toArray, List.set_cons_zero, List.set_cons_succ]
  refine wpAnyH_take (i := 0) (oi := ⟨some 4, _, _, _, _, _⟩) (v := ?_) rfl (by kernel_rfl) (by kernel_rfl) (by kernel_rfl) (fun _ _ _ h => h) (Or.inl ⟨by rfl, ?_⟩) (by assumption) ?_
  rotate_left
  · intro w hSw
    (try dsimp only at hSw)
    (try obtain ⟨q0, q1, q2, q3⟩ := hSw)
    (try obtain ⟨q0, q1, q2⟩ := hSw)
    (try obtain ⟨q0, q1⟩ := hSw)
    go_simp
    with_reducible rfl
  try simp only [Act.put, List.setIfInBounds_toArray, List.set_cons_zero, List.set_cons_succ]
  refine wpAnyH_take (i := 2) (oi := ⟨some 6, _, _, _, _, _⟩) (v := ?_) rfl (by kernel_rfl) (by kernel_rfl) (by kernel_rfl) (fun _ _ _ h => h) (Or.inl ⟨by rfl, ?_⟩) (by assumption) ?_
  rotate_left
  · intro w hSw
    (try dsimp only at hSw)
    (try obtain ⟨q0, q1, q2, q3⟩ := hSw)
    (try obtain ⟨q0, q1, q2⟩ := hSw)
    (try obtain ⟨q0, q1⟩ := hSw)
    go_simp
    with_reducible rfl
  try simp only [Act.put, List.setIfInBounds_toArray, List.set_cons_zero, List.set_cons_succ]
  refine wpAnyH_take (i := 4) (oi := ⟨some 8, _, _, _, _, _⟩) (v := ?_) rfl (by kernel_rfl) (by kernel_rfl) (by kernel_rfl) (fun _ _ _ h => h) (Or.inl ⟨by rfl, ?_⟩) (by assumption) ?_
  rotate_left
  · intro w hSw
    (try dsimp only at hSw)
    (try obtain ⟨q0, q1, q2, q3⟩ := hSw)
    (try obtain ⟨q0, q1, q2⟩ := hSw)
    (try obtain ⟨q0, q1⟩ := hSw)
    go_simp
    with_reducible rfl
  try simp only [Act.put, List.setIfInBounds_toArray, List.set_cons_zero, List.set_cons_succ]
  refine wpAnyH_ready (rs := [1]) (by kernel_rfl) (by simp) ?_
  refine AllReadyH.cons rfl (fun K hK => ?_) AllReadyH.nil
  go_simp
  with_reducible refine (H0'.out _).mono ?_
  rintro e w1 ⟨rfl, b1⟩
  have k1 := cdgo k0 b1
  dsimp only
  refine hK.out _ _ (CC.out _ k1) (fun hHeld => ?_)
  clear hK K
  try simp only [Act.put, List.setIfInBounds_toArray, List.set_cons_zero, List.set_cons_succ]
  refine wpAnyH_ready (rs := [3]) (by kernel_rfl) (by simp) ?_
  refine AllReadyH.cons rfl (fun K hK => ?_) AllReadyH.nil
  go_simp
  with_reducible refine (H1'.out _ k1).mono ?_
  rintro e w2 ⟨g, cap, rfl, hr2, b2⟩
  have k2 := cdgo k1 b2
  have R2 := Lib.hid hr2
  clear hr2
  dsimp only
  refine hK.out _ _ (CC.out _ k2) (fun hHeld => ?_)
  clear hK K
  try simp only [Act.put, List.setIfInBounds_toArray, List.set_cons_zero, List.set_cons_succ]
  refine wpAnyH_ready (rs := [5]) (by kernel_rfl) (by simp) ?_
  refine AllReadyH.cons rfl (fun K hK => ?_) AllReadyH.nil
  go_simp
  with_reducible refine (H2'.out _).mono ?_
  rintro e w3 ⟨rfl, b3⟩
  have k3 := cdgo k2 b3
  have R3 := Lib.hid (R2.out.below b3)
  dsimp only
  refine hK.out _ _ (CC.out _ k3) (fun hHeld => ?_)
  clear hK K
  try simp only [Act.put, List.setIfInBounds_toArray, List.set_cons_zero, List.set_cons_succ]
  refine wpAnyH_ready (rs := [6]) (by kernel_rfl) (by simp) ?_
  refine AllReadyH.cons rfl (fun K hK => ?_) AllReadyH.nil
  go_simp
  with_reducible refine (HF'.out _ _ _ R3.out).mono ?_
  rintro e w4 ⟨rfl, b4⟩
  have k4 := cdgo k3 b4
  dsimp only
  refine hK.out _ _ (CC.out _ k4) (fun hHeld => ?_)
  clear hK K
  try simp only [Act.put, List.setIfInBounds_toArray, List.set_cons_zero, List.set_cons_succ]
  refine wpAnyH_take (i := 7) (oi := ⟨some 3, _, _, _, _, _⟩) (v := ?_) rfl (by kernel_rfl) (by kernel_rfl) (by kernel_rfl) (fun _ _ _ h => h) (Or.inl ⟨by rfl, ?_⟩) (by assumption) ?_
  rotate_left
  · intro w hSw
    (try dsimp only at hSw)
    (try obtain ⟨q0, q1, q2, q3⟩ := hSw)
    (try obtain ⟨q0, q1, q2⟩ := hSw)
    (try obtain ⟨q0, q1⟩ := hSw)
    go_simp
    with_reducible rfl
  try simp only [Act.put, List.setIfInBounds_toArray, List.set_cons_zero, List.set_cons_succ]
  refine wpAnyH_done (by kernel_rfl) ?_ _
  go_wp2_with fail
  go_ret
  exact ⟨rfl, k4⟩
set_option maxHeartbeats 2000000 in
theorem cs_0 (a s p : ByteArray) (b0 b1 b2 : Nat) (x0 : Int) (l : List UInt8) (n : Nat) (hn : n = l.length) (T2 : TypeId) (V2 : Value) (T : TypeId) (V : Value) (w : World) (h0 : w.cell? ⟨b0, 0, none⟩ = some (.string a)) (h1 : w.cell? ⟨b1, 0, none⟩ = some (.string s)) (h2 : w.cell? ⟨b2, 0, none⟩ = some (.string p))
    (H0 : ∀ w, Calls Tryd.prog 17 #[.string a] w fun e w' => e = failed ∧ Below w.heap.size w w') :
    Calls Tryd.prog 15 #[.pointer (some ⟨b0, 0, none⟩), .pointer (some ⟨b1, 0, none⟩), .pointer (some ⟨b2, 0, none⟩)] w fun e w' => e = failed ∧ Below w.heap.size w w' := by
  have l0 : b0 < w.heap.size := World.block_lt_of_cell? w _ h0
  have l1 : b1 < w.heap.size := World.block_lt_of_cell? w _ h1
  have l2 : b2 < w.heap.size := World.block_lt_of_cell? w _ h2
  have CC : Hid (∀ x, Below w.heap.size w x → (fun w' => w'.cell? ⟨b0, 0, none⟩ = some (.string a) ∧ w'.cell? ⟨b1, 0, none⟩ = some (.string s) ∧ w'.cell? ⟨b2, 0, none⟩ = some (.string p) ∧ True) x) := fun x k => ⟨(k.cell (p := ⟨b0, 0, none⟩) l0).trans h0, (k.cell (p := ⟨b1, 0, none⟩) l1).trans h1, (k.cell (p := ⟨b2, 0, none⟩) l2).trans h2, trivial⟩
  have H0' := Lib.hid H0
  clear H0
  clear hn
  go_enter Tryd.func15, Tryd.ntmps15
  go_wp2_with fail
  have k0 := (Below.refl w.heap.size w).drew
  refine wp_region_held_drew (S := fun w' => w'.cell? ⟨b0, 0, none⟩ = some (.string a) ∧ w'.cell? ⟨b1, 0, none⟩ = some (.string s) ∧ w'.cell? ⟨b2, 0, none⟩ = some (.string p) ∧ True) (by kernel_rfl) (CC.out _ k0) (fun hHeld => ?_)
  try simp only [Act.put, List.setIfInBounds_toArray, List.set_cons_zero, List.set_cons_succ]
  refine wpAnyH_take (i := 0) (oi := ⟨some 4, _, _, _, _, _⟩) (v := ?_) rfl (by kernel_rfl) (by kernel_rfl) (by kernel_rfl) (fun _ _ _ h => h) (Or.inl ⟨by rfl, ?_⟩) (by assumption) ?_
  rotate_left
  · intro w hSw
    (try dsimp only at hSw)
    (try obtain ⟨q0, q1, q2, q3⟩ := hSw)
    (try obtain ⟨q0, q1, q2⟩ := hSw)
    (try obtain ⟨q0, q1⟩ := hSw)
    go_simp
    with_reducible rfl
  try simp only [Act.put, List.setIfInBounds_toArray, List.set_cons_zero, List.set_cons_succ]
  refine wpAnyH_take (i := 2) (oi := ⟨some 6, _, _, _, _, _⟩) (v := ?_) rfl (by kernel_rfl) (by kernel_rfl) (by kernel_rfl) (fun _ _ _ h => h) (Or.inl ⟨by rfl, ?_⟩) (by assumption) ?_
  rotate_left
  · intro w hSw
    (try dsimp only at hSw)
    (try obtain ⟨q0, q1, q2, q3⟩ := hSw)
    (try obtain ⟨q0, q1, q2⟩ := hSw)
    (try obtain ⟨q0, q1⟩ := hSw)
    go_simp
    with_reducible rfl
  try simp only [Act.put, List.setIfInBounds_toArray, List.set_cons_zero, List.set_cons_succ]
  refine wpAnyH_take (i := 4) (oi := ⟨some 8, _, _, _, _, _⟩) (v := ?_) rfl (by kernel_rfl) (by kernel_rfl) (by kernel_rfl) (fun _ _ _ h => h) (Or.inl ⟨by rfl, ?_⟩) (by assumption) ?_
  rotate_left
  · intro w hSw
    (try dsimp only at hSw)
    (try obtain ⟨q0, q1, q2, q3⟩ := hSw)
    (try obtain ⟨q0, q1, q2⟩ := hSw)
    (try obtain ⟨q0, q1⟩ := hSw)
    go_simp
    with_reducible rfl
  try simp only [Act.put, List.setIfInBounds_toArray, List.set_cons_zero, List.set_cons_succ]
  refine wpAnyH_ready (rs := [1]) (by kernel_rfl) (by simp) ?_
  refine AllReadyH.cons rfl (fun K hK => ?_) AllReadyH.nil
  go_simp
  with_reducible refine (H0'.out _).mono ?_
  rintro e w1 ⟨rfl, b1⟩
  have k1 := cdgo k0 b1
  exact And.intro rfl (And.intro rfl k1)
set_option maxHeartbeats 2000000 in
theorem cs_1 (a s p : ByteArray) (b0 b1 b2 : Nat) (x0 : Int) (l : List UInt8) (n : Nat) (hn : n = l.length) (T2 : TypeId) (V2 : Value) (T : TypeId) (V : Value) (w : World) (h0 : w.cell? ⟨b0, 0, none⟩ = some (.string a)) (h1 : w.cell? ⟨b1, 0, none⟩ = some (.string s)) (h2 : w.cell? ⟨b2, 0, none⟩ = some (.string p))
    (H0 : ∀ w, Calls Tryd.prog 17 #[.string a] w fun e w' => e = .returned (.int .u8 x0) ∧ Below w.heap.size w w')
    (H1 : ∀ w1, Below w.heap.size w w1 → Calls Tryd.prog 18 #[.string s] w1 fun e w' => e = failed ∧ Below w1.heap.size w1 w') :
    Calls Tryd.prog 15 #[.pointer (some ⟨b0, 0, none⟩), .pointer (some ⟨b1, 0, none⟩), .pointer (some ⟨b2, 0, none⟩)] w fun e w' => e = failed ∧ Below w.heap.size w w' := by
  have l0 : b0 < w.heap.size := World.block_lt_of_cell? w _ h0
  have l1 : b1 < w.heap.size := World.block_lt_of_cell? w _ h1
  have l2 : b2 < w.heap.size := World.block_lt_of_cell? w _ h2
  have CC : Hid (∀ x, Below w.heap.size w x → (fun w' => w'.cell? ⟨b0, 0, none⟩ = some (.string a) ∧ w'.cell? ⟨b1, 0, none⟩ = some (.string s) ∧ w'.cell? ⟨b2, 0, none⟩ = some (.string p) ∧ True) x) := fun x k => ⟨(k.cell (p := ⟨b0, 0, none⟩) l0).trans h0, (k.cell (p := ⟨b1, 0, none⟩) l1).trans h1, (k.cell (p := ⟨b2, 0, none⟩) l2).trans h2, trivial⟩
  have H0' := Lib.hid H0
  have H1' := Lib.hid H1
  clear H0 H1
  clear hn
  go_enter Tryd.func15, Tryd.ntmps15
  go_wp2_with fail
  have k0 := (Below.refl w.heap.size w).drew
  refine wp_region_held_drew (S := fun w' => w'.cell? ⟨b0, 0, none⟩ = some (.string a) ∧ w'.cell? ⟨b1, 0, none⟩ = some (.string s) ∧ w'.cell? ⟨b2, 0, none⟩ = some (.string p) ∧ True) (by kernel_rfl) (CC.out _ k0) (fun hHeld => ?_)
  try simp only [Act.put, List.setIfInBounds_toArray, List.set_cons_zero, List.set_cons_succ]
  refine wpAnyH_take (i := 0) (oi := ⟨some 4, _, _, _, _, _⟩) (v := ?_) rfl (by kernel_rfl) (by kernel_rfl) (by kernel_rfl) (fun _ _ _ h => h) (Or.inl ⟨by rfl, ?_⟩) (by assumption) ?_
  rotate_left
  · intro w hSw
    (try dsimp only at hSw)
    (try obtain ⟨q0, q1, q2, q3⟩ := hSw)
    (try obtain ⟨q0, q1, q2⟩ := hSw)
    (try obtain ⟨q0, q1⟩ := hSw)
    go_simp
    with_reducible rfl
  try simp only [Act.put, List.setIfInBounds_toArray, List.set_cons_zero, List.set_cons_succ]
  refine wpAnyH_take (i := 2) (oi := ⟨some 6, _, _, _, _, _⟩) (v := ?_) rfl (by kernel_rfl) (by kernel_rfl) (by kernel_rfl) (fun _ _ _ h => h) (Or.inl ⟨by rfl, ?_⟩) (by assumption) ?_
  rotate_left
  · intro w hSw
    (try dsimp only at hSw)
    (try obtain ⟨q0, q1, q2, q3⟩ := hSw)
    (try obtain ⟨q0, q1, q2⟩ := hSw)
    (try obtain ⟨q0, q1⟩ := hSw)
    go_simp
    with_reducible rfl
  try simp only [Act.put, List.setIfInBounds_toArray, List.set_cons_zero, List.set_cons_succ]
  refine wpAnyH_take (i := 4) (oi := ⟨some 8, _, _, _, _, _⟩) (v := ?_) rfl (by kernel_rfl) (by kernel_rfl) (by kernel_rfl) (fun _ _ _ h => h) (Or.inl ⟨by rfl, ?_⟩) (by assumption) ?_
  rotate_left
  · intro w hSw
    (try dsimp only at hSw)
    (try obtain ⟨q0, q1, q2, q3⟩ := hSw)
    (try obtain ⟨q0, q1, q2⟩ := hSw)
    (try obtain ⟨q0, q1⟩ := hSw)
    go_simp
    with_reducible rfl
  try simp only [Act.put, List.setIfInBounds_toArray, List.set_cons_zero, List.set_cons_succ]
  refine wpAnyH_ready (rs := [1]) (by kernel_rfl) (by simp) ?_
  refine AllReadyH.cons rfl (fun K hK => ?_) AllReadyH.nil
  go_simp
  with_reducible refine (H0'.out _).mono ?_
  rintro e w1 ⟨rfl, b1⟩
  have k1 := cdgo k0 b1
  dsimp only
  refine hK.out _ _ (CC.out _ k1) (fun hHeld => ?_)
  clear hK K
  try simp only [Act.put, List.setIfInBounds_toArray, List.set_cons_zero, List.set_cons_succ]
  refine wpAnyH_ready (rs := [3]) (by kernel_rfl) (by simp) ?_
  refine AllReadyH.cons rfl (fun K hK => ?_) AllReadyH.nil
  go_simp
  with_reducible refine (H1'.out _ k1).mono ?_
  rintro e w2 ⟨rfl, b2⟩
  have k2 := cdgo k1 b2
  exact And.intro rfl (And.intro rfl k2)
set_option maxHeartbeats 2000000 in
theorem cs_2 (a s p : ByteArray) (b0 b1 b2 : Nat) (x0 : Int) (l : List UInt8) (n : Nat) (hn : n = l.length) (T2 : TypeId) (V2 : Value) (T : TypeId) (V : Value) (w : World) (h0 : w.cell? ⟨b0, 0, none⟩ = some (.string a)) (h1 : w.cell? ⟨b1, 0, none⟩ = some (.string s)) (h2 : w.cell? ⟨b2, 0, none⟩ = some (.string p))
    (H0 : ∀ w, Calls Tryd.prog 17 #[.string a] w fun e w' => e = .returned (.int .u8 x0) ∧ Below w.heap.size w w')
    (H1 : ∀ w1, Below w.heap.size w w1 → Calls Tryd.prog 18 #[.string s] w1 fun e w' => ∃ g cap, e = .returned (.slice (some ⟨g, 0, none⟩) n cap) ∧ BRow w' g l ∧ Below w1.heap.size w1 w')
    (H2 : ∀ w, Calls Tryd.prog 19 #[.string p] w fun e w' => e = failed ∧ Below w.heap.size w w') :
    Calls Tryd.prog 15 #[.pointer (some ⟨b0, 0, none⟩), .pointer (some ⟨b1, 0, none⟩), .pointer (some ⟨b2, 0, none⟩)] w fun e w' => e = failed ∧ Below w.heap.size w w' := by
  have l0 : b0 < w.heap.size := World.block_lt_of_cell? w _ h0
  have l1 : b1 < w.heap.size := World.block_lt_of_cell? w _ h1
  have l2 : b2 < w.heap.size := World.block_lt_of_cell? w _ h2
  have CC : Hid (∀ x, Below w.heap.size w x → (fun w' => w'.cell? ⟨b0, 0, none⟩ = some (.string a) ∧ w'.cell? ⟨b1, 0, none⟩ = some (.string s) ∧ w'.cell? ⟨b2, 0, none⟩ = some (.string p) ∧ True) x) := fun x k => ⟨(k.cell (p := ⟨b0, 0, none⟩) l0).trans h0, (k.cell (p := ⟨b1, 0, none⟩) l1).trans h1, (k.cell (p := ⟨b2, 0, none⟩) l2).trans h2, trivial⟩
  have H0' := Lib.hid H0
  have H1' := Lib.hid H1
  have H2' := Lib.hid H2
  clear H0 H1 H2
  clear hn
  go_enter Tryd.func15, Tryd.ntmps15
  go_wp2_with fail
  have k0 := (Below.refl w.heap.size w).drew
  refine wp_region_held_drew (S := fun w' => w'.cell? ⟨b0, 0, none⟩ = some (.string a) ∧ w'.cell? ⟨b1, 0, none⟩ = some (.string s) ∧ w'.cell? ⟨b2, 0, none⟩ = some (.string p) ∧ True) (by kernel_rfl) (CC.out _ k0) (fun hHeld => ?_)
  try simp only [Act.put, List.setIfInBounds_toArray, List.set_cons_zero, List.set_cons_succ]
  refine wpAnyH_take (i := 0) (oi := ⟨some 4, _, _, _, _, _⟩) (v := ?_) rfl (by kernel_rfl) (by kernel_rfl) (by kernel_rfl) (fun _ _ _ h => h) (Or.inl ⟨by rfl, ?_⟩) (by assumption) ?_
  rotate_left
  · intro w hSw
    (try dsimp only at hSw)
    (try obtain ⟨q0, q1, q2, q3⟩ := hSw)
    (try obtain ⟨q0, q1, q2⟩ := hSw)
    (try obtain ⟨q0, q1⟩ := hSw)
    go_simp
    with_reducible rfl
  try simp only [Act.put, List.setIfInBounds_toArray, List.set_cons_zero, List.set_cons_succ]
  refine wpAnyH_take (i := 2) (oi := ⟨some 6, _, _, _, _, _⟩) (v := ?_) rfl (by kernel_rfl) (by kernel_rfl) (by kernel_rfl) (fun _ _ _ h => h) (Or.inl ⟨by rfl, ?_⟩) (by assumption) ?_
  rotate_left
  · intro w hSw
    (try dsimp only at hSw)
    (try obtain ⟨q0, q1, q2, q3⟩ := hSw)
    (try obtain ⟨q0, q1, q2⟩ := hSw)
    (try obtain ⟨q0, q1⟩ := hSw)
    go_simp
    with_reducible rfl
  try simp only [Act.put, List.setIfInBounds_toArray, List.set_cons_zero, List.set_cons_succ]
  refine wpAnyH_take (i := 4) (oi := ⟨some 8, _, _, _, _, _⟩) (v := ?_) rfl (by kernel_rfl) (by kernel_rfl) (by kernel_rfl) (fun _ _ _ h => h) (Or.inl ⟨by rfl, ?_⟩) (by assumption) ?_
  rotate_left
  · intro w hSw
    (try dsimp only at hSw)
    (try obtain ⟨q0, q1, q2, q3⟩ := hSw)
    (try obtain ⟨q0, q1, q2⟩ := hSw)
    (try obtain ⟨q0, q1⟩ := hSw)
    go_simp
    with_reducible rfl
  try simp only [Act.put, List.setIfInBounds_toArray, List.set_cons_zero, List.set_cons_succ]
  refine wpAnyH_ready (rs := [1]) (by kernel_rfl) (by simp) ?_
  refine AllReadyH.cons rfl (fun K hK => ?_) AllReadyH.nil
  go_simp
  with_reducible refine (H0'.out _).mono ?_
  rintro e w1 ⟨rfl, b1⟩
  have k1 := cdgo k0 b1
  dsimp only
  refine hK.out _ _ (CC.out _ k1) (fun hHeld => ?_)
  clear hK K
  try simp only [Act.put, List.setIfInBounds_toArray, List.set_cons_zero, List.set_cons_succ]
  refine wpAnyH_ready (rs := [3]) (by kernel_rfl) (by simp) ?_
  refine AllReadyH.cons rfl (fun K hK => ?_) AllReadyH.nil
  go_simp
  with_reducible refine (H1'.out _ k1).mono ?_
  rintro e w2 ⟨g, cap, rfl, hr2, b2⟩
  have k2 := cdgo k1 b2
  have R2 := Lib.hid hr2
  clear hr2
  dsimp only
  refine hK.out _ _ (CC.out _ k2) (fun hHeld => ?_)
  clear hK K
  try simp only [Act.put, List.setIfInBounds_toArray, List.set_cons_zero, List.set_cons_succ]
  refine wpAnyH_ready (rs := [5]) (by kernel_rfl) (by simp) ?_
  refine AllReadyH.cons rfl (fun K hK => ?_) AllReadyH.nil
  go_simp
  with_reducible refine (H2'.out _).mono ?_
  rintro e w3 ⟨rfl, b3⟩
  have k3 := cdgo k2 b3
  exact And.intro rfl (And.intro rfl k3)
set_option maxHeartbeats 2000000 in
theorem cs_link (a s p : ByteArray) (b0 b1 b2 : Nat) (x0 : Int) (l : List UInt8) (n : Nat) (hn : n = l.length) (T2 : TypeId) (V2 : Value) (T : TypeId) (V : Value) (w : World) (h0 : w.cell? ⟨b0, 0, none⟩ = some (.string a)) (h1 : w.cell? ⟨b1, 0, none⟩ = some (.string s)) (h2 : w.cell? ⟨b2, 0, none⟩ = some (.string p))
    (H0 : ∀ w, Calls Tryd.prog 17 #[.string a] w fun e w' => e = .returned (.int .u8 x0) ∧ Below w.heap.size w w')
    (H1 : ∀ w1, Below w.heap.size w w1 → Calls Tryd.prog 18 #[.string s] w1 fun e w' => ∃ g cap, e = .returned (.slice (some ⟨g, 0, none⟩) n cap) ∧ BRow w' g l ∧ Below w1.heap.size w1 w')
    (H2 : ∀ w, Calls Tryd.prog 19 #[.string p] w fun e w' => e = .returned (.iface T2 V2) ∧ Below w.heap.size w w')
    (HF : ∀ g cap w1, BRow w1 g l → Calls Tryd.prog 16 #[.int .u8 x0, .slice (some ⟨g, 0, none⟩) n cap, .iface T2 V2] w1 fun e w' => e = failed ∧ Below w1.heap.size w1 w') :
    Calls Tryd.prog 15 #[.pointer (some ⟨b0, 0, none⟩), .pointer (some ⟨b1, 0, none⟩), .pointer (some ⟨b2, 0, none⟩)] w fun e w' => e = failed ∧ Below w.heap.size w w' := by
  have l0 : b0 < w.heap.size := World.block_lt_of_cell? w _ h0
  have l1 : b1 < w.heap.size := World.block_lt_of_cell? w _ h1
  have l2 : b2 < w.heap.size := World.block_lt_of_cell? w _ h2
  have CC : Hid (∀ x, Below w.heap.size w x → (fun w' => w'.cell? ⟨b0, 0, none⟩ = some (.string a) ∧ w'.cell? ⟨b1, 0, none⟩ = some (.string s) ∧ w'.cell? ⟨b2, 0, none⟩ = some (.string p) ∧ True) x) := fun x k => ⟨(k.cell (p := ⟨b0, 0, none⟩) l0).trans h0, (k.cell (p := ⟨b1, 0, none⟩) l1).trans h1, (k.cell (p := ⟨b2, 0, none⟩) l2).trans h2, trivial⟩
  have H0' := Lib.hid H0
  have H1' := Lib.hid H1
  have H2' := Lib.hid H2
  have HF' := Lib.hid HF
  clear H0 H1 H2 HF
  clear hn
  go_enter Tryd.func15, Tryd.ntmps15
  go_wp2_with fail
  have k0 := (Below.refl w.heap.size w).drew
  refine wp_region_held_drew (S := fun w' => w'.cell? ⟨b0, 0, none⟩ = some (.string a) ∧ w'.cell? ⟨b1, 0, none⟩ = some (.string s) ∧ w'.cell? ⟨b2, 0, none⟩ = some (.string p) ∧ True) (by kernel_rfl) (CC.out _ k0) (fun hHeld => ?_)
  try simp only [Act.put, List.setIfInBounds_toArray, List.set_cons_zero, List.set_cons_succ]
  refine wpAnyH_take (i := 0) (oi := ⟨some 4, _, _, _, _, _⟩) (v := ?_) rfl (by kernel_rfl) (by kernel_rfl) (by kernel_rfl) (fun _ _ _ h => h) (Or.inl ⟨by rfl, ?_⟩) (by assumption) ?_
  rotate_left
  · intro w hSw
    (try dsimp only at hSw)
    (try obtain ⟨q0, q1, q2, q3⟩ := hSw)
    (try obtain ⟨q0, q1, q2⟩ := hSw)
    (try obtain ⟨q0, q1⟩ := hSw)
    go_simp
    with_reducible rfl
  try simp only [Act.put, List.setIfInBounds_toArray, List.set_cons_zero, List.set_cons_succ]
  refine wpAnyH_take (i := 2) (oi := ⟨some 6, _, _, _, _, _⟩) (v := ?_) rfl (by kernel_rfl) (by kernel_rfl) (by kernel_rfl) (fun _ _ _ h => h) (Or.inl ⟨by rfl, ?_⟩) (by assumption) ?_
  rotate_left
  · intro w hSw
    (try dsimp only at hSw)
    (try obtain ⟨q0, q1, q2, q3⟩ := hSw)
    (try obtain ⟨q0, q1, q2⟩ := hSw)
    (try obtain ⟨q0, q1⟩ := hSw)
    go_simp
    with_reducible rfl
  try simp only [Act.put, List.setIfInBounds_toArray, List.set_cons_zero, List.set_cons_succ]
  refine wpAnyH_take (i := 4) (oi := ⟨some 8, _, _, _, _, _⟩) (v := ?_) rfl (by kernel_rfl) (by kernel_rfl) (by kernel_rfl) (fun _ _ _ h => h) (Or.inl ⟨by rfl, ?_⟩) (by assumption) ?_
  rotate_left
  · intro w hSw
    (try dsimp only at hSw)
    (try obtain ⟨q0, q1, q2, q3⟩ := hSw)
    (try obtain ⟨q0, q1, q2⟩ := hSw)
    (try obtain ⟨q0, q1⟩ := hSw)
    go_simp
    with_reducible rfl
  try simp only [Act.put, List.setIfInBounds_toArray, List.set_cons_zero, List.set_cons_succ]
  refine wpAnyH_ready (rs := [1]) (by kernel_rfl) (by simp) ?_
  refine AllReadyH.cons rfl (fun K hK => ?_) AllReadyH.nil
  go_simp
  with_reducible refine (H0'.out _).mono ?_
  rintro e w1 ⟨rfl, b1⟩
  have k1 := cdgo k0 b1
  dsimp only
  refine hK.out _ _ (CC.out _ k1) (fun hHeld => ?_)
  clear hK K
  try simp only [Act.put, List.setIfInBounds_toArray, List.set_cons_zero, List.set_cons_succ]
  refine wpAnyH_ready (rs := [3]) (by kernel_rfl) (by simp) ?_
  refine AllReadyH.cons rfl (fun K hK => ?_) AllReadyH.nil
  go_simp
  with_reducible refine (H1'.out _ k1).mono ?_
  rintro e w2 ⟨g, cap, rfl, hr2, b2⟩
  have k2 := cdgo k1 b2
  have R2 := Lib.hid hr2
  clear hr2
  dsimp only
  refine hK.out _ _ (CC.out _ k2) (fun hHeld => ?_)
  clear hK K
  try simp only [Act.put, List.setIfInBounds_toArray, List.set_cons_zero, List.set_cons_succ]
  refine wpAnyH_ready (rs := [5]) (by kernel_rfl) (by simp) ?_
  refine AllReadyH.cons rfl (fun K hK => ?_) AllReadyH.nil
  go_simp
  with_reducible refine (H2'.out _).mono ?_
  rintro e w3 ⟨rfl, b3⟩
  have k3 := cdgo k2 b3
  have R3 := Lib.hid (R2.out.below b3)
  dsimp only
  refine hK.out _ _ (CC.out _ k3) (fun hHeld => ?_)
  clear hK K
  try simp only [Act.put, List.setIfInBounds_toArray, List.set_cons_zero, List.set_cons_succ]
  refine wpAnyH_ready (rs := [6]) (by kernel_rfl) (by simp) ?_
  refine AllReadyH.cons rfl (fun K hK => ?_) AllReadyH.nil
  go_simp
  with_reducible refine (HF'.out _ _ _ R3.out).mono ?_
  rintro e w4 ⟨rfl, b4⟩
  have k4 := cdgo k3 b4
  exact And.intro rfl (And.intro rfl k4)
set_option maxHeartbeats 2000000 in
theorem df_yes (l : List UInt8) (hl : Lets l) (n : Nat) (hn : n = l.length) (hq : ndp [] l = true) (g cap : Nat) (w : World) (hr : BRow w g l) :
    Calls Tryd.prog 23 #[.slice (some ⟨g, 0, none⟩) n cap] w fun e w' => e = .returned (.tuple #[]) ∧ Below w.heap.size w w' := by
  have HS := Lib.hid (setOf_any l hl n hn g cap w hr)
  have HLt := Lib.hid (fun w1 => letters_any (setN (bothL [] l)) (setN_lt32 _ (lets_bothL lets_nil0 hl)) w1)
  rw [lets_setN _ (srt_bothL _ srt_nil) (lets_bothL lets_nil0 hl)] at HLt
  have hnd := ndp_len l [] [] srt_nil (fun x => Iff.rfl)
  have hble := both_len l [] srt_nil
  obtain ⟨m, hm⟩ : ∃ m, m = (bothL [] l).length := ⟨_, rfl⟩
  obtain ⟨X, hX⟩ : ∃ X, X = setN (bothL [] l) := ⟨_, rfl⟩
  rw [← hm] at HLt hnd hble
  rw [← hX] at HS HLt
  rw [← hn] at hnd hble
  simp only [List.length_nil, Nat.zero_add] at hnd hble
  have hmn : m = n := hnd.1 hq
  have hmd : ((m : Int) == (n : Int)) = true := by rw [hmn]; simp
  clear hm hX hnd hble hl hq hn hr
  go_enter Tryd.func23, Tryd.ntmps23
  go_wp2_with fail
  with_reducible refine (HS.out).mono ?_
  rintro e w' ⟨rfl, rfl⟩
  go_wp2_with fail
  with_reducible refine (HLt.out _).mono ?_
  rintro e w2 ⟨v, rfl, ho, b2⟩
  obtain ⟨pv, cv, rfl⟩ := cd_form ho
  clear ho
  go_wp2_with fail
  refine (ensure_yes _).mono ?_
  rintro e w' ⟨rfl, rfl⟩
  go_wp2_with fail
  go_end0
  exact ⟨rfl, b2⟩
set_option maxHeartbeats 2000000 in
theorem df_no (l : List UInt8) (hl : Lets l) (n : Nat) (hn : n = l.length) (hq : ndp [] l = false) (g cap : Nat) (w : World) (hr : BRow w g l) :
    Calls Tryd.prog 23 #[.slice (some ⟨g, 0, none⟩) n cap] w fun e w' => e = failed ∧ Below w.heap.size w w' := by
  have HS := Lib.hid (setOf_any l hl n hn g cap w hr)
  have HLt := Lib.hid (fun w1 => letters_any (setN (bothL [] l)) (setN_lt32 _ (lets_bothL lets_nil0 hl)) w1)
  rw [lets_setN _ (srt_bothL _ srt_nil) (lets_bothL lets_nil0 hl)] at HLt
  have hnd := ndp_len l [] [] srt_nil (fun x => Iff.rfl)
  have hble := both_len l [] srt_nil
  obtain ⟨m, hm⟩ : ∃ m, m = (bothL [] l).length := ⟨_, rfl⟩
  obtain ⟨X, hX⟩ : ∃ X, X = setN (bothL [] l) := ⟨_, rfl⟩
  rw [← hm] at HLt hnd hble
  rw [← hX] at HS HLt
  rw [← hn] at hnd hble
  simp only [List.length_nil, Nat.zero_add] at hnd hble
  have hmn : m ≠ n := fun e => by rw [hnd.2 e] at hq; cases hq
  have hmd : ((m : Int) == (n : Int)) = false := by rw [beq_eq_false_iff_ne]; omega
  clear hm hX hnd hble hl hq hn hr
  go_enter Tryd.func23, Tryd.ntmps23
  go_wp2_with fail
  with_reducible refine (HS.out).mono ?_
  rintro e w' ⟨rfl, rfl⟩
  go_wp2_with fail
  with_reducible refine (HLt.out _).mono ?_
  rintro e w2 ⟨v, rfl, ho, b2⟩
  obtain ⟨pv, cv, rfl⟩ := cd_form ho
  clear ho
  go_wp2_with fail
  refine (ensure_no _).mono ?_
  rintro e w' ⟨rfl, rfl⟩
  exact ⟨rfl, rfl, b2⟩
set_option maxHeartbeats 2000000 in
theorem cr_yes (a s p : ByteArray) (b0 b1 b2 : Nat) (x0 : Int) (l : List UInt8) (n : Nat) (hn : n = l.length) (T2 : TypeId) (V2 : Value) (T : TypeId) (V : Value) (w : World) (h0 : w.cell? ⟨b0, 0, none⟩ = some (.string s)) (h1 : w.cell? ⟨b1, 0, none⟩ = some (.string a)) (h2 : w.cell? ⟨b2, 0, none⟩ = some (.string p))
    (H1 : ∀ w1, Below w.heap.size w w1 → Calls Tryd.prog 18 #[.string s] w1 fun e w' => ∃ g cap, e = .returned (.slice (some ⟨g, 0, none⟩) n cap) ∧ BRow w' g l ∧ Below w1.heap.size w1 w')
    (hl : Lets l) (hq : ndp [] l = true)
    (H0 : ∀ w, Calls Tryd.prog 17 #[.string a] w fun e w' => e = .returned (.int .u8 x0) ∧ Below w.heap.size w w')
    (H2 : ∀ w, Calls Tryd.prog 19 #[.string p] w fun e w' => e = .returned (.iface T2 V2) ∧ Below w.heap.size w w')
    (HF : ∀ g cap w1, BRow w1 g l → Calls Tryd.prog 24 #[.int .u8 x0, .slice (some ⟨g, 0, none⟩) n cap, .iface T2 V2] w1 fun e w' => e = .returned (.iface T V) ∧ Below w1.heap.size w1 w') :
    Calls Tryd.prog 22 #[.pointer (some ⟨b0, 0, none⟩), .pointer (some ⟨b1, 0, none⟩), .pointer (some ⟨b2, 0, none⟩)] w fun e w' => e = .returned (.iface T V) ∧ Below w.heap.size w w' := by
  have l0 : b0 < w.heap.size := World.block_lt_of_cell? w _ h0
  have l1 : b1 < w.heap.size := World.block_lt_of_cell? w _ h1
  have l2 : b2 < w.heap.size := World.block_lt_of_cell? w _ h2
  have CC : Hid (∀ x, Below w.heap.size w x → (fun w' => w'.cell? ⟨b0, 0, none⟩ = some (.string s) ∧ w'.cell? ⟨b1, 0, none⟩ = some (.string a) ∧ w'.cell? ⟨b2, 0, none⟩ = some (.string p) ∧ True) x) := fun x k => ⟨(k.cell (p := ⟨b0, 0, none⟩) l0).trans h0, (k.cell (p := ⟨b1, 0, none⟩) l1).trans h1, (k.cell (p := ⟨b2, 0, none⟩) l2).trans h2, trivial⟩
  have H1' := Lib.hid H1
  have H0' := Lib.hid H0
  have H2' := Lib.hid H2
  have HF' := Lib.hid HF
  clear H1 H0 H2 HF
  have HD := Lib.hid (fun g cap w1 (hr : BRow w1 g l) => df_yes l hl n hn hq g cap w1 hr)
  clear hl hq hn
  go_enter Tryd.func22, Tryd.ntmps22
  go_wp2_with fail
  with_reducible refine (H1'.out _ (Below.refl _ _)).mono ?_
  rintro e w1 ⟨g, cap, rfl, hr1, b1⟩
  have R1 := Lib.hid hr1
  clear hr1
  go_wp2_with fail
  with_reducible refine (HD.out _ _ _ R1.out).mono ?_
  rintro e w2 ⟨rfl, b2⟩
  have k2 := cdgo b1 b2
  have R2 := Lib.hid (R1.out.below b2)
  clear b1 b2 R1
  go_wp2_with fail
  have kd := k2.drew
  have Rd := Lib.hid (R2.out.below (Below.refl _ _).drew)
  refine wp_region_held_drew (S := fun w' => w'.cell? ⟨b0, 0, none⟩ = some (.string s) ∧ w'.cell? ⟨b1, 0, none⟩ = some (.string a) ∧ w'.cell? ⟨b2, 0, none⟩ = some (.string p) ∧ True) (by kernel_rfl) (CC.out _ kd) (fun hHeld => ?_)
  try simp only [Act.put, List.setIfInBounds_toArray, List.set_cons_zero, List.set_cons_succ]
  refine wpAnyH_take (i := 0) (oi := ⟨some 9, _, _, _, _, _⟩) (v := ?_) rfl (by kernel_rfl) (by kernel_rfl) (by kernel_rfl) (fun _ _ _ h => h) (Or.inl ⟨by rfl, ?_⟩) (by assumption) ?_
  rotate_left
  · intro w hSw
    (try dsimp only at hSw)
    (try obtain ⟨q0, q1, q2, q3⟩ := hSw)
    (try obtain ⟨q0, q1, q2⟩ := hSw)
    (try obtain ⟨q0, q1⟩ := hSw)
    go_simp
    with_reducible rfl
  try simp only [Act.put, List.setIfInBounds_toArray, List.set_cons_zero, List.set_cons_succ]
  refine wpAnyH_take (i := 2) (oi := ⟨some 11, _, _, _, _, _⟩) (v := ?_) rfl (by kernel_rfl) (by kernel_rfl) (by kernel_rfl) (fun _ _ _ h => h) (Or.inl ⟨by rfl, ?_⟩) (by assumption) ?_
  rotate_left
  · intro w hSw
    (try dsimp only at hSw)
    (try obtain ⟨q0, q1, q2, q3⟩ := hSw)
    (try obtain ⟨q0, q1, q2⟩ := hSw)
    (try obtain ⟨q0, q1⟩ := hSw)
    go_simp
    with_reducible rfl
  try simp only [Act.put, List.setIfInBounds_toArray, List.set_cons_zero, List.set_cons_succ]
  refine wpAnyH_take (i := 3) (oi := ⟨some 12, _, _, _, _, _⟩) (v := ?_) rfl (by kernel_rfl) (by kernel_rfl) (by kernel_rfl) (fun _ _ _ h => h) (Or.inl ⟨by rfl, ?_⟩) (by assumption) ?_
  rotate_left
  · intro w hSw
    (try dsimp only at hSw)
    (try obtain ⟨q0, q1, q2, q3⟩ := hSw)
    (try obtain ⟨q0, q1, q2⟩ := hSw)
    (try obtain ⟨q0, q1⟩ := hSw)
    go_simp
    with_reducible rfl
  try simp only [Act.put, List.setIfInBounds_toArray, List.set_cons_zero, List.set_cons_succ]
  refine wpAnyH_ready (rs := [1]) (by kernel_rfl) (by simp) ?_
  refine AllReadyH.cons rfl (fun K hK => ?_) AllReadyH.nil
  go_simp
  with_reducible refine (H0'.out _).mono ?_
  rintro e w3 ⟨rfl, b3⟩
  have k3 := cdgo kd b3
  have R3 := Lib.hid (Rd.out.below b3)
  dsimp only
  refine hK.out _ _ (CC.out _ k3) (fun hHeld => ?_)
  clear hK K
  try simp only [Act.put, List.setIfInBounds_toArray, List.set_cons_zero, List.set_cons_succ]
  refine wpAnyH_ready (rs := [4]) (by kernel_rfl) (by simp) ?_
  refine AllReadyH.cons rfl (fun K hK => ?_) AllReadyH.nil
  go_simp
  with_reducible refine (H2'.out _).mono ?_
  rintro e w4 ⟨rfl, b4⟩
  have k4 := cdgo k3 b4
  have R4 := Lib.hid (R3.out.below b4)
  dsimp only
  refine hK.out _ _ (CC.out _ k4) (fun hHeld => ?_)
  clear hK K
  try simp only [Act.put, List.setIfInBounds_toArray, List.set_cons_zero, List.set_cons_succ]
  refine wpAnyH_ready (rs := [5]) (by kernel_rfl) (by simp) ?_
  refine AllReadyH.cons rfl (fun K hK => ?_) AllReadyH.nil
  go_simp
  with_reducible refine (HF'.out _ _ _ R4.out).mono ?_
  rintro e w5 ⟨rfl, b5⟩
  have k5 := cdgo k4 b5
  dsimp only
  refine hK.out _ _ (CC.out _ k5) (fun hHeld => ?_)
  clear hK K
  try simp only [Act.put, List.setIfInBounds_toArray, List.set_cons_zero, List.set_cons_succ]
  refine wpAnyH_take (i := 6) (oi := ⟨some 3, _, _, _, _, _⟩) (v := ?_) rfl (by kernel_rfl) (by kernel_rfl) (by kernel_rfl) (fun _ _ _ h => h) (Or.inl ⟨by rfl, ?_⟩) (by assumption) ?_
  rotate_left
  · intro w hSw
    (try dsimp only at hSw)
    (try obtain ⟨q0, q1, q2, q3⟩ := hSw)
    (try obtain ⟨q0, q1, q2⟩ := hSw)
    (try obtain ⟨q0, q1⟩ := hSw)
    go_simp
    with_reducible rfl
  try simp only [Act.put, List.setIfInBounds_toArray, List.set_cons_zero, List.set_cons_succ]
  refine wpAnyH_done (by kernel_rfl) ?_ _
  go_wp2_with fail
  go_ret
  exact ⟨rfl, k5⟩
set_option maxHeartbeats 2000000 in
theorem cr_tup (a s p : ByteArray) (b0 b1 b2 : Nat) (x0 : Int) (l : List UInt8) (n : Nat) (hn : n = l.length) (T2 : TypeId) (V2 : Value) (T : TypeId) (V : Value) (w : World) (h0 : w.cell? ⟨b0, 0, none⟩ = some (.string s)) (h1 : w.cell? ⟨b1, 0, none⟩ = some (.string a)) (h2 : w.cell? ⟨b2, 0, none⟩ = some (.string p))
    (H1 : ∀ w1, Below w.heap.size w w1 → Calls Tryd.prog 18 #[.string s] w1 fun e w' => e = failed ∧ Below w1.heap.size w1 w') :
    Calls Tryd.prog 22 #[.pointer (some ⟨b0, 0, none⟩), .pointer (some ⟨b1, 0, none⟩), .pointer (some ⟨b2, 0, none⟩)] w fun e w' => e = failed ∧ Below w.heap.size w w' := by
  have l0 : b0 < w.heap.size := World.block_lt_of_cell? w _ h0
  have l1 : b1 < w.heap.size := World.block_lt_of_cell? w _ h1
  have l2 : b2 < w.heap.size := World.block_lt_of_cell? w _ h2
  have CC : Hid (∀ x, Below w.heap.size w x → (fun w' => w'.cell? ⟨b0, 0, none⟩ = some (.string s) ∧ w'.cell? ⟨b1, 0, none⟩ = some (.string a) ∧ w'.cell? ⟨b2, 0, none⟩ = some (.string p) ∧ True) x) := fun x k => ⟨(k.cell (p := ⟨b0, 0, none⟩) l0).trans h0, (k.cell (p := ⟨b1, 0, none⟩) l1).trans h1, (k.cell (p := ⟨b2, 0, none⟩) l2).trans h2, trivial⟩
  have H1' := Lib.hid H1
  clear H1
  go_enter Tryd.func22, Tryd.ntmps22
  go_wp2_with fail
  with_reducible refine (H1'.out _ (Below.refl _ _)).mono ?_
  rintro e w1 ⟨rfl, b1⟩
  exact ⟨rfl, rfl, b1⟩
set_option maxHeartbeats 2000000 in
theorem cr_dup (a s p : ByteArray) (b0 b1 b2 : Nat) (x0 : Int) (l : List UInt8) (n : Nat) (hn : n = l.length) (T2 : TypeId) (V2 : Value) (T : TypeId) (V : Value) (w : World) (h0 : w.cell? ⟨b0, 0, none⟩ = some (.string s)) (h1 : w.cell? ⟨b1, 0, none⟩ = some (.string a)) (h2 : w.cell? ⟨b2, 0, none⟩ = some (.string p))
    (H1 : ∀ w1, Below w.heap.size w w1 → Calls Tryd.prog 18 #[.string s] w1 fun e w' => ∃ g cap, e = .returned (.slice (some ⟨g, 0, none⟩) n cap) ∧ BRow w' g l ∧ Below w1.heap.size w1 w')
    (hl : Lets l) (hq : ndp [] l = false) :
    Calls Tryd.prog 22 #[.pointer (some ⟨b0, 0, none⟩), .pointer (some ⟨b1, 0, none⟩), .pointer (some ⟨b2, 0, none⟩)] w fun e w' => e = failed ∧ Below w.heap.size w w' := by
  have l0 : b0 < w.heap.size := World.block_lt_of_cell? w _ h0
  have l1 : b1 < w.heap.size := World.block_lt_of_cell? w _ h1
  have l2 : b2 < w.heap.size := World.block_lt_of_cell? w _ h2
  have CC : Hid (∀ x, Below w.heap.size w x → (fun w' => w'.cell? ⟨b0, 0, none⟩ = some (.string s) ∧ w'.cell? ⟨b1, 0, none⟩ = some (.string a) ∧ w'.cell? ⟨b2, 0, none⟩ = some (.string p) ∧ True) x) := fun x k => ⟨(k.cell (p := ⟨b0, 0, none⟩) l0).trans h0, (k.cell (p := ⟨b1, 0, none⟩) l1).trans h1, (k.cell (p := ⟨b2, 0, none⟩) l2).trans h2, trivial⟩
  have H1' := Lib.hid H1
  clear H1
  have HD := Lib.hid (fun g cap w1 (hr : BRow w1 g l) => df_no l hl n hn hq g cap w1 hr)
  clear hl hq hn
  go_enter Tryd.func22, Tryd.ntmps22
  go_wp2_with fail
  with_reducible refine (H1'.out _ (Below.refl _ _)).mono ?_
  rintro e w1 ⟨g, cap, rfl, hr1, b1⟩
  have R1 := Lib.hid hr1
  clear hr1
  go_wp2_with fail
  with_reducible refine (HD.out _ _ _ R1.out).mono ?_
  rintro e w2 ⟨rfl, b2⟩
  exact ⟨rfl, rfl, cdgo b1 b2⟩
set_option maxHeartbeats 2000000 in
theorem cr_0 (a s p : ByteArray) (b0 b1 b2 : Nat) (x0 : Int) (l : List UInt8) (n : Nat) (hn : n = l.length) (T2 : TypeId) (V2 : Value) (T : TypeId) (V : Value) (w : World) (h0 : w.cell? ⟨b0, 0, none⟩ = some (.string s)) (h1 : w.cell? ⟨b1, 0, none⟩ = some (.string a)) (h2 : w.cell? ⟨b2, 0, none⟩ = some (.string p))
    (H1 : ∀ w1, Below w.heap.size w w1 → Calls Tryd.prog 18 #[.string s] w1 fun e w' => ∃ g cap, e = .returned (.slice (some ⟨g, 0, none⟩) n cap) ∧ BRow w' g l ∧ Below w1.heap.size w1 w')
    (hl : Lets l) (hq : ndp [] l = true)
    (H0 : ∀ w, Calls Tryd.prog 17 #[.string a] w fun e w' => e = failed ∧ Below w.heap.size w w') :
    Calls Tryd.prog 22 #[.pointer (some ⟨b0, 0, none⟩), .pointer (some ⟨b1, 0, none⟩), .pointer (some ⟨b2, 0, none⟩)] w fun e w' => e = failed ∧ Below w.heap.size w w' := by
  have l0 : b0 < w.heap.size := World.block_lt_of_cell? w _ h0
  have l1 : b1 < w.heap.size := World.block_lt_of_cell? w _ h1
  have l2 : b2 < w.heap.size := World.block_lt_of_cell? w _ h2
  have CC : Hid (∀ x, Below w.heap.size w x → (fun w' => w'.cell? ⟨b0, 0, none⟩ = some (.string s) ∧ w'.cell? ⟨b1, 0, none⟩ = some (.string a) ∧ w'.cell? ⟨b2, 0, none⟩ = some (.string p) ∧ True) x) := fun x k => ⟨(k.cell (p := ⟨b0, 0, none⟩) l0).trans h0, (k.cell (p := ⟨b1, 0, none⟩) l1).trans h1, (k.cell (p := ⟨b2, 0, none⟩) l2).trans h2, trivial⟩
  have H1' := Lib.hid H1
  have H0' := Lib.hid H0
  clear H1 H0
  have HD := Lib.hid (fun g cap w1 (hr : BRow w1 g l) => df_yes l hl n hn hq g cap w1 hr)
  clear hl hq hn
  go_enter Tryd.func22, Tryd.ntmps22
  go_wp2_with fail
  with_reducible refine (H1'.out _ (Below.refl _ _)).mono ?_
  rintro e w1 ⟨g, cap, rfl, hr1, b1⟩
  have R1 := Lib.hid hr1
  clear hr1
  go_wp2_with fail
  with_reducible refine (HD.out _ _ _ R1.out).mono ?_
  rintro e w2 ⟨rfl, b2⟩
  have k2 := cdgo b1 b2
  have R2 := Lib.hid (R1.out.below b2)
  clear b1 b2 R1
  go_wp2_with fail
  have kd := k2.drew
  have Rd := Lib.hid (R2.out.below (Below.refl _ _).drew)
  refine wp_region_held_drew (S := fun w' => w'.cell? ⟨b0, 0, none⟩ = some (.string s) ∧ w'.cell? ⟨b1, 0, none⟩ = some (.string a) ∧ w'.cell? ⟨b2, 0, none⟩ = some (.string p) ∧ True) (by kernel_rfl) (CC.out _ kd) (fun hHeld => ?_)
  try simp only [Act.put, List.setIfInBounds_toArray, List.set_cons_zero, List.set_cons_succ]
  refine wpAnyH_take (i := 0) (oi := ⟨some 9, _, _, _, _, _⟩) (v := ?_) rfl (by kernel_rfl) (by kernel_rfl) (by kernel_rfl) (fun _ _ _ h => h) (Or.inl ⟨by rfl, ?_⟩) (by assumption) ?_
  rotate_left
  · intro w hSw
    (try dsimp only at hSw)
    (try obtain ⟨q0, q1, q2, q3⟩ := hSw)
    (try obtain ⟨q0, q1, q2⟩ := hSw)
    (try obtain ⟨q0, q1⟩ := hSw)
    go_simp
    with_reducible rfl
  try simp only [Act.put, List.setIfInBounds_toArray, List.set_cons_zero, List.set_cons_succ]
  refine wpAnyH_take (i := 2) (oi := ⟨some 11, _, _, _, _, _⟩) (v := ?_) rfl (by kernel_rfl) (by kernel_rfl) (by kernel_rfl) (fun _ _ _ h => h) (Or.inl ⟨by rfl, ?_⟩) (by assumption) ?_
  rotate_left
  · intro w hSw
    (try dsimp only at hSw)
    (try obtain ⟨q0, q1, q2, q3⟩ := hSw)
    (try obtain ⟨q0, q1, q2⟩ := hSw)
    (try obtain ⟨q0, q1⟩ := hSw)
    go_simp
    with_reducible rfl
  try simp only [Act.put, List.setIfInBounds_toArray, List.set_cons_zero, List.set_cons_succ]
  refine wpAnyH_take (i := 3) (oi := ⟨some 12, _, _, _, _, _⟩) (v := ?_) rfl (by kernel_rfl) (by kernel_rfl) (by kernel_rfl) (fun _ _ _ h => h) (Or.inl ⟨by rfl, ?_⟩) (by assumption) ?_
  rotate_left
  · intro w hSw
    (try dsimp only at hSw)
    (try obtain ⟨q0, q1, q2, q3⟩ := hSw)
    (try obtain ⟨q0, q1, q2⟩ := hSw)
    (try obtain ⟨q0, q1⟩ := hSw)
    go_simp
    with_reducible rfl
  try simp only [Act.put, List.setIfInBounds_toArray, List.set_cons_zero, List.set_cons_succ]
  refine wpAnyH_ready (rs := [1]) (by kernel_rfl) (by simp) ?_
  refine AllReadyH.cons rfl (fun K hK => ?_) AllReadyH.nil
  go_simp
  with_reducible refine (H0'.out _).mono ?_
  rintro e w3 ⟨rfl, b3⟩
  have k3 := cdgo kd b3
  exact And.intro rfl (And.intro rfl k3)
set_option maxHeartbeats 2000000 in
theorem cr_2 (a s p : ByteArray) (b0 b1 b2 : Nat) (x0 : Int) (l : List UInt8) (n : Nat) (hn : n = l.length) (T2 : TypeId) (V2 : Value) (T : TypeId) (V : Value) (w : World) (h0 : w.cell? ⟨b0, 0, none⟩ = some (.string s)) (h1 : w.cell? ⟨b1, 0, none⟩ = some (.string a)) (h2 : w.cell? ⟨b2, 0, none⟩ = some (.string p))
    (H1 : ∀ w1, Below w.heap.size w w1 → Calls Tryd.prog 18 #[.string s] w1 fun e w' => ∃ g cap, e = .returned (.slice (some ⟨g, 0, none⟩) n cap) ∧ BRow w' g l ∧ Below w1.heap.size w1 w')
    (hl : Lets l) (hq : ndp [] l = true)
    (H0 : ∀ w, Calls Tryd.prog 17 #[.string a] w fun e w' => e = .returned (.int .u8 x0) ∧ Below w.heap.size w w')
    (H2 : ∀ w, Calls Tryd.prog 19 #[.string p] w fun e w' => e = failed ∧ Below w.heap.size w w') :
    Calls Tryd.prog 22 #[.pointer (some ⟨b0, 0, none⟩), .pointer (some ⟨b1, 0, none⟩), .pointer (some ⟨b2, 0, none⟩)] w fun e w' => e = failed ∧ Below w.heap.size w w' := by
  have l0 : b0 < w.heap.size := World.block_lt_of_cell? w _ h0
  have l1 : b1 < w.heap.size := World.block_lt_of_cell? w _ h1
  have l2 : b2 < w.heap.size := World.block_lt_of_cell? w _ h2
  have CC : Hid (∀ x, Below w.heap.size w x → (fun w' => w'.cell? ⟨b0, 0, none⟩ = some (.string s) ∧ w'.cell? ⟨b1, 0, none⟩ = some (.string a) ∧ w'.cell? ⟨b2, 0, none⟩ = some (.string p) ∧ True) x) := fun x k => ⟨(k.cell (p := ⟨b0, 0, none⟩) l0).trans h0, (k.cell (p := ⟨b1, 0, none⟩) l1).trans h1, (k.cell (p := ⟨b2, 0, none⟩) l2).trans h2, trivial⟩
  have H1' := Lib.hid H1
  have H0' := Lib.hid H0
  have H2' := Lib.hid H2
  clear H1 H0 H2
  have HD := Lib.hid (fun g cap w1 (hr : BRow w1 g l) => df_yes l hl n hn hq g cap w1 hr)
  clear hl hq hn
  go_enter Tryd.func22, Tryd.ntmps22
  go_wp2_with fail
  with_reducible refine (H1'.out _ (Below.refl _ _)).mono ?_
  rintro e w1 ⟨g, cap, rfl, hr1, b1⟩
  have R1 := Lib.hid hr1
  clear hr1
  go_wp2_with fail
  with_reducible refine (HD.out _ _ _ R1.out).mono ?_
  rintro e w2 ⟨rfl, b2⟩
  have k2 := cdgo b1 b2
  have R2 := Lib.hid (R1.out.below b2)
  clear b1 b2 R1
  go_wp2_with fail
  have kd := k2.drew
  have Rd := Lib.hid (R2.out.below (Below.refl _ _).drew)
  refine wp_region_held_drew (S := fun w' => w'.cell? ⟨b0, 0, none⟩ = some (.string s) ∧ w'.cell? ⟨b1, 0, none⟩ = some (.string a) ∧ w'.cell? ⟨b2, 0, none⟩ = some (.string p) ∧ True) (by kernel_rfl) (CC.out _ kd) (fun hHeld => ?_)
  try simp only [Act.put, List.setIfInBounds_toArray, List.set_cons_zero, List.set_cons_succ]
  refine wpAnyH_take (i := 0) (oi := ⟨some 9, _, _, _, _, _⟩) (v := ?_) rfl (by kernel_rfl) (by kernel_rfl) (by kernel_rfl) (fun _ _ _ h => h) (Or.inl ⟨by rfl, ?_⟩) (by assumption) ?_
  rotate_left
  · intro w hSw
    (try dsimp only at hSw)
    (try obtain ⟨q0, q1, q2, q3⟩ := hSw)
    (try obtain ⟨q0, q1, q2⟩ := hSw)
    (try obtain ⟨q0, q1⟩ := hSw)
    go_simp
    with_reducible rfl
  try simp only [Act.put, List.setIfInBounds_toArray, List.set_cons_zero, List.set_cons_succ]
  refine wpAnyH_take (i := 2) (oi := ⟨some 11, _, _, _, _, _⟩) (v := ?_) rfl (by kernel_rfl) (by kernel_rfl) (by kernel_rfl) (fun _ _ _ h => h) (Or.inl ⟨by rfl, ?_⟩) (by assumption) ?_
  rotate_left
  · intro w hSw
    (try dsimp only at hSw)
    (try obtain ⟨q0, q1, q2, q3⟩ := hSw)
    (try obtain ⟨q0, q1, q2⟩ := hSw)
    (try obtain ⟨q0, q1⟩ := hSw)
    go_simp
    with_reducible rfl
  try simp only [Act.put, List.setIfInBounds_toArray, List.set_cons_zero, List.set_cons_succ]
  refine wpAnyH_take (i := 3) (oi := ⟨some 12, _, _, _, _, _⟩) (v := ?_) rfl (by kernel_rfl) (by kernel_rfl) (by kernel_rfl) (fun _ _ _ h => h) (Or.inl ⟨by rfl, ?_⟩) (by assumption) ?_
  rotate_left
  · intro w hSw
    (try dsimp only at hSw)
    (try obtain ⟨q0, q1, q2, q3⟩ := hSw)
    (try obtain ⟨q0, q1, q2⟩ := hSw)
    (try obtain ⟨q0, q1⟩ := hSw)
    go_simp
    with_reducible rfl
  try simp only [Act.put, List.setIfInBounds_toArray, List.set_cons_zero, List.set_cons_succ]
  refine wpAnyH_ready (rs := [1]) (by kernel_rfl) (by simp) ?_
  refine AllReadyH.cons rfl (fun K hK => ?_) AllReadyH.nil
  go_simp
  with_reducible refine (H0'.out _).mono ?_
  rintro e w3 ⟨rfl, b3⟩
  have k3 := cdgo kd b3
  have R3 := Lib.hid (Rd.out.below b3)
  dsimp only
  refine hK.out _ _ (CC.out _ k3) (fun hHeld => ?_)
  clear hK K
  try simp only [Act.put, List.setIfInBounds_toArray, List.set_cons_zero, List.set_cons_succ]
  refine wpAnyH_ready (rs := [4]) (by kernel_rfl) (by simp) ?_
  refine AllReadyH.cons rfl (fun K hK => ?_) AllReadyH.nil
  go_simp
  with_reducible refine (H2'.out _).mono ?_
  rintro e w4 ⟨rfl, b4⟩
  have k4 := cdgo k3 b4
  exact And.intro rfl (And.intro rfl k4)
set_option maxHeartbeats 2000000 in
theorem cr_link (a s p : ByteArray) (b0 b1 b2 : Nat) (x0 : Int) (l : List UInt8) (n : Nat) (hn : n = l.length) (T2 : TypeId) (V2 : Value) (T : TypeId) (V : Value) (w : World) (h0 : w.cell? ⟨b0, 0, none⟩ = some (.string s)) (h1 : w.cell? ⟨b1, 0, none⟩ = some (.string a)) (h2 : w.cell? ⟨b2, 0, none⟩ = some (.string p))
    (H1 : ∀ w1, Below w.heap.size w w1 → Calls Tryd.prog 18 #[.string s] w1 fun e w' => ∃ g cap, e = .returned (.slice (some ⟨g, 0, none⟩) n cap) ∧ BRow w' g l ∧ Below w1.heap.size w1 w')
    (hl : Lets l) (hq : ndp [] l = true)
    (H0 : ∀ w, Calls Tryd.prog 17 #[.string a] w fun e w' => e = .returned (.int .u8 x0) ∧ Below w.heap.size w w')
    (H2 : ∀ w, Calls Tryd.prog 19 #[.string p] w fun e w' => e = .returned (.iface T2 V2) ∧ Below w.heap.size w w')
    (HF : ∀ g cap w1, BRow w1 g l → Calls Tryd.prog 24 #[.int .u8 x0, .slice (some ⟨g, 0, none⟩) n cap, .iface T2 V2] w1 fun e w' => e = failed ∧ Below w1.heap.size w1 w') :
    Calls Tryd.prog 22 #[.pointer (some ⟨b0, 0, none⟩), .pointer (some ⟨b1, 0, none⟩), .pointer (some ⟨b2, 0, none⟩)] w fun e w' => e = failed ∧ Below w.heap.size w w' := by
  have l0 : b0 < w.heap.size := World.block_lt_of_cell? w _ h0
  have l1 : b1 < w.heap.size := World.block_lt_of_cell? w _ h1
  have l2 : b2 < w.heap.size := World.block_lt_of_cell? w _ h2
  have CC : Hid (∀ x, Below w.heap.size w x → (fun w' => w'.cell? ⟨b0, 0, none⟩ = some (.string s) ∧ w'.cell? ⟨b1, 0, none⟩ = some (.string a) ∧ w'.cell? ⟨b2, 0, none⟩ = some (.string p) ∧ True) x) := fun x k => ⟨(k.cell (p := ⟨b0, 0, none⟩) l0).trans h0, (k.cell (p := ⟨b1, 0, none⟩) l1).trans h1, (k.cell (p := ⟨b2, 0, none⟩) l2).trans h2, trivial⟩
  have H1' := Lib.hid H1
  have H0' := Lib.hid H0
  have H2' := Lib.hid H2
  have HF' := Lib.hid HF
  clear H1 H0 H2 HF
  have HD := Lib.hid (fun g cap w1 (hr : BRow w1 g l) => df_yes l hl n hn hq g cap w1 hr)
  clear hl hq hn
  go_enter Tryd.func22, Tryd.ntmps22
  go_wp2_with fail
  with_reducible refine (H1'.out _ (Below.refl _ _)).mono ?_
  rintro e w1 ⟨g, cap, rfl, hr1, b1⟩
  have R1 := Lib.hid hr1
  clear hr1
  go_wp2_with fail
  with_reducible refine (HD.out _ _ _ R1.out).mono ?_
  rintro e w2 ⟨rfl, b2⟩
  have k2 := cdgo b1 b2
  have R2 := Lib.hid (R1.out.below b2)
  clear b1 b2 R1
  go_wp2_with fail
  have kd := k2.drew
  have Rd := Lib.hid (R2.out.below (Below.refl _ _).drew)
  refine wp_region_held_drew (S := fun w' => w'.cell? ⟨b0, 0, none⟩ = some (.string s) ∧ w'.cell? ⟨b1, 0, none⟩ = some (.string a) ∧ w'.cell? ⟨b2, 0, none⟩ = some (.string p) ∧ True) (by kernel_rfl) (CC.out _ kd) (fun hHeld => ?_)
  try simp only [Act.put, List.setIfInBounds_toArray, List.set_cons_zero, List.set_cons_succ]
  refine wpAnyH_take (i := 0) (oi := ⟨some 9, _, _, _, _, _⟩) (v := ?_) rfl (by kernel_rfl) (by kernel_rfl) (by kernel_rfl) (fun _ _ _ h => h) (Or.inl ⟨by rfl, ?_⟩) (by assumption) ?_
  rotate_left
  · intro w hSw
    (try dsimp only at hSw)
    (try obtain ⟨q0, q1, q2, q3⟩ := hSw)
    (try obtain ⟨q0, q1, q2⟩ := hSw)
    (try obtain ⟨q0, q1⟩ := hSw)
    go_simp
    with_reducible rfl
  try simp only [Act.put, List.setIfInBounds_toArray, List.set_cons_zero, List.set_cons_succ]
  refine wpAnyH_take (i := 2) (oi := ⟨some 11, _, _, _, _, _⟩) (v := ?_) rfl (by kernel_rfl) (by kernel_rfl) (by kernel_rfl) (fun _ _ _ h => h) (Or.inl ⟨by rfl, ?_⟩) (by assumption) ?_
  rotate_left
  · intro w hSw
    (try dsimp only at hSw)
    (try obtain ⟨q0, q1, q2, q3⟩ := hSw)
    (try obtain ⟨q0, q1, q2⟩ := hSw)
    (try obtain ⟨q0, q1⟩ := hSw)
    go_simp
    with_reducible rfl
  try simp only [Act.put, List.setIfInBounds_toArray, List.set_cons_zero, List.set_cons_succ]
  refine wpAnyH_take (i := 3) (oi := ⟨some 12, _, _, _, _, _⟩) (v := ?_) rfl (by kernel_rfl) (by kernel_rfl) (by kernel_rfl) (fun _ _ _ h => h) (Or.inl ⟨by rfl, ?_⟩) (by assumption) ?_
  rotate_left
  · intro w hSw
    (try dsimp only at hSw)
    (try obtain ⟨q0, q1, q2, q3⟩ := hSw)
    (try obtain ⟨q0, q1, q2⟩ := hSw)
    (try obtain ⟨q0, q1⟩ := hSw)
    go_simp
    with_reducible rfl
  try simp only [Act.put, List.setIfInBounds_toArray, List.set_cons_zero, List.set_cons_succ]
  refine wpAnyH_ready (rs := [1]) (by kernel_rfl) (by simp) ?_
  refine AllReadyH.cons rfl (fun K hK => ?_) AllReadyH.nil
  go_simp
  with_reducible refine (H0'.out _).mono ?_
  rintro e w3 ⟨rfl, b3⟩
  have k3 := cdgo kd b3
  have R3 := Lib.hid (Rd.out.below b3)
  dsimp only
  refine hK.out _ _ (CC.out _ k3) (fun hHeld => ?_)
  clear hK K
  try simp only [Act.put, List.setIfInBounds_toArray, List.set_cons_zero, List.set_cons_succ]
  refine wpAnyH_ready (rs := [4]) (by kernel_rfl) (by simp) ?_
  refine AllReadyH.cons rfl (fun K hK => ?_) AllReadyH.nil
  go_simp
  with_reducible refine (H2'.out _).mono ?_
  rintro e w4 ⟨rfl, b4⟩
  have k4 := cdgo k3 b4
  have R4 := Lib.hid (R3.out.below b4)
  dsimp only
  refine hK.out _ _ (CC.out _ k4) (fun hHeld => ?_)
  clear hK K
  try simp only [Act.put, List.setIfInBounds_toArray, List.set_cons_zero, List.set_cons_succ]
  refine wpAnyH_ready (rs := [5]) (by kernel_rfl) (by simp) ?_
  refine AllReadyH.cons rfl (fun K hK => ?_) AllReadyH.nil
  go_simp
  with_reducible refine (HF'.out _ _ _ R4.out).mono ?_
  rintro e w5 ⟨rfl, b5⟩
  have k5 := cdgo k4 b5
  exact And.intro rfl (And.intro rfl k5)
set_option maxHeartbeats 2000000 in
theorem ss_SendTuple_0 (A N P R X : ByteArray) (y : Bool)
    (C0 : ∀ w, Calls Tryd.prog 9 #[.string A] w fun e w' => e = .returned (.bool false) ∧ Below w.heap.size w w') (w : World) :
    Calls Tryd.prog 5 #[.string A, .string N, .string P] w fun e w' => e = .returned (.tuple #[.string ⟨#[]⟩, .bool false]) ∧ Below w.heap.size w w' := by
  have C0' := Lib.hid C0
  clear C0
  go_enter Tryd.func5, Tryd.ntmps5
  go_wp2_with fail
  with_reducible refine (C0'.out _).mono ?_
  rintro e w1 ⟨rfl, b1⟩
  have k1 := b1
  go_wp2_with fail
  go_ret2
  exact ⟨rfl, k1⟩
set_option maxHeartbeats 2000000 in
theorem ss_SendTuple_1 (A N P R X : ByteArray) (y : Bool)
    (C0 : ∀ w, Calls Tryd.prog 9 #[.string A] w fun e w' => e = .returned (.bool true) ∧ Below w.heap.size w w')
    (C1 : ∀ w, Calls Tryd.prog 10 #[.string N] w fun e w' => e = .returned (.bool false) ∧ Below w.heap.size w w') (w : World) :
    Calls Tryd.prog 5 #[.string A, .string N, .string P] w fun e w' => e = .returned (.tuple #[.string ⟨#[]⟩, .bool false]) ∧ Below w.heap.size w w' := by
  have C0' := Lib.hid C0
  have C1' := Lib.hid C1
  clear C0 C1
  go_enter Tryd.func5, Tryd.ntmps5
  go_wp2_with fail
  with_reducible refine (C0'.out _).mono ?_
  rintro e w1 ⟨rfl, b1⟩
  have k1 := b1
  go_wp2_with fail
  with_reducible refine (C1'.out _).mono ?_
  rintro e w2 ⟨rfl, b2⟩
  have k2 := xgo k1 b2
  go_wp2_with fail
  go_ret2
  exact ⟨rfl, k2⟩
set_option maxHeartbeats 2000000 in
theorem ss_SendTuple_2 (A N P R X : ByteArray) (y : Bool)
    (C0 : ∀ w, Calls Tryd.prog 9 #[.string A] w fun e w' => e = .returned (.bool true) ∧ Below w.heap.size w w')
    (C1 : ∀ w, Calls Tryd.prog 10 #[.string N] w fun e w' => e = .returned (.bool true) ∧ Below w.heap.size w w')
    (C2 : ∀ w, Calls Tryd.prog 11 #[.string P] w fun e w' => e = .returned (.bool false) ∧ Below w.heap.size w w') (w : World) :
    Calls Tryd.prog 5 #[.string A, .string N, .string P] w fun e w' => e = .returned (.tuple #[.string ⟨#[]⟩, .bool false]) ∧ Below w.heap.size w w' := by
  have C0' := Lib.hid C0
  have C1' := Lib.hid C1
  have C2' := Lib.hid C2
  clear C0 C1 C2
  go_enter Tryd.func5, Tryd.ntmps5
  go_wp2_with fail
  with_reducible refine (C0'.out _).mono ?_
  rintro e w1 ⟨rfl, b1⟩
  have k1 := b1
  go_wp2_with fail
  with_reducible refine (C1'.out _).mono ?_
  rintro e w2 ⟨rfl, b2⟩
  have k2 := xgo k1 b2
  go_wp2_with fail
  with_reducible refine (C2'.out _).mono ?_
  rintro e w3 ⟨rfl, b3⟩
  have k3 := xgo k2 b3
  go_wp2_with fail
  go_ret2
  exact ⟨rfl, k3⟩
set_option maxHeartbeats 2000000 in
theorem ss_SendTuple_yes (A N P R X : ByteArray) (y : Bool)
    (C0 : ∀ w, Calls Tryd.prog 9 #[.string A] w fun e w' => e = .returned (.bool true) ∧ Below w.heap.size w w')
    (C1 : ∀ w, Calls Tryd.prog 10 #[.string N] w fun e w' => e = .returned (.bool true) ∧ Below w.heap.size w w')
    (C2 : ∀ w, Calls Tryd.prog 11 #[.string P] w fun e w' => e = .returned (.bool true) ∧ Below w.heap.size w w')
    (HC : ∀ w, Calls Tryd.prog 13 #[.string A, .string N, .string P] w fun e w' => e = .returned (.string R) ∧ Below w.heap.size w w')
    (FI : ∀ w, Calls Tryd.prog 12 #[.string R] w fun e w' => e = .returned (.tuple #[.string X, .bool y]) ∧ Below w.heap.size w w') (w : World) :
    Calls Tryd.prog 5 #[.string A, .string N, .string P] w fun e w' => e = .returned (.tuple #[.string X, .bool y]) ∧ Below w.heap.size w w' := by
  have C0' := Lib.hid C0
  have C1' := Lib.hid C1
  have C2' := Lib.hid C2
  have HC' := Lib.hid HC
  have FI' := Lib.hid FI
  clear C0 C1 C2 HC FI
  go_enter Tryd.func5, Tryd.ntmps5
  go_wp2_with fail
  with_reducible refine (C0'.out _).mono ?_
  rintro e w1 ⟨rfl, b1⟩
  have k1 := b1
  go_wp2_with fail
  with_reducible refine (C1'.out _).mono ?_
  rintro e w2 ⟨rfl, b2⟩
  have k2 := xgo k1 b2
  go_wp2_with fail
  with_reducible refine (C2'.out _).mono ?_
  rintro e w3 ⟨rfl, b3⟩
  have k3 := xgo k2 b3
  go_wp2_with fail
  with_reducible refine (HC'.out _).mono ?_
  rintro e w4 ⟨rfl, b4⟩
  have k4 := xgo k3 b4
  go_wp2_with fail
  with_reducible refine (FI'.out _).mono ?_
  rintro e w5 ⟨rfl, b5⟩
  have k5 := xgo k4 b5
  go_wp2_with fail
  go_ret2
  exact ⟨rfl, k5⟩
set_option maxHeartbeats 2000000 in
theorem ss_ReceiveTuple_0 (A N P R X : ByteArray) (y : Bool)
    (C0 : ∀ w, Calls Tryd.prog 9 #[.string A] w fun e w' => e = .returned (.bool false) ∧ Below w.heap.size w w') (w : World) :
    Calls Tryd.prog 7 #[.string A, .string N, .string P] w fun e w' => e = .returned (.tuple #[.string ⟨#[]⟩, .bool false]) ∧ Below w.heap.size w w' := by
  have C0' := Lib.hid C0
  clear C0
  go_enter Tryd.func7, Tryd.ntmps7
  go_wp2_with fail
  with_reducible refine (C0'.out _).mono ?_
  rintro e w1 ⟨rfl, b1⟩
  have k1 := b1
  go_wp2_with fail
  go_ret2
  exact ⟨rfl, k1⟩
set_option maxHeartbeats 2000000 in
theorem ss_ReceiveTuple_1 (A N P R X : ByteArray) (y : Bool)
    (C0 : ∀ w, Calls Tryd.prog 9 #[.string A] w fun e w' => e = .returned (.bool true) ∧ Below w.heap.size w w')
    (C1 : ∀ w, Calls Tryd.prog 10 #[.string N] w fun e w' => e = .returned (.bool false) ∧ Below w.heap.size w w') (w : World) :
    Calls Tryd.prog 7 #[.string A, .string N, .string P] w fun e w' => e = .returned (.tuple #[.string ⟨#[]⟩, .bool false]) ∧ Below w.heap.size w w' := by
  have C0' := Lib.hid C0
  have C1' := Lib.hid C1
  clear C0 C1
  go_enter Tryd.func7, Tryd.ntmps7
  go_wp2_with fail
  with_reducible refine (C0'.out _).mono ?_
  rintro e w1 ⟨rfl, b1⟩
  have k1 := b1
  go_wp2_with fail
  with_reducible refine (C1'.out _).mono ?_
  rintro e w2 ⟨rfl, b2⟩
  have k2 := xgo k1 b2
  go_wp2_with fail
  go_ret2
  exact ⟨rfl, k2⟩
set_option maxHeartbeats 2000000 in
theorem ss_ReceiveTuple_2 (A N P R X : ByteArray) (y : Bool)
    (C0 : ∀ w, Calls Tryd.prog 9 #[.string A] w fun e w' => e = .returned (.bool true) ∧ Below w.heap.size w w')
    (C1 : ∀ w, Calls Tryd.prog 10 #[.string N] w fun e w' => e = .returned (.bool true) ∧ Below w.heap.size w w')
    (C2 : ∀ w, Calls Tryd.prog 11 #[.string P] w fun e w' => e = .returned (.bool false) ∧ Below w.heap.size w w') (w : World) :
    Calls Tryd.prog 7 #[.string A, .string N, .string P] w fun e w' => e = .returned (.tuple #[.string ⟨#[]⟩, .bool false]) ∧ Below w.heap.size w w' := by
  have C0' := Lib.hid C0
  have C1' := Lib.hid C1
  have C2' := Lib.hid C2
  clear C0 C1 C2
  go_enter Tryd.func7, Tryd.ntmps7
  go_wp2_with fail
  with_reducible refine (C0'.out _).mono ?_
  rintro e w1 ⟨rfl, b1⟩
  have k1 := b1
  go_wp2_with fail
  with_reducible refine (C1'.out _).mono ?_
  rintro e w2 ⟨rfl, b2⟩
  have k2 := xgo k1 b2
  go_wp2_with fail
  with_reducible refine (C2'.out _).mono ?_
  rintro e w3 ⟨rfl, b3⟩
  have k3 := xgo k2 b3
  go_wp2_with fail
  go_ret2
  exact ⟨rfl, k3⟩
set_option maxHeartbeats 2000000 in
theorem ss_ReceiveTuple_dup (A N P R X : ByteArray) (y : Bool) (l : List UInt8) (n : Nat) (hn : n = l.length) (h4 : n ≤ 100) (hN : N = B l) (hq : ndp [] l = false)
    (C0 : ∀ w, Calls Tryd.prog 9 #[.string A] w fun e w' => e = .returned (.bool true) ∧ Below w.heap.size w w')
    (C1 : ∀ w, Calls Tryd.prog 10 #[.string N] w fun e w' => e = .returned (.bool true) ∧ Below w.heap.size w w')
    (C2 : ∀ w, Calls Tryd.prog 11 #[.string P] w fun e w' => e = .returned (.bool true) ∧ Below w.heap.size w w') (w : World) :
    Calls Tryd.prog 7 #[.string A, .string N, .string P] w fun e w' => e = .returned (.tuple #[.string ⟨#[]⟩, .bool false]) ∧ Below w.heap.size w w' := by
  have C0' := Lib.hid C0
  have C1' := Lib.hid C1
  have C2' := Lib.hid C2
  clear C0 C1 C2
  have HT : Hid (∀ i (h : i < l.length) w, Calls Tryd.prog 20 #[.string (N.extract 0 i), .int .u8 (l[i].toNat : Int)] w fun e w' => e = .returned (.bool (decide (l[i] ∈ l.take i))) ∧ w = w') := fun i h w => by
    have h1 := tmIn_any (N.extract 0 i) (l[i].toNat : Int) w (by rw [ByteArray.size_extract, hN, B_size]; omega)
    rw [inB_of] at h1
    rw [show (N.extract 0 i).data.toList = l.take i by rw [hN, ByteArray.data_extract, Array.toList_extract, B_list, List.extract_eq_take_drop]; simp] at h1
    exact h1
  have hsz : N.size = n := by rw [hN, B_size, hn]
  have HNb : Hid (∀ i (h : i < l.length) (h' : i < N.size), (N[i]'h') = l[i]) := fun i h h' => by
    have := get_list N i h'
    rw [← this]; simp only [hN, B_list]
  have HQ := Lib.hid hq
  have HNn := Lib.hid hn
  clear hN hq hn
  go_enter Tryd.func7, Tryd.ntmps7
  go_wp2_with fail
  with_reducible refine (C0'.out _).mono ?_
  rintro e w1 ⟨rfl, b1⟩
  have k1 := b1
  go_wp2_with fail
  with_reducible refine (C1'.out _).mono ?_
  rintro e w2 ⟨rfl, b2⟩
  have k2 := xgo k1 b2
  go_wp2_with fail
  with_reducible refine (C2'.out _).mono ?_
  rintro e w3 ⟨rfl, b3⟩
  have k3 := xgo k2 b3
  go_wp2_with fail
  go_loopg [8] n (fun k s8 wr => ∃ i : Nat, s8 = .int .i64 (i : Int) ∧ i + k = n ∧ Hid (ndp (l.take i) (l.drop i) = ndp [] l) ∧ Hid (Below w.heap.size w wr))
  case atStart => exact ⟨0, rfl, by omega, rfl, k3⟩
  case round =>
    obtain ⟨i, rfl, hik, hnd, hbw⟩ := hrel
    by_cases hlt : (i : Int) < (n : Int)
    · have hil : i < l.length := by rw [← HNn.out]; omega
      have hiN : i < N.size := by omega
      have HC1 := Lib.hid (HT.out i hil)
      have hw1 : IntKind.i64.wrap ((i : Int) + 1) = (i : Int) + 1 := IntWalk.i64_in _ (by omega)
      have hby := HNb.out i hil hiN
      have hst : ndp (l.take i) (l.drop i) = (!decide (l[i] ∈ l.take i) && ndp (l.take (i + 1)) (l.drop (i + 1))) := by
        rw [List.drop_eq_getElem_cons hil, List.take_succ_eq_append_getElem hil]; rfl
      rw [← hby] at HC1
      cases hc : decide (l[i] ∈ l.take i) with
      | true =>
        rw [hby, hc] at HC1
        rw [← hby] at HC1
        clear hst hc hby
        go_wp2_with fail
        go_region_with ((go_at_call 20; with_reducible refine (HC1.out _).mono ?_; rintro e w9 ⟨rfl, rfl⟩))
        all_goals
          go_wp2_with fail
          go_ret2
          exact ⟨rfl, hbw.out.drew⟩
      | false =>
        rw [hby, hc] at HC1
        rw [← hby] at HC1
        have hnd2 : Hid (ndp (l.take (i + 1)) (l.drop (i + 1)) = ndp [] l) := by show _ = _; rw [← hnd.out, hst, hc]; rfl
        clear hst hc hby
        go_wp2_with fail
        go_region_with ((go_at_call 20; with_reducible refine (HC1.out _).mono ?_; rintro e w9 ⟨rfl, rfl⟩))
        all_goals
          go_wp2_with fail
          go_roundg (gk - 1)
          case rel => exact ⟨i + 1, by go_num, by omega, hnd2, hbw.out.drew⟩
          case measure => omega
    · obtain rfl : i = n := by omega
      exfalso
      have h1 := hnd.out
      rw [List.drop_of_length_le (by rw [← HNn.out]; exact Nat.le_refl _), HQ.out] at h1
      cases h1
set_option maxHeartbeats 2000000 in
theorem ss_ReceiveTuple_yes (A N P R X : ByteArray) (y : Bool) (l : List UInt8) (n : Nat) (hn : n = l.length) (h4 : n ≤ 100) (hN : N = B l) (hq : ndp [] l = true)
    (C0 : ∀ w, Calls Tryd.prog 9 #[.string A] w fun e w' => e = .returned (.bool true) ∧ Below w.heap.size w w')
    (C1 : ∀ w, Calls Tryd.prog 10 #[.string N] w fun e w' => e = .returned (.bool true) ∧ Below w.heap.size w w')
    (C2 : ∀ w, Calls Tryd.prog 11 #[.string P] w fun e w' => e = .returned (.bool true) ∧ Below w.heap.size w w')
    (HC : ∀ w, Calls Tryd.prog 21 #[.string A, .string N, .string P] w fun e w' => e = .returned (.string R) ∧ Below w.heap.size w w')
    (FI : ∀ w, Calls Tryd.prog 12 #[.string R] w fun e w' => e = .returned (.tuple #[.string X, .bool y]) ∧ Below w.heap.size w w') (w : World) :
    Calls Tryd.prog 7 #[.string A, .string N, .string P] w fun e w' => e = .returned (.tuple #[.string X, .bool y]) ∧ Below w.heap.size w w' := by
  have C0' := Lib.hid C0
  have C1' := Lib.hid C1
  have C2' := Lib.hid C2
  have HC' := Lib.hid HC
  have FI' := Lib.hid FI
  clear C0 C1 C2 HC FI
  have HT : Hid (∀ i (h : i < l.length) w, Calls Tryd.prog 20 #[.string (N.extract 0 i), .int .u8 (l[i].toNat : Int)] w fun e w' => e = .returned (.bool (decide (l[i] ∈ l.take i))) ∧ w = w') := fun i h w => by
    have h1 := tmIn_any (N.extract 0 i) (l[i].toNat : Int) w (by rw [ByteArray.size_extract, hN, B_size]; omega)
    rw [inB_of] at h1
    rw [show (N.extract 0 i).data.toList = l.take i by rw [hN, ByteArray.data_extract, Array.toList_extract, B_list, List.extract_eq_take_drop]; simp] at h1
    exact h1
  have hsz : N.size = n := by rw [hN, B_size, hn]
  have HNb : Hid (∀ i (h : i < l.length) (h' : i < N.size), (N[i]'h') = l[i]) := fun i h h' => by
    have := get_list N i h'
    rw [← this]; simp only [hN, B_list]
  have HQ := Lib.hid hq
  have HNn := Lib.hid hn
  clear hN hq hn
  go_enter Tryd.func7, Tryd.ntmps7
  go_wp2_with fail
  with_reducible refine (C0'.out _).mono ?_
  rintro e w1 ⟨rfl, b1⟩
  have k1 := b1
  go_wp2_with fail
  with_reducible refine (C1'.out _).mono ?_
  rintro e w2 ⟨rfl, b2⟩
  have k2 := xgo k1 b2
  go_wp2_with fail
  with_reducible refine (C2'.out _).mono ?_
  rintro e w3 ⟨rfl, b3⟩
  have k3 := xgo k2 b3
  go_wp2_with fail
  go_loopg [8] n (fun k s8 wr => ∃ i : Nat, s8 = .int .i64 (i : Int) ∧ i + k = n ∧ Hid (ndp (l.take i) (l.drop i) = ndp [] l) ∧ Hid (Below w.heap.size w wr))
  case atStart => exact ⟨0, rfl, by omega, rfl, k3⟩
  case round =>
    obtain ⟨i, rfl, hik, hnd, hbw⟩ := hrel
    by_cases hlt : (i : Int) < (n : Int)
    · have hil : i < l.length := by rw [← HNn.out]; omega
      have hiN : i < N.size := by omega
      have HC1 := Lib.hid (HT.out i hil)
      have hw1 : IntKind.i64.wrap ((i : Int) + 1) = (i : Int) + 1 := IntWalk.i64_in _ (by omega)
      have hby := HNb.out i hil hiN
      have hst : ndp (l.take i) (l.drop i) = (!decide (l[i] ∈ l.take i) && ndp (l.take (i + 1)) (l.drop (i + 1))) := by
        rw [List.drop_eq_getElem_cons hil, List.take_succ_eq_append_getElem hil]; rfl
      rw [← hby] at HC1
      cases hc : decide (l[i] ∈ l.take i) with
      | true =>
        rw [hby, hc] at HC1
        rw [← hby] at HC1
        exfalso
        have h1 := hnd.out
        rw [hst, hc, HQ.out] at h1
        cases h1
      | false =>
        rw [hby, hc] at HC1
        rw [← hby] at HC1
        have hnd2 : Hid (ndp (l.take (i + 1)) (l.drop (i + 1)) = ndp [] l) := by show _ = _; rw [← hnd.out, hst, hc]; rfl
        clear hst hc hby
        go_wp2_with fail
        go_region_with ((go_at_call 20; with_reducible refine (HC1.out _).mono ?_; rintro e w9 ⟨rfl, rfl⟩))
        all_goals
          go_wp2_with fail
          go_roundg (gk - 1)
          case rel => exact ⟨i + 1, by go_num, by omega, hnd2, hbw.out.drew⟩
          case measure => omega
    · obtain rfl : i = n := by omega
      go_wp2_with fail
      with_reducible refine (HC'.out _).mono ?_
      rintro e w4 ⟨rfl, b4⟩
      have k4 := xgo hbw.out b4
      go_wp2_with fail
      with_reducible refine (FI'.out _).mono ?_
      rintro e w5 ⟨rfl, b5⟩
      have k5 := xgo k4 b5
      go_wp2_with fail
      go_ret2
      exact ⟨rfl, k5⟩
end Go.Proofs.YtinkioodkgccjaaDoor.T1
