/- Texts of the proof, put together: Pp. No conditions. -/
import Derived.Test.YtajgncapgeiniaaGreatHab
import Derived.Test.YtajgncapgeiniaaGreatHbc
import Derived.Deep.RegionWith

/- A process with other parts; with another process at a path: in the specification. -/
namespace Go.Proofs.YtajgncapgeiniaaGreat.T1
open Go.RowKit
set_option maxRecDepth 100000
set_option linter.unusedVariables false

set_option maxHeartbeats 2000000 in
theorem tw_one (s X : ByteArray) (kd : Int) (hd : Nat) (hs : s.size ≤ 700) (hX : X.size ≤ 1000) (hh : hd ≤ s.size) (b0 : (kd == 48) = false) (b1 : (kd == 43) = false) (b2 : (kd == 38) = false)
    (HK : ∀ w, Calls Tryz.prog 58 #[.string s] w fun e w' => e = .returned (.int .u8 kd) ∧ w = w') (HH : ∀ w, Calls Tryz.prog 99 #[.string s] w fun e w' => e = .returned (.int .i64 (hd : Int)) ∧ w = w') (g n cap : Nat) (hn : 1 ≤ n) (w : World) (c0 : w.cell? ⟨g, 0, none⟩ = some (.string X)) :
    Calls Tryz.prog 110 #[.string s, .slice (some ⟨g, 0, none⟩) n cap] w fun e w' => e = .returned (.string (s.extract 0 hd ++ X)) ∧ Below w.heap.size w w' := by
  have HK' := Lib.hid HK
  have HH' := Lib.hid HH
  have n0 : (0 : Int) < (n : Int) := by omega
  have h1 : (hd : Int) ≤ (s.size : Int) := by omega
  clear HK HH
  go_enter Tryz.func110, Tryz.ntmps110
  go_wp2_with fail
  refine (HK'.out _).mono ?_
  rintro e w1 ⟨rfl, rfl⟩
  go_wp2_with fail
  go_quiet ((go_at_call 99; exact Calls.quiet_of_same ((HH'.out _).mono fun _ _ hh => ⟨hh.1, hh.2.symm⟩)))
  go_wp2_with fail
  go_ret
  first | exact ⟨rfl, Below.refl _ _⟩ | exact ⟨rfl, (Below.refl _ _).drew⟩ | exact ⟨rfl, (Below.refl _ _).drewN _⟩ | exact ⟨rfl, below_drewN' (Below.refl _ _) _⟩
set_option maxHeartbeats 2000000 in
theorem tw_two (s X Y : ByteArray) (kd : Int) (m : UInt8) (hX : X.size ≤ 1000) (hY : Y.size ≤ 1000) (hm : (kd = 43 ∧ m = 43) ∨ (kd = 38 ∧ m = 38))
    (HK : ∀ w, Calls Tryz.prog 58 #[.string s] w fun e w' => e = .returned (.int .u8 kd) ∧ w = w') (g n cap : Nat) (hn : 2 ≤ n) (w : World) (c0 : w.cell? ⟨g, 0, none⟩ = some (.string X)) (c1 : w.cell? ⟨g, 1, none⟩ = some (.string Y)) :
    Calls Tryz.prog 110 #[.string s, .slice (some ⟨g, 0, none⟩) n cap] w fun e w' => e = .returned (.string (one 40 ++ X ++ one m ++ Y ++ one 41)) ∧ Below w.heap.size w w' := by
  have HK' := Lib.hid HK
  have n0 : (0 : Int) < (n : Int) := by omega
  have n1 : (1 : Int) < (n : Int) := by omega
  clear HK
  rcases hm with ⟨rfl, rfl⟩ | ⟨rfl, rfl⟩
  all_goals
    go_enter Tryz.func110, Tryz.ntmps110
    go_wp2_with fail
    refine (HK'.out _).mono ?_
    rintro e w1 ⟨rfl, rfl⟩
    go_wp2_with fail
    go_quiet (fail)
    go_wp2_with fail
    go_ret
    first | exact ⟨rfl, Below.refl _ _⟩ | exact ⟨rfl, (Below.refl _ _).drew⟩ | exact ⟨rfl, (Below.refl _ _).drewN _⟩ | exact ⟨rfl, below_drewN' (Below.refl _ _) _⟩

theorem Tryz.infoS : (Tryz.prog.info? 9).map (fun i => (i.zero, i.size, i.bytes)) = some (some (.string ⟨#[]⟩), 1, 16) := by kernel_rfl
set_option maxHeartbeats 2000000 in
theorem tp_nil (s Q : ByteArray) (w : World) : Calls Tryz.prog 69 #[.string s, .string ⟨#[]⟩, .string Q] w fun e w' => e = .returned (.string Q) ∧ Below w.heap.size w w' := by
  go_enter Tryz.func69, Tryz.ntmps69
  go_wp2_with fail
  go_ret
  exact ⟨rfl, Below.refl _ _⟩
set_option maxHeartbeats 2000000 in
theorem tp_one (s u U X Q R : ByteArray) (hX : 0 < X.size) (hne : X.toList.isEmpty = false) (hk : ((X[0]'hX).toNat : Int) = 48) (HP : ∀ w, Calls Tryz.prog 53 #[.string s] w fun e w' => ∃ b, e = .returned (.slice (some ⟨b, 0, none⟩) 1 1) ∧ w.heap.size ≤ b ∧ w'.heap[b]? = some (.cells #[.string u] 9 (0, 0)) ∧ Below w.heap.size w w')
    (IH : ∀ w, Calls Tryz.prog 69 #[.string u, .string (X.extract 1 X.size), .string Q] w fun e w' => e = .returned (.string U) ∧ Below w.heap.size w w')
    (HW : ∀ (g n cap : Nat) (w : World), 1 ≤ n → w.cell? ⟨g, 0, none⟩ = some (.string U) → Calls Tryz.prog 110 #[.string s, .slice (some ⟨g, 0, none⟩) n cap] w fun e w' => e = .returned (.string R) ∧ Below w.heap.size w w') (w : World) :
    Calls Tryz.prog 69 #[.string s, .string X, .string Q] w fun e w' => e = .returned (.string R) ∧ Below w.heap.size w w' := by
  have HP' := Lib.hid HP
  have IH' := Lib.hid IH
  have HW' := Lib.hid HW
  obtain ⟨i0, hi, hz0, hz1, hz2⟩ := info_parts Tryz.infoS
  clear HP IH HW
  go_enter Tryz.func69, Tryz.ntmps69
  go_wp2_with fail
  refine (HP'.out _).mono ?_
  rintro e w1 ⟨b, rfl, hb, hh, b1⟩
  have c0 := cellOf1 hh
  have bl1 := below_trans ((Below.refl _ _).alloc (Nat.le_refl _) _) b1 (by simp)
  clear hh hb
  go_wp2_with fail
  obtain ⟨cp, hcp⟩ : ∃ cp, cp = (Question.appendCap 1 0 9).cut (w1.tape w1.drawn (Question.appendCap 1 0 9)) := ⟨_, rfl⟩
  rw [← hcp]
  obtain ⟨C, hC⟩ : ∃ C, C = #[.string u] ++ Builtin.zeroCells #[.string ⟨#[]⟩] (cp - 1) := ⟨_, rfl⟩
  rw [← hC]
  have hC0 : C[0]? = some (.string u) := by rw [hC, Array.getElem?_append_left (by simp)]; rfl
  obtain ⟨W, hW⟩ : ∃ W, W = (w1.alloc (.cells C 9)).drew := ⟨_, rfl⟩
  have hWg : W.heap[w1.heap.size]? = some (.cells C 9 (0, 0)) := by rw [hW]; exact new_block0 _ _
  have bW : Below w.heap.size w W := by rw [hW]; exact (bl1.alloc bl1.size _).drew
  have hgg : w.heap.size ≤ w1.heap.size := bl1.size
  rw [← hW]
  obtain ⟨g, hg⟩ : ∃ g, g = w1.heap.size := ⟨_, rfl⟩
  rw [← hg] at hWg hgg ⊢
  have Hg := Lib.hid hWg
  have d0 := cellsAt hWg 0 _ hC0

  have f0 := cellsFree hWg 0
  have e0 : (C.setIfInBounds 0 (.string U))[0]? = some (.string U) := setAt hC0
  clear hcp hC hW hWg hg c0 b1 bl1
  go_region_with ((go_at_call 69; refine (IH'.out _).mono ?_; rintro e w2 ⟨rfl, b2⟩; have g2 := (b2.block g (lt_of_block Hg.out)).trans Hg.out; have q0 := cellsAt g2 0 _ hC0; have q1 := cellsFree g2 0))
  all_goals have bX : Below w.heap.size w (w2.setCell ⟨g, 0, none⟩ (.string U)) := (below_trans bW.drew b2 (by show w.heap.size ≤ W.heap.size; exact bW.size)).setCell hgg _
  all_goals
    go_wp2_with fail
    refine (HW'.out _ _ _ _ (by omega) (by exact cellsAt (set_cells g2 0 _) 0 _ e0)).mono ?_
    rintro e w3 ⟨rfl, b3⟩
    go_wp2_with fail
    go_ret
    exact ⟨rfl, below_trans bX b3 bX.size⟩

set_option maxHeartbeats 2000000 in
theorem tp_twoA (s u v U X Q R : ByteArray) (hX : 0 < X.size) (hne : X.toList.isEmpty = false) (hk : ((X[0]'hX).toNat : Int) = 48) (HP : ∀ w, Calls Tryz.prog 53 #[.string s] w fun e w' => ∃ b, e = .returned (.slice (some ⟨b, 0, none⟩) 2 2) ∧ w.heap.size ≤ b ∧ w'.heap[b]? = some (.cells #[.string u, .string v] 9 (0, 0)) ∧ Below w.heap.size w w')
    (IH : ∀ w, Calls Tryz.prog 69 #[.string u, .string (X.extract 1 X.size), .string Q] w fun e w' => e = .returned (.string U) ∧ Below w.heap.size w w')
    (HW : ∀ (g n cap : Nat) (w : World), 2 ≤ n → w.cell? ⟨g, 0, none⟩ = some (.string U) → w.cell? ⟨g, 1, none⟩ = some (.string v) → Calls Tryz.prog 110 #[.string s, .slice (some ⟨g, 0, none⟩) n cap] w fun e w' => e = .returned (.string R) ∧ Below w.heap.size w w') (w : World) :
    Calls Tryz.prog 69 #[.string s, .string X, .string Q] w fun e w' => e = .returned (.string R) ∧ Below w.heap.size w w' := by
  have HP' := Lib.hid HP
  have IH' := Lib.hid IH
  have HW' := Lib.hid HW
  obtain ⟨i0, hi, hz0, hz1, hz2⟩ := info_parts Tryz.infoS
  clear HP IH HW
  go_enter Tryz.func69, Tryz.ntmps69
  go_wp2_with fail
  refine (HP'.out _).mono ?_
  rintro e w1 ⟨b, rfl, hb, hh, b1⟩
  have c0 := cellOf2a hh
  have c1 := cellOf2b hh
  have bl1 := below_trans ((Below.refl _ _).alloc (Nat.le_refl _) _) b1 (by simp)
  clear hh hb
  go_wp2_with fail
  obtain ⟨cp, hcp⟩ : ∃ cp, cp = (Question.appendCap 2 0 9).cut (w1.tape w1.drawn (Question.appendCap 2 0 9)) := ⟨_, rfl⟩
  rw [← hcp]
  obtain ⟨C, hC⟩ : ∃ C, C = #[.string u, .string v] ++ Builtin.zeroCells #[.string ⟨#[]⟩] (cp - 2) := ⟨_, rfl⟩
  rw [← hC]
  have hC0 : C[0]? = some (.string u) := by rw [hC, Array.getElem?_append_left (by simp)]; rfl
  have hC1 : C[1]? = some (.string v) := by rw [hC, Array.getElem?_append_left (by simp)]; rfl
  obtain ⟨W, hW⟩ : ∃ W, W = (w1.alloc (.cells C 9)).drew := ⟨_, rfl⟩
  have hWg : W.heap[w1.heap.size]? = some (.cells C 9 (0, 0)) := by rw [hW]; exact new_block0 _ _
  have bW : Below w.heap.size w W := by rw [hW]; exact (bl1.alloc bl1.size _).drew
  have hgg : w.heap.size ≤ w1.heap.size := bl1.size
  rw [← hW]
  obtain ⟨g, hg⟩ : ∃ g, g = w1.heap.size := ⟨_, rfl⟩
  rw [← hg] at hWg hgg ⊢
  have Hg := Lib.hid hWg
  have d0 := cellsAt hWg 0 _ hC0
  have d1 := cellsAt hWg 1 _ hC1
  have f0 := cellsFree hWg 0
  have e0 : (C.setIfInBounds 0 (.string U))[0]? = some (.string U) := setAt hC0
  have e1 : (C.setIfInBounds 0 (.string U))[1]? = some (.string v) := by rw [Array.getElem?_setIfInBounds_ne (by decide)]; exact hC1
  clear hcp hC hW hWg hg c0 b1 bl1
  go_region_with ((go_at_call 69; refine (IH'.out _).mono ?_; rintro e w2 ⟨rfl, b2⟩; have g2 := (b2.block g (lt_of_block Hg.out)).trans Hg.out; have q0 := cellsAt g2 0 _ hC0; have q1 := cellsFree g2 0))
  all_goals have bX : Below w.heap.size w (w2.setCell ⟨g, 0, none⟩ (.string U)) := (below_trans bW.drew b2 (by show w.heap.size ≤ W.heap.size; exact bW.size)).setCell hgg _
  all_goals
    go_wp2_with fail
    refine (HW'.out _ _ _ _ (by omega) (by exact cellsAt (set_cells g2 0 _) 0 _ e0) (by exact cellsAt (set_cells g2 0 _) 1 _ e1)).mono ?_
    rintro e w3 ⟨rfl, b3⟩
    go_wp2_with fail
    go_ret
    exact ⟨rfl, below_trans bX b3 bX.size⟩

set_option maxHeartbeats 2000000 in
theorem tp_twoB (s u v U X Q R : ByteArray) (hX : 0 < X.size) (hne : X.toList.isEmpty = false) (hk : ((X[0]'hX).toNat : Int) = 49) (HP : ∀ w, Calls Tryz.prog 53 #[.string s] w fun e w' => ∃ b, e = .returned (.slice (some ⟨b, 0, none⟩) 2 2) ∧ w.heap.size ≤ b ∧ w'.heap[b]? = some (.cells #[.string u, .string v] 9 (0, 0)) ∧ Below w.heap.size w w')
    (IH : ∀ w, Calls Tryz.prog 69 #[.string v, .string (X.extract 1 X.size), .string Q] w fun e w' => e = .returned (.string U) ∧ Below w.heap.size w w')
    (HW : ∀ (g n cap : Nat) (w : World), 2 ≤ n → w.cell? ⟨g, 0, none⟩ = some (.string u) → w.cell? ⟨g, 1, none⟩ = some (.string U) → Calls Tryz.prog 110 #[.string s, .slice (some ⟨g, 0, none⟩) n cap] w fun e w' => e = .returned (.string R) ∧ Below w.heap.size w w') (w : World) :
    Calls Tryz.prog 69 #[.string s, .string X, .string Q] w fun e w' => e = .returned (.string R) ∧ Below w.heap.size w w' := by
  have HP' := Lib.hid HP
  have IH' := Lib.hid IH
  have HW' := Lib.hid HW
  obtain ⟨i0, hi, hz0, hz1, hz2⟩ := info_parts Tryz.infoS
  clear HP IH HW
  go_enter Tryz.func69, Tryz.ntmps69
  go_wp2_with fail
  refine (HP'.out _).mono ?_
  rintro e w1 ⟨b, rfl, hb, hh, b1⟩
  have c0 := cellOf2a hh
  have c1 := cellOf2b hh
  have bl1 := below_trans ((Below.refl _ _).alloc (Nat.le_refl _) _) b1 (by simp)
  clear hh hb
  go_wp2_with fail
  obtain ⟨cp, hcp⟩ : ∃ cp, cp = (Question.appendCap 2 0 9).cut (w1.tape w1.drawn (Question.appendCap 2 0 9)) := ⟨_, rfl⟩
  rw [← hcp]
  obtain ⟨C, hC⟩ : ∃ C, C = #[.string u, .string v] ++ Builtin.zeroCells #[.string ⟨#[]⟩] (cp - 2) := ⟨_, rfl⟩
  rw [← hC]
  have hC0 : C[0]? = some (.string u) := by rw [hC, Array.getElem?_append_left (by simp)]; rfl
  have hC1 : C[1]? = some (.string v) := by rw [hC, Array.getElem?_append_left (by simp)]; rfl
  obtain ⟨W, hW⟩ : ∃ W, W = (w1.alloc (.cells C 9)).drew := ⟨_, rfl⟩
  have hWg : W.heap[w1.heap.size]? = some (.cells C 9 (0, 0)) := by rw [hW]; exact new_block0 _ _
  have bW : Below w.heap.size w W := by rw [hW]; exact (bl1.alloc bl1.size _).drew
  have hgg : w.heap.size ≤ w1.heap.size := bl1.size
  rw [← hW]
  obtain ⟨g, hg⟩ : ∃ g, g = w1.heap.size := ⟨_, rfl⟩
  rw [← hg] at hWg hgg ⊢
  have Hg := Lib.hid hWg
  have d0 := cellsAt hWg 0 _ hC0
  have d1 := cellsAt hWg 1 _ hC1
  have f0 := cellsFree hWg 1
  have e0 : (C.setIfInBounds 1 (.string U))[0]? = some (.string u) := by rw [Array.getElem?_setIfInBounds_ne (by decide)]; exact hC0
  have e1 : (C.setIfInBounds 1 (.string U))[1]? = some (.string U) := setAt hC1
  clear hcp hC hW hWg hg c0 b1 bl1
  go_region_with ((go_at_call 69; refine (IH'.out _).mono ?_; rintro e w2 ⟨rfl, b2⟩; have g2 := (b2.block g (lt_of_block Hg.out)).trans Hg.out; have q0 := cellsAt g2 1 _ hC1; have q1 := cellsFree g2 1))
  all_goals have bX : Below w.heap.size w (w2.setCell ⟨g, 1, none⟩ (.string U)) := (below_trans bW.drew b2 (by show w.heap.size ≤ W.heap.size; exact bW.size)).setCell hgg _
  all_goals
    go_wp2_with fail
    refine (HW'.out _ _ _ _ (by omega) (by exact cellsAt (set_cells g2 1 _) 0 _ e0) (by exact cellsAt (set_cells g2 1 _) 1 _ e1)).mono ?_
    rintro e w3 ⟨rfl, b3⟩
    go_wp2_with fail
    go_ret
    exact ⟨rfl, below_trans bX b3 bX.size⟩


end Go.Proofs.YtajgncapgeiniaaGreat.T1
