/- Texts of the proof, put together: Qt, Qj. No conditions. -/
import Derived.Test.YtlhmjcfnfefliaaGreatHbg
import Derived.Test.YtlhmjcfnfefliaaGreatHbj
import Derived.Test.YtlhmjcfnfefliaaGreatHbk

/- A name in a part of *, in the specification. MADE BY gen_Qt.py. -/
namespace Go.Proofs.YtlhmjcfnfefliaaGreat.T1
open Go.RowKit
set_option maxRecDepth 100000
set_option linter.unusedVariables false
set_option linter.unusedSimpArgs false

set_option maxHeartbeats 2000000 in
theorem sr_nil (s : ByteArray) (a : UInt8) (kd : Int) (k42 : (kd == 42) = false) (HK : ∀ w, Calls Tryz.prog 66 #[.string s] w fun e w' => e = .returned (.int .u8 kd) ∧ w = w') (HB : ∀ w, Calls Tryz.prog 64 #[.string s] w fun e w' => e = .returned (.tuple #[.int .u8 0, .bool false]) ∧ w = w') (HP : ∀ w, Calls Tryz.prog 62 #[.string s] w (PartsS [] w)) (w : World) : Calls Tryz.prog 35 #[.string s, .int .u8 (a.toNat : Int)] w fun e w' => e = .returned (.bool false) ∧ Below w.heap.size w w' := by
  have XK := Lib.hid HK
  have XB := Lib.hid HB
  have XP := Lib.hid HP
  clear HK HB HP
  have bl : Below w.heap.size w w := Below.refl _ _
  go_enter Tryz.func35, Tryz.ntmps35
  go_wp2_with fail
  refine (XK.out _).mono ?_
  rintro e w2 ⟨rfl, rfl⟩
  go_wp2_with fail
  refine (XB.out _).mono ?_
  rintro e w2 ⟨rfl, rfl⟩
  go_wp2_with fail
  refine (XP.out _).mono ?_
  rintro e w3 ⟨rfl, b3⟩
  replace bl := below_trans bl b3 bl.size
  clear b3
  go_wp2_with fail
  refine wp_loop_rounds 1 ?_
  rw [rounds_succ]
  go_wp2_with fail
  go_ret
  exact ⟨rfl, bl⟩
set_option maxHeartbeats 2000000 in
theorem sr_one (s : ByteArray) (a : UInt8) (kd : Int) (u : ByteArray) (r1 : Bool) (k42 : (kd == 42) = false) (HK : ∀ w, Calls Tryz.prog 66 #[.string s] w fun e w' => e = .returned (.int .u8 kd) ∧ w = w') (HB : ∀ w, Calls Tryz.prog 64 #[.string s] w fun e w' => e = .returned (.tuple #[.int .u8 0, .bool false]) ∧ w = w') (HP : ∀ w, Calls Tryz.prog 62 #[.string s] w fun e w' => ∃ b, e = .returned (.slice (some ⟨b, 0, none⟩) 1 1) ∧ w.heap.size ≤ b ∧ w'.heap[b]? = some (.cells #[.string u] 9 (0, 0)) ∧ Below w.heap.size w w') (ih : ∀ w, Calls Tryz.prog 35 #[.string u, .int .u8 (a.toNat : Int)] w fun e w' => e = .returned (.bool r1) ∧ Below w.heap.size w w') (w : World) : Calls Tryz.prog 35 #[.string s, .int .u8 (a.toNat : Int)] w fun e w' => e = .returned (.bool r1) ∧ Below w.heap.size w w' := by
  have XK := Lib.hid HK
  have XB := Lib.hid HB
  have XP := Lib.hid HP
  have I1 := Lib.hid ih
  clear HK HB HP ih
  have bl : Below w.heap.size w w := Below.refl _ _
  cases r1
  · go_enter Tryz.func35, Tryz.ntmps35
    go_wp2_with fail
    refine (XK.out _).mono ?_
    rintro e w2 ⟨rfl, rfl⟩
    go_wp2_with fail
    refine (XB.out _).mono ?_
    rintro e w2 ⟨rfl, rfl⟩
    go_wp2_with fail
    refine (XP.out _).mono ?_
    rintro e w3 ⟨b, rfl, hb, hh, b3⟩
    replace bl := below_trans bl b3 bl.size
    clear b3
    have cu := cellOf1 hh
    have Hh := Lib.hid hh
    clear hh
    go_wp2_with fail
    refine wp_loop_rounds 2 ?_
    rw [rounds_succ]
    go_wp2_with fail
    refine (I1.out _).mono ?_
    rintro e w4 ⟨rfl, b4⟩
    have Hh := Lib.hid ((b4.block _ (lt_of_block Hh.out)).trans Hh.out)
    replace bl := below_trans bl b4 bl.size
    clear b4 cu
    go_wp2_with fail
    rw [rounds_succ]
    go_wp2_with fail
    go_ret
    exact ⟨rfl, bl⟩
  · go_enter Tryz.func35, Tryz.ntmps35
    go_wp2_with fail
    refine (XK.out _).mono ?_
    rintro e w2 ⟨rfl, rfl⟩
    go_wp2_with fail
    refine (XB.out _).mono ?_
    rintro e w2 ⟨rfl, rfl⟩
    go_wp2_with fail
    refine (XP.out _).mono ?_
    rintro e w3 ⟨b, rfl, hb, hh, b3⟩
    replace bl := below_trans bl b3 bl.size
    clear b3
    have cu := cellOf1 hh
    have Hh := Lib.hid hh
    clear hh
    go_wp2_with fail
    refine wp_loop_rounds 2 ?_
    rw [rounds_succ]
    go_wp2_with fail
    refine (I1.out _).mono ?_
    rintro e w4 ⟨rfl, b4⟩
    have Hh := Lib.hid ((b4.block _ (lt_of_block Hh.out)).trans Hh.out)
    replace bl := below_trans bl b4 bl.size
    clear b4 cu
    go_wp2_with fail
    go_ret
    exact ⟨rfl, bl⟩
set_option maxHeartbeats 2000000 in
theorem sr_two (s : ByteArray) (a : UInt8) (kd : Int) (u : ByteArray) (r1 : Bool) (v : ByteArray) (r2 : Bool) (k42 : (kd == 42) = false) (HK : ∀ w, Calls Tryz.prog 66 #[.string s] w fun e w' => e = .returned (.int .u8 kd) ∧ w = w') (HB : ∀ w, Calls Tryz.prog 64 #[.string s] w fun e w' => e = .returned (.tuple #[.int .u8 0, .bool false]) ∧ w = w') (HP : ∀ w, Calls Tryz.prog 62 #[.string s] w fun e w' => ∃ b, e = .returned (.slice (some ⟨b, 0, none⟩) 2 2) ∧ w.heap.size ≤ b ∧ w'.heap[b]? = some (.cells #[.string u, .string v] 9 (0, 0)) ∧ Below w.heap.size w w') (ih : ∀ w, Calls Tryz.prog 35 #[.string u, .int .u8 (a.toNat : Int)] w fun e w' => e = .returned (.bool r1) ∧ Below w.heap.size w w') (ih2 : ∀ w, Calls Tryz.prog 35 #[.string v, .int .u8 (a.toNat : Int)] w fun e w' => e = .returned (.bool r2) ∧ Below w.heap.size w w') (w : World) : Calls Tryz.prog 35 #[.string s, .int .u8 (a.toNat : Int)] w fun e w' => e = .returned (.bool (r1 || r2)) ∧ Below w.heap.size w w' := by
  have XK := Lib.hid HK
  have XB := Lib.hid HB
  have XP := Lib.hid HP
  have I1 := Lib.hid ih
  have I2 := Lib.hid ih2
  clear HK HB HP ih ih2
  have bl : Below w.heap.size w w := Below.refl _ _
  cases r1
  · cases r2
    · go_enter Tryz.func35, Tryz.ntmps35
      go_wp2_with fail
      refine (XK.out _).mono ?_
      rintro e w2 ⟨rfl, rfl⟩
      go_wp2_with fail
      refine (XB.out _).mono ?_
      rintro e w2 ⟨rfl, rfl⟩
      go_wp2_with fail
      refine (XP.out _).mono ?_
      rintro e w3 ⟨b, rfl, hb, hh, b3⟩
      replace bl := below_trans bl b3 bl.size
      clear b3
      have cu := cellOf2a hh
      have Hh := Lib.hid hh
      clear hh
      go_wp2_with fail
      refine wp_loop_rounds 3 ?_
      rw [rounds_succ]
      go_wp2_with fail
      refine (I1.out _).mono ?_
      rintro e w4 ⟨rfl, b4⟩
      have Hh := Lib.hid ((b4.block _ (lt_of_block Hh.out)).trans Hh.out)
      replace bl := below_trans bl b4 bl.size
      clear b4 cu
      have cu := cellOf2b Hh.out
      go_wp2_with fail
      rw [rounds_succ]
      go_wp2_with fail
      refine (I2.out _).mono ?_
      rintro e w4 ⟨rfl, b4⟩
      have Hh := Lib.hid ((b4.block _ (lt_of_block Hh.out)).trans Hh.out)
      replace bl := below_trans bl b4 bl.size
      clear b4 cu
      go_wp2_with fail
      rw [rounds_succ]
      go_wp2_with fail
      go_ret
      exact ⟨rfl, bl⟩
    · go_enter Tryz.func35, Tryz.ntmps35
      go_wp2_with fail
      refine (XK.out _).mono ?_
      rintro e w2 ⟨rfl, rfl⟩
      go_wp2_with fail
      refine (XB.out _).mono ?_
      rintro e w2 ⟨rfl, rfl⟩
      go_wp2_with fail
      refine (XP.out _).mono ?_
      rintro e w3 ⟨b, rfl, hb, hh, b3⟩
      replace bl := below_trans bl b3 bl.size
      clear b3
      have cu := cellOf2a hh
      have Hh := Lib.hid hh
      clear hh
      go_wp2_with fail
      refine wp_loop_rounds 3 ?_
      rw [rounds_succ]
      go_wp2_with fail
      refine (I1.out _).mono ?_
      rintro e w4 ⟨rfl, b4⟩
      have Hh := Lib.hid ((b4.block _ (lt_of_block Hh.out)).trans Hh.out)
      replace bl := below_trans bl b4 bl.size
      clear b4 cu
      have cu := cellOf2b Hh.out
      go_wp2_with fail
      rw [rounds_succ]
      go_wp2_with fail
      refine (I2.out _).mono ?_
      rintro e w4 ⟨rfl, b4⟩
      have Hh := Lib.hid ((b4.block _ (lt_of_block Hh.out)).trans Hh.out)
      replace bl := below_trans bl b4 bl.size
      clear b4 cu
      go_wp2_with fail
      go_ret
      exact ⟨rfl, bl⟩
  · go_enter Tryz.func35, Tryz.ntmps35
    go_wp2_with fail
    refine (XK.out _).mono ?_
    rintro e w2 ⟨rfl, rfl⟩
    go_wp2_with fail
    refine (XB.out _).mono ?_
    rintro e w2 ⟨rfl, rfl⟩
    go_wp2_with fail
    refine (XP.out _).mono ?_
    rintro e w3 ⟨b, rfl, hb, hh, b3⟩
    replace bl := below_trans bl b3 bl.size
    clear b3
    have cu := cellOf2a hh
    have Hh := Lib.hid hh
    clear hh
    go_wp2_with fail
    refine wp_loop_rounds 3 ?_
    rw [rounds_succ]
    go_wp2_with fail
    refine (I1.out _).mono ?_
    rintro e w4 ⟨rfl, b4⟩
    have Hh := Lib.hid ((b4.block _ (lt_of_block Hh.out)).trans Hh.out)
    replace bl := below_trans bl b4 bl.size
    clear b4 cu
    go_wp2_with fail
    go_ret
    exact ⟨rfl, bl⟩
set_option maxHeartbeats 2000000 in
theorem sr_same (s : ByteArray) (a : UInt8) (kd : Int) (u : ByteArray) (r1 : Bool) (k42 : (kd == 42) = false) (HK : ∀ w, Calls Tryz.prog 66 #[.string s] w fun e w' => e = .returned (.int .u8 kd) ∧ w = w') (x : UInt8) (qx : ((x.toNat : Int) == (a.toNat : Int)) = true) (HB : ∀ w, Calls Tryz.prog 64 #[.string s] w fun e w' => e = .returned (.tuple #[.int .u8 (x.toNat : Int), .bool true]) ∧ w = w') (w : World) : Calls Tryz.prog 35 #[.string s, .int .u8 (a.toNat : Int)] w fun e w' => e = .returned (.bool false) ∧ Below w.heap.size w w' := by
  have XK := Lib.hid HK
  have XB := Lib.hid HB
  clear HK HB
  have bl : Below w.heap.size w w := Below.refl _ _
  go_enter Tryz.func35, Tryz.ntmps35
  go_wp2_with fail
  refine (XK.out _).mono ?_
  rintro e w2 ⟨rfl, rfl⟩
  go_wp2_with fail
  refine (XB.out _).mono ?_
  rintro e w2 ⟨rfl, rfl⟩
  go_wp2_with fail
  go_ret
  exact ⟨rfl, bl⟩
set_option maxHeartbeats 2000000 in
theorem sr_diff (s : ByteArray) (a : UInt8) (kd : Int) (u : ByteArray) (r1 : Bool) (k42 : (kd == 42) = false) (HK : ∀ w, Calls Tryz.prog 66 #[.string s] w fun e w' => e = .returned (.int .u8 kd) ∧ w = w') (x : UInt8) (qx : ((x.toNat : Int) == (a.toNat : Int)) = false) (HB : ∀ w, Calls Tryz.prog 64 #[.string s] w fun e w' => e = .returned (.tuple #[.int .u8 (x.toNat : Int), .bool true]) ∧ w = w') (HP : ∀ w, Calls Tryz.prog 62 #[.string s] w fun e w' => ∃ b, e = .returned (.slice (some ⟨b, 0, none⟩) 1 1) ∧ w.heap.size ≤ b ∧ w'.heap[b]? = some (.cells #[.string u] 9 (0, 0)) ∧ Below w.heap.size w w') (ih : ∀ w, Calls Tryz.prog 35 #[.string u, .int .u8 (a.toNat : Int)] w fun e w' => e = .returned (.bool r1) ∧ Below w.heap.size w w') (w : World) : Calls Tryz.prog 35 #[.string s, .int .u8 (a.toNat : Int)] w fun e w' => e = .returned (.bool r1) ∧ Below w.heap.size w w' := by
  have XK := Lib.hid HK
  have XB := Lib.hid HB
  have XP := Lib.hid HP
  have I1 := Lib.hid ih
  clear HK HB HP ih
  have bl : Below w.heap.size w w := Below.refl _ _
  cases r1
  · go_enter Tryz.func35, Tryz.ntmps35
    go_wp2_with fail
    refine (XK.out _).mono ?_
    rintro e w2 ⟨rfl, rfl⟩
    go_wp2_with fail
    refine (XB.out _).mono ?_
    rintro e w2 ⟨rfl, rfl⟩
    go_wp2_with fail
    refine (XP.out _).mono ?_
    rintro e w3 ⟨b, rfl, hb, hh, b3⟩
    replace bl := below_trans bl b3 bl.size
    clear b3
    have cu := cellOf1 hh
    have Hh := Lib.hid hh
    clear hh
    go_wp2_with fail
    refine wp_loop_rounds 2 ?_
    rw [rounds_succ]
    go_wp2_with fail
    refine (I1.out _).mono ?_
    rintro e w4 ⟨rfl, b4⟩
    have Hh := Lib.hid ((b4.block _ (lt_of_block Hh.out)).trans Hh.out)
    replace bl := below_trans bl b4 bl.size
    clear b4 cu
    go_wp2_with fail
    rw [rounds_succ]
    go_wp2_with fail
    go_ret
    exact ⟨rfl, bl⟩
  · go_enter Tryz.func35, Tryz.ntmps35
    go_wp2_with fail
    refine (XK.out _).mono ?_
    rintro e w2 ⟨rfl, rfl⟩
    go_wp2_with fail
    refine (XB.out _).mono ?_
    rintro e w2 ⟨rfl, rfl⟩
    go_wp2_with fail
    refine (XP.out _).mono ?_
    rintro e w3 ⟨b, rfl, hb, hh, b3⟩
    replace bl := below_trans bl b3 bl.size
    clear b3
    have cu := cellOf1 hh
    have Hh := Lib.hid hh
    clear hh
    go_wp2_with fail
    refine wp_loop_rounds 2 ?_
    rw [rounds_succ]
    go_wp2_with fail
    refine (I1.out _).mono ?_
    rintro e w4 ⟨rfl, b4⟩
    have Hh := Lib.hid ((b4.block _ (lt_of_block Hh.out)).trans Hh.out)
    replace bl := below_trans bl b4 bl.size
    clear b4 cu
    go_wp2_with fail
    go_ret
    exact ⟨rfl, bl⟩
set_option maxHeartbeats 2000000 in
theorem sr_rep (s : ByteArray) (a : UInt8) (kd : Int) (u : ByteArray) (r1 : Bool) (k42 : (kd == 42) = true) (HK : ∀ w, Calls Tryz.prog 66 #[.string s] w fun e w' => e = .returned (.int .u8 kd) ∧ w = w') (F : ByteArray) (q : Bool) (HF : ∀ w, Calls Tryz.prog 32 #[.string s] w fun e w' => e = .returned (.string F) ∧ Below w.heap.size w w') (HI : ∀ w, Calls Tryz.prog 70 #[.string F, .int .u8 (a.toNat : Int)] w fun e w' => e = .returned (.bool q) ∧ w = w') (HB : ∀ w, Calls Tryz.prog 64 #[.string s] w fun e w' => e = .returned (.tuple #[.int .u8 0, .bool false]) ∧ w = w') (HP : ∀ w, Calls Tryz.prog 62 #[.string s] w fun e w' => ∃ b, e = .returned (.slice (some ⟨b, 0, none⟩) 1 1) ∧ w.heap.size ≤ b ∧ w'.heap[b]? = some (.cells #[.string u] 9 (0, 0)) ∧ Below w.heap.size w w') (ih : ∀ w, Calls Tryz.prog 35 #[.string u, .int .u8 (a.toNat : Int)] w fun e w' => e = .returned (.bool r1) ∧ Below w.heap.size w w') (w : World) : Calls Tryz.prog 35 #[.string s, .int .u8 (a.toNat : Int)] w fun e w' => e = .returned (.bool (q || r1)) ∧ Below w.heap.size w w' := by
  have XK := Lib.hid HK
  have XB := Lib.hid HB
  have XF := Lib.hid HF
  have XI := Lib.hid HI
  have XP := Lib.hid HP
  have I1 := Lib.hid ih
  clear HK HB HF HI HP ih
  have bl : Below w.heap.size w w := Below.refl _ _
  cases q
  · cases r1
    · go_enter Tryz.func35, Tryz.ntmps35
      go_wp2_with fail
      refine (XK.out _).mono ?_
      rintro e w2 ⟨rfl, rfl⟩
      go_wp2_with fail
      refine (XF.out _).mono ?_
      rintro e w2 ⟨rfl, b2⟩
      replace bl := below_trans bl b2 bl.size
      clear b2
      go_wp2_with fail
      refine (XI.out _).mono ?_
      rintro e w3 ⟨rfl, rfl⟩
      go_wp2_with fail
      refine (XB.out _).mono ?_
      rintro e w2 ⟨rfl, rfl⟩
      go_wp2_with fail
      refine (XP.out _).mono ?_
      rintro e w3 ⟨b, rfl, hb, hh, b3⟩
      replace bl := below_trans bl b3 bl.size
      clear b3
      have cu := cellOf1 hh
      have Hh := Lib.hid hh
      clear hh
      go_wp2_with fail
      refine wp_loop_rounds 2 ?_
      rw [rounds_succ]
      go_wp2_with fail
      refine (I1.out _).mono ?_
      rintro e w4 ⟨rfl, b4⟩
      have Hh := Lib.hid ((b4.block _ (lt_of_block Hh.out)).trans Hh.out)
      replace bl := below_trans bl b4 bl.size
      clear b4 cu
      go_wp2_with fail
      rw [rounds_succ]
      go_wp2_with fail
      go_ret
      exact ⟨rfl, bl⟩
    · go_enter Tryz.func35, Tryz.ntmps35
      go_wp2_with fail
      refine (XK.out _).mono ?_
      rintro e w2 ⟨rfl, rfl⟩
      go_wp2_with fail
      refine (XF.out _).mono ?_
      rintro e w2 ⟨rfl, b2⟩
      replace bl := below_trans bl b2 bl.size
      clear b2
      go_wp2_with fail
      refine (XI.out _).mono ?_
      rintro e w3 ⟨rfl, rfl⟩
      go_wp2_with fail
      refine (XB.out _).mono ?_
      rintro e w2 ⟨rfl, rfl⟩
      go_wp2_with fail
      refine (XP.out _).mono ?_
      rintro e w3 ⟨b, rfl, hb, hh, b3⟩
      replace bl := below_trans bl b3 bl.size
      clear b3
      have cu := cellOf1 hh
      have Hh := Lib.hid hh
      clear hh
      go_wp2_with fail
      refine wp_loop_rounds 2 ?_
      rw [rounds_succ]
      go_wp2_with fail
      refine (I1.out _).mono ?_
      rintro e w4 ⟨rfl, b4⟩
      have Hh := Lib.hid ((b4.block _ (lt_of_block Hh.out)).trans Hh.out)
      replace bl := below_trans bl b4 bl.size
      clear b4 cu
      go_wp2_with fail
      go_ret
      exact ⟨rfl, bl⟩
  · go_enter Tryz.func35, Tryz.ntmps35
    go_wp2_with fail
    refine (XK.out _).mono ?_
    rintro e w2 ⟨rfl, rfl⟩
    go_wp2_with fail
    refine (XF.out _).mono ?_
    rintro e w2 ⟨rfl, b2⟩
    replace bl := below_trans bl b2 bl.size
    clear b2
    go_wp2_with fail
    refine (XI.out _).mono ?_
    rintro e w3 ⟨rfl, rfl⟩
    go_wp2_with fail
    go_ret
    exact ⟨rfl, bl⟩
theorem srt_len6 {F : List UInt8} (hs : Srt F) : F.length ≤ 256 := by
  have key : ∀ (G : List UInt8) (b : Nat), Srt G → (∀ x ∈ G, b ≤ x.toNat) → G.length + b ≤ 256 ∨ G = [] := by
    intro G
    induction G with
    | nil => intro b _ _; exact .inr rfl
    | cons c cs ih =>
      intro b hG hx
      left
      obtain ⟨h1, h2⟩ := List.pairwise_cons.1 hG
      have hc := hx c (by simp)
      have hc2 := c.toNat_lt
      rcases ih (c.toNat + 1) h2 (fun x hx2 => by have := (u8_lt _ _).1 (h1 x hx2); omega) with h | h
      · simp; omega
      · subst h; simp; omega
  rcases key F 0 hs (fun x _ => Nat.zero_le _) with h | h
  · omega
  · subst h; simp
theorem soRepeated_any (a : UInt8) (t : Tm) : t.ok nmE = true → t.pr.length ≤ 700 → ∀ w, Calls Tryz.prog 35 #[.string (S t), .int .u8 (a.toNat : Int)] w fun e w' => e = .returned (.bool ((t.vis a).any (us4 a))) ∧ Below w.heap.size w w' := by
  induction t with
  | nil =>
    intro ho hl w
    have h := sr_nil _ a _ (by simp only [Tm.kind]; decide) (tmKind_any .nil ho hl) (tmBinds_any .nil ho hl) (tmParts_any .nil ho hl) w
    rw [show (Tm.nil.vis a).any (us4 a) = false from by simp [Tm.vis, us4]]
    exact h
  | snd x y p ih =>
    intro ho hl w
    have ho' := ho
    simp only [Tm.ok, Bool.and_eq_true] at ho'
    have hl' := hl
    simp only [Tm.pr, List.length_cons, List.length_append, List.length_nil] at hl'
    have h := sr_one _ a _ _ _ (by simp only [Tm.kind]; decide) (tmKind_any (.snd x y p) ho hl) (tmBinds_any (.snd x y p) ho hl) (tmParts_any (.snd x y p) ho hl) (ih ho'.2 (by omega)) w
    rw [show ((Tm.snd x y p).vis a).any (us4 a) = (p.vis a).any (us4 a) from by simp [Tm.vis, us4]]
    exact h
  | mat x y p ih =>
    intro ho hl w
    have ho' := ho
    simp only [Tm.ok, Bool.and_eq_true] at ho'
    have hl' := hl
    simp only [Tm.pr, List.length_cons, List.length_append, List.length_nil] at hl'
    have h := sr_one _ a _ _ _ (by simp only [Tm.kind]; decide) (tmKind_any (.mat x y p) ho hl) (tmBinds_any (.mat x y p) ho hl) (tmParts_any (.mat x y p) ho hl) (ih ho'.2 (by omega)) w
    rw [show ((Tm.mat x y p).vis a).any (us4 a) = (p.vis a).any (us4 a) from by simp [Tm.vis, us4]]
    exact h
  | tau p ih =>
    intro ho hl w
    have ho' := ho
    simp only [Tm.ok] at ho'
    have hl' := hl
    simp only [Tm.pr, List.length_cons, List.length_append, List.length_nil] at hl'
    have h := sr_one _ a _ _ _ (by simp only [Tm.kind]; decide) (tmKind_any (.tau p) ho hl) (tmBinds_any (.tau p) ho hl) (tmParts_any (.tau p) ho hl) (ih ho' (by omega)) w
    rw [show ((Tm.tau p).vis a).any (us4 a) = (p.vis a).any (us4 a) from by simp [Tm.vis, us4]]
    exact h
  | rcv x y p ih =>
    intro ho hl w
    have ho' := ho
    simp only [Tm.ok, Bool.and_eq_true] at ho'
    have hl' := hl
    simp only [Tm.pr, List.length_cons, List.length_append, List.length_nil] at hl'
    by_cases e : y = a
    · have h := sr_same _ a _ ⟨#[]⟩ false (by simp only [Tm.kind]; decide) (tmKind_any (.rcv x y p) ho hl) y (by rw [u8b, e]; simp) (tmBinds_any (.rcv x y p) ho hl) w
      rw [show ((Tm.rcv x y p).vis a).any (us4 a) = false from by simp [Tm.vis, us4, e]]
      exact h
    · have h := sr_diff _ a _ _ _ (by simp only [Tm.kind]; decide) (tmKind_any (.rcv x y p) ho hl) y (by rw [u8b]; simp [e]) (tmBinds_any (.rcv x y p) ho hl) (tmParts_any (.rcv x y p) ho hl) (ih ho'.2 (by omega)) w
      rw [show ((Tm.rcv x y p).vis a).any (us4 a) = (p.vis a).any (us4 a) from by simp [Tm.vis, us4, e]]
      exact h
  | own x p ih =>
    intro ho hl w
    have ho' := ho
    simp only [Tm.ok, Bool.and_eq_true] at ho'
    have hl' := hl
    simp only [Tm.pr, List.length_cons, List.length_append, List.length_nil] at hl'
    by_cases e : x = a
    · have h := sr_same _ a _ ⟨#[]⟩ false (by simp only [Tm.kind]; decide) (tmKind_any (.own x p) ho hl) x (by rw [u8b, e]; simp) (tmBinds_any (.own x p) ho hl) w
      rw [show ((Tm.own x p).vis a).any (us4 a) = false from by simp [Tm.vis, us4, e]]
      exact h
    · have h := sr_diff _ a _ _ _ (by simp only [Tm.kind]; decide) (tmKind_any (.own x p) ho hl) x (by rw [u8b]; simp [e]) (tmBinds_any (.own x p) ho hl) (tmParts_any (.own x p) ho hl) (ih ho'.2 (by omega)) w
      rw [show ((Tm.own x p).vis a).any (us4 a) = (p.vis a).any (us4 a) from by simp [Tm.vis, us4, e]]
      exact h
  | sum p q ih ih2 =>
    intro ho hl w
    have ho' := ho
    simp only [Tm.ok, Bool.and_eq_true] at ho'
    have hl' := hl
    simp only [Tm.pr, List.length_cons, List.length_append, List.length_nil] at hl'
    have h := sr_two _ a _ _ _ _ _ (by simp only [Tm.kind]; decide) (tmKind_any (.sum p q) ho hl) (tmBinds_any (.sum p q) ho hl) (tmParts_any (.sum p q) ho hl) (ih ho'.1 (by omega)) (ih2 ho'.2 (by omega)) w
    rw [show ((Tm.sum p q).vis a).any (us4 a) = ((p.vis a).any (us4 a) || (q.vis a).any (us4 a)) from by simp [Tm.vis, us4]]
    exact h
  | par p q ih ih2 =>
    intro ho hl w
    have ho' := ho
    simp only [Tm.ok, Bool.and_eq_true] at ho'
    have hl' := hl
    simp only [Tm.pr, List.length_cons, List.length_append, List.length_nil] at hl'
    have h := sr_two _ a _ _ _ _ _ (by simp only [Tm.kind]; decide) (tmKind_any (.par p q) ho hl) (tmBinds_any (.par p q) ho hl) (tmParts_any (.par p q) ho hl) (ih ho'.1 (by omega)) (ih2 ho'.2 (by omega)) w
    rw [show ((Tm.par p q).vis a).any (us4 a) = ((p.vis a).any (us4 a) || (q.vis a).any (us4 a)) from by simp [Tm.vis, us4]]
    exact h
  | rep p ih =>
    intro ho hl w
    have ho' := ho
    simp only [Tm.ok] at ho'
    have hl' := hl
    simp only [Tm.pr, List.length_cons, List.length_append, List.length_nil] at hl'
    have hI := fun w => tmIn_any (B (Tm.rep p).free) (a.toNat : Int) w (by rw [B_size]; have := srt_len6 (srt_free (.rep p)); omega)
    rw [inB_of6, show decide (a ∈ (B (Tm.rep p).free).data.toList) = us4 a (.rep p) from decide_eq_decide.2 (mf_rep p a)] at hI
    have h := sr_rep _ a _ _ _ (by simp only [Tm.kind]; decide) (tmKind_any (.rep p) ho hl) _ _ (tmFree_any (.rep p) ho hl) hI (tmBinds_any (.rep p) ho hl) (tmParts_any (.rep p) ho hl) (ih ho' (by omega)) w
    rw [show ((Tm.rep p).vis a).any (us4 a) = (us4 a (.rep p) || (p.vis a).any (us4 a)) from by simp [Tm.vis]]
    exact h
end Go.Proofs.YtlhmjcfnfefliaaGreat.T1

/- What both sides answer where uses of a name are asked. MADE BY gen_Qj.py. -/
namespace Go.Proofs.YtlhmjcfnfefliaaGreat.T1
open Go.RowKit
set_option maxRecDepth 100000
set_option linter.unusedVariables false
set_option linter.unusedSimpArgs false

theorem go7 {u v w : World} (h : Below u.heap.size u v) (k : Below v.heap.size v w) : Below u.heap.size u w := below_trans h k h.size
theorem results_tmp4 {fn : Func} {t u v x : Tmp} (h : fn.results = #[.tmp t, .tmp u, .tmp v, .tmp x]) (tmps : Array Value) (P : Program) (w : World) :
    (results fn tmps).run P w = .ok (.tuple #[tmps.getD t undef, tmps.getD u undef, tmps.getD v undef, tmps.getD x undef]) w := by simp [results, h]
def ut (p q : Bool) : ByteArray := match p, q with
  | true, true => ⟨#[33, 63]⟩
  | true, false => ⟨#[33]⟩
  | false, true => ⟨#[63]⟩
  | false, false => ⟨#[]⟩
set_option maxHeartbeats 2000000 in
theorem us_s0 (s k : ByteArray) (n : Int) (HP : (∀ w, Calls Tryz.prog 29 #[.string s, .string k] w fun e w' => e = .returned (.tuple #[.int .i64 n, .bool false]) ∧ Below w.heap.size w w')) (w : World) : Calls Tryz.prog 16 #[.string s, .string k] w fun e w' => e = .returned (.tuple #[.string ⟨#[]⟩, .bool false]) ∧ Below w.heap.size w w' := by
  have XHP := Lib.hid HP
  clear HP
  go_enter Tryz.func16, Tryz.ntmps16
  have bl : Below w.heap.size w w := Below.refl _ _
  go_wp2_with fail
  refine (XHP.out _).mono ?_
  rintro e w1 ⟨rfl, b1⟩
  replace bl := go7 bl b1
  clear b1
  go_wp2_with fail
  go_ret2
  exact ⟨rfl, bl⟩
set_option maxHeartbeats 2000000 in
theorem cu_s0 (s k : ByteArray) (n : Int) (HP : (∀ w, Calls Tryz.prog 29 #[.string s, .string k] w fun e w' => e = .returned (.tuple #[.int .i64 n, .bool false]) ∧ Below w.heap.size w w')) (w : World) : Calls Tryz.prog 14 #[.string s, .string k] w fun e w' => e = .returned (.tuple #[.int .i64 0, .int .i64 0, .int .i64 0, .bool false]) ∧ Below w.heap.size w w' := by
  have XHP := Lib.hid HP
  clear HP
  go_enter Tryz.func14, Tryz.ntmps14
  have bl : Below w.heap.size w w := Below.refl _ _
  go_wp2_with fail
  refine (XHP.out _).mono ?_
  rintro e w1 ⟨rfl, b1⟩
  replace bl := go7 bl b1
  clear b1
  go_wp2_with fail
  (try simp only [Exit.inBlock, Exit.then]); refine bodyPost_ret (results_tmp4 rfl _ _ _) rfl ?_
  exact ⟨rfl, bl⟩
set_option maxHeartbeats 2000000 in
theorem il_s0 (s k : ByteArray) (n : Int) (HP : (∀ w, Calls Tryz.prog 29 #[.string s, .string k] w fun e w' => e = .returned (.tuple #[.int .i64 n, .bool false]) ∧ Below w.heap.size w w')) (w : World) : Calls Tryz.prog 18 #[.string s, .string k] w fun e w' => e = .returned (.tuple #[.bool false, .bool false]) ∧ Below w.heap.size w w' := by
  have XHP := Lib.hid HP
  clear HP
  go_enter Tryz.func18, Tryz.ntmps18
  have bl : Below w.heap.size w w := Below.refl _ _
  go_wp2_with fail
  refine (XHP.out _).mono ?_
  rintro e w1 ⟨rfl, b1⟩
  replace bl := go7 bl b1
  clear b1
  go_wp2_with fail
  go_ret2
  exact ⟨rfl, bl⟩
set_option maxHeartbeats 2000000 in
theorem us_s1 (s k : ByteArray) (c : UInt8) (hk : 0 < k.size) (hc : ((k[0]'hk).toNat : Int) = (c.toNat : Int)) (n x0 x1 x2 x3 : Int) (p q : Bool) (hp : p = true ↔ 0 < x0) (hq : q = true ↔ 0 < x1) (HP : (∀ w, Calls Tryz.prog 29 #[.string s, .string k] w fun e w' => e = .returned (.tuple #[.int .i64 n, .bool true]) ∧ Below w.heap.size w w')) (HU : (∀ w, Calls Tryz.prog 34 #[.string s, .int .u8 (c.toNat : Int)] w fun e w' => ∃ g, e = .returned (.slice (some ⟨g, 0, none⟩) 4 4) ∧ w.heap.size ≤ g ∧ w'.heap[g]? = some (.cells #[.int .i64 x0, .int .i64 x1, .int .i64 x2, .int .i64 x3] 3 (0, 0)) ∧ Below w.heap.size w w')) (w : World) : Calls Tryz.prog 16 #[.string s, .string k] w fun e w' => e = .returned (.tuple #[.string (ut p q), .bool true]) ∧ Below w.heap.size w w' := by
  have XHP := Lib.hid HP
  have XHU := Lib.hid HU
  clear HP HU
  have h0 : Hid (p = true ↔ 0 < x0) := hp
  have h1 : Hid (q = true ↔ 0 < x1) := hq
  clear hp hq
  cases p
  · have g0 : ¬ 0 < x0 := fun h => by have := h0.out.2 h; cases this
    cases q
    · have g1 : ¬ 0 < x1 := fun h => by have := h1.out.2 h; cases this
      go_enter Tryz.func16, Tryz.ntmps16
      have bl : Below w.heap.size w w := Below.refl _ _
      go_wp2_with fail
      refine (XHP.out _).mono ?_
      rintro e w1 ⟨rfl, b1⟩
      replace bl := go7 bl b1
      clear b1
      go_wp2_with fail
      refine (XHU.out _).mono ?_
      rintro e w1 ⟨g, rfl, hg, nb, b1⟩
      replace bl := go7 bl b1
      have m0 := cellsAt nb 0 _ rfl
      have m1 := cellsAt nb 1 _ rfl
      have m2 := cellsAt nb 2 _ rfl
      have m3 := cellsAt nb 3 _ rfl
      clear b1
      go_wp2_with fail
      go_ret2
      exact ⟨rfl, bl⟩
    · have g1 : 0 < x1 := h1.out.1 rfl
      go_enter Tryz.func16, Tryz.ntmps16
      have bl : Below w.heap.size w w := Below.refl _ _
      go_wp2_with fail
      refine (XHP.out _).mono ?_
      rintro e w1 ⟨rfl, b1⟩
      replace bl := go7 bl b1
      clear b1
      go_wp2_with fail
      refine (XHU.out _).mono ?_
      rintro e w1 ⟨g, rfl, hg, nb, b1⟩
      replace bl := go7 bl b1
      have m0 := cellsAt nb 0 _ rfl
      have m1 := cellsAt nb 1 _ rfl
      have m2 := cellsAt nb 2 _ rfl
      have m3 := cellsAt nb 3 _ rfl
      clear b1
      go_wp2_with fail
      go_ret2
      exact ⟨rfl, bl⟩
  · have g0 : 0 < x0 := h0.out.1 rfl
    cases q
    · have g1 : ¬ 0 < x1 := fun h => by have := h1.out.2 h; cases this
      go_enter Tryz.func16, Tryz.ntmps16
      have bl : Below w.heap.size w w := Below.refl _ _
      go_wp2_with fail
      refine (XHP.out _).mono ?_
      rintro e w1 ⟨rfl, b1⟩
      replace bl := go7 bl b1
      clear b1
      go_wp2_with fail
      refine (XHU.out _).mono ?_
      rintro e w1 ⟨g, rfl, hg, nb, b1⟩
      replace bl := go7 bl b1
      have m0 := cellsAt nb 0 _ rfl
      have m1 := cellsAt nb 1 _ rfl
      have m2 := cellsAt nb 2 _ rfl
      have m3 := cellsAt nb 3 _ rfl
      clear b1
      go_wp2_with fail
      go_ret2
      exact ⟨rfl, bl⟩
    · have g1 : 0 < x1 := h1.out.1 rfl
      go_enter Tryz.func16, Tryz.ntmps16
      have bl : Below w.heap.size w w := Below.refl _ _
      go_wp2_with fail
      refine (XHP.out _).mono ?_
      rintro e w1 ⟨rfl, b1⟩
      replace bl := go7 bl b1
      clear b1
      go_wp2_with fail
      refine (XHU.out _).mono ?_
      rintro e w1 ⟨g, rfl, hg, nb, b1⟩
      replace bl := go7 bl b1
      have m0 := cellsAt nb 0 _ rfl
      have m1 := cellsAt nb 1 _ rfl
      have m2 := cellsAt nb 2 _ rfl
      have m3 := cellsAt nb 3 _ rfl
      clear b1
      go_wp2_with fail
      go_ret2
      exact ⟨rfl, bl⟩
set_option maxHeartbeats 2000000 in
theorem us_i (s k : ByteArray) (x0 x1 x2 : Int) (b3 b4 ok : Bool) (p q : Bool) (hp : p = true ↔ 0 < x0) (hq : q = true ↔ 0 < x1) (HU : (∀ w, Calls Tryz.prog 33 #[.string s, .string k] w fun e w' => e = .returned (.tuple #[.agg #[.int .i64 x0, .int .i64 x1, .int .i64 x2, .bool b3, .bool b4], .bool ok]) ∧ Below w.heap.size w w')) (w : World) : Calls Tryz.prog 15 #[.string s, .string k] w fun e w' => e = .returned (.tuple #[.string (ut p q), .bool ok]) ∧ Below w.heap.size w w' := by
  have XHU := Lib.hid HU
  clear HU
  have h0 : Hid (p = true ↔ 0 < x0) := hp
  have h1 : Hid (q = true ↔ 0 < x1) := hq
  clear hp hq
  cases p
  · have g0 : ¬ 0 < x0 := fun h => by have := h0.out.2 h; cases this
    cases q
    · have g1 : ¬ 0 < x1 := fun h => by have := h1.out.2 h; cases this
      go_enter Tryz.func15, Tryz.ntmps15
      have bl : Below w.heap.size w w := Below.refl _ _
      go_wp2_with fail
      refine (XHU.out _).mono ?_
      rintro e w1 ⟨rfl, b1⟩
      replace bl := go7 bl b1
      clear b1
      go_wp2_with fail
      go_ret2
      exact ⟨rfl, bl.alloc bl.size _⟩
    · have g1 : 0 < x1 := h1.out.1 rfl
      go_enter Tryz.func15, Tryz.ntmps15
      have bl : Below w.heap.size w w := Below.refl _ _
      go_wp2_with fail
      refine (XHU.out _).mono ?_
      rintro e w1 ⟨rfl, b1⟩
      replace bl := go7 bl b1
      clear b1
      go_wp2_with fail
      go_ret2
      exact ⟨rfl, bl.alloc bl.size _⟩
  · have g0 : 0 < x0 := h0.out.1 rfl
    cases q
    · have g1 : ¬ 0 < x1 := fun h => by have := h1.out.2 h; cases this
      go_enter Tryz.func15, Tryz.ntmps15
      have bl : Below w.heap.size w w := Below.refl _ _
      go_wp2_with fail
      refine (XHU.out _).mono ?_
      rintro e w1 ⟨rfl, b1⟩
      replace bl := go7 bl b1
      clear b1
      go_wp2_with fail
      go_ret2
      exact ⟨rfl, bl.alloc bl.size _⟩
    · have g1 : 0 < x1 := h1.out.1 rfl
      go_enter Tryz.func15, Tryz.ntmps15
      have bl : Below w.heap.size w w := Below.refl _ _
      go_wp2_with fail
      refine (XHU.out _).mono ?_
      rintro e w1 ⟨rfl, b1⟩
      replace bl := go7 bl b1
      clear b1
      go_wp2_with fail
      go_ret2
      exact ⟨rfl, bl.alloc bl.size _⟩
set_option maxHeartbeats 2000000 in
theorem cu_s1 (s k : ByteArray) (c : UInt8) (hk : 0 < k.size) (hc : ((k[0]'hk).toNat : Int) = (c.toNat : Int)) (n x0 x1 x2 x3 : Int) (HP : (∀ w, Calls Tryz.prog 29 #[.string s, .string k] w fun e w' => e = .returned (.tuple #[.int .i64 n, .bool true]) ∧ Below w.heap.size w w')) (HU : (∀ w, Calls Tryz.prog 34 #[.string s, .int .u8 (c.toNat : Int)] w fun e w' => ∃ g, e = .returned (.slice (some ⟨g, 0, none⟩) 4 4) ∧ w.heap.size ≤ g ∧ w'.heap[g]? = some (.cells #[.int .i64 x0, .int .i64 x1, .int .i64 x2, .int .i64 x3] 3 (0, 0)) ∧ Below w.heap.size w w')) (w : World) : Calls Tryz.prog 14 #[.string s, .string k] w fun e w' => e = .returned (.tuple #[.int .i64 x0, .int .i64 x1, .int .i64 x2, .bool true]) ∧ Below w.heap.size w w' := by
  have XHP := Lib.hid HP
  have XHU := Lib.hid HU
  clear HP HU
  go_enter Tryz.func14, Tryz.ntmps14
  have bl : Below w.heap.size w w := Below.refl _ _
  go_wp2_with fail
  refine (XHP.out _).mono ?_
  rintro e w1 ⟨rfl, b1⟩
  replace bl := go7 bl b1
  clear b1
  go_wp2_with fail
  refine (XHU.out _).mono ?_
  rintro e w1 ⟨g, rfl, hg, nb, b1⟩
  replace bl := go7 bl b1
  have m0 := cellsAt nb 0 _ rfl
  have m1 := cellsAt nb 1 _ rfl
  have m2 := cellsAt nb 2 _ rfl
  have m3 := cellsAt nb 3 _ rfl
  clear b1
  go_wp2_with fail
  go_region
  all_goals
    go_wp2_with fail
    (try simp only [Exit.inBlock, Exit.then]); refine bodyPost_ret (results_tmp4 rfl _ _ _) rfl ?_
    exact ⟨rfl, bl.drew⟩
set_option maxHeartbeats 2000000 in
theorem cu_i (s k : ByteArray) (x0 x1 x2 : Int) (b3 b4 ok : Bool) (HU : (∀ w, Calls Tryz.prog 33 #[.string s, .string k] w fun e w' => e = .returned (.tuple #[.agg #[.int .i64 x0, .int .i64 x1, .int .i64 x2, .bool b3, .bool b4], .bool ok]) ∧ Below w.heap.size w w')) (w : World) : Calls Tryz.prog 13 #[.string s, .string k] w fun e w' => e = .returned (.tuple #[.int .i64 x0, .int .i64 x1, .int .i64 x2, .bool ok]) ∧ Below w.heap.size w w' := by
  have XHU := Lib.hid HU
  clear HU
  go_enter Tryz.func13, Tryz.ntmps13
  have bl : Below w.heap.size w w := Below.refl _ _
  go_wp2_with fail
  refine (XHU.out _).mono ?_
  rintro e w1 ⟨rfl, b1⟩
  replace bl := go7 bl b1
  clear b1
  have nb := new_block w1 (.cells #[.int .i64 x0, .int .i64 x1, .int .i64 x2, .bool b3, .bool b4] 56)
  have ba := bl.alloc bl.size (.cells #[.int .i64 x0, .int .i64 x1, .int .i64 x2, .bool b3, .bool b4] 56)
  obtain ⟨W, hW⟩ : ∃ W, W = w1.alloc (.cells #[.int .i64 x0, .int .i64 x1, .int .i64 x2, .bool b3, .bool b4] 56) := ⟨_, rfl⟩
  rw [← hW] at nb ba
  have m0 := cellsAt nb 0 _ rfl
  have m1 := cellsAt nb 1 _ rfl
  have m2 := cellsAt nb 2 _ rfl
  go_wp2_with fail
  rw [← hW]
  clear hW
  go_region
  all_goals
    go_wp2_with fail
    (try simp only [Exit.inBlock, Exit.then]); refine bodyPost_ret (results_tmp4 rfl _ _ _) rfl ?_
    exact ⟨rfl, ba.drew⟩
set_option maxHeartbeats 2000000 in
theorem il_s1 (s k : ByteArray) (c : UInt8) (hk : 0 < k.size) (hc : ((k[0]'hk).toNat : Int) = (c.toNat : Int)) (n x0 x1 x2 x3 : Int) (rp : Bool) (q0 q1 q2 q3 : Bool) (e0 : (x0 == 1) = q0) (e1 : (x1 == 1) = q1) (e2 : (x2 == 0) = q2) (e3 : (x3 == 0) = q3) (HP : (∀ w, Calls Tryz.prog 29 #[.string s, .string k] w fun e w' => e = .returned (.tuple #[.int .i64 n, .bool true]) ∧ Below w.heap.size w w')) (HU : (∀ w, Calls Tryz.prog 34 #[.string s, .int .u8 (c.toNat : Int)] w fun e w' => ∃ g, e = .returned (.slice (some ⟨g, 0, none⟩) 4 4) ∧ w.heap.size ≤ g ∧ w'.heap[g]? = some (.cells #[.int .i64 x0, .int .i64 x1, .int .i64 x2, .int .i64 x3] 3 (0, 0)) ∧ Below w.heap.size w w')) (HR : (∀ w, Calls Tryz.prog 35 #[.string s, .int .u8 (c.toNat : Int)] w fun e w' => e = .returned (.bool rp) ∧ Below w.heap.size w w')) (w : World) : Calls Tryz.prog 18 #[.string s, .string k] w fun e w' => e = .returned (.tuple #[.bool (q0 && q1 && q2 && q3 && !rp), .bool true]) ∧ Below w.heap.size w w' := by
  have XHP := Lib.hid HP
  have XHU := Lib.hid HU
  have XHR := Lib.hid HR
  clear HP HU HR
  cases q0
  · go_enter Tryz.func18, Tryz.ntmps18
    have bl : Below w.heap.size w w := Below.refl _ _
    go_wp2_with fail
    refine (XHP.out _).mono ?_
    rintro e w1 ⟨rfl, b1⟩
    replace bl := go7 bl b1
    clear b1
    go_wp2_with fail
    refine (XHU.out _).mono ?_
    rintro e w1 ⟨g, rfl, hg, nb, b1⟩
    replace bl := go7 bl b1
    have m0 := cellsAt nb 0 _ rfl
    have m1 := cellsAt nb 1 _ rfl
    have m2 := cellsAt nb 2 _ rfl
    have m3 := cellsAt nb 3 _ rfl
    clear b1
    go_wp2_with fail
    go_ret2
    exact ⟨rfl, bl⟩
  · cases q1
    · go_enter Tryz.func18, Tryz.ntmps18
      have bl : Below w.heap.size w w := Below.refl _ _
      go_wp2_with fail
      refine (XHP.out _).mono ?_
      rintro e w1 ⟨rfl, b1⟩
      replace bl := go7 bl b1
      clear b1
      go_wp2_with fail
      refine (XHU.out _).mono ?_
      rintro e w1 ⟨g, rfl, hg, nb, b1⟩
      replace bl := go7 bl b1
      have m0 := cellsAt nb 0 _ rfl
      have m1 := cellsAt nb 1 _ rfl
      have m2 := cellsAt nb 2 _ rfl
      have m3 := cellsAt nb 3 _ rfl
      clear b1
      go_wp2_with fail
      go_ret2
      exact ⟨rfl, bl⟩
    · cases q2
      · go_enter Tryz.func18, Tryz.ntmps18
        have bl : Below w.heap.size w w := Below.refl _ _
        go_wp2_with fail
        refine (XHP.out _).mono ?_
        rintro e w1 ⟨rfl, b1⟩
        replace bl := go7 bl b1
        clear b1
        go_wp2_with fail
        refine (XHU.out _).mono ?_
        rintro e w1 ⟨g, rfl, hg, nb, b1⟩
        replace bl := go7 bl b1
        have m0 := cellsAt nb 0 _ rfl
        have m1 := cellsAt nb 1 _ rfl
        have m2 := cellsAt nb 2 _ rfl
        have m3 := cellsAt nb 3 _ rfl
        clear b1
        go_wp2_with fail
        go_ret2
        exact ⟨rfl, bl⟩
      · cases q3
        · go_enter Tryz.func18, Tryz.ntmps18
          have bl : Below w.heap.size w w := Below.refl _ _
          go_wp2_with fail
          refine (XHP.out _).mono ?_
          rintro e w1 ⟨rfl, b1⟩
          replace bl := go7 bl b1
          clear b1
          go_wp2_with fail
          refine (XHU.out _).mono ?_
          rintro e w1 ⟨g, rfl, hg, nb, b1⟩
          replace bl := go7 bl b1
          have m0 := cellsAt nb 0 _ rfl
          have m1 := cellsAt nb 1 _ rfl
          have m2 := cellsAt nb 2 _ rfl
          have m3 := cellsAt nb 3 _ rfl
          clear b1
          go_wp2_with fail
          go_ret2
          exact ⟨rfl, bl⟩
        · go_enter Tryz.func18, Tryz.ntmps18
          have bl : Below w.heap.size w w := Below.refl _ _
          go_wp2_with fail
          refine (XHP.out _).mono ?_
          rintro e w1 ⟨rfl, b1⟩
          replace bl := go7 bl b1
          clear b1
          go_wp2_with fail
          refine (XHU.out _).mono ?_
          rintro e w1 ⟨g, rfl, hg, nb, b1⟩
          replace bl := go7 bl b1
          have m0 := cellsAt nb 0 _ rfl
          have m1 := cellsAt nb 1 _ rfl
          have m2 := cellsAt nb 2 _ rfl
          have m3 := cellsAt nb 3 _ rfl
          clear b1
          go_wp2_with fail
          refine (XHR.out _).mono ?_
          rintro e w1 ⟨rfl, b1⟩
          replace bl := go7 bl b1
          clear b1
          go_wp2_with fail
          go_ret2
          exact ⟨rfl, bl⟩
set_option maxHeartbeats 2000000 in
theorem il_i (s k : ByteArray) (x0 x1 x2 : Int) (b3 b4 ok : Bool) (q0 q1 q2 : Bool) (e0 : (x0 == 1) = q0) (e1 : (x1 == 1) = q1) (e2 : (x2 == 0) = q2) (HU : (∀ w, Calls Tryz.prog 33 #[.string s, .string k] w fun e w' => e = .returned (.tuple #[.agg #[.int .i64 x0, .int .i64 x1, .int .i64 x2, .bool b3, .bool b4], .bool ok]) ∧ Below w.heap.size w w')) (w : World) : Calls Tryz.prog 17 #[.string s, .string k] w fun e w' => e = .returned (.tuple #[.bool (q0 && q1 && q2 && !b3 && !b4), .bool ok]) ∧ Below w.heap.size w w' := by
  have XHU := Lib.hid HU
  clear HU
  cases q0 <;> cases q1 <;> cases q2 <;> cases b3 <;> cases b4
  all_goals
    go_enter Tryz.func17, Tryz.ntmps17
    have bl : Below w.heap.size w w := Below.refl _ _
    go_wp2_with fail
    refine (XHU.out _).mono ?_
    rintro e w1 ⟨rfl, b1⟩
    replace bl := go7 bl b1
    clear b1
    go_wp2_with fail
    go_ret2
    exact ⟨rfl, bl.alloc bl.size _⟩
end Go.Proofs.YtlhmjcfnfefliaaGreat.T1
