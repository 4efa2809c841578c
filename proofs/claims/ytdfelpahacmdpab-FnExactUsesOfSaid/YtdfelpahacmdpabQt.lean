/- A name in a part of *, in the specification. MADE BY gen_Qt.py. -/
import Derived.Test.YtdfelpahacmdpabQs
namespace Go.Proofs.Ytdfelpahacmdpab.T1
open Go.RowKit
set_option maxRecDepth 100000
set_option linter.unusedVariables false
set_option linter.unusedSimpArgs false

set_option maxHeartbeats 2000000 in
theorem sr_nil (s : ByteArray) (a : UInt8) (kd : Int) (k42 : (kd == 42) = false) (HK : ∀ w, Calls Try.prog 25 #[.string s] w fun e w' => e = .returned (.int .u8 kd) ∧ w = w') (HB : ∀ w, Calls Try.prog 26 #[.string s] w fun e w' => e = .returned (.tuple #[.int .u8 0, .bool false]) ∧ w = w') (HP : ∀ w, Calls Try.prog 27 #[.string s] w (PartsS [] w)) (w : World) : Calls Try.prog 18 #[.string s, .int .u8 (a.toNat : Int)] w fun e w' => e = .returned (.bool false) ∧ Below w.heap.size w w' := by
  have XK := Lib.hid HK
  have XB := Lib.hid HB
  have XP := Lib.hid HP
  clear HK HB HP
  have bl : Below w.heap.size w w := Below.refl _ _
  go_enter Try.func18, Try.ntmps18
  go_wp2_with fail
  refine (XK.out _).mono ?_
  rintro e w2 ⟨rfl, rfl⟩
  go_wp2_with fail
  refine (XB.out _).mono ?_
  rintro e w2 ⟨rfl, rfl⟩
  go_wp2_with fail
  refine (XP.out _).mono ?_
  rintro e w3 ⟨rfl, b3⟩
  replace bl := below_trans bl b3 bl.size
  clear b3
  go_wp2_with fail
  refine wp_loop_rounds 1 ?_
  rw [rounds_succ]
  go_wp2_with fail
  go_ret
  exact ⟨rfl, bl⟩
set_option maxHeartbeats 2000000 in
theorem sr_one (s : ByteArray) (a : UInt8) (kd : Int) (u : ByteArray) (r1 : Bool) (k42 : (kd == 42) = false) (HK : ∀ w, Calls Try.prog 25 #[.string s] w fun e w' => e = .returned (.int .u8 kd) ∧ w = w') (HB : ∀ w, Calls Try.prog 26 #[.string s] w fun e w' => e = .returned (.tuple #[.int .u8 0, .bool false]) ∧ w = w') (HP : ∀ w, Calls Try.prog 27 #[.string s] w fun e w' => ∃ b, e = .returned (.slice (some ⟨b, 0, none⟩) 1 1) ∧ w.heap.size ≤ b ∧ w'.heap[b]? = some (.cells #[.string u] 9 (0, 0)) ∧ Below w.heap.size w w') (ih : ∀ w, Calls Try.prog 18 #[.string u, .int .u8 (a.toNat : Int)] w fun e w' => e = .returned (.bool r1) ∧ Below w.heap.size w w') (w : World) : Calls Try.prog 18 #[.string s, .int .u8 (a.toNat : Int)] w fun e w' => e = .returned (.bool r1) ∧ Below w.heap.size w w' := by
  have XK := Lib.hid HK
  have XB := Lib.hid HB
  have XP := Lib.hid HP
  have I1 := Lib.hid ih
  clear HK HB HP ih
  have bl : Below w.heap.size w w := Below.refl _ _
  cases r1
  · go_enter Try.func18, Try.ntmps18
    go_wp2_with fail
    refine (XK.out _).mono ?_
    rintro e w2 ⟨rfl, rfl⟩
    go_wp2_with fail
    refine (XB.out _).mono ?_
    rintro e w2 ⟨rfl, rfl⟩
    go_wp2_with fail
    refine (XP.out _).mono ?_
    rintro e w3 ⟨b, rfl, hb, hh, b3⟩
    replace bl := below_trans bl b3 bl.size
    clear b3
    have cu := cellOf1 hh
    have Hh := Lib.hid hh
    clear hh
    go_wp2_with fail
    refine wp_loop_rounds 2 ?_
    rw [rounds_succ]
    go_wp2_with fail
    refine (I1.out _).mono ?_
    rintro e w4 ⟨rfl, b4⟩
    have Hh := Lib.hid ((b4.block _ (lt_of_block Hh.out)).trans Hh.out)
    replace bl := below_trans bl b4 bl.size
    clear b4 cu
    go_wp2_with fail
    rw [rounds_succ]
    go_wp2_with fail
    go_ret
    exact ⟨rfl, bl⟩
  · go_enter Try.func18, Try.ntmps18
    go_wp2_with fail
    refine (XK.out _).mono ?_
    rintro e w2 ⟨rfl, rfl⟩
    go_wp2_with fail
    refine (XB.out _).mono ?_
    rintro e w2 ⟨rfl, rfl⟩
    go_wp2_with fail
    refine (XP.out _).mono ?_
    rintro e w3 ⟨b, rfl, hb, hh, b3⟩
    replace bl := below_trans bl b3 bl.size
    clear b3
    have cu := cellOf1 hh
    have Hh := Lib.hid hh
    clear hh
    go_wp2_with fail
    refine wp_loop_rounds 2 ?_
    rw [rounds_succ]
    go_wp2_with fail
    refine (I1.out _).mono ?_
    rintro e w4 ⟨rfl, b4⟩
    have Hh := Lib.hid ((b4.block _ (lt_of_block Hh.out)).trans Hh.out)
    replace bl := below_trans bl b4 bl.size
    clear b4 cu
    go_wp2_with fail
    go_ret
    exact ⟨rfl, bl⟩
set_option maxHeartbeats 2000000 in
theorem sr_two (s : ByteArray) (a : UInt8) (kd : Int) (u : ByteArray) (r1 : Bool) (v : ByteArray) (r2 : Bool) (k42 : (kd == 42) = false) (HK : ∀ w, Calls Try.prog 25 #[.string s] w fun e w' => e = .returned (.int .u8 kd) ∧ w = w') (HB : ∀ w, Calls Try.prog 26 #[.string s] w fun e w' => e = .returned (.tuple #[.int .u8 0, .bool false]) ∧ w = w') (HP : ∀ w, Calls Try.prog 27 #[.string s] w fun e w' => ∃ b, e = .returned (.slice (some ⟨b, 0, none⟩) 2 2) ∧ w.heap.size ≤ b ∧ w'.heap[b]? = some (.cells #[.string u, .string v] 9 (0, 0)) ∧ Below w.heap.size w w') (ih : ∀ w, Calls Try.prog 18 #[.string u, .int .u8 (a.toNat : Int)] w fun e w' => e = .returned (.bool r1) ∧ Below w.heap.size w w') (ih2 : ∀ w, Calls Try.prog 18 #[.string v, .int .u8 (a.toNat : Int)] w fun e w' => e = .returned (.bool r2) ∧ Below w.heap.size w w') (w : World) : Calls Try.prog 18 #[.string s, .int .u8 (a.toNat : Int)] w fun e w' => e = .returned (.bool (r1 || r2)) ∧ Below w.heap.size w w' := by
  have XK := Lib.hid HK
  have XB := Lib.hid HB
  have XP := Lib.hid HP
  have I1 := Lib.hid ih
  have I2 := Lib.hid ih2
  clear HK HB HP ih ih2
  have bl : Below w.heap.size w w := Below.refl _ _
  cases r1
  · cases r2
    · go_enter Try.func18, Try.ntmps18
      go_wp2_with fail
      refine (XK.out _).mono ?_
      rintro e w2 ⟨rfl, rfl⟩
      go_wp2_with fail
      refine (XB.out _).mono ?_
      rintro e w2 ⟨rfl, rfl⟩
      go_wp2_with fail
      refine (XP.out _).mono ?_
      rintro e w3 ⟨b, rfl, hb, hh, b3⟩
      replace bl := below_trans bl b3 bl.size
      clear b3
      have cu := cellOf2a hh
      have Hh := Lib.hid hh
      clear hh
      go_wp2_with fail
      refine wp_loop_rounds 3 ?_
      rw [rounds_succ]
      go_wp2_with fail
      refine (I1.out _).mono ?_
      rintro e w4 ⟨rfl, b4⟩
      have Hh := Lib.hid ((b4.block _ (lt_of_block Hh.out)).trans Hh.out)
      replace bl := below_trans bl b4 bl.size
      clear b4 cu
      have cu := cellOf2b Hh.out
      go_wp2_with fail
      rw [rounds_succ]
      go_wp2_with fail
      refine (I2.out _).mono ?_
      rintro e w4 ⟨rfl, b4⟩
      have Hh := Lib.hid ((b4.block _ (lt_of_block Hh.out)).trans Hh.out)
      replace bl := below_trans bl b4 bl.size
      clear b4 cu
      go_wp2_with fail
      rw [rounds_succ]
      go_wp2_with fail
      go_ret
      exact ⟨rfl, bl⟩
    · go_enter Try.func18, Try.ntmps18
      go_wp2_with fail
      refine (XK.out _).mono ?_
      rintro e w2 ⟨rfl, rfl⟩
      go_wp2_with fail
      refine (XB.out _).mono ?_
      rintro e w2 ⟨rfl, rfl⟩
      go_wp2_with fail
      refine (XP.out _).mono ?_
      rintro e w3 ⟨b, rfl, hb, hh, b3⟩
      replace bl := below_trans bl b3 bl.size
      clear b3
      have cu := cellOf2a hh
      have Hh := Lib.hid hh
      clear hh
      go_wp2_with fail
      refine wp_loop_rounds 3 ?_
      rw [rounds_succ]
      go_wp2_with fail
      refine (I1.out _).mono ?_
      rintro e w4 ⟨rfl, b4⟩
      have Hh := Lib.hid ((b4.block _ (lt_of_block Hh.out)).trans Hh.out)
      replace bl := below_trans bl b4 bl.size
      clear b4 cu
      have cu := cellOf2b Hh.out
      go_wp2_with fail
      rw [rounds_succ]
      go_wp2_with fail
      refine (I2.out _).mono ?_
      rintro e w4 ⟨rfl, b4⟩
      have Hh := Lib.hid ((b4.block _ (lt_of_block Hh.out)).trans Hh.out)
      replace bl := below_trans bl b4 bl.size
      clear b4 cu
      go_wp2_with fail
      go_ret
      exact ⟨rfl, bl⟩
  · go_enter Try.func18, Try.ntmps18
    go_wp2_with fail
    refine (XK.out _).mono ?_
    rintro e w2 ⟨rfl, rfl⟩
    go_wp2_with fail
    refine (XB.out _).mono ?_
    rintro e w2 ⟨rfl, rfl⟩
    go_wp2_with fail
    refine (XP.out _).mono ?_
    rintro e w3 ⟨b, rfl, hb, hh, b3⟩
    replace bl := below_trans bl b3 bl.size
    clear b3
    have cu := cellOf2a hh
    have Hh := Lib.hid hh
    clear hh
    go_wp2_with fail
    refine wp_loop_rounds 3 ?_
    rw [rounds_succ]
    go_wp2_with fail
    refine (I1.out _).mono ?_
    rintro e w4 ⟨rfl, b4⟩
    have Hh := Lib.hid ((b4.block _ (lt_of_block Hh.out)).trans Hh.out)
    replace bl := below_trans bl b4 bl.size
    clear b4 cu
    go_wp2_with fail
    go_ret
    exact ⟨rfl, bl⟩
set_option maxHeartbeats 2000000 in
theorem sr_same (s : ByteArray) (a : UInt8) (kd : Int) (u : ByteArray) (r1 : Bool) (k42 : (kd == 42) = false) (HK : ∀ w, Calls Try.prog 25 #[.string s] w fun e w' => e = .returned (.int .u8 kd) ∧ w = w') (x : UInt8) (qx : ((x.toNat : Int) == (a.toNat : Int)) = true) (HB : ∀ w, Calls Try.prog 26 #[.string s] w fun e w' => e = .returned (.tuple #[.int .u8 (x.toNat : Int), .bool true]) ∧ w = w') (w : World) : Calls Try.prog 18 #[.string s, .int .u8 (a.toNat : Int)] w fun e w' => e = .returned (.bool false) ∧ Below w.heap.size w w' := by
  have XK := Lib.hid HK
  have XB := Lib.hid HB
  clear HK HB
  have bl : Below w.heap.size w w := Below.refl _ _
  go_enter Try.func18, Try.ntmps18
  go_wp2_with fail
  refine (XK.out _).mono ?_
  rintro e w2 ⟨rfl, rfl⟩
  go_wp2_with fail
  refine (XB.out _).mono ?_
  rintro e w2 ⟨rfl, rfl⟩
  go_wp2_with fail
  go_ret
  exact ⟨rfl, bl⟩
set_option maxHeartbeats 2000000 in
theorem sr_diff (s : ByteArray) (a : UInt8) (kd : Int) (u : ByteArray) (r1 : Bool) (k42 : (kd == 42) = false) (HK : ∀ w, Calls Try.prog 25 #[.string s] w fun e w' => e = .returned (.int .u8 kd) ∧ w = w') (x : UInt8) (qx : ((x.toNat : Int) == (a.toNat : Int)) = false) (HB : ∀ w, Calls Try.prog 26 #[.string s] w fun e w' => e = .returned (.tuple #[.int .u8 (x.toNat : Int), .bool true]) ∧ w = w') (HP : ∀ w, Calls Try.prog 27 #[.string s] w fun e w' => ∃ b, e = .returned (.slice (some ⟨b, 0, none⟩) 1 1) ∧ w.heap.size ≤ b ∧ w'.heap[b]? = some (.cells #[.string u] 9 (0, 0)) ∧ Below w.heap.size w w') (ih : ∀ w, Calls Try.prog 18 #[.string u, .int .u8 (a.toNat : Int)] w fun e w' => e = .returned (.bool r1) ∧ Below w.heap.size w w') (w : World) : Calls Try.prog 18 #[.string s, .int .u8 (a.toNat : Int)] w fun e w' => e = .returned (.bool r1) ∧ Below w.heap.size w w' := by
  have XK := Lib.hid HK
  have XB := Lib.hid HB
  have XP := Lib.hid HP
  have I1 := Lib.hid ih
  clear HK HB HP ih
  have bl : Below w.heap.size w w := Below.refl _ _
  cases r1
  · go_enter Try.func18, Try.ntmps18
    go_wp2_with fail
    refine (XK.out _).mono ?_
    rintro e w2 ⟨rfl, rfl⟩
    go_wp2_with fail
    refine (XB.out _).mono ?_
    rintro e w2 ⟨rfl, rfl⟩
    go_wp2_with fail
    refine (XP.out _).mono ?_
    rintro e w3 ⟨b, rfl, hb, hh, b3⟩
    replace bl := below_trans bl b3 bl.size
    clear b3
    have cu := cellOf1 hh
    have Hh := Lib.hid hh
    clear hh
    go_wp2_with fail
    refine wp_loop_rounds 2 ?_
    rw [rounds_succ]
    go_wp2_with fail
    refine (I1.out _).mono ?_
    rintro e w4 ⟨rfl, b4⟩
    have Hh := Lib.hid ((b4.block _ (lt_of_block Hh.out)).trans Hh.out)
    replace bl := below_trans bl b4 bl.size
    clear b4 cu
    go_wp2_with fail
    rw [rounds_succ]
    go_wp2_with fail
    go_ret
    exact ⟨rfl, bl⟩
  · go_enter Try.func18, Try.ntmps18
    go_wp2_with fail
    refine (XK.out _).mono ?_
    rintro e w2 ⟨rfl, rfl⟩
    go_wp2_with fail
    refine (XB.out _).mono ?_
    rintro e w2 ⟨rfl, rfl⟩
    go_wp2_with fail
    refine (XP.out _).mono ?_
    rintro e w3 ⟨b, rfl, hb, hh, b3⟩
    replace bl := below_trans bl b3 bl.size
    clear b3
    have cu := cellOf1 hh
    have Hh := Lib.hid hh
    clear hh
    go_wp2_with fail
    refine wp_loop_rounds 2 ?_
    rw [rounds_succ]
    go_wp2_with fail
    refine (I1.out _).mono ?_
    rintro e w4 ⟨rfl, b4⟩
    have Hh := Lib.hid ((b4.block _ (lt_of_block Hh.out)).trans Hh.out)
    replace bl := below_trans bl b4 bl.size
    clear b4 cu
    go_wp2_with fail
    go_ret
    exact ⟨rfl, bl⟩
set_option maxHeartbeats 2000000 in
theorem sr_rep (s : ByteArray) (a : UInt8) (kd : Int) (u : ByteArray) (r1 : Bool) (k42 : (kd == 42) = true) (HK : ∀ w, Calls Try.prog 25 #[.string s] w fun e w' => e = .returned (.int .u8 kd) ∧ w = w') (F : ByteArray) (q : Bool) (HF : ∀ w, Calls Try.prog 24 #[.string s] w fun e w' => e = .returned (.string F) ∧ Below w.heap.size w w') (HI : ∀ w, Calls Try.prog 32 #[.string F, .int .u8 (a.toNat : Int)] w fun e w' => e = .returned (.bool q) ∧ w = w') (HB : ∀ w, Calls Try.prog 26 #[.string s] w fun e w' => e = .returned (.tuple #[.int .u8 0, .bool false]) ∧ w = w') (HP : ∀ w, Calls Try.prog 27 #[.string s] w fun e w' => ∃ b, e = .returned (.slice (some ⟨b, 0, none⟩) 1 1) ∧ w.heap.size ≤ b ∧ w'.heap[b]? = some (.cells #[.string u] 9 (0, 0)) ∧ Below w.heap.size w w') (ih : ∀ w, Calls Try.prog 18 #[.string u, .int .u8 (a.toNat : Int)] w fun e w' => e = .returned (.bool r1) ∧ Below w.heap.size w w') (w : World) : Calls Try.prog 18 #[.string s, .int .u8 (a.toNat : Int)] w fun e w' => e = .returned (.bool (q || r1)) ∧ Below w.heap.size w w' := by
  have XK := Lib.hid HK
  have XB := Lib.hid HB
  have XF := Lib.hid HF
  have XI := Lib.hid HI
  have XP := Lib.hid HP
  have I1 := Lib.hid ih
  clear HK HB HF HI HP ih
  have bl : Below w.heap.size w w := Below.refl _ _
  cases q
  · cases r1
    · go_enter Try.func18, Try.ntmps18
      go_wp2_with fail
      refine (XK.out _).mono ?_
      rintro e w2 ⟨rfl, rfl⟩
      go_wp2_with fail
      refine (XF.out _).mono ?_
      rintro e w2 ⟨rfl, b2⟩
      replace bl := below_trans bl b2 bl.size
      clear b2
      go_wp2_with fail
      refine (XI.out _).mono ?_
      rintro e w3 ⟨rfl, rfl⟩
      go_wp2_with fail
      refine (XB.out _).mono ?_
      rintro e w2 ⟨rfl, rfl⟩
      go_wp2_with fail
      refine (XP.out _).mono ?_
      rintro e w3 ⟨b, rfl, hb, hh, b3⟩
      replace bl := below_trans bl b3 bl.size
      clear b3
      have cu := cellOf1 hh
      have Hh := Lib.hid hh
      clear hh
      go_wp2_with fail
      refine wp_loop_rounds 2 ?_
      rw [rounds_succ]
      go_wp2_with fail
      refine (I1.out _).mono ?_
      rintro e w4 ⟨rfl, b4⟩
      have Hh := Lib.hid ((b4.block _ (lt_of_block Hh.out)).trans Hh.out)
      replace bl := below_trans bl b4 bl.size
      clear b4 cu
      go_wp2_with fail
      rw [rounds_succ]
      go_wp2_with fail
      go_ret
      exact ⟨rfl, bl⟩
    · go_enter Try.func18, Try.ntmps18
      go_wp2_with fail
      refine (XK.out _).mono ?_
      rintro e w2 ⟨rfl, rfl⟩
      go_wp2_with fail
      refine (XF.out _).mono ?_
      rintro e w2 ⟨rfl, b2⟩
      replace bl := below_trans bl b2 bl.size
      clear b2
      go_wp2_with fail
      refine (XI.out _).mono ?_
      rintro e w3 ⟨rfl, rfl⟩
      go_wp2_with fail
      refine (XB.out _).mono ?_
      rintro e w2 ⟨rfl, rfl⟩
      go_wp2_with fail
      refine (XP.out _).mono ?_
      rintro e w3 ⟨b, rfl, hb, hh, b3⟩
      replace bl := below_trans bl b3 bl.size
      clear b3
      have cu := cellOf1 hh
      have Hh := Lib.hid hh
      clear hh
      go_wp2_with fail
      refine wp_loop_rounds 2 ?_
      rw [rounds_succ]
      go_wp2_with fail
      refine (I1.out _).mono ?_
      rintro e w4 ⟨rfl, b4⟩
      have Hh := Lib.hid ((b4.block _ (lt_of_block Hh.out)).trans Hh.out)
      replace bl := below_trans bl b4 bl.size
      clear b4 cu
      go_wp2_with fail
      go_ret
      exact ⟨rfl, bl⟩
  · go_enter Try.func18, Try.ntmps18
    go_wp2_with fail
    refine (XK.out _).mono ?_
    rintro e w2 ⟨rfl, rfl⟩
    go_wp2_with fail
    refine (XF.out _).mono ?_
    rintro e w2 ⟨rfl, b2⟩
    replace bl := below_trans bl b2 bl.size
    clear b2
    go_wp2_with fail
    refine (XI.out _).mono ?_
    rintro e w3 ⟨rfl, rfl⟩
    go_wp2_with fail
    go_ret
    exact ⟨rfl, bl⟩
theorem srt_len6 {F : List UInt8} (hs : Srt F) : F.length ≤ 256 := by
  have key : ∀ (G : List UInt8) (b : Nat), Srt G → (∀ x ∈ G, b ≤ x.toNat) → G.length + b ≤ 256 ∨ G = [] := by
    intro G
    induction G with
    | nil => intro b _ _; exact .inr rfl
    | cons c cs ih =>
      intro b hG hx
      left
      obtain ⟨h1, h2⟩ := List.pairwise_cons.1 hG
      have hc := hx c (by simp)
      have hc2 := c.toNat_lt
      rcases ih (c.toNat + 1) h2 (fun x hx2 => by have := (u8_lt _ _).1 (h1 x hx2); omega) with h | h
      · simp; omega
      · subst h; simp; omega
  rcases key F 0 hs (fun x _ => Nat.zero_le _) with h | h
  · omega
  · subst h; simp
theorem soRepeated_any (a : UInt8) (t : Tm) : t.ok nmE = true → t.pr.length ≤ 700 → ∀ w, Calls Try.prog 18 #[.string (S t), .int .u8 (a.toNat : Int)] w fun e w' => e = .returned (.bool ((t.vis a).any (us4 a))) ∧ Below w.heap.size w w' := by
  induction t with
  | nil =>
    intro ho hl w
    have h := sr_nil _ a _ (by simp only [Tm.kind]; decide) (tmKind_any .nil ho hl) (tmBinds_any .nil ho hl) (tmParts_any .nil ho hl) w
    rw [show (Tm.nil.vis a).any (us4 a) = false from by simp [Tm.vis, us4]]
    exact h
  | snd x y p ih =>
    intro ho hl w
    have ho' := ho
    simp only [Tm.ok, Bool.and_eq_true] at ho'
    have hl' := hl
    simp only [Tm.pr, List.length_cons, List.length_append, List.length_nil] at hl'
    have h := sr_one _ a _ _ _ (by simp only [Tm.kind]; decide) (tmKind_any (.snd x y p) ho hl) (tmBinds_any (.snd x y p) ho hl) (tmParts_any (.snd x y p) ho hl) (ih ho'.2 (by omega)) w
    rw [show ((Tm.snd x y p).vis a).any (us4 a) = (p.vis a).any (us4 a) from by simp [Tm.vis, us4]]
    exact h
  | mat x y p ih =>
    intro ho hl w
    have ho' := ho
    simp only [Tm.ok, Bool.and_eq_true] at ho'
    have hl' := hl
    simp only [Tm.pr, List.length_cons, List.length_append, List.length_nil] at hl'
    have h := sr_one _ a _ _ _ (by simp only [Tm.kind]; decide) (tmKind_any (.mat x y p) ho hl) (tmBinds_any (.mat x y p) ho hl) (tmParts_any (.mat x y p) ho hl) (ih ho'.2 (by omega)) w
    rw [show ((Tm.mat x y p).vis a).any (us4 a) = (p.vis a).any (us4 a) from by simp [Tm.vis, us4]]
    exact h
  | tau p ih =>
    intro ho hl w
    have ho' := ho
    simp only [Tm.ok] at ho'
    have hl' := hl
    simp only [Tm.pr, List.length_cons, List.length_append, List.length_nil] at hl'
    have h := sr_one _ a _ _ _ (by simp only [Tm.kind]; decide) (tmKind_any (.tau p) ho hl) (tmBinds_any (.tau p) ho hl) (tmParts_any (.tau p) ho hl) (ih ho' (by omega)) w
    rw [show ((Tm.tau p).vis a).any (us4 a) = (p.vis a).any (us4 a) from by simp [Tm.vis, us4]]
    exact h
  | rcv x y p ih =>
    intro ho hl w
    have ho' := ho
    simp only [Tm.ok, Bool.and_eq_true] at ho'
    have hl' := hl
    simp only [Tm.pr, List.length_cons, List.length_append, List.length_nil] at hl'
    by_cases e : y = a
    · have h := sr_same _ a _ ⟨#[]⟩ false (by simp only [Tm.kind]; decide) (tmKind_any (.rcv x y p) ho hl) y (by rw [u8b, e]; simp) (tmBinds_any (.rcv x y p) ho hl) w
      rw [show ((Tm.rcv x y p).vis a).any (us4 a) = false from by simp [Tm.vis, us4, e]]
      exact h
    · have h := sr_diff _ a _ _ _ (by simp only [Tm.kind]; decide) (tmKind_any (.rcv x y p) ho hl) y (by rw [u8b]; simp [e]) (tmBinds_any (.rcv x y p) ho hl) (tmParts_any (.rcv x y p) ho hl) (ih ho'.2 (by omega)) w
      rw [show ((Tm.rcv x y p).vis a).any (us4 a) = (p.vis a).any (us4 a) from by simp [Tm.vis, us4, e]]
      exact h
  | own x p ih =>
    intro ho hl w
    have ho' := ho
    simp only [Tm.ok, Bool.and_eq_true] at ho'
    have hl' := hl
    simp only [Tm.pr, List.length_cons, List.length_append, List.length_nil] at hl'
    by_cases e : x = a
    · have h := sr_same _ a _ ⟨#[]⟩ false (by simp only [Tm.kind]; decide) (tmKind_any (.own x p) ho hl) x (by rw [u8b, e]; simp) (tmBinds_any (.own x p) ho hl) w
      rw [show ((Tm.own x p).vis a).any (us4 a) = false from by simp [Tm.vis, us4, e]]
      exact h
    · have h := sr_diff _ a _ _ _ (by simp only [Tm.kind]; decide) (tmKind_any (.own x p) ho hl) x (by rw [u8b]; simp [e]) (tmBinds_any (.own x p) ho hl) (tmParts_any (.own x p) ho hl) (ih ho'.2 (by omega)) w
      rw [show ((Tm.own x p).vis a).any (us4 a) = (p.vis a).any (us4 a) from by simp [Tm.vis, us4, e]]
      exact h
  | sum p q ih ih2 =>
    intro ho hl w
    have ho' := ho
    simp only [Tm.ok, Bool.and_eq_true] at ho'
    have hl' := hl
    simp only [Tm.pr, List.length_cons, List.length_append, List.length_nil] at hl'
    have h := sr_two _ a _ _ _ _ _ (by simp only [Tm.kind]; decide) (tmKind_any (.sum p q) ho hl) (tmBinds_any (.sum p q) ho hl) (tmParts_any (.sum p q) ho hl) (ih ho'.1 (by omega)) (ih2 ho'.2 (by omega)) w
    rw [show ((Tm.sum p q).vis a).any (us4 a) = ((p.vis a).any (us4 a) || (q.vis a).any (us4 a)) from by simp [Tm.vis, us4]]
    exact h
  | par p q ih ih2 =>
    intro ho hl w
    have ho' := ho
    simp only [Tm.ok, Bool.and_eq_true] at ho'
    have hl' := hl
    simp only [Tm.pr, List.length_cons, List.length_append, List.length_nil] at hl'
    have h := sr_two _ a _ _ _ _ _ (by simp only [Tm.kind]; decide) (tmKind_any (.par p q) ho hl) (tmBinds_any (.par p q) ho hl) (tmParts_any (.par p q) ho hl) (ih ho'.1 (by omega)) (ih2 ho'.2 (by omega)) w
    rw [show ((Tm.par p q).vis a).any (us4 a) = ((p.vis a).any (us4 a) || (q.vis a).any (us4 a)) from by simp [Tm.vis, us4]]
    exact h
  | rep p ih =>
    intro ho hl w
    have ho' := ho
    simp only [Tm.ok] at ho'
    have hl' := hl
    simp only [Tm.pr, List.length_cons, List.length_append, List.length_nil] at hl'
    have hI := fun w => tmIn_any (B (Tm.rep p).free) (a.toNat : Int) w (by rw [B_size]; have := srt_len6 (srt_free (.rep p)); omega)
    rw [inB_of6, show decide (a ∈ (B (Tm.rep p).free).data.toList) = us4 a (.rep p) from decide_eq_decide.2 (mf_rep p a)] at hI
    have h := sr_rep _ a _ _ _ (by simp only [Tm.kind]; decide) (tmKind_any (.rep p) ho hl) _ _ (tmFree_any (.rep p) ho hl) hI (tmBinds_any (.rep p) ho hl) (tmParts_any (.rep p) ho hl) (ih ho' (by omega)) w
    rw [show ((Tm.rep p).vis a).any (us4 a) = (us4 a (.rep p) || (p.vis a).any (us4 a)) from by simp [Tm.vis]]
    exact h
end Go.Proofs.Ytdfelpahacmdpab.T1
