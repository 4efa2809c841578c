/- What both sides answer where uses of a name are asked. MADE BY gen_Qj.py. -/
import Derived.Test.YtdfelpahacmdpabQx
import Derived.Test.YtdfelpahacmdpabQt
import Derived.Test.YtdfelpahacmdpabQl
namespace Go.Proofs.Ytdfelpahacmdpab.T1
open Go.RowKit
set_option maxRecDepth 100000
set_option linter.unusedVariables false
set_option linter.unusedSimpArgs false

theorem go7 {u v w : World} (h : Below u.heap.size u v) (k : Below v.heap.size v w) : Below u.heap.size u w := below_trans h k h.size
theorem results_tmp4 {fn : Func} {t u v x : Tmp} (h : fn.results = #[.tmp t, .tmp u, .tmp v, .tmp x]) (tmps : Array Value) (P : Program) (w : World) :
    (results fn tmps).run P w = .ok (.tuple #[tmps.getD t undef, tmps.getD u undef, tmps.getD v undef, tmps.getD x undef]) w := by simp [results, h]
def ut (p q : Bool) : ByteArray := match p, q with
  | true, true => ⟨#[33, 63]⟩
  | true, false => ⟨#[33]⟩
  | false, true => ⟨#[63]⟩
  | false, false => ⟨#[]⟩
set_option maxHeartbeats 2000000 in
theorem us_s0 (s k : ByteArray) (n : Int) (HP : (∀ w, Calls Try.prog 15 #[.string s, .string k] w fun e w' => e = .returned (.tuple #[.int .i64 n, .bool false]) ∧ Below w.heap.size w w')) (w : World) : Calls Try.prog 7 #[.string s, .string k] w fun e w' => e = .returned (.tuple #[.string ⟨#[]⟩, .bool false]) ∧ Below w.heap.size w w' := by
  have XHP := Lib.hid HP
  clear HP
  go_enter Try.func7, Try.ntmps7
  have bl : Below w.heap.size w w := Below.refl _ _
  go_wp2_with fail
  refine (XHP.out _).mono ?_
  rintro e w1 ⟨rfl, b1⟩
  replace bl := go7 bl b1
  clear b1
  go_wp2_with fail
  go_ret2
  exact ⟨rfl, bl⟩
set_option maxHeartbeats 2000000 in
theorem cu_s0 (s k : ByteArray) (n : Int) (HP : (∀ w, Calls Try.prog 15 #[.string s, .string k] w fun e w' => e = .returned (.tuple #[.int .i64 n, .bool false]) ∧ Below w.heap.size w w')) (w : World) : Calls Try.prog 9 #[.string s, .string k] w fun e w' => e = .returned (.tuple #[.int .i64 0, .int .i64 0, .int .i64 0, .bool false]) ∧ Below w.heap.size w w' := by
  have XHP := Lib.hid HP
  clear HP
  go_enter Try.func9, Try.ntmps9
  have bl : Below w.heap.size w w := Below.refl _ _
  go_wp2_with fail
  refine (XHP.out _).mono ?_
  rintro e w1 ⟨rfl, b1⟩
  replace bl := go7 bl b1
  clear b1
  go_wp2_with fail
  (try simp only [Exit.inBlock, Exit.then]); refine bodyPost_ret (results_tmp4 rfl _ _ _) rfl ?_
  exact ⟨rfl, bl⟩
set_option maxHeartbeats 2000000 in
theorem il_s0 (s k : ByteArray) (n : Int) (HP : (∀ w, Calls Try.prog 15 #[.string s, .string k] w fun e w' => e = .returned (.tuple #[.int .i64 n, .bool false]) ∧ Below w.heap.size w w')) (w : World) : Calls Try.prog 11 #[.string s, .string k] w fun e w' => e = .returned (.tuple #[.bool false, .bool false]) ∧ Below w.heap.size w w' := by
  have XHP := Lib.hid HP
  clear HP
  go_enter Try.func11, Try.ntmps11
  have bl : Below w.heap.size w w := Below.refl _ _
  go_wp2_with fail
  refine (XHP.out _).mono ?_
  rintro e w1 ⟨rfl, b1⟩
  replace bl := go7 bl b1
  clear b1
  go_wp2_with fail
  go_ret2
  exact ⟨rfl, bl⟩
set_option maxHeartbeats 2000000 in
theorem us_s1 (s k : ByteArray) (c : UInt8) (hk : 0 < k.size) (hc : ((k[0]'hk).toNat : Int) = (c.toNat : Int)) (n x0 x1 x2 x3 : Int) (p q : Bool) (hp : p = true ↔ 0 < x0) (hq : q = true ↔ 0 < x1) (HP : (∀ w, Calls Try.prog 15 #[.string s, .string k] w fun e w' => e = .returned (.tuple #[.int .i64 n, .bool true]) ∧ Below w.heap.size w w')) (HU : (∀ w, Calls Try.prog 16 #[.string s, .int .u8 (c.toNat : Int)] w fun e w' => ∃ g, e = .returned (.slice (some ⟨g, 0, none⟩) 4 4) ∧ w.heap.size ≤ g ∧ w'.heap[g]? = some (.cells #[.int .i64 x0, .int .i64 x1, .int .i64 x2, .int .i64 x3] 3 (0, 0)) ∧ Below w.heap.size w w')) (w : World) : Calls Try.prog 7 #[.string s, .string k] w fun e w' => e = .returned (.tuple #[.string (ut p q), .bool true]) ∧ Below w.heap.size w w' := by
  have XHP := Lib.hid HP
  have XHU := Lib.hid HU
  clear HP HU
  have h0 : Hid (p = true ↔ 0 < x0) := hp
  have h1 : Hid (q = true ↔ 0 < x1) := hq
  clear hp hq
  cases p
  · have g0 : ¬ 0 < x0 := fun h => by have := h0.out.2 h; cases this
    cases q
    · have g1 : ¬ 0 < x1 := fun h => by have := h1.out.2 h; cases this
      go_enter Try.func7, Try.ntmps7
      have bl : Below w.heap.size w w := Below.refl _ _
      go_wp2_with fail
      refine (XHP.out _).mono ?_
      rintro e w1 ⟨rfl, b1⟩
      replace bl := go7 bl b1
      clear b1
      go_wp2_with fail
      refine (XHU.out _).mono ?_
      rintro e w1 ⟨g, rfl, hg, nb, b1⟩
      replace bl := go7 bl b1
      have m0 := cellsAt nb 0 _ rfl
      have m1 := cellsAt nb 1 _ rfl
      have m2 := cellsAt nb 2 _ rfl
      have m3 := cellsAt nb 3 _ rfl
      clear b1
      go_wp2_with fail
      go_ret2
      exact ⟨rfl, bl⟩
    · have g1 : 0 < x1 := h1.out.1 rfl
      go_enter Try.func7, Try.ntmps7
      have bl : Below w.heap.size w w := Below.refl _ _
      go_wp2_with fail
      refine (XHP.out _).mono ?_
      rintro e w1 ⟨rfl, b1⟩
      replace bl := go7 bl b1
      clear b1
      go_wp2_with fail
      refine (XHU.out _).mono ?_
      rintro e w1 ⟨g, rfl, hg, nb, b1⟩
      replace bl := go7 bl b1
      have m0 := cellsAt nb 0 _ rfl
      have m1 := cellsAt nb 1 _ rfl
      have m2 := cellsAt nb 2 _ rfl
      have m3 := cellsAt nb 3 _ rfl
      clear b1
      go_wp2_with fail
      go_ret2
      exact ⟨rfl, bl⟩
  · have g0 : 0 < x0 := h0.out.1 rfl
    cases q
    · have g1 : ¬ 0 < x1 := fun h => by have := h1.out.2 h; cases this
      go_enter Try.func7, Try.ntmps7
      have bl : Below w.heap.size w w := Below.refl _ _
      go_wp2_with fail
      refine (XHP.out _).mono ?_
      rintro e w1 ⟨rfl, b1⟩
      replace bl := go7 bl b1
      clear b1
      go_wp2_with fail
      refine (XHU.out _).mono ?_
      rintro e w1 ⟨g, rfl, hg, nb, b1⟩
      replace bl := go7 bl b1
      have m0 := cellsAt nb 0 _ rfl
      have m1 := cellsAt nb 1 _ rfl
      have m2 := cellsAt nb 2 _ rfl
      have m3 := cellsAt nb 3 _ rfl
      clear b1
      go_wp2_with fail
      go_ret2
      exact ⟨rfl, bl⟩
    · have g1 : 0 < x1 := h1.out.1 rfl
      go_enter Try.func7, Try.ntmps7
      have bl : Below w.heap.size w w := Below.refl _ _
      go_wp2_with fail
      refine (XHP.out _).mono ?_
      rintro e w1 ⟨rfl, b1⟩
      replace bl := go7 bl b1
      clear b1
      go_wp2_with fail
      refine (XHU.out _).mono ?_
      rintro e w1 ⟨g, rfl, hg, nb, b1⟩
      replace bl := go7 bl b1
      have m0 := cellsAt nb 0 _ rfl
      have m1 := cellsAt nb 1 _ rfl
      have m2 := cellsAt nb 2 _ rfl
      have m3 := cellsAt nb 3 _ rfl
      clear b1
      go_wp2_with fail
      go_ret2
      exact ⟨rfl, bl⟩
set_option maxHeartbeats 2000000 in
theorem us_i (s k : ByteArray) (x0 x1 x2 : Int) (b3 b4 ok : Bool) (p q : Bool) (hp : p = true ↔ 0 < x0) (hq : q = true ↔ 0 < x1) (HU : (∀ w, Calls Try.prog 17 #[.string s, .string k] w fun e w' => e = .returned (.tuple #[.agg #[.int .i64 x0, .int .i64 x1, .int .i64 x2, .bool b3, .bool b4], .bool ok]) ∧ Below w.heap.size w w')) (w : World) : Calls Try.prog 8 #[.string s, .string k] w fun e w' => e = .returned (.tuple #[.string (ut p q), .bool ok]) ∧ Below w.heap.size w w' := by
  have XHU := Lib.hid HU
  clear HU
  have h0 : Hid (p = true ↔ 0 < x0) := hp
  have h1 : Hid (q = true ↔ 0 < x1) := hq
  clear hp hq
  cases p
  · have g0 : ¬ 0 < x0 := fun h => by have := h0.out.2 h; cases this
    cases q
    · have g1 : ¬ 0 < x1 := fun h => by have := h1.out.2 h; cases this
      go_enter Try.func8, Try.ntmps8
      have bl : Below w.heap.size w w := Below.refl _ _
      go_wp2_with fail
      refine (XHU.out _).mono ?_
      rintro e w1 ⟨rfl, b1⟩
      replace bl := go7 bl b1
      clear b1
      go_wp2_with fail
      go_ret2
      exact ⟨rfl, bl.alloc bl.size _⟩
    · have g1 : 0 < x1 := h1.out.1 rfl
      go_enter Try.func8, Try.ntmps8
      have bl : Below w.heap.size w w := Below.refl _ _
      go_wp2_with fail
      refine (XHU.out _).mono ?_
      rintro e w1 ⟨rfl, b1⟩
      replace bl := go7 bl b1
      clear b1
      go_wp2_with fail
      go_ret2
      exact ⟨rfl, bl.alloc bl.size _⟩
  · have g0 : 0 < x0 := h0.out.1 rfl
    cases q
    · have g1 : ¬ 0 < x1 := fun h => by have := h1.out.2 h; cases this
      go_enter Try.func8, Try.ntmps8
      have bl : Below w.heap.size w w := Below.refl _ _
      go_wp2_with fail
      refine (XHU.out _).mono ?_
      rintro e w1 ⟨rfl, b1⟩
      replace bl := go7 bl b1
      clear b1
      go_wp2_with fail
      go_ret2
      exact ⟨rfl, bl.alloc bl.size _⟩
    · have g1 : 0 < x1 := h1.out.1 rfl
      go_enter Try.func8, Try.ntmps8
      have bl : Below w.heap.size w w := Below.refl _ _
      go_wp2_with fail
      refine (XHU.out _).mono ?_
      rintro e w1 ⟨rfl, b1⟩
      replace bl := go7 bl b1
      clear b1
      go_wp2_with fail
      go_ret2
      exact ⟨rfl, bl.alloc bl.size _⟩
set_option maxHeartbeats 2000000 in
theorem cu_s1 (s k : ByteArray) (c : UInt8) (hk : 0 < k.size) (hc : ((k[0]'hk).toNat : Int) = (c.toNat : Int)) (n x0 x1 x2 x3 : Int) (HP : (∀ w, Calls Try.prog 15 #[.string s, .string k] w fun e w' => e = .returned (.tuple #[.int .i64 n, .bool true]) ∧ Below w.heap.size w w')) (HU : (∀ w, Calls Try.prog 16 #[.string s, .int .u8 (c.toNat : Int)] w fun e w' => ∃ g, e = .returned (.slice (some ⟨g, 0, none⟩) 4 4) ∧ w.heap.size ≤ g ∧ w'.heap[g]? = some (.cells #[.int .i64 x0, .int .i64 x1, .int .i64 x2, .int .i64 x3] 3 (0, 0)) ∧ Below w.heap.size w w')) (w : World) : Calls Try.prog 9 #[.string s, .string k] w fun e w' => e = .returned (.tuple #[.int .i64 x0, .int .i64 x1, .int .i64 x2, .bool true]) ∧ Below w.heap.size w w' := by
  have XHP := Lib.hid HP
  have XHU := Lib.hid HU
  clear HP HU
  go_enter Try.func9, Try.ntmps9
  have bl : Below w.heap.size w w := Below.refl _ _
  go_wp2_with fail
  refine (XHP.out _).mono ?_
  rintro e w1 ⟨rfl, b1⟩
  replace bl := go7 bl b1
  clear b1
  go_wp2_with fail
  refine (XHU.out _).mono ?_
  rintro e w1 ⟨g, rfl, hg, nb, b1⟩
  replace bl := go7 bl b1
  have m0 := cellsAt nb 0 _ rfl
  have m1 := cellsAt nb 1 _ rfl
  have m2 := cellsAt nb 2 _ rfl
  have m3 := cellsAt nb 3 _ rfl
  clear b1
  go_wp2_with fail
  go_region
  all_goals
    go_wp2_with fail
    (try simp only [Exit.inBlock, Exit.then]); refine bodyPost_ret (results_tmp4 rfl _ _ _) rfl ?_
    exact ⟨rfl, bl.drew⟩
set_option maxHeartbeats 2000000 in
theorem cu_i (s k : ByteArray) (x0 x1 x2 : Int) (b3 b4 ok : Bool) (HU : (∀ w, Calls Try.prog 17 #[.string s, .string k] w fun e w' => e = .returned (.tuple #[.agg #[.int .i64 x0, .int .i64 x1, .int .i64 x2, .bool b3, .bool b4], .bool ok]) ∧ Below w.heap.size w w')) (w : World) : Calls Try.prog 10 #[.string s, .string k] w fun e w' => e = .returned (.tuple #[.int .i64 x0, .int .i64 x1, .int .i64 x2, .bool ok]) ∧ Below w.heap.size w w' := by
  have XHU := Lib.hid HU
  clear HU
  go_enter Try.func10, Try.ntmps10
  have bl : Below w.heap.size w w := Below.refl _ _
  go_wp2_with fail
  refine (XHU.out _).mono ?_
  rintro e w1 ⟨rfl, b1⟩
  replace bl := go7 bl b1
  clear b1
  have nb := new_block w1 (.cells #[.int .i64 x0, .int .i64 x1, .int .i64 x2, .bool b3, .bool b4] 36)
  have ba := bl.alloc bl.size (.cells #[.int .i64 x0, .int .i64 x1, .int .i64 x2, .bool b3, .bool b4] 36)
  obtain ⟨W, hW⟩ : ∃ W, W = w1.alloc (.cells #[.int .i64 x0, .int .i64 x1, .int .i64 x2, .bool b3, .bool b4] 36) := ⟨_, rfl⟩
  rw [← hW] at nb ba
  have m0 := cellsAt nb 0 _ rfl
  have m1 := cellsAt nb 1 _ rfl
  have m2 := cellsAt nb 2 _ rfl
  go_wp2_with fail
  rw [← hW]
  clear hW
  go_region
  all_goals
    go_wp2_with fail
    (try simp only [Exit.inBlock, Exit.then]); refine bodyPost_ret (results_tmp4 rfl _ _ _) rfl ?_
    exact ⟨rfl, ba.drew⟩
set_option maxHeartbeats 2000000 in
theorem il_s1 (s k : ByteArray) (c : UInt8) (hk : 0 < k.size) (hc : ((k[0]'hk).toNat : Int) = (c.toNat : Int)) (n x0 x1 x2 x3 : Int) (rp : Bool) (q0 q1 q2 q3 : Bool) (e0 : (x0 == 1) = q0) (e1 : (x1 == 1) = q1) (e2 : (x2 == 0) = q2) (e3 : (x3 == 0) = q3) (HP : (∀ w, Calls Try.prog 15 #[.string s, .string k] w fun e w' => e = .returned (.tuple #[.int .i64 n, .bool true]) ∧ Below w.heap.size w w')) (HU : (∀ w, Calls Try.prog 16 #[.string s, .int .u8 (c.toNat : Int)] w fun e w' => ∃ g, e = .returned (.slice (some ⟨g, 0, none⟩) 4 4) ∧ w.heap.size ≤ g ∧ w'.heap[g]? = some (.cells #[.int .i64 x0, .int .i64 x1, .int .i64 x2, .int .i64 x3] 3 (0, 0)) ∧ Below w.heap.size w w')) (HR : (∀ w, Calls Try.prog 18 #[.string s, .int .u8 (c.toNat : Int)] w fun e w' => e = .returned (.bool rp) ∧ Below w.heap.size w w')) (w : World) : Calls Try.prog 11 #[.string s, .string k] w fun e w' => e = .returned (.tuple #[.bool (q0 && q1 && q2 && q3 && !rp), .bool true]) ∧ Below w.heap.size w w' := by
  have XHP := Lib.hid HP
  have XHU := Lib.hid HU
  have XHR := Lib.hid HR
  clear HP HU HR
  cases q0
  · go_enter Try.func11, Try.ntmps11
    have bl : Below w.heap.size w w := Below.refl _ _
    go_wp2_with fail
    refine (XHP.out _).mono ?_
    rintro e w1 ⟨rfl, b1⟩
    replace bl := go7 bl b1
    clear b1
    go_wp2_with fail
    refine (XHU.out _).mono ?_
    rintro e w1 ⟨g, rfl, hg, nb, b1⟩
    replace bl := go7 bl b1
    have m0 := cellsAt nb 0 _ rfl
    have m1 := cellsAt nb 1 _ rfl
    have m2 := cellsAt nb 2 _ rfl
    have m3 := cellsAt nb 3 _ rfl
    clear b1
    go_wp2_with fail
    go_ret2
    exact ⟨rfl, bl⟩
  · cases q1
    · go_enter Try.func11, Try.ntmps11
      have bl : Below w.heap.size w w := Below.refl _ _
      go_wp2_with fail
      refine (XHP.out _).mono ?_
      rintro e w1 ⟨rfl, b1⟩
      replace bl := go7 bl b1
      clear b1
      go_wp2_with fail
      refine (XHU.out _).mono ?_
      rintro e w1 ⟨g, rfl, hg, nb, b1⟩
      replace bl := go7 bl b1
      have m0 := cellsAt nb 0 _ rfl
      have m1 := cellsAt nb 1 _ rfl
      have m2 := cellsAt nb 2 _ rfl
      have m3 := cellsAt nb 3 _ rfl
      clear b1
      go_wp2_with fail
      go_ret2
      exact ⟨rfl, bl⟩
    · cases q2
      · go_enter Try.func11, Try.ntmps11
        have bl : Below w.heap.size w w := Below.refl _ _
        go_wp2_with fail
        refine (XHP.out _).mono ?_
        rintro e w1 ⟨rfl, b1⟩
        replace bl := go7 bl b1
        clear b1
        go_wp2_with fail
        refine (XHU.out _).mono ?_
        rintro e w1 ⟨g, rfl, hg, nb, b1⟩
        replace bl := go7 bl b1
        have m0 := cellsAt nb 0 _ rfl
        have m1 := cellsAt nb 1 _ rfl
        have m2 := cellsAt nb 2 _ rfl
        have m3 := cellsAt nb 3 _ rfl
        clear b1
        go_wp2_with fail
        go_ret2
        exact ⟨rfl, bl⟩
      · cases q3
        · go_enter Try.func11, Try.ntmps11
          have bl : Below w.heap.size w w := Below.refl _ _
          go_wp2_with fail
          refine (XHP.out _).mono ?_
          rintro e w1 ⟨rfl, b1⟩
          replace bl := go7 bl b1
          clear b1
          go_wp2_with fail
          refine (XHU.out _).mono ?_
          rintro e w1 ⟨g, rfl, hg, nb, b1⟩
          replace bl := go7 bl b1
          have m0 := cellsAt nb 0 _ rfl
          have m1 := cellsAt nb 1 _ rfl
          have m2 := cellsAt nb 2 _ rfl
          have m3 := cellsAt nb 3 _ rfl
          clear b1
          go_wp2_with fail
          go_ret2
          exact ⟨rfl, bl⟩
        · go_enter Try.func11, Try.ntmps11
          have bl : Below w.heap.size w w := Below.refl _ _
          go_wp2_with fail
          refine (XHP.out _).mono ?_
          rintro e w1 ⟨rfl, b1⟩
          replace bl := go7 bl b1
          clear b1
          go_wp2_with fail
          refine (XHU.out _).mono ?_
          rintro e w1 ⟨g, rfl, hg, nb, b1⟩
          replace bl := go7 bl b1
          have m0 := cellsAt nb 0 _ rfl
          have m1 := cellsAt nb 1 _ rfl
          have m2 := cellsAt nb 2 _ rfl
          have m3 := cellsAt nb 3 _ rfl
          clear b1
          go_wp2_with fail
          refine (XHR.out _).mono ?_
          rintro e w1 ⟨rfl, b1⟩
          replace bl := go7 bl b1
          clear b1
          go_wp2_with fail
          go_ret2
          exact ⟨rfl, bl⟩
set_option maxHeartbeats 2000000 in
theorem il_i (s k : ByteArray) (x0 x1 x2 : Int) (b3 b4 ok : Bool) (q0 q1 q2 : Bool) (e0 : (x0 == 1) = q0) (e1 : (x1 == 1) = q1) (e2 : (x2 == 0) = q2) (HU : (∀ w, Calls Try.prog 17 #[.string s, .string k] w fun e w' => e = .returned (.tuple #[.agg #[.int .i64 x0, .int .i64 x1, .int .i64 x2, .bool b3, .bool b4], .bool ok]) ∧ Below w.heap.size w w')) (w : World) : Calls Try.prog 12 #[.string s, .string k] w fun e w' => e = .returned (.tuple #[.bool (q0 && q1 && q2 && !b3 && !b4), .bool ok]) ∧ Below w.heap.size w w' := by
  have XHU := Lib.hid HU
  clear HU
  cases q0 <;> cases q1 <;> cases q2 <;> cases b3 <;> cases b4
  all_goals
    go_enter Try.func12, Try.ntmps12
    have bl : Below w.heap.size w w := Below.refl _ _
    go_wp2_with fail
    refine (XHU.out _).mono ?_
    rintro e w1 ⟨rfl, b1⟩
    replace bl := go7 bl b1
    clear b1
    go_wp2_with fail
    go_ret2
    exact ⟨rfl, bl.alloc bl.size _⟩
end Go.Proofs.Ytdfelpahacmdpab.T1
