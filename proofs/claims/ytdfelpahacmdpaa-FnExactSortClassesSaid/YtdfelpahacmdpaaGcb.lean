/- Texts of the proof, put together: Qe. No conditions. -/
import Derived.Test.YtdfelpahacmdpaaGca

/- What both sides answer: the names that are carried; the names from whose sort one comes to one that carries itself. MADE BY gen_Qe.py. -/
namespace Go.Proofs.Ytdfelpahacmdpaa.T1
open Go.RowKit
set_option maxRecDepth 100000
set_option linter.unusedVariables false
set_option linter.unusedSimpArgs false

theorem one_b6 (w : World) (o : Obj) : (w.alloc o).heap[w.heap.size]? = some o := by
  show (w.heap.push o)[w.heap.size]? = _
  rw [Array.getElem?_push, if_pos rfl]
theorem B_ap6 (l m : List UInt8) : B l ++ B m = B (l ++ m) := by
  apply ByteArray.ext
  apply Array.ext'
  rw [ByteArray.data_append, Array.toList_append]
  rfl
theorem fil_yes (F : List UInt8) (p : UInt8 → Bool) (i : Nat) (h : i < F.length) (hp : p F[i] = true) : B ((F.take i).filter p) ++ (B F).extract i (i + 1) = B ((F.take (i + 1)).filter p) := by
  rw [ext_one F i h, filter_snoc p i h, hp, B_ap6]; rfl
theorem fil_no (F : List UInt8) (p : UInt8 → Bool) (i : Nat) (h : i < F.length) (hp : p F[i] = false) : B ((F.take i).filter p) = B ((F.take (i + 1)).filter p) := by
  rw [filter_snoc p i h, hp]; simp
theorem fil_len (F : List UInt8) (p : UInt8 → Bool) (i : Nat) (h : F.length ≤ 26) : (B ((F.take i).filter p)).size ≤ 26 := by
  rw [B_size]
  have h1 := List.length_filter_le p (F.take i)
  have h2 : (F.take i).length ≤ F.length := by rw [List.length_take]; omega
  omega
theorem idx6_get (t : Tm) {j : Nat} (h : j < t.free.length) : idx6 t.free 0 t.free[j] = j := by rw [idx6_at t.free 0 j h (nd6 t), Nat.zero_add]
theorem car_iff {S C : Nat → Nat → Prop} {i z j : Nat} (h : Car S C i z) : Car S C i j ↔ Eqv S C j z :=
  ⟨fun k => k.one h (.refl _), fun e => h.at_ (.refl _) e⟩
/-- What a row of the sorts tells of what a name carries. -/
theorem car_info {w : World} {b : Nat} {t : Tm} (h : SpSo w b t) (hl : Lets t.free) {x : UInt8} (hx : x ∈ t.free) : ∃ (g2 k2 N m : Nat) (o : Option Nat),
    w.cell? ⟨b, 1, none⟩ = some (.slice (some ⟨g2, 0, none⟩) N k2) ∧ m < N ∧ w.cell? ⟨g2, m, none⟩ = some (.int .i64 (cS o)) ∧
    (∀ n, Calls Try.prog 33 #[.pointer (some ⟨b, 0, none⟩), .int .i64 (idx6 t.free 0 x : Int)] (w.drewN n) fun e w' => e = .returned (.int .i64 (m : Int)) ∧ w.drewN n = w') ∧
    (o = none → B (t.free.filter fun y => decB (carr6 t x y)) = ⟨#[]⟩) ∧
    ∀ z, o = some z → ∃ (r : Nat → Nat), (∀ (j : Nat) (h : j < t.free.length), ((r j : Int) == (r z : Int)) = decB (carr6 t x t.free[j])) ∧ ∀ w', Below w.heap.size w w' → (∀ j, j < t.free.length → Calls Try.prog 33 #[.pointer (some ⟨b, 0, none⟩), .int .i64 (j : Int)] w' fun e w2 => e = .returned (.int .i64 (r j : Int)) ∧ w' = w2) ∧ Calls Try.prog 33 #[.pointer (some ⟨b, 0, none⟩), .int .i64 (z : Int)] w' fun e w2 => e = .returned (.int .i64 (r z : Int)) ∧ w' = w2 := by
  obtain ⟨f, r, c, v1, v2, h1, h2⟩ := h
  have hi := idx_lt t hx
  obtain ⟨g1, k1, g2, k2, rfl, rfl, hgg, hb1, hb2⟩ := h1.form (by omega)
  have hri : r (idx6 t.free 0 x) < (ask6 t (idx6 t.free 0) t.free.length).2 := h2.rlt hi
  refine ⟨g2, k2, (ask6 t (idx6 t.free 0) t.free.length).2, r (idx6 t.free 0 x), c (r (idx6 t.free 0 x)), h1.c2, hri, (h1.r2.cellAt _ (by omega)).trans (rC_at _ c hri), fun n => root_any (h1.below (below_drewN' (Below.refl _ _) n)) h2.rt h2.lt hi, ?_, ?_⟩
  · intro hn
    have : (t.free.filter fun y => decB (carr6 t x y)) = [] := by
      rw [List.filter_eq_nil_iff]
      intro y hy
      rw [decB_iff, carr6_idx (nd6 t) hl hx hy]
      exact (h2.cls.carries _).2 hn _
    rw [this]; rfl
  · intro z hz
    have hzl := h2.clt _ _ hz
    have hc := (h2.cls.carries _).1 _ hz
    refine ⟨r, fun j hj => ?_, fun w' hw => ⟨fun j hj => root_any (h1.below hw) h2.rt h2.lt (Nat.lt_of_lt_of_le hj (NS t).1), root_any (h1.below hw) h2.rt h2.lt hzl⟩⟩
    rw [Bool.eq_iff_iff, decB_iff, carr6_idx (nd6 t) hl hx (List.getElem_mem hj), idx6_get t hj, car_iff hc, ← h2.same_iff, beq_iff_eq]
    exact ⟨fun h => by omega, fun h => by omega⟩
set_option maxHeartbeats 1000000 in
theorem car_s0 (s a : ByteArray) (n : Int) (P1 : (∀ w, Calls Try.prog 32 #[.string s, .string a] w fun e w' => e = .returned (.tuple #[.int .i64 n, .bool false]) ∧ Below w.heap.size w w')) (w : World) : Calls Try.prog 23 #[.string s, .string a] w fun e w' => e = .returned (.tuple #[.string ⟨#[]⟩, .bool false]) ∧ Below w.heap.size w w' := by
  have XP1 := Lib.hid P1
  clear P1
  go_enter Try.func23, Try.ntmps23
  have bl : Below w.heap.size w w := Below.refl _ _
  go_wp2_with fail
  refine (XP1.out _).mono ?_
  rintro e w1 ⟨rfl, b1⟩
  replace bl := go6 bl b1
  clear b1
  go_wp2_with fail
  go_ret2
  exact ⟨rfl, bl⟩
set_option maxHeartbeats 4000000 in
theorem car_s1 (s : ByteArray) (t : Tm) (hl : Lets t.free) (h60 : t.size ≤ 60) (a : ByteArray) (x : UInt8) (hx : x ∈ t.free) (P1 : (∀ w, Calls Try.prog 32 #[.string s, .string a] w fun e w' => e = .returned (.tuple #[.int .i64 (idx6 t.free 0 x : Int), .bool true]) ∧ Below w.heap.size w w')) (HO : (∀ w, Calls Try.prog 29 #[.string s] w fun e w' => (∃ b, e = .returned (.pointer (some ⟨b, 0, none⟩)) ∧ w.heap.size ≤ b ∧ SpSo w' b t) ∧ Below w.heap.size w w')) (HF : (∀ w, Calls Try.prog 36 #[.string s] w fun e w' => e = .returned (.string (B t.free)) ∧ Below w.heap.size w w')) (w : World) : Calls Try.prog 23 #[.string s, .string a] w fun e w' => e = .returned (.tuple #[.string (B (t.free.filter fun y => decB (carr6 t x y))), .bool true]) ∧ Below w.heap.size w w' := by
  have XP1 := Lib.hid P1
  have XHO := Lib.hid HO
  have XHF := Lib.hid HF
  have XI := Lib.hid (fun (w1 : World) (b : Nat) (h : SpSo w1 b t) => car_info h hl hx)
  obtain ⟨p, hp⟩ : ∃ p, p = fun y => decB (carr6 t x y) := ⟨_, rfl⟩
  rw [← hp] at XI ⊢
  have hp2 : ∀ y, decB (carr6 t x y) = p y := fun y => by rw [hp]
  have hm := srt_lenL (srt_free t) hl
  have XE := Lib.hid (ext_one t.free)
  have HX1 := Lib.hid (fil_yes t.free p)
  have HX2 := Lib.hid (fil_no t.free p)
  have HX3 := Lib.hid (fun i => fil_len t.free p i hm)
  simp only [hp2] at XI
  clear P1 HO HF hp hp2 h60
  obtain ⟨i, hi⟩ : ∃ i, i = idx6 t.free 0 x := ⟨_, rfl⟩
  rw [← hi] at XP1 XI
  clear hi hx hl
  obtain ⟨XF, hXF⟩ : ∃ XF, XF = B t.free := ⟨_, rfl⟩
  have hs1 : XF.size ≤ t.free.length := by rw [hXF, B_size]; exact Nat.le_refl _
  have hs2 : t.free.length ≤ XF.size := by rw [hXF, B_size]; exact Nat.le_refl _
  rw [← hXF] at XHF HX1 XE
  clear hXF
  go_enter Try.func23, Try.ntmps23
  have bl : Below w.heap.size w w := Below.refl _ _
  go_wp2_with fail
  refine (XP1.out _).mono ?_
  rintro e w1 ⟨rfl, b1⟩
  replace bl := go6 bl b1
  clear b1
  go_wp2_with fail
  refine (XHO.out _).mono ?_
  rintro e w1 ⟨⟨b, rfl, hb, hs⟩, b1⟩
  replace bl := go6 bl b1
  obtain ⟨g2, k2, N, m, o, c1, hmN, c2, hr, ho1, ho2⟩ := XI.out _ _ hs
  have HA := Lib.hid hr
  clear b1 hs hr
  cases o with
  | none =>
    have HO1 := Lib.hid (ho1 rfl)
    have c2' : w1.cell? ⟨g2, m, none⟩ = some (.int .i64 (-1)) := c2
    clear ho1 ho2 c2
    go_wp2_with fail
    go_quiet ((go_at_call 33; exact Calls.quiet_of_same ((HA.out _).mono fun _ _ hh => ⟨hh.1, hh.2.symm⟩)))
    all_goals
      go_wp2_with fail
      go_ret2
      exact ⟨by rw [HO1.out]; rfl, by first | exact bl | exact bl.drew | exact below_drewN' bl _⟩
  | some z =>
    obtain ⟨r, hq, hw⟩ := ho2 z rfl
    have HQ := Lib.hid hq
    have HW := Lib.hid hw
    have c2' : w1.cell? ⟨g2, m, none⟩ = some (.int .i64 (z : Int)) := c2
    clear ho1 ho2 c2 hq hw
    go_wp2_with fail
    go_quiet ((go_at_call 33; exact Calls.quiet_of_same ((HA.out _).mono fun _ _ hh => ⟨hh.1, hh.2.symm⟩)))
    all_goals
      obtain ⟨W0, hW0⟩ : ∃ W, W = World.drewN w1 nq := ⟨_, rfl⟩
      rw [← hW0]
      have bd : Below w1.heap.size w1 W0 := by rw [hW0]; exact below_drewN' (Below.refl _ _) _
      replace bl := go6 bl bd
      clear hW0 c1 c2'
      go_wp2_with fail
      refine (XHF.out _).mono ?_
      rintro e w2 ⟨rfl, b2⟩
      replace bl := go6 bl b2
      have HR := Lib.hid (HW.out _ (go6 bd b2))
      clear bd b2
      obtain ⟨rz, hrz⟩ : ∃ rz, rz = r z := ⟨_, rfl⟩
      rw [← hrz] at HR HQ
      clear hrz
      go_wp2_with fail
      go_loopg [11, 12] t.free.length (fun gk s11 s12 wr => (∃ j : Nat, s12 = .int .i64 (j : Int) ∧ s11 = .string (B ((t.free.take j).filter p)) ∧ j + gk = t.free.length) ∧ wr = w2)
      case atStart => exact ⟨⟨0, rfl, rfl, by omega⟩, rfl⟩
      case round =>
        obtain ⟨⟨j, rfl, rfl, hg⟩, rfl⟩ := hrel
        have f26 := HX3.out j
        by_cases hj : j < t.free.length
        · have q0 : (j : Int) < (XF.size : Int) := by omega
          have q1 : (j : Int) + 1 ≤ (XF.size : Int) := by omega
          have q2 : (j : Int) ≤ (j : Int) + 1 := by omega
          have q3 := HQ.out j hj
          have R1 := Lib.hid (HR.out.1 j hj)
          have hsl : (XF.extract j (j + 1)).size ≤ 1 := by rw [ByteArray.size_extract]; omega
          have y1 := Lib.hid (HX1.out j hj)
          have y2 := Lib.hid (HX2.out j hj)
          obtain ⟨s0, hs0⟩ : ∃ s0, s0 = B ((t.free.take j).filter p) := ⟨_, rfl⟩
          rw [← hs0] at f26 y1 y2 ⊢
          have hcat : ¬ 9223372036854775807 < s0.size + (XF.extract j (j + 1)).size := by omega
          obtain ⟨rj, hrj⟩ : ∃ rj, rj = r j := ⟨_, rfl⟩
          rw [← hrj] at R1 q3
          clear hs0 hrj
          cases e : p t.free[j] with
          | true =>
            have y := Lib.hid (y1.out e)
            rw [e] at q3
            clear e y1 y2
            go_wp2_with fail
            refine (R1.out).mono ?_
            rintro e w3 ⟨rfl, rfl⟩
            go_wp2_with fail
            refine (HR.out.2).mono ?_
            rintro e w3 ⟨rfl, rfl⟩
            go_wp2_with fail
            go_roundg (gk - 1)
            case measure => omega
            case rel => exact ⟨⟨j + 1, by go_num, by rw [← y.out], by omega⟩, rfl⟩
          | false =>
            have y := Lib.hid (y2.out e)
            rw [e] at q3
            clear e y1 y2
            go_wp2_with fail
            refine (R1.out).mono ?_
            rintro e w3 ⟨rfl, rfl⟩
            go_wp2_with fail
            refine (HR.out.2).mono ?_
            rintro e w3 ⟨rfl, rfl⟩
            go_wp2_with fail
            go_roundg (gk - 1)
            case measure => omega
            case rel => exact ⟨⟨j + 1, by go_num, by rw [← y.out], by omega⟩, rfl⟩
        · obtain rfl : j = t.free.length := by omega
          rw [List.take_length]
          obtain ⟨s0, hs0⟩ : ∃ s0, s0 = B (t.free.filter p) := ⟨_, rfl⟩
          rw [← hs0]
          have HS0 := Lib.hid hs0
          clear hs0 f26
          go_wp2_with fail
          go_ret2
          exact ⟨by rw [← HS0.out]; rfl, bl⟩
set_option maxHeartbeats 1000000 in
theorem car_i0 (s a : ByteArray) (HO : (∀ w, Calls Try.prog 30 #[.string s] w fun e w' => e = .returned (.tuple #[.pointer none, .bool false]) ∧ Below w.heap.size w w')) (w : World) : Calls Try.prog 24 #[.string s, .string a] w fun e w' => e = .returned (.tuple #[.string ⟨#[]⟩, .bool false]) ∧ Below w.heap.size w w' := by
  have XHO := Lib.hid HO
  clear HO
  go_enter Try.func24, Try.ntmps24
  have bl : Below w.heap.size w w := Below.refl _ _
  go_wp2_with fail
  refine (XHO.out _).mono ?_
  rintro e w1 ⟨rfl, b1⟩
  replace bl := go6 bl b1
  clear b1
  go_wp2_with fail
  go_ret2
  exact ⟨rfl, bl⟩
set_option maxHeartbeats 1000000 in
theorem car_i1 (s : ByteArray) (t : Tm) (a : ByteArray) (n : Int) (HO : (∀ w, Calls Try.prog 30 #[.string s] w fun e w' => (∃ b, e = .returned (.tuple #[.pointer (some ⟨b, 0, none⟩), .bool true]) ∧ w.heap.size ≤ b ∧ ImSo w' b t) ∧ Below w.heap.size w w')) (P1 : (∀ w1 bp, ImSo w1 bp t → Calls Try.prog 34 #[.pointer (some ⟨bp, 0, none⟩), .string a] w1 fun e w' => e = .returned (.tuple #[.int .i64 n, .bool false]) ∧ Below w1.heap.size w1 w')) (w : World) : Calls Try.prog 24 #[.string s, .string a] w fun e w' => e = .returned (.tuple #[.string ⟨#[]⟩, .bool false]) ∧ Below w.heap.size w w' := by
  have XHO := Lib.hid HO
  have XP1 := Lib.hid P1
  clear HO P1
  go_enter Try.func24, Try.ntmps24
  have bl : Below w.heap.size w w := Below.refl _ _
  go_wp2_with fail
  refine (XHO.out _).mono ?_
  rintro e w1 ⟨⟨b, rfl, hb, hs⟩, b1⟩
  replace bl := go6 bl b1
  have HS := Lib.hid hs
  clear b1 hs
  go_wp2_with fail
  refine (XP1.out _ _ HS.out).mono ?_
  rintro e w1 ⟨rfl, b1⟩
  replace bl := go6 bl b1
  have HS := Lib.hid (HS.out.below b1)
  clear b1
  go_wp2_with fail
  go_ret2
  exact ⟨rfl, bl⟩
set_option maxHeartbeats 2000000 in
theorem car_i2 (s : ByteArray) (t : Tm) (hl : Lets t.free) (h60 : t.size ≤ 60) (a : ByteArray) (x : UInt8) (hx : x ∈ t.free) (HO : (∀ w, Calls Try.prog 30 #[.string s] w fun e w' => (∃ b, e = .returned (.tuple #[.pointer (some ⟨b, 0, none⟩), .bool true]) ∧ w.heap.size ≤ b ∧ ImSo w' b t) ∧ Below w.heap.size w w')) (P1 : (∀ w1 bp, ImSo w1 bp t → Calls Try.prog 34 #[.pointer (some ⟨bp, 0, none⟩), .string a] w1 fun e w' => e = .returned (.tuple #[.int .i64 (lt6 x : Int), .bool true]) ∧ Below w1.heap.size w1 w')) (w : World) : Calls Try.prog 24 #[.string s, .string a] w fun e w' => e = .returned (.tuple #[.string (B (t.free.filter fun y => decB (carr6 t x y))), .bool true]) ∧ Below w.heap.size w w' := by
  have XHO := Lib.hid HO
  have XP1 := Lib.hid P1
  have h26 := srt_lenL (srt_free t) hl
  have XB := Lib.hid (fun (w1 : World) (b : Nat) (h : ImSo w1 b t) => ib_behind h (lt6_lt hl hx))
  have XN := Lib.hid (fun (w1 : World) (b n : Nat) (h : ImSo w1 b t) (hn : n < (ask6 t lt6 26).2) => ib_namesOf h hl h26 hn)
  have X0 := Lib.hid (fun (hn : ∀ y, ¬ Car (S6 (ask6 t lt6 26).1) (C6 (ask6 t lt6 26).1) (lt6 x) y) => show B (t.free.filter fun y => decB (carr6 t x y)) = ⟨#[]⟩ by
    have : (t.free.filter fun y => decB (carr6 t x y)) = [] := by
      rw [List.filter_eq_nil_iff]
      intro y hy
      rw [decB_iff]
      exact hn _
    rw [this]; rfl)
  have X1 := Lib.hid (fun (z : Nat) (hz : Car (S6 (ask6 t lt6 26).1) (C6 (ask6 t lt6 26).1) (lt6 x) z) => show B (t.free.filter fun y => decB (Eqv (S6 (ask6 t lt6 26).1) (C6 (ask6 t lt6 26).1) (lt6 y) z)) = B (t.free.filter fun y => decB (carr6 t x y)) by
    congr 2
    funext y
    exact decB_congr (car_iff hz).symm)
  obtain ⟨X, hX⟩ : ∃ X, X = B (t.free.filter fun y => decB (carr6 t x y)) := ⟨_, rfl⟩
  rw [← hX] at X0 X1 ⊢
  obtain ⟨i, hi⟩ : ∃ i, i = lt6 x := ⟨_, rfl⟩
  rw [← hi] at XP1 XB X0 X1
  clear HO P1 hX hi hx hl h60
  go_enter Try.func24, Try.ntmps24
  have bl : Below w.heap.size w w := Below.refl _ _
  go_wp2_with fail
  refine (XHO.out _).mono ?_
  rintro e w1 ⟨⟨b, rfl, hb, hs⟩, b1⟩
  replace bl := go6 bl b1
  have HS := Lib.hid hs
  clear b1 hs
  go_wp2_with fail
  refine (XP1.out _ _ HS.out).mono ?_
  rintro e w1 ⟨rfl, b1⟩
  replace bl := go6 bl b1
  have HS := Lib.hid (HS.out.below b1)
  clear b1
  go_wp2_with fail
  refine (XB.out _ _ HS.out).mono ?_
  rintro e w1 ⟨⟨o, rfl, ho1, ho2⟩, b1⟩
  replace bl := go6 bl b1
  have HS := Lib.hid (HS.out.below b1)
  clear b1
  cases o with
  | none =>
    have e0 := Lib.hid (X0.out (ho2 rfl))
    clear ho1 ho2
    go_wp2_with fail
    go_ret2
    exact ⟨by rw [e0.out]; rfl, bl⟩
  | some z =>
    have hz := ho1 z rfl
    have XN2 := Lib.hid (XN.out _ _ z HS.out hz.1)
    rw [X1.out z hz.2] at XN2
    clear ho1 ho2 hz
    go_wp2_with fail
    refine (XN2.out).mono ?_
    rintro e w1 ⟨rfl, b1⟩
    replace bl := go6 bl b1
    go_wp2_with fail
    go_ret2
    exact ⟨rfl, bl⟩
theorem bothCar (s a : ByteArray) (hm : s.size ≤ 9223372036854775807) : ∃ (p : ByteArray) (q : Bool), (∀ w, Calls Try.prog 23 #[.string s, .string a] w fun e w' => e = .returned (.tuple #[.string p, .bool q]) ∧ Below w.heap.size w w') ∧ (∀ w, Calls Try.prog 24 #[.string s, .string a] w fun e w' => e = .returned (.tuple #[.string p, .bool q]) ∧ Below w.heap.size w w') := by
  cases hg : good s.data.toList with
  | none =>
    have g0 := fun w => tmGood_none hg w hm
    have i0 := readSorts_none s hg hm
    have p0 := fun k => soPlace_bad s k g0
    exact ⟨_, _, car_s0 s a _ (p0 a), car_i0 s a i0⟩
  | some t =>
    obtain ⟨es, hL, hE, h300, h60⟩ := good_S hg
    have hl := lets_free t hL
    have g1 := fun w => tmGood_some hg w hm
    have o1 := soOf_good s t hg
    have i1 := readSorts_some s t hg hm
    have p1 := soPlace_good s t hg hm
    have m1a := fun (w1 : World) b (h : ImSo w1 b t) => ib_named h hL a
    have p1a := p1 a
    have f1 := tmFree_any t hE (by omega)
    rw [← es] at f1
    cases ea : nameOf t.free a with
    | none =>
      rw [ea] at p1a m1a
      exact ⟨_, _, car_s0 s a _ p1a, car_i1 s t a _ i1 m1a⟩
    | some x =>
      rw [ea] at p1a m1a
      exact ⟨_, _, car_s1 s t hl h60 a x (nameOf_mem ea) p1a o1 f1, car_i2 s t hl h60 a x (nameOf_mem ea) i1 m1a⟩
set_option maxHeartbeats 1000000 in
theorem cyc_s0 (s : ByteArray) (HG : (∀ w, Calls Try.prog 27 #[.string s] w fun e w' => e = .returned (.bool false) ∧ Below w.heap.size w w')) (w : World) : Calls Try.prog 25 #[.string s] w fun e w' => e = .returned (.tuple #[.string ⟨#[]⟩, .bool false]) ∧ Below w.heap.size w w' := by
  have XHG := Lib.hid HG
  clear HG
  go_enter Try.func25, Try.ntmps25
  have bl : Below w.heap.size w w := Below.refl _ _
  go_wp2_with fail
  refine (XHG.out _).mono ?_
  rintro e w1 ⟨rfl, b1⟩
  replace bl := go6 bl b1
  clear b1
  go_wp2_with fail
  go_ret2
  exact ⟨rfl, bl⟩
set_option maxHeartbeats 4000000 in
theorem cyc_s1 (s : ByteArray) (t : Tm) (hl : Lets t.free) (h60 : t.size ≤ 60) (HG : (∀ w, Calls Try.prog 27 #[.string s] w fun e w' => e = .returned (.bool true) ∧ Below w.heap.size w w')) (HO : (∀ w, Calls Try.prog 29 #[.string s] w fun e w' => (∃ b, e = .returned (.pointer (some ⟨b, 0, none⟩)) ∧ w.heap.size ≤ b ∧ SpSo w' b t) ∧ Below w.heap.size w w')) (HF : (∀ w, Calls Try.prog 36 #[.string s] w fun e w' => e = .returned (.string (B t.free)) ∧ Below w.heap.size w w')) (w : World) : Calls Try.prog 25 #[.string s] w fun e w' => e = .returned (.tuple #[.string (B (t.free.filter fun y => !(levO t y).isSome)), .bool true]) ∧ Below w.heap.size w w' := by
  have XHG := Lib.hid HG
  have XHO := Lib.hid HO
  have XHF := Lib.hid HF
  have XL := Lib.hid (fun (w1 : World) (b j : Nat) (hj : j < t.free.length) (h : SpSo w1 b t) => show Calls Try.prog 45 #[.pointer (some ⟨b, 0, none⟩), .int .i64 (j : Int)] w1 fun e w' => e = .returned (.tuple #[.int .i64 (oS (levO t t.free[j])), .bool (levO t t.free[j]).isSome]) ∧ w1 = w' by
    have := sb_level h hl h60 (List.getElem_mem hj)
    rw [idx6_get t hj] at this
    exact this)
  obtain ⟨p, hp⟩ : ∃ p, p = fun y => !(levO t y).isSome := ⟨_, rfl⟩
  rw [← hp]
  have hp2 : ∀ y, (levO t y).isSome = !(p y) := fun y => by rw [hp]; simp
  have hm := srt_lenL (srt_free t) hl
  have HX1 := Lib.hid (fil_yes t.free p)
  have HX2 := Lib.hid (fil_no t.free p)
  have HX3 := Lib.hid (fun i => fil_len t.free p i hm)
  simp only [hp2] at XL
  clear HG HO HF hp hp2 h60 hl
  obtain ⟨XF, hXF⟩ : ∃ XF, XF = B t.free := ⟨_, rfl⟩
  have hs1 : XF.size ≤ t.free.length := by rw [hXF, B_size]; exact Nat.le_refl _
  have hs2 : t.free.length ≤ XF.size := by rw [hXF, B_size]; exact Nat.le_refl _
  rw [← hXF] at XHF HX1
  clear hXF
  go_enter Try.func25, Try.ntmps25
  have bl : Below w.heap.size w w := Below.refl _ _
  go_wp2_with fail
  refine (XHG.out _).mono ?_
  rintro e w1 ⟨rfl, b1⟩
  replace bl := go6 bl b1
  clear b1
  go_wp2_with fail
  refine (XHO.out _).mono ?_
  rintro e w1 ⟨⟨b, rfl, hb, hs⟩, b1⟩
  replace bl := go6 bl b1
  have HS := Lib.hid hs
  clear b1 hs
  go_wp2_with fail
  refine (XHF.out _).mono ?_
  rintro e w2 ⟨rfl, b1⟩
  replace bl := go6 bl b1
  have HS := Lib.hid (HS.out.below b1)
  clear b1
  go_wp2_with fail
  go_loopg [6, 7] t.free.length (fun gk s6 s7 wr => (∃ j : Nat, s7 = .int .i64 (j : Int) ∧ s6 = .string (B ((t.free.take j).filter p)) ∧ j + gk = t.free.length) ∧ wr = w2)
  case atStart => exact ⟨⟨0, rfl, rfl, by omega⟩, rfl⟩
  case round =>
    obtain ⟨⟨j, rfl, rfl, hg⟩, rfl⟩ := hrel
    have f26 := HX3.out j
    by_cases hj : j < t.free.length
    · have q0 : (j : Int) < (XF.size : Int) := by omega
      have q1 : (j : Int) + 1 ≤ (XF.size : Int) := by omega
      have q2 : (j : Int) ≤ (j : Int) + 1 := by omega
      have R1 := Lib.hid (XL.out _ _ j hj HS.out)
      have hsl : (XF.extract j (j + 1)).size ≤ 1 := by rw [ByteArray.size_extract]; omega
      have y1 := Lib.hid (HX1.out j hj)
      have y2 := Lib.hid (HX2.out j hj)
      obtain ⟨s0, hs0⟩ : ∃ s0, s0 = B ((t.free.take j).filter p) := ⟨_, rfl⟩
      rw [← hs0] at f26 y1 y2 ⊢
      have hcat : ¬ 9223372036854775807 < s0.size + (XF.extract j (j + 1)).size := by omega
      obtain ⟨rj, hrj⟩ : ∃ rj, rj = oS (levO t t.free[j]) := ⟨_, rfl⟩
      rw [← hrj] at R1
      clear hs0 hrj
      cases e : p t.free[j] with
      | true =>
        have y := Lib.hid (y1.out e)
        rw [e] at R1
        clear e y1 y2
        go_wp2_with fail
        refine (R1.out).mono ?_
        rintro e w3 ⟨rfl, rfl⟩
        go_wp2_with fail
        go_roundg (gk - 1)
        case measure => omega
        case rel => exact ⟨⟨j + 1, by go_num, by rw [← y.out], by omega⟩, rfl⟩
      | false =>
        have y := Lib.hid (y2.out e)
        rw [e] at R1
        clear e y1 y2
        go_wp2_with fail
        refine (R1.out).mono ?_
        rintro e w3 ⟨rfl, rfl⟩
        go_wp2_with fail
        go_roundg (gk - 1)
        case measure => omega
        case rel => exact ⟨⟨j + 1, by go_num, by rw [← y.out], by omega⟩, rfl⟩
    · obtain rfl : j = t.free.length := by omega
      rw [List.take_length]
      obtain ⟨s0, hs0⟩ : ∃ s0, s0 = B (t.free.filter p) := ⟨_, rfl⟩
      rw [← hs0]
      have HS0 := Lib.hid hs0
      clear hs0 f26
      go_wp2_with fail
      go_ret2
      exact ⟨by rw [← HS0.out]; rfl, bl⟩
set_option maxHeartbeats 1000000 in
theorem cyc_i0 (s : ByteArray) (HO : (∀ w, Calls Try.prog 30 #[.string s] w fun e w' => e = .returned (.tuple #[.pointer none, .bool false]) ∧ Below w.heap.size w w')) (w : World) : Calls Try.prog 26 #[.string s] w fun e w' => e = .returned (.tuple #[.string ⟨#[]⟩, .bool false]) ∧ Below w.heap.size w w' := by
  have XHO := Lib.hid HO
  clear HO
  go_enter Try.func26, Try.ntmps26
  have bl : Below w.heap.size w w := Below.refl _ _
  go_wp2_with fail
  refine (XHO.out _).mono ?_
  rintro e w1 ⟨rfl, b1⟩
  replace bl := go6 bl b1
  clear b1
  go_wp2_with fail
  go_ret2
  exact ⟨rfl, bl.alloc bl.size _⟩
set_option maxHeartbeats 2000000 in
theorem cyc_i1 (s : ByteArray) (t : Tm) (hl : Lets t.free) (h60 : t.size ≤ 60) (HO : (∀ w, Calls Try.prog 30 #[.string s] w fun e w' => (∃ b, e = .returned (.tuple #[.pointer (some ⟨b, 0, none⟩), .bool true]) ∧ w.heap.size ≤ b ∧ ImSo w' b t) ∧ Below w.heap.size w w')) (w : World) : Calls Try.prog 26 #[.string s] w fun e w' => e = .returned (.tuple #[.string (B (t.free.filter fun y => !(levO t y).isSome)), .bool true]) ∧ Below w.heap.size w w' := by
  have XHO := Lib.hid HO
  have h26 := srt_lenL (srt_free t) hl
  have HN := Lib.hid (fun (b c1 : Nat) => namesWith_any (b := b) hl (srt_free t) rfl h26 47 #[.pointer (some ⟨c1, 0, none⟩)] (fun a => !(levO t a).isSome)
    (fun w1 => ImSo w1 b t ∧ (∃ T, w1.heap[c1]? = some (.cells #[.pointer (some ⟨b, 0, none⟩)] T (0, 0)))) cf_cy1
    (fun w1 w2 ⟨j1, ⟨T1, j2⟩⟩ bl => ⟨j1.below bl, ⟨T1, (bl.block _ (lt_of_block j2)).trans j2⟩⟩)
    (fun w1 j => j.1.u_at)
    (fun a w1 ha ⟨j1, ⟨T1, j2⟩⟩ => cy1_any j1 hl (cellOf1 j2) a ha))
  obtain ⟨X, hX⟩ : ∃ X, X = B (t.free.filter fun y => !(levO t y).isSome) := ⟨_, rfl⟩
  rw [← hX] at HN ⊢
  clear HO hX hl h60
  go_enter Try.func26, Try.ntmps26
  have bl : Below w.heap.size w w := Below.refl _ _
  go_wp2_with fail
  refine (XHO.out _).mono ?_
  rintro e w1 ⟨⟨b, rfl, hb, hs⟩, b1⟩
  replace bl := go6 bl b1
  have HS := Lib.hid hs
  clear b1 hs
  have ba := (Below.refl w1.heap.size w1).alloc (Nat.le_refl _) (.cells #[.pointer (some ⟨b, 0, none⟩)] 41)
  have ta : (w1.alloc (.cells #[.pointer (some ⟨b, 0, none⟩)] 41)).heap[w1.heap.size]? = some (.cells #[.pointer (some ⟨b, 0, none⟩)] 41) := one_b6 _ _
  have ca := cellOf1 ta
  have HN2 := Lib.hid (HN.out b w1.heap.size _ ⟨HS.out.below ba, ⟨_, ta⟩⟩)
  replace bl := go6 bl ba
  obtain ⟨W, hW⟩ : ∃ W, W = w1.alloc (.cells #[.pointer (some ⟨b, 0, none⟩)] 41) := ⟨_, rfl⟩
  rw [← hW] at HN2 bl ca
  clear ba ta
  go_wp2_with fail
  rw [← hW]
  clear hW
  go_wp2_with fail
  refine (HN2.out).mono ?_
  rintro e w2 ⟨rfl, b2⟩
  replace bl := go6 bl b2
  go_wp2_with fail
  go_ret2
  exact ⟨rfl, bl⟩
theorem bothCyc (s  : ByteArray) (hm : s.size ≤ 9223372036854775807) : ∃ (p : ByteArray) (q : Bool), (∀ w, Calls Try.prog 25 #[.string s] w fun e w' => e = .returned (.tuple #[.string p, .bool q]) ∧ Below w.heap.size w w') ∧ (∀ w, Calls Try.prog 26 #[.string s] w fun e w' => e = .returned (.tuple #[.string p, .bool q]) ∧ Below w.heap.size w w') := by
  cases hg : good s.data.toList with
  | none =>
    have g0 := fun w => tmGood_none hg w hm
    have i0 := readSorts_none s hg hm
    have p0 := fun k => soPlace_bad s k g0
    exact ⟨_, _, cyc_s0 s g0, cyc_i0 s i0⟩
  | some t =>
    obtain ⟨es, hL, hE, h300, h60⟩ := good_S hg
    have hl := lets_free t hL
    have g1 := fun w => tmGood_some hg w hm
    have o1 := soOf_good s t hg
    have i1 := readSorts_some s t hg hm
    have p1 := soPlace_good s t hg hm
    have f1 := tmFree_any t hE (by omega)
    rw [← es] at f1
    exact ⟨_, _, cyc_s1 s t hl h60 g1 o1 f1, cyc_i1 s t hl h60 i1⟩
end Go.Proofs.Ytdfelpahacmdpaa.T1
