/- Texts of the proof, put together: Qe, Qk, Zb. No conditions. -/
import Derived.Test.YtlhmjcfnfefliaaGreatHbc
import Derived.Test.YtlhmjcfnfefliaaGreatHbi
import Derived.Test.YtlhmjcfnfefliaaGreatHbl

/- What both sides answer: the names that are carried; the names from whose sort one comes to one that carries itself. MADE BY gen_Qe.py. -/
namespace Go.Proofs.YtlhmjcfnfefliaaGreat.T1
open Go.RowKit
set_option maxRecDepth 100000
set_option linter.unusedVariables false
set_option linter.unusedSimpArgs false

theorem B_ap6 (l m : List UInt8) : B l ++ B m = B (l ++ m) := by
  apply ByteArray.ext
  apply Array.ext'
  rw [ByteArray.data_append, Array.toList_append]
  rfl
theorem fil_yes (F : List UInt8) (p : UInt8 → Bool) (i : Nat) (h : i < F.length) (hp : p F[i] = true) : B ((F.take i).filter p) ++ (B F).extract i (i + 1) = B ((F.take (i + 1)).filter p) := by
  rw [ext_one F i h, filter_snoc p i h, hp, B_ap6]; rfl
theorem fil_no (F : List UInt8) (p : UInt8 → Bool) (i : Nat) (h : i < F.length) (hp : p F[i] = false) : B ((F.take i).filter p) = B ((F.take (i + 1)).filter p) := by
  rw [filter_snoc p i h, hp]; simp
theorem fil_len (F : List UInt8) (p : UInt8 → Bool) (i : Nat) (h : F.length ≤ 26) : (B ((F.take i).filter p)).size ≤ 26 := by
  rw [B_size]
  have h1 := List.length_filter_le p (F.take i)
  have h2 : (F.take i).length ≤ F.length := by rw [List.length_take]; omega
  omega
theorem idx6_get (t : Tm) {j : Nat} (h : j < t.free.length) : idx6 t.free 0 t.free[j] = j := by rw [idx6_at t.free 0 j h (nd6 t), Nat.zero_add]
theorem car_iff {S C : Nat → Nat → Prop} {i z j : Nat} (h : Car S C i z) : Car S C i j ↔ Eqv S C j z :=
  ⟨fun k => k.one h (.refl _), fun e => h.at_ (.refl _) e⟩
/-- What a row of the sorts tells of what a name carries. -/
theorem car_info {w : World} {b : Nat} {t : Tm} (h : SpSo w b t) (hl : Lets t.free) {x : UInt8} (hx : x ∈ t.free) : ∃ (g2 k2 N m : Nat) (o : Option Nat),
    w.cell? ⟨b, 1, none⟩ = some (.slice (some ⟨g2, 0, none⟩) N k2) ∧ m < N ∧ w.cell? ⟨g2, m, none⟩ = some (.int .i64 (cS o)) ∧
    (∀ n, Calls Tryz.prog 31 #[.pointer (some ⟨b, 0, none⟩), .int .i64 (idx6 t.free 0 x : Int)] (w.drewN n) fun e w' => e = .returned (.int .i64 (m : Int)) ∧ w.drewN n = w') ∧
    (o = none → B (t.free.filter fun y => decB (carr6 t x y)) = ⟨#[]⟩) ∧
    ∀ z, o = some z → ∃ (r : Nat → Nat), (∀ (j : Nat) (h : j < t.free.length), ((r j : Int) == (r z : Int)) = decB (carr6 t x t.free[j])) ∧ ∀ w', Below w.heap.size w w' → (∀ j, j < t.free.length → Calls Tryz.prog 31 #[.pointer (some ⟨b, 0, none⟩), .int .i64 (j : Int)] w' fun e w2 => e = .returned (.int .i64 (r j : Int)) ∧ w' = w2) ∧ Calls Tryz.prog 31 #[.pointer (some ⟨b, 0, none⟩), .int .i64 (z : Int)] w' fun e w2 => e = .returned (.int .i64 (r z : Int)) ∧ w' = w2 := by
  obtain ⟨f, r, c, v1, v2, h1, h2⟩ := h
  have hi := idx_lt t hx
  obtain ⟨g1, k1, g2, k2, rfl, rfl, hgg, hb1, hb2⟩ := h1.form (by omega)
  have hri : r (idx6 t.free 0 x) < (ask6 t (idx6 t.free 0) t.free.length).2 := h2.rlt hi
  refine ⟨g2, k2, (ask6 t (idx6 t.free 0) t.free.length).2, r (idx6 t.free 0 x), c (r (idx6 t.free 0 x)), h1.c2, hri, (h1.r2.cellAt _ (by omega)).trans (rC_at _ c hri), fun n => root_any (h1.below (below_drewN' (Below.refl _ _) n)) h2.rt h2.lt hi, ?_, ?_⟩
  · intro hn
    have : (t.free.filter fun y => decB (carr6 t x y)) = [] := by
      rw [List.filter_eq_nil_iff]
      intro y hy
      rw [decB_iff, carr6_idx (nd6 t) hl hx hy]
      exact (h2.cls.carries _).2 hn _
    rw [this]; rfl
  · intro z hz
    have hzl := h2.clt _ _ hz
    have hc := (h2.cls.carries _).1 _ hz
    refine ⟨r, fun j hj => ?_, fun w' hw => ⟨fun j hj => root_any (h1.below hw) h2.rt h2.lt (Nat.lt_of_lt_of_le hj (NS t).1), root_any (h1.below hw) h2.rt h2.lt hzl⟩⟩
    rw [Bool.eq_iff_iff, decB_iff, carr6_idx (nd6 t) hl hx (List.getElem_mem hj), idx6_get t hj, car_iff hc, ← h2.same_iff, beq_iff_eq]
    exact ⟨fun h => by omega, fun h => by omega⟩
set_option maxHeartbeats 1000000 in
theorem car_s0 (s a : ByteArray) (n : Int) (P1 : (∀ w, Calls Tryz.prog 29 #[.string s, .string a] w fun e w' => e = .returned (.tuple #[.int .i64 n, .bool false]) ∧ Below w.heap.size w w')) (w : World) : Calls Tryz.prog 11 #[.string s, .string a] w fun e w' => e = .returned (.tuple #[.string ⟨#[]⟩, .bool false]) ∧ Below w.heap.size w w' := by
  have XP1 := Lib.hid P1
  clear P1
  go_enter Tryz.func11, Tryz.ntmps11
  have bl : Below w.heap.size w w := Below.refl _ _
  go_wp2_with fail
  refine (XP1.out _).mono ?_
  rintro e w1 ⟨rfl, b1⟩
  replace bl := go6 bl b1
  clear b1
  go_wp2_with fail
  go_ret2
  exact ⟨rfl, bl⟩
set_option maxHeartbeats 4000000 in
theorem car_s1 (s : ByteArray) (t : Tm) (hl : Lets t.free) (h60 : t.size ≤ 60) (a : ByteArray) (x : UInt8) (hx : x ∈ t.free) (P1 : (∀ w, Calls Tryz.prog 29 #[.string s, .string a] w fun e w' => e = .returned (.tuple #[.int .i64 (idx6 t.free 0 x : Int), .bool true]) ∧ Below w.heap.size w w')) (HO : (∀ w, Calls Tryz.prog 30 #[.string s] w fun e w' => (∃ b, e = .returned (.pointer (some ⟨b, 0, none⟩)) ∧ w.heap.size ≤ b ∧ SpSo w' b t) ∧ Below w.heap.size w w')) (HF : (∀ w, Calls Tryz.prog 32 #[.string s] w fun e w' => e = .returned (.string (B t.free)) ∧ Below w.heap.size w w')) (w : World) : Calls Tryz.prog 11 #[.string s, .string a] w fun e w' => e = .returned (.tuple #[.string (B (t.free.filter fun y => decB (carr6 t x y))), .bool true]) ∧ Below w.heap.size w w' := by
  have XP1 := Lib.hid P1
  have XHO := Lib.hid HO
  have XHF := Lib.hid HF
  have XI := Lib.hid (fun (w1 : World) (b : Nat) (h : SpSo w1 b t) => car_info h hl hx)
  obtain ⟨p, hp⟩ : ∃ p, p = fun y => decB (carr6 t x y) := ⟨_, rfl⟩
  rw [← hp] at XI ⊢
  have hp2 : ∀ y, decB (carr6 t x y) = p y := fun y => by rw [hp]
  have hm := srt_lenL (srt_free t) hl
  have XE := Lib.hid (ext_one t.free)
  have HX1 := Lib.hid (fil_yes t.free p)
  have HX2 := Lib.hid (fil_no t.free p)
  have HX3 := Lib.hid (fun i => fil_len t.free p i hm)
  simp only [hp2] at XI
  clear P1 HO HF hp hp2 h60
  obtain ⟨i, hi⟩ : ∃ i, i = idx6 t.free 0 x := ⟨_, rfl⟩
  rw [← hi] at XP1 XI
  clear hi hx hl
  obtain ⟨XF, hXF⟩ : ∃ XF, XF = B t.free := ⟨_, rfl⟩
  have hs1 : XF.size ≤ t.free.length := by rw [hXF, B_size]; exact Nat.le_refl _
  have hs2 : t.free.length ≤ XF.size := by rw [hXF, B_size]; exact Nat.le_refl _
  rw [← hXF] at XHF HX1 XE
  clear hXF
  go_enter Tryz.func11, Tryz.ntmps11
  have bl : Below w.heap.size w w := Below.refl _ _
  go_wp2_with fail
  refine (XP1.out _).mono ?_
  rintro e w1 ⟨rfl, b1⟩
  replace bl := go6 bl b1
  clear b1
  go_wp2_with fail
  refine (XHO.out _).mono ?_
  rintro e w1 ⟨⟨b, rfl, hb, hs⟩, b1⟩
  replace bl := go6 bl b1
  obtain ⟨g2, k2, N, m, o, c1, hmN, c2, hr, ho1, ho2⟩ := XI.out _ _ hs
  have HA := Lib.hid hr
  clear b1 hs hr
  cases o with
  | none =>
    have HO1 := Lib.hid (ho1 rfl)
    have c2' : w1.cell? ⟨g2, m, none⟩ = some (.int .i64 (-1)) := c2
    clear ho1 ho2 c2
    go_wp2_with fail
    go_quiet ((go_at_call 31; exact Calls.quiet_of_same ((HA.out _).mono fun _ _ hh => ⟨hh.1, hh.2.symm⟩)))
    all_goals
      go_wp2_with fail
      go_ret2
      exact ⟨by rw [HO1.out]; rfl, by first | exact bl | exact bl.drew | exact below_drewN' bl _⟩
  | some z =>
    obtain ⟨r, hq, hw⟩ := ho2 z rfl
    have HQ := Lib.hid hq
    have HW := Lib.hid hw
    have c2' : w1.cell? ⟨g2, m, none⟩ = some (.int .i64 (z : Int)) := c2
    clear ho1 ho2 c2 hq hw
    go_wp2_with fail
    go_quiet ((go_at_call 31; exact Calls.quiet_of_same ((HA.out _).mono fun _ _ hh => ⟨hh.1, hh.2.symm⟩)))
    all_goals
      obtain ⟨W0, hW0⟩ : ∃ W, W = World.drewN w1 nq := ⟨_, rfl⟩
      rw [← hW0]
      have bd : Below w1.heap.size w1 W0 := by rw [hW0]; exact below_drewN' (Below.refl _ _) _
      replace bl := go6 bl bd
      clear hW0 c1 c2'
      go_wp2_with fail
      refine (XHF.out _).mono ?_
      rintro e w2 ⟨rfl, b2⟩
      replace bl := go6 bl b2
      have HR := Lib.hid (HW.out _ (go6 bd b2))
      clear bd b2
      obtain ⟨rz, hrz⟩ : ∃ rz, rz = r z := ⟨_, rfl⟩
      rw [← hrz] at HR HQ
      clear hrz
      go_wp2_with fail
      go_loopg [11, 12] t.free.length (fun gk s11 s12 wr => (∃ j : Nat, s12 = .int .i64 (j : Int) ∧ s11 = .string (B ((t.free.take j).filter p)) ∧ j + gk = t.free.length) ∧ wr = w2)
      case atStart => exact ⟨⟨0, rfl, rfl, by omega⟩, rfl⟩
      case round =>
        obtain ⟨⟨j, rfl, rfl, hg⟩, rfl⟩ := hrel
        have f26 := HX3.out j
        by_cases hj : j < t.free.length
        · have q0 : (j : Int) < (XF.size : Int) := by omega
          have q1 : (j : Int) + 1 ≤ (XF.size : Int) := by omega
          have q2 : (j : Int) ≤ (j : Int) + 1 := by omega
          have q3 := HQ.out j hj
          have R1 := Lib.hid (HR.out.1 j hj)
          have hsl : (XF.extract j (j + 1)).size ≤ 1 := by rw [ByteArray.size_extract]; omega
          have y1 := Lib.hid (HX1.out j hj)
          have y2 := Lib.hid (HX2.out j hj)
          obtain ⟨s0, hs0⟩ : ∃ s0, s0 = B ((t.free.take j).filter p) := ⟨_, rfl⟩
          rw [← hs0] at f26 y1 y2 ⊢
          have hcat : ¬ 9223372036854775807 < s0.size + (XF.extract j (j + 1)).size := by omega
          obtain ⟨rj, hrj⟩ : ∃ rj, rj = r j := ⟨_, rfl⟩
          rw [← hrj] at R1 q3
          clear hs0 hrj
          cases e : p t.free[j] with
          | true =>
            have y := Lib.hid (y1.out e)
            rw [e] at q3
            clear e y1 y2
            go_wp2_with fail
            refine (R1.out).mono ?_
            rintro e w3 ⟨rfl, rfl⟩
            go_wp2_with fail
            refine (HR.out.2).mono ?_
            rintro e w3 ⟨rfl, rfl⟩
            go_wp2_with fail
            go_roundg (gk - 1)
            case measure => omega
            case rel => exact ⟨⟨j + 1, by go_num, by rw [← y.out], by omega⟩, rfl⟩
          | false =>
            have y := Lib.hid (y2.out e)
            rw [e] at q3
            clear e y1 y2
            go_wp2_with fail
            refine (R1.out).mono ?_
            rintro e w3 ⟨rfl, rfl⟩
            go_wp2_with fail
            refine (HR.out.2).mono ?_
            rintro e w3 ⟨rfl, rfl⟩
            go_wp2_with fail
            go_roundg (gk - 1)
            case measure => omega
            case rel => exact ⟨⟨j + 1, by go_num, by rw [← y.out], by omega⟩, rfl⟩
        · obtain rfl : j = t.free.length := by omega
          rw [List.take_length]
          obtain ⟨s0, hs0⟩ : ∃ s0, s0 = B (t.free.filter p) := ⟨_, rfl⟩
          rw [← hs0]
          have HS0 := Lib.hid hs0
          clear hs0 f26
          go_wp2_with fail
          go_ret2
          exact ⟨by rw [← HS0.out]; rfl, bl⟩
set_option maxHeartbeats 1000000 in
theorem car_i0 (s a : ByteArray) (HO : (∀ w, Calls Tryz.prog 21 #[.string s] w fun e w' => e = .returned (.tuple #[.pointer none, .bool false]) ∧ Below w.heap.size w w')) (w : World) : Calls Tryz.prog 10 #[.string s, .string a] w fun e w' => e = .returned (.tuple #[.string ⟨#[]⟩, .bool false]) ∧ Below w.heap.size w w' := by
  have XHO := Lib.hid HO
  clear HO
  go_enter Tryz.func10, Tryz.ntmps10
  have bl : Below w.heap.size w w := Below.refl _ _
  go_wp2_with fail
  refine (XHO.out _).mono ?_
  rintro e w1 ⟨rfl, b1⟩
  replace bl := go6 bl b1
  clear b1
  go_wp2_with fail
  go_ret2
  exact ⟨rfl, bl⟩
set_option maxHeartbeats 1000000 in
theorem car_i1 (s : ByteArray) (t : Tm) (a : ByteArray) (n : Int) (HO : (∀ w, Calls Tryz.prog 21 #[.string s] w fun e w' => (∃ b, e = .returned (.tuple #[.pointer (some ⟨b, 0, none⟩), .bool true]) ∧ w.heap.size ≤ b ∧ ImSo w' b t) ∧ Below w.heap.size w w')) (P1 : (∀ w1 bp, ImSo w1 bp t → Calls Tryz.prog 23 #[.pointer (some ⟨bp, 0, none⟩), .string a] w1 fun e w' => e = .returned (.tuple #[.int .i64 n, .bool false]) ∧ Below w1.heap.size w1 w')) (w : World) : Calls Tryz.prog 10 #[.string s, .string a] w fun e w' => e = .returned (.tuple #[.string ⟨#[]⟩, .bool false]) ∧ Below w.heap.size w w' := by
  have XHO := Lib.hid HO
  have XP1 := Lib.hid P1
  clear HO P1
  go_enter Tryz.func10, Tryz.ntmps10
  have bl : Below w.heap.size w w := Below.refl _ _
  go_wp2_with fail
  refine (XHO.out _).mono ?_
  rintro e w1 ⟨⟨b, rfl, hb, hs⟩, b1⟩
  replace bl := go6 bl b1
  have HS := Lib.hid hs
  clear b1 hs
  go_wp2_with fail
  refine (XP1.out _ _ HS.out).mono ?_
  rintro e w1 ⟨rfl, b1⟩
  replace bl := go6 bl b1
  have HS := Lib.hid (HS.out.below b1)
  clear b1
  go_wp2_with fail
  go_ret2
  exact ⟨rfl, bl⟩
set_option maxHeartbeats 2000000 in
theorem car_i2 (s : ByteArray) (t : Tm) (hl : Lets t.free) (h60 : t.size ≤ 60) (a : ByteArray) (x : UInt8) (hx : x ∈ t.free) (HO : (∀ w, Calls Tryz.prog 21 #[.string s] w fun e w' => (∃ b, e = .returned (.tuple #[.pointer (some ⟨b, 0, none⟩), .bool true]) ∧ w.heap.size ≤ b ∧ ImSo w' b t) ∧ Below w.heap.size w w')) (P1 : (∀ w1 bp, ImSo w1 bp t → Calls Tryz.prog 23 #[.pointer (some ⟨bp, 0, none⟩), .string a] w1 fun e w' => e = .returned (.tuple #[.int .i64 (lt6 x : Int), .bool true]) ∧ Below w1.heap.size w1 w')) (w : World) : Calls Tryz.prog 10 #[.string s, .string a] w fun e w' => e = .returned (.tuple #[.string (B (t.free.filter fun y => decB (carr6 t x y))), .bool true]) ∧ Below w.heap.size w w' := by
  have XHO := Lib.hid HO
  have XP1 := Lib.hid P1
  have h26 := srt_lenL (srt_free t) hl
  have XB := Lib.hid (fun (w1 : World) (b : Nat) (h : ImSo w1 b t) => ib_behind h (lt6_lt hl hx))
  have XN := Lib.hid (fun (w1 : World) (b n : Nat) (h : ImSo w1 b t) (hn : n < (ask6 t lt6 26).2) => ib_namesOf h hl h26 hn)
  have X0 := Lib.hid (fun (hn : ∀ y, ¬ Car (S6 (ask6 t lt6 26).1) (C6 (ask6 t lt6 26).1) (lt6 x) y) => show B (t.free.filter fun y => decB (carr6 t x y)) = ⟨#[]⟩ by
    have : (t.free.filter fun y => decB (carr6 t x y)) = [] := by
      rw [List.filter_eq_nil_iff]
      intro y hy
      rw [decB_iff]
      exact hn _
    rw [this]; rfl)
  have X1 := Lib.hid (fun (z : Nat) (hz : Car (S6 (ask6 t lt6 26).1) (C6 (ask6 t lt6 26).1) (lt6 x) z) => show B (t.free.filter fun y => decB (Eqv (S6 (ask6 t lt6 26).1) (C6 (ask6 t lt6 26).1) (lt6 y) z)) = B (t.free.filter fun y => decB (carr6 t x y)) by
    congr 2
    funext y
    exact decB_congr (car_iff hz).symm)
  obtain ⟨X, hX⟩ : ∃ X, X = B (t.free.filter fun y => decB (carr6 t x y)) := ⟨_, rfl⟩
  rw [← hX] at X0 X1 ⊢
  obtain ⟨i, hi⟩ : ∃ i, i = lt6 x := ⟨_, rfl⟩
  rw [← hi] at XP1 XB X0 X1
  clear HO P1 hX hi hx hl h60
  go_enter Tryz.func10, Tryz.ntmps10
  have bl : Below w.heap.size w w := Below.refl _ _
  go_wp2_with fail
  refine (XHO.out _).mono ?_
  rintro e w1 ⟨⟨b, rfl, hb, hs⟩, b1⟩
  replace bl := go6 bl b1
  have HS := Lib.hid hs
  clear b1 hs
  go_wp2_with fail
  refine (XP1.out _ _ HS.out).mono ?_
  rintro e w1 ⟨rfl, b1⟩
  replace bl := go6 bl b1
  have HS := Lib.hid (HS.out.below b1)
  clear b1
  go_wp2_with fail
  refine (XB.out _ _ HS.out).mono ?_
  rintro e w1 ⟨⟨o, rfl, ho1, ho2⟩, b1⟩
  replace bl := go6 bl b1
  have HS := Lib.hid (HS.out.below b1)
  clear b1
  cases o with
  | none =>
    have e0 := Lib.hid (X0.out (ho2 rfl))
    clear ho1 ho2
    go_wp2_with fail
    go_ret2
    exact ⟨by rw [e0.out]; rfl, bl⟩
  | some z =>
    have hz := ho1 z rfl
    have XN2 := Lib.hid (XN.out _ _ z HS.out hz.1)
    rw [X1.out z hz.2] at XN2
    clear ho1 ho2 hz
    go_wp2_with fail
    refine (XN2.out).mono ?_
    rintro e w1 ⟨rfl, b1⟩
    replace bl := go6 bl b1
    go_wp2_with fail
    go_ret2
    exact ⟨rfl, bl⟩
end Go.Proofs.YtlhmjcfnfefliaaGreat.T1

/- What both sides answer where uses of a name are asked. MADE BY gen_Qk.py. -/
namespace Go.Proofs.YtlhmjcfnfefliaaGreat.T1
open Go.RowKit
set_option maxRecDepth 100000
set_option linter.unusedVariables false
set_option linter.unusedSimpArgs false

theorem any_cnt (f : Tm → Bool) (l : List Tm) : ((((l.countP f : Nat)) : Int) == 0) = !(l.any f) := by
  induction l with
  | nil => rfl
  | cons x xs ih =>
    rw [List.countP_cons, List.any_cons]
    cases f x
    · simpa using ih
    · simp; omega
theorem uses_cases2 (s k : ByteArray) (hm : s.size ≤ 9223372036854775807) :
    ((∀ w, Calls Tryz.prog 29 #[.string s, .string k] w fun e w' => e = .returned (.tuple #[.int .i64 0, .bool false]) ∧ Below w.heap.size w w') ∧ (∀ w, Calls Tryz.prog 33 #[.string s, .string k] w fun e w' => e = .returned (.tuple #[.agg #[.int .i64 0, .int .i64 0, .int .i64 0, .bool false, .bool false], .bool false]) ∧ Below w.heap.size w w')) ∨
    (∃ (t : Tm) (c : UInt8) (n : Int), (good s.data.toList = some t ∧ k = B [c] ∧ c ∈ t.free) ∧ (∃ hk : 0 < k.size, ((k[0]'hk).toNat : Int) = (c.toNat : Int)) ∧ (∀ w, Calls Tryz.prog 29 #[.string s, .string k] w fun e w' => e = .returned (.tuple #[.int .i64 n, .bool true]) ∧ Below w.heap.size w w') ∧
      (∀ w, Calls Tryz.prog 34 #[.string s, .int .u8 (c.toNat : Int)] w fun e w' => ∃ g, e = .returned (.slice (some ⟨g, 0, none⟩) 4 4) ∧ w.heap.size ≤ g ∧ w'.heap[g]? = some (.cells #[.int .i64 (((t.vis c).countP (us0 c) : Nat) : Int), .int .i64 (((t.vis c).countP (us1 c) : Nat) : Int), .int .i64 (((t.vis c).countP (us2 c) : Nat) : Int), .int .i64 (((t.vis c).countP (us3 c) : Nat) : Int)] 3 (0, 0)) ∧ Below w.heap.size w w') ∧ (∀ w, Calls Tryz.prog 35 #[.string s, .int .u8 (c.toNat : Int)] w fun e w' => e = .returned (.bool ((t.vis c).any (us4 c))) ∧ Below w.heap.size w w') ∧ (∀ w, Calls Tryz.prog 33 #[.string s, .string k] w fun e w' => e = .returned (.tuple #[.agg #[.int .i64 (((t.vis c).countP (us0 c) : Nat) : Int), .int .i64 (((t.vis c).countP (us1 c) : Nat) : Int), .int .i64 (((t.vis c).countP (us2 c) : Nat) : Int), .bool ((t.vis c).any (us3 c)), .bool ((t.vis c).any (us4 c))], .bool true]) ∧ Below w.heap.size w w')) := by
  cases hg : good s.data.toList with
  | none =>
    have g0 := fun w => tmGood_none hg w hm
    have p0 := fun w => parse_none hg w hm
    rcases one_or2 k with ⟨c, hc, ek, o1, o2⟩ | ⟨hn, o1, o2⟩
    · exact .inl ⟨soPlace_bad s k g0, ru_a s k 0 .nilIface c 0 true (c.toNat : Int) 0 0 false false p0 o2⟩
    · exact .inl ⟨soPlace_bad s k g0, ru_a s k 0 .nilIface 0 0 false 0 0 0 false false p0 o2⟩
  | some t =>
    obtain ⟨es, hL, hE, h300, h60⟩ := good_S hg
    have p1 := fun w => parse_some hg w hm
    have pl := soPlace_good s t hg hm k
    rcases one_or2 k with ⟨c, hc, ek, o1, o2⟩ | ⟨hn, o1, o2⟩
    · have hf := freeNames_any t hL
      have hh := has_freeS t hL c hc
      by_cases hmem : c ∈ t.free
      · refine .inr ⟨t, c, (idx6 t.free 0 c : Int), ⟨by first | exact hg | rfl, ek, hmem⟩, ?_, ?_, ?_, ?_, ?_⟩
        · subst ek
          have h0 : 0 < (B [c]).size := by rw [B_size]; simp
          exact ⟨h0, by rw [show (B [c])[0]'h0 = c from byte_of (B_list [c]) 0 h0 (by simp)]⟩
        · subst ek
          rw [nameOf_yes hc hmem] at pl
          exact pl
        · have := soUses_any c t hE (by omega) (by omega)
          rw [← es] at this; exact this
        · have := soRepeated_any c t hE (by omega)
          rw [← es] at this; exact this
        · rw [decide_eq_true hmem] at hh
          exact ru_d s k _ _ c _ true _ _ _ _ _ p1 o2 hf hh (usesOf_any t hL h60 c hc)
      · rw [decide_eq_false hmem] at hh
        refine .inl ⟨?_, ru_c s k _ _ c _ true 0 0 0 false false p1 o2 hf hh⟩
        subst ek
        rw [nameOf_out hmem] at pl
        exact pl
    · refine .inl ⟨?_, ru_b s k _ _ 0 0 true 0 0 0 false false p1 o2⟩
      rw [nameOf_no hn] at pl
      exact pl
end Go.Proofs.YtlhmjcfnfefliaaGreat.T1

/- What levels, texts of sorts, names that are carried and uses are, as values of both sides. No conditions. -/
namespace Go.Proofs.YtlhmjcfnfefliaaGreat.T1
open Go.RowKit
set_option maxRecDepth 100000
set_option linter.unusedVariables false
set_option linter.unusedSimpArgs false

def AnsZ (F : FuncId) (args : Array Value) (v : Value) : Prop := ∀ w, Calls Tryz.prog F args w fun e w' => e = .returned v ∧ Below w.heap.size w w'
def LevZ (args : Array Value) (L : Int) (q : Bool) : Prop := ∀ w, Calls Tryz.prog 6 args w fun e w' => e = .returned (.tuple #[.int .i64 L, .bool q]) ∧ (0 ≤ L ∧ L ≤ 1000) ∧ Below w.heap.size w w'
/-- What is answered of one name. -/
structure SixZ (s a : ByteArray) (L : Int) (T C : ByteArray) (q q2 : Bool) : Prop where
  li : LevZ #[.string s, .string a] L q
  ls : AnsZ 7 #[.string s, .string a] (.tuple #[.int .i64 L, .bool q])
  ti : AnsZ 8 #[.string s, .string a] (.tuple #[.string T, .bool q])
  ts : AnsZ 9 #[.string s, .string a] (.tuple #[.string T, .bool q])
  ci : AnsZ 10 #[.string s, .string a] (.tuple #[.string C, .bool q2])
  cs : AnsZ 11 #[.string s, .string a] (.tuple #[.string C, .bool q2])
/-- A process that can be sorted, one of its free names, its level. -/
def IsLev (s a : ByteArray) (t : Tm) (x : UInt8) (m : Nat) : Prop := good s.data.toList = some t ∧ nameOf t.free a = some x ∧ decB (able6 t) = true ∧ lev6 t x m
theorem sixZ (s a : ByteArray) (hm : s.size ≤ 9223372036854775807) : ∃ (L : Int) (T C : ByteArray) (q q2 : Bool), SixZ s a L T C q q2 ∧ C.size ≤ 26 ∧
    (q = true → q2 = true ∧ ∃ (t : Tm) (x : UInt8) (m : Nat), IsLev s a t x m ∧ L = (m : Int) ∧ T = PS m ∧ C = B (t.free.filter fun y => decB (carr6 t x y))) := by
  have z0 : (⟨#[]⟩ : ByteArray).size ≤ 26 := by decide
  have b0 : ∀ {F args}, AnsZ F args (.tuple #[.int .i64 0, .bool false]) → F = 6 → LevZ args 0 false := fun h e w => by
    subst e
    exact (h w).mono fun e w' k => ⟨k.1, ⟨by decide, by decide⟩, k.2⟩
  cases hg : good s.data.toList with
  | none =>
    have g0 := fun w => tmGood_none hg w hm
    have i0 := readSorts_none s hg hm
    have p0 := fun k => soPlace_bad s k g0
    exact ⟨0, ⟨#[]⟩, ⟨#[]⟩, false, false, ⟨b0 (lev_i0 s a i0) rfl, lev_s3 s a _ _ (lev_s0 s a _ (p0 a)), st_i0 s a (lev_i0 s a i0), st_s0 s a (lev_s0 s a _ (p0 a)), car_i0 s a i0, car_s0 s a _ (p0 a)⟩, z0, fun h => by cases h⟩
  | some t =>
    obtain ⟨es, hL, hE, h300, h60⟩ := good_S hg
    have hl := lets_free t hL
    have o1 := soOf_good s t hg
    have i1 := readSorts_some s t hg hm
    have p1a := soPlace_good s t hg hm a
    have m1a := fun (w1 : World) b (h : ImSo w1 b t) => ib_named h hL a
    have f1 := tmFree_any t hE (by omega)
    rw [← es] at f1
    cases ea : nameOf t.free a with
    | none =>
      rw [ea] at p1a m1a
      have l0 : AnsZ 6 #[.string s, .string a] (.tuple #[.int .i64 0, .bool false]) := by
        cases en : decB (able6 t) with
        | false => exact lev_i1 s t hl h60 a en i1
        | true => exact lev_i2 s t hl h60 a en _ i1 m1a
      exact ⟨0, ⟨#[]⟩, ⟨#[]⟩, false, false, ⟨b0 l0 rfl, lev_s3 s a _ _ (lev_s0 s a _ p1a), st_i0 s a l0, st_s0 s a (lev_s0 s a _ p1a), car_i1 s t a _ i1 m1a, car_s0 s a _ p1a⟩, z0, fun h => by cases h⟩
    | some x =>
      rw [ea] at p1a m1a
      have hx := nameOf_mem ea
      have hc : (B (t.free.filter fun y => decB (carr6 t x y))).size ≤ 26 := by
        rw [B_size]
        exact Nat.le_trans (List.length_filter_le _ _) (srt_lenL (srt_free t) hl)
      have c1 := car_i2 s t hl h60 a x hx i1 m1a
      have c2 := car_s1 s t hl h60 a x hx p1a o1 f1
      cases en : decB (able6 t) with
      | false =>
        have l0 := lev_i1 s t hl h60 a en i1
        have l1 := lev_s1 s t hl h60 a _ en p1a o1
        exact ⟨0, ⟨#[]⟩, _, false, true, ⟨b0 l0 rfl, lev_s3 s a _ _ l1, st_i0 s a l0, st_s0 s a l1, c1, c2⟩, hc, fun h => by cases h⟩
      | true =>
        obtain ⟨m, hm2⟩ := lev_able en x
        have l4 := lev_i4 s t hl h60 a x hx en m hm2 i1 m1a
        have s4 := lev_s4 s t hl h60 a x hx en m hm2 p1a o1
        refine ⟨(m : Int), PS m, _, true, true, ⟨fun w => (l4 w).mono fun e w' k => ⟨k.1, ⟨by omega, by have := k.2.1; omega⟩, k.2.2⟩, lev_s3 s a _ _ (lev_s2 s t hl h60 a x hx en m hm2 p1a o1), st_i1 s a m l4, st_s1 s a m s4, c1, c2⟩, hc, fun _ => ⟨rfl, t, x, m, ⟨hg, ea, en, (levO_iff t x m).1 hm2⟩, rfl, rfl, rfl⟩⟩
/-- The level of a name, where it has one. -/
theorem levZ_of {s a : ByteArray} {t : Tm} {x : UInt8} {m : Nat} (hm : s.size ≤ 9223372036854775807) (h : IsLev s a t x m) : LevZ #[.string s, .string a] (m : Int) true := by
  obtain ⟨hg, ea, en, hl6⟩ := h
  obtain ⟨es, hL, hE, h300, h60⟩ := good_S hg
  have hl := lets_free t hL
  have i1 := readSorts_some s t hg hm
  have m1a := fun (w1 : World) b (h : ImSo w1 b t) => ib_named h hL a
  rw [ea] at m1a
  have l4 := lev_i4 s t hl h60 a x (nameOf_mem ea) en m ((levO_iff t x m).2 hl6) i1 m1a
  exact fun w => (l4 w).mono fun e w' k => ⟨k.1, ⟨by omega, by have := k.2.1; omega⟩, k.2.2⟩
/-- What is answered of the uses of a name. -/
structure UseZ (s k : ByteArray) (x0 x1 x2 : Int) (p0 p1 p b : Bool) : Prop where
  ci : AnsZ 13 #[.string s, .string k] (.tuple #[.int .i64 x0, .int .i64 x1, .int .i64 x2, .bool b])
  cs : AnsZ 14 #[.string s, .string k] (.tuple #[.int .i64 x0, .int .i64 x1, .int .i64 x2, .bool b])
  ui : AnsZ 15 #[.string s, .string k] (.tuple #[.string (ut p0 p1), .bool b])
  us : AnsZ 16 #[.string s, .string k] (.tuple #[.string (ut p0 p1), .bool b])
  li : AnsZ 17 #[.string s, .string k] (.tuple #[.bool p, .bool b])
  ls : AnsZ 18 #[.string s, .string k] (.tuple #[.bool p, .bool b])
theorem useZ (s k : ByteArray) (hm : s.size ≤ 9223372036854775807) : ∃ (x0 x1 x2 : Int) (p0 p1 p b : Bool), UseZ s k x0 x1 x2 p0 p1 p b ∧ p0 = decide (0 < x0) ∧ p1 = decide (0 < x1) ∧ (0 ≤ x0 ∧ x0 ≤ 60) ∧ (0 ≤ x1 ∧ x1 ≤ 60) ∧ (0 ≤ x2 ∧ x2 ≤ 60) ∧ (p = true → x0 = 1 ∧ x1 = 1 ∧ x2 = 0) ∧
    (b = true → ∃ (t : Tm) (c : UInt8), good s.data.toList = some t ∧ nameOf t.free k = some c ∧ (0 < x0 + x1 → ¬ lev6 t c 0)) := by
  rcases uses_cases2 s k hm with ⟨h1, h2⟩ | ⟨t, c, n, ⟨hg, ek, hmem⟩, ⟨hk, hc⟩, h1, h2, h3, h4⟩
  · refine ⟨0, 0, 0, false, false, false, false, ⟨cu_i s k 0 0 0 false false false h2, cu_s0 s k 0 h1, us_i s k 0 0 0 false false false false false (by simp) (by simp) h2, us_s0 s k 0 h1, il_i s k 0 0 0 false false false false false true (by decide) (by decide) (by decide) h2, il_s0 s k 0 h1⟩, rfl, rfl, by decide, by decide, by decide, fun h => (by cases h), fun h => (by cases h)⟩
  · obtain ⟨es, hL, hE, h300, h60⟩ := good_S hg
    have b0 := cq_le c t (us0 c)
    have b1 := cq_le c t (us1 c)
    have b2 := cq_le c t (us2 c)
    refine ⟨_, _, _, decide (0 < (((t.vis c).countP (us0 c) : Nat) : Int)), decide (0 < (((t.vis c).countP (us1 c) : Nat) : Int)), _, true, ⟨cu_i s k _ _ _ _ _ true h4, cu_s1 s k c hk hc n _ _ _ _ h1 h2, us_i s k _ _ _ _ _ true _ _ decide_eq_true_iff decide_eq_true_iff h4, us_s1 s k c hk hc n _ _ _ _ _ _ decide_eq_true_iff decide_eq_true_iff h1 h2, il_i s k _ _ _ _ _ true _ _ _ rfl rfl rfl h4, il_s1 s k c hk hc n _ _ _ _ _ _ _ _ _ rfl rfl rfl (any_cnt (us3 c) (t.vis c)) h1 h2 h3⟩, rfl, rfl, ⟨by omega, by omega⟩, ⟨by omega, by omega⟩, ⟨by omega, by omega⟩, fun h => ?_, fun _ => ⟨t, c, hg, ?_, fun h => lev_used (by omega)⟩⟩
    · simp only [Bool.and_eq_true, beq_iff_eq] at h
      exact ⟨h.1.1.1.1, h.1.1.1.2, h.1.1.2⟩
    · rw [ek]; exact nameOf_yes ((nmL_iff c).2 (lets_free t hL c hmem)) hmem
end Go.Proofs.YtlhmjcfnfefliaaGreat.T1
