/- Where a formula ends: the specification's walk. MADE BY gen_Ff.py. -/
import Derived.Test.YtllnplabiehcgaaFe
namespace Go.Proofs.Ytllnplabiehcgaa.T1
open Go.RowKit
set_option maxRecDepth 100000
set_option linter.unusedVariables false
set_option linter.unusedSimpArgs false

theorem ret_i {k : IntKind} {a b : Int} (h : a = b) : Ending.returned (.int k a) = .returned (.int k b) := by rw [h]
theorem below_tr {u v w : World} (h : Below u.heap.size u v) (k : Below v.heap.size v w) : Below u.heap.size u w := h.trans (k.mono h.size)
section
variable {s : ByteArray} {a : Nat}
theorem fEnd_map {b : Nat} {g : Fm → Fm} (h : F (s.data.toList.drop a) = (F (s.data.toList.drop b)).map fun x => (g x.1, x.2)) : fEnd s b = fEnd s a := by
  unfold fEnd; rw [h]; cases F (s.data.toList.drop b) <;> rfl
theorem fEnd_ge (h : s.size ≤ a) : fEnd s a = -1 := fEnd_none (by rw [List.drop_of_length_le (by simpa using h)]; rfl)
theorem fEnd_T (hlt : a < s.size) (h : s[a] = 84) : fEnd s a = (a : Int) + 1 := by
  rw [fEnd, drop_at s a hlt, h, F_T]; simp; omega
theorem fEnd_neg (hlt : a < s.size) (h : s[a] = 33) : fEnd s (a + 1) = fEnd s a := fEnd_map (by rw [drop_at s a hlt, h, F_neg])
theorem fEnd_other (hlt : a < s.size) (h1 : s[a] ≠ 84) (h2 : s[a] ≠ 33) (h3 : s[a] ≠ 40) (h4 : s[a] ≠ 60) : fEnd s a = -1 := fEnd_none (by rw [drop_at s a hlt]; exact F_other _ h1 h2 h3 h4)
theorem drop_cons_lt2 {s : ByteArray} {a : Nat} {c : UInt8} {l : List UInt8} (e : s.data.toList.drop a = c :: l) : ∃ h : a < s.size, s[a] = c ∧ s.data.toList.drop (a + 1) = l := by
  have hb : a < s.size := by
    rcases Nat.lt_or_ge a s.size with h | h
    · exact h
    · rw [List.drop_of_length_le (by simpa using h)] at e; cases e
  rw [drop_at s a hb] at e
  simp only [List.cons.injEq] at e
  exact ⟨hb, e⟩
theorem fEnd_and_no1 (hlt : a < s.size) (h : s[a] = 40) (h1 : F (s.data.toList.drop (a + 1)) = none) : fEnd s a = -1 := fEnd_none (by rw [drop_at s a hlt, h, F_and_no1 h1])
theorem fEnd_and_no2 {m : Nat} {t : Fm} (hlt : a < s.size) (h : s[a] = 40) (h1 : F (s.data.toList.drop (a + 1)) = some (t, s.data.toList.drop m)) (h2 : ∀ _ : m < s.size, s[m] ≠ 38) : fEnd s a = -1 := by
  refine fEnd_none ?_
  rw [drop_at s a hlt, h]
  refine F_and_no2 h1 fun r2 e => ?_
  obtain ⟨b1, e1, _⟩ := drop_cons_lt2 e
  exact h2 b1 e1
theorem fEnd_and_no3 {m : Nat} {t : Fm} (hlt : a < s.size) (hm : m < s.size) (h : s[a] = 40) (h1 : F (s.data.toList.drop (a + 1)) = some (t, s.data.toList.drop m)) (hc : s[m] = 38) (h2 : F (s.data.toList.drop (m + 1)) = none) : fEnd s a = -1 := by
  rw [drop_at s m hm, hc] at h1
  exact fEnd_none (by rw [drop_at s a hlt, h, F_and_no3 h1 h2])
theorem fEnd_and_no4 {m n : Nat} {t q : Fm} (hlt : a < s.size) (hm : m < s.size) (h : s[a] = 40) (h1 : F (s.data.toList.drop (a + 1)) = some (t, s.data.toList.drop m)) (hc : s[m] = 38) (h2 : F (s.data.toList.drop (m + 1)) = some (q, s.data.toList.drop n)) (h3 : ∀ _ : n < s.size, s[n] ≠ 41) : fEnd s a = -1 := by
  rw [drop_at s m hm, hc] at h1
  refine fEnd_none ?_
  rw [drop_at s a hlt, h]
  refine F_and_no4 h1 h2 fun r3 e => ?_
  obtain ⟨b1, e1, _⟩ := drop_cons_lt2 e
  exact h3 b1 e1
theorem fEnd_and {m n : Nat} {t q : Fm} (hlt : a < s.size) (hm : m < s.size) (hn : n < s.size) (h : s[a] = 40) (h1 : F (s.data.toList.drop (a + 1)) = some (t, s.data.toList.drop m)) (hc : s[m] = 38) (h2 : F (s.data.toList.drop (m + 1)) = some (q, s.data.toList.drop n)) (h3 : s[n] = 41) : (n : Int) + 1 = fEnd s a := by
  rw [drop_at s m hm, hc] at h1
  rw [drop_at s n hn, h3] at h2
  rw [fEnd, drop_at s a hlt, h, F_and h1 h2]
  simp; omega
/-- Behind a '<': does a label end n bytes further on? -/
def DiaAt (s : ByteArray) (a n : Nat) : Prop := ∃ h : a + 1 + n < s.size, s[a + 1 + n] = 62 ∧ labB ((s.data.toList.drop (a + 1)).take n) = true
theorem cut_at {n : Nat} (h : a + 1 + n < s.size) (hc : s[a + 1 + n] = 62) : s.data.toList.drop (a + 1) = (s.data.toList.drop (a + 1)).take n ++ 62 :: s.data.toList.drop (a + 2 + n) := by
  have : (s.data.toList.drop (a + 1)).drop n = 62 :: s.data.toList.drop (a + 2 + n) := by
    rw [List.drop_drop, drop_at s (a + 1 + n) h, hc, show a + 1 + n + 1 = a + 2 + n by omega]
  conv => lhs; rw [← List.take_append_drop n (s.data.toList.drop (a + 1)), this]
theorem fEnd_dia {n : Nat} (hlt : a < s.size) (h : s[a] = 60) (hd : DiaAt s a n) : fEnd s (a + 2 + n) = fEnd s a := by
  obtain ⟨h1, h2, h3⟩ := hd
  have := cutGt_mk (l := (s.data.toList.drop (a + 1)).take n) (r2 := s.data.toList.drop (a + 2 + n)) (labB_gt h3)
  rw [← cut_at h1 h2] at this
  exact fEnd_map (by rw [drop_at s a hlt, h, F_dia this h3])
theorem fEnd_dia_no (hlt : a < s.size) (h : s[a] = 60) (hd : ∀ n, 1 ≤ n → n ≤ 4 → ¬ DiaAt s a n) : fEnd s a = -1 := by
  refine fEnd_none ?_
  rw [drop_at s a hlt, h]
  cases hc : cutGt (s.data.toList.drop (a + 1)) with
  | none => exact F_dia_no1 hc
  | some x =>
    obtain ⟨l, r2⟩ := x
    cases hl : labB l with
    | false => exact F_dia_no2 hc hl
    | true =>
      have he := (cutGt_some hc).1
      have hz := labB_len hl
      have hlen : s.size - (a + 1) = l.length + 1 + r2.length := by
        have := congrArg List.length he
        simp at this; omega
      have hb : a + 1 + l.length < s.size := by omega
      have ht : (s.data.toList.drop (a + 1)).take l.length = l := by rw [he]; simp
      have hg : s[a + 1 + l.length] = 62 := by
        have e2 : (s.data.toList.drop (a + 1)).drop l.length = 62 :: r2 := by rw [he]; simp
        rw [List.drop_drop] at e2
        obtain ⟨_, e3, _⟩ := drop_cons_lt2 e2
        exact e3
      exact (hd l.length hz.1 hz.2 ⟨hb, hg, by rw [ht]; exact hl⟩).elim
end

set_option maxHeartbeats 1000000 in
theorem be_T (s : ByteArray) (hs : s.size ≤ 400) (a : Nat) (hlt : a < s.size) (ih : ∀ (a' : Nat) (w : World), a < a' → a' ≤ 410 → Calls Try.prog 12 #[.string s, .int .i64 (a' : Int)] w fun e w' => e = .returned (.int .i64 (fEnd s a')) ∧ Below w.heap.size w w') (hv : s[a] = 84) (w : World) :
    Calls Try.prog 12 #[.string s, .int .i64 (a : Int)] w fun e w' => e = .returned (.int .i64 (fEnd s a)) ∧ Below w.heap.size w w' := by
  have c0 : (s[a].toNat : Int) = 84 := by rw [hv]; rfl
  have b84 : ((s[a].toNat : Int) == 84) = true := by rw [c0]; rfl
  clear c0
  have H := Lib.hid hv
  clear hv
  clear ih
  go_enter Try.func12, Try.ntmps12
  go_wp2_with fail
  go_ret
  exact ⟨ret_i (fEnd_T hlt H.out).symm, Below.refl _ _⟩
set_option maxHeartbeats 1000000 in
theorem be_neg (s : ByteArray) (hs : s.size ≤ 400) (a : Nat) (hlt : a < s.size) (ih : ∀ (a' : Nat) (w : World), a < a' → a' ≤ 410 → Calls Try.prog 12 #[.string s, .int .i64 (a' : Int)] w fun e w' => e = .returned (.int .i64 (fEnd s a')) ∧ Below w.heap.size w w') (hv : s[a] = 33) (w : World) :
    Calls Try.prog 12 #[.string s, .int .i64 (a : Int)] w fun e w' => e = .returned (.int .i64 (fEnd s a)) ∧ Below w.heap.size w w' := by
  have c0 : (s[a].toNat : Int) = 33 := by rw [hv]; rfl
  have b84 : ((s[a].toNat : Int) == 84) = false := by rw [c0]; rfl
  have b33 : ((s[a].toNat : Int) == 33) = true := by rw [c0]; rfl
  clear c0
  have H := Lib.hid hv
  clear hv
  have I := Lib.hid (ih (a + 1))
  clear ih
  go_enter Try.func12, Try.ntmps12
  go_wp2_with fail
  refine (I.out _ (by omega) (by omega)).mono ?_
  rintro e w1 ⟨rfl, b1⟩
  go_wp2_with fail
  go_ret
  exact ⟨ret_i (fEnd_neg hlt H.out), b1⟩
set_option maxHeartbeats 1000000 in
theorem be_and (s : ByteArray) (hs : s.size ≤ 400) (a : Nat) (hlt : a < s.size) (ih : ∀ (a' : Nat) (w : World), a < a' → a' ≤ 410 → Calls Try.prog 12 #[.string s, .int .i64 (a' : Int)] w fun e w' => e = .returned (.int .i64 (fEnd s a')) ∧ Below w.heap.size w w') (hv : s[a] = 40) (w : World) :
    Calls Try.prog 12 #[.string s, .int .i64 (a : Int)] w fun e w' => e = .returned (.int .i64 (fEnd s a)) ∧ Below w.heap.size w w' := by
  have c0 : (s[a].toNat : Int) = 40 := by rw [hv]; rfl
  have b84 : ((s[a].toNat : Int) == 84) = false := by rw [c0]; rfl
  have b33 : ((s[a].toNat : Int) == 33) = false := by rw [c0]; rfl
  have b40 : ((s[a].toNat : Int) == 40) = true := by rw [c0]; rfl
  clear c0
  have H := Lib.hid hv
  clear hv
  rcases fEnd_cases s (a + 1) with ⟨e1, E1⟩ | ⟨t, m, hm1, hm2, e1, E1⟩
  · have I1 : Hid (∀ w, Calls Try.prog 12 #[.string s, .int .i64 ((a : Int) + 1)] w fun e w' => e = .returned (.int .i64 (-1)) ∧ Below w.heap.size w w') := fun w => by
      have := ih (a + 1) w (by omega) (by omega)
      rw [e1] at this
      exact this
    have HE := Lib.hid E1
    clear e1 E1 ih
    go_enter Try.func12, Try.ntmps12
    go_wp2_with fail
    refine (I1.out _).mono ?_
    rintro e w1 ⟨rfl, b1⟩
    go_wp2_with fail
    go_ret
    exact ⟨ret_i (fEnd_and_no1 hlt H.out HE.out).symm, b1⟩
  · have I1 : Hid (∀ w, Calls Try.prog 12 #[.string s, .int .i64 ((a : Int) + 1)] w fun e w' => e = .returned (.int .i64 (m : Int)) ∧ Below w.heap.size w w') := fun w => by
      have := ih (a + 1) w (by omega) (by omega)
      rw [e1] at this
      exact this
    have HE := Lib.hid E1
    clear e1 E1
    by_cases hms : m < s.size
    · by_cases h3 : s[m] = 38
      · have T : ((s[m].toNat : Int) != 38) = false := by rw [h3]; simp
        have H3 := Lib.hid h3
        clear h3
        rcases fEnd_cases s (m + 1) with ⟨e2, E2⟩ | ⟨q, n, hn1, hn2, e2, E2⟩
        · have I2 : Hid (∀ w, Calls Try.prog 12 #[.string s, .int .i64 ((m : Int) + 1)] w fun e w' => e = .returned (.int .i64 (-1)) ∧ Below w.heap.size w w') := fun w => by
            have := ih (m + 1) w (by omega) (by omega)
            rw [e2] at this
            exact this
          have HE2 := Lib.hid E2
          clear e2 E2 ih
          go_enter Try.func12, Try.ntmps12
          go_wp2_with fail
          refine (I1.out _).mono ?_
          rintro e w1 ⟨rfl, b1⟩
          go_wp2_with fail
          refine (I2.out _).mono ?_
          rintro e w2 ⟨rfl, b2⟩
          go_wp2_with fail
          go_ret
          exact ⟨ret_i (fEnd_and_no3 hlt hms H.out HE.out H3.out HE2.out).symm, below_tr b1 b2⟩
        · have I2 : Hid (∀ w, Calls Try.prog 12 #[.string s, .int .i64 ((m : Int) + 1)] w fun e w' => e = .returned (.int .i64 (n : Int)) ∧ Below w.heap.size w w') := fun w => by
            have := ih (m + 1) w (by omega) (by omega)
            rw [e2] at this
            exact this
          have HE2 := Lib.hid E2
          clear e2 E2 ih
          by_cases hns : n < s.size
          · by_cases h4 : s[n] = 41
            · have b4 : ((s[n].toNat : Int) != 41) = false := by rw [h4]; rfl
              have H4 := Lib.hid h4
              clear h4
              go_enter Try.func12, Try.ntmps12
              go_wp2_with fail
              refine (I1.out _).mono ?_
              rintro e w1 ⟨rfl, b1⟩
              go_wp2_with fail
              refine (I2.out _).mono ?_
              rintro e w2 ⟨rfl, b2⟩
              go_wp2_with fail
              go_ret
              exact ⟨ret_i (fEnd_and hlt hms hns H.out HE.out H3.out HE2.out H4.out), below_tr b1 b2⟩
            · have b4 : ((s[n].toNat : Int) != 41) = true := by rw [bne_iff_ne]; intro h; exact h4 (by rw [← UInt8.toNat_inj]; simp; omega)
              have H4 := Lib.hid h4
              clear h4
              go_enter Try.func12, Try.ntmps12
              go_wp2_with fail
              refine (I1.out _).mono ?_
              rintro e w1 ⟨rfl, b1⟩
              go_wp2_with fail
              refine (I2.out _).mono ?_
              rintro e w2 ⟨rfl, b2⟩
              go_wp2_with fail
              go_ret
              exact ⟨ret_i (fEnd_and_no4 hlt hms H.out HE.out H3.out HE2.out (fun _ => H4.out)).symm, below_tr b1 b2⟩
          · go_enter Try.func12, Try.ntmps12
            go_wp2_with fail
            refine (I1.out _).mono ?_
            rintro e w1 ⟨rfl, b1⟩
            go_wp2_with fail
            refine (I2.out _).mono ?_
            rintro e w2 ⟨rfl, b2⟩
            go_wp2_with fail
            go_ret
            exact ⟨ret_i (fEnd_and_no4 hlt hms H.out HE.out H3.out HE2.out (fun h => absurd h hns)).symm, below_tr b1 b2⟩
      · have T : ((s[m].toNat : Int) != 38) = true := by rw [bne_iff_ne]; intro h; exact h3 (by rw [← UInt8.toNat_inj]; simp; omega)
        have H3 := Lib.hid h3
        clear h3 ih
        go_enter Try.func12, Try.ntmps12
        go_wp2_with fail
        refine (I1.out _).mono ?_
        rintro e w1 ⟨rfl, b1⟩
        go_wp2_with fail
        go_ret
        exact ⟨ret_i (fEnd_and_no2 hlt H.out HE.out (fun _ => H3.out)).symm, b1⟩
    · clear ih
      go_enter Try.func12, Try.ntmps12
      go_wp2_with fail
      refine (I1.out _).mono ?_
      rintro e w1 ⟨rfl, b1⟩
      go_wp2_with fail
      go_ret
      exact ⟨ret_i (fEnd_and_no2 hlt H.out HE.out (fun h => absurd h hms)).symm, b1⟩

set_option maxHeartbeats 1000000 in
theorem be_dia (s : ByteArray) (hs : s.size ≤ 400) (a : Nat) (hlt : a < s.size) (ih : ∀ (a' : Nat) (w : World), a < a' → a' ≤ 410 → Calls Try.prog 12 #[.string s, .int .i64 (a' : Int)] w fun e w' => e = .returned (.int .i64 (fEnd s a')) ∧ Below w.heap.size w w') (hv : s[a] = 60) (w : World) :
    Calls Try.prog 12 #[.string s, .int .i64 (a : Int)] w fun e w' => e = .returned (.int .i64 (fEnd s a)) ∧ Below w.heap.size w w' := by
  have c0 : (s[a].toNat : Int) = 60 := by rw [hv]; rfl
  have b84 : ((s[a].toNat : Int) == 84) = false := by rw [c0]; rfl
  have b33 : ((s[a].toNat : Int) == 33) = false := by rw [c0]; rfl
  have b40 : ((s[a].toNat : Int) == 40) = false := by rw [c0]; rfl
  have b60 : ((s[a].toNat : Int) == 60) = true := by rw [c0]; rfl
  clear c0
  have H := Lib.hid hv
  clear hv
  have hsa : decide (s.size ≤ a) = false := decide_eq_false (by omega)
  have I := Lib.hid ih
  clear ih
  go_enter Try.func12, Try.ntmps12
  go_wp2_with fail
  go_loopg [7] 5 (fun gk s7 wr => ∃ n : Nat, s7 = .int .i64 (n : Int) ∧ 1 ≤ n ∧ n ≤ 5 ∧ n + gk = 6 ∧ Below w.heap.size w wr ∧ Hid (∀ m, 1 ≤ m → m < n → ¬ DiaAt s a m))
  case atStart => exact ⟨1, rfl, by omega, by omega, by omega, Below.refl _ _, fun m h1 h2 => by omega⟩
  case round =>
    obtain ⟨n, rfl, h1n, hn5, hng, hbw, HN⟩ := hrel
    have BW := Lib.hid hbw
    clear hbw
    by_cases hc : n ≤ 4 ∧ a + 1 + n < s.size
    · obtain ⟨hn4, hin⟩ := hc
      have hnI : (n : Int) ≤ 4 := by omega
      have hiI : (a : Int) + 1 + (n : Int) < (s.size : Int) := by omega
      by_cases hx : s[a + 1 + n] = 62
      · have x62 : ((s[a + 1 + n].toNat : Int) == 62) = true := by rw [hx]; rfl
        have hex : (s.extract (a + 1) (a + 1 + n)).data.toList = (s.data.toList.drop (a + 1)).take n := by rw [Lab.ext_d, show a + 1 + n - (a + 1) = n by omega]
        have HX := Lib.hid hx
        clear hx
        cases hl : labB ((s.data.toList.drop (a + 1)).take n) with
        | true =>
          have L : Hid (∀ w, Calls Try.prog 16 #[.string (s.extract (a + 1) (a + 1 + n))] w fun e w' => e = .returned (.bool true) ∧ Below w.heap.size w w') := fun w => by
            have := Lab.sl_any (s.extract (a + 1) (a + 1 + n)) (by rw [ByteArray.size_extract]; omega) w
            rw [hex, hl] at this; exact this
          have HL := Lib.hid hl
          clear hl hex
          go_wp2_with fail
          refine (L.out _).mono ?_
          rintro e w1 ⟨rfl, b1⟩
          go_wp2_with fail
          refine (I.out (a + 2 + n) _ (by omega) (by omega)).mono ?_
          rintro e w2 ⟨rfl, b2⟩
          go_wp2_with fail
          go_ret
          exact ⟨ret_i (fEnd_dia hlt H.out ⟨hin, HX.out, HL.out⟩), below_tr (below_tr BW.out b1) b2⟩
        | false =>
          have L : Hid (∀ w, Calls Try.prog 16 #[.string (s.extract (a + 1) (a + 1 + n))] w fun e w' => e = .returned (.bool false) ∧ Below w.heap.size w w') := fun w => by
            have := Lab.sl_any (s.extract (a + 1) (a + 1 + n)) (by rw [ByteArray.size_extract]; omega) w
            rw [hex, hl] at this; exact this
          have HL := Lib.hid hl
          clear hl hex
          go_wp2_with fail
          refine (L.out _).mono ?_
          rintro e w1 ⟨rfl, b1⟩
          go_wp2_with fail
          go_roundg (gk - 1)
          case rel =>
            refine ⟨n + 1, by first | rfl | go_num, by omega, by omega, by omega, below_tr BW.out b1, fun m h1 h2 hd => ?_⟩
            by_cases hmn : m < n
            · exact HN.out m h1 hmn hd
            · obtain rfl : m = n := by omega
              obtain ⟨_, _, h3⟩ := hd
              rw [HL.out] at h3; cases h3
          case measure => omega
      · have x62 : ((s[a + 1 + n].toNat : Int) == 62) = false := by rw [beq_eq_false_iff_ne]; intro h; exact hx (by rw [← UInt8.toNat_inj]; simp; omega)
        have HX := Lib.hid hx
        clear hx
        go_wp2_with fail
        go_roundg (gk - 1)
        case rel =>
          refine ⟨n + 1, by first | rfl | go_num, by omega, by omega, by omega, BW.out, fun m h1 h2 hd => ?_⟩
          by_cases hmn : m < n
          · exact HN.out m h1 hmn hd
          · obtain rfl : m = n := by omega
            obtain ⟨_, h3, _⟩ := hd
            exact HX.out h3
        case measure => omega
    · have HC := Lib.hid hc
      have hno : ¬ (n : Int) ≤ 4 ∨ ((n : Int) ≤ 4 ∧ ¬ (a : Int) + 1 + (n : Int) < (s.size : Int)) := by omega
      have fin : Hid (fEnd s a = -1) := fEnd_dia_no hlt H.out fun m h1 h2 hd => by
        by_cases hmn : m < n
        · exact HN.out m h1 hmn hd
        · have := HC.out; obtain ⟨h3, _⟩ := hd; omega
      clear hc
      rcases hno with q | ⟨q1, q⟩
      all_goals
        go_wp2_with fail
        go_ret
        exact ⟨ret_i fin.out.symm, BW.out⟩
set_option maxHeartbeats 1000000 in
theorem be_other (s : ByteArray) (hs : s.size ≤ 400) (a : Nat) (hlt : a < s.size) (h1 : s[a] ≠ 84) (h2 : s[a] ≠ 33) (h3 : s[a] ≠ 40) (h4 : s[a] ≠ 60) (w : World) : Calls Try.prog 12 #[.string s, .int .i64 (a : Int)] w fun e w' => e = .returned (.int .i64 (fEnd s a)) ∧ Below w.heap.size w w' := by
  have b84 : ((s[a].toNat : Int) == 84) = false := by rw [beq_eq_false_iff_ne]; intro h; exact h1 (by rw [← UInt8.toNat_inj]; simp; omega)
  have b33 : ((s[a].toNat : Int) == 33) = false := by rw [beq_eq_false_iff_ne]; intro h; exact h2 (by rw [← UInt8.toNat_inj]; simp; omega)
  have b40 : ((s[a].toNat : Int) == 40) = false := by rw [beq_eq_false_iff_ne]; intro h; exact h3 (by rw [← UInt8.toNat_inj]; simp; omega)
  have b60 : ((s[a].toNat : Int) == 60) = false := by rw [beq_eq_false_iff_ne]; intro h; exact h4 (by rw [← UInt8.toNat_inj]; simp; omega)
  have H := Lib.hid (fEnd_other hlt h1 h2 h3 h4)
  clear h1 h2 h3 h4
  go_enter Try.func12, Try.ntmps12
  go_wp2_with fail
  go_ret
  exact ⟨ret_i H.out.symm, Below.refl _ _⟩
set_option maxHeartbeats 1000000 in
theorem be_ge (s : ByteArray) (hs : s.size ≤ 400) (a : Nat) (hge : s.size ≤ a) (w : World) : Calls Try.prog 12 #[.string s, .int .i64 (a : Int)] w fun e w' => e = .returned (.int .i64 (fEnd s a)) ∧ Below w.heap.size w w' := by
  have H := Lib.hid (fEnd_ge hge)
  go_enter Try.func12, Try.ntmps12
  go_wp2_with fail
  go_ret
  exact ⟨ret_i H.out.symm, Below.refl _ _⟩
theorem be_all (s : ByteArray) (hs : s.size ≤ 400) : ∀ (k a : Nat), 411 - a ≤ k → a ≤ 410 → ∀ w : World, Calls Try.prog 12 #[.string s, .int .i64 (a : Int)] w fun e w' => e = .returned (.int .i64 (fEnd s a)) ∧ Below w.heap.size w w' := by
  intro k
  induction k with
  | zero => intro a h1 h2 w; omega
  | succ k ih =>
    intro a h1 h2 w
    have ih' : ∀ (a' : Nat) (w : World), a < a' → a' ≤ 410 → Calls Try.prog 12 #[.string s, .int .i64 (a' : Int)] w fun e w' => e = .returned (.int .i64 (fEnd s a')) ∧ Below w.heap.size w w' := fun a' w h3 h4 => ih a' (by omega) h4 w
    by_cases hlt : a < s.size
    · by_cases q1 : s[a] = 84
      · exact be_T s hs a hlt ih' q1 w
      by_cases q2 : s[a] = 33
      · exact be_neg s hs a hlt ih' q2 w
      by_cases q3 : s[a] = 40
      · exact be_and s hs a hlt ih' q3 w
      by_cases q4 : s[a] = 60
      · exact be_dia s hs a hlt ih' q4 w
      exact be_other s hs a hlt q1 q2 q3 q4 w
    · exact be_ge s hs a (by omega) w
theorem biEnd_any (s : ByteArray) (hs : s.size ≤ 400) (a : Nat) (ha : a ≤ 410) (w : World) : Calls Try.prog 12 #[.string s, .int .i64 (a : Int)] w fun e w' => e = .returned (.int .i64 (fEnd s a)) ∧ Below w.heap.size w w' := be_all s hs 411 a (by omega) ha w
end Go.Proofs.Ytllnplabiehcgaa.T1
