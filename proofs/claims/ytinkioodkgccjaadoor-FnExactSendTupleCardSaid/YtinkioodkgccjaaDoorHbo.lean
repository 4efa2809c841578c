/- Texts of the proof, put together: Cv. No conditions. -/
import Derived.Test.YtinkioodkgccjaaDoorHaf
import Derived.Test.YtinkioodkgccjaaDoorHbg
import Derived.Test.YtinkioodkgccjaaDoorHbk
import Derived.Test.YtinkioodkgccjaaDoorHbn

/- Tuples that are read: both sides. No conditions. -/
namespace Go.Proofs.YtinkioodkgccjaaDoor.T1
open Go.RowKit
set_option maxRecDepth 100000
set_option linter.unusedVariables false
set_option linter.unusedSimpArgs false

/-- A text that is one letter, or none that is. -/
theorem one_or2 (k : ByteArray) : (∃ c, nmL c = true ∧ k = B [c] ∧ (∀ w, Calls Tryd.prog 9 #[.string k] w fun e w' => e = .returned (.bool true) ∧ Below w.heap.size w w') ∧ (∀ w, Calls Tryd.prog 38 #[.string k] w fun e w' => e = .returned (.tuple #[.int .u8 (c.toNat : Int), .bool true]) ∧ Below w.heap.size w w')) ∨ ((∀ c, nmL c = true → k.data.toList ≠ [c]) ∧ (∀ w, Calls Tryd.prog 9 #[.string k] w fun e w' => e = .returned (.bool false) ∧ Below w.heap.size w w') ∧ (∀ w, Calls Tryd.prog 38 #[.string k] w fun e w' => e = .returned (.tuple #[.int .u8 0, .bool false]) ∧ Below w.heap.size w w')) := by
  by_cases h1 : k.size = 1
  · have h0 : 0 < k.size := by omega
    have hq : ((k.size : Int) == 1) = true := by rw [h1]; rfl
    have hq2 : ((k.size : Int) != 1) = false := by rw [h1]; rfl
    have hL := isLetter_any (k[0]'h0)
    have hl : k.data.toList.length = 1 := by simp; exact h1
    have hg := get_list k 0 h0
    cases hc : nmL (k[0]'h0) with
    | true =>
      rw [hc] at hL
      have h2 := (nmL_iff _).1 hc
      refine .inl ⟨k[0]'h0, hc, ?_, one_yes k h0 hq (by omega) (by omega), rn_yes k h0 hq2 hL⟩
      apply B_eq
      match hk : k.data.toList, hl with
      | [x], _ => simp [hk] at hg; rw [hg]
    | false =>
      rw [hc] at hL
      refine .inr ⟨?_, ?_, rn_no k h0 hq2 hL⟩
      · intro c hn e
        simp [e] at hg
        rw [hg, hc] at hn; cases hn
      · rcases nm_lo hc with h | h
        · exact one_lo k h0 hq h
        · exact one_hi k h0 hq h
  · have hq : ((k.size : Int) == 1) = false := by rw [beq_eq_false_iff_ne]; omega
    refine .inr ⟨?_, one_len k hq (by rw [bne, hq]; rfl), rn_len k hq (by rw [bne, hq]; rfl)⟩
    intro c _ e
    have : k.data.toList.length = 1 := by rw [e]; rfl
    simp at this
    exact h1 this
theorem one_B (c : UInt8) (w : World) : Calls Tryd.prog 9 #[.string (B [c])] w fun e w' => e = .returned (.bool (nmL c)) ∧ Below w.heap.size w w' := by
  rcases one_or2 (B [c]) with ⟨d, hd, e, h, _⟩ | ⟨hn, h, _⟩
  · have h1 : [c] = [d] := by rw [← B_list [c], e, B_list]
    have h2 : c = d := by injection h1
    rw [h2] at h ⊢
    rw [hd]; exact h w
  · cases hc : nmL c with
    | false => exact h w
    | true => exact absurd (B_list [c]) (hn c hc)

set_option maxHeartbeats 1000000 in
theorem l1_yes (n : Nat) (h1 : 1 ≤ n) (h4 : n ≤ 4) (w : World) : Calls Tryd.prog 25 #[.int .i64 (n : Int), .int .i64 1, .int .i64 4] w fun e w' => e = .returned (.bool true) ∧ w = w' := by
  have k1 : (1 : Int) ≤ (n : Int) := by omega
  have k2 : (n : Int) ≤ 4 := by omega
  go_enter Tryd.func25, Tryd.ntmps25
  go_wp2_with fail
  go_ret
  exact ⟨rfl, rfl⟩
set_option maxHeartbeats 1000000 in
theorem l1_lo (w : World) : Calls Tryd.prog 25 #[.int .i64 0, .int .i64 1, .int .i64 4] w fun e w' => e = .returned (.bool false) ∧ w = w' := by
  go_enter Tryd.func25, Tryd.ntmps25
  go_wp2_with fail
  go_ret
  exact ⟨rfl, rfl⟩
set_option maxHeartbeats 1000000 in
theorem l1_hi (n : Nat) (h4 : 4 < n) (w : World) : Calls Tryd.prog 25 #[.int .i64 (n : Int), .int .i64 1, .int .i64 4] w fun e w' => e = .returned (.bool false) ∧ w = w' := by
  have k1 : (1 : Int) ≤ (n : Int) := by omega
  have k2 : ¬ (n : Int) ≤ 4 := by omega
  have k3 : decide ((n : Int) ≤ 4) = false := decide_eq_false k2
  go_enter Tryd.func25, Tryd.ntmps25
  go_wp2_with fail
  go_ret
  exact ⟨rfl, rfl⟩
theorem l1_any (n : Nat) (w : World) : Calls Tryd.prog 25 #[.int .i64 (n : Int), .int .i64 1, .int .i64 4] w fun e w' => e = .returned (.bool (decide (1 ≤ n) && decide (n ≤ 4))) ∧ w = w' := by
  by_cases h1 : 1 ≤ n
  · by_cases h4 : n ≤ 4
    · rw [decide_eq_true h1, decide_eq_true h4]; exact l1_yes n h1 h4 w
    · rw [decide_eq_true h1, decide_eq_false h4]; exact l1_hi n (by omega) w
  · obtain rfl : n = 0 := by omega
    exact l1_lo w

set_option maxHeartbeats 2000000 in
theorem cdTuple_any (l : List UInt8) (h63 : l.length ≤ 9223372036854775807) (w : World) : Calls Tryd.prog 10 #[.string (B l)] w fun e w' => e = .returned (.bool (tupB l)) ∧ Below w.heap.size w w' := by
  obtain ⟨N, hN⟩ : ∃ N, N = B l := ⟨_, rfl⟩
  have sN : N.size = l.length := by rw [hN]; exact B_size l
  have HL := Lib.hid (l1_any l.length)
  have HNN := Lib.hid hN
  rw [← hN]
  clear hN
  by_cases hs : 1 ≤ l.length ∧ l.length ≤ 4
  · obtain ⟨R, hR⟩ : ∃ R, R = tupB l := ⟨_, rfl⟩
    have HR : Hid (R = l.all nmL) := by show _ = _; rw [hR]; simp [tupB, hs]
    rw [← hR]
    rw [show (decide (1 ≤ l.length) && decide (l.length ≤ 4)) = true by simp [hs]] at HL
    have hO := Lib.hid one_B
    obtain ⟨n, hn⟩ : ∃ n, n = l.length := ⟨_, rfl⟩
    have HN := Lib.hid hn
    rw [← hn] at sN HL
    have h4 : n ≤ 4 := by omega
    clear hn hR hs h63
    go_enter Tryd.func10, Tryd.ntmps10
    go_wp2_with fail
    with_reducible refine (HL.out _).mono ?_
    rintro e w1 ⟨rfl, rfl⟩
    go_wp2_with fail
    go_loopg [3] n (fun k s3 wr => ∃ i : Nat, s3 = .int .i64 (i : Int) ∧ i + k = n ∧ Hid ((l.take i).all nmL = true) ∧ Hid (Below w.heap.size w wr))
    case atStart => exact ⟨0, rfl, by omega, rfl, Below.refl _ _⟩
    case round =>
      obtain ⟨i, rfl, hik, hall, hbw⟩ := hrel
      by_cases hlt : (i : Int) < (n : Int)
      · have hil : i < l.length := by rw [← HN.out]; omega
        have e1 : N.extract i (i + 1) = B [l[i]] := by rw [HNN.out]; exact ext1 l i hil
        have HC := Lib.hid (hO.out l[i])
        rw [← e1] at HC
        have hw1 : IntKind.i64.wrap ((i : Int) + 1) = (i : Int) + 1 := IntWalk.i64_in _ (by omega)
        have htk : (l.take (i + 1)).all nmL = ((l.take i).all nmL && nmL l[i]) := by rw [List.take_succ_eq_append_getElem hil, List.all_append]; simp
        cases hc : nmL l[i] with
        | true =>
          rw [hc] at HC
          have hall2 : Hid ((l.take (i + 1)).all nmL = true) := by show _ = _; rw [htk, hall.out, hc]; rfl
          clear htk hc e1
          go_wp2_with fail
          with_reducible refine (HC.out _).mono ?_
          rintro e w2 ⟨rfl, b2⟩
          have bl2 := Lib.hid (xgo hbw.out b2)
          clear b2 hbw
          go_wp2_with fail
          go_roundg (gk - 1)
          case rel => exact ⟨i + 1, by go_num, by omega, hall2, bl2⟩
          case measure => omega
        | false =>
          rw [hc] at HC
          have hR2 : Hid (R = false) := by
            show _ = _
            rw [HR.out, List.all_eq_false]
            exact ⟨l[i], List.getElem_mem hil, by rw [hc]; simp⟩
          clear htk hc e1
          go_wp2_with fail
          with_reducible refine (HC.out _).mono ?_
          rintro e w2 ⟨rfl, b2⟩
          have bl2 := xgo hbw.out b2
          clear b2 hbw
          go_wp2_with fail
          go_ret
          exact ⟨by rw [hR2.out]; rfl, bl2⟩
      · obtain rfl : i = n := by omega
        have hR2 : Hid (R = true) := by
          show _ = _
          have := hall.out
          rw [List.take_of_length_le (by rw [← HN.out]; exact Nat.le_refl _)] at this
          rw [HR.out, this]
        go_wp2_with fail
        go_ret
        exact ⟨by rw [hR2.out]; rfl, hbw.out⟩
  · have hR : tupB l = false := by
      cases h : tupB l with
      | false => rfl
      | true => exact absurd ((tupB_iff l).1 h).1 hs
    rw [hR]
    rw [show (decide (1 ≤ l.length) && decide (l.length ≤ 4)) = false by rw [Bool.and_eq_false_iff, decide_eq_false_iff_not, decide_eq_false_iff_not]; omega] at HL
    clear hR hs
    go_enter Tryd.func10, Tryd.ntmps10
    go_wp2_with fail
    with_reducible refine (HL.out _).mono ?_
    rintro e w1 ⟨rfl, rfl⟩
    go_wp2_with fail
    go_ret
    exact ⟨rfl, Below.refl _ _⟩
theorem Tryd.infoU8b : (Tryd.prog.info? 5).map (fun i => (i.zero, i.size, i.bytes)) = some (some (.int .u8 0), 1, 1) := by kernel_rfl

set_option maxHeartbeats 2000000 in
theorem ms_yes (L : List ByteArray) (l : List UInt8) (hl : l.length = L.length) (h4 : L.length ≤ 4)
    (HC : ∀ i (h : i < l.length) w, Calls Tryd.prog 17 #[.string (L[i]'(by omega))] w fun e w' => e = .returned (.int .u8 (l[i].toNat : Int)) ∧ Below w.heap.size w w')
    
    (b cap : Nat) (w : World) (hr : w.heap[b]? = some (.cells (L.map Value.string).toArray 9 (0, 0))) :
    Calls Tryd.prog 60 #[.slice (some ⟨b, 0, none⟩) L.length cap, .func (.func 17) #[] #[]] w fun e w' => ∃ v, e = .returned v ∧ w'.ownsRow w.heap.size 5 1 v l.length (l.map ub) ∧ Below w.heap.size w w' := by
  obtain ⟨i0, hi, hz0, hz1, hz2⟩ := info_parts Tryd.infoU8b
  obtain ⟨LL, hLL⟩ : ∃ LL, LL = l.map ub := ⟨_, rfl⟩
  have HLL := Lib.hid hLL
  rw [← hLL]
  have HR := Lib.hid hr
  have HCC := Lib.hid HC
  skip
  obtain ⟨n, hn⟩ : ∃ n, n = L.length := ⟨_, rfl⟩
  obtain ⟨m, hm⟩ : ∃ m, m = l.length := ⟨_, rfl⟩
  rw [← hm]
  rw [← hn]
  have hmn : m = n := by omega
  have hn4 : n ≤ 4 := by omega
  have HNl := Lib.hid hn
  have HMl := Lib.hid hm
  clear hr HC hn hm hLL 
  go_enter Tryd.func60, Tryd.ntmps60
  go_wp2_with fail
  go_loopg [5, 10] m (fun k s5 s10 wr => (∃ i : Nat, s10 = .int .i64 (i : Int) ∧ i + k = m ∧ Hid (wr.ownsRow w.heap.size 5 1 s5 i (LL.take i))) ∧ Hid (Below w.heap.size w wr))
  case atStart => exact ⟨⟨0, by congr 1, by omega, World.ownsRow_nil _ _ _ _⟩, Below.refl _ _⟩
  case round =>
    obtain ⟨⟨i, rfl, hik, hown⟩, hbw⟩ := hrel
    have hsz := hbw.out.size
    have hb2 := (hbw.out.block b (lt_of_block HR.out)).trans HR.out
    by_cases hlt : (i : Int) < (m : Int)
    · have hin : (i : Int) < (n : Int) := by omega
      have hil : i < l.length := by rw [← HMl.out]; omega
      have hiL : i < L.length := by rw [← HNl.out]; omega
      have c1 := cellsAt hb2 i (.string L[i]) (by simp [hiL])
      have HC : Hid (∀ w, Calls Tryd.prog 17 #[.string (L[i]'hiL)] w fun e w' => e = .returned (.int .u8 (l[i].toNat : Int)) ∧ Below w.heap.size w w') := HCC.out i hil
      obtain ⟨X, hX⟩ : ∃ X, X = L[i]'hiL := ⟨_, rfl⟩
      obtain ⟨x, hx⟩ : ∃ x : Int, x = (l[i].toNat : Int) := ⟨_, rfl⟩
      rw [← hX, ← hx] at HC
      rw [← hX] at c1
      have htk : Hid (LL.take (i + 1) = LL.take i ++ [.int .u8 x]) := by
        show _ = _
        rw [HLL.out, ← List.map_take, ← List.map_take, List.take_succ_eq_append_getElem hil, List.map_append, hx]; rfl
      clear hX hx hb2
      go_wp2_with fail
      refine (HC.out _).mono ?_
      rintro e w1 ⟨rfl, b1⟩
      have hbw1 := Lib.hid (cdgo hbw.out b1)
      have hown1 := Lib.hid (own_below2 hown.out b1)
      have hsz1 := hbw1.out.size
      clear b1 c1 hbw hown
      go_wp2_with (at_builtin; refine wpList_append_rows rfl (.tmp 14) (.tmp 18) 33 rfl w.heap.size w.heap.size 5 i0 (.int .u8 0) 1 Tryd.underlying33 hi hz0 hz1 hz2 rfl _ i _ rfl (hown1.out.alloc _) _ 1 [.int .u8 x] rfl (own_new1 w1 (.int .u8 x) 5 w.heap.size hsz1) (fun u hu => by simp at hu; subst hu; rfl) ?c2 ?c3 ?c4 ?_)
      case c2 => unfold maxLen; omega
      case c3 => omega
      case c4 => simp; omega
      intro v3 w3 hown3 hgrow3 _
      have O3 : Hid (w3.ownsRow w.heap.size 5 1 v3 (i + 1) (LL.take (i + 1))) := by
        show World.ownsRow _ _ _ _ _ _ _
        rw [htk.out]; exact hown3
      have hol := hown1.out.lt
      have Bl3 := Lib.hid (below_grown2 (hbw1.out.alloc hsz1 _) hgrow3 (fun g e => (hol g e).1) (by simp; omega))
      clear hown3 hgrow3 hol hbw1 hown1 htk
      go_wp2_with fail
      go_roundg (gk - 1)
      case rel => exact ⟨⟨i + 1, by congr 1, by omega, O3⟩, Bl3⟩
      case measure => omega
    · obtain rfl : i = m := by omega
      subst hmn
      have htk : LL.take i = LL := List.take_of_length_le (by rw [HLL.out, List.length_map, HMl.out]; exact Nat.le_refl _)
      rw [htk] at hown
      clear htk hb2
      go_wp2_with fail
      go_ret
      exact ⟨_, rfl, hown.out, hbw.out⟩

set_option maxHeartbeats 2000000 in
theorem ms_no (L : List ByteArray) (l : List UInt8) (hl : l.length < L.length) (h4 : L.length ≤ 4)
    (HC : ∀ i (h : i < l.length) w, Calls Tryd.prog 17 #[.string (L[i]'(by omega))] w fun e w' => e = .returned (.int .u8 (l[i].toNat : Int)) ∧ Below w.heap.size w w')
    (HN : ∀ w, Calls Tryd.prog 17 #[.string (L[l.length]'hl)] w fun e w' => e = failed ∧ Below w.heap.size w w')
    (b cap : Nat) (w : World) (hr : w.heap[b]? = some (.cells (L.map Value.string).toArray 9 (0, 0))) :
    Calls Tryd.prog 60 #[.slice (some ⟨b, 0, none⟩) L.length cap, .func (.func 17) #[] #[]] w fun e w' => e = failed ∧ Below w.heap.size w w' := by
  obtain ⟨i0, hi, hz0, hz1, hz2⟩ := info_parts Tryd.infoU8b
  obtain ⟨LL, hLL⟩ : ∃ LL, LL = l.map ub := ⟨_, rfl⟩
  have HLL := Lib.hid hLL
  skip
  have HR := Lib.hid hr
  have HCC := Lib.hid HC
  have HNN := Lib.hid HN
  obtain ⟨n, hn⟩ : ∃ n, n = L.length := ⟨_, rfl⟩
  obtain ⟨m, hm⟩ : ∃ m, m = l.length := ⟨_, rfl⟩
  skip
  rw [← hn]
  have hmn : m < n := by omega
  have hn4 : n ≤ 4 := by omega
  have HNl := Lib.hid hn
  have HMl := Lib.hid hm
  clear hr HC hn hm hLL HN 
  go_enter Tryd.func60, Tryd.ntmps60
  go_wp2_with fail
  go_loopg [5, 10] m (fun k s5 s10 wr => (∃ i : Nat, s10 = .int .i64 (i : Int) ∧ i + k = m ∧ Hid (wr.ownsRow w.heap.size 5 1 s5 i (LL.take i))) ∧ Hid (Below w.heap.size w wr))
  case atStart => exact ⟨⟨0, by congr 1, by omega, World.ownsRow_nil _ _ _ _⟩, Below.refl _ _⟩
  case round =>
    obtain ⟨⟨i, rfl, hik, hown⟩, hbw⟩ := hrel
    have hsz := hbw.out.size
    have hb2 := (hbw.out.block b (lt_of_block HR.out)).trans HR.out
    by_cases hlt : (i : Int) < (m : Int)
    · have hin : (i : Int) < (n : Int) := by omega
      have hil : i < l.length := by rw [← HMl.out]; omega
      have hiL : i < L.length := by rw [← HNl.out]; omega
      have c1 := cellsAt hb2 i (.string L[i]) (by simp [hiL])
      have HC : Hid (∀ w, Calls Tryd.prog 17 #[.string (L[i]'hiL)] w fun e w' => e = .returned (.int .u8 (l[i].toNat : Int)) ∧ Below w.heap.size w w') := HCC.out i hil
      obtain ⟨X, hX⟩ : ∃ X, X = L[i]'hiL := ⟨_, rfl⟩
      obtain ⟨x, hx⟩ : ∃ x : Int, x = (l[i].toNat : Int) := ⟨_, rfl⟩
      rw [← hX, ← hx] at HC
      rw [← hX] at c1
      have htk : Hid (LL.take (i + 1) = LL.take i ++ [.int .u8 x]) := by
        show _ = _
        rw [HLL.out, ← List.map_take, ← List.map_take, List.take_succ_eq_append_getElem hil, List.map_append, hx]; rfl
      clear hX hx hb2
      go_wp2_with fail
      refine (HC.out _).mono ?_
      rintro e w1 ⟨rfl, b1⟩
      have hbw1 := Lib.hid (cdgo hbw.out b1)
      have hown1 := Lib.hid (own_below2 hown.out b1)
      have hsz1 := hbw1.out.size
      clear b1 c1 hbw hown
      go_wp2_with (at_builtin; refine wpList_append_rows rfl (.tmp 14) (.tmp 18) 33 rfl w.heap.size w.heap.size 5 i0 (.int .u8 0) 1 Tryd.underlying33 hi hz0 hz1 hz2 rfl _ i _ rfl (hown1.out.alloc _) _ 1 [.int .u8 x] rfl (own_new1 w1 (.int .u8 x) 5 w.heap.size hsz1) (fun u hu => by simp at hu; subst hu; rfl) ?c2 ?c3 ?c4 ?_)
      case c2 => unfold maxLen; omega
      case c3 => omega
      case c4 => simp; omega
      intro v3 w3 hown3 hgrow3 _
      have O3 : Hid (w3.ownsRow w.heap.size 5 1 v3 (i + 1) (LL.take (i + 1))) := by
        show World.ownsRow _ _ _ _ _ _ _
        rw [htk.out]; exact hown3
      have hol := hown1.out.lt
      have Bl3 := Lib.hid (below_grown2 (hbw1.out.alloc hsz1 _) hgrow3 (fun g e => (hol g e).1) (by simp; omega))
      clear hown3 hgrow3 hol hbw1 hown1 htk
      go_wp2_with fail
      go_roundg (gk - 1)
      case rel => exact ⟨⟨i + 1, by congr 1, by omega, O3⟩, Bl3⟩
      case measure => omega
    · obtain rfl : i = m := by omega
      have hin : (i : Int) < (n : Int) := by omega
      have hiL : i < L.length := by rw [← HNl.out]; omega
      have c1 := cellsAt hb2 i (.string L[i]) (by simp [hiL])
      have HC : Hid (∀ w, Calls Tryd.prog 17 #[.string (L[i]'hiL)] w fun e w' => e = failed ∧ Below w.heap.size w w') := by
        have e0 : L[i]'hiL = L[l.length]'hl := by simp only [HMl.out]
        rw [e0]; exact HNN.out
      obtain ⟨X, hX⟩ : ∃ X, X = L[i]'hiL := ⟨_, rfl⟩
      rw [← hX] at HC c1
      clear hX hb2
      go_wp2_with fail
      refine (HC.out _).mono ?_
      rintro e w1 ⟨rfl, b1⟩
      exact ⟨rfl, rfl, cdgo hbw.out b1⟩

set_option maxHeartbeats 1000000 in
theorem split_any (s : ByteArray) (h1 : 1 ≤ s.size) (h4 : s.size ≤ 4) (w : World) (hT : Lib.Utf8Tabs 1 2 w) : Calls Tryd.prog 61 #[.string s, .string ⟨#[]⟩] w (Pcs s w) := by
  have HE := Lib.hid (fun w (hT : Lib.Utf8Tabs 1 2 w) => explode_any s h1 h4 w hT)
  have HG : Hid (∀ w, (Lib.Utf8Tabs 1 2 w) → Calls Tryd.prog 72 #[.string s, .string ⟨#[]⟩, .int .i64 0, .int .i64 (-1)] w (Pcs s w)) := by
    intro w hT
    have HE1 := Lib.hid (HE.out w hT)
    clear HE hT
    have e0 : ByteArray.toList ⟨#[]⟩ = [] := by rw [ByteArray.toList_eq]
    go_enter Tryd.func72, Tryd.ntmps72
    go_wp2_with fail
    with_reducible refine (HE1.out).mono ?_
    rintro e w1 ⟨L, b, rfl, h⟩
    go_wp2_with fail
    go_ret
    exact ⟨L, b, rfl, h⟩
  have HG1 := Lib.hid (HG.out w hT)
  clear HG HE hT
  go_enter Tryd.func61, Tryd.ntmps61
  go_wp2_with fail
  with_reducible refine (HG1.out).mono ?_
  rintro e w1 ⟨L, b, rfl, h⟩
  go_wp2_with fail
  go_ret
  exact ⟨L, b, rfl, h⟩
set_option maxHeartbeats 1000000 in
theorem tup_size (s : ByteArray) (h : ¬ (1 ≤ s.size ∧ s.size ≤ 4)) (w : World) : Calls Tryd.prog 18 #[.string s] w fun e w' => e = failed ∧ Below w.heap.size w w' := by
  by_cases h0 : s.size = 0
  · have k0 : ¬ (0 : Int) < (s.size : Int) := by omega
    have k1 : decide ((0 : Int) < (s.size : Int)) = false := decide_eq_false k0
    go_enter Tryd.func18, Tryd.ntmps18
    go_wp2_with fail
    refine (ensure_no _).mono ?_
    rintro e w1 ⟨rfl, rfl⟩
    exact ⟨rfl, rfl, Below.refl _ _⟩
  · have k0 : (0 : Int) < (s.size : Int) := by omega
    have k1 : ¬ (s.size : Int) ≤ 4 := by omega
    have k2 : decide ((s.size : Int) ≤ 4) = false := decide_eq_false k1
    go_enter Tryd.func18, Tryd.ntmps18
    go_wp2_with fail
    refine (ensure_no _).mono ?_
    rintro e w1 ⟨rfl, rfl⟩
    exact ⟨rfl, rfl, Below.refl _ _⟩
set_option maxHeartbeats 1000000 in
theorem nmi_no (s : ByteArray) (h1 : 1 ≤ s.size) (h4 : s.size ≤ 4) (hb : ¬ ∀ c ∈ s.data.toList, nmL c = true) (w : World) (hT : Lib.Utf8Tabs 1 2 w) : Calls Tryd.prog 40 #[.string s] w fun e w' => e = failed ∧ Below w.heap.size w w' := by
  have HS := Lib.hid (split_any s h1 h4 w hT)
  have HB := Lib.hid hb
  clear hT hb
  go_enter Tryd.func40, Tryd.ntmps40
  go_wp2_with fail
  with_reducible refine (HS.out).mono ?_
  rintro e w1 ⟨L, b, rfl, hb, hh, hne, hL4, hj, b1⟩
  have HM : Hid (Calls Tryd.prog 60 #[.slice (some ⟨b, 0, none⟩) L.length L.length, .func (.func 17) #[] #[]] w1 fun e w' => e = failed ∧ Below w1.heap.size w1 w') := by
    obtain ⟨l, k, hk, e1, e2, e3, e4⟩ := pcs_bad L (fun hall => HB.out (by rw [← hj]; exact pcs_one L hall))
    subst e1
    refine ms_no L l hk hL4 (fun i h w => ?_) (fun w => ?_) b L.length w1 hh
    · rcases one_or2 (L[i]'(by omega)) with ⟨c, hc, e, _, hI⟩ | ⟨hn, _⟩
      · have : l[i] = c := by
          have h5 := e3 i h h
          rw [e] at h5
          simpa [B_list] using h5.symm
        rw [this]; exact ni_yes _ _ hI w
      · exact absurd (e3 i h h) (hn _ (e2 _ (List.getElem_mem h)))
    · rcases one_or2 (L[l.length]'hk) with ⟨c, hc, e, _⟩ | ⟨_, _, hI⟩
      · exact absurd (by rw [e]; rfl) (e4 c hc)
      · exact ni_no _ hI w
  clear hj hh hne hb
  go_wp2_with fail
  with_reducible refine (HM.out).mono ?_
  rintro e w2 ⟨rfl, b2⟩
  exact ⟨rfl, rfl, cdgo b1 b2⟩
set_option maxHeartbeats 1000000 in
theorem tup_no (s : ByteArray) (h1 : 1 ≤ s.size) (h4 : s.size ≤ 4) (hb : ¬ ∀ c ∈ s.data.toList, nmL c = true) (w : World) (hT : Lib.Utf8Tabs 1 2 w) : Calls Tryd.prog 18 #[.string s] w fun e w' => e = failed ∧ Below w.heap.size w w' := by
  have HM := Lib.hid (nmi_no s h1 h4 hb w hT)
  have k0 : (0 : Int) < (s.size : Int) := by omega
  have k1 : (s.size : Int) ≤ 4 := by omega
  clear hT hb
  go_enter Tryd.func18, Tryd.ntmps18
  go_wp2_with fail
  with_reducible refine (ensure_yes _).mono ?_
  rintro e w' ⟨rfl, rfl⟩
  go_wp2_with fail
  with_reducible refine (HM.out).mono ?_
  rintro e w1 ⟨rfl, b1⟩
  exact ⟨rfl, rfl, b1⟩
set_option maxHeartbeats 1000000 in
theorem nmi_yes (l : List UInt8) (h1 : 1 ≤ l.length) (h4 : l.length ≤ 4) (hb : ∀ c ∈ l, nmL c = true) (w : World) : Calls Tryd.prog 40 #[.string (B l)] w fun e w' => ∃ g cap, e = .returned (.slice (some ⟨g, 0, none⟩) l.length cap) ∧ BRow w' g l ∧ Below w.heap.size w w' := by
  have HS := Lib.hid (Tryd.strings_Split_chars (B l) ⟨#[]⟩ w rfl (by rw [B_size]; omega) (fun j b hj => by
    have := (nmL_iff b).1 (hb b (by rw [← B_list l]; exact List.mem_of_getElem? hj))
    omega))
  obtain ⟨S0, hS0⟩ : ∃ S0, S0 = B l := ⟨_, rfl⟩
  have hsz : S0.size = l.length := by rw [hS0]; exact B_size l
  obtain ⟨L, hL⟩ : ∃ L, L = Lib.charsB (B l) := ⟨_, rfl⟩
  have hLd : L.map (·.data.toList) = l.map fun b => [b] := by rw [hL, Lib.chars_data]; rfl
  have hLl : L.length = l.length := by have := congrArg List.length hLd; simpa using this
  rw [← hL, ← hS0] at HS
  rw [← hS0]
  have HM : Hid (∀ b w, w.heap[b]? = some (.cells (L.map Value.string).toArray 9 (0, 0)) → Calls Tryd.prog 60 #[.slice (some ⟨b, 0, none⟩) L.length L.length, .func (.func 17) #[] #[]] w fun e w' => ∃ v, e = .returned v ∧ w'.ownsRow w.heap.size 5 1 v l.length (l.map ub) ∧ Below w.heap.size w w') := fun b w hr =>
    ms_yes L l hLl.symm (by omega) (fun i h w => by
      have h5 : (L[i]'(by omega)).data.toList = [l[i]] := by
        have h6 := congrArg (fun x => x[i]?) hLd
        simp only [List.getElem?_map] at h6
        rw [List.getElem?_eq_getElem (by omega), List.getElem?_eq_getElem h] at h6
        simpa using h6
      rcases one_or2 (L[i]'(by omega)) with ⟨c, hc, e, _, hI⟩ | ⟨hn, _⟩
      · have : l[i] = c := by
          rw [e] at h5
          simpa [B_list] using h5.symm
        rw [this]; exact ni_yes _ _ hI w
      · exact absurd h5 (hn _ (hb _ (List.getElem_mem h)))) b L.length w hr
  have b0 := iter_bl w S0 S0.size
  rw [hLl] at HM
  obtain ⟨W1, hW1⟩ : ∃ W1, W1 = w.iter S0 S0.size := ⟨_, rfl⟩
  rw [← hW1] at HS b0
  have HM1 := Lib.hid (HM.out W1.heap.size (W1.alloc (.cells (L.map Value.string).toArray 9)) (heap_alloc_new W1 _))
  have b1 := b0.alloc b0.size (.cells (L.map Value.string).toArray 9)
  clear HM hL hLd hS0 hb hW1 b0
  go_enter Tryd.func40, Tryd.ntmps40
  go_wp2_with fail
  with_reducible refine (HS.out).mono ?_
  rintro e w1 ⟨rfl, hw1⟩
  rw [hw1]
  clear hw1 HS
  go_wp2_with fail
  with_reducible refine (HM1.out).mono ?_
  rintro e w2 ⟨v, rfl, ho, b2⟩
  obtain ⟨p, cap, rfl⟩ := cd_form ho
  obtain ⟨g, rfl, hc, hl, hr⟩ := brow_own ho (by omega) (by omega)
  have HR := Lib.hid hr
  have bl := cdgo b1 b2
  clear ho hr b1 b2
  go_wp2_with fail
  go_ret
  exact ⟨g, cap, rfl, HR.out, bl⟩
set_option maxHeartbeats 1000000 in
theorem tup_yes (l : List UInt8) (h1 : 1 ≤ l.length) (h4 : l.length ≤ 4) (hb : ∀ c ∈ l, nmL c = true) (w : World) : Calls Tryd.prog 18 #[.string (B l)] w fun e w' => ∃ g cap, e = .returned (.slice (some ⟨g, 0, none⟩) l.length cap) ∧ BRow w' g l ∧ Below w.heap.size w w' := by
  have HM := Lib.hid (nmi_yes l h1 h4 hb w)
  obtain ⟨S0, hS0⟩ : ∃ S0, S0 = B l := ⟨_, rfl⟩
  have hsz : S0.size = l.length := by rw [hS0]; exact B_size l
  rw [← hS0] at HM
  rw [← hS0]
  have k0 : (0 : Int) < (S0.size : Int) := by omega
  have k1 : (S0.size : Int) ≤ 4 := by omega
  obtain ⟨n, hn⟩ : ∃ n, n = l.length := ⟨_, rfl⟩
  rw [← hn] at HM
  rw [← hn]
  clear hb hS0 hsz hn
  go_enter Tryd.func18, Tryd.ntmps18
  go_wp2_with fail
  with_reducible refine (ensure_yes _).mono ?_
  rintro e w' ⟨rfl, rfl⟩
  go_wp2_with fail
  with_reducible refine (HM.out).mono ?_
  rintro e w1 ⟨g, cap, rfl, hr, bl⟩
  have HR := Lib.hid hr
  clear hr
  go_wp2_with fail
  go_ret
  exact ⟨g, cap, rfl, HR.out, bl⟩
end Go.Proofs.YtinkioodkgccjaaDoor.T1
