/- What is drawn for the law of names that are used; letters in texts. No conditions. -/
import Derived.Test.YtlhmjcfnfefliaaGreatHbt
import Derived.Deep.LoopGhost
namespace Go.Proofs.YtlhmjcfnfefliaaGreat.T1
open Go.RowKit
set_option maxRecDepth 100000
set_option linter.unusedVariables false
set_option linter.unusedSimpArgs false

theorem of8_s (c k : Nat) (hk : k ≤ 900000) (w : World) (hC : Cur w c k) (W : World) (hW : W = w.alloc (.cells #[.string ⟨#[40, 97, 33, 98, 46, 48, 38, 97, 63, 120, 46, 120, 33, 99, 46, 48, 41]⟩, .string ⟨#[97, 33, 97, 46, 48]⟩, .string ⟨#[40, 97, 33, 98, 46, 48, 38, 97, 63, 120, 46, 48, 41]⟩, .string ⟨#[97, 63, 120, 46, 120, 63, 121, 46, 121, 33, 98, 46, 48]⟩, .string ⟨#[40, 97, 33, 98, 46, 98, 33, 97, 46, 48, 38, 99, 33, 97, 46, 48, 41]⟩, .string ⟨#[42, 97, 63, 120, 46, 98, 33, 120, 46, 48]⟩, .string ⟨#[91, 97, 61, 98, 93, 97, 33, 99, 46, 48]⟩, .string ⟨#[40, 97, 33, 98, 46, 48, 38, 40, 98, 33, 99, 46, 48, 38, 99, 33, 97, 46, 48, 41, 41]⟩] 9)) : Calls Tryz.prog 38 #[.pointer (some ⟨c, 0, none⟩), .slice (some ⟨w.heap.size, 0, none⟩) 8 8] W (Dr (Tx 1000) c (k + 2) W) := by
  subst hW
  refine of_any (Tx 1000) c k w.heap.size 8 (by decide) hk (by decide) _ (Nat.ne_of_gt hC.lt) ?_ (hC.below ((Below.refl _ _).alloc (Nat.le_refl _) _))
  intro j hj
  rcases (show j = 0 ∨ j = 1 ∨ j = 2 ∨ j = 3 ∨ j = 4 ∨ j = 5 ∨ j = 6 ∨ j = 7 from by omega) with rfl | rfl | rfl | rfl | rfl | rfl | rfl | rfl
  all_goals exact ⟨_, ⟨_, rfl, by decide⟩, alloc_cell rfl⟩
/-- What is drawn: two texts. -/
def DrS (c : Nat) (w : World) (e : Ending) (w' : World) : Prop := ∃ s a : ByteArray, e = .returned (.tuple #[.string s, .string a]) ∧ s.size ≤ 1000 ∧ a.size ≤ 30 ∧ Only c w w'
set_option maxHeartbeats 8000000 in
theorem drSorted_any (c k : Nat) (hk : k ≤ 50000) (w : World) (hC : Cur w c k) : Calls Tryz.prog 20 #[.pointer (some ⟨c, 0, none⟩)] w (DrS c w) := by
  have HC := Lib.hid hC
  clear hC
  go_enter Tryz.func20, Tryz.ntmps20
  go_wp2_with fail
  refine (drProcess_any c k 8 false (by decide) (by decide) hk _ HC.out).mono ?_
  rintro e w1 ⟨v, rfl, a1, c1, o1⟩
  obtain ⟨s, rfl, hs, _⟩ := a1
  have C1 := Lib.hid c1
  have O1 := Lib.hid o1
  clear c1 o1
  go_wp2_with fail
  refine (one_any c _ 3 (by decide) (by omega) (by decide) _ C1.out).mono ?_
  rintro e w2 ⟨v, rfl, ⟨y, rfl⟩, c2, o2⟩
  have C2 := Lib.hid c2
  have O2 := Lib.hid (O1.out.trans o2)
  clear c2 o2
  cases y with
  | false =>
    have C4 := C2
    have O4 := O2
    clear C2 O2 O1 C1 HC
    cases hgd : goodB s with
    | false =>
      have HG := Lib.hid (fun w => by have := tmGood_any s w (by omega); rw [hgd] at this; exact this)
      clear hgd
      go_wp2_with fail
      with_reducible refine (HG.out _).mono ?_
      rintro e v1 ⟨rfl, b1⟩
      have C5 := Lib.hid (C4.out.below b1)
      have O5 := Lib.hid (O4.out.below b1)
      clear b1
      go_wp2_with fail
      refine (drName_any c _ (by omega) _ C5.out).mono ?_
      rintro e v2 ⟨v, rfl, ⟨x2, n2, rfl⟩, c2, o2⟩
      have O6 := Lib.hid (O5.out.trans o2)
      clear c2 o2
      go_wp2_with fail
      go_ret2
      exact ⟨s, one x2, rfl, hs, (by show 1 ≤ 30; decide), O6.out⟩
    | true =>
      have HG := Lib.hid (fun w => by have := tmGood_any s w (by omega); rw [hgd] at this; exact this)
      obtain ⟨t, hg⟩ : ∃ t, good s.data.toList = some t := by
        unfold goodB at hgd
        cases h : good s.data.toList with
        | none => rw [h] at hgd; cases hgd
        | some t => exact ⟨t, rfl⟩
      obtain ⟨es, hL, hE, h300, h60⟩ := good_S hg
      have hF := tmFree_any t hE (by omega)
      rw [← es] at hF
      have hfl : (B t.free).size ≤ 26 := by rw [B_size]; exact srt_lenL (srt_free t) (lets_free t hL)
      obtain ⟨fr, hfr⟩ : ∃ fr, fr = B t.free := ⟨_, rfl⟩
      rw [← hfr] at hF hfl
      have HF := Lib.hid hF
      clear hgd hg es hL hE h300 h60 hF hfr
      go_wp2_with fail
      with_reducible refine (HG.out _).mono ?_
      rintro e v1 ⟨rfl, b1⟩
      have C5 := Lib.hid (C4.out.below b1)
      have O5 := Lib.hid (O4.out.below b1)
      clear b1
      go_wp2_with fail
      refine (one_any c _ 5 (by decide) (by omega) (by decide) _ C5.out).mono ?_
      rintro e v2 ⟨v, rfl, ⟨y, rfl⟩, c2, o2⟩
      have C6 := Lib.hid c2
      have O6 := Lib.hid (O5.out.trans o2)
      clear c2 o2
      cases y with
      | true =>
        go_wp2_with fail
        refine (drName_any c _ (by omega) _ C6.out).mono ?_
        rintro e v3 ⟨v, rfl, ⟨x2, n2, rfl⟩, c2, o2⟩
        have O7 := Lib.hid (O6.out.trans o2)
        clear c2 o2
        go_wp2_with fail
        go_ret2
        exact ⟨s, one x2, rfl, hs, (by show 1 ≤ 30; decide), O7.out⟩
      | false =>
        go_wp2_with fail
        with_reducible refine (HF.out _).mono ?_
        rintro e v3 ⟨rfl, b3⟩
        have C7 := Lib.hid (C6.out.below b3)
        have O7 := Lib.hid (O6.out.below b3)
        clear b3
        by_cases h0 : fr.size = 0
        · have he : fr = ⟨#[]⟩ := by
            apply ByteArray.ext
            apply Array.eq_empty_of_size_eq_zero
            exact h0
          subst he
          go_wp2_with fail
          refine (drName_any c _ (by omega) _ C7.out).mono ?_
          rintro e v4 ⟨v, rfl, ⟨x2, n2, rfl⟩, c2, o2⟩
          have O8 := Lib.hid (O7.out.trans o2)
          clear c2 o2
          go_wp2_with fail
          go_ret2
          exact ⟨s, one x2, rfl, hs, (by show 1 ≤ 30; decide), O8.out⟩
        · have hne : (fr.toList == []) = false := by
            rw [ByteArray.toList_eq]
            cases e : fr.data.toList with
            | nil =>
              refine absurd ?_ h0
              show fr.data.size = 0
              rw [← Array.length_toList, e]; rfl
            | cons a l => rfl
          go_wp2_with fail
          refine (pick_lt c _ fr.size (by omega) (by omega) (by omega) _ C7.out).mono ?_
          rintro e v4 ⟨v, rfl, ⟨r1, l1, rfl⟩, c2, o2⟩
          have O8 := Lib.hid (O7.out.trans o2)
          have hwr : IntKind.i64.wrap ((r1 : Int) + 1) = ((r1 + 1 : Nat) : Int) := by rw [IntKind.wrap_i64] <;> omega
          have hle : r1 + 1 ≤ fr.size := l1
          have hse : (fr.extract r1 (r1 + 1)).size ≤ 30 := by rw [ByteArray.size_extract]; omega
          clear c2 o2
          go_wp2_with fail
          go_region
          all_goals (go_wp2_with fail; go_ret2; exact ⟨s, _, rfl, hs, hse, O8.out.drewN _⟩)
  | true =>
    go_wp2_with fail
    refine (of8_s c _ (by omega) w2 C2.out _ rfl).mono ?_
    rintro e w3 ⟨v, rfl, ⟨s5, rfl, z5⟩, c5, o5⟩
    have C4 := Lib.hid c5
    have O4 := Lib.hid ((O2.out.alloc _).trans o5)
    have hs5 : s5.size ≤ 1000 := z5
    clear c5 o5 z5 C2 O2 O1 C1 HC hs
    cases hgd : goodB s5 with
    | false =>
      have HG := Lib.hid (fun w => by have := tmGood_any s5 w (by omega); rw [hgd] at this; exact this)
      clear hgd
      go_wp2_with fail
      with_reducible refine (HG.out _).mono ?_
      rintro e v1 ⟨rfl, b1⟩
      have C5 := Lib.hid (C4.out.below b1)
      have O5 := Lib.hid (O4.out.below b1)
      clear b1
      go_wp2_with fail
      refine (drName_any c _ (by omega) _ C5.out).mono ?_
      rintro e v2 ⟨v, rfl, ⟨x2, n2, rfl⟩, c2, o2⟩
      have O6 := Lib.hid (O5.out.trans o2)
      clear c2 o2
      go_wp2_with fail
      go_ret2
      exact ⟨s5, one x2, rfl, hs5, (by show 1 ≤ 30; decide), O6.out⟩
    | true =>
      have HG := Lib.hid (fun w => by have := tmGood_any s5 w (by omega); rw [hgd] at this; exact this)
      obtain ⟨t, hg⟩ : ∃ t, good s5.data.toList = some t := by
        unfold goodB at hgd
        cases h : good s5.data.toList with
        | none => rw [h] at hgd; cases hgd
        | some t => exact ⟨t, rfl⟩
      obtain ⟨es, hL, hE, h300, h60⟩ := good_S hg
      have hF := tmFree_any t hE (by omega)
      rw [← es] at hF
      have hfl : (B t.free).size ≤ 26 := by rw [B_size]; exact srt_lenL (srt_free t) (lets_free t hL)
      obtain ⟨fr, hfr⟩ : ∃ fr, fr = B t.free := ⟨_, rfl⟩
      rw [← hfr] at hF hfl
      have HF := Lib.hid hF
      clear hgd hg es hL hE h300 h60 hF hfr
      go_wp2_with fail
      with_reducible refine (HG.out _).mono ?_
      rintro e v1 ⟨rfl, b1⟩
      have C5 := Lib.hid (C4.out.below b1)
      have O5 := Lib.hid (O4.out.below b1)
      clear b1
      go_wp2_with fail
      refine (one_any c _ 5 (by decide) (by omega) (by decide) _ C5.out).mono ?_
      rintro e v2 ⟨v, rfl, ⟨y, rfl⟩, c2, o2⟩
      have C6 := Lib.hid c2
      have O6 := Lib.hid (O5.out.trans o2)
      clear c2 o2
      cases y with
      | true =>
        go_wp2_with fail
        refine (drName_any c _ (by omega) _ C6.out).mono ?_
        rintro e v3 ⟨v, rfl, ⟨x2, n2, rfl⟩, c2, o2⟩
        have O7 := Lib.hid (O6.out.trans o2)
        clear c2 o2
        go_wp2_with fail
        go_ret2
        exact ⟨s5, one x2, rfl, hs5, (by show 1 ≤ 30; decide), O7.out⟩
      | false =>
        go_wp2_with fail
        with_reducible refine (HF.out _).mono ?_
        rintro e v3 ⟨rfl, b3⟩
        have C7 := Lib.hid (C6.out.below b3)
        have O7 := Lib.hid (O6.out.below b3)
        clear b3
        by_cases h0 : fr.size = 0
        · have he : fr = ⟨#[]⟩ := by
            apply ByteArray.ext
            apply Array.eq_empty_of_size_eq_zero
            exact h0
          subst he
          go_wp2_with fail
          refine (drName_any c _ (by omega) _ C7.out).mono ?_
          rintro e v4 ⟨v, rfl, ⟨x2, n2, rfl⟩, c2, o2⟩
          have O8 := Lib.hid (O7.out.trans o2)
          clear c2 o2
          go_wp2_with fail
          go_ret2
          exact ⟨s5, one x2, rfl, hs5, (by show 1 ≤ 30; decide), O8.out⟩
        · have hne : (fr.toList == []) = false := by
            rw [ByteArray.toList_eq]
            cases e : fr.data.toList with
            | nil =>
              refine absurd ?_ h0
              show fr.data.size = 0
              rw [← Array.length_toList, e]; rfl
            | cons a l => rfl
          go_wp2_with fail
          refine (pick_lt c _ fr.size (by omega) (by omega) (by omega) _ C7.out).mono ?_
          rintro e v4 ⟨v, rfl, ⟨r1, l1, rfl⟩, c2, o2⟩
          have O8 := Lib.hid (O7.out.trans o2)
          have hwr : IntKind.i64.wrap ((r1 : Int) + 1) = ((r1 + 1 : Nat) : Int) := by rw [IntKind.wrap_i64] <;> omega
          have hle : r1 + 1 ≤ fr.size := l1
          have hse : (fr.extract r1 (r1 + 1)).size ≤ 30 := by rw [ByteArray.size_extract]; omega
          clear c2 o2
          go_wp2_with fail
          go_region
          all_goals (go_wp2_with fail; go_ret2; exact ⟨s5, _, rfl, hs5, hse, O8.out.drewN _⟩)

theorem dLevelOf_any (a : Option Addr) (n cap : Nat) (w : World) (hA : Arg w a n) : Calls Tryz.prog 5 #[.slice a n cap] w fun e w' => (∃ s x : ByteArray, e = .returned (.tuple #[.string s, .string x]) ∧ s.size ≤ 1000 ∧ x.size ≤ 30) ∧ Below w.heap.size w w' := by
  have HA := Lib.hid hA
  clear hA
  go_enter Tryz.func5, Tryz.ntmps5
  go_wp2_with fail
  refine (drSorted_any w.heap.size 0 (by decide) _ (cur_new HA.out)).mono ?_
  rintro e w1 ⟨s, x, rfl, hs, hx, o1⟩
  have O1 := Lib.hid o1
  clear o1
  go_wp2_with fail
  go_ret2
  exact ⟨⟨s, x, rfl, hs, hx⟩, only_new O1.out⟩
theorem dCountUses_any (a : Option Addr) (n cap : Nat) (w : World) (hA : Arg w a n) : Calls Tryz.prog 12 #[.slice a n cap] w fun e w' => (∃ s x : ByteArray, e = .returned (.tuple #[.string s, .string x]) ∧ s.size ≤ 1000 ∧ x.size ≤ 30) ∧ Below w.heap.size w w' := by
  have HA := Lib.hid (fun w h => dLevelOf_any a n cap w h)
  have H1 := Lib.hid hA
  clear hA
  go_enter Tryz.func12, Tryz.ntmps12
  go_wp2_with fail
  with_reducible refine (HA.out _ H1.out).mono ?_
  rintro e w1 ⟨⟨s, x, rfl, hs, hx⟩, b1⟩
  go_wp2_with fail
  go_ret2
  exact ⟨⟨s, x, rfl, hs, hx⟩, b1⟩
set_option maxHeartbeats 2000000 in
theorem gIn_any (s : ByteArray) (c : UInt8) (hs : s.size ≤ 100000) (w : World) : Calls Tryz.prog 19 #[.string s, .int .u8 ((c.toNat : Nat) : Int)] w fun e w' => e = .returned (.bool (s.data.toList.contains c)) ∧ w = w' := by
  obtain ⟨R, hR⟩ : ∃ R, R = s.data.toList.contains c := ⟨_, rfl⟩
  rw [← hR]
  have HR := Lib.hid hR
  clear hR
  go_enter Tryz.func19, Tryz.ntmps19
  go_wp2_with fail
  go_loopg [5] s.size (fun g s5 wr => ∃ i : Nat, i + g = s.size ∧ s5 = .int .i64 (i : Int) ∧ Hid (∀ d ∈ s.data.toList.take i, (d == c) = false) ∧ w = wr)
  case atStart => exact ⟨0, by omega, rfl, fun d h => by simp at h, rfl⟩
  case round =>
    obtain ⟨i, hi, rfl, hall, rfl⟩ := hrel
    by_cases hlt : i < s.size
    · have hlt' : (i : Int) < (s.size : Int) := by omega
      have hwi : IntKind.i64.wrap ((i : Int) + 1) = ((i + 1 : Nat) : Int) := by rw [IntKind.wrap_i64] <;> omega
      have hil : i < s.data.toList.length := by rw [Array.length_toList]; exact hlt
      have hge : s.data.toList[i]'hil = s[i]'hlt := by simp [ByteArray.getElem_eq_getElem_data]
      have hub : ((((s[i]'hlt).toNat : Nat) : Int) == ((c.toNat : Nat) : Int)) = ((s[i]'hlt) == c) := by
        rw [Bool.eq_iff_iff, beq_iff_eq, beq_iff_eq]
        constructor
        · intro h; exact UInt8.toNat_inj.1 (by omega)
        · intro h; rw [h]
      have HI := Lib.hid (And.intro hi hlt)
      cases he : ((s[i]'hlt) == c) with
      | true =>
        have hres : R = true := by
          rw [HR.out, List.contains_iff_mem]
          have := List.getElem_mem hil
          rw [hge, eq_of_beq he] at this
          exact this
        rw [he] at hub
        clear hge hi HR
        subst hres
        go_wp2_with fail
        go_ret
        exact ⟨rfl, rfl⟩
      | false =>
        have hn : Hid (∀ d ∈ s.data.toList.take (i + 1), (d == c) = false) := by
          intro d hd
          rw [List.take_succ_eq_append_getElem hil, List.mem_append, List.mem_singleton] at hd
          rcases hd with hd | rfl
          · exact hall.out d hd
          · rw [hge]; exact he
        rw [he] at hub
        clear hge hi
        go_wp2_with fail
        go_roundg (gk - 1)
        case rel => exact ⟨i + 1, by have := HI.out; omega, rfl, hn, rfl⟩
        case measure => have := HI.out; omega
    · have hin : i = s.size := by omega
      have hres : R = false := by
        rw [HR.out]
        cases h : s.data.toList.contains c with
        | false => rfl
        | true =>
          rw [List.contains_iff_mem] at h
          have := hall.out c (by rw [List.take_of_length_le (by rw [hin, Array.length_toList]; exact Nat.le_refl _)]; exact h)
          simp at this
      have hlt' : ¬ (i : Int) < (s.size : Int) := by omega
      clear hin hi hlt HR
      subst hres
      go_wp2_with fail
      go_ret
      exact ⟨rfl, rfl⟩
end Go.Proofs.YtlhmjcfnfefliaaGreat.T1
