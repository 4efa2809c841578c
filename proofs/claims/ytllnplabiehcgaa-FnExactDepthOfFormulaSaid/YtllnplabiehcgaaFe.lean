/- Labels, by their letters, on both sides; where a formula ends, on the specification's side. -/
import Derived.Test.YtllnplabiehcgaaFm
import Derived.Test.YtllnplabiehcgaaLab
import Derived.Deep.LoopGhost
import Derived.LoopTactic
import Derived.Lib.Hide
namespace Go.Proofs.Ytllnplabiehcgaa.T1
open Go.RowKit
set_option maxRecDepth 100000
set_option linter.unusedVariables false
set_option linter.unusedSimpArgs false

/-- What a label reads as, in the program. -/
def actV : List UInt8 → Value
  | [a, m, b] => if m = 33 then .iface 61 (.agg #[.int .u8 (a.toNat : Int), .int .u8 (b.toNat : Int)]) else .iface 63 (.agg #[.int .u8 (a.toNat : Int), .int .u8 (b.toNat : Int)])
  | [a, _, _, b] => .iface 62 (.agg #[.int .u8 (a.toNat : Int), .int .u8 (b.toNat : Int)])
  | _ => .iface 55 (.agg #[])
def IsIf2 (z : Value) : Prop := z = .nilIface ∨ ∃ t v, z = .iface t v
theorem actV_if (l : List UInt8) : ∃ t v, actV l = .iface t v := by
  unfold actV; split
  · split <;> exact ⟨_, _, rfl⟩
  · exact ⟨_, _, rfl⟩
  · exact ⟨_, _, rfl⟩
namespace Lab
theorem size_l {s : ByteArray} {l : List UInt8} (h : s.data.toList = l) : s.size = l.length := by subst h; simp
theorem one_of (k : ByteArray) (c : UInt8) (hk : k.data.toList = [c]) : (∀ w, Calls Try.prog 20 #[.string k] w fun e w' => e = .returned (.bool (nmL c)) ∧ Below w.heap.size w w') ∧ ∃ a : Int, (nmL c = true → a = (c.toNat : Int)) ∧ ∀ w, Calls Try.prog 22 #[.string k] w fun e w' => e = .returned (.tuple #[.int .u8 a, .bool (nmL c)]) ∧ Below w.heap.size w w' := by
  have h1 : k.size = 1 := by rw [size_l hk]; rfl
  have h0 : 0 < k.size := by omega
  have hq : ((k.size : Int) == 1) = true := by rw [h1]; rfl
  have hq2 : ((k.size : Int) != 1) = false := by rw [h1]; rfl
  have hg : k[0]'h0 = c := by have := get_list' k 0 h0; rw [← this]; simp [hk]
  have hL := isLetter_any (k[0]'h0)
  cases hc : nmL c with
  | true =>
    rw [hg, hc] at hL
    have h2 := (nmL_iff' _).1 hc
    have r := rn_yes k h0 hq2 (by rw [hg]; exact hL)
    rw [hg] at r
    exact ⟨one_yes k h0 hq (by rw [hg]; omega) (by rw [hg]; omega), _, fun _ => rfl, r⟩
  | false =>
    rw [hg, hc] at hL
    refine ⟨?_, 0, fun h => (by cases h), rn_no k h0 hq2 (by rw [hg]; exact hL)⟩
    rcases nm_lo hc with h | h
    · exact one_lo k h0 hq (by rw [hg]; exact h)
    · exact one_hi k h0 hq (by rw [hg]; exact h)
theorem ext_d (s : ByteArray) (i j : Nat) : (s.extract i j).data.toList = (s.data.toList.drop i).take (j - i) := by rw [← ByteArray.toList_eq]; exact ext_l s i j
theorem beq_ne {α : Type} [BEq α] [LawfulBEq α] {a b : α} (h : a ≠ b) : (a == b) = false := by rw [beq_eq_false_iff_ne]; exact h
theorem int_ne {a b : Int} (h : a ≠ b) : (a == b) = false := by rw [beq_eq_false_iff_ne]; exact h
theorem u8_beq (x : UInt8) (k : Nat) (c : UInt8) (hk : c.toNat = k) : ((x.toNat : Int) == (k : Int)) = (x == c) := by
  by_cases h : x = c
  · subst h; rw [hk]; simp
  · have h2 : ¬ (x.toNat : Int) = (k : Int) := fun e => h (UInt8.toNat_inj.1 (by omega))
    rw [int_ne h2, beq_ne h]
/-- Is a text a label? On the specification's side. -/
theorem sl_any (s : ByteArray) (hm : s.size ≤ 9223372036854775807) (w : World) : Calls Try.prog 16 #[.string s] w fun e w' => e = .returned (.bool (labB s.data.toList)) ∧ Below w.heap.size w w' := by
  have ht : s.toList = s.data.toList := ByteArray.toList_eq s
  obtain ⟨l, hl⟩ : ∃ l, s.data.toList = l := ⟨_, rfl⟩
  have hz := size_l hl
  rw [hl] at ht
  rw [hl]
  match l, hl, hz, ht with
  | [], hl, hz, ht => exact sl_other s hm (by rw [ht]; rfl) (by rw [hz]; rfl) (by rw [hz]; rfl) w
  | [x], hl, hz, ht =>
    show Calls _ _ _ w fun e w' => e = .returned (.bool (x == 126)) ∧ _
    cases hx : (x == 126) with
    | true => exact sl_tau s (by rw [ht]; rw [beq_iff_eq] at hx ⊢; rw [hx]) w
    | false => exact sl_other s hm (by rw [ht]; rw [beq_eq_false_iff_ne] at hx ⊢; intro e; cases e; exact hx rfl) (by rw [hz]; rfl) (by rw [hz]; rfl) w
  | [x, y], hl, hz, ht => exact sl_other s hm (by rw [ht]; exact beq_ne (by simp)) (by rw [hz]; rfl) (by rw [hz]; rfl) w
  | [a, m, b], hl, hz, ht =>
    have hs : s.size = 3 := hz
    have h1 : 1 < s.size := by omega
    have g1 : s[1]'h1 = m := by have := get_list' s 1 h1; rw [← this]; simp [hl]
    have ne : (s.toList == [126]) = false := by rw [ht]; exact beq_ne (by simp)
    have e0 : (s.extract 0 1).data.toList = [a] := by rw [ext_d, hl]; rfl
    have e2 : (s.extract 2 s.size).data.toList = [b] := by rw [ext_d, hl, hs]; rfl
    have o0 := (one_of _ _ e0).1
    have o2 := (one_of _ _ e2).1
    have q33 := u8_beq (s[1]'h1) 33 33 rfl
    have q63 := u8_beq (s[1]'h1) 63 63 rfl
    rw [g1] at q33 q63
    show Calls _ _ _ w fun e w' => e = .returned (.bool ((m == 33 || m == 63) && nmL a && nmL b)) ∧ _
    cases c33 : (m == 33) with
    | true =>
      rw [c33] at q33
      cases ca : nmL a with
      | true => rw [ca] at o0; simp only [Bool.true_or, Bool.true_and]; exact sl_3ot s _ h1 hs ne (by rw [g1]; exact q33) o0 o2 w
      | false => rw [ca] at o0; simp only [Bool.and_false, Bool.false_and]; exact sl_3of s h1 hs ne (by rw [g1]; exact q33) o0 w
    | false =>
      rw [c33] at q33
      cases c63 : (m == 63) with
      | true =>
        rw [c63] at q63
        cases ca : nmL a with
        | true => rw [ca] at o0; simp only [Bool.or_true, Bool.true_and]; exact sl_3it s _ h1 hs ne (by rw [g1]; exact q33) (by rw [g1]; exact q63) o0 o2 w
        | false => rw [ca] at o0; simp only [Bool.and_false, Bool.false_and]; exact sl_3if s h1 hs ne (by rw [g1]; exact q33) (by rw [g1]; exact q63) o0 w
      | false =>
        rw [c63] at q63
        simp only [Bool.or_false, Bool.false_and]
        exact sl_3n s h1 hs ne (by rw [g1]; exact q33) (by rw [g1]; exact q63) w
  | [a, m, h, b], hl, hz, ht =>
    have hs : s.size = 4 := hz
    have ne : (s.toList == [126]) = false := by rw [ht]; exact beq_ne (by simp)
    have e0 : (s.extract 0 1).data.toList = [a] := by rw [ext_d, hl]; rfl
    have e2 : (s.extract 3 s.size).data.toList = [b] := by rw [ext_d, hl, hs]; rfl
    have eM : (s.extract 1 3).toList = [m, h] := by rw [ext_l, hl]; rfl
    have o0 := (one_of _ _ e0).1
    have o2 := (one_of _ _ e2).1
    show Calls _ _ _ w fun e w' => e = .returned (.bool (m == 33 && h == 35 && nmL a && nmL b)) ∧ _
    have hM : ((s.extract 1 3).toList == [33, 35]) = (m == 33 && h == 35) := by
      rw [eM]
      rw [Bool.eq_iff_iff]; simp
    cases cM : (m == 33 && h == 35) with
    | true =>
      rw [cM] at hM
      cases ca : nmL a with
      | true => rw [ca] at o0; simp only [Bool.true_and]; exact sl_4t s _ hs ne hM o0 o2 w
      | false => rw [ca] at o0; simp only [Bool.and_false, Bool.false_and]; exact sl_4f s hs ne hM o0 w
    | false =>
      rw [cM] at hM
      simp only [Bool.false_and]
      exact sl_4n s hs ne hM w
  | a :: b :: c :: d :: f :: l, hl, hz, ht =>
    exact sl_other s hm (by rw [ht]; exact beq_ne (by simp)) (int_ne (by rw [hz]; simp only [List.length_cons]; omega)) (int_ne (by rw [hz]; simp only [List.length_cons]; omega)) w
/-- What a text reads as, in the program: a label's action, or nothing. -/
theorem ra_any (s : ByteArray) (hm : s.size ≤ 9223372036854775807) (w : World) : Calls Try.prog 19 #[.string s] w fun e w' => e = .returned (.tuple #[if labB s.data.toList then actV s.data.toList else .nilIface, .bool (labB s.data.toList)]) ∧ Below w.heap.size w w' := by
  have ht : s.toList = s.data.toList := ByteArray.toList_eq s
  obtain ⟨l, hl⟩ : ∃ l, s.data.toList = l := ⟨_, rfl⟩
  have hz := size_l hl
  rw [hl] at ht
  rw [hl]
  by_cases h3 : s.size < 3
  · match l, hl, hz, ht with
    | [], hl, hz, ht => exact ra_short s (by rw [ht]; rfl) h3 w
    | [x], hl, hz, ht =>
      show Calls _ _ _ w fun e w' => e = .returned (.tuple #[if (x == 126) then actV [x] else .nilIface, .bool (x == 126)]) ∧ _
      cases hx : (x == 126) with
      | true => exact ra_tau s (by rw [ht]; rw [beq_iff_eq] at hx ⊢; rw [hx]) w
      | false => exact ra_short s (by rw [ht]; rw [beq_eq_false_iff_ne] at hx ⊢; intro e; cases e; exact hx rfl) h3 w
    | [x, y], hl, hz, ht => exact ra_short s (by rw [ht]; exact beq_ne (by simp)) h3 w
    | a :: b :: c :: l, hl, hz, ht => exfalso; rw [hz] at h3; simp only [List.length_cons] at h3; omega
  · have h3' : 3 ≤ s.size := by omega
    have ne : (s.toList == [126]) = false := by
      rw [ht]; refine beq_ne ?_; intro e; rw [e] at hz; simp only [List.length_cons, List.length_nil] at hz; omega
    have eM : (s.extract 1 (s.size - 1)).toList = (l.drop 1).take (s.size - 2) := by rw [ext_l, hl]; congr 1
    have e0 : ∃ a r, l = a :: r ∧ (s.extract 0 1).data.toList = [a] := by
      match l, hz with
      | [], hz => simp only [List.length_cons, List.length_nil] at hz; omega
      | a :: r, hz => exact ⟨a, r, rfl, by rw [ext_d, hl]; rfl⟩
    obtain ⟨a, r, hlr, e0⟩ := e0
    have e2 : ∃ b, (s.extract (s.size - 1) s.size).data.toList = [b] ∧ l.drop (s.size - 1) = [b] := by
      have : (l.drop (s.size - 1)).length = 1 := by rw [List.length_drop, ← hz]; omega
      match hd : l.drop (s.size - 1), this with
      | [b], _ => exact ⟨b, by rw [ext_d, hl, hd]; rw [show s.size - (s.size - 1) = 1 by omega]; rfl, rfl⟩
    obtain ⟨b, e2, hlb⟩ := e2
    obtain ⟨-, a1, ha1, r1⟩ := one_of _ _ e0
    obtain ⟨-, a2, ha2, r2⟩ := one_of _ _ e2
    have no : labB l = false → (∀ w, Calls Try.prog 19 #[.string s] w fun e w' => e = .returned (.tuple #[.nilIface, .bool false]) ∧ Below w.heap.size w w') → Calls Try.prog 19 #[.string s] w fun e w' => e = .returned (.tuple #[if labB l then actV l else .nilIface, .bool (labB l)]) ∧ Below w.heap.size w w' := fun h k => by rw [h]; exact k w
    have lab3 : ∀ a m b, labB [a, m, b] = ((m == 33 || m == 63) && nmL a && nmL b) := fun _ _ _ => rfl
    have lab4 : ∀ a m h b, labB [a, m, h, b] = (m == 33 && h == 35 && nmL a && nmL b) := fun _ _ _ _ => rfl
    cases ca : nmL a with
    | false =>
      rw [ca] at r1
      refine no ?_ (ra_n1 s _ _ _ hm ne h3' r1 r2)
      match l, hz, hlr with
      | [_, m, b'], _, hlr => cases hlr; rw [lab3, ca]; simp
      | [_, m, h, b'], _, hlr => cases hlr; rw [lab4, ca]; simp
      | [], hz, _ => simp only [List.length_cons, List.length_nil] at hz; omega
      | [_], hz, _ => simp only [List.length_cons, List.length_nil] at hz; omega
      | [_, _], hz, _ => simp only [List.length_cons, List.length_nil] at hz; omega
      | _ :: _ :: _ :: _ :: _ :: _, _, _ => rfl
    | true =>
      rw [ca] at r1
      obtain rfl := ha1 ca
      cases cb : nmL b with
      | false =>
        rw [cb] at r2
        refine no ?_ (ra_n2 s _ _ hm ne h3' r1 r2)
        match l, hz, hlr, hlb with
        | [_, m, b'], hz, hlr, hlb => rw [hz] at hlb; simp at hlb; subst hlb; rw [lab3, cb]; simp
        | [_, m, h, b'], hz, hlr, hlb => rw [hz] at hlb; simp at hlb; subst hlb; rw [lab4, cb]; simp
        | [], hz, _, _ => simp only [List.length_cons, List.length_nil] at hz; omega
        | [_], hz, _, _ => simp only [List.length_cons, List.length_nil] at hz; omega
        | [_, _], hz, _, _ => simp only [List.length_cons, List.length_nil] at hz; omega
        | _ :: _ :: _ :: _ :: _ :: _, _, _, _ => rfl
      | true =>
        rw [cb] at r2
        obtain rfl := ha2 cb
        match l, hz, hlr, hlb, eM with
        | [], hz, _, _, _ => simp only [List.length_cons, List.length_nil] at hz; omega
        | [_], hz, _, _, _ => simp only [List.length_cons, List.length_nil] at hz; omega
        | [_, _], hz, _, _, _ => simp only [List.length_cons, List.length_nil] at hz; omega
        | [_, m, b'], hz, hlr, hlb, eM =>
          rw [hz] at hlb eM; simp at hlb eM; subst hlb; cases hlr
          have eM' : (s.extract 1 (s.size - 1)).toList = [m] := by rw [hz]; exact eM
          cases c33 : (m == 33) with
          | true =>
            have : labB [a, m, b'] = true := by rw [lab3, ca, cb, c33]; rfl
            rw [this]
            have hm33 : m = 33 := by simpa using c33
            have := ra_out s (a.toNat : Int) (b'.toNat : Int) hm ne h3' (by rw [eM', hm33]; rfl) r1 r2 w
            rw [if_pos rfl]; simp only [actV, if_pos hm33]; exact this
          | false =>
            have hm33 : ¬ m = 33 := by simpa using c33
            cases c63 : (m == 63) with
            | true =>
              have : labB [a, m, b'] = true := by rw [lab3, ca, cb, c63]; simp
              rw [this]
              have hm63 : m = 63 := by simpa using c63
              have := ra_inp s (a.toNat : Int) (b'.toNat : Int) hm ne h3' (by rw [eM']; exact beq_ne (by simp [hm33])) (by rw [eM']; exact beq_ne (by simp)) (by rw [eM', hm63]; rfl) r1 r2 w
              rw [if_pos rfl]; simp only [actV, if_neg hm33]; exact this
            | false =>
              have hm63 : ¬ m = 63 := by simpa using c63
              exact no (by rw [lab3, c33, c63]; rfl) (ra_non s _ _ hm ne h3' (by rw [eM']; exact beq_ne (by simp [hm33])) (by rw [eM']; exact beq_ne (by simp)) (by rw [eM']; exact beq_ne (by simp [hm63])) r1 r2)
        | [_, m, h, b'], hz, hlr, hlb, eM =>
          rw [hz] at hlb eM; simp at hlb eM; subst hlb; cases hlr
          have eM' : (s.extract 1 (s.size - 1)).toList = [m, h] := by rw [hz]; exact eM
          have n33 : ((s.extract 1 (s.size - 1)).toList == [33]) = false := by rw [eM']; exact beq_ne (by simp)
          have n63 : ((s.extract 1 (s.size - 1)).toList == [63]) = false := by rw [eM']; exact beq_ne (by simp)
          cases cM : (m == 33 && h == 35) with
          | true =>
            have : labB [a, m, h, b'] = true := by rw [lab4, ca, cb, cM]; rfl
            rw [this]
            simp only [Bool.and_eq_true, beq_iff_eq] at cM
            have := ra_own s (a.toNat : Int) (b'.toNat : Int) hm ne h3' n33 (by rw [eM', cM.1, cM.2]; rfl) r1 r2 w
            rw [if_pos rfl]; exact this
          | false =>
            refine no (by rw [lab4, cM]; rfl) (ra_non s _ _ hm ne h3' n33 ?_ n63 r1 r2)
            rw [eM']; refine beq_ne ?_; intro e; simp only [List.cons.injEq, and_true] at e
            rw [e.1, e.2] at cM; cases cM
        | x1 :: x2 :: x3 :: x4 :: x5 :: x6, hz, _, _, eM =>
          have hlen : (s.extract 1 (s.size - 1)).toList.length = s.size - 2 := by rw [eM, List.length_take, List.length_drop, ← hz]; omega
          have h5 : 5 ≤ s.size := by rw [hz]; simp only [List.length_cons]; omega
          have nb : ∀ k : List UInt8, k.length < 3 → ((s.extract 1 (s.size - 1)).toList == k) = false := fun k hk => by
            refine beq_ne ?_; intro hh; rw [hh] at hlen; omega
          exact no rfl (ra_non s _ _ hm ne h3' (nb _ (by simp)) (nb _ (by simp)) (nb _ (by simp)) r1 r2)
end Lab
end Go.Proofs.Ytllnplabiehcgaa.T1
