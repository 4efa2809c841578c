/- What both sides answer where uses of a name are asked. MADE BY gen_Qk.py. -/
import Derived.Test.YtdfelpahacmdpabQj
namespace Go.Proofs.Ytdfelpahacmdpab.T1
open Go.RowKit
set_option maxRecDepth 100000
set_option linter.unusedVariables false
set_option linter.unusedSimpArgs false

theorem any_cnt (f : Tm → Bool) (l : List Tm) : ((((l.countP f : Nat)) : Int) == 0) = !(l.any f) := by
  induction l with
  | nil => rfl
  | cons x xs ih =>
    rw [List.countP_cons, List.any_cons]
    cases f x
    · simpa using ih
    · simp; omega
theorem uses_cases (s k : ByteArray) (hm : s.size ≤ 9223372036854775807) :
    ((∀ w, Calls Try.prog 15 #[.string s, .string k] w fun e w' => e = .returned (.tuple #[.int .i64 0, .bool false]) ∧ Below w.heap.size w w') ∧ (∀ w, Calls Try.prog 17 #[.string s, .string k] w fun e w' => e = .returned (.tuple #[.agg #[.int .i64 0, .int .i64 0, .int .i64 0, .bool false, .bool false], .bool false]) ∧ Below w.heap.size w w')) ∨
    (∃ (t : Tm) (c : UInt8) (n : Int), (∃ hk : 0 < k.size, ((k[0]'hk).toNat : Int) = (c.toNat : Int)) ∧ (∀ w, Calls Try.prog 15 #[.string s, .string k] w fun e w' => e = .returned (.tuple #[.int .i64 n, .bool true]) ∧ Below w.heap.size w w') ∧
      (∀ w, Calls Try.prog 16 #[.string s, .int .u8 (c.toNat : Int)] w fun e w' => ∃ g, e = .returned (.slice (some ⟨g, 0, none⟩) 4 4) ∧ w.heap.size ≤ g ∧ w'.heap[g]? = some (.cells #[.int .i64 (((t.vis c).countP (us0 c) : Nat) : Int), .int .i64 (((t.vis c).countP (us1 c) : Nat) : Int), .int .i64 (((t.vis c).countP (us2 c) : Nat) : Int), .int .i64 (((t.vis c).countP (us3 c) : Nat) : Int)] 3 (0, 0)) ∧ Below w.heap.size w w') ∧ (∀ w, Calls Try.prog 18 #[.string s, .int .u8 (c.toNat : Int)] w fun e w' => e = .returned (.bool ((t.vis c).any (us4 c))) ∧ Below w.heap.size w w') ∧ (∀ w, Calls Try.prog 17 #[.string s, .string k] w fun e w' => e = .returned (.tuple #[.agg #[.int .i64 (((t.vis c).countP (us0 c) : Nat) : Int), .int .i64 (((t.vis c).countP (us1 c) : Nat) : Int), .int .i64 (((t.vis c).countP (us2 c) : Nat) : Int), .bool ((t.vis c).any (us3 c)), .bool ((t.vis c).any (us4 c))], .bool true]) ∧ Below w.heap.size w w')) := by
  cases hg : good s.data.toList with
  | none =>
    have g0 := fun w => tmGood_none hg w hm
    have p0 := fun w => parse_none hg w hm
    rcases one_or2 k with ⟨c, hc, ek, o1, o2⟩ | ⟨hn, o1, o2⟩
    · exact .inl ⟨soPlace_bad s k g0, ru_a s k 0 .nilIface c 0 true (c.toNat : Int) 0 0 false false p0 o2⟩
    · exact .inl ⟨soPlace_bad s k g0, ru_a s k 0 .nilIface 0 0 false 0 0 0 false false p0 o2⟩
  | some t =>
    obtain ⟨es, hL, hE, h300, h60⟩ := good_S hg
    have p1 := fun w => parse_some hg w hm
    have pl := soPlace_good s t hg hm k
    rcases one_or2 k with ⟨c, hc, ek, o1, o2⟩ | ⟨hn, o1, o2⟩
    · have hf := freeNames_any t hL
      have hh := has_freeS t hL c hc
      by_cases hmem : c ∈ t.free
      · refine .inr ⟨t, c, (idx6 t.free 0 c : Int), ?_, ?_, ?_, ?_, ?_⟩
        · subst ek
          have h0 : 0 < (B [c]).size := by rw [B_size]; simp
          exact ⟨h0, by rw [show (B [c])[0]'h0 = c from byte_of (B_list [c]) 0 h0 (by simp)]⟩
        · subst ek
          rw [nameOf_yes hc hmem] at pl
          exact pl
        · have := soUses_any c t hE (by omega) (by omega)
          rw [← es] at this; exact this
        · have := soRepeated_any c t hE (by omega)
          rw [← es] at this; exact this
        · rw [decide_eq_true hmem] at hh
          exact ru_d s k _ _ c _ true _ _ _ _ _ p1 o2 hf hh (usesOf_any t hL h60 c hc)
      · rw [decide_eq_false hmem] at hh
        refine .inl ⟨?_, ru_c s k _ _ c _ true 0 0 0 false false p1 o2 hf hh⟩
        subst ek
        rw [nameOf_out hmem] at pl
        exact pl
    · refine .inl ⟨?_, ru_b s k _ _ 0 0 true 0 0 0 false false p1 o2⟩
      rw [nameOf_no hn] at pl
      exact pl
theorem bothUs (s k : ByteArray) (hm : s.size ≤ 9223372036854775807) : ∃ (X : ByteArray) (b : Bool), (∀ w, Calls Try.prog 7 #[.string s, .string k] w fun e w' => e = .returned (.tuple #[.string X, .bool b]) ∧ Below w.heap.size w w') ∧ (∀ w, Calls Try.prog 8 #[.string s, .string k] w fun e w' => e = .returned (.tuple #[.string X, .bool b]) ∧ Below w.heap.size w w') := by
  rcases uses_cases s k hm with ⟨h1, h2⟩ | ⟨t, c, n, ⟨hk, hc⟩, h1, h2, h3, h4⟩
  · exact ⟨ut false false, false, us_s0 s k 0 h1, us_i s k 0 0 0 false false false false false (by simp) (by simp) h2⟩
  · exact ⟨_, _, us_s1 s k c hk hc n _ _ _ _ (decide (0 < (((t.vis c).countP (us0 c) : Nat) : Int))) (decide (0 < (((t.vis c).countP (us1 c) : Nat) : Int))) decide_eq_true_iff decide_eq_true_iff h1 h2, us_i s k _ _ _ _ _ true _ _ decide_eq_true_iff decide_eq_true_iff h4⟩
theorem bothCu (s k : ByteArray) (hm : s.size ≤ 9223372036854775807) : ∃ (x0 x1 x2 : Int) (b : Bool), (∀ w, Calls Try.prog 9 #[.string s, .string k] w fun e w' => e = .returned (.tuple #[.int .i64 x0, .int .i64 x1, .int .i64 x2, .bool b]) ∧ Below w.heap.size w w') ∧ (∀ w, Calls Try.prog 10 #[.string s, .string k] w fun e w' => e = .returned (.tuple #[.int .i64 x0, .int .i64 x1, .int .i64 x2, .bool b]) ∧ Below w.heap.size w w') := by
  rcases uses_cases s k hm with ⟨h1, h2⟩ | ⟨t, c, n, ⟨hk, hc⟩, h1, h2, h3, h4⟩
  · exact ⟨0, 0, 0, false, cu_s0 s k 0 h1, cu_i s k 0 0 0 false false false h2⟩
  · exact ⟨_, _, _, true, cu_s1 s k c hk hc n _ _ _ _ h1 h2, cu_i s k _ _ _ _ _ true h4⟩
theorem bothIl (s k : ByteArray) (hm : s.size ≤ 9223372036854775807) : ∃ (p b : Bool), (∀ w, Calls Try.prog 11 #[.string s, .string k] w fun e w' => e = .returned (.tuple #[.bool p, .bool b]) ∧ Below w.heap.size w w') ∧ (∀ w, Calls Try.prog 12 #[.string s, .string k] w fun e w' => e = .returned (.tuple #[.bool p, .bool b]) ∧ Below w.heap.size w w') := by
  rcases uses_cases s k hm with ⟨h1, h2⟩ | ⟨t, c, n, ⟨hk, hc⟩, h1, h2, h3, h4⟩
  · exact ⟨false, false, il_s0 s k 0 h1, il_i s k 0 0 0 false false false false false true (by decide) (by decide) (by decide) h2⟩
  · exact ⟨_, true, il_s1 s k c hk hc n _ _ _ _ _ _ _ _ _ rfl rfl rfl (any_cnt (us3 c) (t.vis c)) h1 h2 h3, il_i s k _ _ _ _ _ true _ _ _ rfl rfl rfl h4⟩
end Go.Proofs.Ytdfelpahacmdpab.T1
