/- The reader: what is written before the part of a sign with one part. -/
import Derived.Test.YtabllmoeehjknaaImplA
import Derived.Test.YtabllmoeehjknaaEnc
namespace Go.Proofs.Ytabllmoeehjknaa.T1
open Go.RowKit
set_option maxRecDepth 100000

theorem tk_drop {s : ByteArray} {a : Nat} (k : UInt8) {n : Int} (hk : (k.toNat : Int) = n) (h : tk s a n = true) : s.data.toList.drop a = k :: s.data.toList.drop (a + 1) ∧ a < s.size := by
  have hb : a < s.size := by
    rcases Nat.lt_or_ge a s.size with h' | h'
    · exact h'
    · rw [tk_ge h'] at h; cases h
  rw [tk_lt hb] at h
  have : s[a] = k := by rw [← UInt8.toNat_inj]; simp at h; omega
  rw [drop_at s a hb, this]
  exact ⟨rfl, hb⟩
theorem tk_not {s : ByteArray} {a : Nat} (k : UInt8) {n : Int} (hk : (k.toNat : Int) = n) (h : tk s a n = false) (l' : List UInt8) : s.data.toList.drop a ≠ k :: l' := by
  intro e
  obtain ⟨hb, e1, _⟩ := drop_cons_lt e
  rw [tk_lt hb, e1] at h
  simp [hk] at h
theorem nm_drop {s : ByteArray} {a : Nat} (h : nmT s a = true) : s.data.toList.drop a = nmV s a :: s.data.toList.drop (a + 1) ∧ a < s.size ∧ nmL (nmV s a) = true := by
  have hb : a < s.size := by
    rcases Nat.lt_or_ge a s.size with h' | h'
    · exact h'
    · rw [nmT_ge h'] at h; cases h
  rw [nmV_lt hb h, drop_at s a hb]
  exact ⟨rfl, hb, by rw [← nmT_lt hb]; exact h⟩
theorem nm_not {s : ByteArray} {a : Nat} (h : nmT s a = false) {c : UInt8} {l' : List UInt8} (e : s.data.toList.drop a = c :: l') : nmL c = false := by
  obtain ⟨hb, e1, _⟩ := drop_cons_lt e
  rw [nmT_lt hb, e1] at h
  exact h
theorem tkN_yes {s : ByteArray} {a : Nat} {n : Int} (h : tk s a n = true) : tkN s a n = a + 1 := by rw [tkN, if_pos h]
theorem tkN_no {s : ByteArray} {a : Nat} {n : Int} (h : tk s a n = false) : tkN s a n = a := by rw [tkN, h]; rfl
theorem nmN_yes {s : ByteArray} {a : Nat} (h : nmT s a = true) : nmN s a = a + 1 := by rw [nmN, if_pos h]
theorem nmN_no {s : ByteArray} {a : Nat} (h : nmT s a = false) : nmN s a = a := by rw [nmN, h]; rfl
theorem tkN_le {s : ByteArray} {a : Nat} (n : Int) (h : a ≤ s.size) : a ≤ tkN s a n ∧ tkN s a n ≤ s.size := by
  cases h1 : tk s a n with
  | false => rw [tkN_no h1]; omega
  | true =>
    rw [tkN_yes h1]
    rcases Nat.lt_or_ge a s.size with h' | h'
    · omega
    · rw [tk_ge h'] at h1; cases h1
theorem nmN_le {s : ByteArray} {a : Nat} (h : a ≤ s.size) : a ≤ nmN s a ∧ nmN s a ≤ s.size := by
  cases h1 : nmT s a with
  | false => rw [nmN_no h1]; omega
  | true => rw [nmN_yes h1]; have := (nm_drop h1).2.1; omega

theorem Eh_no {s : ByteArray} {a : Nat} (h48 : tk s a 48 = false) (h42 : tk s a 42 = false) (h126 : tk s a 126 = false) (h35 : tk s a 35 = false) (h91 : tk s a 91 = false) (h40 : tk s a 40 = false)
    (hno : nmT s a = true → (tk s (a + 1) 33 = true ∨ tk s (a + 1) 63 = true) → nmT s (a + 2) = true → tk s (a + 3) 46 = true → False) : E nmL (s.data.toList.drop a) = none := by
  rcases Nat.lt_or_ge a s.size with hb | hb
  · rw [drop_at s a hb]
    have k : ∀ (k : UInt8) (n : Int), (k.toNat : Int) = n → tk s a n = false → s[a] ≠ k := fun k n hk h e => tk_not k hk h _ (by rw [drop_at s a hb, e])
    refine E_other nmL_nm (k _ _ rfl h48) (k _ _ rfl h42) (k _ _ rfl h126) (k _ _ rfl h35) (k _ _ rfl h91) (k _ _ rfl h40) fun m x l' e hm hc => ?_
    obtain ⟨b1, e1, e⟩ := drop_cons_lt e
    obtain ⟨b2, e2, e⟩ := drop_cons_lt e
    obtain ⟨b3, e3, e⟩ := drop_cons_lt e
    cases hx : nmL x with
    | false => rfl
    | true =>
      refine (hno (by rw [nmT_lt hb]; exact hc) ?_ (by rw [nmT_lt b2, e2]; exact hx) (by rw [tk_lt b3, e3]; rfl)).elim
      rcases hm with rfl | rfl
      · exact .inl (by rw [tk_lt b1, e1]; rfl)
      · exact .inr (by rw [tk_lt b1, e1]; rfl)
  · rw [List.drop_of_length_le (by simpa using hb)]; exact E_mt nmL_nm
theorem Eh_snd {s : ByteArray} {a : Nat} (h0 : nmT s a = true) (h1 : tk s (a + 1) 33 = true) (h2 : nmT s (a + 2) = true) (h3 : tk s (a + 3) 46 = true) :
    E nmL (s.data.toList.drop a) = (E nmL (s.data.toList.drop (a + 4))).map fun x => ((Hd.snd (nmV s a) (nmV s (a + 2))).put x.1, x.2) := by
  rw [(nm_drop h0).1, (tk_drop 33 rfl h1).1, (nm_drop h2).1, (tk_drop 46 rfl h3).1, E_snd nmL_nm (nm_drop h0).2.2 (nm_drop h2).2.2]; rfl
theorem Eh_rcv {s : ByteArray} {a : Nat} (h0 : nmT s a = true) (h1 : tk s (a + 1) 63 = true) (h2 : nmT s (a + 2) = true) (h3 : tk s (a + 3) 46 = true) :
    E nmL (s.data.toList.drop a) = (E nmL (s.data.toList.drop (a + 4))).map fun x => ((Hd.rcv (nmV s a) (nmV s (a + 2))).put x.1, x.2) := by
  rw [(nm_drop h0).1, (tk_drop 63 rfl h1).1, (nm_drop h2).1, (tk_drop 46 rfl h3).1, E_rcv nmL_nm (nm_drop h0).2.2 (nm_drop h2).2.2]; rfl

end Go.Proofs.Ytabllmoeehjknaa.T1
