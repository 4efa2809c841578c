/- The reader: one byte taken, in lists. -/
import Derived.Test.YtllnplabiehcgaaImplA
namespace Go.Proofs.Ytllnplabiehcgaa.T1
open Go.RowKit
set_option maxRecDepth 100000

theorem tk_drop {s : ByteArray} {a : Nat} (k : UInt8) {n : Int} (hk : (k.toNat : Int) = n) (h : tk s a n = true) : s.data.toList.drop a = k :: s.data.toList.drop (a + 1) ∧ a < s.size := by
  have hb : a < s.size := by
    rcases Nat.lt_or_ge a s.size with h' | h'
    · exact h'
    · rw [tk_ge h'] at h; cases h
  rw [tk_lt hb] at h
  have : s[a] = k := by rw [← UInt8.toNat_inj]; simp at h; omega
  rw [drop_at s a hb, this]
  exact ⟨rfl, hb⟩
theorem tk_not {s : ByteArray} {a : Nat} (k : UInt8) {n : Int} (hk : (k.toNat : Int) = n) (h : tk s a n = false) (l' : List UInt8) : s.data.toList.drop a ≠ k :: l' := by
  intro e
  obtain ⟨hb, e1, _⟩ := drop_cons_lt e
  rw [tk_lt hb, e1] at h
  simp [hk] at h
theorem tkN_yes {s : ByteArray} {a : Nat} {n : Int} (h : tk s a n = true) : tkN s a n = a + 1 := by rw [tkN, if_pos h]
theorem tkN_no {s : ByteArray} {a : Nat} {n : Int} (h : tk s a n = false) : tkN s a n = a := by rw [tkN, h]; rfl

end Go.Proofs.Ytllnplabiehcgaa.T1
