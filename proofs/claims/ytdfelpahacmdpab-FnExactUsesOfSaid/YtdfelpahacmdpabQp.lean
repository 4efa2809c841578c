/- A name by its text, among the free ones; levels and truth as values. -/
import Derived.Test.YtdfelpahacmdpabIw
import Derived.Test.YtdfelpahacmdpabUi
namespace Go.Proofs.Ytdfelpahacmdpab.T1
open Go.RowKit
set_option linter.unusedVariables false
set_option linter.unusedSimpArgs false

noncomputable def decB (p : Prop) : Bool := @decide p (Classical.propDecidable p)
theorem decB_iff (p : Prop) : decB p = true ↔ p := by
  unfold decB
  exact @decide_eq_true_iff p (Classical.propDecidable p)
theorem decB_congr {p q : Prop} (h : p ↔ q) : decB p = decB q := by rw [Bool.eq_iff_iff, decB_iff, decB_iff, h]
open Classical in
noncomputable def levO (t : Tm) (a : UInt8) : Option Nat := if h : ∃ m, lev6 t a m then some (Classical.choose h) else none
theorem levO_iff (t : Tm) (a : UInt8) (m : Nat) : levO t a = some m ↔ lev6 t a m := by
  unfold levO
  split
  · rename_i h
    have hs := Classical.choose_spec h
    constructor
    · intro e; cases e; exact hs
    · intro hm; rw [hs.one hm]
  · rename_i h
    exact ⟨fun e => (by cases e), fun hm => absurd ⟨m, hm⟩ h⟩
theorem levO_eq {t : Tm} {a : UInt8} {o : Option Nat} (h : ∀ m, o = some m ↔ lev6 t a m) : o = levO t a := by
  apply Option.ext
  intro m
  rw [h, levO_iff]
/-- The free name that is the whole text. -/
def nameOf (F : List UInt8) (k : ByteArray) : Option UInt8 := match k.data.toList with
  | [c] => if nmL c = true ∧ c ∈ F then some c else none
  | _ => none
def nmI (o : Option UInt8) : Int := match o with
  | some c => (lt6 c : Int)
  | none => 0
theorem nameOf_yes {F : List UInt8} {c : UInt8} (hc : nmL c = true) (hm : c ∈ F) : nameOf F (B [c]) = some c := by
  show (if nmL c = true ∧ c ∈ F then some c else none) = some c
  rw [if_pos ⟨hc, hm⟩]
theorem nameOf_out {F : List UInt8} {c : UInt8} (hm : c ∉ F) : nameOf F (B [c]) = none := by
  show (if nmL c = true ∧ c ∈ F then some c else none) = none
  rw [if_neg (fun h => hm h.2)]
theorem nameOf_no {F : List UInt8} {k : ByteArray} (h : ¬ ∃ c, nmL c = true ∧ k = B [c]) : nameOf F k = none := by
  unfold nameOf
  split
  · rename_i c e
    rw [if_neg (fun hh => h ⟨c, hh.1, B_eq e⟩)]
  · rfl
theorem nameOf_mem {F : List UInt8} {k : ByteArray} {c : UInt8} (h : nameOf F k = some c) : c ∈ F := by
  unfold nameOf at h
  split at h
  · split at h
    · rename_i hh; cases h; exact hh.2
    · cases h
  · cases h
theorem one_or2 (k : ByteArray) : (∃ c, nmL c = true ∧ k = B [c] ∧ (∀ w, Calls Try.prog 23 #[.string k] w fun e w' => e = .returned (.bool true) ∧ Below w.heap.size w w') ∧ (∀ w, Calls Try.prog 28 #[.string k] w fun e w' => e = .returned (.tuple #[.int .u8 (c.toNat : Int), .bool true]) ∧ Below w.heap.size w w')) ∨
    ((¬ ∃ c, nmL c = true ∧ k = B [c]) ∧ (∀ w, Calls Try.prog 23 #[.string k] w fun e w' => e = .returned (.bool false) ∧ Below w.heap.size w w') ∧ (∀ w, Calls Try.prog 28 #[.string k] w fun e w' => e = .returned (.tuple #[.int .u8 0, .bool false]) ∧ Below w.heap.size w w')) := by
  by_cases h : ∃ c, nmL c = true ∧ k = B [c]
  · obtain ⟨c, hc, rfl⟩ := h
    have h0 : 0 < (B [c]).size := by rw [B_size]; simp
    have hk : (B [c])[0]'h0 = c := byte_of (B_list [c]) 0 h0 (by simp)
    have hq : (((B [c]).size : Int) == 1) = true := by rw [B_size]; rfl
    have hq2 : (((B [c]).size : Int) != 1) = false := by rw [B_size]; rfl
    have h2 := (nmL_iff c).1 hc
    have hL := isLetter_any ((B [c])[0]'h0)
    rw [hk, hc] at hL
    rw [← hk] at hL
    have a := one_yes (B [c]) h0 hq (by rw [hk]; omega) (by rw [hk]; omega)
    have b := rn_yes (B [c]) h0 hq2 hL
    rw [hk] at b
    exact .inl ⟨c, hc, rfl, a, b⟩
  · rcases one_or k with ⟨c, hc, ek, _⟩ | ⟨o1, o2⟩
    · exact absurd ⟨c, hc, ek⟩ h
    · exact .inr ⟨h, o1, o2⟩
end Go.Proofs.Ytdfelpahacmdpab.T1
