/- Texts of the proof, put together: Wc, Rr, Rx. No conditions. -/
import Derived.Test.YtnncoaeolfckbaaGreatGac
import Derived.Test.YtnncoaeolfckbaaGreatGaj
import Derived.Test.YtnncoaeolfckbaaGreatGav
import Derived.Test.YtnncoaeolfckbaaGreatGaw
import Derived.Test.YtnncoaeolfckbaaGreatGax
import Derived.Deep.RegionHeld3
import Derived.Deep.DeepCutAuto

/- A sign binds another letter, where it would capture a name: in the program. -/
namespace Go.Proofs.YtnncoaeolfckbaaGreat.T1
open Go.RowKit
set_option maxRecDepth 100000
set_option linter.unusedVariables false

theorem lt_cell {w : World} {b o : Nat} {x : Value} (h : w.cell? ⟨b, o, none⟩ = some x) : b < w.heap.size := World.block_lt_of_cell? w _ h
theorem old_alloc {w : World} {b o : Nat} {x : Value} (ob : Obj) (hb : b < w.heap.size) (h : w.cell? ⟨b, o, none⟩ = some x) : (w.alloc ob).cell? ⟨b, o, none⟩ = some x := (((Below.refl _ _).alloc (Nat.le_refl _) ob).cell (p := ⟨b, o, none⟩) hb).trans h
theorem below_go {u v w : World} (h : Below u.heap.size u v) (k : Below v.heap.size v w) : Below u.heap.size u w := below_trans h k h.size
theorem below_go' {u v : World} (h : Below u.heap.size u v) (o : Obj) : Below u.heap.size u (v.alloc o) := h.alloc h.size o
end Go.Proofs.YtnncoaeolfckbaaGreat.T1

/- A free name renamed, with no capture: the ways through the program's function. -/
namespace Go.Proofs.YtnncoaeolfckbaaGreat.T1
open Go.RowKit
set_option maxRecDepth 100000
set_option linter.unusedVariables false

end Go.Proofs.YtnncoaeolfckbaaGreat.T1

/- A free name renamed, with no capture: in the program, for every process. -/
namespace Go.Proofs.YtnncoaeolfckbaaGreat.T1
open Go.RowKit
set_option maxRecDepth 100000
set_option linter.unusedVariables false

theorem u8_beq (a b : UInt8) : (((a.toNat : Nat) : Int) == ((b.toNat : Nat) : Int)) = decide (a = b) := by
  rw [Bool.eq_iff_iff, decide_eq_true_iff, beq_iff_eq]
  exact ⟨fun h => u8_ext (by omega), fun h => by rw [h]⟩
theorem u8_bne (a b : UInt8) : (((a.toNat : Nat) : Int) != ((b.toNat : Nat) : Int)) = !decide (a = b) := by rw [bne, u8_beq]
theorem has_free (t : Tm) (ho : t.ok nmL = true) (o : UInt8) (hn : nmL o = true) : ∀ w, Calls Tryz.prog 75 #[.int .u32 (setN t.free : Nat), .int .u8 (o.toNat : Int)] w fun e w' => e = .returned (.bool (decide (o ∈ t.free))) ∧ w = w' := by
  intro w
  have h := (nmL_iff o).1 hn
  have h1 := has_any (setN t.free) o.toNat (setN_lt32 _ (lets_free t ho)) h.1 h.2 w
  have e : (setN t.free).testBit (o.toNat - 97) = decide (o ∈ t.free) := by
    rw [Bool.eq_iff_iff, decide_eq_true_iff, setN_bit _ (lets_free t ho)]
    exact ⟨fun ⟨c, hc, e⟩ => by rw [← u8_ext (show c.toNat = o.toNat by omega)]; exact hc, fun hc => ⟨o, hc, by omega⟩⟩
  rw [e] at h1
  exact h1
theorem flip_oth (l : List UInt8) (h : Lets l) : lets (flip32 (setN l)) 26 = othL l := by
  have h26 : lets (flip32 (setN l)) 26 = ((List.range 26).filter fun i => (flip32 (setN l)).testBit i).map fun i => UInt8.ofNat (97 + i) := rfl
  unfold othL
  rw [h26, List.filter_map]
  congr 1
  refine List.filter_congr fun i hi => ?_
  rw [List.mem_range] at hi
  rw [flip_bit _ i (by omega)]
  show (!(setN l).testBit i) = decide (UInt8.ofNat (97 + i) ∉ l)
  rw [decide_not]
  congr 1
  rw [Bool.eq_iff_iff, decide_eq_true_iff, setN_bit l h]
  exact ⟨fun ⟨c, hc, e⟩ => by rw [show UInt8.ofNat (97 + i) = c from u8_ext (by rw [UInt8.toNat_ofNat']; omega)]; exact hc, fun hc => ⟨_, hc, by rw [UInt8.toNat_ofNat']; omega⟩⟩
theorem others_set (l : List UInt8) (h : Lets l) (w : World) : Calls Tryz.prog 49 #[.int .u32 (setN l : Nat)] w fun e w' => ∃ v, e = .returned v ∧ w'.ownsRow w.heap.size 5 1 v (othL l).length ((othL l).map ub) ∧ Below w.heap.size w w' := by
  have := others_any (setN l) (setN_lt32 l h) w
  rw [flip_oth l h] at this
  exact this
theorem others_nil (l : List UInt8) (h : Lets l) (he : othL l = []) (w : World) : Calls Tryz.prog 49 #[.int .u32 (setN l : Nat)] w fun e w' => ∃ v xs, e = .returned v ∧ w'.ownsRow w.heap.size 5 1 v 0 xs ∧ Below w.heap.size w w' := by
  have := others_set l h w
  rw [he] at this
  exact this.mono fun e w' ⟨v, h1, h2, h3⟩ => ⟨v, _, h1, h2, h3⟩
theorem others_cons (l : List UInt8) (h : Lets l) (y : UInt8) (r : List UInt8) (he : othL l = y :: r) (w : World) : Calls Tryz.prog 49 #[.int .u32 (setN l : Nat)] w fun e w' => ∃ g n cap, e = .returned (.slice (some ⟨g, 0, none⟩) (n + 1) cap) ∧ w.heap.size ≤ g ∧ w'.cell? ⟨g, 0, none⟩ = some (.int .u8 (y.toNat : Int)) ∧ Below w.heap.size w w' := by
  have := others_set l h w
  rw [he] at this
  refine this.mono fun e w' ⟨v, h1, h2, h3⟩ => ?_
  rcases h2.2 with ⟨rfl, h4⟩ | ⟨g, cap, cur, rfl, h4, _⟩
  · simp at h4
  · exact ⟨g, r.length, cap, h1, h4, by rw [h2.cellAt 0 (by simp)]; rfl, h3⟩
theorem with_set (l : List UInt8) (h : Lets l) (m : UInt8) (hm : nmL m = true) : ∀ w, Calls Tryz.prog 100 #[.int .u32 (setN l : Nat), .int .u8 (m.toNat : Int)] w fun e w' => e = .returned (.int .u32 (setN (addL l m) : Nat)) ∧ w = w' := by
  intro w
  have hm' := (nmL_iff m).1 hm
  rw [setN_addL h hm']
  exact with_any (setN l) m.toNat (setN_lt32 l h) hm'.1 hm'.2 w

/-- The renamed process, if it is one. -/
def renO (t : Tm) (o m : UInt8) : Option Tm := if (R t o m).ok nmL = true then some (R t o m) else none
theorem sub_some {t : Tm} {F : FuncId} {args : Array Value} (h : ∀ w, Calls Tryz.prog F args w (SubPost (some t) w)) : ∀ w, Calls Tryz.prog F args w fun e w' => e = .returned (.tuple #[.iface (tyOf t) (pay t), .bool true]) ∧ Below w.heap.size w w' := fun w =>
  (h w).mono fun e w' hh => by
    rcases hh with ⟨⟨p, h1, h2⟩ | ⟨h1, _⟩, h3⟩
    · cases h1; exact ⟨h2, h3⟩
    · cases h1
theorem sub_none {F : FuncId} {args : Array Value} (h : ∀ w, Calls Tryz.prog F args w (SubPost none w)) : ∀ w, Calls Tryz.prog F args w fun e w' => e = .returned (.tuple #[.nilIface, .bool false]) ∧ Below w.heap.size w w' := fun w =>
  (h w).mono fun e w' hh => by
    rcases hh with ⟨⟨p, h1, _⟩ | ⟨_, h2⟩, h3⟩
    · cases h1
    · exact ⟨h2, h3⟩
theorem capX_fresh {p : Tm} {x o m : UInt8} (hc : x = m ∧ o ∈ p.free) : capX p x o m = fresh (addL p.free m) := by
  unfold capX
  rw [if_pos hc]
  have : addL p.free o = p.free := srt_ext (srt_addL (srt_free p) o) (srt_free p) fun z => by rw [mem_addL]; constructor; (rintro (h | rfl); exact h; exact hc.2); exact .inl
  show fresh (addL (addL p.free o) m) = _
  rw [this]

theorem R_rev {t : Tm} {o m : UInt8} (ho : nmL o = true) (hm : nmL m = true) (h : (R t o m).ok nmL = true) : t.ok nmL = true := ren_rev _ _ _ _ ho hm h
end Go.Proofs.YtnncoaeolfckbaaGreat.T1
