/- Texts of the proof, put together: Wc, Pa, Ta, Rq, Rr, Rx, Pp. No conditions. -/
import Derived.Test.YtnncoaeolfckbabGreatGab
import Derived.Test.YtnncoaeolfckbabGreatGac
import Derived.Test.YtnncoaeolfckbabGreatGai
import Derived.Test.YtnncoaeolfckbabGreatGap
import Derived.Test.YtnncoaeolfckbabGreatGat
import Derived.Test.YtnncoaeolfckbabGreatGau
import Derived.Deep.RegionHeld3
import Derived.Lib.OthersKept
import Derived.Deep.LoopGhost
import Derived.Laws.RangeAny
import Derived.Deep.DeepCutAuto
import Derived.Deep.RegionWith

/- A sign binds another letter, where it would capture a name: in the program. -/
namespace Go.Proofs.YtnncoaeolfckbabGreat.T1
open Go.RowKit
set_option maxRecDepth 100000
set_option linter.unusedVariables false

theorem lt_cell {w : World} {b o : Nat} {x : Value} (h : w.cell? ⟨b, o, none⟩ = some x) : b < w.heap.size := World.block_lt_of_cell? w _ h
theorem old_alloc {w : World} {b o : Nat} {x : Value} (ob : Obj) (hb : b < w.heap.size) (h : w.cell? ⟨b, o, none⟩ = some x) : (w.alloc ob).cell? ⟨b, o, none⟩ = some x := (((Below.refl _ _).alloc (Nat.le_refl _) ob).cell (p := ⟨b, o, none⟩) hb).trans h
theorem below_go {u v w : World} (h : Below u.heap.size u v) (k : Below v.heap.size v w) : Below u.heap.size u w := below_trans h k h.size
theorem below_go' {u v : World} (h : Below u.heap.size u v) (o : Obj) : Below u.heap.size u (v.alloc o) := h.alloc h.size o
end Go.Proofs.YtnncoaeolfckbabGreat.T1

/- The part that a step of a path tells, in the program. -/
namespace Go.Proofs.YtnncoaeolfckbabGreat.T1
open Go.RowKit
set_option maxRecDepth 100000

/-- The part that a step of a path tells. -/
def stepN (t : Tm) (r : Nat) : Option Tm := if r < 48 then none else t.parts[r - 48]?
/-- The subterm at a path. -/
def atP : Tm → List UInt8 → Option Tm
  | t, [] => some t
  | t, c :: l => match stepN t c.toNat with
    | some p => atP p l
    | none => none
theorem parts_cases (t : Tm) : t.parts = [] ∨ (∃ p, t.parts = [p]) ∨ ∃ p q, t.parts = [p, q] := by
  cases t <;> simp [Tm.parts]
theorem step_high (t : Tm) (r : Nat) (h : 128 ≤ r) : stepN t r = none := by
  unfold stepN
  rw [if_neg (by omega)]
  rcases parts_cases t with h1 | ⟨p, h1⟩ | ⟨p, q, h1⟩ <;> rw [h1] <;> simp <;> omega

/-- What is left by a search for a subterm. -/
def SubPost (o : Option Tm) (w : World) (e : Ending) (w' : World) : Prop :=
  ((∃ p, o = some p ∧ e = .returned (.tuple #[.iface (tyOf p) (pay p), .bool true])) ∨ (o = none ∧ e = .returned (.tuple #[.nilIface, .bool false]))) ∧ Below w.heap.size w w'
theorem SubPost.no {w : World} {e : Ending} {w' : World} {o : Option Tm} (ho : o = none) (h : e = .returned (.tuple #[.nilIface, .bool false]) ∧ Below w.heap.size w w') : SubPost o w e w' := ⟨.inr ⟨ho, h.1⟩, h.2⟩
theorem SubPost.yes {w : World} {e : Ending} {w' : World} {o : Option Tm} {p : Tm} (ho : o = some p) (h : e = .returned (.tuple #[.iface (tyOf p) (pay p), .bool true]) ∧ Below w.heap.size w w') : SubPost o w e w' := ⟨.inl ⟨p, ho, h.1⟩, h.2⟩
end Go.Proofs.YtnncoaeolfckbabGreat.T1

/- The subterm at a path in the specification, and that it is a smaller process. -/
namespace Go.Proofs.YtnncoaeolfckbabGreat.T1
open Go.RowKit
set_option maxRecDepth 100000

def AtPost (o : Option Tm) (w : World) (e : Ending) (w' : World) : Prop :=
  ((∃ p, o = some p ∧ e = .returned (.tuple #[.string (S p), .bool true])) ∨ (o = none ∧ e = .returned (.tuple #[.string ⟨#[]⟩, .bool false]))) ∧ Below w.heap.size w w'
theorem AtPost.no {w : World} {e : Ending} {w' : World} {o : Option Tm} (ho : o = none) (h : e = .returned (.tuple #[.string ⟨#[]⟩, .bool false]) ∧ Below w.heap.size w w') : AtPost o w e w' := ⟨.inr ⟨ho, h.1⟩, h.2⟩
theorem AtPost.yes {w : World} {e : Ending} {w' : World} {o : Option Tm} {p : Tm} (ho : o = some p) (h : e = .returned (.tuple #[.string (S p), .bool true]) ∧ Below w.heap.size w w') : AtPost o w e w' := ⟨.inl ⟨p, ho, h.1⟩, h.2⟩
theorem atP_fail (t : Tm) (path : ByteArray) (k : Nat) (h : k < path.size) (hs : stepN t (path[k]'h).toNat = none) : atP t (path.data.toList.drop k) = none := by
  rw [drop_at path k h]; simp only [atP, hs]
theorem atP_ok (t : Tm) {p : Tm} (path : ByteArray) (k : Nat) (h : k < path.size) (hs : stepN t (path[k]'h).toNat = some p) : atP t (path.data.toList.drop k) = atP p (path.data.toList.drop (k + 1)) := by
  rw [drop_at path k h]; simp only [atP, hs]
theorem sub_parts (t p : Tm) (h : p ∈ t.parts) : (∀ nm, t.ok nm = true → p.ok nm = true) ∧ p.pr.length ≤ t.pr.length := by
  cases t <;> simp [Tm.parts] at h
  case sum a b =>
    rcases h with rfl | rfl
    · exact ⟨fun nm h => by simp only [Tm.ok, Bool.and_eq_true] at h; exact h.1, by simp [Tm.pr]; omega⟩
    · exact ⟨fun nm h => by simp only [Tm.ok, Bool.and_eq_true] at h; exact h.2, by simp [Tm.pr]; omega⟩
  case par a b =>
    rcases h with rfl | rfl
    · exact ⟨fun nm h => by simp only [Tm.ok, Bool.and_eq_true] at h; exact h.1, by simp [Tm.pr]; omega⟩
    · exact ⟨fun nm h => by simp only [Tm.ok, Bool.and_eq_true] at h; exact h.2, by simp [Tm.pr]; omega⟩
  all_goals (subst h; refine ⟨fun nm h => ?_, ?_⟩)
  all_goals first
    | (simp only [Tm.ok, Bool.and_eq_true] at h; exact h.2)
    | (simp only [Tm.ok] at h; exact h)
    | (simp [Tm.pr]; try omega)
theorem stepN_mem (t p : Tm) (r : Nat) (h : stepN t r = some p) : p ∈ t.parts := by
  unfold stepN at h
  split at h
  · cases h
  · exact List.mem_of_getElem? h
theorem atP_sub (l : List UInt8) : ∀ (t p : Tm), atP t l = some p → (∀ nm, t.ok nm = true → p.ok nm = true) ∧ p.pr.length ≤ t.pr.length := by
  induction l with
  | nil => intro t p h; simp only [atP, Option.some.injEq] at h; subst h; exact ⟨fun _ h => h, Nat.le_refl _⟩
  | cons c l ih =>
    intro t p h
    simp only [atP] at h
    split at h
    · rename_i q hq
      have h1 := sub_parts t q (stepN_mem t q _ hq)
      have h2 := ih q p h
      exact ⟨fun nm h => h2.1 nm (h1.1 nm h), Nat.le_trans h2.2 h1.2⟩
    · cases h

end Go.Proofs.YtnncoaeolfckbabGreat.T1

/- Another process in place of the subterm at a path, in the program. -/
namespace Go.Proofs.YtnncoaeolfckbabGreat.T1
open Go.RowKit
set_option maxRecDepth 100000
set_option linter.unusedVariables false

/-- Another part, at an index. -/
def Tm.withP : Tm → Nat → Tm → Tm
  | .nil, _, _ => .nil
  | .snd a b _, _, q => .snd a b q
  | .rcv a x _, _, q => .rcv a x q
  | .tau _, _, q => .tau q
  | .sum p q, k, r => if k = 0 then .sum r q else .sum p r
  | .par p q, k, r => if k = 0 then .par r q else .par p r
  | .own x _, _, q => .own x q
  | .mat a b _, _, q => .mat a b q
  | .rep _, _, q => .rep q
/-- Another process at a path. -/
def putP : Tm → List UInt8 → Tm → Option Tm
  | _, [], q => some q
  | t, c :: l, q => match stepN t c.toNat with
    | some p => (putP p l q).map fun r => t.withP (c.toNat - 48) r
    | none => none
theorem putP_none (l : List UInt8) : ∀ (t q : Tm), putP t l q = none ↔ atP t l = none := by
  induction l with
  | nil => intro t q; simp [putP, atP]
  | cons c l ih =>
    intro t q
    simp only [putP, atP]
    cases stepN t c.toNat with
    | none => simp
    | some p => simp [ih p q]
theorem step_cases (t p : Tm) (r : Nat) (h : stepN t r = some p) : (t.parts = [p] ∧ r = 48) ∨ (∃ q, t.parts = [p, q] ∧ r = 48) ∨ (∃ q, t.parts = [q, p] ∧ r = 49) := by
  unfold stepN at h
  split at h
  · cases h
  · rcases parts_cases t with h1 | ⟨a, h1⟩ | ⟨a, b, h1⟩
    · rw [h1] at h; simp at h
    · rw [h1] at h
      rcases Nat.lt_or_ge (r - 48) 1 with h2 | h2
      · rw [show r - 48 = 0 by omega] at h; simp at h; subst h; exact .inl ⟨h1, by omega⟩
      · rw [List.getElem?_eq_none (by simpa using h2)] at h; cases h
    · rw [h1] at h
      rcases Nat.lt_or_ge (r - 48) 1 with h2 | h2
      · rw [show r - 48 = 0 by omega] at h; simp at h; subst h; exact .inr (.inl ⟨b, h1, by omega⟩)
      · rcases Nat.lt_or_ge (r - 48) 2 with h3 | h3
        · rw [show r - 48 = 1 by omega] at h; simp at h; subst h; exact .inr (.inr ⟨a, h1, by omega⟩)
        · rw [List.getElem?_eq_none (by simpa using h3)] at h; cases h
theorem with_ok (t p r : Tm) (c : Nat) (hs : stepN t c = some p) (nm : UInt8 → Bool) (ht : t.ok nm = true) (hr : r.ok nm = true) : (t.withP (c - 48) r).ok nm = true := by
  cases t <;> simp_all [Tm.withP, Tm.ok] <;> split <;> simp_all [Tm.ok]
theorem with_len (t p r : Tm) (c : Nat) (hs : stepN t c = some p) : (t.withP (c - 48) r).pr.length + p.pr.length = t.pr.length + r.pr.length ∧ (t.withP (c - 48) r).size + p.size = t.size + r.size := by
  rcases step_cases t p c hs with ⟨h, rfl⟩ | ⟨q, h, rfl⟩ | ⟨q, h, rfl⟩ <;> cases t <;> simp_all [Tm.parts, Tm.withP, Tm.pr, Tm.size] <;> omega
theorem putP_ok (l : List UInt8) : ∀ (t q r : Tm), putP t l q = some r → (∀ nm, t.ok nm = true → q.ok nm = true → r.ok nm = true) ∧ r.pr.length ≤ t.pr.length + q.pr.length ∧ r.size ≤ t.size + q.size := by
  induction l with
  | nil => intro t q r h; simp [putP] at h; subst h; exact ⟨fun _ _ h => h, by omega, by omega⟩
  | cons c l ih =>
    intro t q r h
    simp only [putP] at h
    cases hs : stepN t c.toNat with
    | none => rw [hs] at h; cases h
    | some p =>
      rw [hs] at h
      cases hp : putP p l q with
      | none => simp [hp] at h
      | some r' =>
        simp [hp] at h
        subst h
        obtain ⟨h1, h2, h3⟩ := ih p q r' hp
        obtain ⟨h4, h5⟩ := with_len t p r' c.toNat hs
        have hsub := (sub_parts t p (stepN_mem t p _ hs)).1
        exact ⟨fun nm ht hq => with_ok t p r' c.toNat hs nm ht (h1 nm (hsub nm ht) hq), by omega, by omega⟩

/-- What withParts makes of the parts in memory. -/
theorem withP_one (t p r : Tm) (h : t.parts = [p]) (b cap : Nat) (w : World) (hcap : 1 ≤ cap) (hc : w.cell? ⟨b, 0, none⟩ = some (.iface (tyOf r) (pay r))) :
    Calls Tryz.prog 97 #[.iface (tyOf t) (pay t), .slice (some ⟨b, 0, none⟩) 1 cap] w fun e w' => e = .returned (.iface (tyOf (t.withP 0 r)) (pay (t.withP 0 r))) ∧ Below w.heap.size w w' := by
  cases t with
  | nil => cases h
  | snd a x q => exact wp_send _ _ _ _ _ _ _ b cap w (.inr ⟨_, _, rfl⟩) hcap hc
  | rcv a x q => exact wp_receive _ _ _ _ _ _ _ b cap w (.inr ⟨_, _, rfl⟩) hcap hc
  | tau q => exact wp_silent _ _ _ b cap w (.inr ⟨_, _, rfl⟩) hcap hc
  | sum q u => cases h
  | par q u => cases h
  | own x q => exact wp_own _ _ _ _ _ b cap w (.inr ⟨_, _, rfl⟩) hcap hc
  | mat a x q => exact wp_match _ _ _ _ _ _ _ b cap w (.inr ⟨_, _, rfl⟩) hcap hc
  | rep q => exact wp_repeat _ _ _ b cap w (.inr ⟨_, _, rfl⟩) hcap hc
theorem withP_two (t p q r s : Tm) (h : t.parts = [p, q]) (b cap : Nat) (w : World) (hcap : 2 ≤ cap) (hc : w.cell? ⟨b, 0, none⟩ = some (.iface (tyOf r) (pay r))) (hc1 : w.cell? ⟨b, 1, none⟩ = some (.iface (tyOf s) (pay s))) :
    Calls Tryz.prog 97 #[.iface (tyOf t) (pay t), .slice (some ⟨b, 0, none⟩) 2 cap] w fun e w' => e = .returned (.iface (tyOf ((t.withP 0 r).withP 1 s)) (pay ((t.withP 0 r).withP 1 s))) ∧ Below w.heap.size w w' := by
  cases t with
  | sum a c => exact wp_choice _ _ _ _ _ _ b cap w (.inr ⟨_, _, rfl⟩) (.inr ⟨_, _, rfl⟩) hcap hc hc1
  | par a c => exact wp_beside _ _ _ _ _ _ b cap w (.inr ⟨_, _, rfl⟩) (.inr ⟨_, _, rfl⟩) hcap hc hc1
  | nil => cases h
  | snd a x q => cases h
  | rcv a x q => cases h
  | tau q => cases h
  | own x q => cases h
  | mat a x q => cases h
  | rep q => cases h
theorem with_same0 (t p q r : Tm) (h : t.parts = [p, q]) : (t.withP 0 r).withP 1 q = t.withP 0 r := by cases t <;> simp_all [Tm.parts, Tm.withP]
theorem with_same1 (t p q r : Tm) (h : t.parts = [p, q]) : (t.withP 0 p).withP 1 r = t.withP 1 r := by cases t <;> simp_all [Tm.parts, Tm.withP]

theorem two_free {w : World} {b : Nat} {x y : Value} {T : TypeId} (h : w.heap[b]? = some (.cells #[x, y] T (0, 0))) (j : Nat) : w.frozen? ⟨b, j, none⟩ = false := by simp [World.frozen?, h]
theorem two_set0 {w : World} {b : Nat} {x y : Value} {T : TypeId} (h : w.heap[b]? = some (.cells #[x, y] T (0, 0))) (v : Value) : (w.setCell ⟨b, 0, none⟩ v).heap[b]? = some (.cells #[v, y] T (0, 0)) := by
  have hlt := lt_of_block h
  have h' : w.heap[b] = .cells #[x, y] T (0, 0) := by simpa [Array.getElem?_eq_getElem hlt] using h
  show (w.heap.modify b _)[b]? = _
  rw [Array.getElem?_eq_getElem (by simpa using hlt), Array.getElem_modify_self, h']
  rfl
theorem two_set1 {w : World} {b : Nat} {x y : Value} {T : TypeId} (h : w.heap[b]? = some (.cells #[x, y] T (0, 0))) (v : Value) : (w.setCell ⟨b, 1, none⟩ v).heap[b]? = some (.cells #[x, v] T (0, 0)) := by
  have hlt := lt_of_block h
  have h' : w.heap[b] = .cells #[x, y] T (0, 0) := by simpa [Array.getElem?_eq_getElem hlt] using h
  show (w.heap.modify b _)[b]? = _
  rw [Array.getElem?_eq_getElem (by simpa using hlt), Array.getElem_modify_self, h']
  rfl
theorem cons_empty (c : UInt8) (l : List UInt8) : (B (c :: l)).toList.isEmpty = false := by rw [ByteArray.toList_eq]; rfl
theorem cons_ext (c : UInt8) (l : List UInt8) : (B (c :: l)).extract 1 (B (c :: l)).size = B l := by
  apply B_eq
  rw [ByteArray.data_extract, Array.toList_extract, B_list]
  simp [List.extract_eq_take_drop, B_size]
end Go.Proofs.YtnncoaeolfckbabGreat.T1

/- A free name renamed, with no capture: the ways through the program's function. -/
namespace Go.Proofs.YtnncoaeolfckbabGreat.T1
open Go.RowKit
set_option maxRecDepth 100000
set_option linter.unusedVariables false

end Go.Proofs.YtnncoaeolfckbabGreat.T1

/- A free name renamed, with no capture: in the program, for every process. -/
namespace Go.Proofs.YtnncoaeolfckbabGreat.T1
open Go.RowKit
set_option maxRecDepth 100000
set_option linter.unusedVariables false

theorem u8_beq (a b : UInt8) : (((a.toNat : Nat) : Int) == ((b.toNat : Nat) : Int)) = decide (a = b) := by
  rw [Bool.eq_iff_iff, decide_eq_true_iff, beq_iff_eq]
  exact ⟨fun h => u8_ext (by omega), fun h => by rw [h]⟩
theorem u8_bne (a b : UInt8) : (((a.toNat : Nat) : Int) != ((b.toNat : Nat) : Int)) = !decide (a = b) := by rw [bne, u8_beq]
theorem has_free (t : Tm) (ho : t.ok nmL = true) (o : UInt8) (hn : nmL o = true) : ∀ w, Calls Tryz.prog 81 #[.int .u32 (setN t.free : Nat), .int .u8 (o.toNat : Int)] w fun e w' => e = .returned (.bool (decide (o ∈ t.free))) ∧ w = w' := by
  intro w
  have h := (nmL_iff o).1 hn
  have h1 := has_any (setN t.free) o.toNat (setN_lt32 _ (lets_free t ho)) h.1 h.2 w
  have e : (setN t.free).testBit (o.toNat - 97) = decide (o ∈ t.free) := by
    rw [Bool.eq_iff_iff, decide_eq_true_iff, setN_bit _ (lets_free t ho)]
    exact ⟨fun ⟨c, hc, e⟩ => by rw [← u8_ext (show c.toNat = o.toNat by omega)]; exact hc, fun hc => ⟨o, hc, by omega⟩⟩
  rw [e] at h1
  exact h1
theorem flip_oth (l : List UInt8) (h : Lets l) : lets (flip32 (setN l)) 26 = othL l := by
  have h26 : lets (flip32 (setN l)) 26 = ((List.range 26).filter fun i => (flip32 (setN l)).testBit i).map fun i => UInt8.ofNat (97 + i) := rfl
  unfold othL
  rw [h26, List.filter_map]
  congr 1
  refine List.filter_congr fun i hi => ?_
  rw [List.mem_range] at hi
  rw [flip_bit _ i (by omega)]
  show (!(setN l).testBit i) = decide (UInt8.ofNat (97 + i) ∉ l)
  rw [decide_not]
  congr 1
  rw [Bool.eq_iff_iff, decide_eq_true_iff, setN_bit l h]
  exact ⟨fun ⟨c, hc, e⟩ => by rw [show UInt8.ofNat (97 + i) = c from u8_ext (by rw [UInt8.toNat_ofNat']; omega)]; exact hc, fun hc => ⟨_, hc, by rw [UInt8.toNat_ofNat']; omega⟩⟩
theorem others_set (l : List UInt8) (h : Lets l) (w : World) : Calls Tryz.prog 69 #[.int .u32 (setN l : Nat)] w fun e w' => ∃ v, e = .returned v ∧ w'.ownsRow w.heap.size 5 1 v (othL l).length ((othL l).map ub) ∧ Below w.heap.size w w' := by
  have := others_any (setN l) (setN_lt32 l h) w
  rw [flip_oth l h] at this
  exact this
theorem others_nil (l : List UInt8) (h : Lets l) (he : othL l = []) (w : World) : Calls Tryz.prog 69 #[.int .u32 (setN l : Nat)] w fun e w' => ∃ v xs, e = .returned v ∧ w'.ownsRow w.heap.size 5 1 v 0 xs ∧ Below w.heap.size w w' := by
  have := others_set l h w
  rw [he] at this
  exact this.mono fun e w' ⟨v, h1, h2, h3⟩ => ⟨v, _, h1, h2, h3⟩
theorem others_cons (l : List UInt8) (h : Lets l) (y : UInt8) (r : List UInt8) (he : othL l = y :: r) (w : World) : Calls Tryz.prog 69 #[.int .u32 (setN l : Nat)] w fun e w' => ∃ g n cap, e = .returned (.slice (some ⟨g, 0, none⟩) (n + 1) cap) ∧ w.heap.size ≤ g ∧ w'.cell? ⟨g, 0, none⟩ = some (.int .u8 (y.toNat : Int)) ∧ Below w.heap.size w w' := by
  have := others_set l h w
  rw [he] at this
  refine this.mono fun e w' ⟨v, h1, h2, h3⟩ => ?_
  rcases h2.2 with ⟨rfl, h4⟩ | ⟨g, cap, cur, rfl, h4, _⟩
  · simp at h4
  · exact ⟨g, r.length, cap, h1, h4, by rw [h2.cellAt 0 (by simp)]; rfl, h3⟩
theorem with_set (l : List UInt8) (h : Lets l) (m : UInt8) (hm : nmL m = true) : ∀ w, Calls Tryz.prog 58 #[.int .u32 (setN l : Nat), .int .u8 (m.toNat : Int)] w fun e w' => e = .returned (.int .u32 (setN (addL l m) : Nat)) ∧ w = w' := by
  intro w
  have hm' := (nmL_iff m).1 hm
  rw [setN_addL h hm']
  exact with_any (setN l) m.toNat (setN_lt32 l h) hm'.1 hm'.2 w

/-- The renamed process, if it is one. -/
def renO (t : Tm) (o m : UInt8) : Option Tm := if (R t o m).ok nmL = true then some (R t o m) else none
theorem sub_some {t : Tm} {F : FuncId} {args : Array Value} (h : ∀ w, Calls Tryz.prog F args w (SubPost (some t) w)) : ∀ w, Calls Tryz.prog F args w fun e w' => e = .returned (.tuple #[.iface (tyOf t) (pay t), .bool true]) ∧ Below w.heap.size w w' := fun w =>
  (h w).mono fun e w' hh => by
    rcases hh with ⟨⟨p, h1, h2⟩ | ⟨h1, _⟩, h3⟩
    · cases h1; exact ⟨h2, h3⟩
    · cases h1
theorem sub_none {F : FuncId} {args : Array Value} (h : ∀ w, Calls Tryz.prog F args w (SubPost none w)) : ∀ w, Calls Tryz.prog F args w fun e w' => e = .returned (.tuple #[.nilIface, .bool false]) ∧ Below w.heap.size w w' := fun w =>
  (h w).mono fun e w' hh => by
    rcases hh with ⟨⟨p, h1, _⟩ | ⟨_, h2⟩, h3⟩
    · cases h1
    · exact ⟨h2, h3⟩
theorem capX_fresh {p : Tm} {x o m : UInt8} (hc : x = m ∧ o ∈ p.free) : capX p x o m = fresh (addL p.free m) := by
  unfold capX
  rw [if_pos hc]
  have : addL p.free o = p.free := srt_ext (srt_addL (srt_free p) o) (srt_free p) fun z => by rw [mem_addL]; constructor; (rintro (h | rfl); exact h; exact hc.2); exact .inl
  show fresh (addL (addL p.free o) m) = _
  rw [this]

theorem R_rev {t : Tm} {o m : UInt8} (ho : nmL o = true) (hm : nmL m = true) (h : (R t o m).ok nmL = true) : t.ok nmL = true := ren_rev _ _ _ _ ho hm h
end Go.Proofs.YtnncoaeolfckbabGreat.T1

/- A process with other parts; with another process at a path: in the specification. -/
namespace Go.Proofs.YtnncoaeolfckbabGreat.T1
open Go.RowKit
set_option maxRecDepth 100000
set_option linter.unusedVariables false

set_option maxHeartbeats 2000000 in
theorem tw_one (s X : ByteArray) (kd : Int) (hd : Nat) (hs : s.size ≤ 700) (hX : X.size ≤ 1000) (hh : hd ≤ s.size) (b0 : (kd == 48) = false) (b1 : (kd == 43) = false) (b2 : (kd == 38) = false)
    (HK : ∀ w, Calls Tryz.prog 44 #[.string s] w fun e w' => e = .returned (.int .u8 kd) ∧ w = w') (HH : ∀ w, Calls Tryz.prog 63 #[.string s] w fun e w' => e = .returned (.int .i64 (hd : Int)) ∧ w = w') (g n cap : Nat) (hn : 1 ≤ n) (w : World) (c0 : w.cell? ⟨g, 0, none⟩ = some (.string X)) :
    Calls Tryz.prog 145 #[.string s, .slice (some ⟨g, 0, none⟩) n cap] w fun e w' => e = .returned (.string (s.extract 0 hd ++ X)) ∧ Below w.heap.size w w' := by
  have HK' := Lib.hid HK
  have HH' := Lib.hid HH
  have n0 : (0 : Int) < (n : Int) := by omega
  have h1 : (hd : Int) ≤ (s.size : Int) := by omega
  clear HK HH
  go_enter Tryz.func145, Tryz.ntmps145
  go_wp2_with fail
  refine (HK'.out _).mono ?_
  rintro e w1 ⟨rfl, rfl⟩
  go_wp2_with fail
  go_quiet ((go_at_call 63; exact Calls.quiet_of_same ((HH'.out _).mono fun _ _ hh => ⟨hh.1, hh.2.symm⟩)))
  go_wp2_with fail
  go_ret
  first | exact ⟨rfl, Below.refl _ _⟩ | exact ⟨rfl, (Below.refl _ _).drew⟩ | exact ⟨rfl, (Below.refl _ _).drewN _⟩ | exact ⟨rfl, below_drewN' (Below.refl _ _) _⟩
set_option maxHeartbeats 2000000 in
theorem tw_two (s X Y : ByteArray) (kd : Int) (m : UInt8) (hX : X.size ≤ 1000) (hY : Y.size ≤ 1000) (hm : (kd = 43 ∧ m = 43) ∨ (kd = 38 ∧ m = 38))
    (HK : ∀ w, Calls Tryz.prog 44 #[.string s] w fun e w' => e = .returned (.int .u8 kd) ∧ w = w') (g n cap : Nat) (hn : 2 ≤ n) (w : World) (c0 : w.cell? ⟨g, 0, none⟩ = some (.string X)) (c1 : w.cell? ⟨g, 1, none⟩ = some (.string Y)) :
    Calls Tryz.prog 145 #[.string s, .slice (some ⟨g, 0, none⟩) n cap] w fun e w' => e = .returned (.string (one 40 ++ X ++ one m ++ Y ++ one 41)) ∧ Below w.heap.size w w' := by
  have HK' := Lib.hid HK
  have n0 : (0 : Int) < (n : Int) := by omega
  have n1 : (1 : Int) < (n : Int) := by omega
  clear HK
  rcases hm with ⟨rfl, rfl⟩ | ⟨rfl, rfl⟩
  all_goals
    go_enter Tryz.func145, Tryz.ntmps145
    go_wp2_with fail
    refine (HK'.out _).mono ?_
    rintro e w1 ⟨rfl, rfl⟩
    go_wp2_with fail
    go_quiet (fail)
    go_wp2_with fail
    go_ret
    first | exact ⟨rfl, Below.refl _ _⟩ | exact ⟨rfl, (Below.refl _ _).drew⟩ | exact ⟨rfl, (Below.refl _ _).drewN _⟩ | exact ⟨rfl, below_drewN' (Below.refl _ _) _⟩

theorem Tryz.infoS : (Tryz.prog.info? 9).map (fun i => (i.zero, i.size, i.bytes)) = some (some (.string ⟨#[]⟩), 1, 16) := by kernel_rfl
theorem cellsAt {w : World} {b : Nat} {C : Array Value} {T : TypeId} (h : w.heap[b]? = some (.cells C T (0, 0))) (j : Nat) (x : Value) (hx : C[j]? = some x) : w.cell? ⟨b, j, none⟩ = some x := by simp [World.cell?, h, hx]
theorem cellsFree {w : World} {b : Nat} {C : Array Value} {T : TypeId} (h : w.heap[b]? = some (.cells C T (0, 0))) (j : Nat) : w.frozen? ⟨b, j, none⟩ = false := by simp [World.frozen?, h]
theorem set_cells {w : World} {b : Nat} {C : Array Value} {T : TypeId} (h : w.heap[b]? = some (.cells C T (0, 0))) (j : Nat) (v : Value) : (w.setCell ⟨b, j, none⟩ v).heap[b]? = some (.cells (C.setIfInBounds j v) T (0, 0)) := by
  have hlt := lt_of_block h
  have h' : w.heap[b] = .cells C T (0, 0) := by simpa [Array.getElem?_eq_getElem hlt] using h
  show (w.heap.modify b _)[b]? = _
  rw [Array.getElem?_eq_getElem (by simpa using hlt), Array.getElem_modify_self, h']
  rfl
theorem setAt {C : Array Value} {j : Nat} {x v : Value} (h : C[j]? = some x) : (C.setIfInBounds j v)[j]? = some v := by
  have hlt : j < C.size := by
    rcases Nat.lt_or_ge j C.size with h' | h'
    · exact h'
    · rw [Array.getElem?_eq_none h'] at h; cases h
  rw [Array.getElem?_setIfInBounds_self_of_lt hlt]
end Go.Proofs.YtnncoaeolfckbabGreat.T1
