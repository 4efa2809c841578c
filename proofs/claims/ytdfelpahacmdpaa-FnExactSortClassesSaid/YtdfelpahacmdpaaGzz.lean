/- Texts of the proof, put together: Pa, Ta, Rq, Pp, St, Qg. No conditions. -/
import Derived.Test.YtdfelpahacmdpaaGar
import Derived.Lib.OthersKept
import Derived.Deep.LoopGhost
import Derived.Laws.RangeAny
import Derived.Test.YtdfelpahacmdpaaGbk
import Derived.Test.YtdfelpahacmdpaaGaq
import Derived.Test.YtdfelpahacmdpaaGbd
import Derived.Deep.RegionWith
import Derived.Test.YtdfelpahacmdpaaGas
import Derived.Laws.Rows
import Derived.Deep.DeepCutAuto
import Derived.Test.YtdfelpahacmdpaaGcb

/- The part that a step of a path tells, in the program. -/
namespace Go.Proofs.Ytdfelpahacmdpaa.T1
open Go.RowKit
set_option maxRecDepth 100000

/-- The part that a step of a path tells. -/
def stepN (t : Tm) (r : Nat) : Option Tm := if r < 48 then none else t.parts[r - 48]?
/-- The subterm at a path. -/
def atP : Tm → List UInt8 → Option Tm
  | t, [] => some t
  | t, c :: l => match stepN t c.toNat with
    | some p => atP p l
    | none => none
theorem parts_cases (t : Tm) : t.parts = [] ∨ (∃ p, t.parts = [p]) ∨ ∃ p q, t.parts = [p, q] := by
  cases t <;> simp [Tm.parts]
theorem step_high (t : Tm) (r : Nat) (h : 128 ≤ r) : stepN t r = none := by
  unfold stepN
  rw [if_neg (by omega)]
  rcases parts_cases t with h1 | ⟨p, h1⟩ | ⟨p, q, h1⟩ <;> rw [h1] <;> simp <;> omega

/-- What is left by a search for a subterm. -/
def SubPost (o : Option Tm) (w : World) (e : Ending) (w' : World) : Prop :=
  ((∃ p, o = some p ∧ e = .returned (.tuple #[.iface (tyOf p) (pay p), .bool true])) ∨ (o = none ∧ e = .returned (.tuple #[.nilIface, .bool false]))) ∧ Below w.heap.size w w'
theorem SubPost.no {w : World} {e : Ending} {w' : World} {o : Option Tm} (ho : o = none) (h : e = .returned (.tuple #[.nilIface, .bool false]) ∧ Below w.heap.size w w') : SubPost o w e w' := ⟨.inr ⟨ho, h.1⟩, h.2⟩
theorem SubPost.yes {w : World} {e : Ending} {w' : World} {o : Option Tm} {p : Tm} (ho : o = some p) (h : e = .returned (.tuple #[.iface (tyOf p) (pay p), .bool true]) ∧ Below w.heap.size w w') : SubPost o w e w' := ⟨.inl ⟨p, ho, h.1⟩, h.2⟩
end Go.Proofs.Ytdfelpahacmdpaa.T1

/- The subterm at a path in the specification, and that it is a smaller process. -/
namespace Go.Proofs.Ytdfelpahacmdpaa.T1
open Go.RowKit
set_option maxRecDepth 100000

def AtPost (o : Option Tm) (w : World) (e : Ending) (w' : World) : Prop :=
  ((∃ p, o = some p ∧ e = .returned (.tuple #[.string (S p), .bool true])) ∨ (o = none ∧ e = .returned (.tuple #[.string ⟨#[]⟩, .bool false]))) ∧ Below w.heap.size w w'
theorem AtPost.no {w : World} {e : Ending} {w' : World} {o : Option Tm} (ho : o = none) (h : e = .returned (.tuple #[.string ⟨#[]⟩, .bool false]) ∧ Below w.heap.size w w') : AtPost o w e w' := ⟨.inr ⟨ho, h.1⟩, h.2⟩
theorem AtPost.yes {w : World} {e : Ending} {w' : World} {o : Option Tm} {p : Tm} (ho : o = some p) (h : e = .returned (.tuple #[.string (S p), .bool true]) ∧ Below w.heap.size w w') : AtPost o w e w' := ⟨.inl ⟨p, ho, h.1⟩, h.2⟩
theorem atP_fail (t : Tm) (path : ByteArray) (k : Nat) (h : k < path.size) (hs : stepN t (path[k]'h).toNat = none) : atP t (path.data.toList.drop k) = none := by
  rw [drop_at path k h]; simp only [atP, hs]
theorem atP_ok (t : Tm) {p : Tm} (path : ByteArray) (k : Nat) (h : k < path.size) (hs : stepN t (path[k]'h).toNat = some p) : atP t (path.data.toList.drop k) = atP p (path.data.toList.drop (k + 1)) := by
  rw [drop_at path k h]; simp only [atP, hs]
theorem sub_parts (t p : Tm) (h : p ∈ t.parts) : (∀ nm, t.ok nm = true → p.ok nm = true) ∧ p.pr.length ≤ t.pr.length := by
  cases t <;> simp [Tm.parts] at h
  case sum a b =>
    rcases h with rfl | rfl
    · exact ⟨fun nm h => by simp only [Tm.ok, Bool.and_eq_true] at h; exact h.1, by simp [Tm.pr]; omega⟩
    · exact ⟨fun nm h => by simp only [Tm.ok, Bool.and_eq_true] at h; exact h.2, by simp [Tm.pr]; omega⟩
  case par a b =>
    rcases h with rfl | rfl
    · exact ⟨fun nm h => by simp only [Tm.ok, Bool.and_eq_true] at h; exact h.1, by simp [Tm.pr]; omega⟩
    · exact ⟨fun nm h => by simp only [Tm.ok, Bool.and_eq_true] at h; exact h.2, by simp [Tm.pr]; omega⟩
  all_goals (subst h; refine ⟨fun nm h => ?_, ?_⟩)
  all_goals first
    | (simp only [Tm.ok, Bool.and_eq_true] at h; exact h.2)
    | (simp only [Tm.ok] at h; exact h)
    | (simp [Tm.pr]; try omega)
theorem stepN_mem (t p : Tm) (r : Nat) (h : stepN t r = some p) : p ∈ t.parts := by
  unfold stepN at h
  split at h
  · cases h
  · exact List.mem_of_getElem? h
theorem atP_sub (l : List UInt8) : ∀ (t p : Tm), atP t l = some p → (∀ nm, t.ok nm = true → p.ok nm = true) ∧ p.pr.length ≤ t.pr.length := by
  induction l with
  | nil => intro t p h; simp only [atP, Option.some.injEq] at h; subst h; exact ⟨fun _ h => h, Nat.le_refl _⟩
  | cons c l ih =>
    intro t p h
    simp only [atP] at h
    split at h
    · rename_i q hq
      have h1 := sub_parts t q (stepN_mem t q _ hq)
      have h2 := ih q p h
      exact ⟨fun nm h => h2.1 nm (h1.1 nm h), Nat.le_trans h2.2 h1.2⟩
    · cases h

end Go.Proofs.Ytdfelpahacmdpaa.T1

/- Another process in place of the subterm at a path, in the program. -/
namespace Go.Proofs.Ytdfelpahacmdpaa.T1
open Go.RowKit
set_option maxRecDepth 100000
set_option linter.unusedVariables false

/-- Another part, at an index. -/
def Tm.withP : Tm → Nat → Tm → Tm
  | .nil, _, _ => .nil
  | .snd a b _, _, q => .snd a b q
  | .rcv a x _, _, q => .rcv a x q
  | .tau _, _, q => .tau q
  | .sum p q, k, r => if k = 0 then .sum r q else .sum p r
  | .par p q, k, r => if k = 0 then .par r q else .par p r
  | .own x _, _, q => .own x q
  | .mat a b _, _, q => .mat a b q
  | .rep _, _, q => .rep q
/-- Another process at a path. -/
def putP : Tm → List UInt8 → Tm → Option Tm
  | _, [], q => some q
  | t, c :: l, q => match stepN t c.toNat with
    | some p => (putP p l q).map fun r => t.withP (c.toNat - 48) r
    | none => none
theorem putP_none (l : List UInt8) : ∀ (t q : Tm), putP t l q = none ↔ atP t l = none := by
  induction l with
  | nil => intro t q; simp [putP, atP]
  | cons c l ih =>
    intro t q
    simp only [putP, atP]
    cases stepN t c.toNat with
    | none => simp
    | some p => simp [ih p q]
theorem step_cases (t p : Tm) (r : Nat) (h : stepN t r = some p) : (t.parts = [p] ∧ r = 48) ∨ (∃ q, t.parts = [p, q] ∧ r = 48) ∨ (∃ q, t.parts = [q, p] ∧ r = 49) := by
  unfold stepN at h
  split at h
  · cases h
  · rcases parts_cases t with h1 | ⟨a, h1⟩ | ⟨a, b, h1⟩
    · rw [h1] at h; simp at h
    · rw [h1] at h
      rcases Nat.lt_or_ge (r - 48) 1 with h2 | h2
      · rw [show r - 48 = 0 by omega] at h; simp at h; subst h; exact .inl ⟨h1, by omega⟩
      · rw [List.getElem?_eq_none (by simpa using h2)] at h; cases h
    · rw [h1] at h
      rcases Nat.lt_or_ge (r - 48) 1 with h2 | h2
      · rw [show r - 48 = 0 by omega] at h; simp at h; subst h; exact .inr (.inl ⟨b, h1, by omega⟩)
      · rcases Nat.lt_or_ge (r - 48) 2 with h3 | h3
        · rw [show r - 48 = 1 by omega] at h; simp at h; subst h; exact .inr (.inr ⟨a, h1, by omega⟩)
        · rw [List.getElem?_eq_none (by simpa using h3)] at h; cases h
theorem with_ok (t p r : Tm) (c : Nat) (hs : stepN t c = some p) (nm : UInt8 → Bool) (ht : t.ok nm = true) (hr : r.ok nm = true) : (t.withP (c - 48) r).ok nm = true := by
  cases t <;> simp_all [Tm.withP, Tm.ok] <;> split <;> simp_all [Tm.ok]
theorem with_len (t p r : Tm) (c : Nat) (hs : stepN t c = some p) : (t.withP (c - 48) r).pr.length + p.pr.length = t.pr.length + r.pr.length ∧ (t.withP (c - 48) r).size + p.size = t.size + r.size := by
  rcases step_cases t p c hs with ⟨h, rfl⟩ | ⟨q, h, rfl⟩ | ⟨q, h, rfl⟩ <;> cases t <;> simp_all [Tm.parts, Tm.withP, Tm.pr, Tm.size] <;> omega
theorem putP_ok (l : List UInt8) : ∀ (t q r : Tm), putP t l q = some r → (∀ nm, t.ok nm = true → q.ok nm = true → r.ok nm = true) ∧ r.pr.length ≤ t.pr.length + q.pr.length ∧ r.size ≤ t.size + q.size := by
  induction l with
  | nil => intro t q r h; simp [putP] at h; subst h; exact ⟨fun _ _ h => h, by omega, by omega⟩
  | cons c l ih =>
    intro t q r h
    simp only [putP] at h
    cases hs : stepN t c.toNat with
    | none => rw [hs] at h; cases h
    | some p =>
      rw [hs] at h
      cases hp : putP p l q with
      | none => simp [hp] at h
      | some r' =>
        simp [hp] at h
        subst h
        obtain ⟨h1, h2, h3⟩ := ih p q r' hp
        obtain ⟨h4, h5⟩ := with_len t p r' c.toNat hs
        have hsub := (sub_parts t p (stepN_mem t p _ hs)).1
        exact ⟨fun nm ht hq => with_ok t p r' c.toNat hs nm ht (h1 nm (hsub nm ht) hq), by omega, by omega⟩

/-- What withParts makes of the parts in memory. -/
theorem withP_one (t p r : Tm) (h : t.parts = [p]) (b cap : Nat) (w : World) (hcap : 1 ≤ cap) (hc : w.cell? ⟨b, 0, none⟩ = some (.iface (tyOf r) (pay r))) :
    Calls Try.prog 97 #[.iface (tyOf t) (pay t), .slice (some ⟨b, 0, none⟩) 1 cap] w fun e w' => e = .returned (.iface (tyOf (t.withP 0 r)) (pay (t.withP 0 r))) ∧ Below w.heap.size w w' := by
  cases t with
  | nil => cases h
  | snd a x q => exact wp_send _ _ _ _ _ _ _ b cap w (.inr ⟨_, _, rfl⟩) hcap hc
  | rcv a x q => exact wp_receive _ _ _ _ _ _ _ b cap w (.inr ⟨_, _, rfl⟩) hcap hc
  | tau q => exact wp_silent _ _ _ b cap w (.inr ⟨_, _, rfl⟩) hcap hc
  | sum q u => cases h
  | par q u => cases h
  | own x q => exact wp_own _ _ _ _ _ b cap w (.inr ⟨_, _, rfl⟩) hcap hc
  | mat a x q => exact wp_match _ _ _ _ _ _ _ b cap w (.inr ⟨_, _, rfl⟩) hcap hc
  | rep q => exact wp_repeat _ _ _ b cap w (.inr ⟨_, _, rfl⟩) hcap hc
theorem withP_two (t p q r s : Tm) (h : t.parts = [p, q]) (b cap : Nat) (w : World) (hcap : 2 ≤ cap) (hc : w.cell? ⟨b, 0, none⟩ = some (.iface (tyOf r) (pay r))) (hc1 : w.cell? ⟨b, 1, none⟩ = some (.iface (tyOf s) (pay s))) :
    Calls Try.prog 97 #[.iface (tyOf t) (pay t), .slice (some ⟨b, 0, none⟩) 2 cap] w fun e w' => e = .returned (.iface (tyOf ((t.withP 0 r).withP 1 s)) (pay ((t.withP 0 r).withP 1 s))) ∧ Below w.heap.size w w' := by
  cases t with
  | sum a c => exact wp_choice _ _ _ _ _ _ b cap w (.inr ⟨_, _, rfl⟩) (.inr ⟨_, _, rfl⟩) hcap hc hc1
  | par a c => exact wp_beside _ _ _ _ _ _ b cap w (.inr ⟨_, _, rfl⟩) (.inr ⟨_, _, rfl⟩) hcap hc hc1
  | nil => cases h
  | snd a x q => cases h
  | rcv a x q => cases h
  | tau q => cases h
  | own x q => cases h
  | mat a x q => cases h
  | rep q => cases h
theorem with_same0 (t p q r : Tm) (h : t.parts = [p, q]) : (t.withP 0 r).withP 1 q = t.withP 0 r := by cases t <;> simp_all [Tm.parts, Tm.withP]
theorem with_same1 (t p q r : Tm) (h : t.parts = [p, q]) : (t.withP 0 p).withP 1 r = t.withP 1 r := by cases t <;> simp_all [Tm.parts, Tm.withP]

theorem two_free {w : World} {b : Nat} {x y : Value} {T : TypeId} (h : w.heap[b]? = some (.cells #[x, y] T (0, 0))) (j : Nat) : w.frozen? ⟨b, j, none⟩ = false := by simp [World.frozen?, h]
theorem two_set0 {w : World} {b : Nat} {x y : Value} {T : TypeId} (h : w.heap[b]? = some (.cells #[x, y] T (0, 0))) (v : Value) : (w.setCell ⟨b, 0, none⟩ v).heap[b]? = some (.cells #[v, y] T (0, 0)) := by
  have hlt := lt_of_block h
  have h' : w.heap[b] = .cells #[x, y] T (0, 0) := by simpa [Array.getElem?_eq_getElem hlt] using h
  show (w.heap.modify b _)[b]? = _
  rw [Array.getElem?_eq_getElem (by simpa using hlt), Array.getElem_modify_self, h']
  rfl
theorem two_set1 {w : World} {b : Nat} {x y : Value} {T : TypeId} (h : w.heap[b]? = some (.cells #[x, y] T (0, 0))) (v : Value) : (w.setCell ⟨b, 1, none⟩ v).heap[b]? = some (.cells #[x, v] T (0, 0)) := by
  have hlt := lt_of_block h
  have h' : w.heap[b] = .cells #[x, y] T (0, 0) := by simpa [Array.getElem?_eq_getElem hlt] using h
  show (w.heap.modify b _)[b]? = _
  rw [Array.getElem?_eq_getElem (by simpa using hlt), Array.getElem_modify_self, h']
  rfl
theorem cons_empty (c : UInt8) (l : List UInt8) : (B (c :: l)).toList.isEmpty = false := by rw [ByteArray.toList_eq]; rfl
theorem cons_ext (c : UInt8) (l : List UInt8) : (B (c :: l)).extract 1 (B (c :: l)).size = B l := by
  apply B_eq
  rw [ByteArray.data_extract, Array.toList_extract, B_list]
  simp [List.extract_eq_take_drop, B_size]
end Go.Proofs.Ytdfelpahacmdpaa.T1

/- A process with other parts; with another process at a path: in the specification. -/
namespace Go.Proofs.Ytdfelpahacmdpaa.T1
open Go.RowKit
set_option maxRecDepth 100000
set_option linter.unusedVariables false

theorem Try.infoS : (Try.prog.info? 9).map (fun i => (i.zero, i.size, i.bytes)) = some (some (.string ⟨#[]⟩), 1, 16) := by kernel_rfl
end Go.Proofs.Ytdfelpahacmdpaa.T1

/- Slices of texts: compared, marked, and asked for their marks. -/
namespace Go.Proofs.Ytdfelpahacmdpaa.T1
open Go.RowKit
set_option maxRecDepth 100000
set_option linter.unusedVariables false
set_option linter.unusedSimpArgs false

theorem st_go {u v w : World} (h : Below u.heap.size u v) (k : Below v.heap.size v w) : Below u.heap.size u w := below_trans h k h.size
/-- The digits of a number in front of a text. -/
def dgs : Nat → Nat → ByteArray → ByteArray
  | 0, _, acc => acc
  | f + 1, k, acc => if k = 0 then acc else dgs f (k / 10) (one (UInt8.ofNat (48 + k % 10)) ++ acc)
/-- The text that marks a place. -/
def mkT (k : Nat) : ByteArray := ⟨#[109]⟩ ++ dgs (k + 1) k ⟨#[]⟩
theorem conv_dig (k : Nat) (w : World) : (convert 49 9 (.slice (some ⟨w.heap.size, 0, none⟩) 1 1)).run Try.prog (w.alloc (.cells #[.int .u8 (48 + (k : Int) % 10)] 5)) = .ok (.string (one (UInt8.ofNat (48 + k % 10)))) (w.alloc (.cells #[.int .u8 (48 + (k : Int) % 10)] 5)) := by
  have h := conv1 (UInt8.ofNat (48 + k % 10)) w
  rw [show (((UInt8.ofNat (48 + k % 10)).toNat : Nat) : Int) = 48 + (k : Int) % 10 by rw [UInt8.toNat_ofNat']; omega] at h
  exact h
set_option maxHeartbeats 2000000 in
theorem markText_any (k : Nat) (h1 : 1 ≤ k) (h2 : k ≤ 1000000) (w : World) : Calls Try.prog 40 #[.int .i64 (k : Int)] w fun e w' => e = .returned (.string (mkT k)) ∧ Below w.heap.size w w' := by
  obtain ⟨R, hR⟩ : ∃ R, R = dgs (k + 1) k ⟨#[]⟩ := ⟨_, rfl⟩
  have hm : Hid (mkT k = ⟨#[109]⟩ ++ R) := by rw [hR]; rfl
  have HR := Lib.hid hR
  have k1 : (0 : Int) < (k : Int) := by omega
  clear hR
  go_enter Try.func40, Try.ntmps40
  go_wp2_with fail
  go_loopw [0, 3] (fun v a wr => ∃ (j f : Nat) (acc : ByteArray), v = .int .i64 (j : Int) ∧ a = .string acc ∧ Hid (dgs f j acc = R) ∧ j < f ∧ j ≤ 1000000 ∧ Hid (j * 10 ^ acc.size ≤ 1000000) ∧ acc.size ≤ 7 ∧ Below w.heap.size w wr) (fun v _ _ => (intOf v).toNat)
  case atStart => exact ⟨k, k + 1, ⟨#[]⟩, rfl, rfl, Lib.hid HR.out.symm, by omega, h2, by show k * 1 ≤ _; omega, by decide, Below.refl _ _⟩
  case round =>
    obtain ⟨j, f, acc, rfl, rfl, hd, hjf, hj, hp, ha, hbw⟩ := hrel
    by_cases hlt : (0 : Int) < (j : Int)
    · obtain ⟨f', rfl⟩ : ∃ f', f = f' + 1 := ⟨f - 1, by omega⟩
      have ha6 : acc.size ≤ 6 := by
        have hp' := hp.out
        have : 10 ^ acc.size ≤ 10 ^ 6 := by
          refine Nat.le_trans ?_ hp'
          exact Nat.le_mul_of_pos_left _ (by omega)
        exact (Nat.pow_le_pow_iff_right (by decide)).1 this
      have hcv := conv_dig j
      obtain ⟨D, hD⟩ : ∃ D, D = one (UInt8.ofNat (48 + j % 10)) := ⟨_, rfl⟩
      rw [← hD] at hcv
      have hDs : D.size ≤ 1 := by rw [hD]; exact Nat.le_refl _
      have hn : Hid (dgs f' (j / 10) (D ++ acc) = R) := by
        have := hd.out
        rw [dgs, if_neg (by omega), ← hD] at this
        exact this
      have hp2 : Hid (j / 10 * 10 ^ (D ++ acc).size ≤ 1000000) := by
        show _ ≤ _
        have hsz : (D ++ acc).size = acc.size + 1 := by rw [hD, ByteArray.size_append]; show 1 + _ = _; omega
        rw [hsz, Nat.pow_succ]
        refine Nat.le_trans ?_ hp.out
        rw [show j / 10 * (10 ^ acc.size * 10) = (j / 10 * 10) * 10 ^ acc.size by rw [Nat.mul_comm (10 ^ acc.size) 10, Nat.mul_assoc]]
        exact Nat.mul_le_mul_right _ (Nat.div_mul_le_self j 10)
      have hsz2 : (D ++ acc).size ≤ 7 := by rw [ByteArray.size_append]; omega
      clear hd hp hD
      go_wp2_with fail
      go_roundw
      case rel => exact ⟨j / 10, f', D ++ acc, by push_cast; rfl, rfl, hn, by omega, by omega, hp2, hsz2, hbw.alloc hbw.size _⟩
      case measure => simp [intOf]; omega
    · obtain rfl : j = 0 := by omega
      have hr : Hid (acc = R) := by
        have := hd.out
        cases f with
        | zero => exact this
        | succ f => rw [dgs, if_pos rfl] at this; exact this
      have hx : Hid ((⟨#[109]⟩ : ByteArray) ++ acc = mkT k) := by show _ = _; rw [hm.out, hr.out]
      have o1 : (⟨#[109]⟩ : ByteArray).size = 1 := rfl
      obtain ⟨O, hO⟩ : ∃ O, O = (⟨#[109]⟩ : ByteArray) := ⟨_, rfl⟩
      go_wp2_with fail
      go_ret
      exact ⟨by rw [← hx.out]; rfl, hbw⟩

/-- A slice of texts. -/
structure SRow (w : World) (v : Value) (g : Nat) (xs : List ByteArray) : Prop where
  ex : ∃ a c, v = .slice a xs.length c ∧ (xs ≠ [] → a = some ⟨g, 0, none⟩ ∧ ∃ C, w.heap[g]? = some (.cells C 9 (0, 0)) ∧ ∀ j (h : j < xs.length), C[j]? = some (.string xs[j]))
theorem SRow.below {w w' : World} {v : Value} {g : Nat} {xs : List ByteArray} (h : SRow w v g xs) (k : Below w.heap.size w w') : SRow w' v g xs := by
  obtain ⟨a, c, h1, h2⟩ := h.ex
  refine ⟨a, c, h1, fun hne => ?_⟩
  obtain ⟨h3, C, h4, h5⟩ := h2 hne
  exact ⟨h3, C, (k.block g (lt_of_block h4)).trans h4, h5⟩
theorem SRow.only {w w' : World} {v : Value} {g b : Nat} {xs : List ByteArray} (h : SRow w v g xs) (k : Only b w w') (hb : xs ≠ [] → g ≠ b) : SRow w' v g xs := by
  obtain ⟨a, c, h1, h2⟩ := h.ex
  refine ⟨a, c, h1, fun hne => ?_⟩
  obtain ⟨h3, C, h4, h5⟩ := h2 hne
  exact ⟨h3, C, (k.block g (lt_of_block h4) (hb hne)).trans h4, h5⟩
theorem SRow.lt {w : World} {v : Value} {g : Nat} {xs : List ByteArray} (h : SRow w v g xs) (hne : xs ≠ []) : g < w.heap.size := by
  obtain ⟨a, c, h1, h2⟩ := h.ex
  obtain ⟨h3, C, h4, h5⟩ := h2 hne
  exact lt_of_block h4
theorem w_ne (x : ByteArray) : (x.toList != x.toList) = false := by simp

set_option maxHeartbeats 1000000 in
theorem eq_0 (a1 a2 : Option Addr) (c1 c2 : Nat) (w : World) : Calls Try.prog 16 #[.slice a1 0 c1, .slice a2 0 c2] w fun e w' => e = .returned (.bool true) ∧ Below w.heap.size w w' := by
  go_enter Try.func16, Try.ntmps16
  go_wp2_with fail
  refine wp_loop_rounds 1 ?_
  rw [rounds_succ]
  go_wp2_with fail
  go_ret
  exact ⟨rfl, Below.refl _ _⟩
set_option maxHeartbeats 2000000 in
theorem eq_n (g1 g2 n c1 c2 : Nat) (C1 C2 : Array Value) (xs : List ByteArray) (hn : n = xs.length) (hnn : n ≤ 100000) (hx1 : ∀ j (h : j < xs.length), C1[j]? = some (.string xs[j])) (hx2 : ∀ j (h : j < xs.length), C2[j]? = some (.string xs[j])) (w : World) (h1 : w.heap[g1]? = some (.cells C1 9 (0, 0))) (h2 : w.heap[g2]? = some (.cells C2 9 (0, 0))) :
    Calls Try.prog 16 #[.slice (some ⟨g1, 0, none⟩) n c1, .slice (some ⟨g2, 0, none⟩) n c2] w fun e w' => e = .returned (.bool true) ∧ Below w.heap.size w w' := by
  have HX1 := Lib.hid hx1
  have HX2 := Lib.hid hx2
  have H1 := Lib.hid h1
  have H2 := Lib.hid h2
  have HN := Lib.hid hn
  clear hx1 hx2 h1 h2 hn
  go_enter Try.func16, Try.ntmps16
  go_wp2_with fail
  go_loopw [5] (fun v wr => ∃ i : Nat, i ≤ n ∧ v = .int .i64 (i : Int) ∧ Below w.heap.size w wr) (fun v _ => n - (intOf v).toNat)
  case atStart => exact ⟨0, Nat.zero_le _, rfl, Below.refl _ _⟩
  case round =>
    obtain ⟨i, hi, rfl, hbw⟩ := hrel
    by_cases hlt : i < n
    · have hlt2 : i < xs.length := by have := HN.out; omega
      have r1 := (hbw.block g1 (lt_of_block H1.out)).trans H1.out
      have r2 := (hbw.block g2 (lt_of_block H2.out)).trans H2.out
      have c1 : wr.cell? ⟨g1, i, none⟩ = some (.string (xs[i]'hlt2)) := by rw [cell_of_row wr g1 i C1 _ _ r1]; exact HX1.out i hlt2
      have c2 : wr.cell? ⟨g2, i, none⟩ = some (.string (xs[i]'hlt2)) := by rw [cell_of_row wr g2 i C2 _ _ r2]; exact HX2.out i hlt2
      obtain ⟨x, hx⟩ : ∃ x, x = xs[i]'hlt2 := ⟨_, rfl⟩
      rw [← hx] at c1 c2
      have hw := w_ne x
      have hlti : (i : Int) < (n : Int) := by omega
      clear hx r1 r2
      go_wp2_with fail
      go_quiet (fail)
      go_wp2_with fail
      go_roundw
      case rel => exact ⟨i + 1, by omega, by go_num, below_drewN' hbw _⟩
      case measure => simp [intOf]; omega
    · obtain rfl : i = n := by omega
      go_wp2_with fail
      go_ret
      exact ⟨rfl, hbw⟩
theorem eq_any (w : World) (v1 v2 : Value) (g1 g2 : Nat) (xs : List ByteArray) (hl : xs.length ≤ 100000) (h1 : SRow w v1 g1 xs) (h2 : SRow w v2 g2 xs) : Calls Try.prog 16 #[v1, v2] w fun e w' => e = .returned (.bool true) ∧ Below w.heap.size w w' := by
  obtain ⟨a1, c1, rfl, h3⟩ := h1.ex
  obtain ⟨a2, c2, rfl, h4⟩ := h2.ex
  cases xs with
  | nil => exact eq_0 _ _ _ _ w
  | cons x xs =>
    obtain ⟨rfl, C1, h5, h6⟩ := h3 (by simp)
    obtain ⟨rfl, C2, h7, h8⟩ := h4 (by simp)
    exact eq_n g1 g2 _ _ _ C1 C2 (x :: xs) rfl hl h6 h8 w h5 h7

/-- The marks from a number on. -/
def mks (k n : Nat) : List ByteArray := (List.range n).map fun i => mkT (k + i)
theorem mks_len (k n : Nat) : (mks k n).length = n := by simp [mks]
theorem mks_at (k n j : Nat) (h : j < (mks k n).length) : (mks k n)[j] = mkT (k + j) := by simp [mks]
set_option maxHeartbeats 1000000 in
theorem mk_0 (a : Option Addr) (c k : Nat) (w : World) : Calls Try.prog 17 #[.slice a 0 c, .int .i64 (k : Int)] w fun e w' => e = .returned (.int .i64 (k : Int)) ∧ w = w' := by
  go_enter Try.func17, Try.ntmps17
  go_wp2_with fail
  refine wp_loop_rounds 1 ?_
  rw [rounds_succ]
  go_wp2_with fail
  go_ret
  exact ⟨rfl, rfl⟩
/-- What marking leaves: the next number, the marks in the block, no other old block written. -/
def MkPost (g k n : Nat) (w : World) (e : Ending) (w' : World) : Prop := e = .returned (.int .i64 ((k + n : Nat) : Int)) ∧ (∃ C, w'.heap[g]? = some (.cells C 9 (0, 0)) ∧ ∀ j, j < n → C[j]? = some (.string (mkT (k + j)))) ∧ Only g w w'
set_option maxHeartbeats 2000000 in
theorem mk_n (g n c k : Nat) (C0 : Array Value) (hs : n ≤ C0.size) (hnn : n ≤ 100000) (hk1 : 1 ≤ k) (hk : k ≤ 100000) (w : World) (h1 : w.heap[g]? = some (.cells C0 9 (0, 0))) :
    Calls Try.prog 17 #[.slice (some ⟨g, 0, none⟩) n c, .int .i64 (k : Int)] w (MkPost g k n w) := by
  have H1 := Lib.hid h1
  have hgw := lt_of_block h1
  clear h1
  go_enter Try.func17, Try.ntmps17
  go_wp2_with fail
  go_loopw [1, 5] (fun vk v wr => ∃ (i : Nat) (C : Array Value), i ≤ n ∧ v = .int .i64 (i : Int) ∧ vk = .int .i64 ((k + i : Nat) : Int) ∧ Hid (C.size = C0.size) ∧ Hid (wr.heap[g]? = some (.cells C 9 (0, 0))) ∧ Hid (∀ j, j < i → C[j]? = some (.string (mkT (k + j)))) ∧ Only g w wr) (fun _ v _ => n - (intOf v).toNat)
  case atStart => exact ⟨0, C0, Nat.zero_le _, rfl, rfl, rfl, H1, fun j h => by omega, Only.refl _ _⟩
  case round =>
    obtain ⟨i, C, hi, rfl, rfl, hC, hg, hj, ho⟩ := hrel
    by_cases hlt : i < n
    · have hM := markText_any (k + i) (by omega) (by omega)
      obtain ⟨X, hX⟩ : ∃ X, X = mkT (k + i) := ⟨_, rfl⟩
      rw [← hX] at hM
      have HM : Hid (∀ w, Calls Try.prog 40 #[.int .i64 ((k : Int) + (i : Int))] w fun e w' => e = .returned (.string X) ∧ Below w.heap.size w w') := fun w => by have := hM w; push_cast at this; exact this
      obtain ⟨y, hy⟩ : ∃ y, C[i]? = some y := ⟨_, Array.getElem?_eq_getElem (by have := hC.out; omega)⟩
      have hlti : (i : Int) < (n : Int) := by omega
      have Hy := Lib.hid hy
      clear hM hy
      have HX := Lib.hid hX
      clear hX
      go_wp2_with fail
      refine (HM.out _).mono ?_
      rintro e w1 ⟨rfl, b1⟩
      have r1 := (b1.block g (lt_of_block hg.out)).trans hg.out
      have c1 : w1.cell? ⟨g, i, none⟩ = some y := by rw [cell_of_row w1 g i C _ _ r1]; exact Hy.out
      have f1 := frozen_of_row w1 g i C _ r1
      have G1 := Lib.hid (heap_setCell_same w1 g i C 9 (.string X) r1)
      have O1 := (ho.below b1).setCell i none (.string X)
      have HS : Hid ((C.setIfInBounds i (.string X)).size = C0.size) := by show _ = _; rw [Array.size_setIfInBounds]; exact hC.out
      have HJ : Hid (∀ j, j < i + 1 → (C.setIfInBounds i (.string X))[j]? = some (.string (mkT (k + j)))) := fun j h => by
        by_cases e : i = j
        · subst e
          rw [Array.getElem?_setIfInBounds_self_of_lt (by have := hC.out; omega), HX.out]
        · rw [Array.getElem?_setIfInBounds_ne e]; exact hj.out j (by omega)
      clear r1
      go_wp2_with fail
      go_roundw
      case rel => exact ⟨i + 1, _, by omega, by go_num, by push_cast; rw [Int.add_assoc], HS, G1, HJ, O1⟩
      case measure => simp [intOf]; omega
    · obtain rfl : i = n := by omega
      go_wp2_with fail
      go_ret
      exact ⟨by push_cast; rfl, ⟨C, hg.out, hj.out⟩, ho⟩
theorem mark_any (w : World) (v : Value) (g : Nat) (xs : List ByteArray) (hl : xs.length ≤ 100000) (k : Nat) (hk1 : 1 ≤ k) (hk : k ≤ 100000) (h : SRow w v g xs) : Calls Try.prog 17 #[v, .int .i64 (k : Int)] w fun e w' => e = .returned (.int .i64 ((k + xs.length : Nat) : Int)) ∧ SRow w' v g (mks k xs.length) ∧ Only g w w' := by
  obtain ⟨a, c, rfl, h3⟩ := h.ex
  cases xs with
  | nil => exact (mk_0 a c k w).mono fun e w' ⟨h1, h2⟩ => by subst h2; exact ⟨h1, ⟨⟨a, c, rfl, fun h => absurd rfl h⟩⟩, Only.refl _ _⟩
  | cons x xs =>
    obtain ⟨rfl, C, h5, h6⟩ := h3 (by simp)
    have hs : (x :: xs).length ≤ C.size := by
      have := h6 xs.length (by simp)
      rcases Nat.lt_or_ge xs.length C.size with h | h
      · simp; omega
      · rw [Array.getElem?_eq_none h] at this; cases this
    refine (mk_n g _ c k C hs hl hk1 hk w h5).mono fun e w' ⟨h1, ⟨C', h7, h8⟩, h9⟩ => ⟨h1, ⟨⟨some ⟨g, 0, none⟩, c, by rw [mks_len], fun _ => ⟨rfl, C', h7, fun j hj => ?_⟩⟩⟩, h9⟩
    rw [mks_at]
    exact h8 j (by rw [mks_len] at hj; exact hj)
set_option maxHeartbeats 1000000 in
theorem hd_0 (a : Option Addr) (c k : Nat) (w : World) : Calls Try.prog 18 #[.slice a 0 c, .int .i64 (k : Int)] w fun e w' => e = .returned (.int .i64 (k : Int)) ∧ w = w' := by
  go_enter Try.func18, Try.ntmps18
  go_wp2_with fail
  refine wp_loop_rounds 1 ?_
  rw [rounds_succ]
  go_wp2_with fail
  go_ret
  exact ⟨rfl, rfl⟩
set_option maxHeartbeats 2000000 in
theorem hd_n (g n c k : Nat) (C : Array Value) (hnn : n ≤ 100000) (hk1 : 1 ≤ k) (hk : k ≤ 100000) (w : World) (h1 : w.heap[g]? = some (.cells C 9 (0, 0))) (hj : ∀ j, j < n → C[j]? = some (.string (mkT (k + j)))) :
    Calls Try.prog 18 #[.slice (some ⟨g, 0, none⟩) n c, .int .i64 (k : Int)] w fun e w' => e = .returned (.int .i64 ((k + n : Nat) : Int)) ∧ Below w.heap.size w w' := by
  have H1 := Lib.hid h1
  have HJ := Lib.hid hj
  clear h1 hj
  go_enter Try.func18, Try.ntmps18
  go_wp2_with fail
  go_loopw [1, 5] (fun vk v wr => ∃ i : Nat, i ≤ n ∧ v = .int .i64 (i : Int) ∧ vk = .int .i64 ((k + i : Nat) : Int) ∧ Below w.heap.size w wr) (fun _ v _ => n - (intOf v).toNat)
  case atStart => exact ⟨0, Nat.zero_le _, rfl, rfl, Below.refl _ _⟩
  case round =>
    obtain ⟨i, hi, rfl, rfl, hbw⟩ := hrel
    by_cases hlt : i < n
    · have hM := markText_any (k + i) (by omega) (by omega)
      obtain ⟨X, hX⟩ : ∃ X, X = mkT (k + i) := ⟨_, rfl⟩
      rw [← hX] at hM
      have HM : Hid (∀ w, Calls Try.prog 40 #[.int .i64 ((k : Int) + (i : Int))] w fun e w' => e = .returned (.string X) ∧ Below w.heap.size w w') := fun w => by have := hM w; push_cast at this; exact this
      have r1 := (hbw.block g (lt_of_block H1.out)).trans H1.out
      have c1 : wr.cell? ⟨g, i, none⟩ = some (.string X) := by rw [cell_of_row wr g i C _ _ r1, hX]; exact HJ.out i hlt
      have cd : wr.drew.cell? ⟨g, i, none⟩ = some (.string X) := c1
      have hgr := lt_of_block r1
      have hlti : (i : Int) < (n : Int) := by omega
      have hw := w_ne X
      clear hM hX r1
      go_wp2_with fail
      go_cut [18] (fun s18 wx => s18 = .bool false ∧ Below w.heap.size w wx)
      case first =>
        go_region_with ((go_at_call 40; refine (HM.out _).mono ?_; rintro e w1 ⟨rfl, b1⟩; have q1 := (b1.cell (p := ⟨g, i, none⟩) hgr).trans c1; have k1 := st_go hbw.drew b1))
        all_goals (go_wp2_with fail; go_meet; exact ⟨rfl, k1⟩)
      case rest =>
        obtain ⟨rfl, hbx⟩ := hcut
        go_wp2_with fail
        go_roundw
        case rel => exact ⟨i + 1, by omega, by go_num, by push_cast; rw [Int.add_assoc], hbx⟩
        case measure => simp [intOf]; omega
    · obtain rfl : i = n := by omega
      go_wp2_with fail
      go_ret
      exact ⟨by push_cast; rfl, hbw⟩
theorem held_any (w : World) (v : Value) (g n : Nat) (hl : n ≤ 100000) (k : Nat) (hk1 : 1 ≤ k) (hk : k ≤ 100000) (h : SRow w v g (mks k n)) : Calls Try.prog 18 #[v, .int .i64 (k : Int)] w fun e w' => e = .returned (.int .i64 ((k + n : Nat) : Int)) ∧ Below w.heap.size w w' := by
  obtain ⟨a, c, rfl, h3⟩ := h.ex
  rw [mks_len]
  cases n with
  | zero => exact (hd_0 a c k w).mono fun e w' ⟨h1, h2⟩ => by subst h2; exact ⟨h1, Below.refl _ _⟩
  | succ n =>
    obtain ⟨rfl, C, h5, h6⟩ := h3 (by intro h; have := congrArg List.length h; rw [mks_len] at this; simp at this)
    exact hd_n g _ c k C hl hk1 hk w h5 (fun j hj => by have := h6 j (by rw [mks_len]; exact hj); rw [mks_at] at this; exact this)

end Go.Proofs.Ytdfelpahacmdpaa.T1

/- What both sides answer: the names by their sorts. MADE BY gen_Qg.py. -/
namespace Go.Proofs.Ytdfelpahacmdpaa.T1
open Go.RowKit
set_option maxRecDepth 100000
set_option linter.unusedVariables false
set_option linter.unusedSimpArgs false

/-- Of a row of letters: those that are the first of their class; the classes in their order. -/
def hdC (F : List UInt8) (p : UInt8 → UInt8 → Bool) (a : UInt8) : Bool := (F.filter (p a)).head? == some a
def outC (F : List UInt8) (p : UInt8 → UInt8 → Bool) : List ByteArray := (F.filter (hdC F p)).map fun a => B (F.filter (p a))
def preC (F : List UInt8) (p : UInt8 → UInt8 → Bool) (i : Nat) : List ByteArray := ((F.take i).filter (hdC F p)).map fun a => B (F.filter (p a))
theorem preC_zero (F : List UInt8) (p : UInt8 → UInt8 → Bool) : preC F p 0 = [] := rfl
theorem preC_all (F : List UInt8) (p : UInt8 → UInt8 → Bool) : preC F p F.length = outC F p := by unfold preC outC; rw [List.take_length]
theorem preC_yes (F : List UInt8) (p : UInt8 → UInt8 → Bool) (i : Nat) (h : i < F.length) (e : hdC F p F[i] = true) : preC F p (i + 1) = preC F p i ++ [B (F.filter (p F[i]))] := by
  unfold preC
  rw [filter_snoc _ i h, e, List.map_append]; rfl
theorem preC_no (F : List UInt8) (p : UInt8 → UInt8 → Bool) (i : Nat) (h : i < F.length) (e : hdC F p F[i] = false) : preC F p (i + 1) = preC F p i := by
  unfold preC
  rw [filter_snoc _ i h, e]; simp
theorem preC_len (F : List UInt8) (p : UInt8 → UInt8 → Bool) (i : Nat) (h : F.length ≤ 26) : (preC F p i).length ≤ 26 := by
  unfold preC
  rw [List.length_map]
  have h1 := List.length_filter_le (hdC F p) (F.take i)
  have h2 : (F.take i).length ≤ F.length := by rw [List.length_take]; omega
  omega
/-- The first of its class: none before it is of the class. -/
theorem hdC_iff {F : List UInt8} (hn : F.Nodup) (p : UInt8 → UInt8 → Bool) (i : Nat) (h : i < F.length) (hr : p F[i] F[i] = true) : hdC F p F[i] = true ↔ ∀ j (hj : j < F.length), j < F.length → p F[i] F[j] = true → i ≤ j := by
  have hF : F.filter (p F[i]) = (F.take i).filter (p F[i]) ++ F[i] :: (F.drop (i + 1)).filter (p F[i]) := by
    have e := congrArg (List.filter (p F[i])) (List.take_append_drop i F).symm
    exact e.trans (by rw [List.filter_append, List.drop_eq_getElem_cons h, List.filter_cons, if_pos hr])
  unfold hdC
  rw [hF]
  constructor
  · intro e j hj _ hp
    by_cases hji : i ≤ j
    · exact hji
    · exfalso
      have hm : F[j] ∈ (F.take i).filter (p F[i]) := by
        rw [List.mem_filter]
        exact ⟨List.mem_take_iff_getElem.2 ⟨j, by omega, rfl⟩, hp⟩
      cases ec : (F.take i).filter (p F[i]) with
      | nil => rw [ec] at hm; cases hm
      | cons x xs =>
        rw [ec] at e
        simp only [List.cons_append, List.head?_cons, beq_iff_eq, Option.some.injEq] at e
        have hx : x ∈ F.take i := (List.mem_filter.1 (by rw [ec]; exact List.mem_cons_self)).1
        obtain ⟨k, hk, ek⟩ := List.mem_take_iff_getElem.1 hx
        rw [e] at ek
        have := (List.getElem_inj hn).1 ek
        omega
  · intro hall
    cases ec : (F.take i).filter (p F[i]) with
    | nil => simp
    | cons x xs =>
      exfalso
      have hx := List.mem_filter.1 (show x ∈ (F.take i).filter (p F[i]) by rw [ec]; exact List.mem_cons_self)
      obtain ⟨k, hk, ek⟩ := List.mem_take_iff_getElem.1 hx.1
      have := hall k (by omega) (by omega) (by rw [ek]; exact hx.2)
      omega
/-- None so far stands before i. -/
noncomputable def fbC (F : List UInt8) (q : UInt8 → Bool) (i j : Nat) : Bool := decB (∀ k (hk : k < F.length), k < j → q F[k] = true → i ≤ k)
theorem fbC_zero (F : List UInt8) (q : UInt8 → Bool) (i : Nat) : fbC F q i 0 = true := (decB_iff _).2 fun k _ h => by omega
theorem fbC_no (F : List UInt8) (q : UInt8 → Bool) (i j : Nat) (h : j < F.length) (e : q F[j] = false) : fbC F q i (j + 1) = fbC F q i j := decB_congr ⟨fun a k hk hj => a k hk (by omega), fun a k hk hj hq => by
  by_cases ek : k = j
  · subst ek; rw [e] at hq; cases hq
  · exact a k hk (by omega) hq⟩
theorem fbC_yes (F : List UInt8) (q : UInt8 → Bool) (i j : Nat) (h : j < F.length) (e : q F[j] = true) : fbC F q i (j + 1) = (fbC F q i j && decide (i ≤ j)) := by
  rw [Bool.eq_iff_iff]
  unfold fbC
  rw [decB_iff, Bool.and_eq_true, decB_iff, decide_eq_true_eq]
  exact ⟨fun a => ⟨fun k hk hj => a k hk (by omega), a j h (by omega) e⟩, fun ⟨a, b⟩ k hk hj hq => by
    by_cases ek : k = j
    · subst ek; exact b
    · exact a k hk (by omega) hq⟩
theorem fbC_all {F : List UInt8} (hn : F.Nodup) (p : UInt8 → UInt8 → Bool) (i : Nat) (h : i < F.length) (hr : p F[i] F[i] = true) : fbC F (p F[i]) i F.length = hdC F p F[i] := by
  rw [Bool.eq_iff_iff, hdC_iff hn p i h hr]
  exact decB_iff _
theorem own_low6 {w : World} {b c n : Nat} {e : TypeId} {v : Value} {xs : List Value} (h : w.ownsRow b e 1 v n xs) (hc : c ≤ b) : w.ownsRow c e 1 v n xs := by
  refine ⟨h.1, ?_⟩
  rcases h.2 with h | ⟨g, cap, cur, e1, e2, e3⟩
  · exact .inl h
  · exact .inr ⟨g, cap, cur, e1, Nat.le_trans hc e2, e3⟩
theorem head6_any {F : List UInt8} (p : UInt8 → UInt8 → Bool) (a : UInt8) (ha : a ∈ F) (hr : p a a = true) (X : ByteArray) (hX : X = B (F.filter (p a))) : ∃ h : 0 < X.size, (((X[0]'h).toNat : Int) == (a.toNat : Int)) = hdC F p a := by
  subst hX
  have hm : a ∈ F.filter (p a) := List.mem_filter.2 ⟨ha, hr⟩
  unfold hdC
  cases e : F.filter (p a) with
  | nil => rw [e] at hm; cases hm
  | cons x xs =>
    have h0 : 0 < (B (x :: xs)).size := by rw [B_size]; simp
    refine ⟨h0, ?_⟩
    rw [byte_of (B_list (x :: xs)) 0 h0 (by simp)]
    rw [Bool.eq_iff_iff]
    simp only [List.getElem_cons_zero, List.head?_cons, beq_iff_eq, Option.some.injEq]
    exact ⟨fun h => UInt8.toNat_inj.1 (by omega), fun h => by rw [h]⟩
theorem sap_len (xs : List ByteArray) : (xs.map Value.string).length = xs.length := List.length_map _
noncomputable def pC (t : Tm) (a y : UInt8) : Bool := decB (same6 t a y)
theorem pC_refl (t : Tm) (a : UInt8) : pC t a a = true := (decB_iff _).2 (.refl _)
set_option maxHeartbeats 1000000 in
theorem cls_s0 (s : ByteArray) (HG : (∀ w, Calls Try.prog 27 #[.string s] w fun e w' => e = .returned (.bool false) ∧ Below w.heap.size w w')) (w : World) : Calls Try.prog 14 #[.string s] w fun e w' => ∃ v, e = .returned (.tuple #[v, .bool false]) ∧ w'.ownsRow w.heap.size 9 1 v 0 [] ∧ Below w.heap.size w w' := by
  have H := Lib.hid HG
  clear HG
  go_enter Try.func14, Try.ntmps14
  go_wp2_with fail
  refine (H.out _).mono ?_
  rintro e w1 ⟨rfl, b1⟩
  go_wp2_with fail
  go_ret2
  exact ⟨_, rfl, World.ownsRow_nil _ _ _ _, b1⟩
set_option maxHeartbeats 1000000 in
theorem cls_i0 (s : ByteArray) (HO : (∀ w, Calls Try.prog 30 #[.string s] w fun e w' => e = .returned (.tuple #[.pointer none, .bool false]) ∧ Below w.heap.size w w')) (w : World) : Calls Try.prog 15 #[.string s] w fun e w' => ∃ v, e = .returned (.tuple #[v, .bool false]) ∧ w'.ownsRow w.heap.size 9 1 v 0 [] ∧ Below w.heap.size w w' := by
  have H := Lib.hid HO
  clear HO
  go_enter Try.func15, Try.ntmps15
  go_wp2_with fail
  refine (H.out _).mono ?_
  rintro e w1 ⟨rfl, b1⟩
  go_wp2_with fail
  go_ret2
  exact ⟨_, rfl, World.ownsRow_nil _ _ _ _, b1⟩
set_option maxHeartbeats 4000000 in
theorem cls_s1 (s : ByteArray) (t : Tm) (hl : Lets t.free) (h60 : t.size ≤ 60) (HG : (∀ w, Calls Try.prog 27 #[.string s] w fun e w' => e = .returned (.bool true) ∧ Below w.heap.size w w')) (HO : (∀ w, Calls Try.prog 29 #[.string s] w fun e w' => (∃ b, e = .returned (.pointer (some ⟨b, 0, none⟩)) ∧ w.heap.size ≤ b ∧ SpSo w' b t) ∧ Below w.heap.size w w')) (HF : (∀ w, Calls Try.prog 36 #[.string s] w fun e w' => e = .returned (.string (B t.free)) ∧ Below w.heap.size w w')) (p : UInt8 → UInt8 → Bool) (hp : p = pC t) (w : World) : Calls Try.prog 14 #[.string s] w fun e w' => ∃ v, e = .returned (.tuple #[v, .bool true]) ∧ w'.ownsRow w.heap.size 9 1 v (outC t.free p).length ((outC t.free p).map Value.string) ∧ Below w.heap.size w w' := by
  obtain ⟨i0, hi, hz0, hz1, hz2⟩ := info_parts Try.infoS
  have XHG := Lib.hid HG
  have XHO := Lib.hid HO
  have XHF := Lib.hid HF
  have hm := srt_lenL (srt_free t) hl
  have XR := Lib.hid (fun (w1 : World) (b i : Nat) (hi : i < t.free.length) (h : SpSo w1 b t) => show ∃ r : Nat → Nat, (∀ k, k < t.free.length → Calls Try.prog 33 #[.pointer (some ⟨b, 0, none⟩), .int .i64 (k : Int)] w1 fun e w' => e = .returned (.int .i64 (r k : Int)) ∧ w1 = w') ∧ ∀ j (hj : j < t.free.length), ((r i : Int) == (r j : Int)) = p t.free[i] t.free[j] by
    obtain ⟨r, h1, h2⟩ := sb_root h
    refine ⟨r, fun k hk => h1 k (Nat.lt_of_lt_of_le hk (NS t).1), fun j hj => ?_⟩
    have := same_dec t (List.getElem_mem hi) (List.getElem_mem hj) h2 hl
    rw [idx6_get t hi, idx6_get t hj] at this
    rw [this, hp]; rfl)
  have HX1 := Lib.hid (fun q => fil_yes t.free q)
  have HX2 := Lib.hid (fun q => fil_no t.free q)
  have HX3 := Lib.hid (fun q i => fil_len t.free q i hm)
  have HP3 := Lib.hid (fun i => preC_len t.free p i hm)
  have HALL := Lib.hid (fun i (h : i < t.free.length) => fbC_all (nd6 t) p i h (by rw [hp]; exact pC_refl t _))
  clear HG HO HF h60 hl hp
  obtain ⟨XF, hXF⟩ : ∃ XF, XF = B t.free := ⟨_, rfl⟩
  have hs1 : XF.size ≤ t.free.length := by rw [hXF, B_size]; exact Nat.le_refl _
  have hs2 : t.free.length ≤ XF.size := by rw [hXF, B_size]; exact Nat.le_refl _
  rw [← hXF] at XHF HX1
  clear hXF
  go_enter Try.func14, Try.ntmps14
  have bl : Below w.heap.size w w := Below.refl _ _
  go_wp2_with fail
  refine (XHG.out _).mono ?_
  rintro e w1 ⟨rfl, b1⟩
  replace bl := go6 bl b1
  clear b1
  go_wp2_with fail
  refine (XHO.out _).mono ?_
  rintro e w1 ⟨⟨b, rfl, hb, hs⟩, b1⟩
  replace bl := go6 bl b1
  have HS := Lib.hid hs
  clear b1 hs
  go_wp2_with fail
  refine (XHF.out _).mono ?_
  rintro e w2 ⟨rfl, b1⟩
  replace bl := go6 bl b1
  have HS := Lib.hid (HS.out.below b1)
  clear b1
  have BL := Lib.hid bl
  clear bl
  go_wp2_with fail
  go_loopg [6, 7] t.free.length (fun gk s6 s7 wr => (∃ i : Nat, s7 = .int .i64 (i : Int) ∧ i + gk = t.free.length ∧ Hid (wr.ownsRow w2.heap.size 9 1 s6 (preC t.free p i).length ((preC t.free p i).map Value.string))) ∧ Hid (Below w2.heap.size w2 wr))
  case atStart => exact ⟨⟨0, rfl, by omega, World.ownsRow_nil _ _ _ _⟩, Below.refl _ _⟩
  case round =>
    obtain ⟨⟨i, rfl, hg, ho⟩, bw⟩ := hrel
    by_cases hi2 : i < t.free.length
    · have q0 : (i : Int) < (XF.size : Int) := by omega
      obtain ⟨r, hr1, hr2⟩ := XR.out wr _ i hi2 (HS.out.below bw.out)
      have R1 := Lib.hid hr1
      have R2 := Lib.hid hr2
      have Ri := Lib.hid (hr1 i hi2)
      have hall := HALL.out i hi2
      have yp := Lib.hid (preC_yes t.free p i hi2)
      have np := Lib.hid (preC_no t.free p i hi2)
      have hpl := HP3.out i
      obtain ⟨q, hq⟩ : ∃ q, q = p t.free[i] := ⟨_, rfl⟩
      have R2q := Lib.hid (fun j hj => show ((r i : Int) == (r j : Int)) = q t.free[j] by rw [hq]; exact hr2 j hj)
      rw [← hq] at hall yp
      obtain ⟨ri, hri⟩ : ∃ ri, ri = r i := ⟨_, rfl⟩
      rw [← hri] at Ri R2q
      have hll := HX3.out q
      have Y1 := Lib.hid (HX1.out q)
      have Y2 := Lib.hid (HX2.out q)
      have FB1 := Lib.hid (fbC_yes t.free q i)
      have FB2 := Lib.hid (fbC_no t.free q i)
      have HLL := Lib.hid hll
      have HAL := Lib.hid hall
      have hsz := bw.out.size
      clear hr1 hr2 hq hri hll R2 hall
      go_wp2_with fail
      go_loopg [8, 9, 10] t.free.length (fun gk s8 s9 s10 w5 => (∃ j : Nat, s10 = .int .i64 (j : Int) ∧ s8 = .string (B ((t.free.take j).filter q)) ∧ s9 = .bool (fbC t.free q i j) ∧ j + gk = t.free.length) ∧ w5 = wr)
      case atStart => exact ⟨⟨0, rfl, rfl, by rw [fbC_zero], by omega⟩, rfl⟩
      case round =>
        obtain ⟨⟨j, rfl, rfl, rfl, hg2⟩, rfl⟩ := hrel
        have f26 := HLL.out j
        by_cases hj : j < t.free.length
        · have q0 : (j : Int) < (XF.size : Int) := by omega
          have q1 : (j : Int) + 1 ≤ (XF.size : Int) := by omega
          have q2 : (j : Int) ≤ (j : Int) + 1 := by omega
          have q3 := R2q.out j hj
          have Rj := Lib.hid (R1.out j hj)
          have hsl : (XF.extract j (j + 1)).size ≤ 1 := by rw [ByteArray.size_extract]; omega
          have y1 := Lib.hid (Y1.out j hj)
          have y2 := Lib.hid (Y2.out j hj)
          have z1 := Lib.hid (FB1.out j hj)
          have z2 := Lib.hid (FB2.out j hj)
          obtain ⟨s0, hs0⟩ : ∃ s0, s0 = B ((t.free.take j).filter q) := ⟨_, rfl⟩
          rw [← hs0] at f26 y1 y2 ⊢
          obtain ⟨fb, hfb⟩ : ∃ fb, fb = fbC t.free q i j := ⟨_, rfl⟩
          rw [← hfb] at z1 z2 ⊢
          have hcat : ¬ 9223372036854775807 < s0.size + (XF.extract j (j + 1)).size := by omega
          obtain ⟨rj, hrj⟩ : ∃ rj, rj = r j := ⟨_, rfl⟩
          rw [← hrj] at Rj q3
          clear hs0 hrj hfb
          cases e : q t.free[j] with
          | true =>
            have y := Lib.hid (y1.out e)
            have z := Lib.hid (z1.out e)
            rw [e] at q3
            clear e y1 y2 z1 z2
            by_cases hij : i ≤ j
            · have hij2 : (i : Int) ≤ (j : Int) := by omega
              have hd : decide (i ≤ j) = true := decide_eq_true hij
              rw [hd] at z
              cases fb
              all_goals
                go_wp2_with fail
                refine (Ri.out).mono ?_
                rintro e w3 ⟨rfl, rfl⟩
                go_wp2_with fail
                refine (Rj.out).mono ?_
                rintro e w3 ⟨rfl, rfl⟩
                go_wp2_with fail
                go_roundg (gk - 1)
                case measure => omega
                case rel => exact ⟨⟨j + 1, by go_num, by rw [← y.out], by rw [z.out]; rfl, by omega⟩, rfl⟩
            · have hij2 : (j : Int) < (i : Int) := by omega
              have hij3 : ¬ (i : Int) ≤ (j : Int) := by omega
              have hd : decide (i ≤ j) = false := decide_eq_false hij
              rw [hd] at z
              cases fb
              all_goals
                go_wp2_with fail
                refine (Ri.out).mono ?_
                rintro e w3 ⟨rfl, rfl⟩
                go_wp2_with fail
                refine (Rj.out).mono ?_
                rintro e w3 ⟨rfl, rfl⟩
                go_wp2_with fail
                go_roundg (gk - 1)
                case measure => omega
                case rel => exact ⟨⟨j + 1, by go_num, by rw [← y.out], by rw [z.out]; rfl, by omega⟩, rfl⟩
          | false =>
            have y := Lib.hid (y2.out e)
            have z := Lib.hid (z2.out e)
            rw [e] at q3
            clear e y1 y2 z1 z2
            go_wp2_with fail
            refine (Ri.out).mono ?_
            rintro e w3 ⟨rfl, rfl⟩
            go_wp2_with fail
            refine (Rj.out).mono ?_
            rintro e w3 ⟨rfl, rfl⟩
            go_wp2_with fail
            go_roundg (gk - 1)
            case measure => omega
            case rel => exact ⟨⟨j + 1, by go_num, by rw [← y.out], by rw [z.out], by omega⟩, rfl⟩
        · obtain rfl : j = t.free.length := by omega
          have hfb := HAL.out
          rw [List.take_length]
          obtain ⟨s0, hs0⟩ : ∃ s0, s0 = B (t.free.filter q) := ⟨_, rfl⟩
          rw [← hs0] at yp ⊢
          have f27 : s0.size ≤ 26 := by rw [hs0, ← List.take_length (l := t.free)]; exact f26
          clear hs0 f26
          cases e : hdC t.free p t.free[i] with
          | true =>
            have Y := Lib.hid (yp.out e)
            rw [hfb, e]
            clear hfb e yp np
            go_wp2_with (at_builtin; refine wpList_append_rows rfl (.tmp 51) (.tmp 53) 27 rfl w2.heap.size w2.heap.size 9 i0 (.string ⟨#[]⟩) 16 Try.underlying27 hi hz0 hz1 hz2 rfl u6 (preC t.free p i).length _ rfl (ho.out.alloc _) _ 1 [.string s0] rfl (own_new1 _ (.string s0) 9 w2.heap.size hsz) (fun u hu => by simp at hu; subst hu; rfl) ?c2 ?c3 ?c4 ?_)
            case c2 => unfold maxLen; omega
            case c3 => omega
            case c4 => simp; omega
            intro v3 w3 hown3 hgrow3 _
            have O3 : Hid (w3.ownsRow w2.heap.size 9 1 v3 (preC t.free p (i + 1)).length ((preC t.free p (i + 1)).map Value.string)) := by
              show World.ownsRow _ _ _ _ _ _ _
              rw [Y.out, List.map_append, List.length_append]; exact hown3
            have hol : ∀ g, u6.ownBlock = some g → w2.heap.size ≤ g := fun g e => (ho.out.lt g e).1
            have B3 := Lib.hid (below_grown2 (bw.out.alloc hsz _) hgrow3 (fun g e => hol g e) (by simp; omega))
            clear hown3 hgrow3 hol ho bw
            go_wp2_with fail
            go_roundg (t.free.length - (i + 1))
            case measure => omega
            case rel => exact ⟨⟨i + 1, by go_num, by omega, O3⟩, B3⟩
          | false =>
            have Y := Lib.hid (np.out e)
            rw [hfb, e]
            have O3 : Hid (wr.ownsRow w2.heap.size 9 1 u6 (preC t.free p (i + 1)).length ((preC t.free p (i + 1)).map Value.string)) := by
              show World.ownsRow _ _ _ _ _ _ _
              rw [Y.out]; exact ho.out
            clear hfb e yp np ho
            go_wp2_with fail
            go_roundg (t.free.length - (i + 1))
            case measure => omega
            case rel => exact ⟨⟨i + 1, by go_num, by omega, O3⟩, bw⟩
    · obtain rfl : i = t.free.length := by omega
      have ho2 := ho.out
      rw [preC_all] at ho2
      have HO2 := Lib.hid ho2
      clear ho ho2
      go_wp2_with fail
      go_ret2
      exact ⟨_, rfl, own_low6 HO2.out BL.out.size, go6 BL.out bw.out⟩
set_option maxHeartbeats 4000000 in
theorem cls_i1 (s : ByteArray) (t : Tm) (hl : Lets t.free) (h60 : t.size ≤ 60) (HO : (∀ w, Calls Try.prog 30 #[.string s] w fun e w' => (∃ b, e = .returned (.tuple #[.pointer (some ⟨b, 0, none⟩), .bool true]) ∧ w.heap.size ≤ b ∧ ImSo w' b t) ∧ Below w.heap.size w w')) (p : UInt8 → UInt8 → Bool) (hp : p = pC t) (w : World) : Calls Try.prog 15 #[.string s] w fun e w' => ∃ v, e = .returned (.tuple #[v, .bool true]) ∧ w'.ownsRow w.heap.size 9 1 v (outC t.free p).length ((outC t.free p).map Value.string) ∧ Below w.heap.size w w' := by
  obtain ⟨i0, hi, hz0, hz1, hz2⟩ := info_parts Try.infoS
  have XHO := Lib.hid HO
  have h26 := srt_lenL (srt_free t) hl
  have HLt := letters_any (setN t.free) (setN_lt32 _ hl)
  rw [lets_setN t.free (srt_free t) hl] at HLt
  have HF := Lib.hid hl
  have XN := Lib.hid (fun (w1 : World) (b : Nat) (a : UInt8) (ha : a ∈ t.free) (h : ImSo w1 b t) => show Calls Try.prog 38 #[.pointer (some ⟨b, 0, none⟩), .int .i64 (lt6 a : Int)] w1 fun e w' => e = .returned (.string (B (t.free.filter (p a)))) ∧ Below w1.heap.size w1 w' by
    have := ib_namesOf h hl h26 (lt6_lt hl ha)
    rw [show (t.free.filter fun y => decB (Eqv (S6 (ask6 t lt6 26).1) (C6 (ask6 t lt6 26).1) (lt6 y) (lt6 a))) = t.free.filter (p a) from by
      congr 1
      funext y
      rw [hp]
      exact decB_congr ⟨fun e => e.symm, fun e => e.symm⟩] at this
    exact this)
  have HHD := Lib.hid (fun a (ha : a ∈ t.free) => head6_any (F := t.free) p a ha (by rw [hp]; exact pC_refl t a))
  have HP3 := Lib.hid (fun i => preC_len t.free p i h26)
  have HPY := Lib.hid (fun i (h : i < t.free.length) => preC_yes t.free p i h)
  have HPN := Lib.hid (fun i (h : i < t.free.length) => preC_no t.free p i h)
  have CU := Lib.hid (fun (w1 : World) (b : Nat) (h : ImSo w1 b t) => Sta.u_at h)
  obtain ⟨U, hU⟩ : ∃ U, U = setN t.free := ⟨_, rfl⟩
  rw [← hU] at HLt CU
  have HL2 := Lib.hid HLt
  clear HO HLt hU hl hp h60
  go_enter Try.func15, Try.ntmps15
  have bl : Below w.heap.size w w := Below.refl _ _
  go_wp2_with fail
  refine (XHO.out _).mono ?_
  rintro e w1 ⟨⟨b, rfl, hb, hs⟩, b1⟩
  replace bl := go6 bl b1
  have HS := Lib.hid hs
  clear b1 hs
  have cu := CU.out _ _ HS.out
  go_wp2_with fail
  refine (HL2.out _).mono ?_
  rintro e w2 ⟨v1, rfl, o1, b1⟩
  obtain ⟨p1, c1, rfl⟩ : ∃ p c, v1 = .slice p t.free.length c := by
    rcases o1.2 with ⟨h1, h0⟩ | ⟨g, cap, cur, hv, _⟩
    · exact ⟨none, 0, by rw [h1, h0]⟩
    · exact ⟨_, cap, hv⟩
  have HS := Lib.hid (HS.out.below b1)
  replace bl := go6 bl b1
  have O1 := Lib.hid o1
  have BL := Lib.hid bl
  clear o1 cu b1 bl
  go_wp2_with fail
  go_loopg [6, 23] t.free.length (fun gk s6 s23 wr => (∃ i : Nat, s23 = .int .i64 (i : Int) ∧ i + gk = t.free.length ∧ Hid (wr.ownsRow w2.heap.size 9 1 s6 (preC t.free p i).length ((preC t.free p i).map Value.string))) ∧ Hid (Below w2.heap.size w2 wr))
  case atStart => exact ⟨⟨0, rfl, by omega, World.ownsRow_nil _ _ _ _⟩, Below.refl _ _⟩
  case round =>
    obtain ⟨⟨i, rfl, hg, ho⟩, bw⟩ := hrel
    by_cases hi2 : i < t.free.length
    · obtain ⟨g1, hp1⟩ : ∃ g1, p1 = some ⟨g1, 0, none⟩ := by
        rcases O1.out.2 with ⟨h1, h0⟩ | ⟨g, cap, cur, hv, _⟩
        · omega
        · simp only [Value.slice.injEq] at hv; exact ⟨g, hv.1⟩
      subst hp1
      have g1lt := (O1.out.lt g1 rfl).2
      have ci := (bw.out.cell (p := ⟨g1, i, none⟩) (by show g1 < w2.heap.size; exact g1lt)).trans ((O1.out.cellAt i (by omega)).trans (show (t.free.map ub)[i]? = some (.int .u8 ((t.free[i].toNat : Nat) : Int)) from by simp [hi2, ub]))
      have hli := HF.out _ (List.getElem_mem hi2)
      have HSL := Lib.hid (fun w => letterSort_any t.free[i] hli.1 hli.2 w)
      have HCN := Lib.hid (XN.out wr _ t.free[i] (List.getElem_mem hi2) (HS.out.below bw.out))
      have yp := Lib.hid (HPY.out i hi2)
      have np := Lib.hid (HPN.out i hi2)
      have hpl := HP3.out i
      obtain ⟨X, hX⟩ : ∃ X, X = B (t.free.filter (p t.free[i])) := ⟨_, rfl⟩
      obtain ⟨h0, hq⟩ := HHD.out t.free[i] (List.getElem_mem hi2) X hX
      rw [← hX] at HCN yp
      obtain ⟨c, hc⟩ : ∃ c, c = t.free[i] := ⟨_, rfl⟩
      rw [← hc] at ci HSL HCN hq yp np hli
      clear hc hX
      cases e : hdC t.free p c with
      | true =>
        have Y := Lib.hid (yp.out e)
        rw [e] at hq
        clear e yp np
        go_wp2_with fail
        refine (HSL.out _).mono ?_
        rintro e w3 ⟨rfl, rfl⟩
        go_wp2_with fail
        refine (HCN.out).mono ?_
        rintro e w3 ⟨rfl, b3⟩
        have ho3 := Lib.hid (own_below2 ho.out b3)
        have bw3 := Lib.hid (go6 bw.out b3)
        have hsz := bw3.out.size
        clear b3 ci ho bw
        go_wp2_with (at_builtin; refine wpList_append_rows rfl (.tmp 35) (.tmp 37) 27 rfl w2.heap.size w2.heap.size 9 i0 (.string ⟨#[]⟩) 16 Try.underlying27 hi hz0 hz1 hz2 rfl u6 (preC t.free p i).length _ rfl (ho3.out.alloc _) _ 1 [.string X] rfl (own_new1 _ (.string X) 9 w2.heap.size hsz) (fun u hu => by simp at hu; subst hu; rfl) ?c2 ?c3 ?c4 ?_)
        case c2 => unfold maxLen; omega
        case c3 => omega
        case c4 => simp; omega
        intro v4 w4 hown3 hgrow3 _
        have O3 : Hid (w4.ownsRow w2.heap.size 9 1 v4 (preC t.free p (i + 1)).length ((preC t.free p (i + 1)).map Value.string)) := by
          show World.ownsRow _ _ _ _ _ _ _
          rw [Y.out, List.map_append, List.length_append]; exact hown3
        have hol : ∀ g, u6.ownBlock = some g → w2.heap.size ≤ g := fun g e => (ho3.out.lt g e).1
        have B3 := Lib.hid (below_grown2 (bw3.out.alloc hsz _) hgrow3 (fun g e => hol g e) (by simp; omega))
        clear hown3 hgrow3 hol ho3 bw3
        go_wp2_with fail
        go_roundg (gk - 1)
        case measure => omega
        case rel => exact ⟨⟨i + 1, by go_num, by omega, O3⟩, B3⟩
      | false =>
        have Y := Lib.hid (np.out e)
        rw [e] at hq
        clear e yp np
        go_wp2_with fail
        refine (HSL.out _).mono ?_
        rintro e w3 ⟨rfl, rfl⟩
        go_wp2_with fail
        refine (HCN.out).mono ?_
        rintro e w3 ⟨rfl, b3⟩
        have O3 : Hid (w3.ownsRow w2.heap.size 9 1 u6 (preC t.free p (i + 1)).length ((preC t.free p (i + 1)).map Value.string)) := by
          show World.ownsRow _ _ _ _ _ _ _
          rw [Y.out]; exact own_below2 ho.out b3
        have B3 := Lib.hid (go6 bw.out b3)
        clear b3 ci ho bw
        go_wp2_with fail
        go_roundg (gk - 1)
        case measure => omega
        case rel => exact ⟨⟨i + 1, by go_num, by omega, O3⟩, B3⟩
    · obtain rfl : i = t.free.length := by omega
      have ho2 := ho.out
      rw [preC_all] at ho2
      have HO2 := Lib.hid ho2
      clear ho ho2
      go_wp2_with fail
      go_ret2
      exact ⟨_, rfl, own_low6 HO2.out BL.out.size, go6 BL.out bw.out⟩
theorem bothCls (s : ByteArray) (hm : s.size ≤ 9223372036854775807) : ∃ (us : List ByteArray) (b : Bool), us.length ≤ 26 ∧ (∀ w, Calls Try.prog 14 #[.string s] w fun e w' => ∃ v, e = .returned (.tuple #[v, .bool b]) ∧ w'.ownsRow w.heap.size 9 1 v us.length (us.map Value.string) ∧ Below w.heap.size w w') ∧ (∀ w, Calls Try.prog 15 #[.string s] w fun e w' => ∃ v, e = .returned (.tuple #[v, .bool b]) ∧ w'.ownsRow w.heap.size 9 1 v us.length (us.map Value.string) ∧ Below w.heap.size w w') := by
  cases hg : good s.data.toList with
  | none => exact ⟨[], false, by simp, cls_s0 s (fun w => tmGood_none hg w hm), cls_i0 s (readSorts_none s hg hm)⟩
  | some t =>
    obtain ⟨es, hL, hE, h300, h60⟩ := good_S hg
    have hl := lets_free t hL
    have f1 := tmFree_any t hE (by omega)
    rw [← es] at f1
    exact ⟨outC t.free (pC t), true, by rw [← preC_all]; exact preC_len _ _ _ (srt_lenL (srt_free t) hl), cls_s1 s t hl h60 (fun w => tmGood_some hg w hm) (soOf_good s t hg) f1 (pC t) rfl, cls_i1 s t hl h60 (readSorts_some s t hg hm) (pC t) rfl⟩
end Go.Proofs.Ytdfelpahacmdpaa.T1
