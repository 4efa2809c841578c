/- Another process in place of the subterm at a path, in the program. -/
import Derived.Test.YtpahhlcfbmmocabPa
import Derived.Test.YtpahhlcfbmmocabTx
import Derived.Test.YtpahhlcfbmmocabTa
import Derived.Test.YtpahhlcfbmmocabNm
import Derived.Test.YtpahhlcfbmmocabBb
namespace Go.Proofs.Ytpahhlcfbmmocab.T1
open Go.RowKit
set_option maxRecDepth 100000
set_option linter.unusedVariables false

/-- Another part, at an index. -/
def Tm.withP : Tm → Nat → Tm → Tm
  | .nil, _, _ => .nil
  | .snd a b _, _, q => .snd a b q
  | .rcv a x _, _, q => .rcv a x q
  | .tau _, _, q => .tau q
  | .sum p q, k, r => if k = 0 then .sum r q else .sum p r
  | .par p q, k, r => if k = 0 then .par r q else .par p r
  | .own x _, _, q => .own x q
  | .mat a b _, _, q => .mat a b q
  | .rep _, _, q => .rep q
/-- Another process at a path. -/
def putP : Tm → List UInt8 → Tm → Option Tm
  | _, [], q => some q
  | t, c :: l, q => match stepN t c.toNat with
    | some p => (putP p l q).map fun r => t.withP (c.toNat - 48) r
    | none => none
theorem putP_none (l : List UInt8) : ∀ (t q : Tm), putP t l q = none ↔ atP t l = none := by
  induction l with
  | nil => intro t q; simp [putP, atP]
  | cons c l ih =>
    intro t q
    simp only [putP, atP]
    cases stepN t c.toNat with
    | none => simp
    | some p => simp [ih p q]
theorem step_cases (t p : Tm) (r : Nat) (h : stepN t r = some p) : (t.parts = [p] ∧ r = 48) ∨ (∃ q, t.parts = [p, q] ∧ r = 48) ∨ (∃ q, t.parts = [q, p] ∧ r = 49) := by
  unfold stepN at h
  split at h
  · cases h
  · rcases parts_cases t with h1 | ⟨a, h1⟩ | ⟨a, b, h1⟩
    · rw [h1] at h; simp at h
    · rw [h1] at h
      rcases Nat.lt_or_ge (r - 48) 1 with h2 | h2
      · rw [show r - 48 = 0 by omega] at h; simp at h; subst h; exact .inl ⟨h1, by omega⟩
      · rw [List.getElem?_eq_none (by simpa using h2)] at h; cases h
    · rw [h1] at h
      rcases Nat.lt_or_ge (r - 48) 1 with h2 | h2
      · rw [show r - 48 = 0 by omega] at h; simp at h; subst h; exact .inr (.inl ⟨b, h1, by omega⟩)
      · rcases Nat.lt_or_ge (r - 48) 2 with h3 | h3
        · rw [show r - 48 = 1 by omega] at h; simp at h; subst h; exact .inr (.inr ⟨a, h1, by omega⟩)
        · rw [List.getElem?_eq_none (by simpa using h3)] at h; cases h
theorem with_ok (t p r : Tm) (c : Nat) (hs : stepN t c = some p) (nm : UInt8 → Bool) (ht : t.ok nm = true) (hr : r.ok nm = true) : (t.withP (c - 48) r).ok nm = true := by
  cases t <;> simp_all [Tm.withP, Tm.ok] <;> split <;> simp_all [Tm.ok]
theorem with_len (t p r : Tm) (c : Nat) (hs : stepN t c = some p) : (t.withP (c - 48) r).pr.length + p.pr.length = t.pr.length + r.pr.length ∧ (t.withP (c - 48) r).size + p.size = t.size + r.size := by
  rcases step_cases t p c hs with ⟨h, rfl⟩ | ⟨q, h, rfl⟩ | ⟨q, h, rfl⟩ <;> cases t <;> simp_all [Tm.parts, Tm.withP, Tm.pr, Tm.size] <;> omega
theorem putP_ok (l : List UInt8) : ∀ (t q r : Tm), putP t l q = some r → (∀ nm, t.ok nm = true → q.ok nm = true → r.ok nm = true) ∧ r.pr.length ≤ t.pr.length + q.pr.length ∧ r.size ≤ t.size + q.size := by
  induction l with
  | nil => intro t q r h; simp [putP] at h; subst h; exact ⟨fun _ _ h => h, by omega, by omega⟩
  | cons c l ih =>
    intro t q r h
    simp only [putP] at h
    cases hs : stepN t c.toNat with
    | none => rw [hs] at h; cases h
    | some p =>
      rw [hs] at h
      cases hp : putP p l q with
      | none => simp [hp] at h
      | some r' =>
        simp [hp] at h
        subst h
        obtain ⟨h1, h2, h3⟩ := ih p q r' hp
        obtain ⟨h4, h5⟩ := with_len t p r' c.toNat hs
        have hsub := (sub_parts t p (stepN_mem t p _ hs)).1
        exact ⟨fun nm ht hq => with_ok t p r' c.toNat hs nm ht (h1 nm (hsub nm ht) hq), by omega, by omega⟩

/-- What withParts makes of the parts in memory. -/
theorem withP_one (t p r : Tm) (h : t.parts = [p]) (b cap : Nat) (w : World) (hcap : 1 ≤ cap) (hc : w.cell? ⟨b, 0, none⟩ = some (.iface (tyOf r) (pay r))) :
    Calls Try.prog 81 #[.iface (tyOf t) (pay t), .slice (some ⟨b, 0, none⟩) 1 cap] w fun e w' => e = .returned (.iface (tyOf (t.withP 0 r)) (pay (t.withP 0 r))) ∧ Below w.heap.size w w' := by
  cases t with
  | nil => cases h
  | snd a x q => exact wp_send _ _ _ _ _ _ _ b cap w (.inr ⟨_, _, rfl⟩) hcap hc
  | rcv a x q => exact wp_receive _ _ _ _ _ _ _ b cap w (.inr ⟨_, _, rfl⟩) hcap hc
  | tau q => exact wp_silent _ _ _ b cap w (.inr ⟨_, _, rfl⟩) hcap hc
  | sum q u => cases h
  | par q u => cases h
  | own x q => exact wp_own _ _ _ _ _ b cap w (.inr ⟨_, _, rfl⟩) hcap hc
  | mat a x q => exact wp_match _ _ _ _ _ _ _ b cap w (.inr ⟨_, _, rfl⟩) hcap hc
  | rep q => exact wp_repeat _ _ _ b cap w (.inr ⟨_, _, rfl⟩) hcap hc
theorem withP_two (t p q r s : Tm) (h : t.parts = [p, q]) (b cap : Nat) (w : World) (hcap : 2 ≤ cap) (hc : w.cell? ⟨b, 0, none⟩ = some (.iface (tyOf r) (pay r))) (hc1 : w.cell? ⟨b, 1, none⟩ = some (.iface (tyOf s) (pay s))) :
    Calls Try.prog 81 #[.iface (tyOf t) (pay t), .slice (some ⟨b, 0, none⟩) 2 cap] w fun e w' => e = .returned (.iface (tyOf ((t.withP 0 r).withP 1 s)) (pay ((t.withP 0 r).withP 1 s))) ∧ Below w.heap.size w w' := by
  cases t with
  | sum a c => exact wp_choice _ _ _ _ _ _ b cap w (.inr ⟨_, _, rfl⟩) (.inr ⟨_, _, rfl⟩) hcap hc hc1
  | par a c => exact wp_beside _ _ _ _ _ _ b cap w (.inr ⟨_, _, rfl⟩) (.inr ⟨_, _, rfl⟩) hcap hc hc1
  | nil => cases h
  | snd a x q => cases h
  | rcv a x q => cases h
  | tau q => cases h
  | own x q => cases h
  | mat a x q => cases h
  | rep q => cases h
theorem with_same0 (t p q r : Tm) (h : t.parts = [p, q]) : (t.withP 0 r).withP 1 q = t.withP 0 r := by cases t <;> simp_all [Tm.parts, Tm.withP]
theorem with_same1 (t p q r : Tm) (h : t.parts = [p, q]) : (t.withP 0 p).withP 1 r = t.withP 1 r := by cases t <;> simp_all [Tm.parts, Tm.withP]

theorem two_free {w : World} {b : Nat} {x y : Value} {T : TypeId} (h : w.heap[b]? = some (.cells #[x, y] T (0, 0))) (j : Nat) : w.frozen? ⟨b, j, none⟩ = false := by simp [World.frozen?, h]
theorem two_set0 {w : World} {b : Nat} {x y : Value} {T : TypeId} (h : w.heap[b]? = some (.cells #[x, y] T (0, 0))) (v : Value) : (w.setCell ⟨b, 0, none⟩ v).heap[b]? = some (.cells #[v, y] T (0, 0)) := by
  have hlt := lt_of_block h
  have h' : w.heap[b] = .cells #[x, y] T (0, 0) := by simpa [Array.getElem?_eq_getElem hlt] using h
  show (w.heap.modify b _)[b]? = _
  rw [Array.getElem?_eq_getElem (by simpa using hlt), Array.getElem_modify_self, h']
  rfl
theorem two_set1 {w : World} {b : Nat} {x y : Value} {T : TypeId} (h : w.heap[b]? = some (.cells #[x, y] T (0, 0))) (v : Value) : (w.setCell ⟨b, 1, none⟩ v).heap[b]? = some (.cells #[x, v] T (0, 0)) := by
  have hlt := lt_of_block h
  have h' : w.heap[b] = .cells #[x, y] T (0, 0) := by simpa [Array.getElem?_eq_getElem hlt] using h
  show (w.heap.modify b _)[b]? = _
  rw [Array.getElem?_eq_getElem (by simpa using hlt), Array.getElem_modify_self, h']
  rfl
theorem cons_empty (c : UInt8) (l : List UInt8) : (B (c :: l)).toList.isEmpty = false := by rw [ByteArray.toList_eq]; rfl
theorem cons_ext (c : UInt8) (l : List UInt8) : (B (c :: l)).extract 1 (B (c :: l)).size = B l := by
  apply B_eq
  rw [ByteArray.data_extract, Array.toList_extract, B_list]
  simp [List.extract_eq_take_drop, B_size]
set_option maxHeartbeats 1000000 in
theorem processText_any (t : Tm) (hl : t.pr.length ≤ 900) (ht : t.size ≤ 1000) (w : World) : Calls Try.prog 45 #[.iface (tyOf t) (pay t)] w fun e w' => ((t.pr.length ≤ 300 ∧ t.size ≤ 60 ∧ e = .returned (.tuple #[.string (S t), .bool true])) ∨ (¬ (t.pr.length ≤ 300 ∧ t.size ≤ 60) ∧ e = .returned (.tuple #[.string ⟨#[]⟩, .bool false]))) ∧ Below w.heap.size w w' := by
  have hT := textOf_any t hl
  have hZ := size_any t ht
  obtain ⟨T, hT1⟩ : ∃ T, T = tyOf t := ⟨_, rfl⟩
  obtain ⟨V, hV1⟩ : ∃ V, V = pay t := ⟨_, rfl⟩
  obtain ⟨X, hX⟩ : ∃ X, X = S t := ⟨_, rfl⟩
  obtain ⟨N, hN⟩ : ∃ N, N = t.size := ⟨_, rfl⟩
  have hXs : X.size = t.pr.length := by rw [hX, S_size]
  obtain ⟨L, hL⟩ : ∃ L, L = t.pr.length := ⟨_, rfl⟩
  rw [← hT1, ← hV1, ← hX] at hT
  rw [← hT1, ← hV1, ← hN] at hZ
  rw [← hL] at hXs ⊢
  rw [← hT1, ← hV1, ← hX, ← hN]
  have H1 := Lib.hid hT
  have H2 := Lib.hid hZ
  clear hT hZ hT1 hV1 hX hN hL hl ht
  by_cases g1 : 300 < L
  · have g1' : 300 < X.size := by omega
    go_enter Try.func45, Try.ntmps45
    go_wp2_with fail
    refine (H1.out _).mono ?_
    rintro e w1 ⟨rfl, b1⟩
    go_wp2_with fail
    go_ret2
    exact ⟨.inr ⟨fun h => by omega, rfl⟩, b1⟩
  · have g1' : ¬ 300 < X.size := by omega
    by_cases g2 : (60 : Int) < (N : Int)
    · go_enter Try.func45, Try.ntmps45
      go_wp2_with fail
      refine (H1.out _).mono ?_
      rintro e w1 ⟨rfl, b1⟩
      go_wp2_with fail
      refine (H2.out _).mono ?_
      rintro e w2 ⟨rfl, b2⟩
      go_wp2_with fail
      go_ret2
      exact ⟨.inr ⟨fun h => by omega, rfl⟩, below_trans b1 b2 b1.size⟩
    · go_enter Try.func45, Try.ntmps45
      go_wp2_with fail
      refine (H1.out _).mono ?_
      rintro e w1 ⟨rfl, b1⟩
      go_wp2_with fail
      refine (H2.out _).mono ?_
      rintro e w2 ⟨rfl, b2⟩
      go_wp2_with fail
      go_ret2
      exact ⟨.inl ⟨by omega, by omega, rfl⟩, below_trans b1 b2 b1.size⟩

end Go.Proofs.Ytpahhlcfbmmocab.T1
