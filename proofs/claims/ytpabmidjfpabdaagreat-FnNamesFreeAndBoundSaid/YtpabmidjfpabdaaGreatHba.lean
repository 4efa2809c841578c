/- Texts of the proof, put together: Ta, Rq, Pp. No conditions. -/
import Derived.Test.YtpabmidjfpabdaaGreatHaa
import Derived.Test.YtpabmidjfpabdaaGreatHab
import Derived.Test.YtpabmidjfpabdaaGreatHaq
import Derived.Test.YtpabmidjfpabdaaGreatHat
import Derived.Test.YtpabmidjfpabdaaGreatHaz
import Derived.Deep.RegionWith

/- The subterm at a path in the specification, and that it is a smaller process. -/
namespace Go.Proofs.YtpabmidjfpabdaaGreat.T1
open Go.RowKit
set_option maxRecDepth 100000

def AtPost (o : Option Tm) (w : World) (e : Ending) (w' : World) : Prop :=
  ((∃ p, o = some p ∧ e = .returned (.tuple #[.string (S p), .bool true])) ∨ (o = none ∧ e = .returned (.tuple #[.string ⟨#[]⟩, .bool false]))) ∧ Below w.heap.size w w'
theorem AtPost.no {w : World} {e : Ending} {w' : World} {o : Option Tm} (ho : o = none) (h : e = .returned (.tuple #[.string ⟨#[]⟩, .bool false]) ∧ Below w.heap.size w w') : AtPost o w e w' := ⟨.inr ⟨ho, h.1⟩, h.2⟩
theorem AtPost.yes {w : World} {e : Ending} {w' : World} {o : Option Tm} {p : Tm} (ho : o = some p) (h : e = .returned (.tuple #[.string (S p), .bool true]) ∧ Below w.heap.size w w') : AtPost o w e w' := ⟨.inl ⟨p, ho, h.1⟩, h.2⟩
end Go.Proofs.YtpabmidjfpabdaaGreat.T1

/- Another process in place of the subterm at a path, in the program. -/
namespace Go.Proofs.YtpabmidjfpabdaaGreat.T1
open Go.RowKit
set_option maxRecDepth 100000
set_option linter.unusedVariables false

/-- Another part, at an index. -/
def Tm.withP : Tm → Nat → Tm → Tm
  | .nil, _, _ => .nil
  | .snd a b _, _, q => .snd a b q
  | .rcv a x _, _, q => .rcv a x q
  | .tau _, _, q => .tau q
  | .sum p q, k, r => if k = 0 then .sum r q else .sum p r
  | .par p q, k, r => if k = 0 then .par r q else .par p r
  | .own x _, _, q => .own x q
  | .mat a b _, _, q => .mat a b q
  | .rep _, _, q => .rep q
/-- What withParts makes of the parts in memory. -/
theorem withP_one (t p r : Tm) (h : t.parts = [p]) (b cap : Nat) (w : World) (hcap : 1 ≤ cap) (hc : w.cell? ⟨b, 0, none⟩ = some (.iface (tyOf r) (pay r))) :
    Calls Tryz.prog 57 #[.iface (tyOf t) (pay t), .slice (some ⟨b, 0, none⟩) 1 cap] w fun e w' => e = .returned (.iface (tyOf (t.withP 0 r)) (pay (t.withP 0 r))) ∧ Below w.heap.size w w' := by
  cases t with
  | nil => cases h
  | snd a x q => exact wp_send _ _ _ _ _ _ _ b cap w (.inr ⟨_, _, rfl⟩) hcap hc
  | rcv a x q => exact wp_receive _ _ _ _ _ _ _ b cap w (.inr ⟨_, _, rfl⟩) hcap hc
  | tau q => exact wp_silent _ _ _ b cap w (.inr ⟨_, _, rfl⟩) hcap hc
  | sum q u => cases h
  | par q u => cases h
  | own x q => exact wp_own _ _ _ _ _ b cap w (.inr ⟨_, _, rfl⟩) hcap hc
  | mat a x q => exact wp_match _ _ _ _ _ _ _ b cap w (.inr ⟨_, _, rfl⟩) hcap hc
  | rep q => exact wp_repeat _ _ _ b cap w (.inr ⟨_, _, rfl⟩) hcap hc
theorem withP_two (t p q r s : Tm) (h : t.parts = [p, q]) (b cap : Nat) (w : World) (hcap : 2 ≤ cap) (hc : w.cell? ⟨b, 0, none⟩ = some (.iface (tyOf r) (pay r))) (hc1 : w.cell? ⟨b, 1, none⟩ = some (.iface (tyOf s) (pay s))) :
    Calls Tryz.prog 57 #[.iface (tyOf t) (pay t), .slice (some ⟨b, 0, none⟩) 2 cap] w fun e w' => e = .returned (.iface (tyOf ((t.withP 0 r).withP 1 s)) (pay ((t.withP 0 r).withP 1 s))) ∧ Below w.heap.size w w' := by
  cases t with
  | sum a c => exact wp_choice _ _ _ _ _ _ b cap w (.inr ⟨_, _, rfl⟩) (.inr ⟨_, _, rfl⟩) hcap hc hc1
  | par a c => exact wp_beside _ _ _ _ _ _ b cap w (.inr ⟨_, _, rfl⟩) (.inr ⟨_, _, rfl⟩) hcap hc hc1
  | nil => cases h
  | snd a x q => cases h
  | rcv a x q => cases h
  | tau q => cases h
  | own x q => cases h
  | mat a x q => cases h
  | rep q => cases h
theorem two_free {w : World} {b : Nat} {x y : Value} {T : TypeId} (h : w.heap[b]? = some (.cells #[x, y] T (0, 0))) (j : Nat) : w.frozen? ⟨b, j, none⟩ = false := by simp [World.frozen?, h]
theorem two_set0 {w : World} {b : Nat} {x y : Value} {T : TypeId} (h : w.heap[b]? = some (.cells #[x, y] T (0, 0))) (v : Value) : (w.setCell ⟨b, 0, none⟩ v).heap[b]? = some (.cells #[v, y] T (0, 0)) := by
  have hlt := lt_of_block h
  have h' : w.heap[b] = .cells #[x, y] T (0, 0) := by simpa [Array.getElem?_eq_getElem hlt] using h
  show (w.heap.modify b _)[b]? = _
  rw [Array.getElem?_eq_getElem (by simpa using hlt), Array.getElem_modify_self, h']
  rfl
theorem two_set1 {w : World} {b : Nat} {x y : Value} {T : TypeId} (h : w.heap[b]? = some (.cells #[x, y] T (0, 0))) (v : Value) : (w.setCell ⟨b, 1, none⟩ v).heap[b]? = some (.cells #[x, v] T (0, 0)) := by
  have hlt := lt_of_block h
  have h' : w.heap[b] = .cells #[x, y] T (0, 0) := by simpa [Array.getElem?_eq_getElem hlt] using h
  show (w.heap.modify b _)[b]? = _
  rw [Array.getElem?_eq_getElem (by simpa using hlt), Array.getElem_modify_self, h']
  rfl
set_option maxHeartbeats 1000000 in
theorem processText_any (t : Tm) (hl : t.pr.length ≤ 900) (ht : t.size ≤ 1000) (w : World) : Calls Tryz.prog 28 #[.iface (tyOf t) (pay t)] w fun e w' => ((t.pr.length ≤ 300 ∧ t.size ≤ 60 ∧ e = .returned (.tuple #[.string (S t), .bool true])) ∨ (¬ (t.pr.length ≤ 300 ∧ t.size ≤ 60) ∧ e = .returned (.tuple #[.string ⟨#[]⟩, .bool false]))) ∧ Below w.heap.size w w' := by
  have hT := textOf_any t hl
  have hZ := size_any t ht
  obtain ⟨T, hT1⟩ : ∃ T, T = tyOf t := ⟨_, rfl⟩
  obtain ⟨V, hV1⟩ : ∃ V, V = pay t := ⟨_, rfl⟩
  obtain ⟨X, hX⟩ : ∃ X, X = S t := ⟨_, rfl⟩
  obtain ⟨N, hN⟩ : ∃ N, N = t.size := ⟨_, rfl⟩
  have hXs : X.size = t.pr.length := by rw [hX, S_size]
  obtain ⟨L, hL⟩ : ∃ L, L = t.pr.length := ⟨_, rfl⟩
  rw [← hT1, ← hV1, ← hX] at hT
  rw [← hT1, ← hV1, ← hN] at hZ
  rw [← hL] at hXs ⊢
  rw [← hT1, ← hV1, ← hX, ← hN]
  have H1 := Lib.hid hT
  have H2 := Lib.hid hZ
  clear hT hZ hT1 hV1 hX hN hL hl ht
  by_cases g1 : 300 < L
  · have g1' : 300 < X.size := by omega
    go_enter Tryz.func28, Tryz.ntmps28
    go_wp2_with fail
    refine (H1.out _).mono ?_
    rintro e w1 ⟨rfl, b1⟩
    go_wp2_with fail
    go_ret2
    exact ⟨.inr ⟨fun h => by omega, rfl⟩, b1⟩
  · have g1' : ¬ 300 < X.size := by omega
    by_cases g2 : (60 : Int) < (N : Int)
    · go_enter Tryz.func28, Tryz.ntmps28
      go_wp2_with fail
      refine (H1.out _).mono ?_
      rintro e w1 ⟨rfl, b1⟩
      go_wp2_with fail
      refine (H2.out _).mono ?_
      rintro e w2 ⟨rfl, b2⟩
      go_wp2_with fail
      go_ret2
      exact ⟨.inr ⟨fun h => by omega, rfl⟩, below_trans b1 b2 b1.size⟩
    · go_enter Tryz.func28, Tryz.ntmps28
      go_wp2_with fail
      refine (H1.out _).mono ?_
      rintro e w1 ⟨rfl, b1⟩
      go_wp2_with fail
      refine (H2.out _).mono ?_
      rintro e w2 ⟨rfl, b2⟩
      go_wp2_with fail
      go_ret2
      exact ⟨.inl ⟨by omega, by omega, rfl⟩, below_trans b1 b2 b1.size⟩

end Go.Proofs.YtpabmidjfpabdaaGreat.T1

/- A process with other parts; with another process at a path: in the specification. -/
namespace Go.Proofs.YtpabmidjfpabdaaGreat.T1
open Go.RowKit
set_option maxRecDepth 100000
set_option linter.unusedVariables false

set_option maxHeartbeats 2000000 in
theorem tw_two (s X Y : ByteArray) (kd : Int) (m : UInt8) (hX : X.size ≤ 1000) (hY : Y.size ≤ 1000) (hm : (kd = 43 ∧ m = 43) ∨ (kd = 38 ∧ m = 38))
    (HK : ∀ w, Calls Tryz.prog 64 #[.string s] w fun e w' => e = .returned (.int .u8 kd) ∧ w = w') (g n cap : Nat) (hn : 2 ≤ n) (w : World) (c0 : w.cell? ⟨g, 0, none⟩ = some (.string X)) (c1 : w.cell? ⟨g, 1, none⟩ = some (.string Y)) :
    Calls Tryz.prog 67 #[.string s, .slice (some ⟨g, 0, none⟩) n cap] w fun e w' => e = .returned (.string (one 40 ++ X ++ one m ++ Y ++ one 41)) ∧ Below w.heap.size w w' := by
  have HK' := Lib.hid HK
  have n0 : (0 : Int) < (n : Int) := by omega
  have n1 : (1 : Int) < (n : Int) := by omega
  clear HK
  rcases hm with ⟨rfl, rfl⟩ | ⟨rfl, rfl⟩
  all_goals
    go_enter Tryz.func67, Tryz.ntmps67
    go_wp2_with fail
    refine (HK'.out _).mono ?_
    rintro e w1 ⟨rfl, rfl⟩
    go_wp2_with fail
    go_quiet (fail)
    go_wp2_with fail
    go_ret
    first | exact ⟨rfl, Below.refl _ _⟩ | exact ⟨rfl, (Below.refl _ _).drew⟩ | exact ⟨rfl, (Below.refl _ _).drewN _⟩ | exact ⟨rfl, below_drewN' (Below.refl _ _) _⟩

end Go.Proofs.YtpabmidjfpabdaaGreat.T1
