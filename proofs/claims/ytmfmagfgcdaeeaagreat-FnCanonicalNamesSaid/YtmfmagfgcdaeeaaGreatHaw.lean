/- Texts of the proof, put together: Wc, Ta, Rq, Rr, Rx, Pp. No conditions. -/
import Derived.Test.YtmfmagfgcdaeeaaGreatHaa
import Derived.Test.YtmfmagfgcdaeeaaGreatHai
import Derived.Test.YtmfmagfgcdaeeaaGreatHaj
import Derived.Test.YtmfmagfgcdaeeaaGreatHan
import Derived.Test.YtmfmagfgcdaeeaaGreatHao
import Derived.Test.YtmfmagfgcdaeeaaGreatHaq
import Derived.Test.YtmfmagfgcdaeeaaGreatHau
import Derived.Test.YtmfmagfgcdaeeaaGreatHav
import Derived.Deep.RegionHeld3
import Derived.Deep.DeepCutAuto
import Derived.Deep.RegionWith

/- A sign binds another letter, where it would capture a name: in the program. -/
namespace Go.Proofs.YtmfmagfgcdaeeaaGreat.T1
open Go.RowKit
set_option maxRecDepth 100000
set_option linter.unusedVariables false

theorem lt_cell {w : World} {b o : Nat} {x : Value} (h : w.cell? ⟨b, o, none⟩ = some x) : b < w.heap.size := World.block_lt_of_cell? w _ h
theorem below_go {u v w : World} (h : Below u.heap.size u v) (k : Below v.heap.size v w) : Below u.heap.size u w := below_trans h k h.size
theorem below_go' {u v : World} (h : Below u.heap.size u v) (o : Obj) : Below u.heap.size u (v.alloc o) := h.alloc h.size o
end Go.Proofs.YtmfmagfgcdaeeaaGreat.T1

/- The subterm at a path in the specification, and that it is a smaller process. -/
namespace Go.Proofs.YtmfmagfgcdaeeaaGreat.T1
open Go.RowKit
set_option maxRecDepth 100000

def AtPost (o : Option Tm) (w : World) (e : Ending) (w' : World) : Prop :=
  ((∃ p, o = some p ∧ e = .returned (.tuple #[.string (S p), .bool true])) ∨ (o = none ∧ e = .returned (.tuple #[.string ⟨#[]⟩, .bool false]))) ∧ Below w.heap.size w w'
theorem AtPost.no {w : World} {e : Ending} {w' : World} {o : Option Tm} (ho : o = none) (h : e = .returned (.tuple #[.string ⟨#[]⟩, .bool false]) ∧ Below w.heap.size w w') : AtPost o w e w' := ⟨.inr ⟨ho, h.1⟩, h.2⟩
theorem AtPost.yes {w : World} {e : Ending} {w' : World} {o : Option Tm} {p : Tm} (ho : o = some p) (h : e = .returned (.tuple #[.string (S p), .bool true]) ∧ Below w.heap.size w w') : AtPost o w e w' := ⟨.inl ⟨p, ho, h.1⟩, h.2⟩
end Go.Proofs.YtmfmagfgcdaeeaaGreat.T1

/- Another process in place of the subterm at a path, in the program. -/
namespace Go.Proofs.YtmfmagfgcdaeeaaGreat.T1
open Go.RowKit
set_option maxRecDepth 100000
set_option linter.unusedVariables false

/-- Another part, at an index. -/
def Tm.withP : Tm → Nat → Tm → Tm
  | .nil, _, _ => .nil
  | .snd a b _, _, q => .snd a b q
  | .rcv a x _, _, q => .rcv a x q
  | .tau _, _, q => .tau q
  | .sum p q, k, r => if k = 0 then .sum r q else .sum p r
  | .par p q, k, r => if k = 0 then .par r q else .par p r
  | .own x _, _, q => .own x q
  | .mat a b _, _, q => .mat a b q
  | .rep _, _, q => .rep q
/-- What withParts makes of the parts in memory. -/
theorem withP_one (t p r : Tm) (h : t.parts = [p]) (b cap : Nat) (w : World) (hcap : 1 ≤ cap) (hc : w.cell? ⟨b, 0, none⟩ = some (.iface (tyOf r) (pay r))) :
    Calls Tryz.prog 119 #[.iface (tyOf t) (pay t), .slice (some ⟨b, 0, none⟩) 1 cap] w fun e w' => e = .returned (.iface (tyOf (t.withP 0 r)) (pay (t.withP 0 r))) ∧ Below w.heap.size w w' := by
  cases t with
  | nil => cases h
  | snd a x q => exact wp_send _ _ _ _ _ _ _ b cap w (.inr ⟨_, _, rfl⟩) hcap hc
  | rcv a x q => exact wp_receive _ _ _ _ _ _ _ b cap w (.inr ⟨_, _, rfl⟩) hcap hc
  | tau q => exact wp_silent _ _ _ b cap w (.inr ⟨_, _, rfl⟩) hcap hc
  | sum q u => cases h
  | par q u => cases h
  | own x q => exact wp_own _ _ _ _ _ b cap w (.inr ⟨_, _, rfl⟩) hcap hc
  | mat a x q => exact wp_match _ _ _ _ _ _ _ b cap w (.inr ⟨_, _, rfl⟩) hcap hc
  | rep q => exact wp_repeat _ _ _ b cap w (.inr ⟨_, _, rfl⟩) hcap hc
theorem withP_two (t p q r s : Tm) (h : t.parts = [p, q]) (b cap : Nat) (w : World) (hcap : 2 ≤ cap) (hc : w.cell? ⟨b, 0, none⟩ = some (.iface (tyOf r) (pay r))) (hc1 : w.cell? ⟨b, 1, none⟩ = some (.iface (tyOf s) (pay s))) :
    Calls Tryz.prog 119 #[.iface (tyOf t) (pay t), .slice (some ⟨b, 0, none⟩) 2 cap] w fun e w' => e = .returned (.iface (tyOf ((t.withP 0 r).withP 1 s)) (pay ((t.withP 0 r).withP 1 s))) ∧ Below w.heap.size w w' := by
  cases t with
  | sum a c => exact wp_choice _ _ _ _ _ _ b cap w (.inr ⟨_, _, rfl⟩) (.inr ⟨_, _, rfl⟩) hcap hc hc1
  | par a c => exact wp_beside _ _ _ _ _ _ b cap w (.inr ⟨_, _, rfl⟩) (.inr ⟨_, _, rfl⟩) hcap hc hc1
  | nil => cases h
  | snd a x q => cases h
  | rcv a x q => cases h
  | tau q => cases h
  | own x q => cases h
  | mat a x q => cases h
  | rep q => cases h
theorem two_free {w : World} {b : Nat} {x y : Value} {T : TypeId} (h : w.heap[b]? = some (.cells #[x, y] T (0, 0))) (j : Nat) : w.frozen? ⟨b, j, none⟩ = false := by simp [World.frozen?, h]
theorem two_set0 {w : World} {b : Nat} {x y : Value} {T : TypeId} (h : w.heap[b]? = some (.cells #[x, y] T (0, 0))) (v : Value) : (w.setCell ⟨b, 0, none⟩ v).heap[b]? = some (.cells #[v, y] T (0, 0)) := by
  have hlt := lt_of_block h
  have h' : w.heap[b] = .cells #[x, y] T (0, 0) := by simpa [Array.getElem?_eq_getElem hlt] using h
  show (w.heap.modify b _)[b]? = _
  rw [Array.getElem?_eq_getElem (by simpa using hlt), Array.getElem_modify_self, h']
  rfl
theorem two_set1 {w : World} {b : Nat} {x y : Value} {T : TypeId} (h : w.heap[b]? = some (.cells #[x, y] T (0, 0))) (v : Value) : (w.setCell ⟨b, 1, none⟩ v).heap[b]? = some (.cells #[x, v] T (0, 0)) := by
  have hlt := lt_of_block h
  have h' : w.heap[b] = .cells #[x, y] T (0, 0) := by simpa [Array.getElem?_eq_getElem hlt] using h
  show (w.heap.modify b _)[b]? = _
  rw [Array.getElem?_eq_getElem (by simpa using hlt), Array.getElem_modify_self, h']
  rfl
end Go.Proofs.YtmfmagfgcdaeeaaGreat.T1

/- A free name renamed, with no capture: the ways through the program's function. -/
namespace Go.Proofs.YtmfmagfgcdaeeaaGreat.T1
open Go.RowKit
set_option maxRecDepth 100000
set_option linter.unusedVariables false

end Go.Proofs.YtmfmagfgcdaeeaaGreat.T1

/- A free name renamed, with no capture: in the program, for every process. -/
namespace Go.Proofs.YtmfmagfgcdaeeaaGreat.T1
open Go.RowKit
set_option maxRecDepth 100000
set_option linter.unusedVariables false

theorem flip_oth (l : List UInt8) (h : Lets l) : lets (flip32 (setN l)) 26 = othL l := by
  have h26 : lets (flip32 (setN l)) 26 = ((List.range 26).filter fun i => (flip32 (setN l)).testBit i).map fun i => UInt8.ofNat (97 + i) := rfl
  unfold othL
  rw [h26, List.filter_map]
  congr 1
  refine List.filter_congr fun i hi => ?_
  rw [List.mem_range] at hi
  rw [flip_bit _ i (by omega)]
  show (!(setN l).testBit i) = decide (UInt8.ofNat (97 + i) ∉ l)
  rw [decide_not]
  congr 1
  rw [Bool.eq_iff_iff, decide_eq_true_iff, setN_bit l h]
  exact ⟨fun ⟨c, hc, e⟩ => by rw [show UInt8.ofNat (97 + i) = c from u8_ext (by rw [UInt8.toNat_ofNat']; omega)]; exact hc, fun hc => ⟨_, hc, by rw [UInt8.toNat_ofNat']; omega⟩⟩
theorem others_set (l : List UInt8) (h : Lets l) (w : World) : Calls Tryz.prog 61 #[.int .u32 (setN l : Nat)] w fun e w' => ∃ v, e = .returned v ∧ w'.ownsRow w.heap.size 5 1 v (othL l).length ((othL l).map ub) ∧ Below w.heap.size w w' := by
  have := others_any (setN l) (setN_lt32 l h) w
  rw [flip_oth l h] at this
  exact this
end Go.Proofs.YtmfmagfgcdaeeaaGreat.T1

/- A process with other parts; with another process at a path: in the specification. -/
namespace Go.Proofs.YtmfmagfgcdaeeaaGreat.T1
open Go.RowKit
set_option maxRecDepth 100000
set_option linter.unusedVariables false

set_option maxHeartbeats 2000000 in
theorem tw_one (s X : ByteArray) (kd : Int) (hd : Nat) (hs : s.size ≤ 700) (hX : X.size ≤ 1000) (hh : hd ≤ s.size) (b0 : (kd == 48) = false) (b1 : (kd == 43) = false) (b2 : (kd == 38) = false)
    (HK : ∀ w, Calls Tryz.prog 100 #[.string s] w fun e w' => e = .returned (.int .u8 kd) ∧ w = w') (HH : ∀ w, Calls Tryz.prog 126 #[.string s] w fun e w' => e = .returned (.int .i64 (hd : Int)) ∧ w = w') (g n cap : Nat) (hn : 1 ≤ n) (w : World) (c0 : w.cell? ⟨g, 0, none⟩ = some (.string X)) :
    Calls Tryz.prog 128 #[.string s, .slice (some ⟨g, 0, none⟩) n cap] w fun e w' => e = .returned (.string (s.extract 0 hd ++ X)) ∧ Below w.heap.size w w' := by
  have HK' := Lib.hid HK
  have HH' := Lib.hid HH
  have n0 : (0 : Int) < (n : Int) := by omega
  have h1 : (hd : Int) ≤ (s.size : Int) := by omega
  clear HK HH
  go_enter Tryz.func128, Tryz.ntmps128
  go_wp2_with fail
  refine (HK'.out _).mono ?_
  rintro e w1 ⟨rfl, rfl⟩
  go_wp2_with fail
  go_quiet ((go_at_call 126; exact Calls.quiet_of_same ((HH'.out _).mono fun _ _ hh => ⟨hh.1, hh.2.symm⟩)))
  go_wp2_with fail
  go_ret
  first | exact ⟨rfl, Below.refl _ _⟩ | exact ⟨rfl, (Below.refl _ _).drew⟩ | exact ⟨rfl, (Below.refl _ _).drewN _⟩ | exact ⟨rfl, below_drewN' (Below.refl _ _) _⟩
set_option maxHeartbeats 2000000 in
theorem tw_two (s X Y : ByteArray) (kd : Int) (m : UInt8) (hX : X.size ≤ 1000) (hY : Y.size ≤ 1000) (hm : (kd = 43 ∧ m = 43) ∨ (kd = 38 ∧ m = 38))
    (HK : ∀ w, Calls Tryz.prog 100 #[.string s] w fun e w' => e = .returned (.int .u8 kd) ∧ w = w') (g n cap : Nat) (hn : 2 ≤ n) (w : World) (c0 : w.cell? ⟨g, 0, none⟩ = some (.string X)) (c1 : w.cell? ⟨g, 1, none⟩ = some (.string Y)) :
    Calls Tryz.prog 128 #[.string s, .slice (some ⟨g, 0, none⟩) n cap] w fun e w' => e = .returned (.string (one 40 ++ X ++ one m ++ Y ++ one 41)) ∧ Below w.heap.size w w' := by
  have HK' := Lib.hid HK
  have n0 : (0 : Int) < (n : Int) := by omega
  have n1 : (1 : Int) < (n : Int) := by omega
  clear HK
  rcases hm with ⟨rfl, rfl⟩ | ⟨rfl, rfl⟩
  all_goals
    go_enter Tryz.func128, Tryz.ntmps128
    go_wp2_with fail
    refine (HK'.out _).mono ?_
    rintro e w1 ⟨rfl, rfl⟩
    go_wp2_with fail
    go_quiet (fail)
    go_wp2_with fail
    go_ret
    first | exact ⟨rfl, Below.refl _ _⟩ | exact ⟨rfl, (Below.refl _ _).drew⟩ | exact ⟨rfl, (Below.refl _ _).drewN _⟩ | exact ⟨rfl, below_drewN' (Below.refl _ _) _⟩

theorem Tryz.infoS : (Tryz.prog.info? 9).map (fun i => (i.zero, i.size, i.bytes)) = some (some (.string ⟨#[]⟩), 1, 16) := by kernel_rfl
end Go.Proofs.YtmfmagfgcdaeeaaGreat.T1
