/- Texts of the proof, put together: Ks. No conditions. -/
import Derived.Test.YtmfmagfgcdaeeaaGreatHaj
import Derived.Test.YtmfmagfgcdaeeaaGreatHap
import Derived.Test.YtmfmagfgcdaeeaaGreatHbr

/- What both sides answer where a normal form is asked. MADE BY gen_Ks.py. -/
namespace Go.Proofs.YtmfmagfgcdaeeaaGreat.T1
open Go.RowKit
set_option maxRecDepth 100000
set_option linter.unusedVariables false
set_option linter.unusedSimpArgs false

set_option maxHeartbeats 2000000 in
theorem nt_no (T : TypeId) (V : Value) (n1 : ∀ w, Calls Tryz.prog 140 #[.iface T V] w fun e w' => e = .returned (.tuple #[.nilIface, .bool false]) ∧ Below w.heap.size w w') (w : World) : Calls Tryz.prog 80 #[.iface T V] w fun e w' => e = .returned (.tuple #[.string ⟨#[]⟩, .bool false]) ∧ Below w.heap.size w w' := by
  have Hn1 := Lib.hid n1
  clear n1
  go_enter Tryz.func80, Tryz.ntmps80
  go_wp2_with fail
  refine (Hn1.out _).mono ?_
  rintro e w1 ⟨rfl, c1⟩
  have b1 := c1
  go_wp2_with fail
  go_ret2
  exact ⟨rfl, b1⟩
set_option maxHeartbeats 2000000 in
theorem nt_yes (T T1 : TypeId) (V V1 : Value) (X : ByteArray) (n1 : ∀ w, Calls Tryz.prog 140 #[.iface T V] w fun e w' => e = .returned (.tuple #[.iface T1 V1, .bool true]) ∧ Below w.heap.size w w') (n2 : ∀ w, Calls Tryz.prog 65 #[.iface T1 V1] w fun e w' => e = .returned (.string X) ∧ Below w.heap.size w w') (w : World) : Calls Tryz.prog 80 #[.iface T V] w fun e w' => e = .returned (.tuple #[.string X, .bool true]) ∧ Below w.heap.size w w' := by
  have Hn1 := Lib.hid n1
  have Hn2 := Lib.hid n2
  clear n1 n2
  go_enter Tryz.func80, Tryz.ntmps80
  go_wp2_with fail
  refine (Hn1.out _).mono ?_
  rintro e w1 ⟨rfl, c1⟩
  have b1 := c1
  go_wp2_with fail
  refine (Hn2.out _).mono ?_
  rintro e w2 ⟨rfl, c2⟩
  have b2 := below_go b1 c2
  go_wp2_with fail
  go_ret2
  exact ⟨rfl, b2⟩
theorem normalText_any (t : Tm) (ho : t.ok nmL = true) (hs : t.size ≤ 121) (hl : t.pr.length ≤ 900) (w : World) :
    Calls Tryz.prog 80 #[.iface (tyOf t) (pay t)] w (TwoS (optS (nfI t)) (nfI t).isSome w) := by
  have h := normalForm_any t ho hs hl
  cases e : nfI t with
  | none => rw [e] at h; exact nt_no _ _ h w
  | some r =>
    rw [e] at h
    have hr : r.pr.length ≤ 300 := by
      unfold nfI at e
      split at e
      · cases e
      · split at e
        · rename_i hh; cases e; exact hh.2.1
        · cases e
    exact nt_yes _ _ _ _ (S r) h (textOf_any r (by omega)) w
set_option maxHeartbeats 2000000 in
theorem iN_yes (s X : ByteArray) (b : Bool) (T : TypeId) (V : Value) (n1 : ∀ w, Calls Tryz.prog 59 #[.string s] w fun e w' => e = .returned (.tuple #[.iface T V, .bool true]) ∧ Below w.heap.size w w') (n2 : ∀ w, Calls Tryz.prog 80 #[.iface T V] w fun e w' => e = .returned (.tuple #[.string X, .bool b]) ∧ Below w.heap.size w w') (w : World) : Calls Tryz.prog 23 #[.string s] w fun e w' => e = .returned (.tuple #[.string X, .bool b]) ∧ Below w.heap.size w w' := by
  have Hn1 := Lib.hid n1
  have Hn2 := Lib.hid n2
  clear n1 n2
  go_enter Tryz.func23, Tryz.ntmps23
  go_wp2_with fail
  refine (Hn1.out _).mono ?_
  rintro e w1 ⟨rfl, c1⟩
  have b1 := c1
  go_wp2_with fail
  refine (Hn2.out _).mono ?_
  rintro e w2 ⟨rfl, c2⟩
  have b2 := below_go b1 c2
  go_wp2_with fail
  go_ret2
  exact ⟨rfl, b2⟩
set_option maxHeartbeats 2000000 in
theorem iC_a (s t X Y : ByteArray) (c : Bool) (n1 : ∀ w, Calls Tryz.prog 23 #[.string s] w fun e w' => e = .returned (.tuple #[.string X, .bool false]) ∧ Below w.heap.size w w') (n2 : ∀ w, Calls Tryz.prog 23 #[.string t] w fun e w' => e = .returned (.tuple #[.string Y, .bool c]) ∧ Below w.heap.size w w') (w : World) : Calls Tryz.prog 16 #[.string s, .string t] w fun e w' => e = .returned (.tuple #[.bool false, .bool false]) ∧ Below w.heap.size w w' := by
  have Hn1 := Lib.hid n1
  have Hn2 := Lib.hid n2
  clear n1 n2
  go_enter Tryz.func16, Tryz.ntmps16
  go_wp2_with fail
  refine (Hn1.out _).mono ?_
  rintro e w1 ⟨rfl, c1⟩
  have b1 := c1
  go_wp2_with fail
  refine (Hn2.out _).mono ?_
  rintro e w2 ⟨rfl, c2⟩
  have b2 := below_go b1 c2
  go_wp2_with fail
  go_ret2
  exact ⟨rfl, b2⟩
set_option maxHeartbeats 2000000 in
theorem iC_b (s t X Y : ByteArray)  (n1 : ∀ w, Calls Tryz.prog 23 #[.string s] w fun e w' => e = .returned (.tuple #[.string X, .bool true]) ∧ Below w.heap.size w w') (n2 : ∀ w, Calls Tryz.prog 23 #[.string t] w fun e w' => e = .returned (.tuple #[.string Y, .bool false]) ∧ Below w.heap.size w w') (w : World) : Calls Tryz.prog 16 #[.string s, .string t] w fun e w' => e = .returned (.tuple #[.bool false, .bool false]) ∧ Below w.heap.size w w' := by
  have Hn1 := Lib.hid n1
  have Hn2 := Lib.hid n2
  clear n1 n2
  go_enter Tryz.func16, Tryz.ntmps16
  go_wp2_with fail
  refine (Hn1.out _).mono ?_
  rintro e w1 ⟨rfl, c1⟩
  have b1 := c1
  go_wp2_with fail
  refine (Hn2.out _).mono ?_
  rintro e w2 ⟨rfl, c2⟩
  have b2 := below_go b1 c2
  go_wp2_with fail
  go_ret2
  exact ⟨rfl, b2⟩
set_option maxHeartbeats 2000000 in
theorem iC_c (s t X Y : ByteArray) (n1 : ∀ w, Calls Tryz.prog 23 #[.string s] w fun e w' => e = .returned (.tuple #[.string X, .bool true]) ∧ Below w.heap.size w w') (n2 : ∀ w, Calls Tryz.prog 23 #[.string t] w fun e w' => e = .returned (.tuple #[.string Y, .bool true]) ∧ Below w.heap.size w w') (w : World) : Calls Tryz.prog 16 #[.string s, .string t] w fun e w' => e = .returned (.tuple #[.bool (X.toList == Y.toList), .bool true]) ∧ Below w.heap.size w w' := by
  have Hn1 := Lib.hid n1
  have Hn2 := Lib.hid n2
  clear n1 n2
  go_enter Tryz.func16, Tryz.ntmps16
  go_wp2_with fail
  refine (Hn1.out _).mono ?_
  rintro e w1 ⟨rfl, c1⟩
  have b1 := c1
  go_wp2_with fail
  refine (Hn2.out _).mono ?_
  rintro e w2 ⟨rfl, c2⟩
  have b2 := below_go b1 c2
  go_wp2_with fail
  go_ret2
  exact ⟨rfl, b2⟩
end Go.Proofs.YtmfmagfgcdaeeaaGreat.T1
