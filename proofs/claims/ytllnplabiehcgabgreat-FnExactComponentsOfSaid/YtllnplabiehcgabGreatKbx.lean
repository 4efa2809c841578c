/- Texts of the proof, put together: Ks. No conditions. -/
import Derived.Test.YtllnplabiehcgabGreatKam
import Derived.Test.YtllnplabiehcgabGreatKbw
namespace Go.Proofs.YtllnplabiehcgabGreat.T1
set_option maxHeartbeats 2000000
open Go.RowKit
set_option maxRecDepth 100000
set_option linter.unusedVariables false
set_option linter.unusedSimpArgs false
theorem nt_no (T : TypeId) (V : Value) (n1 : ∀ w, Calls Tryz.prog 37 #[.iface T V] w fun e w' => e = .returned (.tuple #[.nilIface, .bool false]) ∧ Below w.heap.size w w') (w : World) : Calls Tryz.prog 23 #[.iface T V] w fun e w' => e = .returned (.tuple #[.string ⟨#[]⟩, .bool false]) ∧ Below w.heap.size w w' := by
 have Hn1 := Lib.hid n1
 clear n1
 go_enter Tryz.func23, Tryz.ntmps23
 go_wp2_with fail
 refine (Hn1.out _).mono ?_
 rintro e w1 ⟨rfl, c1⟩
 have b1 := c1
 go_wp2_with fail
 go_ret2
 exact ⟨rfl, b1⟩
theorem nt_yes (T T1 : TypeId) (V V1 : Value) (X : ByteArray) (n1 : ∀ w, Calls Tryz.prog 37 #[.iface T V] w fun e w' => e = .returned (.tuple #[.iface T1 V1, .bool true]) ∧ Below w.heap.size w w') (n2 : ∀ w, Calls Tryz.prog 40 #[.iface T1 V1] w fun e w' => e = .returned (.string X) ∧ Below w.heap.size w w') (w : World) : Calls Tryz.prog 23 #[.iface T V] w fun e w' => e = .returned (.tuple #[.string X, .bool true]) ∧ Below w.heap.size w w' := by
 have Hn1 := Lib.hid n1
 have Hn2 := Lib.hid n2
 clear n1 n2
 go_enter Tryz.func23, Tryz.ntmps23
 go_wp2_with fail
 refine (Hn1.out _).mono ?_
 rintro e w1 ⟨rfl, c1⟩
 have b1 := c1
 go_wp2_with fail
 refine (Hn2.out _).mono ?_
 rintro e w2 ⟨rfl, c2⟩
 have b2 := below_go b1 c2
 go_wp2_with fail
 go_ret2
 exact ⟨rfl, b2⟩
theorem normalText_any (t : Tm) (ho : t.ok nmL = true) (hs : t.size ≤ 121) (hl : t.pr.length ≤ 900) (w : World) :
  Calls Tryz.prog 23 #[.iface (tyOf t) (pay t)] w (TwoS (optS (nfI t)) (nfI t).isSome w) := by
 have h := normalForm_any t ho hs hl
 cases e : nfI t with
 | none => rw [e] at h; exact nt_no _ _ h w
 | some r =>
  rw [e] at h
  have hr : r.pr.length ≤ 300 := by
   unfold nfI at e
   split at e
   ·cases e
   ·split at e
    ·rename_i hh; cases e; exact hh.2.1
    ·cases e
  exact nt_yes _ _ _ _ (S r) h (textOf_any r (by omega)) w
theorem sN_no (s : ByteArray) (n1 : ∀ w, Calls Tryz.prog 27 #[.string s] w fun e w' => e = .returned (.bool false) ∧ Below w.heap.size w w') (w : World) : Calls Tryz.prog 9 #[.string s] w fun e w' => e = .returned (.tuple #[.string ⟨#[]⟩, .bool false]) ∧ Below w.heap.size w w' := by
 have Hn1 := Lib.hid n1
 clear n1
 go_enter Tryz.func9, Tryz.ntmps9
 go_wp2_with fail
 refine (Hn1.out _).mono ?_
 rintro e w1 ⟨rfl, c1⟩
 have b1 := c1
 go_wp2_with fail
 go_ret2
 exact ⟨rfl, b1⟩
theorem sN_yes (s X : ByteArray) (b : Bool) (n1 : ∀ w, Calls Tryz.prog 27 #[.string s] w fun e w' => e = .returned (.bool true) ∧ Below w.heap.size w w') (n2 : ∀ w, Calls Tryz.prog 17 #[.string s] w fun e w' => e = .returned (.tuple #[.string X, .bool b]) ∧ Below w.heap.size w w') (w : World) : Calls Tryz.prog 9 #[.string s] w fun e w' => e = .returned (.tuple #[.string X, .bool b]) ∧ Below w.heap.size w w' := by
 have Hn1 := Lib.hid n1
 have Hn2 := Lib.hid n2
 clear n1 n2
 go_enter Tryz.func9, Tryz.ntmps9
 go_wp2_with fail
 refine (Hn1.out _).mono ?_
 rintro e w1 ⟨rfl, c1⟩
 have b1 := c1
 go_wp2_with fail
 refine (Hn2.out _).mono ?_
 rintro e w2 ⟨rfl, c2⟩
 have b2 := below_go b1 c2
 go_wp2_with fail
 go_ret2
 exact ⟨rfl, b2⟩
end Go.Proofs.YtllnplabiehcgabGreat.T1
