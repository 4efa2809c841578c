/- Texts of the proof, put together: Ks. No conditions. -/
import Derived.Test.YtalegefnppbkdaaGreatJap
import Derived.Test.YtalegefnppbkdaaGreatJaz
import Derived.Test.YtalegefnppbkdaaGreatJbt
namespace Go.Proofs.YtalegefnppbkdaaGreat.T1
set_option maxHeartbeats 2000000
open Go.RowKit
set_option maxRecDepth 100000
set_option linter.unusedVariables false
set_option linter.unusedSimpArgs false
theorem nt_no (T : TypeId) (V : Value) (n1 : ∀ w, Calls Tryz.prog 85 #[.iface T V] w fun e w' => e = .returned (.tuple #[.nilIface, .bool false]) ∧ Below w.heap.size w w') (w : World) : Calls Tryz.prog 51 #[.iface T V] w fun e w' => e = .returned (.tuple #[.string ⟨#[]⟩, .bool false]) ∧ Below w.heap.size w w' := by
 have Hn1 := Lib.hid n1
 clear n1
 go_enter Tryz.func51, Tryz.ntmps51
 go_wp2_with fail
 refine (Hn1.out _).mono ?_
 rintro e w1 ⟨rfl, c1⟩
 have b1 := c1
 go_wp2_with fail
 go_ret2
 exact ⟨rfl, b1⟩
theorem nt_yes (T T1 : TypeId) (V V1 : Value) (X : ByteArray) (n1 : ∀ w, Calls Tryz.prog 85 #[.iface T V] w fun e w' => e = .returned (.tuple #[.iface T1 V1, .bool true]) ∧ Below w.heap.size w w') (n2 : ∀ w, Calls Tryz.prog 86 #[.iface T1 V1] w fun e w' => e = .returned (.string X) ∧ Below w.heap.size w w') (w : World) : Calls Tryz.prog 51 #[.iface T V] w fun e w' => e = .returned (.tuple #[.string X, .bool true]) ∧ Below w.heap.size w w' := by
 have Hn1 := Lib.hid n1
 have Hn2 := Lib.hid n2
 clear n1 n2
 go_enter Tryz.func51, Tryz.ntmps51
 go_wp2_with fail
 refine (Hn1.out _).mono ?_
 rintro e w1 ⟨rfl, c1⟩
 have b1 := c1
 go_wp2_with fail
 refine (Hn2.out _).mono ?_
 rintro e w2 ⟨rfl, c2⟩
 have b2 := below_go b1 c2
 go_wp2_with fail
 go_ret2
 exact ⟨rfl, b2⟩
theorem normalText_any (t : Tm) (ho : t.ok nmL = true) (hs : t.size ≤ 121) (hl : t.pr.length ≤ 900) (w : World) :
  Calls Tryz.prog 51 #[.iface (tyOf t) (pay t)] w (TwoS (optS (nfI t)) (nfI t).isSome w) := by
 have h := normalForm_any t ho hs hl
 cases e : nfI t with
 | none => rw [e] at h; exact nt_no _ _ h w
 | some r =>
  rw [e] at h
  have hr : r.pr.length ≤ 300 := by
   unfold nfI at e
   split at e
   ·cases e
   ·split at e
    ·rename_i hh; cases e; exact hh.2.1
    ·cases e
  exact nt_yes _ _ _ _ (S r) h (textOf_any r (by omega)) w
theorem sN_no (s : ByteArray) (n1 : ∀ w, Calls Tryz.prog 48 #[.string s] w fun e w' => e = .returned (.bool false) ∧ Below w.heap.size w w') (w : World) : Calls Tryz.prog 17 #[.string s] w fun e w' => e = .returned (.tuple #[.string ⟨#[]⟩, .bool false]) ∧ Below w.heap.size w w' := by
 have Hn1 := Lib.hid n1
 clear n1
 go_enter Tryz.func17, Tryz.ntmps17
 go_wp2_with fail
 refine (Hn1.out _).mono ?_
 rintro e w1 ⟨rfl, c1⟩
 have b1 := c1
 go_wp2_with fail
 go_ret2
 exact ⟨rfl, b1⟩
theorem sN_yes (s X : ByteArray) (b : Bool) (n1 : ∀ w, Calls Tryz.prog 48 #[.string s] w fun e w' => e = .returned (.bool true) ∧ Below w.heap.size w w') (n2 : ∀ w, Calls Tryz.prog 49 #[.string s] w fun e w' => e = .returned (.tuple #[.string X, .bool b]) ∧ Below w.heap.size w w') (w : World) : Calls Tryz.prog 17 #[.string s] w fun e w' => e = .returned (.tuple #[.string X, .bool b]) ∧ Below w.heap.size w w' := by
 have Hn1 := Lib.hid n1
 have Hn2 := Lib.hid n2
 clear n1 n2
 go_enter Tryz.func17, Tryz.ntmps17
 go_wp2_with fail
 refine (Hn1.out _).mono ?_
 rintro e w1 ⟨rfl, c1⟩
 have b1 := c1
 go_wp2_with fail
 refine (Hn2.out _).mono ?_
 rintro e w2 ⟨rfl, c2⟩
 have b2 := below_go b1 c2
 go_wp2_with fail
 go_ret2
 exact ⟨rfl, b2⟩
theorem iN_no (s : ByteArray) (n1 : ∀ w, Calls Tryz.prog 50 #[.string s] w fun e w' => e = .returned (.tuple #[.nilIface, .bool false]) ∧ Below w.heap.size w w') (w : World) : Calls Tryz.prog 18 #[.string s] w fun e w' => e = .returned (.tuple #[.string ⟨#[]⟩, .bool false]) ∧ Below w.heap.size w w' := by
 have Hn1 := Lib.hid n1
 clear n1
 go_enter Tryz.func18, Tryz.ntmps18
 go_wp2_with fail
 refine (Hn1.out _).mono ?_
 rintro e w1 ⟨rfl, c1⟩
 have b1 := c1
 go_wp2_with fail
 go_ret2
 exact ⟨rfl, b1⟩
theorem iN_yes (s X : ByteArray) (b : Bool) (T : TypeId) (V : Value) (n1 : ∀ w, Calls Tryz.prog 50 #[.string s] w fun e w' => e = .returned (.tuple #[.iface T V, .bool true]) ∧ Below w.heap.size w w') (n2 : ∀ w, Calls Tryz.prog 51 #[.iface T V] w fun e w' => e = .returned (.tuple #[.string X, .bool b]) ∧ Below w.heap.size w w') (w : World) : Calls Tryz.prog 18 #[.string s] w fun e w' => e = .returned (.tuple #[.string X, .bool b]) ∧ Below w.heap.size w w' := by
 have Hn1 := Lib.hid n1
 have Hn2 := Lib.hid n2
 clear n1 n2
 go_enter Tryz.func18, Tryz.ntmps18
 go_wp2_with fail
 refine (Hn1.out _).mono ?_
 rintro e w1 ⟨rfl, c1⟩
 have b1 := c1
 go_wp2_with fail
 refine (Hn2.out _).mono ?_
 rintro e w2 ⟨rfl, c2⟩
 have b2 := below_go b1 c2
 go_wp2_with fail
 go_ret2
 exact ⟨rfl, b2⟩
theorem bothN (s : ByteArray) (hm : s.size ≤ 9223372036854775807) : ∃ (X : ByteArray) (b : Bool), (∀ w, Calls Tryz.prog 17 #[.string s] w (TwoS X b w)) ∧ (∀ w, Calls Tryz.prog 18 #[.string s] w (TwoS X b w)) := by
 cases hg : good s.data.toList with
 | none => exact ⟨_, _, sN_no s (fun w => tmGood_none hg w hm), iN_no s (fun w => parse_none hg w hm)⟩
 | some t =>
  obtain ⟨es, hL, hE, h300, h60⟩ := good_S hg
  have hf : FitT t := .inl (fit_ok t hL (by omega))
  have h1 := nfIf_any t (by omega) hf hL (by omega)
  have h2 := normalText_any t hL (by omega) (by omega)
  rw [nf_same hL (by omega) hf, ← es] at h1
  exact ⟨_, _, sN_yes s _ _ (fun w => tmGood_some hg w hm) h1, iN_yes s _ _ _ _ (fun w => parse_some hg w hm) h2⟩
theorem sC_a (s t X Y : ByteArray) (c : Bool) (n1 : ∀ w, Calls Tryz.prog 17 #[.string s] w fun e w' => e = .returned (.tuple #[.string X, .bool false]) ∧ Below w.heap.size w w') (n2 : ∀ w, Calls Tryz.prog 17 #[.string t] w fun e w' => e = .returned (.tuple #[.string Y, .bool c]) ∧ Below w.heap.size w w') (w : World) : Calls Tryz.prog 19 #[.string s, .string t] w fun e w' => e = .returned (.tuple #[.bool false, .bool false]) ∧ Below w.heap.size w w' := by
 have Hn1 := Lib.hid n1
 have Hn2 := Lib.hid n2
 clear n1 n2
 go_enter Tryz.func19, Tryz.ntmps19
 go_wp2_with fail
 refine (Hn1.out _).mono ?_
 rintro e w1 ⟨rfl, c1⟩
 have b1 := c1
 go_wp2_with fail
 refine (Hn2.out _).mono ?_
 rintro e w2 ⟨rfl, c2⟩
 have b2 := below_go b1 c2
 go_wp2_with fail
 go_ret2
 exact ⟨rfl, b2⟩
theorem sC_b (s t X Y : ByteArray)  (n1 : ∀ w, Calls Tryz.prog 17 #[.string s] w fun e w' => e = .returned (.tuple #[.string X, .bool true]) ∧ Below w.heap.size w w') (n2 : ∀ w, Calls Tryz.prog 17 #[.string t] w fun e w' => e = .returned (.tuple #[.string Y, .bool false]) ∧ Below w.heap.size w w') (w : World) : Calls Tryz.prog 19 #[.string s, .string t] w fun e w' => e = .returned (.tuple #[.bool false, .bool false]) ∧ Below w.heap.size w w' := by
 have Hn1 := Lib.hid n1
 have Hn2 := Lib.hid n2
 clear n1 n2
 go_enter Tryz.func19, Tryz.ntmps19
 go_wp2_with fail
 refine (Hn1.out _).mono ?_
 rintro e w1 ⟨rfl, c1⟩
 have b1 := c1
 go_wp2_with fail
 refine (Hn2.out _).mono ?_
 rintro e w2 ⟨rfl, c2⟩
 have b2 := below_go b1 c2
 go_wp2_with fail
 go_ret2
 exact ⟨rfl, b2⟩
theorem sC_c (s t X Y : ByteArray) (n1 : ∀ w, Calls Tryz.prog 17 #[.string s] w fun e w' => e = .returned (.tuple #[.string X, .bool true]) ∧ Below w.heap.size w w') (n2 : ∀ w, Calls Tryz.prog 17 #[.string t] w fun e w' => e = .returned (.tuple #[.string Y, .bool true]) ∧ Below w.heap.size w w') (w : World) : Calls Tryz.prog 19 #[.string s, .string t] w fun e w' => e = .returned (.tuple #[.bool (X.toList == Y.toList), .bool true]) ∧ Below w.heap.size w w' := by
 have Hn1 := Lib.hid n1
 have Hn2 := Lib.hid n2
 clear n1 n2
 go_enter Tryz.func19, Tryz.ntmps19
 go_wp2_with fail
 refine (Hn1.out _).mono ?_
 rintro e w1 ⟨rfl, c1⟩
 have b1 := c1
 go_wp2_with fail
 refine (Hn2.out _).mono ?_
 rintro e w2 ⟨rfl, c2⟩
 have b2 := below_go b1 c2
 go_wp2_with fail
 go_ret2
 exact ⟨rfl, b2⟩
theorem sI_a (s X : ByteArray) (n1 : ∀ w, Calls Tryz.prog 17 #[.string s] w fun e w' => e = .returned (.tuple #[.string X, .bool false]) ∧ Below w.heap.size w w') (w : World) : Calls Tryz.prog 21 #[.string s] w fun e w' => e = .returned (.tuple #[.bool false, .bool false]) ∧ Below w.heap.size w w' := by
 have Hn1 := Lib.hid n1
 clear n1
 go_enter Tryz.func21, Tryz.ntmps21
 go_wp2_with fail
 refine (Hn1.out _).mono ?_
 rintro e w1 ⟨rfl, c1⟩
 have b1 := c1
 go_wp2_with fail
 go_ret2
 exact ⟨rfl, b1⟩
theorem sI_b (s X : ByteArray) (n1 : ∀ w, Calls Tryz.prog 17 #[.string s] w fun e w' => e = .returned (.tuple #[.string X, .bool true]) ∧ Below w.heap.size w w') (w : World) : Calls Tryz.prog 21 #[.string s] w fun e w' => e = .returned (.tuple #[.bool (X.toList == s.toList), .bool true]) ∧ Below w.heap.size w w' := by
 have Hn1 := Lib.hid n1
 clear n1
 go_enter Tryz.func21, Tryz.ntmps21
 go_wp2_with fail
 refine (Hn1.out _).mono ?_
 rintro e w1 ⟨rfl, c1⟩
 have b1 := c1
 go_wp2_with fail
 go_ret2
 exact ⟨rfl, b1⟩
theorem iC_a (s t X Y : ByteArray) (c : Bool) (n1 : ∀ w, Calls Tryz.prog 18 #[.string s] w fun e w' => e = .returned (.tuple #[.string X, .bool false]) ∧ Below w.heap.size w w') (n2 : ∀ w, Calls Tryz.prog 18 #[.string t] w fun e w' => e = .returned (.tuple #[.string Y, .bool c]) ∧ Below w.heap.size w w') (w : World) : Calls Tryz.prog 20 #[.string s, .string t] w fun e w' => e = .returned (.tuple #[.bool false, .bool false]) ∧ Below w.heap.size w w' := by
 have Hn1 := Lib.hid n1
 have Hn2 := Lib.hid n2
 clear n1 n2
 go_enter Tryz.func20, Tryz.ntmps20
 go_wp2_with fail
 refine (Hn1.out _).mono ?_
 rintro e w1 ⟨rfl, c1⟩
 have b1 := c1
 go_wp2_with fail
 refine (Hn2.out _).mono ?_
 rintro e w2 ⟨rfl, c2⟩
 have b2 := below_go b1 c2
 go_wp2_with fail
 go_ret2
 exact ⟨rfl, b2⟩
theorem iC_b (s t X Y : ByteArray)  (n1 : ∀ w, Calls Tryz.prog 18 #[.string s] w fun e w' => e = .returned (.tuple #[.string X, .bool true]) ∧ Below w.heap.size w w') (n2 : ∀ w, Calls Tryz.prog 18 #[.string t] w fun e w' => e = .returned (.tuple #[.string Y, .bool false]) ∧ Below w.heap.size w w') (w : World) : Calls Tryz.prog 20 #[.string s, .string t] w fun e w' => e = .returned (.tuple #[.bool false, .bool false]) ∧ Below w.heap.size w w' := by
 have Hn1 := Lib.hid n1
 have Hn2 := Lib.hid n2
 clear n1 n2
 go_enter Tryz.func20, Tryz.ntmps20
 go_wp2_with fail
 refine (Hn1.out _).mono ?_
 rintro e w1 ⟨rfl, c1⟩
 have b1 := c1
 go_wp2_with fail
 refine (Hn2.out _).mono ?_
 rintro e w2 ⟨rfl, c2⟩
 have b2 := below_go b1 c2
 go_wp2_with fail
 go_ret2
 exact ⟨rfl, b2⟩
theorem iC_c (s t X Y : ByteArray) (n1 : ∀ w, Calls Tryz.prog 18 #[.string s] w fun e w' => e = .returned (.tuple #[.string X, .bool true]) ∧ Below w.heap.size w w') (n2 : ∀ w, Calls Tryz.prog 18 #[.string t] w fun e w' => e = .returned (.tuple #[.string Y, .bool true]) ∧ Below w.heap.size w w') (w : World) : Calls Tryz.prog 20 #[.string s, .string t] w fun e w' => e = .returned (.tuple #[.bool (X.toList == Y.toList), .bool true]) ∧ Below w.heap.size w w' := by
 have Hn1 := Lib.hid n1
 have Hn2 := Lib.hid n2
 clear n1 n2
 go_enter Tryz.func20, Tryz.ntmps20
 go_wp2_with fail
 refine (Hn1.out _).mono ?_
 rintro e w1 ⟨rfl, c1⟩
 have b1 := c1
 go_wp2_with fail
 refine (Hn2.out _).mono ?_
 rintro e w2 ⟨rfl, c2⟩
 have b2 := below_go b1 c2
 go_wp2_with fail
 go_ret2
 exact ⟨rfl, b2⟩
theorem iI_a (s X : ByteArray) (n1 : ∀ w, Calls Tryz.prog 18 #[.string s] w fun e w' => e = .returned (.tuple #[.string X, .bool false]) ∧ Below w.heap.size w w') (w : World) : Calls Tryz.prog 22 #[.string s] w fun e w' => e = .returned (.tuple #[.bool false, .bool false]) ∧ Below w.heap.size w w' := by
 have Hn1 := Lib.hid n1
 clear n1
 go_enter Tryz.func22, Tryz.ntmps22
 go_wp2_with fail
 refine (Hn1.out _).mono ?_
 rintro e w1 ⟨rfl, c1⟩
 have b1 := c1
 go_wp2_with fail
 go_ret2
 exact ⟨rfl, b1⟩
theorem iI_b (s X : ByteArray) (n1 : ∀ w, Calls Tryz.prog 18 #[.string s] w fun e w' => e = .returned (.tuple #[.string X, .bool true]) ∧ Below w.heap.size w w') (w : World) : Calls Tryz.prog 22 #[.string s] w fun e w' => e = .returned (.tuple #[.bool (X.toList == s.toList), .bool true]) ∧ Below w.heap.size w w' := by
 have Hn1 := Lib.hid n1
 clear n1
 go_enter Tryz.func22, Tryz.ntmps22
 go_wp2_with fail
 refine (Hn1.out _).mono ?_
 rintro e w1 ⟨rfl, c1⟩
 have b1 := c1
 go_wp2_with fail
 go_ret2
 exact ⟨rfl, b1⟩
theorem bothC (s t : ByteArray) (hs : s.size ≤ 9223372036854775807) (ht : t.size ≤ 9223372036854775807) : ∃ (y b : Bool), (∀ w, Calls Tryz.prog 19 #[.string s, .string t] w (fun e w' => e = .returned (.tuple #[.bool y, .bool b]) ∧ Below w.heap.size w w')) ∧ (∀ w, Calls Tryz.prog 20 #[.string s, .string t] w (fun e w' => e = .returned (.tuple #[.bool y, .bool b]) ∧ Below w.heap.size w w')) := by
 obtain ⟨X, b, h1, h2⟩ := bothN s hs
 obtain ⟨Y, c, h3, h4⟩ := bothN t ht
 cases b with
 | false => exact ⟨_, _, sC_a s t X Y c h1 h3, iC_a s t X Y c h2 h4⟩
 | true =>
  cases c with
  | false => exact ⟨_, _, sC_b s t X Y h1 h3, iC_b s t X Y h2 h4⟩
  | true => exact ⟨_, _, sC_c s t X Y h1 h3, iC_c s t X Y h2 h4⟩
theorem bothI (s : ByteArray) (hs : s.size ≤ 9223372036854775807) : ∃ (y b : Bool), (∀ w, Calls Tryz.prog 21 #[.string s] w (fun e w' => e = .returned (.tuple #[.bool y, .bool b]) ∧ Below w.heap.size w w')) ∧ (∀ w, Calls Tryz.prog 22 #[.string s] w (fun e w' => e = .returned (.tuple #[.bool y, .bool b]) ∧ Below w.heap.size w w')) := by
 obtain ⟨X, b, h1, h2⟩ := bothN s hs
 cases b with
 | false => exact ⟨_, _, sI_a s X h1, iI_a s X h2⟩
 | true => exact ⟨_, _, sI_b s X h1, iI_b s X h2⟩
theorem sJ_a (s t : ByteArray) (n1 : ∀ w, Calls Tryz.prog 48 #[.string s] w fun e w' => e = .returned (.bool false) ∧ Below w.heap.size w w') (w : World) : Calls Tryz.prog 34 #[.string s, .string t] w fun e w' => e = .returned (.tuple #[.string ⟨#[]⟩, .bool false]) ∧ Below w.heap.size w w' := by
 have Hn1 := Lib.hid n1
 clear n1
 go_enter Tryz.func34, Tryz.ntmps34
 go_wp2_with fail
 refine (Hn1.out _).mono ?_
 rintro e w1 ⟨rfl, c1⟩
 have b1 := c1
 go_wp2_with fail
 go_ret2
 exact ⟨rfl, b1⟩
theorem sJ_b (s t : ByteArray) (n1 : ∀ w, Calls Tryz.prog 48 #[.string s] w fun e w' => e = .returned (.bool true) ∧ Below w.heap.size w w') (n2 : ∀ w, Calls Tryz.prog 48 #[.string t] w fun e w' => e = .returned (.bool false) ∧ Below w.heap.size w w') (w : World) : Calls Tryz.prog 34 #[.string s, .string t] w fun e w' => e = .returned (.tuple #[.string ⟨#[]⟩, .bool false]) ∧ Below w.heap.size w w' := by
 have Hn1 := Lib.hid n1
 have Hn2 := Lib.hid n2
 clear n1 n2
 go_enter Tryz.func34, Tryz.ntmps34
 go_wp2_with fail
 refine (Hn1.out _).mono ?_
 rintro e w1 ⟨rfl, c1⟩
 have b1 := c1
 go_wp2_with fail
 refine (Hn2.out _).mono ?_
 rintro e w2 ⟨rfl, c2⟩
 have b2 := below_go b1 c2
 go_wp2_with fail
 go_ret2
 exact ⟨rfl, b2⟩
theorem sJ_c (s t X : ByteArray) (b : Bool) (hs : s.size ≤ 300) (ht : t.size ≤ 300) (n1 : ∀ w, Calls Tryz.prog 48 #[.string s] w fun e w' => e = .returned (.bool true) ∧ Below w.heap.size w w') (n2 : ∀ w, Calls Tryz.prog 48 #[.string t] w fun e w' => e = .returned (.bool true) ∧ Below w.heap.size w w') (n3 : ∀ w, Calls Tryz.prog 49 #[.string ((⟨#[40]⟩ : ByteArray) ++ s ++ ⟨#[38]⟩ ++ t ++ ⟨#[41]⟩)] w fun e w' => e = .returned (.tuple #[.string X, .bool b]) ∧ Below w.heap.size w w') (w : World) : Calls Tryz.prog 34 #[.string s, .string t] w fun e w' => e = .returned (.tuple #[.string X, .bool b]) ∧ Below w.heap.size w w' := by
 have Hn1 := Lib.hid n1
 have Hn2 := Lib.hid n2
 have Hn3 := Lib.hid n3
 clear n1 n2 n3
 go_enter Tryz.func34, Tryz.ntmps34
 go_wp2_with fail
 refine (Hn1.out _).mono ?_
 rintro e w1 ⟨rfl, c1⟩
 have b1 := c1
 go_wp2_with fail
 refine (Hn2.out _).mono ?_
 rintro e w2 ⟨rfl, c2⟩
 have b2 := below_go b1 c2
 go_wp2_with fail
 refine (Hn3.out _).mono ?_
 rintro e w3 ⟨rfl, c3⟩
 have b3 := below_go b2 c3
 go_wp2_with fail
 go_ret2
 exact ⟨rfl, b3⟩
theorem iJ_a (s t : ByteArray) (V : Value) (b : Bool) (n1 : ∀ w, Calls Tryz.prog 50 #[.string s] w fun e w' => e = .returned (.tuple #[.nilIface, .bool false]) ∧ Below w.heap.size w w') (n2 : ∀ w, Calls Tryz.prog 50 #[.string t] w fun e w' => e = .returned (.tuple #[V, .bool b]) ∧ Below w.heap.size w w') (w : World) : Calls Tryz.prog 35 #[.string s, .string t] w fun e w' => e = .returned (.tuple #[.string ⟨#[]⟩, .bool false]) ∧ Below w.heap.size w w' := by
 have Hn1 := Lib.hid n1
 have Hn2 := Lib.hid n2
 clear n1 n2
 go_enter Tryz.func35, Tryz.ntmps35
 go_wp2_with fail
 refine (Hn1.out _).mono ?_
 rintro e w1 ⟨rfl, c1⟩
 have b1 := c1
 go_wp2_with fail
 refine (Hn2.out _).mono ?_
 rintro e w2 ⟨rfl, c2⟩
 have b2 := below_go b1 c2
 go_wp2_with fail
 go_ret2
 exact ⟨rfl, b2⟩
theorem iJ_b (s t : ByteArray) (T : TypeId) (V : Value) (n1 : ∀ w, Calls Tryz.prog 50 #[.string s] w fun e w' => e = .returned (.tuple #[.iface T V, .bool true]) ∧ Below w.heap.size w w') (n2 : ∀ w, Calls Tryz.prog 50 #[.string t] w fun e w' => e = .returned (.tuple #[.nilIface, .bool false]) ∧ Below w.heap.size w w') (w : World) : Calls Tryz.prog 35 #[.string s, .string t] w fun e w' => e = .returned (.tuple #[.string ⟨#[]⟩, .bool false]) ∧ Below w.heap.size w w' := by
 have Hn1 := Lib.hid n1
 have Hn2 := Lib.hid n2
 clear n1 n2
 go_enter Tryz.func35, Tryz.ntmps35
 go_wp2_with fail
 refine (Hn1.out _).mono ?_
 rintro e w1 ⟨rfl, c1⟩
 have b1 := c1
 go_wp2_with fail
 refine (Hn2.out _).mono ?_
 rintro e w2 ⟨rfl, c2⟩
 have b2 := below_go b1 c2
 go_wp2_with fail
 go_ret2
 exact ⟨rfl, b2⟩
theorem iJ_c (s t X : ByteArray) (b : Bool) (T T2 : TypeId) (V V2 : Value) (n1 : ∀ w, Calls Tryz.prog 50 #[.string s] w fun e w' => e = .returned (.tuple #[.iface T V, .bool true]) ∧ Below w.heap.size w w') (n2 : ∀ w, Calls Tryz.prog 50 #[.string t] w fun e w' => e = .returned (.tuple #[.iface T2 V2, .bool true]) ∧ Below w.heap.size w w') (n3 : ∀ w, Calls Tryz.prog 51 #[.iface 55 (.agg #[.iface T V, .iface T2 V2])] w fun e w' => e = .returned (.tuple #[.string X, .bool b]) ∧ Below w.heap.size w w') (w : World) : Calls Tryz.prog 35 #[.string s, .string t] w fun e w' => e = .returned (.tuple #[.string X, .bool b]) ∧ Below w.heap.size w w' := by
 have Hn1 := Lib.hid n1
 have Hn2 := Lib.hid n2
 have Hn3 := Lib.hid n3
 clear n1 n2 n3
 go_enter Tryz.func35, Tryz.ntmps35
 go_wp2_with fail
 refine (Hn1.out _).mono ?_
 rintro e w1 ⟨rfl, c1⟩
 have b1 := c1
 go_wp2_with fail
 refine (Hn2.out _).mono ?_
 rintro e w2 ⟨rfl, c2⟩
 have b2 := below_go b1 c2
 go_wp2_with fail
 refine (Hn3.out _).mono ?_
 rintro e w3 ⟨rfl, c3⟩
 have b3 := below_go b2 c3
 go_wp2_with fail
 go_ret2
 exact ⟨rfl, b3⟩
theorem bothJ (s t : ByteArray) (hs : s.size ≤ 9223372036854775807) (ht : t.size ≤ 9223372036854775807) : ∃ (X : ByteArray) (b : Bool), (∀ w, Calls Tryz.prog 34 #[.string s, .string t] w (TwoS X b w)) ∧ (∀ w, Calls Tryz.prog 35 #[.string s, .string t] w (TwoS X b w)) := by
 cases hg : good s.data.toList with
 | none =>
  refine ⟨_, _, sJ_a s t (fun w => tmGood_none hg w hs), ?_⟩
  cases hh : good t.data.toList with
  | none => exact iJ_a s t _ _ (fun w => parse_none hg w hs) (fun w => parse_none hh w ht)
  | some u => exact iJ_a s t _ _ (fun w => parse_none hg w hs) (fun w => parse_some hh w ht)
 | some t1 =>
  cases hh : good t.data.toList with
  | none => exact ⟨_, _, sJ_b s t (fun w => tmGood_some hg w hs) (fun w => tmGood_none hh w ht), iJ_b s t _ _ (fun w => parse_some hg w hs) (fun w => parse_none hh w ht)⟩
  | some t2 =>
   obtain ⟨es, hL, hE, h300, h60⟩ := good_S hg
   obtain ⟨et, hL2, hE2, h302, h62⟩ := good_S hh
   have ho : (Tm.par t1 t2).ok nmL = true := by simp only [Tm.ok, hL, hL2]; rfl
   have hsz : (Tm.par t1 t2).size ≤ 121 := by simp only [Tm.size]; omega
   have hln : (Tm.par t1 t2).pr.length ≤ 700 := by simp only [Tm.pr, List.length_append, List.length_cons, List.length_nil]; omega
   have hf : FitT (.par t1 t2) := .inr ⟨t1, t2, .inl rfl, fit_ok t1 hL (by omega), fit_ok t2 hL2 (by omega)⟩
   have h1 := nfIf_any (.par t1 t2) hsz hf ho hln
   have h2 := normalText_any (.par t1 t2) ho hsz (by omega)
   have eS : S (.par t1 t2) = ((⟨#[40]⟩ : ByteArray) ++ s ++ ⟨#[38]⟩ ++ t ++ ⟨#[41]⟩) := by
    rw [es, et]
    apply data_inj
    simp only [ByteArray.data_append, Array.toList_append]
    show (Tm.par t1 t2).pr = _
    simp [Tm.pr, S]
   rw [nf_same ho hsz hf, eS] at h1
   exact ⟨_, _, sJ_c s t _ _ (by rw [es, S_size]; exact h300) (by rw [et, S_size]; exact h302) (fun w => tmGood_some hg w hs) (fun w => tmGood_some hh w ht) h1, iJ_c s t _ _ _ _ _ _ (fun w => parse_some hg w hs) (fun w => parse_some hh w ht) h2⟩
theorem sS_a (s t : ByteArray) (n1 : ∀ w, Calls Tryz.prog 48 #[.string s] w fun e w' => e = .returned (.bool false) ∧ Below w.heap.size w w') (w : World) : Calls Tryz.prog 38 #[.string s, .string t] w fun e w' => e = .returned (.tuple #[.string ⟨#[]⟩, .bool false]) ∧ Below w.heap.size w w' := by
 have Hn1 := Lib.hid n1
 clear n1
 go_enter Tryz.func38, Tryz.ntmps38
 go_wp2_with fail
 refine (Hn1.out _).mono ?_
 rintro e w1 ⟨rfl, c1⟩
 have b1 := c1
 go_wp2_with fail
 go_ret2
 exact ⟨rfl, b1⟩
theorem sS_b (s t : ByteArray) (n1 : ∀ w, Calls Tryz.prog 48 #[.string s] w fun e w' => e = .returned (.bool true) ∧ Below w.heap.size w w') (n2 : ∀ w, Calls Tryz.prog 48 #[.string t] w fun e w' => e = .returned (.bool false) ∧ Below w.heap.size w w') (w : World) : Calls Tryz.prog 38 #[.string s, .string t] w fun e w' => e = .returned (.tuple #[.string ⟨#[]⟩, .bool false]) ∧ Below w.heap.size w w' := by
 have Hn1 := Lib.hid n1
 have Hn2 := Lib.hid n2
 clear n1 n2
 go_enter Tryz.func38, Tryz.ntmps38
 go_wp2_with fail
 refine (Hn1.out _).mono ?_
 rintro e w1 ⟨rfl, c1⟩
 have b1 := c1
 go_wp2_with fail
 refine (Hn2.out _).mono ?_
 rintro e w2 ⟨rfl, c2⟩
 have b2 := below_go b1 c2
 go_wp2_with fail
 go_ret2
 exact ⟨rfl, b2⟩
theorem sS_c (s t X : ByteArray) (b : Bool) (hs : s.size ≤ 300) (ht : t.size ≤ 300) (n1 : ∀ w, Calls Tryz.prog 48 #[.string s] w fun e w' => e = .returned (.bool true) ∧ Below w.heap.size w w') (n2 : ∀ w, Calls Tryz.prog 48 #[.string t] w fun e w' => e = .returned (.bool true) ∧ Below w.heap.size w w') (n3 : ∀ w, Calls Tryz.prog 49 #[.string ((⟨#[40]⟩ : ByteArray) ++ s ++ ⟨#[43]⟩ ++ t ++ ⟨#[41]⟩)] w fun e w' => e = .returned (.tuple #[.string X, .bool b]) ∧ Below w.heap.size w w') (w : World) : Calls Tryz.prog 38 #[.string s, .string t] w fun e w' => e = .returned (.tuple #[.string X, .bool b]) ∧ Below w.heap.size w w' := by
 have Hn1 := Lib.hid n1
 have Hn2 := Lib.hid n2
 have Hn3 := Lib.hid n3
 clear n1 n2 n3
 go_enter Tryz.func38, Tryz.ntmps38
 go_wp2_with fail
 refine (Hn1.out _).mono ?_
 rintro e w1 ⟨rfl, c1⟩
 have b1 := c1
 go_wp2_with fail
 refine (Hn2.out _).mono ?_
 rintro e w2 ⟨rfl, c2⟩
 have b2 := below_go b1 c2
 go_wp2_with fail
 refine (Hn3.out _).mono ?_
 rintro e w3 ⟨rfl, c3⟩
 have b3 := below_go b2 c3
 go_wp2_with fail
 go_ret2
 exact ⟨rfl, b3⟩
theorem iS_a (s t : ByteArray) (V : Value) (b : Bool) (n1 : ∀ w, Calls Tryz.prog 50 #[.string s] w fun e w' => e = .returned (.tuple #[.nilIface, .bool false]) ∧ Below w.heap.size w w') (n2 : ∀ w, Calls Tryz.prog 50 #[.string t] w fun e w' => e = .returned (.tuple #[V, .bool b]) ∧ Below w.heap.size w w') (w : World) : Calls Tryz.prog 39 #[.string s, .string t] w fun e w' => e = .returned (.tuple #[.string ⟨#[]⟩, .bool false]) ∧ Below w.heap.size w w' := by
 have Hn1 := Lib.hid n1
 have Hn2 := Lib.hid n2
 clear n1 n2
 go_enter Tryz.func39, Tryz.ntmps39
 go_wp2_with fail
 refine (Hn1.out _).mono ?_
 rintro e w1 ⟨rfl, c1⟩
 have b1 := c1
 go_wp2_with fail
 refine (Hn2.out _).mono ?_
 rintro e w2 ⟨rfl, c2⟩
 have b2 := below_go b1 c2
 go_wp2_with fail
 go_ret2
 exact ⟨rfl, b2⟩
theorem iS_b (s t : ByteArray) (T : TypeId) (V : Value) (n1 : ∀ w, Calls Tryz.prog 50 #[.string s] w fun e w' => e = .returned (.tuple #[.iface T V, .bool true]) ∧ Below w.heap.size w w') (n2 : ∀ w, Calls Tryz.prog 50 #[.string t] w fun e w' => e = .returned (.tuple #[.nilIface, .bool false]) ∧ Below w.heap.size w w') (w : World) : Calls Tryz.prog 39 #[.string s, .string t] w fun e w' => e = .returned (.tuple #[.string ⟨#[]⟩, .bool false]) ∧ Below w.heap.size w w' := by
 have Hn1 := Lib.hid n1
 have Hn2 := Lib.hid n2
 clear n1 n2
 go_enter Tryz.func39, Tryz.ntmps39
 go_wp2_with fail
 refine (Hn1.out _).mono ?_
 rintro e w1 ⟨rfl, c1⟩
 have b1 := c1
 go_wp2_with fail
 refine (Hn2.out _).mono ?_
 rintro e w2 ⟨rfl, c2⟩
 have b2 := below_go b1 c2
 go_wp2_with fail
 go_ret2
 exact ⟨rfl, b2⟩
theorem iS_c (s t X : ByteArray) (b : Bool) (T T2 : TypeId) (V V2 : Value) (n1 : ∀ w, Calls Tryz.prog 50 #[.string s] w fun e w' => e = .returned (.tuple #[.iface T V, .bool true]) ∧ Below w.heap.size w w') (n2 : ∀ w, Calls Tryz.prog 50 #[.string t] w fun e w' => e = .returned (.tuple #[.iface T2 V2, .bool true]) ∧ Below w.heap.size w w') (n3 : ∀ w, Calls Tryz.prog 51 #[.iface 62 (.agg #[.iface T V, .iface T2 V2])] w fun e w' => e = .returned (.tuple #[.string X, .bool b]) ∧ Below w.heap.size w w') (w : World) : Calls Tryz.prog 39 #[.string s, .string t] w fun e w' => e = .returned (.tuple #[.string X, .bool b]) ∧ Below w.heap.size w w' := by
 have Hn1 := Lib.hid n1
 have Hn2 := Lib.hid n2
 have Hn3 := Lib.hid n3
 clear n1 n2 n3
 go_enter Tryz.func39, Tryz.ntmps39
 go_wp2_with fail
 refine (Hn1.out _).mono ?_
 rintro e w1 ⟨rfl, c1⟩
 have b1 := c1
 go_wp2_with fail
 refine (Hn2.out _).mono ?_
 rintro e w2 ⟨rfl, c2⟩
 have b2 := below_go b1 c2
 go_wp2_with fail
 refine (Hn3.out _).mono ?_
 rintro e w3 ⟨rfl, c3⟩
 have b3 := below_go b2 c3
 go_wp2_with fail
 go_ret2
 exact ⟨rfl, b3⟩
theorem bothS (s t : ByteArray) (hs : s.size ≤ 9223372036854775807) (ht : t.size ≤ 9223372036854775807) : ∃ (X : ByteArray) (b : Bool), (∀ w, Calls Tryz.prog 38 #[.string s, .string t] w (TwoS X b w)) ∧ (∀ w, Calls Tryz.prog 39 #[.string s, .string t] w (TwoS X b w)) := by
 cases hg : good s.data.toList with
 | none =>
  refine ⟨_, _, sS_a s t (fun w => tmGood_none hg w hs), ?_⟩
  cases hh : good t.data.toList with
  | none => exact iS_a s t _ _ (fun w => parse_none hg w hs) (fun w => parse_none hh w ht)
  | some u => exact iS_a s t _ _ (fun w => parse_none hg w hs) (fun w => parse_some hh w ht)
 | some t1 =>
  cases hh : good t.data.toList with
  | none => exact ⟨_, _, sS_b s t (fun w => tmGood_some hg w hs) (fun w => tmGood_none hh w ht), iS_b s t _ _ (fun w => parse_some hg w hs) (fun w => parse_none hh w ht)⟩
  | some t2 =>
   obtain ⟨es, hL, hE, h300, h60⟩ := good_S hg
   obtain ⟨et, hL2, hE2, h302, h62⟩ := good_S hh
   have ho : (Tm.sum t1 t2).ok nmL = true := by simp only [Tm.ok, hL, hL2]; rfl
   have hsz : (Tm.sum t1 t2).size ≤ 121 := by simp only [Tm.size]; omega
   have hln : (Tm.sum t1 t2).pr.length ≤ 700 := by simp only [Tm.pr, List.length_append, List.length_cons, List.length_nil]; omega
   have hf : FitT (.sum t1 t2) := .inr ⟨t1, t2, .inr rfl, fit_ok t1 hL (by omega), fit_ok t2 hL2 (by omega)⟩
   have h1 := nfIf_any (.sum t1 t2) hsz hf ho hln
   have h2 := normalText_any (.sum t1 t2) ho hsz (by omega)
   have eS : S (.sum t1 t2) = ((⟨#[40]⟩ : ByteArray) ++ s ++ ⟨#[43]⟩ ++ t ++ ⟨#[41]⟩) := by
    rw [es, et]
    apply data_inj
    simp only [ByteArray.data_append, Array.toList_append]
    show (Tm.sum t1 t2).pr = _
    simp [Tm.pr, S]
   rw [nf_same ho hsz hf, eS] at h1
   exact ⟨_, _, sS_c s t _ _ (by rw [es, S_size]; exact h300) (by rw [et, S_size]; exact h302) (fun w => tmGood_some hg w hs) (fun w => tmGood_some hh w ht) h1, iS_c s t _ _ _ _ _ _ (fun w => parse_some hg w hs) (fun w => parse_some hh w ht) h2⟩
theorem sH_a (s k : ByteArray) (n1 : ∀ w, Calls Tryz.prog 48 #[.string s] w fun e w' => e = .returned (.bool false) ∧ Below w.heap.size w w') (w : World) : Calls Tryz.prog 36 #[.string s, .string k] w fun e w' => e = .returned (.tuple #[.string ⟨#[]⟩, .bool false]) ∧ Below w.heap.size w w' := by
 have Hn1 := Lib.hid n1
 clear n1
 go_enter Tryz.func36, Tryz.ntmps36
 go_wp2_with fail
 refine (Hn1.out _).mono ?_
 rintro e w1 ⟨rfl, c1⟩
 have b1 := c1
 go_wp2_with fail
 go_ret2
 exact ⟨rfl, b1⟩
theorem sH_b (s k : ByteArray) (n1 : ∀ w, Calls Tryz.prog 48 #[.string s] w fun e w' => e = .returned (.bool true) ∧ Below w.heap.size w w') (n2 : ∀ w, Calls Tryz.prog 59 #[.string k] w fun e w' => e = .returned (.bool false) ∧ Below w.heap.size w w') (w : World) : Calls Tryz.prog 36 #[.string s, .string k] w fun e w' => e = .returned (.tuple #[.string ⟨#[]⟩, .bool false]) ∧ Below w.heap.size w w' := by
 have Hn1 := Lib.hid n1
 have Hn2 := Lib.hid n2
 clear n1 n2
 go_enter Tryz.func36, Tryz.ntmps36
 go_wp2_with fail
 refine (Hn1.out _).mono ?_
 rintro e w1 ⟨rfl, c1⟩
 have b1 := c1
 go_wp2_with fail
 refine (Hn2.out _).mono ?_
 rintro e w2 ⟨rfl, c2⟩
 have b2 := below_go b1 c2
 go_wp2_with fail
 go_ret2
 exact ⟨rfl, b2⟩
theorem sH_c (s k X : ByteArray) (b : Bool) (hs : s.size ≤ 300) (hk : k.size ≤ 300) (n1 : ∀ w, Calls Tryz.prog 48 #[.string s] w fun e w' => e = .returned (.bool true) ∧ Below w.heap.size w w') (n2 : ∀ w, Calls Tryz.prog 59 #[.string k] w fun e w' => e = .returned (.bool true) ∧ Below w.heap.size w w') (n3 : ∀ w, Calls Tryz.prog 49 #[.string ((⟨#[35]⟩ : ByteArray) ++ k ++ ⟨#[46]⟩ ++ s)] w fun e w' => e = .returned (.tuple #[.string X, .bool b]) ∧ Below w.heap.size w w') (w : World) : Calls Tryz.prog 36 #[.string s, .string k] w fun e w' => e = .returned (.tuple #[.string X, .bool b]) ∧ Below w.heap.size w w' := by
 have Hn1 := Lib.hid n1
 have Hn2 := Lib.hid n2
 have Hn3 := Lib.hid n3
 clear n1 n2 n3
 go_enter Tryz.func36, Tryz.ntmps36
 go_wp2_with fail
 refine (Hn1.out _).mono ?_
 rintro e w1 ⟨rfl, c1⟩
 have b1 := c1
 go_wp2_with fail
 refine (Hn2.out _).mono ?_
 rintro e w2 ⟨rfl, c2⟩
 have b2 := below_go b1 c2
 go_wp2_with fail
 refine (Hn3.out _).mono ?_
 rintro e w3 ⟨rfl, c3⟩
 have b3 := below_go b2 c3
 go_wp2_with fail
 go_ret2
 exact ⟨rfl, b3⟩
theorem iH_a (s k : ByteArray) (n : Int) (b : Bool) (n1 : ∀ w, Calls Tryz.prog 50 #[.string s] w fun e w' => e = .returned (.tuple #[.nilIface, .bool false]) ∧ Below w.heap.size w w') (n2 : ∀ w, Calls Tryz.prog 60 #[.string k] w fun e w' => e = .returned (.tuple #[.int .u8 n, .bool b]) ∧ Below w.heap.size w w') (w : World) : Calls Tryz.prog 37 #[.string s, .string k] w fun e w' => e = .returned (.tuple #[.string ⟨#[]⟩, .bool false]) ∧ Below w.heap.size w w' := by
 have Hn1 := Lib.hid n1
 have Hn2 := Lib.hid n2
 clear n1 n2
 go_enter Tryz.func37, Tryz.ntmps37
 go_wp2_with fail
 refine (Hn1.out _).mono ?_
 rintro e w1 ⟨rfl, c1⟩
 have b1 := c1
 go_wp2_with fail
 refine (Hn2.out _).mono ?_
 rintro e w2 ⟨rfl, c2⟩
 have b2 := below_go b1 c2
 go_wp2_with fail
 go_ret2
 exact ⟨rfl, b2⟩
theorem iH_b (s k : ByteArray) (n : Int) (T : TypeId) (V : Value) (n1 : ∀ w, Calls Tryz.prog 50 #[.string s] w fun e w' => e = .returned (.tuple #[.iface T V, .bool true]) ∧ Below w.heap.size w w') (n2 : ∀ w, Calls Tryz.prog 60 #[.string k] w fun e w' => e = .returned (.tuple #[.int .u8 n, .bool false]) ∧ Below w.heap.size w w') (w : World) : Calls Tryz.prog 37 #[.string s, .string k] w fun e w' => e = .returned (.tuple #[.string ⟨#[]⟩, .bool false]) ∧ Below w.heap.size w w' := by
 have Hn1 := Lib.hid n1
 have Hn2 := Lib.hid n2
 clear n1 n2
 go_enter Tryz.func37, Tryz.ntmps37
 go_wp2_with fail
 refine (Hn1.out _).mono ?_
 rintro e w1 ⟨rfl, c1⟩
 have b1 := c1
 go_wp2_with fail
 refine (Hn2.out _).mono ?_
 rintro e w2 ⟨rfl, c2⟩
 have b2 := below_go b1 c2
 go_wp2_with fail
 go_ret2
 exact ⟨rfl, b2⟩
theorem iH_c (s k X : ByteArray) (b : Bool) (n : Int) (T : TypeId) (V : Value) (n1 : ∀ w, Calls Tryz.prog 50 #[.string s] w fun e w' => e = .returned (.tuple #[.iface T V, .bool true]) ∧ Below w.heap.size w w') (n2 : ∀ w, Calls Tryz.prog 60 #[.string k] w fun e w' => e = .returned (.tuple #[.int .u8 n, .bool true]) ∧ Below w.heap.size w w') (n3 : ∀ w, Calls Tryz.prog 51 #[.iface 61 (.agg #[.int .u8 n, .iface T V])] w fun e w' => e = .returned (.tuple #[.string X, .bool b]) ∧ Below w.heap.size w w') (w : World) : Calls Tryz.prog 37 #[.string s, .string k] w fun e w' => e = .returned (.tuple #[.string X, .bool b]) ∧ Below w.heap.size w w' := by
 have Hn1 := Lib.hid n1
 have Hn2 := Lib.hid n2
 have Hn3 := Lib.hid n3
 clear n1 n2 n3
 go_enter Tryz.func37, Tryz.ntmps37
 go_wp2_with fail
 refine (Hn1.out _).mono ?_
 rintro e w1 ⟨rfl, c1⟩
 have b1 := c1
 go_wp2_with fail
 refine (Hn2.out _).mono ?_
 rintro e w2 ⟨rfl, c2⟩
 have b2 := below_go b1 c2
 go_wp2_with fail
 refine (Hn3.out _).mono ?_
 rintro e w3 ⟨rfl, c3⟩
 have b3 := below_go b2 c3
 go_wp2_with fail
 go_ret2
 exact ⟨rfl, b3⟩
theorem bothH (s k : ByteArray) (hs : s.size ≤ 9223372036854775807) : ∃ (X : ByteArray) (b : Bool), (∀ w, Calls Tryz.prog 36 #[.string s, .string k] w (TwoS X b w)) ∧ (∀ w, Calls Tryz.prog 37 #[.string s, .string k] w (TwoS X b w)) := by
 rcases one_or k with ⟨c, hc, ek, o1, o2⟩ | ⟨o1, o2⟩
 ·cases hg : good s.data.toList with
  | none => exact ⟨_, _, sH_a s k (fun w => tmGood_none hg w hs), iH_a s k _ _ (fun w => parse_none hg w hs) o2⟩
  | some t =>
   obtain ⟨es, hL, hE, h300, h60⟩ := good_S hg
   have ho : (Tm.own c t).ok nmL = true := by simp only [Tm.ok, hL, hc]; rfl
   have hsz : (Tm.own c t).size ≤ 61 := by simp only [Tm.size]; omega
   have hln : (Tm.own c t).pr.length ≤ 700 := by simp only [Tm.pr, List.length_append, List.length_cons, List.length_nil]; omega
   have hf : FitT (.own c t) := .inl (fit_ok _ ho hsz)
   have h1 := nfIf_any (.own c t) (by omega) hf ho hln
   have h2 := normalText_any (.own c t) ho (by omega) (by omega)
   have eS : S (.own c t) = ((⟨#[35]⟩ : ByteArray) ++ k ++ ⟨#[46]⟩ ++ s) := by
    rw [es, ek]
    apply data_inj
    simp only [ByteArray.data_append, Array.toList_append]
    show (Tm.own c t).pr = _
    simp [Tm.pr, S, B]
   rw [nf_same ho (by omega) hf, eS] at h1
   exact ⟨_, _, sH_c s k _ _ (by rw [es, S_size]; exact h300) (by rw [ek, B_size]; simp) (fun w => tmGood_some hg w hs) o1 h1, iH_c s k _ _ _ _ _ (fun w => parse_some hg w hs) o2 h2⟩
 ·cases hg : good s.data.toList with
  | none => exact ⟨_, _, sH_a s k (fun w => tmGood_none hg w hs), iH_a s k _ _ (fun w => parse_none hg w hs) o2⟩
  | some t => exact ⟨_, _, sH_b s k (fun w => tmGood_some hg w hs) o1, iH_b s k _ _ _ (fun w => parse_some hg w hs) o2⟩
end Go.Proofs.YtalegefnppbkdaaGreat.T1
