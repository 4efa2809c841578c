/- What both sides answer where the front of a normal form or its threads are asked. MADE BY gen_Md.py. -/
import Derived.Test.YtnncoaeolfckbabGreatMc
namespace Go.Proofs.YtnncoaeolfckbabGreat.T1
open Go.RowKit
set_option maxRecDepth 100000
set_option linter.unusedVariables false
set_option linter.unusedSimpArgs false

/-- The normal form of a text, if it has one. -/
noncomputable def nfO (s : ByteArray) : Option Tm := (good s.data.toList).bind nfI
theorem nfO_some {s : ByteArray} {r : Tm} (h : nfO s = some r) : NfForm r ∧ r.ok nmL = true ∧ r.pr.length ≤ 300 ∧ r.size ≤ 60 := by
  unfold nfO at h
  cases hg : good s.data.toList with
  | none => rw [hg] at h; cases h
  | some t =>
    rw [hg] at h
    have h' : nfI t = some r := h
    refine ⟨nfI_form h', ?_⟩
    unfold nfI at h'
    split at h'
    · cases h'
    · split at h'
      · rename_i hh; cases h'; exact hh
      · cases h'
set_option maxHeartbeats 2000000 in
theorem nO_no (s : ByteArray) (n1 : ∀ w, Calls Tryz.prog 48 #[.string s] w fun e w' => e = .returned (.tuple #[.nilIface, .bool false]) ∧ Below w.heap.size w w') (w : World) : Calls Tryz.prog 26 #[.string s] w fun e w' => e = .returned (.tuple #[.nilIface, .bool false]) ∧ Below w.heap.size w w' := by
  have Hn1 := Lib.hid n1
  clear n1
  go_enter Tryz.func26, Tryz.ntmps26
  go_wp2_with fail
  refine (Hn1.out _).mono ?_
  rintro e w1 ⟨rfl, c1⟩
  have b1 := c1
  go_wp2_with fail
  go_ret2
  exact ⟨rfl, b1⟩
set_option maxHeartbeats 2000000 in
theorem nO_yes (s : ByteArray) (T : TypeId) (V PV : Value) (b : Bool) (n1 : ∀ w, Calls Tryz.prog 48 #[.string s] w fun e w' => e = .returned (.tuple #[.iface T V, .bool true]) ∧ Below w.heap.size w w') (n2 : ∀ w, Calls Tryz.prog 49 #[.iface T V] w fun e w' => e = .returned (.tuple #[PV, .bool b]) ∧ Below w.heap.size w w') (w : World) : Calls Tryz.prog 26 #[.string s] w fun e w' => e = .returned (.tuple #[PV, .bool b]) ∧ Below w.heap.size w w' := by
  have Hn1 := Lib.hid n1
  have Hn2 := Lib.hid n2
  clear n1 n2
  go_enter Tryz.func26, Tryz.ntmps26
  go_wp2_with fail
  refine (Hn1.out _).mono ?_
  rintro e w1 ⟨rfl, c1⟩
  have b1 := c1
  go_wp2_with fail
  refine (Hn2.out _).mono ?_
  rintro e w2 ⟨rfl, c2⟩
  have b2 := below_go b1 c2
  go_wp2_with fail
  go_ret2
  exact ⟨rfl, b2⟩
theorem implO (s : ByteArray) (hm : s.size ≤ 9223372036854775807) (w : World) : Calls Tryz.prog 26 #[.string s] w fun e w' => e = .returned (.tuple #[nfV (nfO s), .bool (nfO s).isSome]) ∧ Below w.heap.size w w' := by
  unfold nfO
  cases hg : good s.data.toList with
  | none => exact nO_no s (fun w => parse_none hg w hm) w
  | some t =>
    obtain ⟨es, hL, hE, h300, h60⟩ := good_S hg
    exact nO_yes s _ _ _ _ (fun w => parse_some hg w hm) (normalForm_any t hL (by omega) (by omega)) w
theorem specO (s : ByteArray) (hm : s.size ≤ 9223372036854775807) (w : World) : Calls Tryz.prog 24 #[.string s] w (TwoS (optS (nfO s)) (nfO s).isSome w) := by
  unfold nfO
  cases hg : good s.data.toList with
  | none => exact sN_no s (fun w => tmGood_none hg w hm) w
  | some t =>
    obtain ⟨es, hL, hE, h300, h60⟩ := good_S hg
    have hf : FitT t := .inl (fit_ok t hL (by omega))
    have h1 := nfIf_any t (by omega) hf hL (by omega)
    rw [nf_same hL (by omega) hf, ← es] at h1
    exact sN_yes s _ _ (fun w => tmGood_some hg w hm) h1 w
set_option maxHeartbeats 2000000 in
theorem sIn (s X : ByteArray) (b : Bool) (n1 : ∀ w, Calls Tryz.prog 24 #[.string s] w fun e w' => e = .returned (.tuple #[.string X, .bool b]) ∧ Below w.heap.size w w') (w : World) : Calls Tryz.prog 18 #[.string s] w fun e w' => e = .returned (.tuple #[.bool (X.toList == [48]), .bool b]) ∧ Below w.heap.size w w' := by
  have Hn1 := Lib.hid n1
  clear n1
  go_enter Tryz.func18, Tryz.ntmps18
  go_wp2_with fail
  refine (Hn1.out _).mono ?_
  rintro e w1 ⟨rfl, c1⟩
  have b1 := c1
  go_wp2_with fail
  go_ret2
  exact ⟨rfl, b1⟩
set_option maxHeartbeats 2000000 in
theorem iIn_a (s : ByteArray) (n1 : ∀ w, Calls Tryz.prog 26 #[.string s] w fun e w' => e = .returned (.tuple #[.nilIface, .bool false]) ∧ Below w.heap.size w w') (w : World) : Calls Tryz.prog 19 #[.string s] w fun e w' => e = .returned (.tuple #[.bool false, .bool false]) ∧ Below w.heap.size w w' := by
  have Hn1 := Lib.hid n1
  clear n1
  go_enter Tryz.func19, Tryz.ntmps19
  go_wp2_with fail
  refine (Hn1.out _).mono ?_
  rintro e w1 ⟨rfl, c1⟩
  have b1 := c1
  go_wp2_with fail
  go_ret2
  exact ⟨rfl, b1⟩
set_option maxHeartbeats 2000000 in
theorem iIn_b (s : ByteArray) (T : TypeId) (V : Value) (z : Bool) (n1 : ∀ w, Calls Tryz.prog 26 #[.string s] w fun e w' => e = .returned (.tuple #[.iface T V, .bool true]) ∧ Below w.heap.size w w') (n2 : ∀ w, Calls Tryz.prog 31 #[.iface T V] w fun e w' => e = .returned (.bool z) ∧ Below w.heap.size w w') (w : World) : Calls Tryz.prog 19 #[.string s] w fun e w' => e = .returned (.tuple #[.bool z, .bool true]) ∧ Below w.heap.size w w' := by
  have Hn1 := Lib.hid n1
  have Hn2 := Lib.hid n2
  clear n1 n2
  go_enter Tryz.func19, Tryz.ntmps19
  go_wp2_with fail
  refine (Hn1.out _).mono ?_
  rintro e w1 ⟨rfl, c1⟩
  have b1 := c1
  go_wp2_with fail
  refine (Hn2.out _).mono ?_
  rintro e w2 ⟨rfl, c2⟩
  have b2 := below_go b1 c2
  go_wp2_with fail
  go_ret2
  exact ⟨rfl, b2⟩
theorem inert_text (r : Tm) : ((S r).toList == [48]) = isN r := by
  rw [Lib.toList_data, S_list]
  cases r with
  | nil => rfl
  | _ => simp [Tm.pr, isN]
theorem bothIn (s : ByteArray) (hs : s.size ≤ 9223372036854775807) : ∃ (y b : Bool), (∀ w, Calls Tryz.prog 18 #[.string s] w (fun e w' => e = .returned (.tuple #[.bool y, .bool b]) ∧ Below w.heap.size w w')) ∧ (∀ w, Calls Tryz.prog 19 #[.string s] w (fun e w' => e = .returned (.tuple #[.bool y, .bool b]) ∧ Below w.heap.size w w')) := by
  have h1 := specO s hs
  have h2 := implO s hs
  cases e : nfO s with
  | none =>
    rw [e] at h1 h2
    refine ⟨_, _, sIn s ⟨#[]⟩ false h1, ?_⟩
    have : ((⟨#[]⟩ : ByteArray).toList == [48]) = false := by rw [Lib.toList_data]; rfl
    rw [this]
    exact iIn_a s h2
  | some r =>
    rw [e] at h1 h2
    refine ⟨_, _, sIn s (S r) true h1, ?_⟩
    rw [inert_text]
    exact iIn_b s _ _ _ h2 (isNothing_any r)
set_option maxHeartbeats 2000000 in
theorem sFr_a (s X : ByteArray) (n1 : ∀ w, Calls Tryz.prog 24 #[.string s] w fun e w' => e = .returned (.tuple #[.string X, .bool false]) ∧ Below w.heap.size w w') (w : World) : Calls Tryz.prog 9 #[.string s] w fun e w' => e = .returned (.tuple #[.string ⟨#[]⟩, .bool false]) ∧ Below w.heap.size w w' := by
  have Hn1 := Lib.hid n1
  clear n1
  go_enter Tryz.func9, Tryz.ntmps9
  go_wp2_with fail
  refine (Hn1.out _).mono ?_
  rintro e w1 ⟨rfl, c1⟩
  have b1 := c1
  go_wp2_with fail
  go_ret2
  exact ⟨rfl, b1⟩
set_option maxHeartbeats 2000000 in
theorem sFr_b (s X F Y : ByteArray) (n1 : ∀ w, Calls Tryz.prog 24 #[.string s] w fun e w' => e = .returned (.tuple #[.string X, .bool true]) ∧ Below w.heap.size w w') (n2 : ∀ w, Calls Tryz.prog 25 #[.string X] w fun e w' => e = .returned (.tuple #[.string F, .string Y]) ∧ Below w.heap.size w w') (w : World) : Calls Tryz.prog 9 #[.string s] w fun e w' => e = .returned (.tuple #[.string F, .bool true]) ∧ Below w.heap.size w w' := by
  have Hn1 := Lib.hid n1
  have Hn2 := Lib.hid n2
  clear n1 n2
  go_enter Tryz.func9, Tryz.ntmps9
  go_wp2_with fail
  refine (Hn1.out _).mono ?_
  rintro e w1 ⟨rfl, c1⟩
  have b1 := c1
  go_wp2_with fail
  refine (Hn2.out _).mono ?_
  rintro e w2 ⟨rfl, c2⟩
  have b2 := below_go b1 c2
  go_wp2_with fail
  go_ret2
  exact ⟨rfl, b2⟩
set_option maxHeartbeats 2000000 in
theorem iFr_a (s : ByteArray) (n1 : ∀ w, Calls Tryz.prog 26 #[.string s] w fun e w' => e = .returned (.tuple #[.nilIface, .bool false]) ∧ Below w.heap.size w w') (w : World) : Calls Tryz.prog 10 #[.string s] w fun e w' => e = .returned (.tuple #[.string ⟨#[]⟩, .bool false]) ∧ Below w.heap.size w w' := by
  have Hn1 := Lib.hid n1
  clear n1
  go_enter Tryz.func10, Tryz.ntmps10
  go_wp2_with fail
  refine (Hn1.out _).mono ?_
  rintro e w1 ⟨rfl, c1⟩
  have b1 := c1
  go_wp2_with fail
  go_ret2
  exact ⟨rfl, b1⟩
theorem conv_any {w : World} {base n : Nat} {v : Value} (l : List UInt8) (hn : n = l.length) (h : w.ownsRow base 5 1 v n (l.map ub)) : (convert 40 9 v).run Tryz.prog w = .ok (.string (B l)) w := by
  by_cases h0 : 0 < l.length
  · exact conv_row l hn h0 h
  · have hl : l = [] := List.length_eq_zero_iff.1 (by omega)
    subst hl
    have hn0 : n = 0 := by simpa using hn
    subst hn0
    rcases h.2 with ⟨e, _⟩ | ⟨g, cap, cur, e, _⟩
    · rw [e]; exact conv_nil w
    · rw [e]
      exact run_convert_bytes_back w 40 9 5 ⟨g, 0, none⟩ cap [] Tryz.underlying40 Tryz.underlying5 Tryz.underlying9 fun j hj => by simp at hj
set_option maxHeartbeats 2000000 in
theorem iFr_b (s : ByteArray) (T : TypeId) (V : Value) (fs : List UInt8) (ts : List Value) (n1 : ∀ w, Calls Tryz.prog 26 #[.string s] w fun e w' => e = .returned (.tuple #[.iface T V, .bool true]) ∧ Below w.heap.size w w') (n2 : ∀ w, Calls Tryz.prog 27 #[.iface T V] w (LvlP fs ts w)) (w : World) :
    Calls Tryz.prog 10 #[.string s] w (fun e w' => e = .returned (.tuple #[.string (B fs), .bool true]) ∧ Below w.heap.size w w') := by
  have H1 := Lib.hid n1
  have H2 := Lib.hid n2
  obtain ⟨X, hX⟩ : ∃ X, X = B fs := ⟨_, rfl⟩
  have HV : Hid (∀ (w1 : World) (b : Nat) (v : Value), w1.ownsRow b 5 1 v fs.length (fs.map ub) → (convert 40 9 v).run Tryz.prog w1 = .ok (.string X) w1) := fun w1 b v h => by rw [hX]; exact conv_any fs rfl h
  rw [← hX]
  clear n1 n2 hX
  go_enter Tryz.func10, Tryz.ntmps10
  go_wp2_with fail
  refine (H1.out _).mono ?_
  rintro e w1 ⟨rfl, b1⟩
  go_wp2_with fail
  refine (H2.out _).mono ?_
  rintro e w2 ⟨v1, v2, rfl, o1, o2, c2⟩
  have b2 := below_go b1 c2
  have hcv := HV.out w2 _ v1 o1
  clear o1 o2 c2
  go_wp2_with fail
  go_ret2
  exact ⟨rfl, b2⟩
theorem bothFr (s : ByteArray) (hs : s.size ≤ 9223372036854775807) : ∃ (X : ByteArray) (b : Bool), (∀ w, Calls Tryz.prog 9 #[.string s] w (TwoS X b w)) ∧ (∀ w, Calls Tryz.prog 10 #[.string s] w (TwoS X b w)) := by
  have h1 := specO s hs
  have h2 := implO s hs
  cases e : nfO s with
  | none =>
    rw [e] at h1 h2
    exact ⟨_, _, sFr_a s ⟨#[]⟩ h1, iFr_a s h2⟩
  | some r =>
    rw [e] at h1 h2
    obtain ⟨hf, hok, h300, h60⟩ := nfO_some e
    obtain ⟨f1, f2, f3⟩ := form_lvl hf
    have hl := levelOf_any r (by omega)
    rw [f1] at hl
    exact ⟨_, _, sFr_b s (S r) (B r.fro.1) _ h1 (fun w => (nfFront_any r (ok_LE r hok) (by omega) (by omega) w).mono fun e w' h => ⟨h.1, by rw [← h.2]; exact Below.refl _ _⟩), iFr_b s _ _ _ _ h2 hl⟩

end Go.Proofs.YtnncoaeolfckbabGreat.T1
