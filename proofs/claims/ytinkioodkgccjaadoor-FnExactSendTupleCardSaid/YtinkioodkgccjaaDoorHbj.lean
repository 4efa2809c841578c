/- Texts of the proof, put together: Pq, Cdc. No conditions. -/
import Derived.Test.YtinkioodkgccjaaDoorHbb
import Derived.Test.YtinkioodkgccjaaDoorHbf
import Derived.Test.YtinkioodkgccjaaDoorHbg
import Derived.Test.YtinkioodkgccjaaDoorHbi

/- Another process at a path, in the specification, for every process; a text, if it is a process. -/
namespace Go.Proofs.YtinkioodkgccjaaDoor.T1
open Go.RowKit
set_option maxRecDepth 100000
set_option linter.unusedVariables false

theorem good_of {t : Tm} (h1 : t.ok nmL = true) (h2 : t.pr.length ≤ 300) (h3 : t.size ≤ 60) : good t.pr = some t :=
  good_yes h2 ((E_some nmL_nm).2 ⟨by rw [List.append_nil], h1⟩) h3
theorem good_not {t : Tm} (hE : t.ok nmE = true) (h : ¬ (t.ok nmL = true ∧ t.pr.length ≤ 300 ∧ t.size ≤ 60)) : good t.pr = none := by
  cases hg : good t.pr with
  | none => rfl
  | some t' =>
    obtain ⟨g1, g2, g3, g4⟩ := good_out hg
    have := (pr_inj nmE_nm t t' [] [] hE (ok_EL t' g3) (by rw [g2])).1
    subst this
    exact absurd ⟨g3, g1, g4⟩ h
set_option maxHeartbeats 1000000 in
theorem if_yes (s : ByteArray) (HG : ∀ w, Calls Tryd.prog 11 #[.string s] w fun e w' => e = .returned (.bool true) ∧ Below w.heap.size w w') (w : World) : Calls Tryd.prog 12 #[.string s] w fun e w' => e = .returned (.tuple #[.string s, .bool true]) ∧ Below w.heap.size w w' := by
  have H := Lib.hid HG
  clear HG
  go_enter Tryd.func12, Tryd.ntmps12
  go_wp2_with fail
  refine (H.out _).mono ?_
  rintro e w1 ⟨rfl, bl⟩
  go_wp2_with fail
  go_ret2
  exact ⟨rfl, bl⟩
set_option maxHeartbeats 1000000 in
theorem if_no (s : ByteArray) (HG : ∀ w, Calls Tryd.prog 11 #[.string s] w fun e w' => e = .returned (.bool false) ∧ Below w.heap.size w w') (w : World) : Calls Tryd.prog 12 #[.string s] w fun e w' => e = .returned (.tuple #[.string ⟨#[]⟩, .bool false]) ∧ Below w.heap.size w w' := by
  have H := Lib.hid HG
  clear HG
  go_enter Tryd.func12, Tryd.ntmps12
  go_wp2_with fail
  refine (H.out _).mono ?_
  rintro e w1 ⟨rfl, bl⟩
  go_wp2_with fail
  go_ret2
  exact ⟨rfl, bl⟩
/-- What is left by the question whether a tree is a process. -/
def okT (t : Tm) : Bool := t.ok nmL && decide (t.pr.length ≤ 300) && decide (t.size ≤ 60)
theorem okT_iff (t : Tm) : okT t = true ↔ t.ok nmL = true ∧ t.pr.length ≤ 300 ∧ t.size ≤ 60 := by simp [okT, and_assoc]
theorem tmIf_any (t : Tm) (hE : t.ok nmE = true) (hl : t.pr.length ≤ 100000) (w : World) : Calls Tryd.prog 12 #[.string (S t)] w fun e w' => e = .returned (if okT t then .tuple #[.string (S t), .bool true] else .tuple #[.string ⟨#[]⟩, .bool false]) ∧ Below w.heap.size w w' := by
  have hs : (S t).size ≤ 9223372036854775807 := by rw [S_size]; omega
  by_cases h : okT t = true
  · rw [if_pos h]
    have h' := (okT_iff t).1 h
    exact if_yes _ (fun w => tmGood_some (t := t) (by rw [S_list]; exact good_of h'.1 h'.2.1 h'.2.2) w hs) w
  · rw [if_neg h]
    exact if_no _ (fun w => tmGood_none (by rw [S_list]; exact good_not hE (fun h' => h ((okT_iff t).2 h'))) w hs) w

end Go.Proofs.YtinkioodkgccjaaDoor.T1

/- Names and processes that are read behind the door; a text that is built there. No conditions. -/
namespace Go.Proofs.YtinkioodkgccjaaDoor.T1
open Go.RowKit
set_option maxRecDepth 100000
set_option linter.unusedVariables false
set_option linter.unusedSimpArgs false

set_option maxHeartbeats 1000000 in
theorem ni_yes (k : ByteArray) (c : Int) (HR : ∀ w, Calls Tryd.prog 38 #[.string k] w fun e w' => e = .returned (.tuple #[.int .u8 c, .bool true]) ∧ Below w.heap.size w w') (w : World) :
    Calls Tryd.prog 17 #[.string k] w fun e w' => e = .returned (.int .u8 c) ∧ Below w.heap.size w w' := by
  have H := Lib.hid HR
  clear HR
  go_enter Tryd.func17, Tryd.ntmps17
  go_wp2_with fail
  with_reducible refine (H.out _).mono ?_
  rintro e w1 ⟨rfl, b1⟩
  go_wp2_with fail
  with_reducible refine (ensure_yes _).mono ?_
  rintro e w2 ⟨rfl, rfl⟩
  go_wp2_with fail
  go_ret
  exact ⟨rfl, b1⟩
set_option maxHeartbeats 1000000 in
theorem ni_no (k : ByteArray) (HR : ∀ w, Calls Tryd.prog 38 #[.string k] w fun e w' => e = .returned (.tuple #[.int .u8 0, .bool false]) ∧ Below w.heap.size w w') (w : World) :
    Calls Tryd.prog 17 #[.string k] w fun e w' => e = failed ∧ Below w.heap.size w w' := by
  have H := Lib.hid HR
  clear HR
  go_enter Tryd.func17, Tryd.ntmps17
  go_wp2_with fail
  with_reducible refine (H.out _).mono ?_
  rintro e w1 ⟨rfl, b1⟩
  go_wp2_with fail
  with_reducible refine (ensure_no _).mono ?_
  rintro e w2 ⟨rfl, rfl⟩
  exact ⟨rfl, rfl, b1⟩
set_option maxHeartbeats 1000000 in
theorem pi_yes (k : ByteArray) (T : TypeId) (V : Value) (HR : ∀ w, Calls Tryd.prog 41 #[.string k] w fun e w' => e = .returned (.tuple #[.iface T V, .bool true]) ∧ Below w.heap.size w w') (w : World) :
    Calls Tryd.prog 19 #[.string k] w fun e w' => e = .returned (.iface T V) ∧ Below w.heap.size w w' := by
  have H := Lib.hid HR
  clear HR
  go_enter Tryd.func19, Tryd.ntmps19
  go_wp2_with fail
  with_reducible refine (H.out _).mono ?_
  rintro e w1 ⟨rfl, b1⟩
  go_wp2_with fail
  with_reducible refine (ensure_yes _).mono ?_
  rintro e w2 ⟨rfl, rfl⟩
  go_wp2_with fail
  go_ret
  exact ⟨rfl, b1⟩
set_option maxHeartbeats 1000000 in
theorem pi_no (k : ByteArray) (HR : ∀ w, Calls Tryd.prog 41 #[.string k] w fun e w' => e = .returned (.tuple #[.nilIface, .bool false]) ∧ Below w.heap.size w w') (w : World) :
    Calls Tryd.prog 19 #[.string k] w fun e w' => e = failed ∧ Below w.heap.size w w' := by
  have H := Lib.hid HR
  clear HR
  go_enter Tryd.func19, Tryd.ntmps19
  go_wp2_with fail
  with_reducible refine (H.out _).mono ?_
  rintro e w1 ⟨rfl, b1⟩
  go_wp2_with fail
  with_reducible refine (ensure_no _).mono ?_
  rintro e w2 ⟨rfl, rfl⟩
  exact ⟨rfl, rfl, b1⟩

/-- What is told of a tree that is built. -/
def codedV (t : Tm) : Value := .tuple #[.string (if okT t then S t else ⟨#[]⟩), .bool (okT t)]
theorem tmIf_coded (t : Tm) (hE : t.ok nmE = true) (hl : t.pr.length ≤ 100000) (w : World) : Calls Tryd.prog 12 #[.string (S t)] w fun e w' => e = .returned (codedV t) ∧ Below w.heap.size w w' :=
  (tmIf_any t hE hl w).mono fun e w' ⟨h, b⟩ => ⟨by rw [h, codedV]; cases okT t <;> rfl, b⟩
theorem pt_coded (t : Tm) (hL : t.ok nmL = true) (hl : t.pr.length ≤ 900) (ht : t.size ≤ 1000) (w : World) : Calls Tryd.prog 33 #[.iface (tyOf t) (pay t)] w fun e w' => e = .returned (codedV t) ∧ Below w.heap.size w w' :=
  (processText_any t hl ht w).mono fun e w' h => by
    rcases h with ⟨⟨g1, g2, h⟩ | ⟨g, h⟩, b⟩
    · have : okT t = true := (okT_iff t).2 ⟨hL, g1, g2⟩
      rw [codedV, this]; exact ⟨h, b⟩
    · have : okT t = false := by
        cases h : okT t with
        | false => rfl
        | true => exact absurd ((okT_iff t).1 h).2 g
      rw [codedV, this]; exact ⟨h, b⟩
set_option maxHeartbeats 1000000 in
theorem coded0 (F : Value) (T : TypeId) (V : Value) (X : ByteArray) (y : Bool) (w : World)
    (HA : Calls Tryd.prog 32 #[F] w fun e w' => e = .returned (.tuple #[.iface T V, .bool true]) ∧ Below w.heap.size w w')
    (HP : ∀ w, Calls Tryd.prog 33 #[.iface T V] w fun e w' => e = .returned (.tuple #[.string X, .bool y]) ∧ Below w.heap.size w w') :
    Calls Tryd.prog 14 #[F] w fun e w' => e = .returned (.tuple #[.string X, .bool y]) ∧ Below w.heap.size w w' := by
  have H := Lib.hid HA
  have H2 := Lib.hid HP
  clear HA HP
  go_enter Tryd.func14, Tryd.ntmps14
  go_wp2_with fail
  with_reducible refine (H.out).mono ?_
  rintro e w1 ⟨rfl, b1⟩
  go_wp2_with fail
  with_reducible refine (H2.out _).mono ?_
  rintro e w2 ⟨rfl, b2⟩
  go_wp2_with fail
  go_ret2
  exact ⟨rfl, below_trans b1 b2 b1.size⟩
set_option maxHeartbeats 1000000 in
theorem coded1 (F : Value) (w : World)
    (HA : Calls Tryd.prog 32 #[F] w fun e w' => e = .returned (.tuple #[.nilIface, .bool false]) ∧ Below w.heap.size w w') :
    Calls Tryd.prog 14 #[F] w fun e w' => e = .returned (.tuple #[.string ⟨#[]⟩, .bool false]) ∧ Below w.heap.size w w' := by
  have H := Lib.hid HA
  clear HA
  go_enter Tryd.func14, Tryd.ntmps14
  go_wp2_with fail
  with_reducible refine (H.out).mono ?_
  rintro e w1 ⟨rfl, b1⟩
  go_wp2_with fail
  go_ret2
  exact ⟨rfl, b1⟩
/-- The text of a tree that a function builds behind the door. -/
theorem coded_yes (CF : FuncId) (caps : Array Value) (t : Tm) (hL : t.ok nmL = true) (hl : t.pr.length ≤ 900) (ht : t.size ≤ 1000) (hF : ∀ args w, (callFunc CF args).run Tryd.prog w = .ok (.enter CF args) w) (w : World)
    (HA : ∀ w1, Below w.heap.size w w1 → Calls Tryd.prog CF caps w1 fun e w' => e = .returned (.iface (tyOf t) (pay t)) ∧ Below w1.heap.size w1 w') :
    Calls Tryd.prog 14 #[.func (.func CF) #[] caps] w fun e w' => e = .returned (codedV t) ∧ Below w.heap.size w w' :=
  coded0 _ _ _ _ _ w (ans_yes CF caps _ _ hF w HA) (pt_coded t hL hl ht)
theorem coded_no (CF : FuncId) (caps : Array Value) (hF : ∀ args w, (callFunc CF args).run Tryd.prog w = .ok (.enter CF args) w) (w : World)
    (HA : ∀ w1, Below w.heap.size w w1 → Calls Tryd.prog CF caps w1 fun e w' => e = failed ∧ Below w1.heap.size w1 w') :
    Calls Tryd.prog 14 #[.func (.func CF) #[] caps] w fun e w' => e = .returned (.tuple #[.string ⟨#[]⟩, .bool false]) ∧ Below w.heap.size w w' :=
  coded1 _ w (ans_no CF caps hF w HA)
end Go.Proofs.YtinkioodkgccjaaDoor.T1
