/- Texts of the proof, put together: Aq, Ar, CAreAlpha. No conditions. -/
import Derived.Test.YtpabmidjfpabdaaGreatHbm
import Derived.Test.YtpabmidjfpabdaaGreatHbn
import Derived.Test.YtpabmidjfpabdaaGreatProg
import Derived.WalkKit
import Derived.ProofKit
import Derived.OpenShut
import Derived.ShutString
import Derived.ChangeOld
import Derived.Below

/- Alike by names, in the specification: the ways through. -/
namespace Go.Proofs.YtpabmidjfpabdaaGreat.T1
open Go.RowKit
set_option maxRecDepth 100000
set_option linter.unusedVariables false
set_option linter.unusedSimpArgs false

end Go.Proofs.YtpabmidjfpabdaaGreat.T1

/- Alike by names, in the specification, for every two processes. -/
namespace Go.Proofs.YtpabmidjfpabdaaGreat.T1
open Go.RowKit
set_option maxRecDepth 100000
set_option linter.unusedVariables false
set_option linter.unusedSimpArgs false

end Go.Proofs.YtpabmidjfpabdaaGreat.T1

/- What AreAlpha answers on both sides. No conditions. -/
namespace Go.Proofs.YtpabmidjfpabdaaGreat
namespace LawAreAlpha
open Go.ChangeShapes Go.WideShapes Go.ChangeAt Go.RowKit Go.Proofs.YtpabmidjfpabdaaGreat.T1
open Go.ChangeMaps (open_string shut_string)
set_option linter.unusedVariables false

theorem blw {u v w : World} (h : Below u.heap.size u v) (k : Below v.heap.size v w) : Below u.heap.size u w := below_trans h k h.size
set_option maxHeartbeats 1000000 in
theorem i_n1 (s q : ByteArray)  (G1 : ∀ w, Calls Tryz.prog 25 #[.string s] w fun e w' => e = .returned (.tuple #[.nilIface, .bool false]) ∧ Below w.heap.size w w') (G2 : ∀ w, Calls Tryz.prog 25 #[.string q] w fun e w' => e = .returned (.tuple #[.nilIface, .bool false]) ∧ Below w.heap.size w w') (w : World) : Calls Tryz.prog 11 #[.string s, .string q] w fun e w' => e = .returned (.tuple #[.bool false, .bool false]) ∧ Below w.heap.size w w' := by
  have G1' := Lib.hid G1
  have G2' := Lib.hid G2
  clear G1 G2
  go_enter Tryz.func11, Tryz.ntmps11
  go_wp2_with fail
  refine (G1'.out _).mono ?_
  rintro e w1 ⟨rfl, b1⟩
  go_wp2_with fail
  refine (G2'.out _).mono ?_
  rintro e w2 ⟨rfl, b2⟩
  have bl2 := blw b1 b2
  go_wp2_with fail
  go_ret2
  exact ⟨rfl, bl2⟩
set_option maxHeartbeats 1000000 in
theorem i_n2 (s q : ByteArray) (T1 : TypeId) (V1 : Value) (G1 : ∀ w, Calls Tryz.prog 25 #[.string s] w fun e w' => e = .returned (.tuple #[.iface T1 V1, .bool true]) ∧ Below w.heap.size w w') (G2 : ∀ w, Calls Tryz.prog 25 #[.string q] w fun e w' => e = .returned (.tuple #[.nilIface, .bool false]) ∧ Below w.heap.size w w') (w : World) : Calls Tryz.prog 11 #[.string s, .string q] w fun e w' => e = .returned (.tuple #[.bool false, .bool false]) ∧ Below w.heap.size w w' := by
  have G1' := Lib.hid G1
  have G2' := Lib.hid G2
  clear G1 G2
  go_enter Tryz.func11, Tryz.ntmps11
  go_wp2_with fail
  refine (G1'.out _).mono ?_
  rintro e w1 ⟨rfl, b1⟩
  go_wp2_with fail
  refine (G2'.out _).mono ?_
  rintro e w2 ⟨rfl, b2⟩
  have bl2 := blw b1 b2
  go_wp2_with fail
  go_ret2
  exact ⟨rfl, bl2⟩
set_option maxHeartbeats 1000000 in
theorem i_yes (s q : ByteArray) (T1 T2 T3 T4 : TypeId) (V1 V2 V3 V4 : Value) (X Y : ByteArray) (b : Bool) (hb : (X.toList == Y.toList) = b) (G1 : ∀ w, Calls Tryz.prog 25 #[.string s] w fun e w' => e = .returned (.tuple #[.iface T1 V1, .bool true]) ∧ Below w.heap.size w w') (G2 : ∀ w, Calls Tryz.prog 25 #[.string q] w fun e w' => e = .returned (.tuple #[.iface T2 V2, .bool true]) ∧ Below w.heap.size w w') (HA : ∀ w, Calls Tryz.prog 37 #[.iface T1 V1] w fun e w' => e = .returned (.iface T3 V3) ∧ Below w.heap.size w w') (HX : ∀ w, Calls Tryz.prog 36 #[.iface T3 V3] w fun e w' => e = .returned (.string X) ∧ Below w.heap.size w w') (HB : ∀ w, Calls Tryz.prog 37 #[.iface T2 V2] w fun e w' => e = .returned (.iface T4 V4) ∧ Below w.heap.size w w') (HY : ∀ w, Calls Tryz.prog 36 #[.iface T4 V4] w fun e w' => e = .returned (.string Y) ∧ Below w.heap.size w w') (w : World) : Calls Tryz.prog 11 #[.string s, .string q] w fun e w' => e = .returned (.tuple #[.bool b, .bool true]) ∧ Below w.heap.size w w' := by
  have G1' := Lib.hid G1
  have G2' := Lib.hid G2
  have HA' := Lib.hid HA
  have HB' := Lib.hid HB
  have HX' := Lib.hid HX
  have HY' := Lib.hid HY
  clear G1 G2 HA HB HX HY
  have HBB := Lib.hid hb
  clear hb
  go_enter Tryz.func11, Tryz.ntmps11
  go_wp2_with fail
  refine (G1'.out _).mono ?_
  rintro e w1 ⟨rfl, b1⟩
  go_wp2_with fail
  refine (G2'.out _).mono ?_
  rintro e w2 ⟨rfl, b2⟩
  have bl2 := blw b1 b2
  go_wp2_with fail
  refine (HA'.out _).mono ?_
  rintro e w3 ⟨rfl, b3⟩
  have bl3 := blw bl2 b3
  go_wp2_with fail
  refine (HX'.out _).mono ?_
  rintro e w4 ⟨rfl, b4⟩
  have bl4 := blw bl3 b4
  go_wp2_with fail
  refine (HB'.out _).mono ?_
  rintro e w5 ⟨rfl, b5⟩
  have bl5 := blw bl4 b5
  go_wp2_with fail
  refine (HY'.out _).mono ?_
  rintro e w6 ⟨rfl, b6⟩
  have bl6 := blw bl5 b6
  go_wp2_with fail
  go_ret2
  exact ⟨by rw [← HBB.out]; rfl, bl6⟩

theorem can_more (t : Tm) : ∀ (f : UInt8 → UInt8) (ns ms : List UInt8), t.bnd.length ≤ ns.length → can t f (ns ++ ms) = can t f ns := by
  induction t with
  | nil => intro f ns ms h; rfl
  | snd a b p ih => intro f ns ms h; simp only [can]; rw [ih f ns ms h]
  | tau p ih => intro f ns ms h; simp only [can]; rw [ih f ns ms h]
  | mat a b p ih => intro f ns ms h; simp only [can]; rw [ih f ns ms h]
  | rep p ih => intro f ns ms h; simp only [can]; rw [ih f ns ms h]
  | rcv a x p ih =>
    intro f ns ms h
    cases ns with
    | nil => simp [Tm.bnd] at h
    | cons n ns => simp only [can, List.cons_append, List.headD_cons, List.tail_cons]; rw [ih _ ns ms (by simp [Tm.bnd] at h; omega)]
  | own x p ih =>
    intro f ns ms h
    cases ns with
    | nil => simp [Tm.bnd] at h
    | cons n ns => simp only [can, List.cons_append, List.headD_cons, List.tail_cons]; rw [ih _ ns ms (by simp [Tm.bnd] at h; omega)]
  | sum p q ih ih2 =>
    intro f ns ms h
    simp only [Tm.bnd, List.length_append] at h
    simp only [can]
    rw [ih f ns ms (by omega), List.drop_append_of_le_length (by omega), ih2 f _ ms (by rw [List.length_drop]; omega)]
  | par p q ih ih2 =>
    intro f ns ms h
    simp only [Tm.bnd, List.length_append] at h
    simp only [can]
    rw [ih f ns ms (by omega), List.drop_append_of_le_length (by omega), ih2 f _ ms (by rw [List.length_drop]; omega)]
theorem marks_split : marksN = marks ++ marksN.drop 60 := by unfold marksN marks; decide +kernel
theorem can_marks (t : Tm) (h : t.bnd.length ≤ 60) : can t id marksN = can t id marks := by
  rw [marks_split]; exact can_more t id marks _ (by rw [marks_len]; exact h)
theorem bnd_lt (t : Tm) : t.bnd.length + 1 ≤ t.size := by
  induction t <;> simp_all [Tm.bnd, Tm.size] <;> omega
end LawAreAlpha
end Go.Proofs.YtpabmidjfpabdaaGreat
