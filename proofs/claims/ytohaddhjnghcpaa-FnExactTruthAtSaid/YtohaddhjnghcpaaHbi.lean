/- Texts of the proof, put together: Cdn. No conditions. -/
import Derived.Test.YtohaddhjnghcpaaHbe
import Derived.Test.YtohaddhjnghcpaaHbh

/- Chapter 7 in the specification, way by way. MADE BY gen_Cn7.py. No conditions. -/
namespace Go.Proofs.Ytohaddhjnghcpaa.T1
open Go.RowKit
set_option maxRecDepth 100000
set_option linter.unusedVariables false
set_option linter.unusedSimpArgs false

set_option maxHeartbeats 2000000 in
theorem cdTruth_true (A X Y R : ByteArray) (x y : Int) (zA : A.size ≤ 700) (zR : R.size ≤ 700) (zX : X.size ≤ 700) (zY : Y.size ≤ 700)
    (F1 : ∀ w, Calls Try.prog 43 #[.string A] w fun e w' => e = .returned (.int .u8 x) ∧ Below w.heap.size w w')
    (X1 : ∀ w, Calls Try.prog 42 #[.int .u8 x] w fun e w' => e = .returned (.string X) ∧ Below w.heap.size w w')
    (F2 : ∀ w, Calls Try.prog 43 #[.string (A ++ X)] w fun e w' => e = .returned (.int .u8 y) ∧ Below w.heap.size w w')
    (X2 : ∀ w, Calls Try.prog 42 #[.int .u8 y] w fun e w' => e = .returned (.string Y) ∧ Below w.heap.size w w')
    (R1 : ∀ w, Calls Try.prog 44 #[.string A, .string (X ++ Y), .string (X ++ (⟨#[33]⟩ : ByteArray) ++ X ++ (⟨#[46, 48]⟩ : ByteArray))] w fun e w' => e = .returned (.string R) ∧ Below w.heap.size w w') (w : World) :
    Calls Try.prog 32 #[.string A, .bool true] w fun e w' => e = .returned (.string ((⟨#[42]⟩ : ByteArray) ++ R)) ∧ Below w.heap.size w w' := by
  have F1' := Lib.hid F1
  have X1' := Lib.hid X1
  have F2' := Lib.hid F2
  have X2' := Lib.hid X2
  have R1' := Lib.hid R1
  clear F1 X1 F2 X2 R1
  go_enter Try.func32, Try.ntmps32
  go_wp2_with fail
  with_reducible refine (F1'.out _).mono ?_
  rintro e w1 ⟨rfl, b1⟩
  have k1 := b1
  go_wp2_with fail
  with_reducible refine (X1'.out _).mono ?_
  rintro e w2 ⟨rfl, b2⟩
  have k2 := xgo k1 b2
  go_wp2_with fail
  with_reducible refine (F2'.out _).mono ?_
  rintro e w3 ⟨rfl, b3⟩
  have k3 := xgo k2 b3
  clear b3 k2
  go_wp2_with fail
  with_reducible refine (X2'.out _).mono ?_
  rintro e w4 ⟨rfl, b4⟩
  have k4 := xgo k3 b4
  clear b4 k3
  go_wp2_with fail
  with_reducible refine (R1'.out _).mono ?_
  rintro e w5 ⟨rfl, b5⟩
  have k5 := xgo k4 b5
  clear b5 k4
  go_wp2_with fail
  go_ret
  exact ⟨rfl, k5⟩
set_option maxHeartbeats 2000000 in
theorem cdTruth_false (A X Y R : ByteArray) (x y : Int) (zA : A.size ≤ 700) (zR : R.size ≤ 700) (zX : X.size ≤ 700) (zY : Y.size ≤ 700)
    (F1 : ∀ w, Calls Try.prog 43 #[.string A] w fun e w' => e = .returned (.int .u8 x) ∧ Below w.heap.size w w')
    (X1 : ∀ w, Calls Try.prog 42 #[.int .u8 x] w fun e w' => e = .returned (.string X) ∧ Below w.heap.size w w')
    (F2 : ∀ w, Calls Try.prog 43 #[.string (A ++ X)] w fun e w' => e = .returned (.int .u8 y) ∧ Below w.heap.size w w')
    (X2 : ∀ w, Calls Try.prog 42 #[.int .u8 y] w fun e w' => e = .returned (.string Y) ∧ Below w.heap.size w w')
    (R1 : ∀ w, Calls Try.prog 44 #[.string A, .string (X ++ Y), .string (Y ++ (⟨#[33]⟩ : ByteArray) ++ Y ++ (⟨#[46, 48]⟩ : ByteArray))] w fun e w' => e = .returned (.string R) ∧ Below w.heap.size w w') (w : World) :
    Calls Try.prog 32 #[.string A, .bool false] w fun e w' => e = .returned (.string ((⟨#[42]⟩ : ByteArray) ++ R)) ∧ Below w.heap.size w w' := by
  have F1' := Lib.hid F1
  have X1' := Lib.hid X1
  have F2' := Lib.hid F2
  have X2' := Lib.hid X2
  have R1' := Lib.hid R1
  clear F1 X1 F2 X2 R1
  go_enter Try.func32, Try.ntmps32
  go_wp2_with fail
  with_reducible refine (F1'.out _).mono ?_
  rintro e w1 ⟨rfl, b1⟩
  have k1 := b1
  go_wp2_with fail
  with_reducible refine (X1'.out _).mono ?_
  rintro e w2 ⟨rfl, b2⟩
  have k2 := xgo k1 b2
  go_wp2_with fail
  with_reducible refine (F2'.out _).mono ?_
  rintro e w3 ⟨rfl, b3⟩
  have k3 := xgo k2 b3
  clear b3 k2
  go_wp2_with fail
  with_reducible refine (X2'.out _).mono ?_
  rintro e w4 ⟨rfl, b4⟩
  have k4 := xgo k3 b4
  clear b4 k3
  go_wp2_with fail
  with_reducible refine (R1'.out _).mono ?_
  rintro e w5 ⟨rfl, b5⟩
  have k5 := xgo k4 b5
  clear b5 k4
  go_wp2_with fail
  go_ret
  exact ⟨rfl, k5⟩
set_option maxHeartbeats 2000000 in
theorem cdTest_walk (A P Q PF QF X Y Z SS : ByteArray) (x y z : Int) (zA : A.size ≤ 700) (zP : P.size ≤ 700) (zPF : PF.size ≤ 700) (zQ : Q.size ≤ 700) (zQF : QF.size ≤ 700) (zSS : SS.size ≤ 700) (zX : X.size ≤ 700) (zY : Y.size ≤ 700) (zZ : Z.size ≤ 700)
    (FP : ∀ w, Calls Try.prog 58 #[.string P] w fun e w' => e = .returned (.string PF) ∧ Below w.heap.size w w')
    (FQ : ∀ w, Calls Try.prog 58 #[.string Q] w fun e w' => e = .returned (.string QF) ∧ Below w.heap.size w w')
    (F1 : ∀ w, Calls Try.prog 43 #[.string (A ++ PF ++ QF)] w fun e w' => e = .returned (.int .u8 x) ∧ Below w.heap.size w w')
    (X1 : ∀ w, Calls Try.prog 42 #[.int .u8 x] w fun e w' => e = .returned (.string X) ∧ Below w.heap.size w w')
    (F2 : ∀ w, Calls Try.prog 43 #[.string (A ++ PF ++ QF ++ X)] w fun e w' => e = .returned (.int .u8 y) ∧ Below w.heap.size w w')
    (X2 : ∀ w, Calls Try.prog 42 #[.int .u8 y] w fun e w' => e = .returned (.string Y) ∧ Below w.heap.size w w')
    (F3 : ∀ w, Calls Try.prog 43 #[.string (A ++ PF ++ QF ++ X ++ Y)] w fun e w' => e = .returned (.int .u8 z) ∧ Below w.heap.size w w')
    (X3 : ∀ w, Calls Try.prog 42 #[.int .u8 z] w fun e w' => e = .returned (.string Z) ∧ Below w.heap.size w w')
    (S1 : ∀ w, Calls Try.prog 45 #[.string A, .string (X ++ Y), .string (⟨#[48]⟩ : ByteArray)] w fun e w' => e = .returned (.string SS) ∧ Below w.heap.size w w') (w : World) :
    Calls Try.prog 38 #[.string A, .string P, .string Q] w fun e w' => e = .returned (.string ((⟨#[35]⟩ : ByteArray) ++ X ++ (⟨#[46, 35]⟩ : ByteArray) ++ Y ++ (⟨#[46, 40]⟩ : ByteArray) ++ SS ++ (⟨#[38, 40]⟩ : ByteArray) ++ X ++ (⟨#[63]⟩ : ByteArray) ++ Z ++ (⟨#[46]⟩ : ByteArray) ++ P ++ (⟨#[38]⟩ : ByteArray) ++ Y ++ (⟨#[63]⟩ : ByteArray) ++ Z ++ (⟨#[46]⟩ : ByteArray) ++ Q ++ (⟨#[41, 41]⟩ : ByteArray))) ∧ Below w.heap.size w w' := by
  have FP' := Lib.hid FP
  have FQ' := Lib.hid FQ
  have F1' := Lib.hid F1
  have X1' := Lib.hid X1
  have F2' := Lib.hid F2
  have X2' := Lib.hid X2
  have F3' := Lib.hid F3
  have X3' := Lib.hid X3
  have S1' := Lib.hid S1
  clear FP FQ F1 X1 F2 X2 F3 X3 S1
  go_enter Try.func38, Try.ntmps38
  go_wp2_with fail
  with_reducible refine (FP'.out _).mono ?_
  rintro e w1 ⟨rfl, b1⟩
  have k1 := b1
  go_wp2_with fail
  with_reducible refine (FQ'.out _).mono ?_
  rintro e w2 ⟨rfl, b2⟩
  have k2 := xgo k1 b2
  go_wp2_with fail
  with_reducible refine (F1'.out _).mono ?_
  rintro e w3 ⟨rfl, b3⟩
  have k3 := xgo k2 b3
  clear b3 k2
  go_wp2_with fail
  with_reducible refine (X1'.out _).mono ?_
  rintro e w4 ⟨rfl, b4⟩
  have k4 := xgo k3 b4
  clear b4 k3
  go_wp2_with fail
  with_reducible refine (F2'.out _).mono ?_
  rintro e w5 ⟨rfl, b5⟩
  have k5 := xgo k4 b5
  clear b5 k4
  go_wp2_with fail
  with_reducible refine (X2'.out _).mono ?_
  rintro e w6 ⟨rfl, b6⟩
  have k6 := xgo k5 b6
  clear b6 k5
  go_wp2_with fail
  with_reducible refine (F3'.out _).mono ?_
  rintro e w7 ⟨rfl, b7⟩
  have k7 := xgo k6 b7
  clear b7 k6
  go_wp2_with fail
  with_reducible refine (X3'.out _).mono ?_
  rintro e w8 ⟨rfl, b8⟩
  have k8 := xgo k7 b8
  clear b8 k7
  go_wp2_with fail
  with_reducible refine (S1'.out _).mono ?_
  rintro e w9 ⟨rfl, b9⟩
  have k9 := xgo k8 b9
  clear b9 k8
  go_wp2_with fail
  go_ret
  exact ⟨rfl, k9⟩
set_option maxHeartbeats 2000000 in
theorem sp_TruthAt_0 (A : ByteArray) (val : Bool) 
    (C0 : ∀ w, Calls Try.prog 30 #[.string A] w fun e w' => e = .returned (.bool false) ∧ Below w.heap.size w w') (w : World) :
    Calls Try.prog 12 #[.string A, .bool val] w fun e w' => e = .returned (.tuple #[.string ⟨#[]⟩, .bool false]) ∧ Below w.heap.size w w' := by
  have C0' := Lib.hid C0
  clear C0
  go_enter Try.func12, Try.ntmps12
  go_wp2_with fail
  with_reducible refine (C0'.out _).mono ?_
  rintro e w1 ⟨rfl, b1⟩
  have k1 := b1
  go_wp2_with fail
  go_ret2
  exact ⟨rfl, k1⟩
set_option maxHeartbeats 2000000 in
theorem sp_TruthAt_yes (A : ByteArray) (val : Bool) (R n : ByteArray) (b : Bool) (zA : A.size ≤ 700)
    (C0 : ∀ w, Calls Try.prog 30 #[.string A] w fun e w' => e = .returned (.bool true) ∧ Below w.heap.size w w')
    (T1 : ∀ w, Calls Try.prog 32 #[.string A, .bool val] w fun e w' => e = .returned (.string R) ∧ Below w.heap.size w w')
    (FI : ∀ w, Calls Try.prog 31 #[.string R] w fun e w' => e = .returned (.tuple #[.string n, .bool b]) ∧ Below w.heap.size w w') (w : World) :
    Calls Try.prog 12 #[.string A, .bool val] w fun e w' => e = .returned (.tuple #[.string n, .bool b]) ∧ Below w.heap.size w w' := by
  have C0' := Lib.hid C0
  have T1' := Lib.hid T1
  have FI' := Lib.hid FI
  clear C0 T1 FI
  go_enter Try.func12, Try.ntmps12
  go_wp2_with fail
  with_reducible refine (C0'.out _).mono ?_
  rintro e w1 ⟨rfl, b1⟩
  have k1 := b1
  go_wp2_with fail
  with_reducible refine (T1'.out _).mono ?_
  rintro e w2 ⟨rfl, b2⟩
  have k2 := xgo k1 b2
  go_wp2_with fail
  with_reducible refine (FI'.out _).mono ?_
  rintro e w3 ⟨rfl, b3⟩
  have k3 := xgo k2 b3
  clear b3 k2
  go_wp2_with fail
  go_ret2
  exact ⟨rfl, k3⟩
set_option maxHeartbeats 2000000 in
theorem sp_TestAt_0 (A : ByteArray) (P : ByteArray) (Q : ByteArray) 
    (C0 : ∀ w, Calls Try.prog 30 #[.string A] w fun e w' => e = .returned (.bool false) ∧ Below w.heap.size w w') (w : World) :
    Calls Try.prog 14 #[.string A, .string P, .string Q] w fun e w' => e = .returned (.tuple #[.string ⟨#[]⟩, .bool false]) ∧ Below w.heap.size w w' := by
  have C0' := Lib.hid C0
  clear C0
  go_enter Try.func14, Try.ntmps14
  go_wp2_with fail
  with_reducible refine (C0'.out _).mono ?_
  rintro e w1 ⟨rfl, b1⟩
  have k1 := b1
  go_wp2_with fail
  go_ret2
  exact ⟨rfl, k1⟩
set_option maxHeartbeats 2000000 in
theorem sp_TestAt_1 (A : ByteArray) (P : ByteArray) (Q : ByteArray) 
    (C0 : ∀ w, Calls Try.prog 30 #[.string A] w fun e w' => e = .returned (.bool true) ∧ Below w.heap.size w w')
    (C1 : ∀ w, Calls Try.prog 37 #[.string P] w fun e w' => e = .returned (.bool false) ∧ Below w.heap.size w w') (w : World) :
    Calls Try.prog 14 #[.string A, .string P, .string Q] w fun e w' => e = .returned (.tuple #[.string ⟨#[]⟩, .bool false]) ∧ Below w.heap.size w w' := by
  have C0' := Lib.hid C0
  have C1' := Lib.hid C1
  clear C0 C1
  go_enter Try.func14, Try.ntmps14
  go_wp2_with fail
  with_reducible refine (C0'.out _).mono ?_
  rintro e w1 ⟨rfl, b1⟩
  have k1 := b1
  go_wp2_with fail
  with_reducible refine (C1'.out _).mono ?_
  rintro e w2 ⟨rfl, b2⟩
  have k2 := xgo k1 b2
  go_wp2_with fail
  go_ret2
  exact ⟨rfl, k2⟩
set_option maxHeartbeats 2000000 in
theorem sp_TestAt_2 (A : ByteArray) (P : ByteArray) (Q : ByteArray) 
    (C0 : ∀ w, Calls Try.prog 30 #[.string A] w fun e w' => e = .returned (.bool true) ∧ Below w.heap.size w w')
    (C1 : ∀ w, Calls Try.prog 37 #[.string P] w fun e w' => e = .returned (.bool true) ∧ Below w.heap.size w w')
    (C2 : ∀ w, Calls Try.prog 37 #[.string Q] w fun e w' => e = .returned (.bool false) ∧ Below w.heap.size w w') (w : World) :
    Calls Try.prog 14 #[.string A, .string P, .string Q] w fun e w' => e = .returned (.tuple #[.string ⟨#[]⟩, .bool false]) ∧ Below w.heap.size w w' := by
  have C0' := Lib.hid C0
  have C1' := Lib.hid C1
  have C2' := Lib.hid C2
  clear C0 C1 C2
  go_enter Try.func14, Try.ntmps14
  go_wp2_with fail
  with_reducible refine (C0'.out _).mono ?_
  rintro e w1 ⟨rfl, b1⟩
  have k1 := b1
  go_wp2_with fail
  with_reducible refine (C1'.out _).mono ?_
  rintro e w2 ⟨rfl, b2⟩
  have k2 := xgo k1 b2
  go_wp2_with fail
  with_reducible refine (C2'.out _).mono ?_
  rintro e w3 ⟨rfl, b3⟩
  have k3 := xgo k2 b3
  clear b3 k2
  go_wp2_with fail
  go_ret2
  exact ⟨rfl, k3⟩
set_option maxHeartbeats 2000000 in
theorem sp_TestAt_yes (A : ByteArray) (P : ByteArray) (Q : ByteArray) (R n : ByteArray) (b : Bool) (zA : A.size ≤ 700) (zP : P.size ≤ 700) (zQ : Q.size ≤ 700)
    (C0 : ∀ w, Calls Try.prog 30 #[.string A] w fun e w' => e = .returned (.bool true) ∧ Below w.heap.size w w')
    (C1 : ∀ w, Calls Try.prog 37 #[.string P] w fun e w' => e = .returned (.bool true) ∧ Below w.heap.size w w')
    (C2 : ∀ w, Calls Try.prog 37 #[.string Q] w fun e w' => e = .returned (.bool true) ∧ Below w.heap.size w w')
    (T1 : ∀ w, Calls Try.prog 38 #[.string A, .string P, .string Q] w fun e w' => e = .returned (.string R) ∧ Below w.heap.size w w')
    (FI : ∀ w, Calls Try.prog 31 #[.string R] w fun e w' => e = .returned (.tuple #[.string n, .bool b]) ∧ Below w.heap.size w w') (w : World) :
    Calls Try.prog 14 #[.string A, .string P, .string Q] w fun e w' => e = .returned (.tuple #[.string n, .bool b]) ∧ Below w.heap.size w w' := by
  have C0' := Lib.hid C0
  have C1' := Lib.hid C1
  have C2' := Lib.hid C2
  have T1' := Lib.hid T1
  have FI' := Lib.hid FI
  clear C0 C1 C2 T1 FI
  go_enter Try.func14, Try.ntmps14
  go_wp2_with fail
  with_reducible refine (C0'.out _).mono ?_
  rintro e w1 ⟨rfl, b1⟩
  have k1 := b1
  go_wp2_with fail
  with_reducible refine (C1'.out _).mono ?_
  rintro e w2 ⟨rfl, b2⟩
  have k2 := xgo k1 b2
  go_wp2_with fail
  with_reducible refine (C2'.out _).mono ?_
  rintro e w3 ⟨rfl, b3⟩
  have k3 := xgo k2 b3
  clear b3 k2
  go_wp2_with fail
  with_reducible refine (T1'.out _).mono ?_
  rintro e w4 ⟨rfl, b4⟩
  have k4 := xgo k3 b4
  clear b4 k3
  go_wp2_with fail
  with_reducible refine (FI'.out _).mono ?_
  rintro e w5 ⟨rfl, b5⟩
  have k5 := xgo k4 b5
  clear b5 k4
  go_wp2_with fail
  go_ret2
  exact ⟨rfl, k5⟩
set_option maxHeartbeats 2000000 in
theorem sp_NotAt_0 (A : ByteArray) (V : ByteArray) 
    (C0 : ∀ w, Calls Try.prog 30 #[.string A] w fun e w' => e = .returned (.bool false) ∧ Below w.heap.size w w') (w : World) :
    Calls Try.prog 16 #[.string A, .string V] w fun e w' => e = .returned (.tuple #[.string ⟨#[]⟩, .bool false]) ∧ Below w.heap.size w w' := by
  have C0' := Lib.hid C0
  clear C0
  go_enter Try.func16, Try.ntmps16
  go_wp2_with fail
  with_reducible refine (C0'.out _).mono ?_
  rintro e w1 ⟨rfl, b1⟩
  have k1 := b1
  go_wp2_with fail
  go_ret2
  exact ⟨rfl, k1⟩
set_option maxHeartbeats 2000000 in
theorem sp_NotAt_1 (A : ByteArray) (V : ByteArray) 
    (C0 : ∀ w, Calls Try.prog 30 #[.string A] w fun e w' => e = .returned (.bool true) ∧ Below w.heap.size w w')
    (C1 : ∀ w, Calls Try.prog 30 #[.string V] w fun e w' => e = .returned (.bool false) ∧ Below w.heap.size w w') (w : World) :
    Calls Try.prog 16 #[.string A, .string V] w fun e w' => e = .returned (.tuple #[.string ⟨#[]⟩, .bool false]) ∧ Below w.heap.size w w' := by
  have C0' := Lib.hid C0
  have C1' := Lib.hid C1
  clear C0 C1
  go_enter Try.func16, Try.ntmps16
  go_wp2_with fail
  with_reducible refine (C0'.out _).mono ?_
  rintro e w1 ⟨rfl, b1⟩
  have k1 := b1
  go_wp2_with fail
  with_reducible refine (C1'.out _).mono ?_
  rintro e w2 ⟨rfl, b2⟩
  have k2 := xgo k1 b2
  go_wp2_with fail
  go_ret2
  exact ⟨rfl, k2⟩
set_option maxHeartbeats 2000000 in
theorem sp_NotAt_yes (A : ByteArray) (V : ByteArray) (X Y SS R n : ByteArray) (x y : Int) (b : Bool) (zA : A.size ≤ 700) (zR : R.size ≤ 700) (zSS : SS.size ≤ 700) (zV : V.size ≤ 700) (zX : X.size ≤ 700) (zY : Y.size ≤ 700)
    (C0 : ∀ w, Calls Try.prog 30 #[.string A] w fun e w' => e = .returned (.bool true) ∧ Below w.heap.size w w')
    (C1 : ∀ w, Calls Try.prog 30 #[.string V] w fun e w' => e = .returned (.bool true) ∧ Below w.heap.size w w')
    (F1 : ∀ w, Calls Try.prog 43 #[.string (A ++ V)] w fun e w' => e = .returned (.int .u8 x) ∧ Below w.heap.size w w')
    (X1 : ∀ w, Calls Try.prog 42 #[.int .u8 x] w fun e w' => e = .returned (.string X) ∧ Below w.heap.size w w')
    (F2 : ∀ w, Calls Try.prog 43 #[.string (A ++ V ++ X)] w fun e w' => e = .returned (.int .u8 y) ∧ Below w.heap.size w w')
    (X2 : ∀ w, Calls Try.prog 42 #[.int .u8 y] w fun e w' => e = .returned (.string Y) ∧ Below w.heap.size w w')
    (S1 : ∀ w, Calls Try.prog 45 #[.string V, .string (Y ++ X), .string (⟨#[48]⟩ : ByteArray)] w fun e w' => e = .returned (.string SS) ∧ Below w.heap.size w w')
    (R1 : ∀ w, Calls Try.prog 44 #[.string A, .string (X ++ Y), .string SS] w fun e w' => e = .returned (.string R) ∧ Below w.heap.size w w')
    (FI : ∀ w, Calls Try.prog 31 #[.string ((⟨#[42]⟩ : ByteArray) ++ R)] w fun e w' => e = .returned (.tuple #[.string n, .bool b]) ∧ Below w.heap.size w w') (w : World) :
    Calls Try.prog 16 #[.string A, .string V] w fun e w' => e = .returned (.tuple #[.string n, .bool b]) ∧ Below w.heap.size w w' := by
  have C0' := Lib.hid C0
  have C1' := Lib.hid C1
  have F1' := Lib.hid F1
  have X1' := Lib.hid X1
  have F2' := Lib.hid F2
  have X2' := Lib.hid X2
  have S1' := Lib.hid S1
  have R1' := Lib.hid R1
  have FI' := Lib.hid FI
  clear C0 C1 F1 X1 F2 X2 S1 R1 FI
  go_enter Try.func16, Try.ntmps16
  go_wp2_with fail
  with_reducible refine (C0'.out _).mono ?_
  rintro e w1 ⟨rfl, b1⟩
  have k1 := b1
  go_wp2_with fail
  with_reducible refine (C1'.out _).mono ?_
  rintro e w2 ⟨rfl, b2⟩
  have k2 := xgo k1 b2
  go_wp2_with fail
  with_reducible refine (F1'.out _).mono ?_
  rintro e w3 ⟨rfl, b3⟩
  have k3 := xgo k2 b3
  clear b3 k2
  go_wp2_with fail
  with_reducible refine (X1'.out _).mono ?_
  rintro e w4 ⟨rfl, b4⟩
  have k4 := xgo k3 b4
  clear b4 k3
  go_wp2_with fail
  with_reducible refine (F2'.out _).mono ?_
  rintro e w5 ⟨rfl, b5⟩
  have k5 := xgo k4 b5
  clear b5 k4
  go_wp2_with fail
  with_reducible refine (X2'.out _).mono ?_
  rintro e w6 ⟨rfl, b6⟩
  have k6 := xgo k5 b6
  clear b6 k5
  go_wp2_with fail
  with_reducible refine (S1'.out _).mono ?_
  rintro e w7 ⟨rfl, b7⟩
  have k7 := xgo k6 b7
  clear b7 k6
  go_wp2_with fail
  with_reducible refine (R1'.out _).mono ?_
  rintro e w8 ⟨rfl, b8⟩
  have k8 := xgo k7 b8
  clear b8 k7
  go_wp2_with fail
  with_reducible refine (FI'.out _).mono ?_
  rintro e w9 ⟨rfl, b9⟩
  have k9 := xgo k8 b9
  clear b9 k8
  go_wp2_with fail
  go_ret2
  exact ⟨rfl, k9⟩
set_option maxHeartbeats 2000000 in
theorem sp_AndAt_0 (A : ByteArray) (V : ByteArray) (C : ByteArray) 
    (C0 : ∀ w, Calls Try.prog 30 #[.string A] w fun e w' => e = .returned (.bool false) ∧ Below w.heap.size w w') (w : World) :
    Calls Try.prog 18 #[.string A, .string V, .string C] w fun e w' => e = .returned (.tuple #[.string ⟨#[]⟩, .bool false]) ∧ Below w.heap.size w w' := by
  have C0' := Lib.hid C0
  clear C0
  go_enter Try.func18, Try.ntmps18
  go_wp2_with fail
  with_reducible refine (C0'.out _).mono ?_
  rintro e w1 ⟨rfl, b1⟩
  have k1 := b1
  go_wp2_with fail
  go_ret2
  exact ⟨rfl, k1⟩
set_option maxHeartbeats 2000000 in
theorem sp_AndAt_1 (A : ByteArray) (V : ByteArray) (C : ByteArray) 
    (C0 : ∀ w, Calls Try.prog 30 #[.string A] w fun e w' => e = .returned (.bool true) ∧ Below w.heap.size w w')
    (C1 : ∀ w, Calls Try.prog 30 #[.string V] w fun e w' => e = .returned (.bool false) ∧ Below w.heap.size w w') (w : World) :
    Calls Try.prog 18 #[.string A, .string V, .string C] w fun e w' => e = .returned (.tuple #[.string ⟨#[]⟩, .bool false]) ∧ Below w.heap.size w w' := by
  have C0' := Lib.hid C0
  have C1' := Lib.hid C1
  clear C0 C1
  go_enter Try.func18, Try.ntmps18
  go_wp2_with fail
  with_reducible refine (C0'.out _).mono ?_
  rintro e w1 ⟨rfl, b1⟩
  have k1 := b1
  go_wp2_with fail
  with_reducible refine (C1'.out _).mono ?_
  rintro e w2 ⟨rfl, b2⟩
  have k2 := xgo k1 b2
  go_wp2_with fail
  go_ret2
  exact ⟨rfl, k2⟩
set_option maxHeartbeats 2000000 in
theorem sp_AndAt_2 (A : ByteArray) (V : ByteArray) (C : ByteArray) 
    (C0 : ∀ w, Calls Try.prog 30 #[.string A] w fun e w' => e = .returned (.bool true) ∧ Below w.heap.size w w')
    (C1 : ∀ w, Calls Try.prog 30 #[.string V] w fun e w' => e = .returned (.bool true) ∧ Below w.heap.size w w')
    (C2 : ∀ w, Calls Try.prog 30 #[.string C] w fun e w' => e = .returned (.bool false) ∧ Below w.heap.size w w') (w : World) :
    Calls Try.prog 18 #[.string A, .string V, .string C] w fun e w' => e = .returned (.tuple #[.string ⟨#[]⟩, .bool false]) ∧ Below w.heap.size w w' := by
  have C0' := Lib.hid C0
  have C1' := Lib.hid C1
  have C2' := Lib.hid C2
  clear C0 C1 C2
  go_enter Try.func18, Try.ntmps18
  go_wp2_with fail
  with_reducible refine (C0'.out _).mono ?_
  rintro e w1 ⟨rfl, b1⟩
  have k1 := b1
  go_wp2_with fail
  with_reducible refine (C1'.out _).mono ?_
  rintro e w2 ⟨rfl, b2⟩
  have k2 := xgo k1 b2
  go_wp2_with fail
  with_reducible refine (C2'.out _).mono ?_
  rintro e w3 ⟨rfl, b3⟩
  have k3 := xgo k2 b3
  clear b3 k2
  go_wp2_with fail
  go_ret2
  exact ⟨rfl, k3⟩
set_option maxHeartbeats 2000000 in
theorem sp_AndAt_yes (A : ByteArray) (V : ByteArray) (C : ByteArray) (X Y U Z S1s S2s R n : ByteArray) (x y u z : Int) (b : Bool) (zA : A.size ≤ 700) (zC : C.size ≤ 700) (zR : R.size ≤ 700) (zS1s : S1s.size ≤ 700) (zS2s : S2s.size ≤ 700) (zU : U.size ≤ 700) (zV : V.size ≤ 700) (zX : X.size ≤ 700) (zY : Y.size ≤ 700) (zZ : Z.size ≤ 700)
    (C0 : ∀ w, Calls Try.prog 30 #[.string A] w fun e w' => e = .returned (.bool true) ∧ Below w.heap.size w w')
    (C1 : ∀ w, Calls Try.prog 30 #[.string V] w fun e w' => e = .returned (.bool true) ∧ Below w.heap.size w w')
    (C2 : ∀ w, Calls Try.prog 30 #[.string C] w fun e w' => e = .returned (.bool true) ∧ Below w.heap.size w w')
    (F1 : ∀ w, Calls Try.prog 43 #[.string (A ++ V ++ C)] w fun e w' => e = .returned (.int .u8 x) ∧ Below w.heap.size w w')
    (X1 : ∀ w, Calls Try.prog 42 #[.int .u8 x] w fun e w' => e = .returned (.string X) ∧ Below w.heap.size w w')
    (F2 : ∀ w, Calls Try.prog 43 #[.string (A ++ V ++ C ++ X)] w fun e w' => e = .returned (.int .u8 y) ∧ Below w.heap.size w w')
    (X2 : ∀ w, Calls Try.prog 42 #[.int .u8 y] w fun e w' => e = .returned (.string Y) ∧ Below w.heap.size w w')
    (F3 : ∀ w, Calls Try.prog 43 #[.string (A ++ V ++ C ++ X ++ Y)] w fun e w' => e = .returned (.int .u8 u) ∧ Below w.heap.size w w')
    (X3 : ∀ w, Calls Try.prog 42 #[.int .u8 u] w fun e w' => e = .returned (.string U) ∧ Below w.heap.size w w')
    (F4 : ∀ w, Calls Try.prog 43 #[.string (A ++ V ++ C ++ X ++ Y ++ U)] w fun e w' => e = .returned (.int .u8 z) ∧ Below w.heap.size w w')
    (X4 : ∀ w, Calls Try.prog 42 #[.int .u8 z] w fun e w' => e = .returned (.string Z) ∧ Below w.heap.size w w')
    (S1 : ∀ w, Calls Try.prog 45 #[.string V, .string (U ++ Y), .string (⟨#[48]⟩ : ByteArray)] w fun e w' => e = .returned (.string S1s) ∧ Below w.heap.size w w')
    (S2 : ∀ w, Calls Try.prog 45 #[.string C, .string (X ++ Y), .string (⟨#[48]⟩ : ByteArray)] w fun e w' => e = .returned (.string S2s) ∧ Below w.heap.size w w')
    (R1 : ∀ w, Calls Try.prog 44 #[.string A, .string (X ++ Y), .string ((⟨#[35]⟩ : ByteArray) ++ U ++ (⟨#[46, 40]⟩ : ByteArray) ++ S1s ++ (⟨#[38]⟩ : ByteArray) ++ U ++ (⟨#[63]⟩ : ByteArray) ++ Z ++ (⟨#[46]⟩ : ByteArray) ++ S2s ++ (⟨#[41]⟩ : ByteArray))] w fun e w' => e = .returned (.string R) ∧ Below w.heap.size w w')
    (FI : ∀ w, Calls Try.prog 31 #[.string ((⟨#[42]⟩ : ByteArray) ++ R)] w fun e w' => e = .returned (.tuple #[.string n, .bool b]) ∧ Below w.heap.size w w') (w : World) :
    Calls Try.prog 18 #[.string A, .string V, .string C] w fun e w' => e = .returned (.tuple #[.string n, .bool b]) ∧ Below w.heap.size w w' := by
  have C0' := Lib.hid C0
  have C1' := Lib.hid C1
  have C2' := Lib.hid C2
  have F1' := Lib.hid F1
  have X1' := Lib.hid X1
  have F2' := Lib.hid F2
  have X2' := Lib.hid X2
  have F3' := Lib.hid F3
  have X3' := Lib.hid X3
  have F4' := Lib.hid F4
  have X4' := Lib.hid X4
  have S1' := Lib.hid S1
  have S2' := Lib.hid S2
  have R1' := Lib.hid R1
  have FI' := Lib.hid FI
  clear C0 C1 C2 F1 X1 F2 X2 F3 X3 F4 X4 S1 S2 R1 FI
  go_enter Try.func18, Try.ntmps18
  go_wp2_with fail
  with_reducible refine (C0'.out _).mono ?_
  rintro e w1 ⟨rfl, b1⟩
  have k1 := b1
  go_wp2_with fail
  with_reducible refine (C1'.out _).mono ?_
  rintro e w2 ⟨rfl, b2⟩
  have k2 := xgo k1 b2
  go_wp2_with fail
  with_reducible refine (C2'.out _).mono ?_
  rintro e w3 ⟨rfl, b3⟩
  have k3 := xgo k2 b3
  clear b3 k2
  go_wp2_with fail
  with_reducible refine (F1'.out _).mono ?_
  rintro e w4 ⟨rfl, b4⟩
  have k4 := xgo k3 b4
  clear b4 k3
  go_wp2_with fail
  with_reducible refine (X1'.out _).mono ?_
  rintro e w5 ⟨rfl, b5⟩
  have k5 := xgo k4 b5
  clear b5 k4
  go_wp2_with fail
  with_reducible refine (F2'.out _).mono ?_
  rintro e w6 ⟨rfl, b6⟩
  have k6 := xgo k5 b6
  clear b6 k5
  go_wp2_with fail
  with_reducible refine (X2'.out _).mono ?_
  rintro e w7 ⟨rfl, b7⟩
  have k7 := xgo k6 b7
  clear b7 k6
  go_wp2_with fail
  with_reducible refine (F3'.out _).mono ?_
  rintro e w8 ⟨rfl, b8⟩
  have k8 := xgo k7 b8
  clear b8 k7
  go_wp2_with fail
  with_reducible refine (X3'.out _).mono ?_
  rintro e w9 ⟨rfl, b9⟩
  have k9 := xgo k8 b9
  clear b9 k8
  go_wp2_with fail
  with_reducible refine (F4'.out _).mono ?_
  rintro e w10 ⟨rfl, b10⟩
  have k10 := xgo k9 b10
  clear b10 k9
  go_wp2_with fail
  with_reducible refine (X4'.out _).mono ?_
  rintro e w11 ⟨rfl, b11⟩
  have k11 := xgo k10 b11
  clear b11 k10
  go_wp2_with fail
  with_reducible refine (S1'.out _).mono ?_
  rintro e w12 ⟨rfl, b12⟩
  have k12 := xgo k11 b12
  clear b12 k11
  go_wp2_with fail
  with_reducible refine (S2'.out _).mono ?_
  rintro e w13 ⟨rfl, b13⟩
  have k13 := xgo k12 b13
  clear b13 k12
  go_wp2_with fail
  with_reducible refine (R1'.out _).mono ?_
  rintro e w14 ⟨rfl, b14⟩
  have k14 := xgo k13 b14
  clear b14 k13
  go_wp2_with fail
  with_reducible refine (FI'.out _).mono ?_
  rintro e w15 ⟨rfl, b15⟩
  have k15 := xgo k14 b15
  clear b15 k14
  go_wp2_with fail
  go_ret2
  exact ⟨rfl, k15⟩
set_option maxHeartbeats 2000000 in
theorem sp_ForwardAt_0 (A : ByteArray) (V : ByteArray) 
    (C0 : ∀ w, Calls Try.prog 30 #[.string A] w fun e w' => e = .returned (.bool false) ∧ Below w.heap.size w w') (w : World) :
    Calls Try.prog 20 #[.string A, .string V] w fun e w' => e = .returned (.tuple #[.string ⟨#[]⟩, .bool false]) ∧ Below w.heap.size w w' := by
  have C0' := Lib.hid C0
  clear C0
  go_enter Try.func20, Try.ntmps20
  go_wp2_with fail
  with_reducible refine (C0'.out _).mono ?_
  rintro e w1 ⟨rfl, b1⟩
  have k1 := b1
  go_wp2_with fail
  go_ret2
  exact ⟨rfl, k1⟩
set_option maxHeartbeats 2000000 in
theorem sp_ForwardAt_1 (A : ByteArray) (V : ByteArray) 
    (C0 : ∀ w, Calls Try.prog 30 #[.string A] w fun e w' => e = .returned (.bool true) ∧ Below w.heap.size w w')
    (C1 : ∀ w, Calls Try.prog 30 #[.string V] w fun e w' => e = .returned (.bool false) ∧ Below w.heap.size w w') (w : World) :
    Calls Try.prog 20 #[.string A, .string V] w fun e w' => e = .returned (.tuple #[.string ⟨#[]⟩, .bool false]) ∧ Below w.heap.size w w' := by
  have C0' := Lib.hid C0
  have C1' := Lib.hid C1
  clear C0 C1
  go_enter Try.func20, Try.ntmps20
  go_wp2_with fail
  with_reducible refine (C0'.out _).mono ?_
  rintro e w1 ⟨rfl, b1⟩
  have k1 := b1
  go_wp2_with fail
  with_reducible refine (C1'.out _).mono ?_
  rintro e w2 ⟨rfl, b2⟩
  have k2 := xgo k1 b2
  go_wp2_with fail
  go_ret2
  exact ⟨rfl, k2⟩
set_option maxHeartbeats 2000000 in
theorem sp_ForwardAt_yes (A : ByteArray) (V : ByteArray) (X n : ByteArray) (x : Int) (b : Bool) (zA : A.size ≤ 700) (zV : V.size ≤ 700) (zX : X.size ≤ 700)
    (C0 : ∀ w, Calls Try.prog 30 #[.string A] w fun e w' => e = .returned (.bool true) ∧ Below w.heap.size w w')
    (C1 : ∀ w, Calls Try.prog 30 #[.string V] w fun e w' => e = .returned (.bool true) ∧ Below w.heap.size w w')
    (F1 : ∀ w, Calls Try.prog 43 #[.string (A ++ V)] w fun e w' => e = .returned (.int .u8 x) ∧ Below w.heap.size w w')
    (X1 : ∀ w, Calls Try.prog 42 #[.int .u8 x] w fun e w' => e = .returned (.string X) ∧ Below w.heap.size w w')
    (FI : ∀ w, Calls Try.prog 31 #[.string ((⟨#[42]⟩ : ByteArray) ++ A ++ (⟨#[63]⟩ : ByteArray) ++ X ++ (⟨#[46]⟩ : ByteArray) ++ V ++ (⟨#[33]⟩ : ByteArray) ++ X ++ (⟨#[46, 48]⟩ : ByteArray))] w fun e w' => e = .returned (.tuple #[.string n, .bool b]) ∧ Below w.heap.size w w') (w : World) :
    Calls Try.prog 20 #[.string A, .string V] w fun e w' => e = .returned (.tuple #[.string n, .bool b]) ∧ Below w.heap.size w w' := by
  have C0' := Lib.hid C0
  have C1' := Lib.hid C1
  have F1' := Lib.hid F1
  have X1' := Lib.hid X1
  have FI' := Lib.hid FI
  clear C0 C1 F1 X1 FI
  go_enter Try.func20, Try.ntmps20
  go_wp2_with fail
  with_reducible refine (C0'.out _).mono ?_
  rintro e w1 ⟨rfl, b1⟩
  have k1 := b1
  go_wp2_with fail
  with_reducible refine (C1'.out _).mono ?_
  rintro e w2 ⟨rfl, b2⟩
  have k2 := xgo k1 b2
  go_wp2_with fail
  with_reducible refine (F1'.out _).mono ?_
  rintro e w3 ⟨rfl, b3⟩
  have k3 := xgo k2 b3
  clear b3 k2
  go_wp2_with fail
  with_reducible refine (X1'.out _).mono ?_
  rintro e w4 ⟨rfl, b4⟩
  have k4 := xgo k3 b4
  clear b4 k3
  go_wp2_with fail
  with_reducible refine (FI'.out _).mono ?_
  rintro e w5 ⟨rfl, b5⟩
  have k5 := xgo k4 b5
  clear b5 k4
  go_wp2_with fail
  go_ret2
  exact ⟨rfl, k5⟩
set_option maxHeartbeats 2000000 in
theorem sp_CellAt_0 (A : ByteArray) (V : ByteArray) 
    (C0 : ∀ w, Calls Try.prog 30 #[.string A] w fun e w' => e = .returned (.bool false) ∧ Below w.heap.size w w') (w : World) :
    Calls Try.prog 22 #[.string A, .string V] w fun e w' => e = .returned (.tuple #[.string ⟨#[]⟩, .bool false]) ∧ Below w.heap.size w w' := by
  have C0' := Lib.hid C0
  clear C0
  go_enter Try.func22, Try.ntmps22
  go_wp2_with fail
  with_reducible refine (C0'.out _).mono ?_
  rintro e w1 ⟨rfl, b1⟩
  have k1 := b1
  go_wp2_with fail
  go_ret2
  exact ⟨rfl, k1⟩
set_option maxHeartbeats 2000000 in
theorem sp_CellAt_1 (A : ByteArray) (V : ByteArray) 
    (C0 : ∀ w, Calls Try.prog 30 #[.string A] w fun e w' => e = .returned (.bool true) ∧ Below w.heap.size w w')
    (C1 : ∀ w, Calls Try.prog 30 #[.string V] w fun e w' => e = .returned (.bool false) ∧ Below w.heap.size w w') (w : World) :
    Calls Try.prog 22 #[.string A, .string V] w fun e w' => e = .returned (.tuple #[.string ⟨#[]⟩, .bool false]) ∧ Below w.heap.size w w' := by
  have C0' := Lib.hid C0
  have C1' := Lib.hid C1
  clear C0 C1
  go_enter Try.func22, Try.ntmps22
  go_wp2_with fail
  with_reducible refine (C0'.out _).mono ?_
  rintro e w1 ⟨rfl, b1⟩
  have k1 := b1
  go_wp2_with fail
  with_reducible refine (C1'.out _).mono ?_
  rintro e w2 ⟨rfl, b2⟩
  have k2 := xgo k1 b2
  go_wp2_with fail
  go_ret2
  exact ⟨rfl, k2⟩
set_option maxHeartbeats 2000000 in
theorem sp_CellAt_yes (A : ByteArray) (V : ByteArray) ( n : ByteArray) (b : Bool) (zA : A.size ≤ 700) (zV : V.size ≤ 700)
    (C0 : ∀ w, Calls Try.prog 30 #[.string A] w fun e w' => e = .returned (.bool true) ∧ Below w.heap.size w w')
    (C1 : ∀ w, Calls Try.prog 30 #[.string V] w fun e w' => e = .returned (.bool true) ∧ Below w.heap.size w w')
    (FI : ∀ w, Calls Try.prog 31 #[.string (A ++ (⟨#[33]⟩ : ByteArray) ++ V ++ (⟨#[46, 48]⟩ : ByteArray))] w fun e w' => e = .returned (.tuple #[.string n, .bool b]) ∧ Below w.heap.size w w') (w : World) :
    Calls Try.prog 22 #[.string A, .string V] w fun e w' => e = .returned (.tuple #[.string n, .bool b]) ∧ Below w.heap.size w w' := by
  have C0' := Lib.hid C0
  have C1' := Lib.hid C1
  have FI' := Lib.hid FI
  clear C0 C1 FI
  go_enter Try.func22, Try.ntmps22
  go_wp2_with fail
  with_reducible refine (C0'.out _).mono ?_
  rintro e w1 ⟨rfl, b1⟩
  have k1 := b1
  go_wp2_with fail
  with_reducible refine (C1'.out _).mono ?_
  rintro e w2 ⟨rfl, b2⟩
  have k2 := xgo k1 b2
  go_wp2_with fail
  with_reducible refine (FI'.out _).mono ?_
  rintro e w3 ⟨rfl, b3⟩
  have k3 := xgo k2 b3
  clear b3 k2
  go_wp2_with fail
  go_ret2
  exact ⟨rfl, k3⟩
set_option maxHeartbeats 2000000 in
theorem sp_ReadCell_0 (A : ByteArray) (V : ByteArray) (P : ByteArray) 
    (C0 : ∀ w, Calls Try.prog 30 #[.string A] w fun e w' => e = .returned (.bool false) ∧ Below w.heap.size w w') (w : World) :
    Calls Try.prog 24 #[.string A, .string V, .string P] w fun e w' => e = .returned (.tuple #[.string ⟨#[]⟩, .bool false]) ∧ Below w.heap.size w w' := by
  have C0' := Lib.hid C0
  clear C0
  go_enter Try.func24, Try.ntmps24
  go_wp2_with fail
  with_reducible refine (C0'.out _).mono ?_
  rintro e w1 ⟨rfl, b1⟩
  have k1 := b1
  go_wp2_with fail
  go_ret2
  exact ⟨rfl, k1⟩
set_option maxHeartbeats 2000000 in
theorem sp_ReadCell_1 (A : ByteArray) (V : ByteArray) (P : ByteArray) 
    (C0 : ∀ w, Calls Try.prog 30 #[.string A] w fun e w' => e = .returned (.bool true) ∧ Below w.heap.size w w')
    (C1 : ∀ w, Calls Try.prog 30 #[.string V] w fun e w' => e = .returned (.bool false) ∧ Below w.heap.size w w') (w : World) :
    Calls Try.prog 24 #[.string A, .string V, .string P] w fun e w' => e = .returned (.tuple #[.string ⟨#[]⟩, .bool false]) ∧ Below w.heap.size w w' := by
  have C0' := Lib.hid C0
  have C1' := Lib.hid C1
  clear C0 C1
  go_enter Try.func24, Try.ntmps24
  go_wp2_with fail
  with_reducible refine (C0'.out _).mono ?_
  rintro e w1 ⟨rfl, b1⟩
  have k1 := b1
  go_wp2_with fail
  with_reducible refine (C1'.out _).mono ?_
  rintro e w2 ⟨rfl, b2⟩
  have k2 := xgo k1 b2
  go_wp2_with fail
  go_ret2
  exact ⟨rfl, k2⟩
set_option maxHeartbeats 2000000 in
theorem sp_ReadCell_2 (A : ByteArray) (V : ByteArray) (P : ByteArray) (hq : (A.toList == V.toList) = true) 
    (C0 : ∀ w, Calls Try.prog 30 #[.string A] w fun e w' => e = .returned (.bool true) ∧ Below w.heap.size w w')
    (C1 : ∀ w, Calls Try.prog 30 #[.string V] w fun e w' => e = .returned (.bool true) ∧ Below w.heap.size w w') (w : World) :
    Calls Try.prog 24 #[.string A, .string V, .string P] w fun e w' => e = .returned (.tuple #[.string ⟨#[]⟩, .bool false]) ∧ Below w.heap.size w w' := by
  have C0' := Lib.hid C0
  have C1' := Lib.hid C1
  clear C0 C1
  go_enter Try.func24, Try.ntmps24
  go_wp2_with fail
  with_reducible refine (C0'.out _).mono ?_
  rintro e w1 ⟨rfl, b1⟩
  have k1 := b1
  go_wp2_with fail
  with_reducible refine (C1'.out _).mono ?_
  rintro e w2 ⟨rfl, b2⟩
  have k2 := xgo k1 b2
  go_wp2_with fail
  go_ret2
  exact ⟨rfl, k2⟩
set_option maxHeartbeats 2000000 in
theorem sp_ReadCell_3 (A : ByteArray) (V : ByteArray) (P : ByteArray) (hq : (A.toList == V.toList) = false) 
    (C0 : ∀ w, Calls Try.prog 30 #[.string A] w fun e w' => e = .returned (.bool true) ∧ Below w.heap.size w w')
    (C1 : ∀ w, Calls Try.prog 30 #[.string V] w fun e w' => e = .returned (.bool true) ∧ Below w.heap.size w w')
    (C3 : ∀ w, Calls Try.prog 37 #[.string P] w fun e w' => e = .returned (.bool false) ∧ Below w.heap.size w w') (w : World) :
    Calls Try.prog 24 #[.string A, .string V, .string P] w fun e w' => e = .returned (.tuple #[.string ⟨#[]⟩, .bool false]) ∧ Below w.heap.size w w' := by
  have C0' := Lib.hid C0
  have C1' := Lib.hid C1
  have C3' := Lib.hid C3
  clear C0 C1 C3
  go_enter Try.func24, Try.ntmps24
  go_wp2_with fail
  with_reducible refine (C0'.out _).mono ?_
  rintro e w1 ⟨rfl, b1⟩
  have k1 := b1
  go_wp2_with fail
  with_reducible refine (C1'.out _).mono ?_
  rintro e w2 ⟨rfl, b2⟩
  have k2 := xgo k1 b2
  go_wp2_with fail
  with_reducible refine (C3'.out _).mono ?_
  rintro e w3 ⟨rfl, b3⟩
  have k3 := xgo k2 b3
  clear b3 k2
  go_wp2_with fail
  go_ret2
  exact ⟨rfl, k3⟩
set_option maxHeartbeats 2000000 in
theorem sp_ReadCell_yes (A : ByteArray) (V : ByteArray) (P : ByteArray) (hq : (A.toList == V.toList) = false) ( n : ByteArray) (b : Bool) (zA : A.size ≤ 700) (zP : P.size ≤ 700) (zV : V.size ≤ 700)
    (C0 : ∀ w, Calls Try.prog 30 #[.string A] w fun e w' => e = .returned (.bool true) ∧ Below w.heap.size w w')
    (C1 : ∀ w, Calls Try.prog 30 #[.string V] w fun e w' => e = .returned (.bool true) ∧ Below w.heap.size w w')
    (C3 : ∀ w, Calls Try.prog 37 #[.string P] w fun e w' => e = .returned (.bool true) ∧ Below w.heap.size w w')
    (FI : ∀ w, Calls Try.prog 31 #[.string (A ++ (⟨#[63]⟩ : ByteArray) ++ V ++ (⟨#[46, 40]⟩ : ByteArray) ++ A ++ (⟨#[33]⟩ : ByteArray) ++ V ++ (⟨#[46, 48, 38]⟩ : ByteArray) ++ P ++ (⟨#[41]⟩ : ByteArray))] w fun e w' => e = .returned (.tuple #[.string n, .bool b]) ∧ Below w.heap.size w w') (w : World) :
    Calls Try.prog 24 #[.string A, .string V, .string P] w fun e w' => e = .returned (.tuple #[.string n, .bool b]) ∧ Below w.heap.size w w' := by
  have C0' := Lib.hid C0
  have C1' := Lib.hid C1
  have C3' := Lib.hid C3
  have FI' := Lib.hid FI
  clear C0 C1 C3 FI
  go_enter Try.func24, Try.ntmps24
  go_wp2_with fail
  with_reducible refine (C0'.out _).mono ?_
  rintro e w1 ⟨rfl, b1⟩
  have k1 := b1
  go_wp2_with fail
  with_reducible refine (C1'.out _).mono ?_
  rintro e w2 ⟨rfl, b2⟩
  have k2 := xgo k1 b2
  go_wp2_with fail
  with_reducible refine (C3'.out _).mono ?_
  rintro e w3 ⟨rfl, b3⟩
  have k3 := xgo k2 b3
  clear b3 k2
  go_wp2_with fail
  with_reducible refine (FI'.out _).mono ?_
  rintro e w4 ⟨rfl, b4⟩
  have k4 := xgo k3 b4
  clear b4 k3
  go_wp2_with fail
  go_ret2
  exact ⟨rfl, k4⟩
set_option maxHeartbeats 2000000 in
theorem sp_WriteCell_0 (A : ByteArray) (V : ByteArray) (P : ByteArray) 
    (C0 : ∀ w, Calls Try.prog 30 #[.string A] w fun e w' => e = .returned (.bool false) ∧ Below w.heap.size w w') (w : World) :
    Calls Try.prog 26 #[.string A, .string V, .string P] w fun e w' => e = .returned (.tuple #[.string ⟨#[]⟩, .bool false]) ∧ Below w.heap.size w w' := by
  have C0' := Lib.hid C0
  clear C0
  go_enter Try.func26, Try.ntmps26
  go_wp2_with fail
  with_reducible refine (C0'.out _).mono ?_
  rintro e w1 ⟨rfl, b1⟩
  have k1 := b1
  go_wp2_with fail
  go_ret2
  exact ⟨rfl, k1⟩
set_option maxHeartbeats 2000000 in
theorem sp_WriteCell_1 (A : ByteArray) (V : ByteArray) (P : ByteArray) 
    (C0 : ∀ w, Calls Try.prog 30 #[.string A] w fun e w' => e = .returned (.bool true) ∧ Below w.heap.size w w')
    (C1 : ∀ w, Calls Try.prog 30 #[.string V] w fun e w' => e = .returned (.bool false) ∧ Below w.heap.size w w') (w : World) :
    Calls Try.prog 26 #[.string A, .string V, .string P] w fun e w' => e = .returned (.tuple #[.string ⟨#[]⟩, .bool false]) ∧ Below w.heap.size w w' := by
  have C0' := Lib.hid C0
  have C1' := Lib.hid C1
  clear C0 C1
  go_enter Try.func26, Try.ntmps26
  go_wp2_with fail
  with_reducible refine (C0'.out _).mono ?_
  rintro e w1 ⟨rfl, b1⟩
  have k1 := b1
  go_wp2_with fail
  with_reducible refine (C1'.out _).mono ?_
  rintro e w2 ⟨rfl, b2⟩
  have k2 := xgo k1 b2
  go_wp2_with fail
  go_ret2
  exact ⟨rfl, k2⟩
set_option maxHeartbeats 2000000 in
theorem sp_WriteCell_2 (A : ByteArray) (V : ByteArray) (P : ByteArray) 
    (C0 : ∀ w, Calls Try.prog 30 #[.string A] w fun e w' => e = .returned (.bool true) ∧ Below w.heap.size w w')
    (C1 : ∀ w, Calls Try.prog 30 #[.string V] w fun e w' => e = .returned (.bool true) ∧ Below w.heap.size w w')
    (C2 : ∀ w, Calls Try.prog 37 #[.string P] w fun e w' => e = .returned (.bool false) ∧ Below w.heap.size w w') (w : World) :
    Calls Try.prog 26 #[.string A, .string V, .string P] w fun e w' => e = .returned (.tuple #[.string ⟨#[]⟩, .bool false]) ∧ Below w.heap.size w w' := by
  have C0' := Lib.hid C0
  have C1' := Lib.hid C1
  have C2' := Lib.hid C2
  clear C0 C1 C2
  go_enter Try.func26, Try.ntmps26
  go_wp2_with fail
  with_reducible refine (C0'.out _).mono ?_
  rintro e w1 ⟨rfl, b1⟩
  have k1 := b1
  go_wp2_with fail
  with_reducible refine (C1'.out _).mono ?_
  rintro e w2 ⟨rfl, b2⟩
  have k2 := xgo k1 b2
  go_wp2_with fail
  with_reducible refine (C2'.out _).mono ?_
  rintro e w3 ⟨rfl, b3⟩
  have k3 := xgo k2 b3
  clear b3 k2
  go_wp2_with fail
  go_ret2
  exact ⟨rfl, k3⟩
set_option maxHeartbeats 2000000 in
theorem sp_WriteCell_yes (A : ByteArray) (V : ByteArray) (P : ByteArray) (PF Z n : ByteArray) (z : Int) (b : Bool) (zA : A.size ≤ 700) (zP : P.size ≤ 700) (zPF : PF.size ≤ 700) (zV : V.size ≤ 700) (zZ : Z.size ≤ 700)
    (C0 : ∀ w, Calls Try.prog 30 #[.string A] w fun e w' => e = .returned (.bool true) ∧ Below w.heap.size w w')
    (C1 : ∀ w, Calls Try.prog 30 #[.string V] w fun e w' => e = .returned (.bool true) ∧ Below w.heap.size w w')
    (C2 : ∀ w, Calls Try.prog 37 #[.string P] w fun e w' => e = .returned (.bool true) ∧ Below w.heap.size w w')
    (FP : ∀ w, Calls Try.prog 58 #[.string P] w fun e w' => e = .returned (.string PF) ∧ Below w.heap.size w w')
    (F1 : ∀ w, Calls Try.prog 43 #[.string (A ++ V ++ PF)] w fun e w' => e = .returned (.int .u8 z) ∧ Below w.heap.size w w')
    (X1 : ∀ w, Calls Try.prog 42 #[.int .u8 z] w fun e w' => e = .returned (.string Z) ∧ Below w.heap.size w w')
    (FI : ∀ w, Calls Try.prog 31 #[.string (A ++ (⟨#[63]⟩ : ByteArray) ++ Z ++ (⟨#[46, 40]⟩ : ByteArray) ++ A ++ (⟨#[33]⟩ : ByteArray) ++ V ++ (⟨#[46, 48, 38]⟩ : ByteArray) ++ P ++ (⟨#[41]⟩ : ByteArray))] w fun e w' => e = .returned (.tuple #[.string n, .bool b]) ∧ Below w.heap.size w w') (w : World) :
    Calls Try.prog 26 #[.string A, .string V, .string P] w fun e w' => e = .returned (.tuple #[.string n, .bool b]) ∧ Below w.heap.size w w' := by
  have C0' := Lib.hid C0
  have C1' := Lib.hid C1
  have C2' := Lib.hid C2
  have FP' := Lib.hid FP
  have F1' := Lib.hid F1
  have X1' := Lib.hid X1
  have FI' := Lib.hid FI
  clear C0 C1 C2 FP F1 X1 FI
  go_enter Try.func26, Try.ntmps26
  go_wp2_with fail
  with_reducible refine (C0'.out _).mono ?_
  rintro e w1 ⟨rfl, b1⟩
  have k1 := b1
  go_wp2_with fail
  with_reducible refine (C1'.out _).mono ?_
  rintro e w2 ⟨rfl, b2⟩
  have k2 := xgo k1 b2
  go_wp2_with fail
  with_reducible refine (C2'.out _).mono ?_
  rintro e w3 ⟨rfl, b3⟩
  have k3 := xgo k2 b3
  clear b3 k2
  go_wp2_with fail
  with_reducible refine (FP'.out _).mono ?_
  rintro e w4 ⟨rfl, b4⟩
  have k4 := xgo k3 b4
  clear b4 k3
  go_wp2_with fail
  with_reducible refine (F1'.out _).mono ?_
  rintro e w5 ⟨rfl, b5⟩
  have k5 := xgo k4 b5
  clear b5 k4
  go_wp2_with fail
  with_reducible refine (X1'.out _).mono ?_
  rintro e w6 ⟨rfl, b6⟩
  have k6 := xgo k5 b6
  clear b6 k5
  go_wp2_with fail
  with_reducible refine (FI'.out _).mono ?_
  rintro e w7 ⟨rfl, b7⟩
  have k7 := xgo k6 b7
  clear b7 k6
  go_wp2_with fail
  go_ret2
  exact ⟨rfl, k7⟩
set_option maxHeartbeats 2000000 in
theorem sp_ChoiceOf_0 (P : ByteArray) (Q : ByteArray) 
    (C0 : ∀ w, Calls Try.prog 37 #[.string P] w fun e w' => e = .returned (.bool false) ∧ Below w.heap.size w w') (w : World) :
    Calls Try.prog 28 #[.string P, .string Q] w fun e w' => e = .returned (.tuple #[.string ⟨#[]⟩, .bool false]) ∧ Below w.heap.size w w' := by
  have C0' := Lib.hid C0
  clear C0
  go_enter Try.func28, Try.ntmps28
  go_wp2_with fail
  with_reducible refine (C0'.out _).mono ?_
  rintro e w1 ⟨rfl, b1⟩
  have k1 := b1
  go_wp2_with fail
  go_ret2
  exact ⟨rfl, k1⟩
set_option maxHeartbeats 2000000 in
theorem sp_ChoiceOf_1 (P : ByteArray) (Q : ByteArray) 
    (C0 : ∀ w, Calls Try.prog 37 #[.string P] w fun e w' => e = .returned (.bool true) ∧ Below w.heap.size w w')
    (C1 : ∀ w, Calls Try.prog 37 #[.string Q] w fun e w' => e = .returned (.bool false) ∧ Below w.heap.size w w') (w : World) :
    Calls Try.prog 28 #[.string P, .string Q] w fun e w' => e = .returned (.tuple #[.string ⟨#[]⟩, .bool false]) ∧ Below w.heap.size w w' := by
  have C0' := Lib.hid C0
  have C1' := Lib.hid C1
  clear C0 C1
  go_enter Try.func28, Try.ntmps28
  go_wp2_with fail
  with_reducible refine (C0'.out _).mono ?_
  rintro e w1 ⟨rfl, b1⟩
  have k1 := b1
  go_wp2_with fail
  with_reducible refine (C1'.out _).mono ?_
  rintro e w2 ⟨rfl, b2⟩
  have k2 := xgo k1 b2
  go_wp2_with fail
  go_ret2
  exact ⟨rfl, k2⟩
set_option maxHeartbeats 2000000 in
theorem sp_ChoiceOf_yes (P : ByteArray) (Q : ByteArray) (PF QF X Z n : ByteArray) (s z : Int) (b : Bool) (zP : P.size ≤ 700) (zPF : PF.size ≤ 700) (zQ : Q.size ≤ 700) (zQF : QF.size ≤ 700) (zX : X.size ≤ 700) (zZ : Z.size ≤ 700)
    (C0 : ∀ w, Calls Try.prog 37 #[.string P] w fun e w' => e = .returned (.bool true) ∧ Below w.heap.size w w')
    (C1 : ∀ w, Calls Try.prog 37 #[.string Q] w fun e w' => e = .returned (.bool true) ∧ Below w.heap.size w w')
    (FP : ∀ w, Calls Try.prog 58 #[.string P] w fun e w' => e = .returned (.string PF) ∧ Below w.heap.size w w')
    (FQ : ∀ w, Calls Try.prog 58 #[.string Q] w fun e w' => e = .returned (.string QF) ∧ Below w.heap.size w w')
    (F1 : ∀ w, Calls Try.prog 43 #[.string (PF ++ QF)] w fun e w' => e = .returned (.int .u8 s) ∧ Below w.heap.size w w')
    (X1 : ∀ w, Calls Try.prog 42 #[.int .u8 s] w fun e w' => e = .returned (.string X) ∧ Below w.heap.size w w')
    (F2 : ∀ w, Calls Try.prog 43 #[.string (PF ++ QF ++ X)] w fun e w' => e = .returned (.int .u8 z) ∧ Below w.heap.size w w')
    (X2 : ∀ w, Calls Try.prog 42 #[.int .u8 z] w fun e w' => e = .returned (.string Z) ∧ Below w.heap.size w w')
    (FI : ∀ w, Calls Try.prog 31 #[.string ((⟨#[35]⟩ : ByteArray) ++ X ++ (⟨#[46, 40]⟩ : ByteArray) ++ X ++ (⟨#[33]⟩ : ByteArray) ++ X ++ (⟨#[46, 48, 38, 40]⟩ : ByteArray) ++ X ++ (⟨#[63]⟩ : ByteArray) ++ Z ++ (⟨#[46]⟩ : ByteArray) ++ P ++ (⟨#[38]⟩ : ByteArray) ++ X ++ (⟨#[63]⟩ : ByteArray) ++ Z ++ (⟨#[46]⟩ : ByteArray) ++ Q ++ (⟨#[41, 41]⟩ : ByteArray))] w fun e w' => e = .returned (.tuple #[.string n, .bool b]) ∧ Below w.heap.size w w') (w : World) :
    Calls Try.prog 28 #[.string P, .string Q] w fun e w' => e = .returned (.tuple #[.string n, .bool b]) ∧ Below w.heap.size w w' := by
  have C0' := Lib.hid C0
  have C1' := Lib.hid C1
  have FP' := Lib.hid FP
  have FQ' := Lib.hid FQ
  have F1' := Lib.hid F1
  have X1' := Lib.hid X1
  have F2' := Lib.hid F2
  have X2' := Lib.hid X2
  have FI' := Lib.hid FI
  clear C0 C1 FP FQ F1 X1 F2 X2 FI
  go_enter Try.func28, Try.ntmps28
  go_wp2_with fail
  with_reducible refine (C0'.out _).mono ?_
  rintro e w1 ⟨rfl, b1⟩
  have k1 := b1
  go_wp2_with fail
  with_reducible refine (C1'.out _).mono ?_
  rintro e w2 ⟨rfl, b2⟩
  have k2 := xgo k1 b2
  go_wp2_with fail
  with_reducible refine (FP'.out _).mono ?_
  rintro e w3 ⟨rfl, b3⟩
  have k3 := xgo k2 b3
  clear b3 k2
  go_wp2_with fail
  with_reducible refine (FQ'.out _).mono ?_
  rintro e w4 ⟨rfl, b4⟩
  have k4 := xgo k3 b4
  clear b4 k3
  go_wp2_with fail
  with_reducible refine (F1'.out _).mono ?_
  rintro e w5 ⟨rfl, b5⟩
  have k5 := xgo k4 b5
  clear b5 k4
  go_wp2_with fail
  with_reducible refine (X1'.out _).mono ?_
  rintro e w6 ⟨rfl, b6⟩
  have k6 := xgo k5 b6
  clear b6 k5
  go_wp2_with fail
  with_reducible refine (F2'.out _).mono ?_
  rintro e w7 ⟨rfl, b7⟩
  have k7 := xgo k6 b7
  clear b7 k6
  go_wp2_with fail
  with_reducible refine (X2'.out _).mono ?_
  rintro e w8 ⟨rfl, b8⟩
  have k8 := xgo k7 b8
  clear b8 k7
  go_wp2_with fail
  with_reducible refine (FI'.out _).mono ?_
  rintro e w9 ⟨rfl, b9⟩
  have k9 := xgo k8 b9
  clear b9 k8
  go_wp2_with fail
  go_ret2
  exact ⟨rfl, k9⟩
end Go.Proofs.Ytohaddhjnghcpaa.T1
