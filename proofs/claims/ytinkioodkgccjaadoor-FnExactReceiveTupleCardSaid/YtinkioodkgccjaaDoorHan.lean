/- Texts of the proof, put together: ImplA. No conditions. -/
import Derived.Test.YtinkioodkgccjaaDoorHab
import Derived.Test.YtinkioodkgccjaaDoorProg
import Derived.WalkKit
import Derived.WalkLawsBesides
import Derived.WalkSpells
import Derived.LoopTactic
import Derived.Lib.Hide
import Derived.BigQuiet
import Derived.Deep.QuietTactic
import Derived.Outline
import Derived.IntWalk

/- The reader: one byte taken, one name read. -/
namespace Go.Proofs.YtinkioodkgccjaaDoor.T1
open Go.RowKit
set_option maxRecDepth 100000

theorem ret_bool' {a b : Bool} (h : a = b) : Ending.returned (.bool a) = .returned (.bool b) := by rw [h]

/-- Is the byte at the place the wanted one? Where one reads on. -/
def tk (s : ByteArray) (a : Nat) (n : Int) : Bool := match s.data.toList.drop a with | c :: _ => decide ((c.toNat : Int) = n) | [] => false
def tkN (s : ByteArray) (a : Nat) (n : Int) : Nat := if tk s a n then a + 1 else a
theorem tk_lt {s : ByteArray} {a : Nat} (h : a < s.size) (n : Int) : tk s a n = decide ((s[a].toNat : Int) = n) := by rw [tk, drop_at s a h]
theorem tk_ge {s : ByteArray} {a : Nat} (h : s.size ≤ a) (n : Int) : tk s a n = false := by rw [tk, List.drop_of_length_le (by simpa using h)]

def TakePost (b : Nat) (s : ByteArray) (a : Nat) (n : Int) (w : World) (e : Ending) (w' : World) : Prop :=
  e = .returned (.bool (tk s a n)) ∧ RdAt w' b s (tkN s a n) ∧ Only b w w'

set_option maxHeartbeats 1000000 in
theorem take_any7 (b : Nat) (s : ByteArray) (a : Nat) (n : Int) (w : World) (hs : s.size ≤ 700) (ha : a ≤ s.size) (hr : RdAt w b s a) :
    Calls Tryd.prog 73 #[.pointer (some ⟨b, 0, none⟩), .int .u8 n] w (TakePost b s a n w) := by
  have c0 := hr.c0
  have c1 := hr.c1
  have f1 := hr.f1
  by_cases hlt : a < s.size
  · have t1 : ((a : Int) == (s.size : Int)) = false := by rw [beq_eq_false_iff_ne]; omega
    by_cases hc : (s[a].toNat : Int) = n
    · have t2 : ((s[a].toNat : Int) != n) = false := by simp [hc]
      have hT : tk s a n = true := by rw [tk_lt hlt]; simpa using hc
      have HT := Lib.hid hT
      clear hc hT
      go_enter Tryd.func73, Tryd.ntmps73
      go_wp2_with fail
      go_quiet (fail)
      go_wp2_with fail
      go_ret
      refine ⟨by rw [HT.out]; rfl, ?_, ((Only.refl _ _).drewN _).setCell _ _ _⟩
      rw [tkN, if_pos HT.out]
      exact (hr.drewN _).set (a + 1)
    · have t2 : ((s[a].toNat : Int) != n) = true := by simp [hc]
      have hT : tk s a n = false := by rw [tk_lt hlt]; simpa using hc
      have HT := Lib.hid hT
      clear hc hT
      go_enter Tryd.func73, Tryd.ntmps73
      go_wp2_with fail
      go_quiet (fail)
      go_wp2_with fail
      go_ret
      refine ⟨by rw [HT.out]; rfl, ?_, ((Only.refl _ _).drewN _)⟩
      rw [tkN, HT.out]
      exact hr.drewN _
  · have t1 : ((a : Int) == (s.size : Int)) = true := by rw [beq_iff_eq]; omega
    have hT : tk s a n = false := tk_ge (by omega) n
    have HT := Lib.hid hT
    clear hT
    go_enter Tryd.func73, Tryd.ntmps73
    go_wp2_with fail
    go_quiet (fail)
    go_wp2_with fail
    go_ret
    refine ⟨by rw [HT.out]; rfl, ?_, ((Only.refl _ _).drewN _)⟩
    rw [tkN, HT.out]
    exact hr.drewN _

theorem take_any (b : Nat) (s : ByteArray) (a : Nat) (n : Int) (w : World) (hs : s.size ≤ 300) (ha : a ≤ s.size) (hr : RdAt w b s a) :
    Calls Tryd.prog 73 #[.pointer (some ⟨b, 0, none⟩), .int .u8 n] w (TakePost b s a n w) := take_any7 b s a n w (by omega) ha hr

set_option maxHeartbeats 400000 in
theorem isLetter_any (c : UInt8) (w : World) : Calls Tryd.prog 59 #[.int .i32 (c.toNat : Int)] w fun e w' => e = .returned (.bool (nmL c)) ∧ w = w' := by
  go_enter Tryd.func59, Tryd.ntmps59
  go_wp2
  all_goals (go_ret; refine ⟨ret_bool' ?_, rfl⟩; rw [Bool.eq_iff_iff]; simp [nmL]; omega)

/-- Is there a name at the place? Which? Where one reads on. -/
def nmT (s : ByteArray) (a : Nat) : Bool := match s.data.toList.drop a with | c :: _ => nmL c | [] => false
def nmV (s : ByteArray) (a : Nat) : UInt8 := if nmT s a then (match s.data.toList.drop a with | c :: _ => c | [] => 0) else 0
def nmN (s : ByteArray) (a : Nat) : Nat := if nmT s a then a + 1 else a
theorem nmT_lt {s : ByteArray} {a : Nat} (h : a < s.size) : nmT s a = nmL s[a] := by rw [nmT, drop_at s a h]
theorem nmT_ge {s : ByteArray} {a : Nat} (h : s.size ≤ a) : nmT s a = false := by rw [nmT, List.drop_of_length_le (by simpa using h)]
theorem nmV_lt {s : ByteArray} {a : Nat} (h : a < s.size) (h1 : nmT s a = true) : nmV s a = s[a] := by rw [nmV, if_pos h1, drop_at s a h]
theorem nmV_no {s : ByteArray} {a : Nat} (h1 : nmT s a = false) : nmV s a = 0 := by rw [nmV, h1]; rfl

def NamePost (b : Nat) (s : ByteArray) (a : Nat) (w : World) (e : Ending) (w' : World) : Prop :=
  e = .returned (.tuple #[.int .u8 ((nmV s a).toNat : Int), .bool (nmT s a)]) ∧ RdAt w' b s (nmN s a) ∧ Only b w w'

set_option maxHeartbeats 1000000 in
theorem name_any (b : Nat) (s : ByteArray) (a : Nat) (w : World) (hs : s.size ≤ 300) (ha : a ≤ s.size) (hr : RdAt w b s a) :
    Calls Tryd.prog 83 #[.pointer (some ⟨b, 0, none⟩)] w (NamePost b s a w) := by
  have c0 := hr.c0
  have c1 := hr.c1
  have f1 := hr.f1
  by_cases hlt : a < s.size
  · have t1 : ((a : Int) == (s.size : Int)) = false := by rw [beq_eq_false_iff_ne]; omega
    have hb : s[a].toNat < 256 := s[a].toNat_lt
    have hwr : IntKind.i32.wrap (s[a].toNat : Int) = (s[a].toNat : Int) := IntWalk.i32_in _ (by omega)
    have hl := fun w => isLetter_any s[a] w
    cases hc : nmL s[a] with
    | true =>
      rw [hc] at hl
      have hT : nmT s a = true := by rw [nmT_lt hlt, hc]
      have HT := Lib.hid hT
      have HV := Lib.hid (nmV_lt hlt hT)
      have HL := Lib.hid hl
      clear hc hT hl
      go_enter Tryd.func83, Tryd.ntmps83
      go_wp2_with fail
      go_quiet ((go_at_call 59; exact Calls.quiet_of_same ((HL.out _).mono fun _ _ hh => ⟨hh.1, hh.2.symm⟩)))
      go_wp2_with fail
      go_quiet (fail)
      go_wp2_with fail
      go_ret2
      refine ⟨by rw [HT.out, HV.out]; rfl, ?_, (((Only.refl _ _).drewN _).setCell _ _ _).drewN _⟩
      rw [nmN, if_pos HT.out]
      exact ((hr.drewN _).set (a + 1)).drewN _
    | false =>
      rw [hc] at hl
      have hT : nmT s a = false := by rw [nmT_lt hlt, hc]
      have HT := Lib.hid hT
      have HV := Lib.hid (nmV_no hT)
      have HL := Lib.hid hl
      clear hc hT hl
      go_enter Tryd.func83, Tryd.ntmps83
      go_wp2_with fail
      go_quiet ((go_at_call 59; exact Calls.quiet_of_same ((HL.out _).mono fun _ _ hh => ⟨hh.1, hh.2.symm⟩)))
      go_wp2_with fail
      go_ret2
      refine ⟨by rw [HT.out, HV.out]; rfl, ?_, ((Only.refl _ _).drewN _)⟩
      rw [nmN, HT.out]
      exact hr.drewN _
  · have t1 : ((a : Int) == (s.size : Int)) = true := by rw [beq_iff_eq]; omega
    have hT : nmT s a = false := nmT_ge (by omega)
    have HT := Lib.hid hT
    have HV := Lib.hid (nmV_no hT)
    clear hT
    go_enter Tryd.func83, Tryd.ntmps83
    go_wp2_with fail
    go_quiet (fail)
    go_wp2_with fail
    go_ret2
    refine ⟨by rw [HT.out, HV.out]; rfl, ?_, ((Only.refl _ _).drewN _)⟩
    rw [nmN, HT.out]
    exact hr.drewN _

end Go.Proofs.YtinkioodkgccjaaDoor.T1
