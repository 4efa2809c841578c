/- The reader: one byte taken, one name read. -/
import Derived.Test.YtabllmoeehjknaaProg
import Derived.Test.YtabllmoeehjknaaPureB
import Derived.Test.YtabllmoeehjknaaMem
import Derived.WalkKit
import Derived.WalkLawsBesides
import Derived.WalkSpells
import Derived.LoopTactic
import Derived.Lib.Hide
import Derived.BigQuiet
import Derived.Deep.QuietTactic
import Derived.Outline
import Derived.IntWalk
namespace Go.Proofs.Ytabllmoeehjknaa.T1
open Go.RowKit
set_option maxRecDepth 100000

theorem ret_bool' {a b : Bool} (h : a = b) : Ending.returned (.bool a) = .returned (.bool b) := by rw [h]

/-- Is the byte at the place the wanted one? Where one reads on. -/
def tk (s : ByteArray) (a : Nat) (n : Int) : Bool := match s.data.toList.drop a with | c :: _ => decide ((c.toNat : Int) = n) | [] => false
def tkN (s : ByteArray) (a : Nat) (n : Int) : Nat := if tk s a n then a + 1 else a
theorem tk_lt {s : ByteArray} {a : Nat} (h : a < s.size) (n : Int) : tk s a n = decide ((s[a].toNat : Int) = n) := by rw [tk, drop_at s a h]
theorem tk_ge {s : ByteArray} {a : Nat} (h : s.size ≤ a) (n : Int) : tk s a n = false := by rw [tk, List.drop_of_length_le (by simpa using h)]

def TakePost (b : Nat) (s : ByteArray) (a : Nat) (n : Int) (w : World) (e : Ending) (w' : World) : Prop :=
  e = .returned (.bool (tk s a n)) ∧ RdAt w' b s (tkN s a n) ∧ Only b w w'

set_option maxHeartbeats 400000 in
theorem isLetter_any (c : UInt8) (w : World) : Calls Try.prog 18 #[.int .i32 (c.toNat : Int)] w fun e w' => e = .returned (.bool (nmL c)) ∧ w = w' := by
  go_enter Try.func18, Try.ntmps18
  go_wp2
  all_goals (go_ret; refine ⟨ret_bool' ?_, rfl⟩; rw [Bool.eq_iff_iff]; simp [nmL]; omega)

/-- Is there a name at the place? Which? Where one reads on. -/
def nmT (s : ByteArray) (a : Nat) : Bool := match s.data.toList.drop a with | c :: _ => nmL c | [] => false
def nmV (s : ByteArray) (a : Nat) : UInt8 := if nmT s a then (match s.data.toList.drop a with | c :: _ => c | [] => 0) else 0
def nmN (s : ByteArray) (a : Nat) : Nat := if nmT s a then a + 1 else a
theorem nmT_lt {s : ByteArray} {a : Nat} (h : a < s.size) : nmT s a = nmL s[a] := by rw [nmT, drop_at s a h]
theorem nmT_ge {s : ByteArray} {a : Nat} (h : s.size ≤ a) : nmT s a = false := by rw [nmT, List.drop_of_length_le (by simpa using h)]
theorem nmV_lt {s : ByteArray} {a : Nat} (h : a < s.size) (h1 : nmT s a = true) : nmV s a = s[a] := by rw [nmV, if_pos h1, drop_at s a h]
theorem nmV_no {s : ByteArray} {a : Nat} (h1 : nmT s a = false) : nmV s a = 0 := by rw [nmV, h1]; rfl

def NamePost (b : Nat) (s : ByteArray) (a : Nat) (w : World) (e : Ending) (w' : World) : Prop :=
  e = .returned (.tuple #[.int .u8 ((nmV s a).toNat : Int), .bool (nmT s a)]) ∧ RdAt w' b s (nmN s a) ∧ Only b w w'

end Go.Proofs.Ytabllmoeehjknaa.T1
