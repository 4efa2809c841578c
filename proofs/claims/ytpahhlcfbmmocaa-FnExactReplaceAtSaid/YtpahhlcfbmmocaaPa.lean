/- The part that a step of a path tells, in the program. -/
import Derived.Test.YtpahhlcfbmmocaaGood
import Derived.Lib.OthersKept
import Derived.Deep.LoopGhost
import Derived.Laws.RangeAny
namespace Go.Proofs.Ytpahhlcfbmmocaa.T1
open Go.RowKit
set_option maxRecDepth 100000

/-- The part that a step of a path tells. -/
def stepN (t : Tm) (r : Nat) : Option Tm := if r < 48 then none else t.parts[r - 48]?
/-- The subterm at a path. -/
def atP : Tm → List UInt8 → Option Tm
  | t, [] => some t
  | t, c :: l => match stepN t c.toNat with
    | some p => atP p l
    | none => none
theorem parts_cases (t : Tm) : t.parts = [] ∨ (∃ p, t.parts = [p]) ∨ ∃ p q, t.parts = [p, q] := by
  cases t <;> simp [Tm.parts]
theorem step_high (t : Tm) (r : Nat) (h : 128 ≤ r) : stepN t r = none := by
  unfold stepN
  rw [if_neg (by omega)]
  rcases parts_cases t with h1 | ⟨p, h1⟩ | ⟨p, q, h1⟩ <;> rw [h1] <;> simp <;> omega

set_option maxHeartbeats 1000000 in
theorem partAt_0 (T : TypeId) (V : Value) (r : Int) (h0 : 0 ≤ r) (hr : r ≤ 2147483647) (hlo : 48 ≤ r) (hP : PartsFact T V []) (w : World) :
    Calls Try.prog 64 #[.iface T V, .int .i32 r] w fun e w' => e = .returned (.tuple #[.nilIface, .bool false]) ∧ Below w.heap.size w w' := by
  obtain ⟨F, R, hm1, hn1, hc1, hp⟩ := hP
  have HP := Lib.hid hp
  clear hp
  go_enter Try.func64, Try.ntmps64
  go_wp2_with fail
  refine (HP.out _).mono ?_
  rintro e w1 ⟨rfl, bl⟩
  go_wp2_with fail
  go_ret2
  exact ⟨rfl, bl⟩

set_option maxHeartbeats 1000000 in
theorem partAt_0n (T : TypeId) (V : Value) (r : Int) (h0 : 0 ≤ r) (hr : r ≤ 2147483647) (hlo : r < 48) (hP : PartsFact T V []) (w : World) :
    Calls Try.prog 64 #[.iface T V, .int .i32 r] w fun e w' => e = .returned (.tuple #[.nilIface, .bool false]) ∧ Below w.heap.size w w' := by
  obtain ⟨F, R, hm1, hn1, hc1, hp⟩ := hP
  have HP := Lib.hid hp
  clear hp
  go_enter Try.func64, Try.ntmps64
  go_wp2_with fail
  refine (HP.out _).mono ?_
  rintro e w1 ⟨rfl, bl⟩
  go_wp2_with fail
  go_ret2
  exact ⟨rfl, bl⟩

set_option maxHeartbeats 1000000 in
theorem partAt_1 (T : TypeId) (V : Value) (tp : TypeId) (vp : Value) (hP : ∃ (F : FuncId) (R : Value), (∀ n w, (method (n + 1) T V "loop.example/g01175/impl.parts").run Try.prog w = .ok (F, R) w) ∧ (∀ n w, (nilAhead (n + 1) T V "loop.example/g01175/impl.parts").run Try.prog w = .ok (some false) w) ∧ (∀ args w, (callFunc F args).run Try.prog w = .ok (.enter F args) w) ∧ ∀ w, Calls Try.prog F #[R] w fun e w' => ∃ b, e = .returned (.slice (some ⟨b, 0, none⟩) 1 1) ∧ w.heap.size ≤ b ∧ w'.heap[b]? = some (.cells #[.iface tp vp] 38 (0, 0)) ∧ Below w.heap.size w w') (w : World) :
    Calls Try.prog 64 #[.iface T V, .int .i32 48] w fun e w' => e = .returned (.tuple #[.iface tp vp, .bool true]) ∧ Below w.heap.size w w' := by
  obtain ⟨F, R, hm1, hn1, hc1, hp⟩ := hP
  have HP := Lib.hid hp
  clear hp
  go_enter Try.func64, Try.ntmps64
  go_wp2_with fail
  refine (HP.out _).mono ?_
  rintro e w1 ⟨b, rfl, hb, hh, bl⟩
  have c0 := cellOf1 hh
  clear hh
  go_wp2_with fail
  go_ret2
  exact ⟨rfl, bl⟩

set_option maxHeartbeats 1000000 in
theorem partAt_1n (T : TypeId) (V : Value) (tp : TypeId) (vp : Value) (r : Int) (h0 : 0 ≤ r) (hr : r ≤ 2147483647) (hlo : r < 48) (hP : ∃ (F : FuncId) (R : Value), (∀ n w, (method (n + 1) T V "loop.example/g01175/impl.parts").run Try.prog w = .ok (F, R) w) ∧ (∀ n w, (nilAhead (n + 1) T V "loop.example/g01175/impl.parts").run Try.prog w = .ok (some false) w) ∧ (∀ args w, (callFunc F args).run Try.prog w = .ok (.enter F args) w) ∧ ∀ w, Calls Try.prog F #[R] w fun e w' => ∃ b, e = .returned (.slice (some ⟨b, 0, none⟩) 1 1) ∧ w.heap.size ≤ b ∧ w'.heap[b]? = some (.cells #[.iface tp vp] 38 (0, 0)) ∧ Below w.heap.size w w') (w : World) :
    Calls Try.prog 64 #[.iface T V, .int .i32 r] w fun e w' => e = .returned (.tuple #[.nilIface, .bool false]) ∧ Below w.heap.size w w' := by
  obtain ⟨F, R, hm1, hn1, hc1, hp⟩ := hP
  have HP := Lib.hid hp
  clear hp
  go_enter Try.func64, Try.ntmps64
  go_wp2_with fail
  refine (HP.out _).mono ?_
  rintro e w1 ⟨b, rfl, hb, hh, bl⟩
  have c0 := cellOf1 hh
  clear hh
  go_wp2_with fail
  go_ret2
  exact ⟨rfl, bl⟩

set_option maxHeartbeats 1000000 in
theorem partAt_1h (T : TypeId) (V : Value) (tp : TypeId) (vp : Value) (r : Int) (h0 : 0 ≤ r) (hr : r ≤ 2147483647) (hlo : 49 ≤ r) (hP : ∃ (F : FuncId) (R : Value), (∀ n w, (method (n + 1) T V "loop.example/g01175/impl.parts").run Try.prog w = .ok (F, R) w) ∧ (∀ n w, (nilAhead (n + 1) T V "loop.example/g01175/impl.parts").run Try.prog w = .ok (some false) w) ∧ (∀ args w, (callFunc F args).run Try.prog w = .ok (.enter F args) w) ∧ ∀ w, Calls Try.prog F #[R] w fun e w' => ∃ b, e = .returned (.slice (some ⟨b, 0, none⟩) 1 1) ∧ w.heap.size ≤ b ∧ w'.heap[b]? = some (.cells #[.iface tp vp] 38 (0, 0)) ∧ Below w.heap.size w w') (w : World) :
    Calls Try.prog 64 #[.iface T V, .int .i32 r] w fun e w' => e = .returned (.tuple #[.nilIface, .bool false]) ∧ Below w.heap.size w w' := by
  obtain ⟨F, R, hm1, hn1, hc1, hp⟩ := hP
  have HP := Lib.hid hp
  clear hp
  go_enter Try.func64, Try.ntmps64
  go_wp2_with fail
  refine (HP.out _).mono ?_
  rintro e w1 ⟨b, rfl, hb, hh, bl⟩
  have c0 := cellOf1 hh
  clear hh
  go_wp2_with fail
  go_ret2
  exact ⟨rfl, bl⟩

set_option maxHeartbeats 1000000 in
theorem partAt_2a (T : TypeId) (V : Value) (tp : TypeId) (vp : Value) (tq : TypeId) (vq : Value) (hP : ∃ (F : FuncId) (R : Value), (∀ n w, (method (n + 1) T V "loop.example/g01175/impl.parts").run Try.prog w = .ok (F, R) w) ∧ (∀ n w, (nilAhead (n + 1) T V "loop.example/g01175/impl.parts").run Try.prog w = .ok (some false) w) ∧ (∀ args w, (callFunc F args).run Try.prog w = .ok (.enter F args) w) ∧ ∀ w, Calls Try.prog F #[R] w fun e w' => ∃ b, e = .returned (.slice (some ⟨b, 0, none⟩) 2 2) ∧ w.heap.size ≤ b ∧ w'.heap[b]? = some (.cells #[.iface tp vp, .iface tq vq] 38 (0, 0)) ∧ Below w.heap.size w w') (w : World) :
    Calls Try.prog 64 #[.iface T V, .int .i32 48] w fun e w' => e = .returned (.tuple #[.iface tp vp, .bool true]) ∧ Below w.heap.size w w' := by
  obtain ⟨F, R, hm1, hn1, hc1, hp⟩ := hP
  have HP := Lib.hid hp
  clear hp
  go_enter Try.func64, Try.ntmps64
  go_wp2_with fail
  refine (HP.out _).mono ?_
  rintro e w1 ⟨b, rfl, hb, hh, bl⟩
  have c0 := cellOf2a hh
  clear hh
  go_wp2_with fail
  go_ret2
  exact ⟨rfl, bl⟩

set_option maxHeartbeats 1000000 in
theorem partAt_2b (T : TypeId) (V : Value) (tp : TypeId) (vp : Value) (tq : TypeId) (vq : Value) (hP : ∃ (F : FuncId) (R : Value), (∀ n w, (method (n + 1) T V "loop.example/g01175/impl.parts").run Try.prog w = .ok (F, R) w) ∧ (∀ n w, (nilAhead (n + 1) T V "loop.example/g01175/impl.parts").run Try.prog w = .ok (some false) w) ∧ (∀ args w, (callFunc F args).run Try.prog w = .ok (.enter F args) w) ∧ ∀ w, Calls Try.prog F #[R] w fun e w' => ∃ b, e = .returned (.slice (some ⟨b, 0, none⟩) 2 2) ∧ w.heap.size ≤ b ∧ w'.heap[b]? = some (.cells #[.iface tp vp, .iface tq vq] 38 (0, 0)) ∧ Below w.heap.size w w') (w : World) :
    Calls Try.prog 64 #[.iface T V, .int .i32 49] w fun e w' => e = .returned (.tuple #[.iface tq vq, .bool true]) ∧ Below w.heap.size w w' := by
  obtain ⟨F, R, hm1, hn1, hc1, hp⟩ := hP
  have HP := Lib.hid hp
  clear hp
  go_enter Try.func64, Try.ntmps64
  go_wp2_with fail
  refine (HP.out _).mono ?_
  rintro e w1 ⟨b, rfl, hb, hh, bl⟩
  have c0 := cellOf2b hh
  clear hh
  go_wp2_with fail
  go_ret2
  exact ⟨rfl, bl⟩

set_option maxHeartbeats 1000000 in
theorem partAt_2n (T : TypeId) (V : Value) (tp : TypeId) (vp : Value) (tq : TypeId) (vq : Value) (r : Int) (h0 : 0 ≤ r) (hr : r ≤ 2147483647) (hlo : r < 48) (hP : ∃ (F : FuncId) (R : Value), (∀ n w, (method (n + 1) T V "loop.example/g01175/impl.parts").run Try.prog w = .ok (F, R) w) ∧ (∀ n w, (nilAhead (n + 1) T V "loop.example/g01175/impl.parts").run Try.prog w = .ok (some false) w) ∧ (∀ args w, (callFunc F args).run Try.prog w = .ok (.enter F args) w) ∧ ∀ w, Calls Try.prog F #[R] w fun e w' => ∃ b, e = .returned (.slice (some ⟨b, 0, none⟩) 2 2) ∧ w.heap.size ≤ b ∧ w'.heap[b]? = some (.cells #[.iface tp vp, .iface tq vq] 38 (0, 0)) ∧ Below w.heap.size w w') (w : World) :
    Calls Try.prog 64 #[.iface T V, .int .i32 r] w fun e w' => e = .returned (.tuple #[.nilIface, .bool false]) ∧ Below w.heap.size w w' := by
  obtain ⟨F, R, hm1, hn1, hc1, hp⟩ := hP
  have HP := Lib.hid hp
  clear hp
  go_enter Try.func64, Try.ntmps64
  go_wp2_with fail
  refine (HP.out _).mono ?_
  rintro e w1 ⟨b, rfl, hb, hh, bl⟩
  have c0 := cellOf2a hh
  clear hh
  go_wp2_with fail
  go_ret2
  exact ⟨rfl, bl⟩

set_option maxHeartbeats 1000000 in
theorem partAt_2h (T : TypeId) (V : Value) (tp : TypeId) (vp : Value) (tq : TypeId) (vq : Value) (r : Int) (h0 : 0 ≤ r) (hr : r ≤ 2147483647) (hlo : 50 ≤ r) (hP : ∃ (F : FuncId) (R : Value), (∀ n w, (method (n + 1) T V "loop.example/g01175/impl.parts").run Try.prog w = .ok (F, R) w) ∧ (∀ n w, (nilAhead (n + 1) T V "loop.example/g01175/impl.parts").run Try.prog w = .ok (some false) w) ∧ (∀ args w, (callFunc F args).run Try.prog w = .ok (.enter F args) w) ∧ ∀ w, Calls Try.prog F #[R] w fun e w' => ∃ b, e = .returned (.slice (some ⟨b, 0, none⟩) 2 2) ∧ w.heap.size ≤ b ∧ w'.heap[b]? = some (.cells #[.iface tp vp, .iface tq vq] 38 (0, 0)) ∧ Below w.heap.size w w') (w : World) :
    Calls Try.prog 64 #[.iface T V, .int .i32 r] w fun e w' => e = .returned (.tuple #[.nilIface, .bool false]) ∧ Below w.heap.size w w' := by
  obtain ⟨F, R, hm1, hn1, hc1, hp⟩ := hP
  have HP := Lib.hid hp
  clear hp
  go_enter Try.func64, Try.ntmps64
  go_wp2_with fail
  refine (HP.out _).mono ?_
  rintro e w1 ⟨b, rfl, hb, hh, bl⟩
  have c0 := cellOf2a hh
  clear hh
  go_wp2_with fail
  go_ret2
  exact ⟨rfl, bl⟩

/-- What is left by a search for a subterm. -/
def SubPost (o : Option Tm) (w : World) (e : Ending) (w' : World) : Prop :=
  ((∃ p, o = some p ∧ e = .returned (.tuple #[.iface (tyOf p) (pay p), .bool true])) ∨ (o = none ∧ e = .returned (.tuple #[.nilIface, .bool false]))) ∧ Below w.heap.size w w'
theorem SubPost.no {w : World} {e : Ending} {w' : World} {o : Option Tm} (ho : o = none) (h : e = .returned (.tuple #[.nilIface, .bool false]) ∧ Below w.heap.size w w') : SubPost o w e w' := ⟨.inr ⟨ho, h.1⟩, h.2⟩
theorem SubPost.yes {w : World} {e : Ending} {w' : World} {o : Option Tm} {p : Tm} (ho : o = some p) (h : e = .returned (.tuple #[.iface (tyOf p) (pay p), .bool true]) ∧ Below w.heap.size w w') : SubPost o w e w' := ⟨.inl ⟨p, ho, h.1⟩, h.2⟩
theorem partAt_any (t : Tm) (r : Nat) (hr : r ≤ 2147483647) (w : World) : Calls Try.prog 64 #[.iface (tyOf t) (pay t), .int .i32 (r : Int)] w (SubPost (stepN t r) w) := by
  have hf := (parts_fact t).pf
  rcases parts_cases t with h1 | ⟨p, h1⟩ | ⟨p, q, h1⟩
  · rw [h1] at hf
    have ho : stepN t r = none := by unfold stepN; rw [h1]; simp
    rcases Nat.lt_or_ge r 48 with hl | hl
    · exact (partAt_0n _ _ (r : Int) (by omega) (by omega) (by omega) ⟨hf⟩ w).mono fun _ _ h => SubPost.no ho h
    · exact (partAt_0 _ _ (r : Int) (by omega) (by omega) (by omega) ⟨hf⟩ w).mono fun _ _ h => SubPost.no ho h
  · rw [h1] at hf
    rcases Nat.lt_or_ge r 48 with hl | hl
    · have ho : stepN t r = none := by unfold stepN; rw [if_pos hl]
      exact (partAt_1n _ _ _ _ (r : Int) (by omega) (by omega) (by omega) hf w).mono fun _ _ h => SubPost.no ho h
    · rcases Nat.lt_or_ge 48 r with hg | hg
      · have ho : stepN t r = none := by unfold stepN; rw [h1, if_neg (by omega)]; simp; omega
        exact (partAt_1h _ _ _ _ (r : Int) (by omega) (by omega) (by omega) hf w).mono fun _ _ h => SubPost.no ho h
      · obtain rfl : r = 48 := by omega
        have ho : stepN t 48 = some p := by unfold stepN; rw [h1]; rfl
        exact (partAt_1 _ _ _ _ hf w).mono fun _ _ h => SubPost.yes ho h
  · rw [h1] at hf
    rcases Nat.lt_or_ge r 48 with hl | hl
    · have ho : stepN t r = none := by unfold stepN; rw [if_pos hl]
      exact (partAt_2n _ _ _ _ _ _ (r : Int) (by omega) (by omega) (by omega) hf w).mono fun _ _ h => SubPost.no ho h
    · rcases Nat.lt_or_ge 49 r with hg | hg
      · have ho : stepN t r = none := by unfold stepN; rw [h1, if_neg (by omega)]; simp; omega
        exact (partAt_2h _ _ _ _ _ _ (r : Int) (by omega) (by omega) (by omega) hf w).mono fun _ _ h => SubPost.no ho h
      · rcases Nat.lt_or_ge 48 r with hg2 | hg2
        · obtain rfl : r = 49 := by omega
          have ho : stepN t 49 = some q := by unfold stepN; rw [h1]; rfl
          exact (partAt_2b _ _ _ _ _ _ hf w).mono fun _ _ h => SubPost.yes ho h
        · obtain rfl : r = 48 := by omega
          have ho : stepN t 48 = some p := by unfold stepN; rw [h1]; rfl
          exact (partAt_2a _ _ _ _ _ _ hf w).mono fun _ _ h => SubPost.yes ho h

end Go.Proofs.Ytpahhlcfbmmocaa.T1
