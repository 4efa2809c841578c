/- Texts of the proof, put together: Pa, Ta, Sa. No conditions. -/
import Derived.Test.YtajgncapgeiniaaGreatHaq
import Derived.Lib.OthersKept
import Derived.Deep.LoopGhost
import Derived.Laws.RangeAny

/- The part that a step of a path tells, in the program. -/
namespace Go.Proofs.YtajgncapgeiniaaGreat.T1
open Go.RowKit
set_option maxRecDepth 100000

/-- The part that a step of a path tells. -/
def stepN (t : Tm) (r : Nat) : Option Tm := if r < 48 then none else t.parts[r - 48]?
/-- The subterm at a path. -/
def atP : Tm → List UInt8 → Option Tm
  | t, [] => some t
  | t, c :: l => match stepN t c.toNat with
    | some p => atP p l
    | none => none
theorem parts_cases (t : Tm) : t.parts = [] ∨ (∃ p, t.parts = [p]) ∨ ∃ p q, t.parts = [p, q] := by
  cases t <;> simp [Tm.parts]
theorem step_high (t : Tm) (r : Nat) (h : 128 ≤ r) : stepN t r = none := by
  unfold stepN
  rw [if_neg (by omega)]
  rcases parts_cases t with h1 | ⟨p, h1⟩ | ⟨p, q, h1⟩ <;> rw [h1] <;> simp <;> omega

set_option maxHeartbeats 1000000 in
theorem partAt_0 (T : TypeId) (V : Value) (r : Int) (h0 : 0 ≤ r) (hr : r ≤ 2147483647) (hlo : 48 ≤ r) (hP : PartsFact T V []) (w : World) :
    Calls Tryz.prog 103 #[.iface T V, .int .i32 r] w fun e w' => e = .returned (.tuple #[.nilIface, .bool false]) ∧ Below w.heap.size w w' := by
  obtain ⟨F, R, hm1, hn1, hc1, hp⟩ := hP
  have HP := Lib.hid hp
  clear hp
  go_enter Tryz.func103, Tryz.ntmps103
  go_wp2_with fail
  refine (HP.out _).mono ?_
  rintro e w1 ⟨rfl, bl⟩
  go_wp2_with fail
  go_ret2
  exact ⟨rfl, bl⟩

set_option maxHeartbeats 1000000 in
theorem partAt_0n (T : TypeId) (V : Value) (r : Int) (h0 : 0 ≤ r) (hr : r ≤ 2147483647) (hlo : r < 48) (hP : PartsFact T V []) (w : World) :
    Calls Tryz.prog 103 #[.iface T V, .int .i32 r] w fun e w' => e = .returned (.tuple #[.nilIface, .bool false]) ∧ Below w.heap.size w w' := by
  obtain ⟨F, R, hm1, hn1, hc1, hp⟩ := hP
  have HP := Lib.hid hp
  clear hp
  go_enter Tryz.func103, Tryz.ntmps103
  go_wp2_with fail
  refine (HP.out _).mono ?_
  rintro e w1 ⟨rfl, bl⟩
  go_wp2_with fail
  go_ret2
  exact ⟨rfl, bl⟩

set_option maxHeartbeats 1000000 in
theorem partAt_1 (T : TypeId) (V : Value) (tp : TypeId) (vp : Value) (hP : ∃ (F : FuncId) (R : Value), (∀ n w, (method (n + 1) T V "loop.example/g01175/impl.parts").run Tryz.prog w = .ok (F, R) w) ∧ (∀ n w, (nilAhead (n + 1) T V "loop.example/g01175/impl.parts").run Tryz.prog w = .ok (some false) w) ∧ (∀ args w, (callFunc F args).run Tryz.prog w = .ok (.enter F args) w) ∧ ∀ w, Calls Tryz.prog F #[R] w fun e w' => ∃ b, e = .returned (.slice (some ⟨b, 0, none⟩) 1 1) ∧ w.heap.size ≤ b ∧ w'.heap[b]? = some (.cells #[.iface tp vp] 46 (0, 0)) ∧ Below w.heap.size w w') (w : World) :
    Calls Tryz.prog 103 #[.iface T V, .int .i32 48] w fun e w' => e = .returned (.tuple #[.iface tp vp, .bool true]) ∧ Below w.heap.size w w' := by
  obtain ⟨F, R, hm1, hn1, hc1, hp⟩ := hP
  have HP := Lib.hid hp
  clear hp
  go_enter Tryz.func103, Tryz.ntmps103
  go_wp2_with fail
  refine (HP.out _).mono ?_
  rintro e w1 ⟨b, rfl, hb, hh, bl⟩
  have c0 := cellOf1 hh
  clear hh
  go_wp2_with fail
  go_ret2
  exact ⟨rfl, bl⟩

set_option maxHeartbeats 1000000 in
theorem partAt_1n (T : TypeId) (V : Value) (tp : TypeId) (vp : Value) (r : Int) (h0 : 0 ≤ r) (hr : r ≤ 2147483647) (hlo : r < 48) (hP : ∃ (F : FuncId) (R : Value), (∀ n w, (method (n + 1) T V "loop.example/g01175/impl.parts").run Tryz.prog w = .ok (F, R) w) ∧ (∀ n w, (nilAhead (n + 1) T V "loop.example/g01175/impl.parts").run Tryz.prog w = .ok (some false) w) ∧ (∀ args w, (callFunc F args).run Tryz.prog w = .ok (.enter F args) w) ∧ ∀ w, Calls Tryz.prog F #[R] w fun e w' => ∃ b, e = .returned (.slice (some ⟨b, 0, none⟩) 1 1) ∧ w.heap.size ≤ b ∧ w'.heap[b]? = some (.cells #[.iface tp vp] 46 (0, 0)) ∧ Below w.heap.size w w') (w : World) :
    Calls Tryz.prog 103 #[.iface T V, .int .i32 r] w fun e w' => e = .returned (.tuple #[.nilIface, .bool false]) ∧ Below w.heap.size w w' := by
  obtain ⟨F, R, hm1, hn1, hc1, hp⟩ := hP
  have HP := Lib.hid hp
  clear hp
  go_enter Tryz.func103, Tryz.ntmps103
  go_wp2_with fail
  refine (HP.out _).mono ?_
  rintro e w1 ⟨b, rfl, hb, hh, bl⟩
  have c0 := cellOf1 hh
  clear hh
  go_wp2_with fail
  go_ret2
  exact ⟨rfl, bl⟩

set_option maxHeartbeats 1000000 in
theorem partAt_1h (T : TypeId) (V : Value) (tp : TypeId) (vp : Value) (r : Int) (h0 : 0 ≤ r) (hr : r ≤ 2147483647) (hlo : 49 ≤ r) (hP : ∃ (F : FuncId) (R : Value), (∀ n w, (method (n + 1) T V "loop.example/g01175/impl.parts").run Tryz.prog w = .ok (F, R) w) ∧ (∀ n w, (nilAhead (n + 1) T V "loop.example/g01175/impl.parts").run Tryz.prog w = .ok (some false) w) ∧ (∀ args w, (callFunc F args).run Tryz.prog w = .ok (.enter F args) w) ∧ ∀ w, Calls Tryz.prog F #[R] w fun e w' => ∃ b, e = .returned (.slice (some ⟨b, 0, none⟩) 1 1) ∧ w.heap.size ≤ b ∧ w'.heap[b]? = some (.cells #[.iface tp vp] 46 (0, 0)) ∧ Below w.heap.size w w') (w : World) :
    Calls Tryz.prog 103 #[.iface T V, .int .i32 r] w fun e w' => e = .returned (.tuple #[.nilIface, .bool false]) ∧ Below w.heap.size w w' := by
  obtain ⟨F, R, hm1, hn1, hc1, hp⟩ := hP
  have HP := Lib.hid hp
  clear hp
  go_enter Tryz.func103, Tryz.ntmps103
  go_wp2_with fail
  refine (HP.out _).mono ?_
  rintro e w1 ⟨b, rfl, hb, hh, bl⟩
  have c0 := cellOf1 hh
  clear hh
  go_wp2_with fail
  go_ret2
  exact ⟨rfl, bl⟩

set_option maxHeartbeats 1000000 in
theorem partAt_2a (T : TypeId) (V : Value) (tp : TypeId) (vp : Value) (tq : TypeId) (vq : Value) (hP : ∃ (F : FuncId) (R : Value), (∀ n w, (method (n + 1) T V "loop.example/g01175/impl.parts").run Tryz.prog w = .ok (F, R) w) ∧ (∀ n w, (nilAhead (n + 1) T V "loop.example/g01175/impl.parts").run Tryz.prog w = .ok (some false) w) ∧ (∀ args w, (callFunc F args).run Tryz.prog w = .ok (.enter F args) w) ∧ ∀ w, Calls Tryz.prog F #[R] w fun e w' => ∃ b, e = .returned (.slice (some ⟨b, 0, none⟩) 2 2) ∧ w.heap.size ≤ b ∧ w'.heap[b]? = some (.cells #[.iface tp vp, .iface tq vq] 46 (0, 0)) ∧ Below w.heap.size w w') (w : World) :
    Calls Tryz.prog 103 #[.iface T V, .int .i32 48] w fun e w' => e = .returned (.tuple #[.iface tp vp, .bool true]) ∧ Below w.heap.size w w' := by
  obtain ⟨F, R, hm1, hn1, hc1, hp⟩ := hP
  have HP := Lib.hid hp
  clear hp
  go_enter Tryz.func103, Tryz.ntmps103
  go_wp2_with fail
  refine (HP.out _).mono ?_
  rintro e w1 ⟨b, rfl, hb, hh, bl⟩
  have c0 := cellOf2a hh
  clear hh
  go_wp2_with fail
  go_ret2
  exact ⟨rfl, bl⟩

set_option maxHeartbeats 1000000 in
theorem partAt_2b (T : TypeId) (V : Value) (tp : TypeId) (vp : Value) (tq : TypeId) (vq : Value) (hP : ∃ (F : FuncId) (R : Value), (∀ n w, (method (n + 1) T V "loop.example/g01175/impl.parts").run Tryz.prog w = .ok (F, R) w) ∧ (∀ n w, (nilAhead (n + 1) T V "loop.example/g01175/impl.parts").run Tryz.prog w = .ok (some false) w) ∧ (∀ args w, (callFunc F args).run Tryz.prog w = .ok (.enter F args) w) ∧ ∀ w, Calls Tryz.prog F #[R] w fun e w' => ∃ b, e = .returned (.slice (some ⟨b, 0, none⟩) 2 2) ∧ w.heap.size ≤ b ∧ w'.heap[b]? = some (.cells #[.iface tp vp, .iface tq vq] 46 (0, 0)) ∧ Below w.heap.size w w') (w : World) :
    Calls Tryz.prog 103 #[.iface T V, .int .i32 49] w fun e w' => e = .returned (.tuple #[.iface tq vq, .bool true]) ∧ Below w.heap.size w w' := by
  obtain ⟨F, R, hm1, hn1, hc1, hp⟩ := hP
  have HP := Lib.hid hp
  clear hp
  go_enter Tryz.func103, Tryz.ntmps103
  go_wp2_with fail
  refine (HP.out _).mono ?_
  rintro e w1 ⟨b, rfl, hb, hh, bl⟩
  have c0 := cellOf2b hh
  clear hh
  go_wp2_with fail
  go_ret2
  exact ⟨rfl, bl⟩

set_option maxHeartbeats 1000000 in
theorem partAt_2n (T : TypeId) (V : Value) (tp : TypeId) (vp : Value) (tq : TypeId) (vq : Value) (r : Int) (h0 : 0 ≤ r) (hr : r ≤ 2147483647) (hlo : r < 48) (hP : ∃ (F : FuncId) (R : Value), (∀ n w, (method (n + 1) T V "loop.example/g01175/impl.parts").run Tryz.prog w = .ok (F, R) w) ∧ (∀ n w, (nilAhead (n + 1) T V "loop.example/g01175/impl.parts").run Tryz.prog w = .ok (some false) w) ∧ (∀ args w, (callFunc F args).run Tryz.prog w = .ok (.enter F args) w) ∧ ∀ w, Calls Tryz.prog F #[R] w fun e w' => ∃ b, e = .returned (.slice (some ⟨b, 0, none⟩) 2 2) ∧ w.heap.size ≤ b ∧ w'.heap[b]? = some (.cells #[.iface tp vp, .iface tq vq] 46 (0, 0)) ∧ Below w.heap.size w w') (w : World) :
    Calls Tryz.prog 103 #[.iface T V, .int .i32 r] w fun e w' => e = .returned (.tuple #[.nilIface, .bool false]) ∧ Below w.heap.size w w' := by
  obtain ⟨F, R, hm1, hn1, hc1, hp⟩ := hP
  have HP := Lib.hid hp
  clear hp
  go_enter Tryz.func103, Tryz.ntmps103
  go_wp2_with fail
  refine (HP.out _).mono ?_
  rintro e w1 ⟨b, rfl, hb, hh, bl⟩
  have c0 := cellOf2a hh
  clear hh
  go_wp2_with fail
  go_ret2
  exact ⟨rfl, bl⟩

set_option maxHeartbeats 1000000 in
theorem partAt_2h (T : TypeId) (V : Value) (tp : TypeId) (vp : Value) (tq : TypeId) (vq : Value) (r : Int) (h0 : 0 ≤ r) (hr : r ≤ 2147483647) (hlo : 50 ≤ r) (hP : ∃ (F : FuncId) (R : Value), (∀ n w, (method (n + 1) T V "loop.example/g01175/impl.parts").run Tryz.prog w = .ok (F, R) w) ∧ (∀ n w, (nilAhead (n + 1) T V "loop.example/g01175/impl.parts").run Tryz.prog w = .ok (some false) w) ∧ (∀ args w, (callFunc F args).run Tryz.prog w = .ok (.enter F args) w) ∧ ∀ w, Calls Tryz.prog F #[R] w fun e w' => ∃ b, e = .returned (.slice (some ⟨b, 0, none⟩) 2 2) ∧ w.heap.size ≤ b ∧ w'.heap[b]? = some (.cells #[.iface tp vp, .iface tq vq] 46 (0, 0)) ∧ Below w.heap.size w w') (w : World) :
    Calls Tryz.prog 103 #[.iface T V, .int .i32 r] w fun e w' => e = .returned (.tuple #[.nilIface, .bool false]) ∧ Below w.heap.size w w' := by
  obtain ⟨F, R, hm1, hn1, hc1, hp⟩ := hP
  have HP := Lib.hid hp
  clear hp
  go_enter Tryz.func103, Tryz.ntmps103
  go_wp2_with fail
  refine (HP.out _).mono ?_
  rintro e w1 ⟨b, rfl, hb, hh, bl⟩
  have c0 := cellOf2a hh
  clear hh
  go_wp2_with fail
  go_ret2
  exact ⟨rfl, bl⟩

/-- What is left by a search for a subterm. -/
def SubPost (o : Option Tm) (w : World) (e : Ending) (w' : World) : Prop :=
  ((∃ p, o = some p ∧ e = .returned (.tuple #[.iface (tyOf p) (pay p), .bool true])) ∨ (o = none ∧ e = .returned (.tuple #[.nilIface, .bool false]))) ∧ Below w.heap.size w w'
theorem SubPost.no {w : World} {e : Ending} {w' : World} {o : Option Tm} (ho : o = none) (h : e = .returned (.tuple #[.nilIface, .bool false]) ∧ Below w.heap.size w w') : SubPost o w e w' := ⟨.inr ⟨ho, h.1⟩, h.2⟩
theorem SubPost.yes {w : World} {e : Ending} {w' : World} {o : Option Tm} {p : Tm} (ho : o = some p) (h : e = .returned (.tuple #[.iface (tyOf p) (pay p), .bool true]) ∧ Below w.heap.size w w') : SubPost o w e w' := ⟨.inl ⟨p, ho, h.1⟩, h.2⟩
theorem partAt_any (t : Tm) (r : Nat) (hr : r ≤ 2147483647) (w : World) : Calls Tryz.prog 103 #[.iface (tyOf t) (pay t), .int .i32 (r : Int)] w (SubPost (stepN t r) w) := by
  have hf := (parts_fact t).pf
  rcases parts_cases t with h1 | ⟨p, h1⟩ | ⟨p, q, h1⟩
  · rw [h1] at hf
    have ho : stepN t r = none := by unfold stepN; rw [h1]; simp
    rcases Nat.lt_or_ge r 48 with hl | hl
    · exact (partAt_0n _ _ (r : Int) (by omega) (by omega) (by omega) ⟨hf⟩ w).mono fun _ _ h => SubPost.no ho h
    · exact (partAt_0 _ _ (r : Int) (by omega) (by omega) (by omega) ⟨hf⟩ w).mono fun _ _ h => SubPost.no ho h
  · rw [h1] at hf
    rcases Nat.lt_or_ge r 48 with hl | hl
    · have ho : stepN t r = none := by unfold stepN; rw [if_pos hl]
      exact (partAt_1n _ _ _ _ (r : Int) (by omega) (by omega) (by omega) hf w).mono fun _ _ h => SubPost.no ho h
    · rcases Nat.lt_or_ge 48 r with hg | hg
      · have ho : stepN t r = none := by unfold stepN; rw [h1, if_neg (by omega)]; simp; omega
        exact (partAt_1h _ _ _ _ (r : Int) (by omega) (by omega) (by omega) hf w).mono fun _ _ h => SubPost.no ho h
      · obtain rfl : r = 48 := by omega
        have ho : stepN t 48 = some p := by unfold stepN; rw [h1]; rfl
        exact (partAt_1 _ _ _ _ hf w).mono fun _ _ h => SubPost.yes ho h
  · rw [h1] at hf
    rcases Nat.lt_or_ge r 48 with hl | hl
    · have ho : stepN t r = none := by unfold stepN; rw [if_pos hl]
      exact (partAt_2n _ _ _ _ _ _ (r : Int) (by omega) (by omega) (by omega) hf w).mono fun _ _ h => SubPost.no ho h
    · rcases Nat.lt_or_ge 49 r with hg | hg
      · have ho : stepN t r = none := by unfold stepN; rw [h1, if_neg (by omega)]; simp; omega
        exact (partAt_2h _ _ _ _ _ _ (r : Int) (by omega) (by omega) (by omega) hf w).mono fun _ _ h => SubPost.no ho h
      · rcases Nat.lt_or_ge 48 r with hg2 | hg2
        · obtain rfl : r = 49 := by omega
          have ho : stepN t 49 = some q := by unfold stepN; rw [h1]; rfl
          exact (partAt_2b _ _ _ _ _ _ hf w).mono fun _ _ h => SubPost.yes ho h
        · obtain rfl : r = 48 := by omega
          have ho : stepN t 48 = some p := by unfold stepN; rw [h1]; rfl
          exact (partAt_2a _ _ _ _ _ _ hf w).mono fun _ _ h => SubPost.yes ho h

end Go.Proofs.YtajgncapgeiniaaGreat.T1

/- The subterm at a path in the specification, and that it is a smaller process. -/
namespace Go.Proofs.YtajgncapgeiniaaGreat.T1
open Go.RowKit
set_option maxRecDepth 100000

def AtPost (o : Option Tm) (w : World) (e : Ending) (w' : World) : Prop :=
  ((∃ p, o = some p ∧ e = .returned (.tuple #[.string (S p), .bool true])) ∨ (o = none ∧ e = .returned (.tuple #[.string ⟨#[]⟩, .bool false]))) ∧ Below w.heap.size w w'
theorem AtPost.no {w : World} {e : Ending} {w' : World} {o : Option Tm} (ho : o = none) (h : e = .returned (.tuple #[.string ⟨#[]⟩, .bool false]) ∧ Below w.heap.size w w') : AtPost o w e w' := ⟨.inr ⟨ho, h.1⟩, h.2⟩
theorem AtPost.yes {w : World} {e : Ending} {w' : World} {o : Option Tm} {p : Tm} (ho : o = some p) (h : e = .returned (.tuple #[.string (S p), .bool true]) ∧ Below w.heap.size w w') : AtPost o w e w' := ⟨.inl ⟨p, ho, h.1⟩, h.2⟩
theorem atP_fail (t : Tm) (path : ByteArray) (k : Nat) (h : k < path.size) (hs : stepN t (path[k]'h).toNat = none) : atP t (path.data.toList.drop k) = none := by
  rw [drop_at path k h]; simp only [atP, hs]
theorem atP_ok (t : Tm) {p : Tm} (path : ByteArray) (k : Nat) (h : k < path.size) (hs : stepN t (path[k]'h).toNat = some p) : atP t (path.data.toList.drop k) = atP p (path.data.toList.drop (k + 1)) := by
  rw [drop_at path k h]; simp only [atP, hs]
theorem sub_parts (t p : Tm) (h : p ∈ t.parts) : (∀ nm, t.ok nm = true → p.ok nm = true) ∧ p.pr.length ≤ t.pr.length := by
  cases t <;> simp [Tm.parts] at h
  case sum a b =>
    rcases h with rfl | rfl
    · exact ⟨fun nm h => by simp only [Tm.ok, Bool.and_eq_true] at h; exact h.1, by simp [Tm.pr]; omega⟩
    · exact ⟨fun nm h => by simp only [Tm.ok, Bool.and_eq_true] at h; exact h.2, by simp [Tm.pr]; omega⟩
  case par a b =>
    rcases h with rfl | rfl
    · exact ⟨fun nm h => by simp only [Tm.ok, Bool.and_eq_true] at h; exact h.1, by simp [Tm.pr]; omega⟩
    · exact ⟨fun nm h => by simp only [Tm.ok, Bool.and_eq_true] at h; exact h.2, by simp [Tm.pr]; omega⟩
  all_goals (subst h; refine ⟨fun nm h => ?_, ?_⟩)
  all_goals first
    | (simp only [Tm.ok, Bool.and_eq_true] at h; exact h.2)
    | (simp only [Tm.ok] at h; exact h)
    | (simp [Tm.pr]; try omega)
theorem stepN_mem (t p : Tm) (r : Nat) (h : stepN t r = some p) : p ∈ t.parts := by
  unfold stepN at h
  split at h
  · cases h
  · exact List.mem_of_getElem? h
theorem atP_sub (l : List UInt8) : ∀ (t p : Tm), atP t l = some p → (∀ nm, t.ok nm = true → p.ok nm = true) ∧ p.pr.length ≤ t.pr.length := by
  induction l with
  | nil => intro t p h; simp only [atP, Option.some.injEq] at h; subst h; exact ⟨fun _ h => h, Nat.le_refl _⟩
  | cons c l ih =>
    intro t p h
    simp only [atP] at h
    split at h
    · rename_i q hq
      have h1 := sub_parts t q (stepN_mem t q _ hq)
      have h2 := ih q p h
      exact ⟨fun nm h => h2.1 nm (h1.1 nm h), Nat.le_trans h2.2 h1.2⟩
    · cases h

set_option maxHeartbeats 4000000 in
theorem tmAt_any (t : Tm) (ho : t.ok nmE = true) (hl : t.pr.length ≤ 700) (path : ByteArray) (hps : path.size ≤ 100000000) (w : World) : Calls Tryz.prog 65 #[.string (S t), .string path] w (AtPost (atP t path.data.toList) w) := by
  obtain ⟨X, hX⟩ : ∃ X, X = S t := ⟨_, rfl⟩
  rw [← hX]
  have HX := Lib.hid hX
  have HO := Lib.hid ho
  have HLN := Lib.hid hl
  clear hX ho hl
  go_enter Tryz.func65, Tryz.ntmps65
  go_wp2_with fail
  go_loopw [0, 6] (fun v i wr => ∃ (t' : Tm) (X' : ByteArray) (k : Nat), v = .string X' ∧ Hid (X' = S t') ∧ i = .int .i64 (k : Int) ∧ k ≤ path.size ∧ Hid (t'.ok nmE = true) ∧ Hid (t'.pr.length ≤ 700) ∧ Below w.heap.size w wr ∧ Hid (atP t' (path.data.toList.drop k) = atP t path.data.toList)) (fun _ i _ => path.size - (intOf i).toNat)
  case atStart => exact ⟨t, X, 0, rfl, HX, rfl, Nat.zero_le _, HO, HLN, Below.refl _ _, by simp [Hid]⟩
  case round =>
    obtain ⟨t', X', k, rfl, HX', rfl, hk, hok, hln, hbw, H⟩ := hrel
    by_cases hlt : k < path.size
    · have hP : ∀ w, Calls Tryz.prog 53 #[.string X'] w (PartsS t'.parts w) := by rw [HX'.out]; exact tmParts_any t' hok.out hln.out
      have hby : (path[k]'hlt).toNat < 256 := (path[k]'hlt).toNat_lt
      rcases parts_cases t' with h1 | ⟨p, h1⟩ | ⟨p, q, h1⟩
      · rw [h1] at hP
        have HP := Lib.hid hP
        have hno : stepN t' (path[k]'hlt).toNat = none := by unfold stepN; rw [h1]; simp
        clear hP
        rcases Nat.lt_or_ge (path[k]'hlt).toNat 48 with hc | hc
        · clear h1
          have Hat : Hid (atP t path.data.toList = none) := H.out.symm.trans (atP_fail t' path k hlt hno)
          clear hno

          go_wp2_with fail
          refine (HP.out _).mono ?_
          rintro e w2 ⟨rfl, b2⟩
          have hbw3 := below_trans hbw b2 hbw.size
          go_wp2_with fail
          go_ret2
          exact AtPost.no Hat.out ⟨rfl, hbw3⟩
        · clear h1
          have Hat : Hid (atP t path.data.toList = none) := H.out.symm.trans (atP_fail t' path k hlt hno)
          clear hno

          go_wp2_with fail
          refine (HP.out _).mono ?_
          rintro e w2 ⟨rfl, b2⟩
          have hbw3 := below_trans hbw b2 hbw.size
          go_wp2_with fail
          go_ret2
          exact AtPost.no Hat.out ⟨rfl, hbw3⟩
      · rw [h1] at hP
        have HP := Lib.hid (show ∀ w, Calls Tryz.prog 53 #[.string X'] w fun e w' => ∃ b, e = .returned (.slice (some ⟨b, 0, none⟩) 1 1) ∧ w.heap.size ≤ b ∧ w'.heap[b]? = some (.cells #[.string (S p)] 9 (0, 0)) ∧ Below w.heap.size w w' from hP)
        clear hP
        rcases Nat.lt_or_ge (path[k]'hlt).toNat 48 with hc | hc
        · have hno : stepN t' (path[k]'hlt).toNat = none := by unfold stepN; rw [if_pos hc]
          clear h1
          have Hat : Hid (atP t path.data.toList = none) := H.out.symm.trans (atP_fail t' path k hlt hno)
          clear hno

          go_wp2_with fail
          refine (HP.out _).mono ?_
          rintro e w2 ⟨b, rfl, hbb, hh, b2⟩
          have c0 := cellOf1 hh
          clear hh
          have hbw3 := below_trans hbw b2 hbw.size
          go_wp2_with fail
          go_ret2
          exact AtPost.no Hat.out ⟨rfl, hbw3⟩
        · rcases Nat.lt_or_ge 48 (path[k]'hlt).toNat with hg | hg
          · have hno : stepN t' (path[k]'hlt).toNat = none := by unfold stepN; rw [h1, if_neg (by omega)]; simp; omega
            clear h1
            have Hat : Hid (atP t path.data.toList = none) := H.out.symm.trans (atP_fail t' path k hlt hno)
            clear hno

            go_wp2_with fail
            refine (HP.out _).mono ?_
            rintro e w2 ⟨b, rfl, hbb, hh, b2⟩
            have c0 := cellOf1 hh
            clear hh
            have hbw3 := below_trans hbw b2 hbw.size
            go_wp2_with fail
            go_ret2
            exact AtPost.no Hat.out ⟨rfl, hbw3⟩
          · have hyes : stepN t' (path[k]'hlt).toNat = some p := by unfold stepN; rw [h1, if_neg (by omega), show (path[k]'hlt).toNat - 48 = 0 by omega]; rfl
            have Hat : Hid (atP p (path.data.toList.drop (k + 1)) = atP t path.data.toList) := (atP_ok t' path k hlt hyes).symm.trans H.out
            have hp := sub_parts t' p (by rw [h1]; simp)
            have hok2 : Hid (p.ok nmE = true) := hp.1 nmE hok.out
            have hln2 : Hid (p.pr.length ≤ 700) := Nat.le_trans hp.2 hln.out
            obtain ⟨X2, hX2⟩ : ∃ X, X = S p := ⟨_, rfl⟩
            rw [← hX2] at HP
            clear h1
            have HX2 := Lib.hid hX2
            clear hyes hp hX2
            have hq : ((path[k]'hlt).toNat : Int) = 48 := by omega
            go_wp2_with fail
            refine (HP.out _).mono ?_
            rintro e w2 ⟨b, rfl, hbb, hh, b2⟩
            have c0 := cellOf1 hh
            clear hh
            have hbw3 := below_trans hbw b2 hbw.size
            go_wp2_with fail
            go_roundw
            case rel => exact ⟨p, X2, k + 1, rfl, HX2, by go_num, by omega, hok2, hln2, hbw3, Hat⟩
            case measure => simp [intOf]; omega
      · rw [h1] at hP
        have HP := Lib.hid (show ∀ w, Calls Tryz.prog 53 #[.string X'] w fun e w' => ∃ b, e = .returned (.slice (some ⟨b, 0, none⟩) 2 2) ∧ w.heap.size ≤ b ∧ w'.heap[b]? = some (.cells #[.string (S p), .string (S q)] 9 (0, 0)) ∧ Below w.heap.size w w' from hP)
        clear hP
        rcases Nat.lt_or_ge (path[k]'hlt).toNat 48 with hc | hc
        · have hno : stepN t' (path[k]'hlt).toNat = none := by unfold stepN; rw [if_pos hc]
          clear h1
          have Hat : Hid (atP t path.data.toList = none) := H.out.symm.trans (atP_fail t' path k hlt hno)
          clear hno

          go_wp2_with fail
          refine (HP.out _).mono ?_
          rintro e w2 ⟨b, rfl, hbb, hh, b2⟩
          have c0 := cellOf2a hh
          clear hh
          have hbw3 := below_trans hbw b2 hbw.size
          go_wp2_with fail
          go_ret2
          exact AtPost.no Hat.out ⟨rfl, hbw3⟩
        · rcases Nat.lt_or_ge 49 (path[k]'hlt).toNat with hg | hg
          · have hno : stepN t' (path[k]'hlt).toNat = none := by unfold stepN; rw [h1, if_neg (by omega)]; simp; omega
            clear h1
            have Hat : Hid (atP t path.data.toList = none) := H.out.symm.trans (atP_fail t' path k hlt hno)
            clear hno

            go_wp2_with fail
            refine (HP.out _).mono ?_
            rintro e w2 ⟨b, rfl, hbb, hh, b2⟩
            have c0 := cellOf2a hh
            clear hh
            have hbw3 := below_trans hbw b2 hbw.size
            go_wp2_with fail
            go_ret2
            exact AtPost.no Hat.out ⟨rfl, hbw3⟩
          · rcases Nat.lt_or_ge 48 (path[k]'hlt).toNat with hg2 | hg2
            · have hyes : stepN t' (path[k]'hlt).toNat = some q := by unfold stepN; rw [h1, if_neg (by omega), show (path[k]'hlt).toNat - 48 = 1 by omega]; rfl
              have Hat : Hid (atP q (path.data.toList.drop (k + 1)) = atP t path.data.toList) := (atP_ok t' path k hlt hyes).symm.trans H.out
              have hq := sub_parts t' q (by rw [h1]; simp)
              have hok2 : Hid (q.ok nmE = true) := hq.1 nmE hok.out
              have hln2 : Hid (q.pr.length ≤ 700) := Nat.le_trans hq.2 hln.out
              obtain ⟨X2, hX2⟩ : ∃ X, X = S q := ⟨_, rfl⟩
              rw [← hX2] at HP
              clear h1
              have HX2 := Lib.hid hX2
              clear hyes hq hX2
              have hq : ((path[k]'hlt).toNat : Int) = 49 := by omega
              go_wp2_with fail
              refine (HP.out _).mono ?_
              rintro e w2 ⟨b, rfl, hbb, hh, b2⟩
              have c0 := cellOf2b hh
              clear hh
              have hbw3 := below_trans hbw b2 hbw.size
              go_wp2_with fail
              go_roundw
              case rel => exact ⟨q, X2, k + 1, rfl, HX2, by go_num, by omega, hok2, hln2, hbw3, Hat⟩
              case measure => simp [intOf]; omega
            · have hyes : stepN t' (path[k]'hlt).toNat = some p := by unfold stepN; rw [h1, if_neg (by omega), show (path[k]'hlt).toNat - 48 = 0 by omega]; rfl
              have Hat : Hid (atP p (path.data.toList.drop (k + 1)) = atP t path.data.toList) := (atP_ok t' path k hlt hyes).symm.trans H.out
              have hp := sub_parts t' p (by rw [h1]; simp)
              have hok2 : Hid (p.ok nmE = true) := hp.1 nmE hok.out
              have hln2 : Hid (p.pr.length ≤ 700) := Nat.le_trans hp.2 hln.out
              obtain ⟨X2, hX2⟩ : ∃ X, X = S p := ⟨_, rfl⟩
              rw [← hX2] at HP
              clear h1
              have HX2 := Lib.hid hX2
              clear hyes hp hX2
              have hq : ((path[k]'hlt).toNat : Int) = 48 := by omega
              go_wp2_with fail
              refine (HP.out _).mono ?_
              rintro e w2 ⟨b, rfl, hbb, hh, b2⟩
              have c0 := cellOf2a hh
              clear hh
              have hbw3 := below_trans hbw b2 hbw.size
              go_wp2_with fail
              go_roundw
              case rel => exact ⟨p, X2, k + 1, rfl, HX2, by go_num, by omega, hok2, hln2, hbw3, Hat⟩
              case measure => simp [intOf]; omega
    · have Hat : Hid (atP t path.data.toList = some t') := by
        have := H.out
        rw [List.drop_of_length_le (by simp; omega)] at this
        exact this.symm
      go_wp2_with fail
      go_ret2
      exact AtPost.yes Hat.out ⟨by rw [← HX'.out]; rfl, hbw⟩

end Go.Proofs.YtajgncapgeiniaaGreat.T1

/- The subterm at a path, in the program. -/
namespace Go.Proofs.YtajgncapgeiniaaGreat.T1
open Go.RowKit
set_option maxRecDepth 100000

/-- One step of the path, whatever the rune. -/
theorem atP_step (t : Tm) (path : ByteArray) (pos : Nat) (hp : pos < path.size) :
    (∀ p, stepN t (Utf8.decode path pos).1 = some p → (Utf8.decode path pos).2 = 1 ∧ atP t (path.data.toList.drop pos) = atP p (path.data.toList.drop (pos + 1))) ∧
    (stepN t (Utf8.decode path pos).1 = none → atP t (path.data.toList.drop pos) = none) := by
  rw [drop_at path pos hp]
  rcases Nat.lt_or_ge (path[pos]'hp).toNat 128 with h | h
  · rw [decode_ascii path pos hp h]
    refine ⟨fun p hs => ⟨rfl, ?_⟩, fun hs => ?_⟩
    · simp only [] at hs; simp only [atP, hs]
    · simp only [] at hs; simp only [atP, hs]
  · refine ⟨fun p hs => ?_, fun _ => ?_⟩
    · rw [step_high t _ (decode_high path pos hp h).1] at hs; cases hs
    · simp only [atP, step_high t _ h]

set_option maxHeartbeats 2000000 in
theorem subtermAt_any (t : Tm) (path : ByteArray) (w : World) : Calls Tryz.prog 59 #[.iface (tyOf t) (pay t), .string path] w (SubPost (atP t path.data.toList) w) := by
  obtain ⟨T, hT⟩ : ∃ T, T = tyOf t := ⟨_, rfl⟩
  obtain ⟨V, hV⟩ : ∃ V, V = pay t := ⟨_, rfl⟩
  rw [← hT, ← hV]
  have HTV : Hid (T = tyOf t ∧ V = pay t) := ⟨hT, hV⟩
  clear hT hV
  go_enter Tryz.func59, Tryz.ntmps59
  go_wp2_with fail
  go_loopw [0] (fun v wr => ∃ (t' : Tm) (T' : TypeId) (V' : Value) (pos : Nat), v = .iface T' V' ∧ Hid (T' = tyOf t' ∧ V' = pay t') ∧ Hid (wr.heap[w.heap.size]? = some (.stringIter path pos)) ∧ pos ≤ path.size ∧ Below w.heap.size w wr ∧ Hid (atP t' (path.data.toList.drop pos) = atP t path.data.toList)) (fun _ wr => path.size - wr.iterPos w.heap.size)
  case atStart => exact ⟨t, T, V, 0, rfl, HTV, World.iter_heap w path 0, Nat.zero_le _, (Below.refl _ _).alloc (Nat.le_refl _) _, by simp [Hid]⟩
  case round =>
    obtain ⟨t', T', V', pos, rfl, HT', hit, hple, hbw, H⟩ := hrel
    have hpos0 := Lib.hid (iterPos_of' hit.out)
    by_cases hp : pos < path.size
    · obtain ⟨r, hr⟩ : ∃ r, r = (Utf8.decode path pos).1 := ⟨_, rfl⟩
      obtain ⟨d, hd⟩ : ∃ d, d = (Utf8.decode path pos).2 := ⟨_, rfl⟩
      have hst := atP_step t' path pos hp
      have hle := decode_le path pos
      have hnx : ∀ ty, (Instr.next (.pointer (some ⟨w.heap.size, 0, none⟩)) true ty).run Tryz.prog wr = .ok (.tuple #[.bool true, .int .i64 (pos : Int), .int .i32 (r : Int)]) (wr.iterAt w.heap.size path (pos + d)) := fun ty => by
        rw [hr, hd]; exact Lib.run_next_any_at wr w.heap.size path pos ty hit.out hp
      rw [← hr] at hle
      rw [← hr, ← hd] at hst
      have hit2 := Lib.hid (Lib.iterAt_heap wr w.heap.size path pos (pos + d) hit.out)
      have hbw2 := Lib.below_iterAt hbw (k := w.heap.size) (Nat.le_refl _) path (pos + d)
      have HST := Lib.hid hst
      have HPA : Hid (∀ w, Calls Tryz.prog 103 #[.iface T' V', .int .i32 (r : Int)] w (SubPost (stepN t' r) w)) := by
        rw [HT'.out.1, HT'.out.2]; exact fun w => partAt_any t' r hle w
      clear hr hd hst hle
      obtain ⟨W1, hW1⟩ : ∃ W1, W1 = wr.iterAt w.heap.size path (pos + d) := ⟨_, rfl⟩
      rw [← hW1] at hnx hit2 hbw2
      clear hW1
      go_wp2_with fail
      refine (HPA.out _).mono ?_
      rintro e w2 ⟨(⟨p, h1, rfl⟩ | ⟨h1, rfl⟩), b2⟩
      · obtain ⟨hd1, hat⟩ := HST.out.1 p h1
        have Hat : Hid (atP p (path.data.toList.drop (pos + 1)) = atP t path.data.toList) := hat.symm.trans H.out
        have hit3 := Lib.hid (iter_below hit2.out b2)
        rw [hd1] at hit3
        have hbw3 := below_trans hbw2 b2 hbw2.size
        obtain ⟨T2, hT2⟩ : ∃ T, T = tyOf p := ⟨_, rfl⟩
        obtain ⟨V2, hV2⟩ : ∃ V, V = pay p := ⟨_, rfl⟩
        rw [← hT2, ← hV2]
        have HT2 : Hid (T2 = tyOf p ∧ V2 = pay p) := ⟨hT2, hV2⟩
        clear hT2 hV2 h1 hd1 hat hnx
        go_wp2_with fail
        go_roundw
        case rel => exact ⟨p, T2, V2, pos + 1, rfl, HT2, hit3, by omega, hbw3, Hat⟩
        case measure => rw [iterPos_of' hit3.out, hpos0.out]; omega
      · have Hat : Hid (atP t path.data.toList = none) := H.out.symm.trans (HST.out.2 h1)
        have hbw3 := below_trans hbw2 b2 hbw2.size
        clear h1 hnx
        go_wp2_with fail
        go_ret2
        exact SubPost.no Hat.out ⟨rfl, hbw3⟩
    · have hnx : ∀ ty, (Instr.next (.pointer (some ⟨w.heap.size, 0, none⟩)) true ty).run Tryz.prog wr = .ok (.tuple #[.bool false]) wr := fun ty => Lib.run_next_end_at wr w.heap.size path pos ty hit.out hp
      have Hat : Hid (atP t path.data.toList = some t') := by
        have := H.out
        rw [List.drop_of_length_le (by simp; omega)] at this
        exact this.symm
      go_wp2_with fail
      go_ret2
      exact SubPost.yes Hat.out ⟨by rw [← HT'.out.1, ← HT'.out.2]; rfl, hbw⟩

end Go.Proofs.YtajgncapgeiniaaGreat.T1
