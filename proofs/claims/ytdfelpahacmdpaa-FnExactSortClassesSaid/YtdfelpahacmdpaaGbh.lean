/- Texts of the proof, put together: Vm. No conditions. -/
import Derived.Test.YtdfelpahacmdpaaGaw
import Derived.Test.YtdfelpahacmdpaaGbg

/- Sorts in the program: the walk over a process. -/
namespace Go.Proofs.Ytdfelpahacmdpaa.T1
open Go.RowKit Go.Maps
set_option maxRecDepth 100000
set_option linter.unusedVariables false
set_option linter.unusedSimpArgs false

/-- What the walk has around it: the pointer to the sorts, the walk itself, the map of names. -/
structure Env6 (w : World) (b bx bw bm n : Nat) (L : UInt8 → Prop) (g : UInt8 → Nat) : Prop where
  x : ∃ T, w.heap[bx]? = some (.cells #[.pointer (some ⟨b, 0, none⟩)] T (0, 0))
  v : ∃ T, w.heap[bw]? = some (.cells #[.func (.func 81) #[] #[.pointer (some ⟨bx, 0, none⟩), .pointer (some ⟨bw, 0, none⟩)]] T (0, 0))
  m : MapAt w bm n L g
  nx : bx ≠ b
  nv : bw ≠ b
  nm : bm ≠ b
section
variable {w w' : World} {b bx bw bm n : Nat} {L : UInt8 → Prop} {g : UInt8 → Nat}
theorem Env6.only (h : Env6 w b bx bw bm n L g) (k : Only b w w') : Env6 w' b bx bw bm n L g := by
  obtain ⟨T, hx⟩ := h.x
  obtain ⟨T2, hv⟩ := h.v
  exact ⟨⟨T, (k.block _ (lt_of_block hx) h.nx).trans hx⟩, ⟨T2, (k.block _ (lt_of_block hv) h.nv).trans hv⟩, h.m.of (k.block _ h.m.lt h.nm), h.nx, h.nv, h.nm⟩
theorem Env6.below (h : Env6 w b bx bw bm n L g) (k : Below w.heap.size w w') : Env6 w' b bx bw bm n L g := h.only ((Only.refl b w).below k)
theorem Env6.cx (h : Env6 w b bx bw bm n L g) : w.cell? ⟨bx, 0, none⟩ = some (.pointer (some ⟨b, 0, none⟩)) := by obtain ⟨T, h⟩ := h.x; exact cellOf1 h
theorem Env6.cv (h : Env6 w b bx bw bm n L g) : w.cell? ⟨bw, 0, none⟩ = some (.func (.func 81) #[] #[.pointer (some ⟨bx, 0, none⟩), .pointer (some ⟨bw, 0, none⟩)]) := by obtain ⟨T, h⟩ := h.v; exact cellOf1 h
end
theorem cf_walk (args : Array Value) (w : World) : (callFunc 81 args).run Try.prog w = .ok (.enter 81 args) w := by kernel_rfl

set_option maxHeartbeats 1000000 in
theorem way0 (b bx bw bm n U N : Nat) (L : UInt8 → Prop) (g : UInt8 → Nat) (l : List (Bool × Nat × Nat)) (T : TypeId) (V : Value) (w : World) (hs : ∀ w, (Instr.typeAssert (.iface T V) 72 109 true).run Try.prog w = .ok (.tuple #[.agg #[.int .u8 0, .int .u8 0, .nilIface], .bool false]) w) (hr : ∀ w, (Instr.typeAssert (.iface T V) 72 111 true).run Try.prog w = .ok (.tuple #[.agg #[.int .u8 0, .int .u8 0, .nilIface], .bool false]) w) (hm : ∀ w, (Instr.typeAssert (.iface T V) 72 113 true).run Try.prog w = .ok (.tuple #[.agg #[.int .u8 0, .int .u8 0, .nilIface], .bool false]) w) (HB : ∀ w, Calls Try.prog 82 #[.iface T V] w fun e w' => e = .returned (.tuple #[.int .u8 0, .bool false]) ∧ Below w.heap.size w w') (hP : ∃ (F : FuncId) (R : Value), (∀ n w, (method (n + 1) T V "loop.example/g01175/impl.parts").run Try.prog w = .ok (F, R) w) ∧ (∀ n w, (nilAhead (n + 1) T V "loop.example/g01175/impl.parts").run Try.prog w = .ok (some false) w) ∧ (∀ args w, (callFunc F args).run Try.prog w = .ok (.enter F args) w) ∧ ∀ w, Calls Try.prog F #[R] w (PartsPost [] w)) (he : Env6 w b bx bw bm n L g) (hs : Sta w b U N l) : Calls Try.prog 81 #[.iface T V, .map (some bm), .pointer (some ⟨bx, 0, none⟩), .pointer (some ⟨bw, 0, none⟩)] w fun e w' => e = .returned (.tuple #[]) ∧ Sta w' b U N l ∧ Only b w w' := by
  obtain ⟨F, R, hm, hn, hc, hp⟩ := hP
  have HP := Lib.hid hp
  have HB' := Lib.hid HB
  have HE := Lib.hid he
  have HS := Lib.hid hs
  clear hp HB he hs
  go_enter Try.func81, Try.ntmps81
  go_wp2_with fail
  refine (HB'.out _).mono ?_
  rintro e w1 ⟨rfl, b1⟩
  go_wp2_with fail
  refine (HP.out _).mono ?_
  rintro e w2 ⟨rfl, b2⟩
  have bl2 := below_trans b1 b2 b1.size
  go_wp2_with fail
  refine wp_loop_rounds 1 ?_
  rw [rounds_succ]
  go_wp2_with fail
  go_end0
  exact ⟨rfl, HS.out.below bl2, (Only.refl _ _).below bl2⟩

set_option maxHeartbeats 1000000 in
theorem way1 (b bx bw bm n U N : Nat) (L : UInt8 → Prop) (g : UInt8 → Nat) (l : List (Bool × Nat × Nat)) (T : TypeId) (V : Value) (tp : TypeId) (vp : Value) (N' : Nat) (l' : List (Bool × Nat × Nat)) (w : World) (hs : ∀ w, (Instr.typeAssert (.iface T V) 72 109 true).run Try.prog w = .ok (.tuple #[.agg #[.int .u8 0, .int .u8 0, .nilIface], .bool false]) w) (hr : ∀ w, (Instr.typeAssert (.iface T V) 72 111 true).run Try.prog w = .ok (.tuple #[.agg #[.int .u8 0, .int .u8 0, .nilIface], .bool false]) w) (hm : ∀ w, (Instr.typeAssert (.iface T V) 72 113 true).run Try.prog w = .ok (.tuple #[.agg #[.int .u8 0, .int .u8 0, .nilIface], .bool false]) w) (HB : ∀ w, Calls Try.prog 82 #[.iface T V] w fun e w' => e = .returned (.tuple #[.int .u8 0, .bool false]) ∧ Below w.heap.size w w') (hP : ∃ (F : FuncId) (R : Value), (∀ n w, (method (n + 1) T V "loop.example/g01175/impl.parts").run Try.prog w = .ok (F, R) w) ∧ (∀ n w, (nilAhead (n + 1) T V "loop.example/g01175/impl.parts").run Try.prog w = .ok (some false) w) ∧ (∀ args w, (callFunc F args).run Try.prog w = .ok (.enter F args) w) ∧ ∀ w, Calls Try.prog F #[R] w fun e w' => ∃ b, e = .returned (.slice (some ⟨b, 0, none⟩) 1 1) ∧ w.heap.size ≤ b ∧ w'.heap[b]? = some (.cells #[.iface tp vp] 72 (0, 0)) ∧ Below w.heap.size w w') (he : Env6 w b bx bw bm n L g) (hs : Sta w b U N l)
    (ih : ∀ w1, Env6 w1 b bx bw bm n L g → Sta w1 b U N l → Calls Try.prog 81 #[.iface tp vp, .map (some bm), .pointer (some ⟨bx, 0, none⟩), .pointer (some ⟨bw, 0, none⟩)] w1 fun e w' => e = .returned (.tuple #[]) ∧ Sta w' b U N' l' ∧ Only b w1 w') : Calls Try.prog 81 #[.iface T V, .map (some bm), .pointer (some ⟨bx, 0, none⟩), .pointer (some ⟨bw, 0, none⟩)] w fun e w' => e = .returned (.tuple #[]) ∧ Sta w' b U N' l' ∧ Only b w w' := by
  obtain ⟨F, R, hm, hn, hc, hp⟩ := hP
  have HP := Lib.hid hp
  have HB' := Lib.hid HB
  have HE := Lib.hid he
  have HS := Lib.hid hs
  have IH := Lib.hid ih
  clear hp HB he hs ih
  go_enter Try.func81, Try.ntmps81
  go_wp2_with fail
  refine (HB'.out _).mono ?_
  rintro e w1 ⟨rfl, b1⟩
  have E1 := Lib.hid (HE.out.below b1)
  have S1 := Lib.hid (HS.out.below b1)
  have o1 := (Only.refl b w).below b1
  go_wp2_with fail
  refine (HP.out _).mono ?_
  rintro e w8 ⟨bp, rfl, hb, hh, b8⟩
  have E8 := Lib.hid (E1.out.below b8)
  have S8 := Lib.hid (S1.out.below b8)
  have o8 := o1.below b8
  have c0 := cellOf1 hh
  have cv := E8.out.cv
  clear hh
  go_wp2_with fail
  refine wp_loop_rounds 2 ?_
  rw [rounds_succ]
  go_wp2_with fail
  refine (IH.out _ E8.out S8.out).mono ?_
  rintro e w9 ⟨rfl, s9, o9⟩
  have S9 := Lib.hid s9
  clear c0 cv s9
  go_wp2_with fail
  rw [rounds_succ]
  go_wp2_with fail
  go_end0
  exact ⟨rfl, S9.out, o8.trans o9⟩

set_option maxHeartbeats 1000000 in
theorem way2 (b bx bw bm n U N : Nat) (L : UInt8 → Prop) (g : UInt8 → Nat) (l : List (Bool × Nat × Nat)) (T : TypeId) (V : Value) (tp : TypeId) (vp : Value) (tq : TypeId) (vq : Value) (N1 N' : Nat) (l1 l' : List (Bool × Nat × Nat)) (w : World) (hs : ∀ w, (Instr.typeAssert (.iface T V) 72 109 true).run Try.prog w = .ok (.tuple #[.agg #[.int .u8 0, .int .u8 0, .nilIface], .bool false]) w) (hr : ∀ w, (Instr.typeAssert (.iface T V) 72 111 true).run Try.prog w = .ok (.tuple #[.agg #[.int .u8 0, .int .u8 0, .nilIface], .bool false]) w) (hm : ∀ w, (Instr.typeAssert (.iface T V) 72 113 true).run Try.prog w = .ok (.tuple #[.agg #[.int .u8 0, .int .u8 0, .nilIface], .bool false]) w) (HB : ∀ w, Calls Try.prog 82 #[.iface T V] w fun e w' => e = .returned (.tuple #[.int .u8 0, .bool false]) ∧ Below w.heap.size w w') (hP : ∃ (F : FuncId) (R : Value), (∀ n w, (method (n + 1) T V "loop.example/g01175/impl.parts").run Try.prog w = .ok (F, R) w) ∧ (∀ n w, (nilAhead (n + 1) T V "loop.example/g01175/impl.parts").run Try.prog w = .ok (some false) w) ∧ (∀ args w, (callFunc F args).run Try.prog w = .ok (.enter F args) w) ∧ ∀ w, Calls Try.prog F #[R] w fun e w' => ∃ b, e = .returned (.slice (some ⟨b, 0, none⟩) 2 2) ∧ w.heap.size ≤ b ∧ w'.heap[b]? = some (.cells #[.iface tp vp, .iface tq vq] 72 (0, 0)) ∧ Below w.heap.size w w') (he : Env6 w b bx bw bm n L g) (hs : Sta w b U N l)
    (ih : ∀ w1, Env6 w1 b bx bw bm n L g → Sta w1 b U N l → Calls Try.prog 81 #[.iface tp vp, .map (some bm), .pointer (some ⟨bx, 0, none⟩), .pointer (some ⟨bw, 0, none⟩)] w1 fun e w' => e = .returned (.tuple #[]) ∧ Sta w' b U N1 l1 ∧ Only b w1 w')
    (ih2 : ∀ w1, Env6 w1 b bx bw bm n L g → Sta w1 b U N1 l1 → Calls Try.prog 81 #[.iface tq vq, .map (some bm), .pointer (some ⟨bx, 0, none⟩), .pointer (some ⟨bw, 0, none⟩)] w1 fun e w' => e = .returned (.tuple #[]) ∧ Sta w' b U N' l' ∧ Only b w1 w') : Calls Try.prog 81 #[.iface T V, .map (some bm), .pointer (some ⟨bx, 0, none⟩), .pointer (some ⟨bw, 0, none⟩)] w fun e w' => e = .returned (.tuple #[]) ∧ Sta w' b U N' l' ∧ Only b w w' := by
  obtain ⟨F, R, hm, hn, hc, hp⟩ := hP
  have HP := Lib.hid hp
  have HB' := Lib.hid HB
  have HE := Lib.hid he
  have HS := Lib.hid hs
  have IH := Lib.hid ih
  have IH2 := Lib.hid ih2
  clear hp HB he hs ih ih2
  go_enter Try.func81, Try.ntmps81
  go_wp2_with fail
  refine (HB'.out _).mono ?_
  rintro e w1 ⟨rfl, b1⟩
  have E1 := Lib.hid (HE.out.below b1)
  have S1 := Lib.hid (HS.out.below b1)
  have o1 := (Only.refl b w).below b1
  go_wp2_with fail
  refine (HP.out _).mono ?_
  rintro e w8 ⟨bp, rfl, hb, hh, b8⟩
  have E8 := Lib.hid (E1.out.below b8)
  have S8 := Lib.hid (S1.out.below b8)
  have o8 := o1.below b8
  have hbb : b < w1.heap.size := S1.out.lt
  have c0 := cellOf2a hh
  have cv := E8.out.cv
  have Hh := Lib.hid hh
  clear hh
  go_wp2_with fail
  refine wp_loop_rounds 3 ?_
  rw [rounds_succ]
  go_wp2_with fail
  refine (IH.out _ E8.out S8.out).mono ?_
  rintro e w9 ⟨rfl, s9, o9⟩
  have S9 := Lib.hid s9
  have E9 := Lib.hid (E8.out.only o9)
  have h9 := (o9.block bp (lt_of_block Hh.out) (by omega)).trans Hh.out
  have c1 := cellOf2b h9
  have cv9 := E9.out.cv
  clear c0 cv s9 h9
  go_wp2_with fail
  rw [rounds_succ]
  go_wp2_with fail
  refine (IH2.out _ E9.out S9.out).mono ?_
  rintro e w10 ⟨rfl, s10, o10⟩
  have S10 := Lib.hid s10
  clear c1 cv9 s10
  go_wp2_with fail
  rw [rounds_succ]
  go_wp2_with fail
  go_end0
  exact ⟨rfl, S10.out, (o8.trans o9).trans o10⟩

set_option maxHeartbeats 1000000 in
theorem way_snd (b bx bw bm n U N : Nat) (L : UInt8 → Prop) (g : UInt8 → Nat) (l : List (Bool × Nat × Nat)) (T : TypeId) (V : Value) (a c : UInt8) (hT : T = 109) (tp : TypeId) (vp : Value) (hV : V = .agg #[.int .u8 (a.toNat : Int), .int .u8 (c.toNat : Int), .iface tp vp]) (N' : Nat) (l' : List (Bool × Nat × Nat)) (w : World) (HB : ∀ w, Calls Try.prog 82 #[.iface T V] w fun e w' => e = .returned (.tuple #[.int .u8 0, .bool false]) ∧ Below w.heap.size w w') (hP : ∃ (F : FuncId) (R : Value), (∀ n w, (method (n + 1) T V "loop.example/g01175/impl.parts").run Try.prog w = .ok (F, R) w) ∧ (∀ n w, (nilAhead (n + 1) T V "loop.example/g01175/impl.parts").run Try.prog w = .ok (some false) w) ∧ (∀ args w, (callFunc F args).run Try.prog w = .ok (.enter F args) w) ∧ ∀ w, Calls Try.prog F #[R] w fun e w' => ∃ b, e = .returned (.slice (some ⟨b, 0, none⟩) 1 1) ∧ w.heap.size ≤ b ∧ w'.heap[b]? = some (.cells #[.iface tp vp] 72 (0, 0)) ∧ Below w.heap.size w w') (he : Env6 w b bx bw bm n L g) (hs : Sta w b U N l)
    (ha : L a ∧ g a < N) (hc0 : L c ∧ g c < N) (ih : ∀ w1, Env6 w1 b bx bw bm n L g → Sta w1 b U N (l ++ [(true, g a, g c)]) → Calls Try.prog 81 #[.iface tp vp, .map (some bm), .pointer (some ⟨bx, 0, none⟩), .pointer (some ⟨bw, 0, none⟩)] w1 fun e w' => e = .returned (.tuple #[]) ∧ Sta w' b U N' l' ∧ Only b w1 w') : Calls Try.prog 81 #[.iface 109 (.agg #[.int .u8 (a.toNat : Int), .int .u8 (c.toNat : Int), .iface tp vp]), .map (some bm), .pointer (some ⟨bx, 0, none⟩), .pointer (some ⟨bw, 0, none⟩)] w fun e w' => e = .returned (.tuple #[]) ∧ Sta w' b U N' l' ∧ Only b w w' := by
  subst hT hV
  obtain ⟨F, R, hm, hn, hc, hp⟩ := hP
  have HP := Lib.hid hp
  have HB' := Lib.hid HB
  have HE := Lib.hid he
  have HS := Lib.hid hs
  have IH := Lib.hid ih
  clear hp HB he hs ih
  go_enter Try.func81, Try.ntmps81
  go_wp2_with fail
  refine (HB'.out _).mono ?_
  rintro e w1 ⟨rfl, b1⟩
  have E1 := Lib.hid (HE.out.below b1)
  have S1 := Lib.hid (HS.out.below b1)
  have o1 := (Only.refl b w).below b1
  have E2 := Lib.hid (fun o => E1.out.below ((Below.refl w1.heap.size w1).alloc (Nat.le_refl _) o))
  have S2 := Lib.hid (fun o => S1.out.below ((Below.refl w1.heap.size w1).alloc (Nat.le_refl _) o))
  have o2 := fun o => o1.below ((Below.refl w1.heap.size w1).alloc (Nat.le_refl _) o)
  have cx := fun o => (E2.out o).cx
  have l1 := fun o => (E2.out o).m.look ha.1
  have l2 := fun o => (E2.out o).m.look hc0.1
  obtain ⟨ka, hka⟩ : ∃ k, k = g a := ⟨_, rfl⟩
  obtain ⟨kc, hkc⟩ : ∃ k, k = g c := ⟨_, rfl⟩
  have HC := Lib.hid (fun o => sta_carry (S2.out o) ha.2 hc0.2)
  rw [← hka] at l1 HC IH
  rw [← hkc] at l2 HC IH
  clear hka hkc
  go_wp2_with fail
  refine (HC.out _).mono ?_
  rintro e w3 ⟨rfl, s3, o3⟩
  have E3 := Lib.hid ((E2.out _).only o3)
  have S3 := Lib.hid s3
  have o4 := (o2 _).trans o3
  clear cx l1 l2 s3
  go_wp2_with fail
  refine (HP.out _).mono ?_
  rintro e w8 ⟨bp, rfl, hb, hh, b8⟩
  have E8 := Lib.hid (E3.out.below b8)
  have S8 := Lib.hid (S3.out.below b8)
  have o8 := o4.below b8
  have c0 := cellOf1 hh
  have cv := E8.out.cv
  clear hh
  go_wp2_with fail
  refine wp_loop_rounds 2 ?_
  rw [rounds_succ]
  go_wp2_with fail
  refine (IH.out _ E8.out S8.out).mono ?_
  rintro e w9 ⟨rfl, s9, o9⟩
  have S9 := Lib.hid s9
  clear c0 cv s9
  go_wp2_with fail
  rw [rounds_succ]
  go_wp2_with fail
  go_end0
  exact ⟨rfl, S9.out, o8.trans o9⟩

set_option maxHeartbeats 1000000 in
theorem way_mat (b bx bw bm n U N : Nat) (L : UInt8 → Prop) (g : UInt8 → Nat) (l : List (Bool × Nat × Nat)) (T : TypeId) (V : Value) (a c : UInt8) (hT : T = 113) (tp : TypeId) (vp : Value) (hV : V = .agg #[.int .u8 (a.toNat : Int), .int .u8 (c.toNat : Int), .iface tp vp]) (N' : Nat) (l' : List (Bool × Nat × Nat)) (w : World) (HB : ∀ w, Calls Try.prog 82 #[.iface T V] w fun e w' => e = .returned (.tuple #[.int .u8 0, .bool false]) ∧ Below w.heap.size w w') (hP : ∃ (F : FuncId) (R : Value), (∀ n w, (method (n + 1) T V "loop.example/g01175/impl.parts").run Try.prog w = .ok (F, R) w) ∧ (∀ n w, (nilAhead (n + 1) T V "loop.example/g01175/impl.parts").run Try.prog w = .ok (some false) w) ∧ (∀ args w, (callFunc F args).run Try.prog w = .ok (.enter F args) w) ∧ ∀ w, Calls Try.prog F #[R] w fun e w' => ∃ b, e = .returned (.slice (some ⟨b, 0, none⟩) 1 1) ∧ w.heap.size ≤ b ∧ w'.heap[b]? = some (.cells #[.iface tp vp] 72 (0, 0)) ∧ Below w.heap.size w w') (he : Env6 w b bx bw bm n L g) (hs : Sta w b U N l)
    (ha : L a ∧ g a < N) (hc0 : L c ∧ g c < N) (ih : ∀ w1, Env6 w1 b bx bw bm n L g → Sta w1 b U N (l ++ [(false, g a, g c)]) → Calls Try.prog 81 #[.iface tp vp, .map (some bm), .pointer (some ⟨bx, 0, none⟩), .pointer (some ⟨bw, 0, none⟩)] w1 fun e w' => e = .returned (.tuple #[]) ∧ Sta w' b U N' l' ∧ Only b w1 w') : Calls Try.prog 81 #[.iface 113 (.agg #[.int .u8 (a.toNat : Int), .int .u8 (c.toNat : Int), .iface tp vp]), .map (some bm), .pointer (some ⟨bx, 0, none⟩), .pointer (some ⟨bw, 0, none⟩)] w fun e w' => e = .returned (.tuple #[]) ∧ Sta w' b U N' l' ∧ Only b w w' := by
  subst hT hV
  obtain ⟨F, R, hm, hn, hc, hp⟩ := hP
  have HP := Lib.hid hp
  have HB' := Lib.hid HB
  have HE := Lib.hid he
  have HS := Lib.hid hs
  have IH := Lib.hid ih
  clear hp HB he hs ih
  go_enter Try.func81, Try.ntmps81
  go_wp2_with fail
  refine (HB'.out _).mono ?_
  rintro e w1 ⟨rfl, b1⟩
  have E1 := Lib.hid (HE.out.below b1)
  have S1 := Lib.hid (HS.out.below b1)
  have o1 := (Only.refl b w).below b1
  have E2 := Lib.hid (fun o => E1.out.below ((Below.refl w1.heap.size w1).alloc (Nat.le_refl _) o))
  have S2 := Lib.hid (fun o => S1.out.below ((Below.refl w1.heap.size w1).alloc (Nat.le_refl _) o))
  have o2 := fun o => o1.below ((Below.refl w1.heap.size w1).alloc (Nat.le_refl _) o)
  have cx := fun o => (E2.out o).cx
  have l1 := fun o => (E2.out o).m.look ha.1
  have l2 := fun o => (E2.out o).m.look hc0.1
  obtain ⟨ka, hka⟩ : ∃ k, k = g a := ⟨_, rfl⟩
  obtain ⟨kc, hkc⟩ : ∃ k, k = g c := ⟨_, rfl⟩
  have HC := Lib.hid (fun o => sta_join (S2.out o) ha.2 hc0.2)
  rw [← hka] at l1 HC IH
  rw [← hkc] at l2 HC IH
  clear hka hkc
  go_wp2_with fail
  refine (HC.out _).mono ?_
  rintro e w3 ⟨rfl, s3, o3⟩
  have E3 := Lib.hid ((E2.out _).only o3)
  have S3 := Lib.hid s3
  have o4 := (o2 _).trans o3
  clear cx l1 l2 s3
  go_wp2_with fail
  refine (HP.out _).mono ?_
  rintro e w8 ⟨bp, rfl, hb, hh, b8⟩
  have E8 := Lib.hid (E3.out.below b8)
  have S8 := Lib.hid (S3.out.below b8)
  have o8 := o4.below b8
  have c0 := cellOf1 hh
  have cv := E8.out.cv
  clear hh
  go_wp2_with fail
  refine wp_loop_rounds 2 ?_
  rw [rounds_succ]
  go_wp2_with fail
  refine (IH.out _ E8.out S8.out).mono ?_
  rintro e w9 ⟨rfl, s9, o9⟩
  have S9 := Lib.hid s9
  clear c0 cv s9
  go_wp2_with fail
  rw [rounds_succ]
  go_wp2_with fail
  go_end0
  exact ⟨rfl, S9.out, o8.trans o9⟩

set_option maxHeartbeats 1000000 in
theorem way_own (b bx bw bm n U N : Nat) (L : UInt8 → Prop) (g : UInt8 → Nat) (l : List (Bool × Nat × Nat)) (T : TypeId) (V : Value) (x : UInt8) (tp : TypeId) (vp : Value) (N' : Nat) (l' : List (Bool × Nat × Nat)) (w : World) (hs : ∀ w, (Instr.typeAssert (.iface T V) 72 109 true).run Try.prog w = .ok (.tuple #[.agg #[.int .u8 0, .int .u8 0, .nilIface], .bool false]) w) (hr : ∀ w, (Instr.typeAssert (.iface T V) 72 111 true).run Try.prog w = .ok (.tuple #[.agg #[.int .u8 0, .int .u8 0, .nilIface], .bool false]) w) (hm : ∀ w, (Instr.typeAssert (.iface T V) 72 113 true).run Try.prog w = .ok (.tuple #[.agg #[.int .u8 0, .int .u8 0, .nilIface], .bool false]) w) (HB : ∀ w, Calls Try.prog 82 #[.iface T V] w fun e w' => e = .returned (.tuple #[.int .u8 (x.toNat : Int), .bool true]) ∧ Below w.heap.size w w') (hP : ∃ (F : FuncId) (R : Value), (∀ n w, (method (n + 1) T V "loop.example/g01175/impl.parts").run Try.prog w = .ok (F, R) w) ∧ (∀ n w, (nilAhead (n + 1) T V "loop.example/g01175/impl.parts").run Try.prog w = .ok (some false) w) ∧ (∀ args w, (callFunc F args).run Try.prog w = .ok (.enter F args) w) ∧ ∀ w, Calls Try.prog F #[R] w fun e w' => ∃ b, e = .returned (.slice (some ⟨b, 0, none⟩) 1 1) ∧ w.heap.size ≤ b ∧ w'.heap[b]? = some (.cells #[.iface tp vp] 72 (0, 0)) ∧ Below w.heap.size w w') (he : Env6 w b bx bw bm n L g) (hs : Sta w b U N l)
    (hN : N < 86) (hnn : n ≤ 100000) (ih : ∀ b2 w1, Env6 w1 b bx bw b2 (n + 1) (fun y => y = x ∨ L y) (upd6 g x N) → Sta w1 b U (N + 1) l → Calls Try.prog 81 #[.iface tp vp, .map (some b2), .pointer (some ⟨bx, 0, none⟩), .pointer (some ⟨bw, 0, none⟩)] w1 fun e w' => e = .returned (.tuple #[]) ∧ Sta w' b U N' l' ∧ Only b w1 w') : Calls Try.prog 81 #[.iface T V, .map (some bm), .pointer (some ⟨bx, 0, none⟩), .pointer (some ⟨bw, 0, none⟩)] w fun e w' => e = .returned (.tuple #[]) ∧ Sta w' b U N' l' ∧ Only b w w' := by
  obtain ⟨F, R, hm, hn, hc, hp⟩ := hP
  have HP := Lib.hid hp
  have HB' := Lib.hid HB
  have HE := Lib.hid he
  have HS := Lib.hid hs
  have IH := Lib.hid ih
  clear hp HB he hs ih
  go_enter Try.func81, Try.ntmps81
  go_wp2_with fail
  refine (HB'.out _).mono ?_
  rintro e w1 ⟨rfl, b1⟩
  have E1 := Lib.hid (HE.out.below b1)
  have S1 := Lib.hid (HS.out.below b1)
  have o1 := (Only.refl b w).below b1
  have HCL := Lib.hid (clone_any E1.out.m)
  go_wp2_with fail
  refine (HCL.out).mono ?_
  rintro e w2 ⟨⟨b2, rfl, hb2, m2⟩, bl2⟩
  have M2 := Lib.hid m2
  have E2 := Lib.hid (E1.out.below bl2)
  have S2 := Lib.hid (S1.out.below bl2)
  have o2 := o1.below bl2
  have cx2 := E2.out.cx
  have HAD := Lib.hid (sta_add S2.out hN)
  have hbb : b < w1.heap.size := S1.out.lt
  clear m2
  go_wp2_with fail
  refine (HAD.out).mono ?_
  rintro e w3 ⟨rfl, s3, o3⟩
  have S3 := Lib.hid s3
  have E3 := Lib.hid (E2.out.only o3)
  have o4 := o2.trans o3
  have M3 := Lib.hid (M2.out.of (o3.block b2 M2.out.lt (by omega)))
  obtain ⟨w4, hu, m4, u4⟩ := M3.out.upd x N hnn (by omega)
  have E4 := Lib.hid (show Env6 w4 b bx bw b2 (n + 1) (fun y => y = x ∨ L y) (upd6 g x N) by
    obtain ⟨T1, hx1⟩ := E3.out.x
    obtain ⟨T2, hx2⟩ := E3.out.v
    obtain ⟨T3, hx3⟩ := E1.out.x
    obtain ⟨T4, hx4⟩ := E1.out.v
    have := lt_of_block hx3
    have := lt_of_block hx4
    exact ⟨⟨T1, (u4.block _ (lt_of_block hx1) (by omega)).trans hx1⟩, ⟨T2, (u4.block _ (lt_of_block hx2) (by omega)).trans hx2⟩, m4, HE.out.nx, HE.out.nv, by omega⟩)
  have EM := Lib.hid (show MapAt w4 bm n L g from (E3.out.m).of (u4.block _ E3.out.m.lt (by have := E1.out.m.lt; omega)))
  have S4 := Lib.hid (show Sta w4 b U (N + 1) l from S3.out.of (u4.block b S3.out.lt (by omega)))
  have o5 : Only b w w4 := ⟨u4.os.trans o4.os, u4.tape.trans o4.tape, u4.output.trans o4.output, Nat.le_trans o4.size u4.size, fun i hi hib => (u4.block i (by have := o4.size; omega) (by have := o1.size; omega)).trans (o4.block i hi hib)⟩
  clear cx2 s3 m4
  go_wp2_with fail
  refine (HP.out _).mono ?_
  rintro e w8 ⟨bp, rfl, hb, hh, b8⟩
  have E8 := Lib.hid (E4.out.below b8)
  have S8 := Lib.hid (S4.out.below b8)
  have o8 := o5.below b8
  have c0 := cellOf1 hh
  have cv := E8.out.cv
  clear hh
  go_wp2_with fail
  refine wp_loop_rounds 2 ?_
  rw [rounds_succ]
  go_wp2_with fail
  refine (IH.out _ _ E8.out S8.out).mono ?_
  rintro e w9 ⟨rfl, s9, o9⟩
  have S9 := Lib.hid s9
  clear c0 cv s9
  go_wp2_with fail
  rw [rounds_succ]
  go_wp2_with fail
  go_end0
  exact ⟨rfl, S9.out, o8.trans o9⟩

set_option maxHeartbeats 1000000 in
theorem way_rcv (b bx bw bm n U N : Nat) (L : UInt8 → Prop) (g : UInt8 → Nat) (l : List (Bool × Nat × Nat)) (T : TypeId) (V : Value) (a x : UInt8) (hT : T = 111) (tp : TypeId) (vp : Value) (hV : V = .agg #[.int .u8 (a.toNat : Int), .int .u8 (x.toNat : Int), .iface tp vp]) (N' : Nat) (l' : List (Bool × Nat × Nat)) (w : World) (HB : ∀ w, Calls Try.prog 82 #[.iface T V] w fun e w' => e = .returned (.tuple #[.int .u8 (x.toNat : Int), .bool true]) ∧ Below w.heap.size w w') (hP : ∃ (F : FuncId) (R : Value), (∀ n w, (method (n + 1) T V "loop.example/g01175/impl.parts").run Try.prog w = .ok (F, R) w) ∧ (∀ n w, (nilAhead (n + 1) T V "loop.example/g01175/impl.parts").run Try.prog w = .ok (some false) w) ∧ (∀ args w, (callFunc F args).run Try.prog w = .ok (.enter F args) w) ∧ ∀ w, Calls Try.prog F #[R] w fun e w' => ∃ b, e = .returned (.slice (some ⟨b, 0, none⟩) 1 1) ∧ w.heap.size ≤ b ∧ w'.heap[b]? = some (.cells #[.iface tp vp] 72 (0, 0)) ∧ Below w.heap.size w w') (he : Env6 w b bx bw bm n L g) (hs : Sta w b U N l)
    (ha : L a ∧ g a < N) (hN : N < 86) (hnn : n ≤ 100000) (ih : ∀ b2 w1, Env6 w1 b bx bw b2 (n + 1) (fun y => y = x ∨ L y) (upd6 g x N) → Sta w1 b U (N + 1) (l ++ [(true, g a, N)]) → Calls Try.prog 81 #[.iface tp vp, .map (some b2), .pointer (some ⟨bx, 0, none⟩), .pointer (some ⟨bw, 0, none⟩)] w1 fun e w' => e = .returned (.tuple #[]) ∧ Sta w' b U N' l' ∧ Only b w1 w') : Calls Try.prog 81 #[.iface 111 (.agg #[.int .u8 (a.toNat : Int), .int .u8 (x.toNat : Int), .iface tp vp]), .map (some bm), .pointer (some ⟨bx, 0, none⟩), .pointer (some ⟨bw, 0, none⟩)] w fun e w' => e = .returned (.tuple #[]) ∧ Sta w' b U N' l' ∧ Only b w w' := by
  subst hT hV
  obtain ⟨F, R, hm, hn, hc, hp⟩ := hP
  have HP := Lib.hid hp
  have HB' := Lib.hid HB
  have HE := Lib.hid he
  have HS := Lib.hid hs
  have IH := Lib.hid ih
  clear hp HB he hs ih
  go_enter Try.func81, Try.ntmps81
  go_wp2_with fail
  refine (HB'.out _).mono ?_
  rintro e w1 ⟨rfl, b1⟩
  have E1 := Lib.hid (HE.out.below b1)
  have S1 := Lib.hid (HS.out.below b1)
  have o1 := (Only.refl b w).below b1
  have HCL := Lib.hid (clone_any E1.out.m)
  go_wp2_with fail
  refine (HCL.out).mono ?_
  rintro e w2 ⟨⟨b2, rfl, hb2, m2⟩, bl2⟩
  have M2 := Lib.hid m2
  have E2 := Lib.hid (E1.out.below bl2)
  have S2 := Lib.hid (S1.out.below bl2)
  have o2 := o1.below bl2
  have cx2 := E2.out.cx
  have HAD := Lib.hid (sta_add S2.out hN)
  have hbb : b < w1.heap.size := S1.out.lt
  clear m2
  go_wp2_with fail
  refine (HAD.out).mono ?_
  rintro e w3 ⟨rfl, s3, o3⟩
  have S3 := Lib.hid s3
  have E3 := Lib.hid (E2.out.only o3)
  have o4 := o2.trans o3
  have M3 := Lib.hid (M2.out.of (o3.block b2 M2.out.lt (by omega)))
  obtain ⟨w4, hu, m4, u4⟩ := M3.out.upd x N hnn (by omega)
  have E4 := Lib.hid (show Env6 w4 b bx bw b2 (n + 1) (fun y => y = x ∨ L y) (upd6 g x N) by
    obtain ⟨T1, hx1⟩ := E3.out.x
    obtain ⟨T2, hx2⟩ := E3.out.v
    obtain ⟨T3, hx3⟩ := E1.out.x
    obtain ⟨T4, hx4⟩ := E1.out.v
    have := lt_of_block hx3
    have := lt_of_block hx4
    exact ⟨⟨T1, (u4.block _ (lt_of_block hx1) (by omega)).trans hx1⟩, ⟨T2, (u4.block _ (lt_of_block hx2) (by omega)).trans hx2⟩, m4, HE.out.nx, HE.out.nv, by omega⟩)
  have EM := Lib.hid (show MapAt w4 bm n L g from (E3.out.m).of (u4.block _ E3.out.m.lt (by have := E1.out.m.lt; omega)))
  have S4 := Lib.hid (show Sta w4 b U (N + 1) l from S3.out.of (u4.block b S3.out.lt (by omega)))
  have o5 : Only b w w4 := ⟨u4.os.trans o4.os, u4.tape.trans o4.tape, u4.output.trans o4.output, Nat.le_trans o4.size u4.size, fun i hi hib => (u4.block i (by have := o4.size; omega) (by have := o1.size; omega)).trans (o4.block i hi hib)⟩
  clear cx2 s3 m4
  have E5 := Lib.hid (fun o => E4.out.below ((Below.refl w4.heap.size w4).alloc (Nat.le_refl _) o))
  have S5 := Lib.hid (fun o => S4.out.below ((Below.refl w4.heap.size w4).alloc (Nat.le_refl _) o))
  have o6 := fun o => o5.below ((Below.refl w4.heap.size w4).alloc (Nat.le_refl _) o)
  have cx := fun o => (E5.out o).cx
  have l1 := fun o => (EM.out.of (((Below.refl w4.heap.size w4).alloc (Nat.le_refl _) o).block _ EM.out.lt)).look ha.1
  have l2 := fun o => (E5.out o).m.look (c := x) (.inl rfl)
  rw [show upd6 g x N x = N by unfold upd6; rw [if_pos rfl]] at l2
  have HC := Lib.hid (fun o => sta_carry (S5.out o) (i := g a) (j := N) (by have := ha.2; omega) (by omega))
  obtain ⟨ka, hka⟩ : ∃ k, k = g a := ⟨_, rfl⟩
  rw [← hka] at l1 HC IH
  clear hka
  go_wp2_with fail
  refine (HC.out _).mono ?_
  rintro e w6 ⟨rfl, s6, p6⟩
  have E6 := Lib.hid ((E5.out _).only p6)
  have S6' := Lib.hid s6
  have o7 := (o6 _).trans p6
  clear cx l1 l2 s6 hu
  go_wp2_with fail
  refine (HP.out _).mono ?_
  rintro e w8 ⟨bp, rfl, hb, hh, b8⟩
  have E8 := Lib.hid (E6.out.below b8)
  have S8 := Lib.hid (S6'.out.below b8)
  have o8 := o7.below b8
  have c0 := cellOf1 hh
  have cv := E8.out.cv
  clear hh
  go_wp2_with fail
  refine wp_loop_rounds 2 ?_
  rw [rounds_succ]
  go_wp2_with fail
  refine (IH.out _ _ E8.out S8.out).mono ?_
  rintro e w9 ⟨rfl, s9, o9⟩
  have S9 := Lib.hid s9
  clear c0 cv s9
  go_wp2_with fail
  rw [rounds_succ]
  go_wp2_with fail
  go_end0
  exact ⟨rfl, S9.out, o8.trans o9⟩

def WalkOk (b bx bw U : Nat) (t : Tm) : Prop := ∀ (bm n : Nat) (L : UInt8 → Prop) (g : UInt8 → Nat) (l : List (Bool × Nat × Nat)) (N : Nat) (w : World), Env6 w b bx bw bm n L g → Sta w b U N l → (∀ x ∈ t.free, L x ∧ g x < N) → N + t.size ≤ 86 → n + t.size ≤ 1000 →
    Calls Try.prog 81 #[.iface (tyOf t) (pay t), .map (some bm), .pointer (some ⟨bx, 0, none⟩), .pointer (some ⟨bw, 0, none⟩)] w fun e w' => e = .returned (.tuple #[]) ∧ Sta w' b U (ask6 t g N).2 (l ++ (ask6 t g N).1) ∧ Only b w w'
theorem walk_ok (b bx bw U : Nat) : ∀ t : Tm, WalkOk b bx bw U t := by
  intro t
  induction t with
  | nil =>
    intro bm n L g l N w he hs hf h1 h2
    simp only [ask6, List.append_nil]
    exact way0 _ _ _ _ _ _ _ _ _ _ _ _ w (ta_nothing_send _) (ta_nothing_receive _) (ta_nothing_match _) (binderOf_any .nil) (parts_fact .nil).pf he hs
  | tau p ih =>
    intro bm n L g l N w he hs hf h1 h2
    simp only [Tm.size] at h1 h2
    exact way1 _ _ _ _ _ _ _ _ _ _ _ _ _ _ _ _ w (ta_silent_send _) (ta_silent_receive _) (ta_silent_match _) (binderOf_any (.tau p)) (parts_fact (.tau p)).pf he hs (fun w1 e1 s1 => ih bm n L g l N w1 e1 s1 (fun x hx => hf x ((mf_tau _ _).2 hx)) (by omega) (by omega))
  | rep p ih =>
    intro bm n L g l N w he hs hf h1 h2
    simp only [Tm.size] at h1 h2
    exact way1 _ _ _ _ _ _ _ _ _ _ _ _ _ _ _ _ w (ta_repeat_send _) (ta_repeat_receive _) (ta_repeat_match _) (binderOf_any (.rep p)) (parts_fact (.rep p)).pf he hs (fun w1 e1 s1 => ih bm n L g l N w1 e1 s1 (fun x hx => hf x ((mf_rep _ _).2 hx)) (by omega) (by omega))
  | sum p q ih ih2 =>
    intro bm n L g l N w he hs hf h1 h2
    simp only [Tm.size] at h1 h2
    simp only [ask6]
    have hq := ask6_next p g N
    exact way2 _ _ _ _ _ _ _ _ _ _ _ _ _ _ _ _ _ _ _ _ w (ta_choice_send _) (ta_choice_receive _) (ta_choice_match _) (binderOf_any (.sum p q)) (parts_fact (.sum p q)).pf he hs (fun w1 e1 s1 => ih bm n L g l N w1 e1 s1 (fun x hx => hf x ((mf_sum _ _ _).2 (.inl hx))) (by omega) (by omega))
      (fun w1 e1 s1 => by
        have := ih2 bm n L g (l ++ (ask6 p g N).1) (ask6 p g N).2 w1 e1 s1 (fun x hx => ⟨(hf x ((mf_sum _ _ _).2 (.inr hx))).1, Nat.lt_of_lt_of_le (hf x ((mf_sum _ _ _).2 (.inr hx))).2 hq.1⟩) (by omega) (by omega)
        rw [List.append_assoc] at this
        exact this)
  | par p q ih ih2 =>
    intro bm n L g l N w he hs hf h1 h2
    simp only [Tm.size] at h1 h2
    simp only [ask6]
    have hq := ask6_next p g N
    exact way2 _ _ _ _ _ _ _ _ _ _ _ _ _ _ _ _ _ _ _ _ w (ta_beside_send _) (ta_beside_receive _) (ta_beside_match _) (binderOf_any (.par p q)) (parts_fact (.par p q)).pf he hs (fun w1 e1 s1 => ih bm n L g l N w1 e1 s1 (fun x hx => hf x ((mf_par _ _ _).2 (.inl hx))) (by omega) (by omega))
      (fun w1 e1 s1 => by
        have := ih2 bm n L g (l ++ (ask6 p g N).1) (ask6 p g N).2 w1 e1 s1 (fun x hx => ⟨(hf x ((mf_par _ _ _).2 (.inr hx))).1, Nat.lt_of_lt_of_le (hf x ((mf_par _ _ _).2 (.inr hx))).2 hq.1⟩) (by omega) (by omega)
        rw [List.append_assoc] at this
        exact this)
  | snd a c p ih =>
    intro bm n L g l N w he hs hf h1 h2
    simp only [Tm.size] at h1 h2
    simp only [ask6]
    exact way_snd _ _ _ _ _ _ _ _ _ _ _ _ a c rfl _ _ rfl _ _ w (binderOf_any (.snd a c p)) (parts_fact (.snd a c p)).pf he hs (hf a ((mf_snd _ _ _ _).2 (.inl rfl))) (hf c ((mf_snd _ _ _ _).2 (.inr (.inl rfl))))
      (fun w1 e1 s1 => by
        have := ih bm n L g _ N w1 e1 s1 (fun x hx => hf x ((mf_snd _ _ _ _).2 (.inr (.inr hx)))) (by omega) (by omega)
        rw [List.append_assoc] at this
        exact this)
  | mat a c p ih =>
    intro bm n L g l N w he hs hf h1 h2
    simp only [Tm.size] at h1 h2
    simp only [ask6]
    exact way_mat _ _ _ _ _ _ _ _ _ _ _ _ a c rfl _ _ rfl _ _ w (binderOf_any (.mat a c p)) (parts_fact (.mat a c p)).pf he hs (hf a ((mf_mat _ _ _ _).2 (.inl rfl))) (hf c ((mf_mat _ _ _ _).2 (.inr (.inl rfl))))
      (fun w1 e1 s1 => by
        have := ih bm n L g _ N w1 e1 s1 (fun x hx => hf x ((mf_mat _ _ _ _).2 (.inr (.inr hx)))) (by omega) (by omega)
        rw [List.append_assoc] at this
        exact this)
  | own x p ih =>
    intro bm n L g l N w he hs hf h1 h2
    simp only [Tm.size] at h1 h2
    simp only [ask6]
    have hp := size_pos p
    exact way_own _ _ _ _ _ _ _ _ _ _ _ _ x _ _ _ _ w (ta_own_send _) (ta_own_receive _) (ta_own_match _) (binderOf_any (.own x p)) (parts_fact (.own x p)).pf he hs (by omega) (by omega)
      (fun b2 w1 e1 s1 => ih b2 _ _ _ l (N + 1) w1 e1 s1 (fun z hz => by
        unfold upd6
        by_cases e : z = x
        · subst e; exact ⟨.inl rfl, by rw [if_pos rfl]; omega⟩
        · have := hf z ((mf_own _ _ _).2 ⟨hz, e⟩)
          exact ⟨.inr this.1, by rw [if_neg e]; omega⟩) (by omega) (by omega))
  | rcv a x p ih =>
    intro bm n L g l N w he hs hf h1 h2
    simp only [Tm.size] at h1 h2
    simp only [ask6]
    have hp := size_pos p
    exact way_rcv _ _ _ _ _ _ _ _ _ _ _ _ a x rfl _ _ rfl _ _ w (binderOf_any (.rcv a x p)) (parts_fact (.rcv a x p)).pf he hs (hf a ((mf_rcv _ _ _ _).2 (.inl rfl))) (by omega) (by omega)
      (fun b2 w1 e1 s1 => by
        have := ih b2 _ _ _ _ (N + 1) w1 e1 s1 (fun z hz => by
        unfold upd6
        by_cases e : z = x
        · subst e; exact ⟨.inl rfl, by rw [if_pos rfl]; omega⟩
        · have := hf z ((mf_rcv _ _ _ _).2 (.inr ⟨hz, e⟩))
          exact ⟨.inr this.1, by rw [if_neg e]; omega⟩) (by omega) (by omega)
        rw [List.append_assoc] at this
        exact this)

end Go.Proofs.Ytdfelpahacmdpaa.T1
