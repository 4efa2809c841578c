/- Texts of the proof, put together: Vm, Ui, Vn. No conditions. -/
import Derived.Test.YtlhmjcfnfefliaaGreatHao
import Derived.Test.YtlhmjcfnfefliaaGreatHau
import Derived.Test.YtlhmjcfnfefliaaGreatHaw
import Derived.Test.YtlhmjcfnfefliaaGreatHay
import Derived.Laws.Tables

/- Sorts in the program: the walk over a process. -/
namespace Go.Proofs.YtlhmjcfnfefliaaGreat.T1
open Go.RowKit Go.Maps
set_option maxRecDepth 100000
set_option linter.unusedVariables false
set_option linter.unusedSimpArgs false

/-- What the walk has around it: the pointer to the sorts, the walk itself, the map of names. -/
structure Env6 (w : World) (b bx bw bm n : Nat) (L : UInt8 → Prop) (g : UInt8 → Nat) : Prop where
  x : ∃ T, w.heap[bx]? = some (.cells #[.pointer (some ⟨b, 0, none⟩)] T (0, 0))
  v : ∃ T, w.heap[bw]? = some (.cells #[.func (.func 80) #[] #[.pointer (some ⟨bx, 0, none⟩), .pointer (some ⟨bw, 0, none⟩)]] T (0, 0))
  m : MapAt w bm n L g
  nx : bx ≠ b
  nv : bw ≠ b
  nm : bm ≠ b
section
variable {w w' : World} {b bx bw bm n : Nat} {L : UInt8 → Prop} {g : UInt8 → Nat}
theorem Env6.only (h : Env6 w b bx bw bm n L g) (k : Only b w w') : Env6 w' b bx bw bm n L g := by
  obtain ⟨T, hx⟩ := h.x
  obtain ⟨T2, hv⟩ := h.v
  exact ⟨⟨T, (k.block _ (lt_of_block hx) h.nx).trans hx⟩, ⟨T2, (k.block _ (lt_of_block hv) h.nv).trans hv⟩, h.m.of (k.block _ h.m.lt h.nm), h.nx, h.nv, h.nm⟩
theorem Env6.below (h : Env6 w b bx bw bm n L g) (k : Below w.heap.size w w') : Env6 w' b bx bw bm n L g := h.only ((Only.refl b w).below k)
theorem Env6.cx (h : Env6 w b bx bw bm n L g) : w.cell? ⟨bx, 0, none⟩ = some (.pointer (some ⟨b, 0, none⟩)) := by obtain ⟨T, h⟩ := h.x; exact cellOf1 h
theorem Env6.cv (h : Env6 w b bx bw bm n L g) : w.cell? ⟨bw, 0, none⟩ = some (.func (.func 80) #[] #[.pointer (some ⟨bx, 0, none⟩), .pointer (some ⟨bw, 0, none⟩)]) := by obtain ⟨T, h⟩ := h.v; exact cellOf1 h
end
set_option maxHeartbeats 1000000 in
theorem way0 (b bx bw bm n U N : Nat) (L : UInt8 → Prop) (g : UInt8 → Nat) (l : List (Bool × Nat × Nat)) (T : TypeId) (V : Value) (w : World) (hs : ∀ w, (Instr.typeAssert (.iface T V) 67 118 true).run Tryz.prog w = .ok (.tuple #[.agg #[.int .u8 0, .int .u8 0, .nilIface], .bool false]) w) (hr : ∀ w, (Instr.typeAssert (.iface T V) 67 121 true).run Tryz.prog w = .ok (.tuple #[.agg #[.int .u8 0, .int .u8 0, .nilIface], .bool false]) w) (hm : ∀ w, (Instr.typeAssert (.iface T V) 67 123 true).run Tryz.prog w = .ok (.tuple #[.agg #[.int .u8 0, .int .u8 0, .nilIface], .bool false]) w) (HB : ∀ w, Calls Tryz.prog 81 #[.iface T V] w fun e w' => e = .returned (.tuple #[.int .u8 0, .bool false]) ∧ Below w.heap.size w w') (hP : ∃ (F : FuncId) (R : Value), (∀ n w, (method (n + 1) T V "loop.example/g01175/impl.parts").run Tryz.prog w = .ok (F, R) w) ∧ (∀ n w, (nilAhead (n + 1) T V "loop.example/g01175/impl.parts").run Tryz.prog w = .ok (some false) w) ∧ (∀ args w, (callFunc F args).run Tryz.prog w = .ok (.enter F args) w) ∧ ∀ w, Calls Tryz.prog F #[R] w (PartsPost [] w)) (he : Env6 w b bx bw bm n L g) (hs : Sta w b U N l) : Calls Tryz.prog 80 #[.iface T V, .map (some bm), .pointer (some ⟨bx, 0, none⟩), .pointer (some ⟨bw, 0, none⟩)] w fun e w' => e = .returned (.tuple #[]) ∧ Sta w' b U N l ∧ Only b w w' := by
  obtain ⟨F, R, hm, hn, hc, hp⟩ := hP
  have HP := Lib.hid hp
  have HB' := Lib.hid HB
  have HE := Lib.hid he
  have HS := Lib.hid hs
  clear hp HB he hs
  go_enter Tryz.func80, Tryz.ntmps80
  go_wp2_with fail
  refine (HB'.out _).mono ?_
  rintro e w1 ⟨rfl, b1⟩
  go_wp2_with fail
  refine (HP.out _).mono ?_
  rintro e w2 ⟨rfl, b2⟩
  have bl2 := below_trans b1 b2 b1.size
  go_wp2_with fail
  refine wp_loop_rounds 1 ?_
  rw [rounds_succ]
  go_wp2_with fail
  go_end0
  exact ⟨rfl, HS.out.below bl2, (Only.refl _ _).below bl2⟩

set_option maxHeartbeats 1000000 in
theorem way1 (b bx bw bm n U N : Nat) (L : UInt8 → Prop) (g : UInt8 → Nat) (l : List (Bool × Nat × Nat)) (T : TypeId) (V : Value) (tp : TypeId) (vp : Value) (N' : Nat) (l' : List (Bool × Nat × Nat)) (w : World) (hs : ∀ w, (Instr.typeAssert (.iface T V) 67 118 true).run Tryz.prog w = .ok (.tuple #[.agg #[.int .u8 0, .int .u8 0, .nilIface], .bool false]) w) (hr : ∀ w, (Instr.typeAssert (.iface T V) 67 121 true).run Tryz.prog w = .ok (.tuple #[.agg #[.int .u8 0, .int .u8 0, .nilIface], .bool false]) w) (hm : ∀ w, (Instr.typeAssert (.iface T V) 67 123 true).run Tryz.prog w = .ok (.tuple #[.agg #[.int .u8 0, .int .u8 0, .nilIface], .bool false]) w) (HB : ∀ w, Calls Tryz.prog 81 #[.iface T V] w fun e w' => e = .returned (.tuple #[.int .u8 0, .bool false]) ∧ Below w.heap.size w w') (hP : ∃ (F : FuncId) (R : Value), (∀ n w, (method (n + 1) T V "loop.example/g01175/impl.parts").run Tryz.prog w = .ok (F, R) w) ∧ (∀ n w, (nilAhead (n + 1) T V "loop.example/g01175/impl.parts").run Tryz.prog w = .ok (some false) w) ∧ (∀ args w, (callFunc F args).run Tryz.prog w = .ok (.enter F args) w) ∧ ∀ w, Calls Tryz.prog F #[R] w fun e w' => ∃ b, e = .returned (.slice (some ⟨b, 0, none⟩) 1 1) ∧ w.heap.size ≤ b ∧ w'.heap[b]? = some (.cells #[.iface tp vp] 67 (0, 0)) ∧ Below w.heap.size w w') (he : Env6 w b bx bw bm n L g) (hs : Sta w b U N l)
    (ih : ∀ w1, Env6 w1 b bx bw bm n L g → Sta w1 b U N l → Calls Tryz.prog 80 #[.iface tp vp, .map (some bm), .pointer (some ⟨bx, 0, none⟩), .pointer (some ⟨bw, 0, none⟩)] w1 fun e w' => e = .returned (.tuple #[]) ∧ Sta w' b U N' l' ∧ Only b w1 w') : Calls Tryz.prog 80 #[.iface T V, .map (some bm), .pointer (some ⟨bx, 0, none⟩), .pointer (some ⟨bw, 0, none⟩)] w fun e w' => e = .returned (.tuple #[]) ∧ Sta w' b U N' l' ∧ Only b w w' := by
  obtain ⟨F, R, hm, hn, hc, hp⟩ := hP
  have HP := Lib.hid hp
  have HB' := Lib.hid HB
  have HE := Lib.hid he
  have HS := Lib.hid hs
  have IH := Lib.hid ih
  clear hp HB he hs ih
  go_enter Tryz.func80, Tryz.ntmps80
  go_wp2_with fail
  refine (HB'.out _).mono ?_
  rintro e w1 ⟨rfl, b1⟩
  have E1 := Lib.hid (HE.out.below b1)
  have S1 := Lib.hid (HS.out.below b1)
  have o1 := (Only.refl b w).below b1
  go_wp2_with fail
  refine (HP.out _).mono ?_
  rintro e w8 ⟨bp, rfl, hb, hh, b8⟩
  have E8 := Lib.hid (E1.out.below b8)
  have S8 := Lib.hid (S1.out.below b8)
  have o8 := o1.below b8
  have c0 := cellOf1 hh
  have cv := E8.out.cv
  clear hh
  go_wp2_with fail
  refine wp_loop_rounds 2 ?_
  rw [rounds_succ]
  go_wp2_with fail
  refine (IH.out _ E8.out S8.out).mono ?_
  rintro e w9 ⟨rfl, s9, o9⟩
  have S9 := Lib.hid s9
  clear c0 cv s9
  go_wp2_with fail
  rw [rounds_succ]
  go_wp2_with fail
  go_end0
  exact ⟨rfl, S9.out, o8.trans o9⟩

set_option maxHeartbeats 1000000 in
theorem way2 (b bx bw bm n U N : Nat) (L : UInt8 → Prop) (g : UInt8 → Nat) (l : List (Bool × Nat × Nat)) (T : TypeId) (V : Value) (tp : TypeId) (vp : Value) (tq : TypeId) (vq : Value) (N1 N' : Nat) (l1 l' : List (Bool × Nat × Nat)) (w : World) (hs : ∀ w, (Instr.typeAssert (.iface T V) 67 118 true).run Tryz.prog w = .ok (.tuple #[.agg #[.int .u8 0, .int .u8 0, .nilIface], .bool false]) w) (hr : ∀ w, (Instr.typeAssert (.iface T V) 67 121 true).run Tryz.prog w = .ok (.tuple #[.agg #[.int .u8 0, .int .u8 0, .nilIface], .bool false]) w) (hm : ∀ w, (Instr.typeAssert (.iface T V) 67 123 true).run Tryz.prog w = .ok (.tuple #[.agg #[.int .u8 0, .int .u8 0, .nilIface], .bool false]) w) (HB : ∀ w, Calls Tryz.prog 81 #[.iface T V] w fun e w' => e = .returned (.tuple #[.int .u8 0, .bool false]) ∧ Below w.heap.size w w') (hP : ∃ (F : FuncId) (R : Value), (∀ n w, (method (n + 1) T V "loop.example/g01175/impl.parts").run Tryz.prog w = .ok (F, R) w) ∧ (∀ n w, (nilAhead (n + 1) T V "loop.example/g01175/impl.parts").run Tryz.prog w = .ok (some false) w) ∧ (∀ args w, (callFunc F args).run Tryz.prog w = .ok (.enter F args) w) ∧ ∀ w, Calls Tryz.prog F #[R] w fun e w' => ∃ b, e = .returned (.slice (some ⟨b, 0, none⟩) 2 2) ∧ w.heap.size ≤ b ∧ w'.heap[b]? = some (.cells #[.iface tp vp, .iface tq vq] 67 (0, 0)) ∧ Below w.heap.size w w') (he : Env6 w b bx bw bm n L g) (hs : Sta w b U N l)
    (ih : ∀ w1, Env6 w1 b bx bw bm n L g → Sta w1 b U N l → Calls Tryz.prog 80 #[.iface tp vp, .map (some bm), .pointer (some ⟨bx, 0, none⟩), .pointer (some ⟨bw, 0, none⟩)] w1 fun e w' => e = .returned (.tuple #[]) ∧ Sta w' b U N1 l1 ∧ Only b w1 w')
    (ih2 : ∀ w1, Env6 w1 b bx bw bm n L g → Sta w1 b U N1 l1 → Calls Tryz.prog 80 #[.iface tq vq, .map (some bm), .pointer (some ⟨bx, 0, none⟩), .pointer (some ⟨bw, 0, none⟩)] w1 fun e w' => e = .returned (.tuple #[]) ∧ Sta w' b U N' l' ∧ Only b w1 w') : Calls Tryz.prog 80 #[.iface T V, .map (some bm), .pointer (some ⟨bx, 0, none⟩), .pointer (some ⟨bw, 0, none⟩)] w fun e w' => e = .returned (.tuple #[]) ∧ Sta w' b U N' l' ∧ Only b w w' := by
  obtain ⟨F, R, hm, hn, hc, hp⟩ := hP
  have HP := Lib.hid hp
  have HB' := Lib.hid HB
  have HE := Lib.hid he
  have HS := Lib.hid hs
  have IH := Lib.hid ih
  have IH2 := Lib.hid ih2
  clear hp HB he hs ih ih2
  go_enter Tryz.func80, Tryz.ntmps80
  go_wp2_with fail
  refine (HB'.out _).mono ?_
  rintro e w1 ⟨rfl, b1⟩
  have E1 := Lib.hid (HE.out.below b1)
  have S1 := Lib.hid (HS.out.below b1)
  have o1 := (Only.refl b w).below b1
  go_wp2_with fail
  refine (HP.out _).mono ?_
  rintro e w8 ⟨bp, rfl, hb, hh, b8⟩
  have E8 := Lib.hid (E1.out.below b8)
  have S8 := Lib.hid (S1.out.below b8)
  have o8 := o1.below b8
  have hbb : b < w1.heap.size := S1.out.lt
  have c0 := cellOf2a hh
  have cv := E8.out.cv
  have Hh := Lib.hid hh
  clear hh
  go_wp2_with fail
  refine wp_loop_rounds 3 ?_
  rw [rounds_succ]
  go_wp2_with fail
  refine (IH.out _ E8.out S8.out).mono ?_
  rintro e w9 ⟨rfl, s9, o9⟩
  have S9 := Lib.hid s9
  have E9 := Lib.hid (E8.out.only o9)
  have h9 := (o9.block bp (lt_of_block Hh.out) (by omega)).trans Hh.out
  have c1 := cellOf2b h9
  have cv9 := E9.out.cv
  clear c0 cv s9 h9
  go_wp2_with fail
  rw [rounds_succ]
  go_wp2_with fail
  refine (IH2.out _ E9.out S9.out).mono ?_
  rintro e w10 ⟨rfl, s10, o10⟩
  have S10 := Lib.hid s10
  clear c1 cv9 s10
  go_wp2_with fail
  rw [rounds_succ]
  go_wp2_with fail
  go_end0
  exact ⟨rfl, S10.out, (o8.trans o9).trans o10⟩

set_option maxHeartbeats 1000000 in
theorem way_snd (b bx bw bm n U N : Nat) (L : UInt8 → Prop) (g : UInt8 → Nat) (l : List (Bool × Nat × Nat)) (T : TypeId) (V : Value) (a c : UInt8) (hT : T = 118) (tp : TypeId) (vp : Value) (hV : V = .agg #[.int .u8 (a.toNat : Int), .int .u8 (c.toNat : Int), .iface tp vp]) (N' : Nat) (l' : List (Bool × Nat × Nat)) (w : World) (HB : ∀ w, Calls Tryz.prog 81 #[.iface T V] w fun e w' => e = .returned (.tuple #[.int .u8 0, .bool false]) ∧ Below w.heap.size w w') (hP : ∃ (F : FuncId) (R : Value), (∀ n w, (method (n + 1) T V "loop.example/g01175/impl.parts").run Tryz.prog w = .ok (F, R) w) ∧ (∀ n w, (nilAhead (n + 1) T V "loop.example/g01175/impl.parts").run Tryz.prog w = .ok (some false) w) ∧ (∀ args w, (callFunc F args).run Tryz.prog w = .ok (.enter F args) w) ∧ ∀ w, Calls Tryz.prog F #[R] w fun e w' => ∃ b, e = .returned (.slice (some ⟨b, 0, none⟩) 1 1) ∧ w.heap.size ≤ b ∧ w'.heap[b]? = some (.cells #[.iface tp vp] 67 (0, 0)) ∧ Below w.heap.size w w') (he : Env6 w b bx bw bm n L g) (hs : Sta w b U N l)
    (ha : L a ∧ g a < N) (hc0 : L c ∧ g c < N) (ih : ∀ w1, Env6 w1 b bx bw bm n L g → Sta w1 b U N (l ++ [(true, g a, g c)]) → Calls Tryz.prog 80 #[.iface tp vp, .map (some bm), .pointer (some ⟨bx, 0, none⟩), .pointer (some ⟨bw, 0, none⟩)] w1 fun e w' => e = .returned (.tuple #[]) ∧ Sta w' b U N' l' ∧ Only b w1 w') : Calls Tryz.prog 80 #[.iface 118 (.agg #[.int .u8 (a.toNat : Int), .int .u8 (c.toNat : Int), .iface tp vp]), .map (some bm), .pointer (some ⟨bx, 0, none⟩), .pointer (some ⟨bw, 0, none⟩)] w fun e w' => e = .returned (.tuple #[]) ∧ Sta w' b U N' l' ∧ Only b w w' := by
  subst hT hV
  obtain ⟨F, R, hm, hn, hc, hp⟩ := hP
  have HP := Lib.hid hp
  have HB' := Lib.hid HB
  have HE := Lib.hid he
  have HS := Lib.hid hs
  have IH := Lib.hid ih
  clear hp HB he hs ih
  go_enter Tryz.func80, Tryz.ntmps80
  go_wp2_with fail
  refine (HB'.out _).mono ?_
  rintro e w1 ⟨rfl, b1⟩
  have E1 := Lib.hid (HE.out.below b1)
  have S1 := Lib.hid (HS.out.below b1)
  have o1 := (Only.refl b w).below b1
  have E2 := Lib.hid (fun o => E1.out.below ((Below.refl w1.heap.size w1).alloc (Nat.le_refl _) o))
  have S2 := Lib.hid (fun o => S1.out.below ((Below.refl w1.heap.size w1).alloc (Nat.le_refl _) o))
  have o2 := fun o => o1.below ((Below.refl w1.heap.size w1).alloc (Nat.le_refl _) o)
  have cx := fun o => (E2.out o).cx
  have l1 := fun o => (E2.out o).m.look ha.1
  have l2 := fun o => (E2.out o).m.look hc0.1
  obtain ⟨ka, hka⟩ : ∃ k, k = g a := ⟨_, rfl⟩
  obtain ⟨kc, hkc⟩ : ∃ k, k = g c := ⟨_, rfl⟩
  have HC := Lib.hid (fun o => sta_carry (S2.out o) ha.2 hc0.2)
  rw [← hka] at l1 HC IH
  rw [← hkc] at l2 HC IH
  clear hka hkc
  go_wp2_with fail
  refine (HC.out _).mono ?_
  rintro e w3 ⟨rfl, s3, o3⟩
  have E3 := Lib.hid ((E2.out _).only o3)
  have S3 := Lib.hid s3
  have o4 := (o2 _).trans o3
  clear cx l1 l2 s3
  go_wp2_with fail
  refine (HP.out _).mono ?_
  rintro e w8 ⟨bp, rfl, hb, hh, b8⟩
  have E8 := Lib.hid (E3.out.below b8)
  have S8 := Lib.hid (S3.out.below b8)
  have o8 := o4.below b8
  have c0 := cellOf1 hh
  have cv := E8.out.cv
  clear hh
  go_wp2_with fail
  refine wp_loop_rounds 2 ?_
  rw [rounds_succ]
  go_wp2_with fail
  refine (IH.out _ E8.out S8.out).mono ?_
  rintro e w9 ⟨rfl, s9, o9⟩
  have S9 := Lib.hid s9
  clear c0 cv s9
  go_wp2_with fail
  rw [rounds_succ]
  go_wp2_with fail
  go_end0
  exact ⟨rfl, S9.out, o8.trans o9⟩

set_option maxHeartbeats 1000000 in
theorem way_mat (b bx bw bm n U N : Nat) (L : UInt8 → Prop) (g : UInt8 → Nat) (l : List (Bool × Nat × Nat)) (T : TypeId) (V : Value) (a c : UInt8) (hT : T = 123) (tp : TypeId) (vp : Value) (hV : V = .agg #[.int .u8 (a.toNat : Int), .int .u8 (c.toNat : Int), .iface tp vp]) (N' : Nat) (l' : List (Bool × Nat × Nat)) (w : World) (HB : ∀ w, Calls Tryz.prog 81 #[.iface T V] w fun e w' => e = .returned (.tuple #[.int .u8 0, .bool false]) ∧ Below w.heap.size w w') (hP : ∃ (F : FuncId) (R : Value), (∀ n w, (method (n + 1) T V "loop.example/g01175/impl.parts").run Tryz.prog w = .ok (F, R) w) ∧ (∀ n w, (nilAhead (n + 1) T V "loop.example/g01175/impl.parts").run Tryz.prog w = .ok (some false) w) ∧ (∀ args w, (callFunc F args).run Tryz.prog w = .ok (.enter F args) w) ∧ ∀ w, Calls Tryz.prog F #[R] w fun e w' => ∃ b, e = .returned (.slice (some ⟨b, 0, none⟩) 1 1) ∧ w.heap.size ≤ b ∧ w'.heap[b]? = some (.cells #[.iface tp vp] 67 (0, 0)) ∧ Below w.heap.size w w') (he : Env6 w b bx bw bm n L g) (hs : Sta w b U N l)
    (ha : L a ∧ g a < N) (hc0 : L c ∧ g c < N) (ih : ∀ w1, Env6 w1 b bx bw bm n L g → Sta w1 b U N (l ++ [(false, g a, g c)]) → Calls Tryz.prog 80 #[.iface tp vp, .map (some bm), .pointer (some ⟨bx, 0, none⟩), .pointer (some ⟨bw, 0, none⟩)] w1 fun e w' => e = .returned (.tuple #[]) ∧ Sta w' b U N' l' ∧ Only b w1 w') : Calls Tryz.prog 80 #[.iface 123 (.agg #[.int .u8 (a.toNat : Int), .int .u8 (c.toNat : Int), .iface tp vp]), .map (some bm), .pointer (some ⟨bx, 0, none⟩), .pointer (some ⟨bw, 0, none⟩)] w fun e w' => e = .returned (.tuple #[]) ∧ Sta w' b U N' l' ∧ Only b w w' := by
  subst hT hV
  obtain ⟨F, R, hm, hn, hc, hp⟩ := hP
  have HP := Lib.hid hp
  have HB' := Lib.hid HB
  have HE := Lib.hid he
  have HS := Lib.hid hs
  have IH := Lib.hid ih
  clear hp HB he hs ih
  go_enter Tryz.func80, Tryz.ntmps80
  go_wp2_with fail
  refine (HB'.out _).mono ?_
  rintro e w1 ⟨rfl, b1⟩
  have E1 := Lib.hid (HE.out.below b1)
  have S1 := Lib.hid (HS.out.below b1)
  have o1 := (Only.refl b w).below b1
  have E2 := Lib.hid (fun o => E1.out.below ((Below.refl w1.heap.size w1).alloc (Nat.le_refl _) o))
  have S2 := Lib.hid (fun o => S1.out.below ((Below.refl w1.heap.size w1).alloc (Nat.le_refl _) o))
  have o2 := fun o => o1.below ((Below.refl w1.heap.size w1).alloc (Nat.le_refl _) o)
  have cx := fun o => (E2.out o).cx
  have l1 := fun o => (E2.out o).m.look ha.1
  have l2 := fun o => (E2.out o).m.look hc0.1
  obtain ⟨ka, hka⟩ : ∃ k, k = g a := ⟨_, rfl⟩
  obtain ⟨kc, hkc⟩ : ∃ k, k = g c := ⟨_, rfl⟩
  have HC := Lib.hid (fun o => sta_join (S2.out o) ha.2 hc0.2)
  rw [← hka] at l1 HC IH
  rw [← hkc] at l2 HC IH
  clear hka hkc
  go_wp2_with fail
  refine (HC.out _).mono ?_
  rintro e w3 ⟨rfl, s3, o3⟩
  have E3 := Lib.hid ((E2.out _).only o3)
  have S3 := Lib.hid s3
  have o4 := (o2 _).trans o3
  clear cx l1 l2 s3
  go_wp2_with fail
  refine (HP.out _).mono ?_
  rintro e w8 ⟨bp, rfl, hb, hh, b8⟩
  have E8 := Lib.hid (E3.out.below b8)
  have S8 := Lib.hid (S3.out.below b8)
  have o8 := o4.below b8
  have c0 := cellOf1 hh
  have cv := E8.out.cv
  clear hh
  go_wp2_with fail
  refine wp_loop_rounds 2 ?_
  rw [rounds_succ]
  go_wp2_with fail
  refine (IH.out _ E8.out S8.out).mono ?_
  rintro e w9 ⟨rfl, s9, o9⟩
  have S9 := Lib.hid s9
  clear c0 cv s9
  go_wp2_with fail
  rw [rounds_succ]
  go_wp2_with fail
  go_end0
  exact ⟨rfl, S9.out, o8.trans o9⟩

set_option maxHeartbeats 1000000 in
theorem way_own (b bx bw bm n U N : Nat) (L : UInt8 → Prop) (g : UInt8 → Nat) (l : List (Bool × Nat × Nat)) (T : TypeId) (V : Value) (x : UInt8) (tp : TypeId) (vp : Value) (N' : Nat) (l' : List (Bool × Nat × Nat)) (w : World) (hs : ∀ w, (Instr.typeAssert (.iface T V) 67 118 true).run Tryz.prog w = .ok (.tuple #[.agg #[.int .u8 0, .int .u8 0, .nilIface], .bool false]) w) (hr : ∀ w, (Instr.typeAssert (.iface T V) 67 121 true).run Tryz.prog w = .ok (.tuple #[.agg #[.int .u8 0, .int .u8 0, .nilIface], .bool false]) w) (hm : ∀ w, (Instr.typeAssert (.iface T V) 67 123 true).run Tryz.prog w = .ok (.tuple #[.agg #[.int .u8 0, .int .u8 0, .nilIface], .bool false]) w) (HB : ∀ w, Calls Tryz.prog 81 #[.iface T V] w fun e w' => e = .returned (.tuple #[.int .u8 (x.toNat : Int), .bool true]) ∧ Below w.heap.size w w') (hP : ∃ (F : FuncId) (R : Value), (∀ n w, (method (n + 1) T V "loop.example/g01175/impl.parts").run Tryz.prog w = .ok (F, R) w) ∧ (∀ n w, (nilAhead (n + 1) T V "loop.example/g01175/impl.parts").run Tryz.prog w = .ok (some false) w) ∧ (∀ args w, (callFunc F args).run Tryz.prog w = .ok (.enter F args) w) ∧ ∀ w, Calls Tryz.prog F #[R] w fun e w' => ∃ b, e = .returned (.slice (some ⟨b, 0, none⟩) 1 1) ∧ w.heap.size ≤ b ∧ w'.heap[b]? = some (.cells #[.iface tp vp] 67 (0, 0)) ∧ Below w.heap.size w w') (he : Env6 w b bx bw bm n L g) (hs : Sta w b U N l)
    (hN : N < 86) (hnn : n ≤ 100000) (ih : ∀ b2 w1, Env6 w1 b bx bw b2 (n + 1) (fun y => y = x ∨ L y) (upd6 g x N) → Sta w1 b U (N + 1) l → Calls Tryz.prog 80 #[.iface tp vp, .map (some b2), .pointer (some ⟨bx, 0, none⟩), .pointer (some ⟨bw, 0, none⟩)] w1 fun e w' => e = .returned (.tuple #[]) ∧ Sta w' b U N' l' ∧ Only b w1 w') : Calls Tryz.prog 80 #[.iface T V, .map (some bm), .pointer (some ⟨bx, 0, none⟩), .pointer (some ⟨bw, 0, none⟩)] w fun e w' => e = .returned (.tuple #[]) ∧ Sta w' b U N' l' ∧ Only b w w' := by
  obtain ⟨F, R, hm, hn, hc, hp⟩ := hP
  have HP := Lib.hid hp
  have HB' := Lib.hid HB
  have HE := Lib.hid he
  have HS := Lib.hid hs
  have IH := Lib.hid ih
  clear hp HB he hs ih
  go_enter Tryz.func80, Tryz.ntmps80
  go_wp2_with fail
  refine (HB'.out _).mono ?_
  rintro e w1 ⟨rfl, b1⟩
  have E1 := Lib.hid (HE.out.below b1)
  have S1 := Lib.hid (HS.out.below b1)
  have o1 := (Only.refl b w).below b1
  have HCL := Lib.hid (clone_any E1.out.m)
  go_wp2_with fail
  refine (HCL.out).mono ?_
  rintro e w2 ⟨⟨b2, rfl, hb2, m2⟩, bl2⟩
  have M2 := Lib.hid m2
  have E2 := Lib.hid (E1.out.below bl2)
  have S2 := Lib.hid (S1.out.below bl2)
  have o2 := o1.below bl2
  have cx2 := E2.out.cx
  have HAD := Lib.hid (sta_add S2.out hN)
  have hbb : b < w1.heap.size := S1.out.lt
  clear m2
  go_wp2_with fail
  refine (HAD.out).mono ?_
  rintro e w3 ⟨rfl, s3, o3⟩
  have S3 := Lib.hid s3
  have E3 := Lib.hid (E2.out.only o3)
  have o4 := o2.trans o3
  have M3 := Lib.hid (M2.out.of (o3.block b2 M2.out.lt (by omega)))
  obtain ⟨w4, hu, m4, u4⟩ := M3.out.upd x N hnn (by omega)
  have E4 := Lib.hid (show Env6 w4 b bx bw b2 (n + 1) (fun y => y = x ∨ L y) (upd6 g x N) by
    obtain ⟨T1, hx1⟩ := E3.out.x
    obtain ⟨T2, hx2⟩ := E3.out.v
    obtain ⟨T3, hx3⟩ := E1.out.x
    obtain ⟨T4, hx4⟩ := E1.out.v
    have := lt_of_block hx3
    have := lt_of_block hx4
    exact ⟨⟨T1, (u4.block _ (lt_of_block hx1) (by omega)).trans hx1⟩, ⟨T2, (u4.block _ (lt_of_block hx2) (by omega)).trans hx2⟩, m4, HE.out.nx, HE.out.nv, by omega⟩)
  have EM := Lib.hid (show MapAt w4 bm n L g from (E3.out.m).of (u4.block _ E3.out.m.lt (by have := E1.out.m.lt; omega)))
  have S4 := Lib.hid (show Sta w4 b U (N + 1) l from S3.out.of (u4.block b S3.out.lt (by omega)))
  have o5 : Only b w w4 := ⟨u4.os.trans o4.os, u4.tape.trans o4.tape, u4.output.trans o4.output, Nat.le_trans o4.size u4.size, fun i hi hib => (u4.block i (by have := o4.size; omega) (by have := o1.size; omega)).trans (o4.block i hi hib)⟩
  clear cx2 s3 m4
  go_wp2_with fail
  refine (HP.out _).mono ?_
  rintro e w8 ⟨bp, rfl, hb, hh, b8⟩
  have E8 := Lib.hid (E4.out.below b8)
  have S8 := Lib.hid (S4.out.below b8)
  have o8 := o5.below b8
  have c0 := cellOf1 hh
  have cv := E8.out.cv
  clear hh
  go_wp2_with fail
  refine wp_loop_rounds 2 ?_
  rw [rounds_succ]
  go_wp2_with fail
  refine (IH.out _ _ E8.out S8.out).mono ?_
  rintro e w9 ⟨rfl, s9, o9⟩
  have S9 := Lib.hid s9
  clear c0 cv s9
  go_wp2_with fail
  rw [rounds_succ]
  go_wp2_with fail
  go_end0
  exact ⟨rfl, S9.out, o8.trans o9⟩

set_option maxHeartbeats 1000000 in
theorem way_rcv (b bx bw bm n U N : Nat) (L : UInt8 → Prop) (g : UInt8 → Nat) (l : List (Bool × Nat × Nat)) (T : TypeId) (V : Value) (a x : UInt8) (hT : T = 121) (tp : TypeId) (vp : Value) (hV : V = .agg #[.int .u8 (a.toNat : Int), .int .u8 (x.toNat : Int), .iface tp vp]) (N' : Nat) (l' : List (Bool × Nat × Nat)) (w : World) (HB : ∀ w, Calls Tryz.prog 81 #[.iface T V] w fun e w' => e = .returned (.tuple #[.int .u8 (x.toNat : Int), .bool true]) ∧ Below w.heap.size w w') (hP : ∃ (F : FuncId) (R : Value), (∀ n w, (method (n + 1) T V "loop.example/g01175/impl.parts").run Tryz.prog w = .ok (F, R) w) ∧ (∀ n w, (nilAhead (n + 1) T V "loop.example/g01175/impl.parts").run Tryz.prog w = .ok (some false) w) ∧ (∀ args w, (callFunc F args).run Tryz.prog w = .ok (.enter F args) w) ∧ ∀ w, Calls Tryz.prog F #[R] w fun e w' => ∃ b, e = .returned (.slice (some ⟨b, 0, none⟩) 1 1) ∧ w.heap.size ≤ b ∧ w'.heap[b]? = some (.cells #[.iface tp vp] 67 (0, 0)) ∧ Below w.heap.size w w') (he : Env6 w b bx bw bm n L g) (hs : Sta w b U N l)
    (ha : L a ∧ g a < N) (hN : N < 86) (hnn : n ≤ 100000) (ih : ∀ b2 w1, Env6 w1 b bx bw b2 (n + 1) (fun y => y = x ∨ L y) (upd6 g x N) → Sta w1 b U (N + 1) (l ++ [(true, g a, N)]) → Calls Tryz.prog 80 #[.iface tp vp, .map (some b2), .pointer (some ⟨bx, 0, none⟩), .pointer (some ⟨bw, 0, none⟩)] w1 fun e w' => e = .returned (.tuple #[]) ∧ Sta w' b U N' l' ∧ Only b w1 w') : Calls Tryz.prog 80 #[.iface 121 (.agg #[.int .u8 (a.toNat : Int), .int .u8 (x.toNat : Int), .iface tp vp]), .map (some bm), .pointer (some ⟨bx, 0, none⟩), .pointer (some ⟨bw, 0, none⟩)] w fun e w' => e = .returned (.tuple #[]) ∧ Sta w' b U N' l' ∧ Only b w w' := by
  subst hT hV
  obtain ⟨F, R, hm, hn, hc, hp⟩ := hP
  have HP := Lib.hid hp
  have HB' := Lib.hid HB
  have HE := Lib.hid he
  have HS := Lib.hid hs
  have IH := Lib.hid ih
  clear hp HB he hs ih
  go_enter Tryz.func80, Tryz.ntmps80
  go_wp2_with fail
  refine (HB'.out _).mono ?_
  rintro e w1 ⟨rfl, b1⟩
  have E1 := Lib.hid (HE.out.below b1)
  have S1 := Lib.hid (HS.out.below b1)
  have o1 := (Only.refl b w).below b1
  have HCL := Lib.hid (clone_any E1.out.m)
  go_wp2_with fail
  refine (HCL.out).mono ?_
  rintro e w2 ⟨⟨b2, rfl, hb2, m2⟩, bl2⟩
  have M2 := Lib.hid m2
  have E2 := Lib.hid (E1.out.below bl2)
  have S2 := Lib.hid (S1.out.below bl2)
  have o2 := o1.below bl2
  have cx2 := E2.out.cx
  have HAD := Lib.hid (sta_add S2.out hN)
  have hbb : b < w1.heap.size := S1.out.lt
  clear m2
  go_wp2_with fail
  refine (HAD.out).mono ?_
  rintro e w3 ⟨rfl, s3, o3⟩
  have S3 := Lib.hid s3
  have E3 := Lib.hid (E2.out.only o3)
  have o4 := o2.trans o3
  have M3 := Lib.hid (M2.out.of (o3.block b2 M2.out.lt (by omega)))
  obtain ⟨w4, hu, m4, u4⟩ := M3.out.upd x N hnn (by omega)
  have E4 := Lib.hid (show Env6 w4 b bx bw b2 (n + 1) (fun y => y = x ∨ L y) (upd6 g x N) by
    obtain ⟨T1, hx1⟩ := E3.out.x
    obtain ⟨T2, hx2⟩ := E3.out.v
    obtain ⟨T3, hx3⟩ := E1.out.x
    obtain ⟨T4, hx4⟩ := E1.out.v
    have := lt_of_block hx3
    have := lt_of_block hx4
    exact ⟨⟨T1, (u4.block _ (lt_of_block hx1) (by omega)).trans hx1⟩, ⟨T2, (u4.block _ (lt_of_block hx2) (by omega)).trans hx2⟩, m4, HE.out.nx, HE.out.nv, by omega⟩)
  have EM := Lib.hid (show MapAt w4 bm n L g from (E3.out.m).of (u4.block _ E3.out.m.lt (by have := E1.out.m.lt; omega)))
  have S4 := Lib.hid (show Sta w4 b U (N + 1) l from S3.out.of (u4.block b S3.out.lt (by omega)))
  have o5 : Only b w w4 := ⟨u4.os.trans o4.os, u4.tape.trans o4.tape, u4.output.trans o4.output, Nat.le_trans o4.size u4.size, fun i hi hib => (u4.block i (by have := o4.size; omega) (by have := o1.size; omega)).trans (o4.block i hi hib)⟩
  clear cx2 s3 m4
  have E5 := Lib.hid (fun o => E4.out.below ((Below.refl w4.heap.size w4).alloc (Nat.le_refl _) o))
  have S5 := Lib.hid (fun o => S4.out.below ((Below.refl w4.heap.size w4).alloc (Nat.le_refl _) o))
  have o6 := fun o => o5.below ((Below.refl w4.heap.size w4).alloc (Nat.le_refl _) o)
  have cx := fun o => (E5.out o).cx
  have l1 := fun o => (EM.out.of (((Below.refl w4.heap.size w4).alloc (Nat.le_refl _) o).block _ EM.out.lt)).look ha.1
  have l2 := fun o => (E5.out o).m.look (c := x) (.inl rfl)
  rw [show upd6 g x N x = N by unfold upd6; rw [if_pos rfl]] at l2
  have HC := Lib.hid (fun o => sta_carry (S5.out o) (i := g a) (j := N) (by have := ha.2; omega) (by omega))
  obtain ⟨ka, hka⟩ : ∃ k, k = g a := ⟨_, rfl⟩
  rw [← hka] at l1 HC IH
  clear hka
  go_wp2_with fail
  refine (HC.out _).mono ?_
  rintro e w6 ⟨rfl, s6, p6⟩
  have E6 := Lib.hid ((E5.out _).only p6)
  have S6' := Lib.hid s6
  have o7 := (o6 _).trans p6
  clear cx l1 l2 s6 hu
  go_wp2_with fail
  refine (HP.out _).mono ?_
  rintro e w8 ⟨bp, rfl, hb, hh, b8⟩
  have E8 := Lib.hid (E6.out.below b8)
  have S8 := Lib.hid (S6'.out.below b8)
  have o8 := o7.below b8
  have c0 := cellOf1 hh
  have cv := E8.out.cv
  clear hh
  go_wp2_with fail
  refine wp_loop_rounds 2 ?_
  rw [rounds_succ]
  go_wp2_with fail
  refine (IH.out _ _ E8.out S8.out).mono ?_
  rintro e w9 ⟨rfl, s9, o9⟩
  have S9 := Lib.hid s9
  clear c0 cv s9
  go_wp2_with fail
  rw [rounds_succ]
  go_wp2_with fail
  go_end0
  exact ⟨rfl, S9.out, o8.trans o9⟩

def WalkOk (b bx bw U : Nat) (t : Tm) : Prop := ∀ (bm n : Nat) (L : UInt8 → Prop) (g : UInt8 → Nat) (l : List (Bool × Nat × Nat)) (N : Nat) (w : World), Env6 w b bx bw bm n L g → Sta w b U N l → (∀ x ∈ t.free, L x ∧ g x < N) → N + t.size ≤ 86 → n + t.size ≤ 1000 →
    Calls Tryz.prog 80 #[.iface (tyOf t) (pay t), .map (some bm), .pointer (some ⟨bx, 0, none⟩), .pointer (some ⟨bw, 0, none⟩)] w fun e w' => e = .returned (.tuple #[]) ∧ Sta w' b U (ask6 t g N).2 (l ++ (ask6 t g N).1) ∧ Only b w w'
theorem walk_ok (b bx bw U : Nat) : ∀ t : Tm, WalkOk b bx bw U t := by
  intro t
  induction t with
  | nil =>
    intro bm n L g l N w he hs hf h1 h2
    simp only [ask6, List.append_nil]
    exact way0 _ _ _ _ _ _ _ _ _ _ _ _ w (ta_nothing_send _) (ta_nothing_receive _) (ta_nothing_match _) (binderOf_any .nil) (parts_fact .nil).pf he hs
  | tau p ih =>
    intro bm n L g l N w he hs hf h1 h2
    simp only [Tm.size] at h1 h2
    exact way1 _ _ _ _ _ _ _ _ _ _ _ _ _ _ _ _ w (ta_silent_send _) (ta_silent_receive _) (ta_silent_match _) (binderOf_any (.tau p)) (parts_fact (.tau p)).pf he hs (fun w1 e1 s1 => ih bm n L g l N w1 e1 s1 (fun x hx => hf x ((mf_tau _ _).2 hx)) (by omega) (by omega))
  | rep p ih =>
    intro bm n L g l N w he hs hf h1 h2
    simp only [Tm.size] at h1 h2
    exact way1 _ _ _ _ _ _ _ _ _ _ _ _ _ _ _ _ w (ta_repeat_send _) (ta_repeat_receive _) (ta_repeat_match _) (binderOf_any (.rep p)) (parts_fact (.rep p)).pf he hs (fun w1 e1 s1 => ih bm n L g l N w1 e1 s1 (fun x hx => hf x ((mf_rep _ _).2 hx)) (by omega) (by omega))
  | sum p q ih ih2 =>
    intro bm n L g l N w he hs hf h1 h2
    simp only [Tm.size] at h1 h2
    simp only [ask6]
    have hq := ask6_next p g N
    exact way2 _ _ _ _ _ _ _ _ _ _ _ _ _ _ _ _ _ _ _ _ w (ta_choice_send _) (ta_choice_receive _) (ta_choice_match _) (binderOf_any (.sum p q)) (parts_fact (.sum p q)).pf he hs (fun w1 e1 s1 => ih bm n L g l N w1 e1 s1 (fun x hx => hf x ((mf_sum _ _ _).2 (.inl hx))) (by omega) (by omega))
      (fun w1 e1 s1 => by
        have := ih2 bm n L g (l ++ (ask6 p g N).1) (ask6 p g N).2 w1 e1 s1 (fun x hx => ⟨(hf x ((mf_sum _ _ _).2 (.inr hx))).1, Nat.lt_of_lt_of_le (hf x ((mf_sum _ _ _).2 (.inr hx))).2 hq.1⟩) (by omega) (by omega)
        rw [List.append_assoc] at this
        exact this)
  | par p q ih ih2 =>
    intro bm n L g l N w he hs hf h1 h2
    simp only [Tm.size] at h1 h2
    simp only [ask6]
    have hq := ask6_next p g N
    exact way2 _ _ _ _ _ _ _ _ _ _ _ _ _ _ _ _ _ _ _ _ w (ta_beside_send _) (ta_beside_receive _) (ta_beside_match _) (binderOf_any (.par p q)) (parts_fact (.par p q)).pf he hs (fun w1 e1 s1 => ih bm n L g l N w1 e1 s1 (fun x hx => hf x ((mf_par _ _ _).2 (.inl hx))) (by omega) (by omega))
      (fun w1 e1 s1 => by
        have := ih2 bm n L g (l ++ (ask6 p g N).1) (ask6 p g N).2 w1 e1 s1 (fun x hx => ⟨(hf x ((mf_par _ _ _).2 (.inr hx))).1, Nat.lt_of_lt_of_le (hf x ((mf_par _ _ _).2 (.inr hx))).2 hq.1⟩) (by omega) (by omega)
        rw [List.append_assoc] at this
        exact this)
  | snd a c p ih =>
    intro bm n L g l N w he hs hf h1 h2
    simp only [Tm.size] at h1 h2
    simp only [ask6]
    exact way_snd _ _ _ _ _ _ _ _ _ _ _ _ a c rfl _ _ rfl _ _ w (binderOf_any (.snd a c p)) (parts_fact (.snd a c p)).pf he hs (hf a ((mf_snd _ _ _ _).2 (.inl rfl))) (hf c ((mf_snd _ _ _ _).2 (.inr (.inl rfl))))
      (fun w1 e1 s1 => by
        have := ih bm n L g _ N w1 e1 s1 (fun x hx => hf x ((mf_snd _ _ _ _).2 (.inr (.inr hx)))) (by omega) (by omega)
        rw [List.append_assoc] at this
        exact this)
  | mat a c p ih =>
    intro bm n L g l N w he hs hf h1 h2
    simp only [Tm.size] at h1 h2
    simp only [ask6]
    exact way_mat _ _ _ _ _ _ _ _ _ _ _ _ a c rfl _ _ rfl _ _ w (binderOf_any (.mat a c p)) (parts_fact (.mat a c p)).pf he hs (hf a ((mf_mat _ _ _ _).2 (.inl rfl))) (hf c ((mf_mat _ _ _ _).2 (.inr (.inl rfl))))
      (fun w1 e1 s1 => by
        have := ih bm n L g _ N w1 e1 s1 (fun x hx => hf x ((mf_mat _ _ _ _).2 (.inr (.inr hx)))) (by omega) (by omega)
        rw [List.append_assoc] at this
        exact this)
  | own x p ih =>
    intro bm n L g l N w he hs hf h1 h2
    simp only [Tm.size] at h1 h2
    simp only [ask6]
    have hp := size_pos p
    exact way_own _ _ _ _ _ _ _ _ _ _ _ _ x _ _ _ _ w (ta_own_send _) (ta_own_receive _) (ta_own_match _) (binderOf_any (.own x p)) (parts_fact (.own x p)).pf he hs (by omega) (by omega)
      (fun b2 w1 e1 s1 => ih b2 _ _ _ l (N + 1) w1 e1 s1 (fun z hz => by
        unfold upd6
        by_cases e : z = x
        · subst e; exact ⟨.inl rfl, by rw [if_pos rfl]; omega⟩
        · have := hf z ((mf_own _ _ _).2 ⟨hz, e⟩)
          exact ⟨.inr this.1, by rw [if_neg e]; omega⟩) (by omega) (by omega))
  | rcv a x p ih =>
    intro bm n L g l N w he hs hf h1 h2
    simp only [Tm.size] at h1 h2
    simp only [ask6]
    have hp := size_pos p
    exact way_rcv _ _ _ _ _ _ _ _ _ _ _ _ a x rfl _ _ rfl _ _ w (binderOf_any (.rcv a x p)) (parts_fact (.rcv a x p)).pf he hs (hf a ((mf_rcv _ _ _ _).2 (.inl rfl))) (by omega) (by omega)
      (fun b2 w1 e1 s1 => by
        have := ih b2 _ _ _ _ (N + 1) w1 e1 s1 (fun z hz => by
        unfold upd6
        by_cases e : z = x
        · subst e; exact ⟨.inl rfl, by rw [if_pos rfl]; omega⟩
        · have := hf z ((mf_rcv _ _ _ _).2 (.inr ⟨hz, e⟩))
          exact ⟨.inr this.1, by rw [if_neg e]; omega⟩) (by omega) (by omega)
        rw [List.append_assoc] at this
        exact this)

end Go.Proofs.YtlhmjcfnfefliaaGreat.T1

/- The two numberings of sorts: by letters, and by the order of free names. Plain lemmas. -/
namespace Go.Proofs.YtlhmjcfnfefliaaGreat.T1
set_option linter.unusedVariables false
set_option linter.unusedSimpArgs false

def lt6 (c : UInt8) : Nat := c.toNat - 97
/-- The place of a letter in a list, counted from s; 0 if it is not there. -/
def idx6 : List UInt8 → Nat → UInt8 → Nat
  | c :: cs, s, x => if c = x then s else idx6 cs (s + 1) x
  | [], _, _ => 0
theorem idx6_at : ∀ (F : List UInt8) (s i : Nat) (h : i < F.length), F.Nodup → idx6 F s F[i] = s + i
  | c :: cs, s, 0, _, _ => by simp [idx6]
  | c :: cs, s, i + 1, h, hn => by
    have h2 : i < cs.length := by simpa using h
    have hn2 := List.nodup_cons.1 hn
    have hne : ¬ c = cs[i] := fun e => hn2.1 (by rw [e]; exact List.getElem_mem h2)
    show (if c = cs[i] then s else idx6 cs (s + 1) cs[i]) = s + (i + 1)
    rw [if_neg hne, idx6_at cs (s + 1) i h2 hn2.2]; omega
theorem srt_nodup {F : List UInt8} (h : Srt F) : F.Nodup := h.imp fun {a b} hab => fun e => by subst e; exact absurd ((u8_lt _ _).1 hab) (Nat.lt_irrefl _)
theorem idx6_lt {F : List UInt8} (hF : F.Nodup) {x : UInt8} (h : x ∈ F) : idx6 F 0 x < F.length := by
  obtain ⟨i, hi, rfl⟩ := List.getElem_of_mem h
  rw [idx6_at F 0 i hi hF]; omega
def phi6 (F : List UInt8) (k : Nat) : Nat := if h : k < F.length then lt6 F[k] else k - F.length + 26
theorem phi6_in {F : List UInt8} {k : Nat} (h : k < F.length) : phi6 F k = lt6 F[k] := by unfold phi6; rw [dif_pos h]
theorem phi6_out {F : List UInt8} {k : Nat} (h : F.length ≤ k) : phi6 F k = k - F.length + 26 := by unfold phi6; rw [dif_neg (by omega)]
theorem phi6_inj {F : List UInt8} (hs : F.Nodup) (hl : Lets F) (i j : Nat) (e : phi6 F i = phi6 F j) : i = j := by
  rcases Nat.lt_or_ge i F.length with hi | hi <;> rcases Nat.lt_or_ge j F.length with hj | hj
  · rw [phi6_in hi, phi6_in hj] at e
    have a := hl _ (List.getElem_mem hi)
    have b := hl _ (List.getElem_mem hj)
    unfold lt6 at e
    have e2 : F[i] = F[j] := u8_ext (by omega)
    exact (List.getElem_inj hs).1 e2
  · rw [phi6_in hi, phi6_out hj] at e
    have a := hl _ (List.getElem_mem hi)
    unfold lt6 at e; omega
  · rw [phi6_out hi, phi6_in hj] at e
    have b := hl _ (List.getElem_mem hj)
    unfold lt6 at e; omega
  · rw [phi6_out hi, phi6_out hj] at e; omega
theorem phi6_step (F : List UInt8) (k : Nat) (h : F.length ≤ k) : phi6 F (k + 1) = phi6 F k + 1 := by rw [phi6_out h, phi6_out (by omega)]; omega
theorem phi6_idx {F : List UInt8} (hs : F.Nodup) {x : UInt8} (h : x ∈ F) : phi6 F (idx6 F 0 x) = lt6 x := by
  obtain ⟨i, hi, rfl⟩ := List.getElem_of_mem h
  rw [idx6_at F 0 i hi hs, Nat.zero_add, phi6_in hi]
/-- What the program asks is what the specification asks, by the other numbers. -/
theorem ask6_two (t : Tm) (hs : t.free.Nodup) : ask6 t lt6 26 = ((ask6 t (idx6 t.free 0) t.free.length).1.map (mp6 (phi6 t.free)), phi6 t.free (ask6 t (idx6 t.free 0) t.free.length).2) := by
  rw [← ask6_map (phi6 t.free) t.free.length (phi6_step t.free) t (idx6 t.free 0) t.free.length (Nat.le_refl _), phi6_out (Nat.le_refl _), Nat.sub_self, Nat.zero_add]
  exact ask6_congr t _ _ _ fun c hc => (phi6_idx hs hc).symm
def carr6 (t : Tm) (a b : UInt8) : Prop := Car (S6 (ask6 t lt6 26).1) (C6 (ask6 t lt6 26).1) (lt6 a) (lt6 b)
def lev6 (t : Tm) (a : UInt8) (m : Nat) : Prop := Lev6 (S6 (ask6 t lt6 26).1) (C6 (ask6 t lt6 26).1) (lt6 a) m
def able6 (t : Tm) : Prop := ∀ i, ∃ m, Lev6 (S6 (ask6 t lt6 26).1) (C6 (ask6 t lt6 26).1) i m
section
variable {t : Tm} (hs : t.free.Nodup) (hl : Lets t.free)
theorem bounds6 (t : Tm) (f : UInt8 → Nat) (n : Nat) (h : ∀ c, c ∈ t.free → f c < n) : (∀ i j, S6 (ask6 t f n).1 i j → i < (ask6 t f n).2 ∧ j < (ask6 t f n).2) ∧ (∀ i j, C6 (ask6 t f n).1 i j → i < (ask6 t f n).2 ∧ j < (ask6 t f n).2) :=
  ⟨fun i j hij => ask6_lt t f n h _ hij, fun i j hij => ask6_lt t f n h _ hij⟩
include hs hl
theorem carr6_idx {a b : UInt8} (ha : a ∈ t.free) (hb : b ∈ t.free) : carr6 t a b ↔ Car (S6 (ask6 t (idx6 t.free 0) t.free.length).1) (C6 (ask6 t (idx6 t.free 0) t.free.length).1) (idx6 t.free 0 a) (idx6 t.free 0 b) := by
  unfold carr6
  rw [ask6_two t hs, ← phi6_idx hs ha, ← phi6_idx hs hb]
  exact Car.map_iff (phi6_inj hs hl) _ _
theorem lev6_idx {a : UInt8} (ha : a ∈ t.free) (m : Nat) : lev6 t a m ↔ Lev6 (S6 (ask6 t (idx6 t.free 0) t.free.length).1) (C6 (ask6 t (idx6 t.free 0) t.free.length).1) (idx6 t.free 0 a) m := by
  unfold lev6
  rw [ask6_two t hs, ← phi6_idx hs ha]
  exact Lev6.map_iff (phi6_inj hs hl) _ _
theorem able6_idx : able6 t ↔ ∀ i, i < (ask6 t (idx6 t.free 0) t.free.length).2 → ∃ m, Lev6 (S6 (ask6 t (idx6 t.free 0) t.free.length).1) (C6 (ask6 t (idx6 t.free 0) t.free.length).1) i m := by
  have hb := bounds6 t (idx6 t.free 0) t.free.length (fun c hc => idx6_lt hs hc)
  have hbl := bounds6 t lt6 26 (fun c hc => by have := hl c hc; unfold lt6; omega)
  unfold able6
  constructor
  · intro h i hi
    obtain ⟨m, hm⟩ := h (phi6 t.free i)
    rw [ask6_two t hs] at hm
    exact ⟨m, (Lev6.map_iff (phi6_inj hs hl) _ _).1 hm⟩
  · intro h x
    by_cases e : ∃ i, i < (ask6 t (idx6 t.free 0) t.free.length).2 ∧ x = phi6 t.free i
    · obtain ⟨i, hi, rfl⟩ := e
      obtain ⟨m, hm⟩ := h i hi
      rw [ask6_two t hs]
      exact ⟨m, (Lev6.map_iff (phi6_inj hs hl) _ _).2 hm⟩
    · refine ⟨0, .stop fun y hy => e ?_⟩
      obtain ⟨a, b, c, h1, _⟩ := hy
      rw [ask6_two t hs] at c h1
      obtain ⟨a, b, rfl, rfl, c2⟩ := C6_map.1 c
      rcases h1.back (phi6_inj hs hl) with rfl | ⟨i, j, rfl, h3, h4⟩
      · exact ⟨a, (hb.2 _ _ c2).1, rfl⟩
      · refine ⟨i, ?_, rfl⟩
        have hj : j = a := (phi6_inj hs hl _ _ h3).symm
        subst hj
        have key : ∀ {p q : Nat}, Eqv (S6 (ask6 t (idx6 t.free 0) t.free.length).1) (C6 (ask6 t (idx6 t.free 0) t.free.length).1) p q → p = q ∨ (p < (ask6 t (idx6 t.free 0) t.free.length).2 ∧ q < (ask6 t (idx6 t.free 0) t.free.length).2) := by
          intro p q hpq
          induction hpq with
          | base h => exact .inr (hb.1 _ _ h)
          | refl i => exact .inl rfl
          | symm _ ih => omega
          | trans _ _ ih ih2 => omega
          | carry a b _ ih => exact .inr ⟨(hb.2 _ _ a).2, (hb.2 _ _ b).2⟩
        have := (hb.2 _ _ c2).1
        have := key h4
        omega
end
theorem able6_lt (t : Tm) (hl : Lets t.free) : able6 t ↔ ∀ i, i < (ask6 t lt6 26).2 → ∃ m, Lev6 (S6 (ask6 t lt6 26).1) (C6 (ask6 t lt6 26).1) i m := by
  have hb := bounds6 t lt6 26 (fun c hc => by have := hl c hc; unfold lt6; omega)
  exact ⟨fun h i _ => h i, fun h i => by
    by_cases e : i < (ask6 t lt6 26).2
    · exact h i e
    · exact ⟨0, Lev6.outside hb.1 hb.2 (by omega)⟩⟩
end Go.Proofs.YtlhmjcfnfefliaaGreat.T1

/- Sorts in the program: those of a process. -/
namespace Go.Proofs.YtlhmjcfnfefliaaGreat.T1
open Go.RowKit Go.Maps
set_option maxRecDepth 100000
set_option linter.unusedVariables false
set_option linter.unusedSimpArgs false

theorem wpList_build6 {P : Program} {ops : Array Oper} {rest : List Oper} {o : Oper} {a : Act} {w : World} {Q : Exit → Act → World → Prop} (hgd : o.guard = none) (t : TypeId) (x : Operand) (ho : o.op = .build t #[(0, x)]) (u : Value) (hx : a.eval x = u) (cells : Array Value)
    (hc : P.built t [(0, u)] = some cells) (h : wpList P ops Q rest (a.put o.dst (.agg cells)) w) : wpList P ops Q (o :: rest) a w :=
  wpList_plain hgd fun _ hK => wp_build t #[(0, x)] ho (by simp only [List.map_toArray, List.map_cons, List.map_nil, hx, hc]; rfl) (by simp only [List.map_toArray, List.map_cons, List.map_nil, hx, hc]; exact hK _ _ h)
theorem zc6 : Tryz.zeroCells75 = #[.int .u32 0] ++ Array.replicate 173 (.int .i64 0) := by kernel_rfl
theorem built6 (v : Value) (hv : v.cells = #[v]) : Tryz.prog.built 75 [(0, v)] = some (Tryz.zeroCells75.setIfInBounds 0 v) := by
  have e : ∀ parts, Tryz.prog.built 75 parts = Instr.fill (#[(0, 1), (1, 1), (2, 86), (88, 86)][·]?) Tryz.zeroCells75 parts := fun parts => by kernel_rfl
  rw [e]
  simp only [Instr.fill, hv]
  rw [show (#[(0, 1), (1, 1), (2, 86), (88, 86)] : Array (Nat × Nat))[0]? = some (0, 1) from rfl]
  rw [zc6]
  simp
theorem made6 (U : Nat) : ∃ D, Tryz.prog.built 75 [(0, .int .u32 (U : Int))] = some D ∧ D.size = 174 ∧ D[0]? = some (.int .u32 (U : Int)) ∧ ∀ j, 1 ≤ j → j < 174 → D[j]? = some (.int .i64 0) := by
  refine ⟨_, built6 _ rfl, by rw [zc6]; simp, by rw [zc6]; simp, fun j h1 h2 => ?_⟩
  rw [zc6, Array.getElem?_setIfInBounds_ne (by omega), Array.getElem?_append_right (by simp; omega), Array.getElem?_replicate, if_pos (by simp; omega)]
theorem sta_made {w : World} {b U : Nat} {D : Array Value} {T : TypeId} (h : w.heap[b]? = some (.cells D T (0, 0))) (h1 : D.size = 174) (h2 : D[0]? = some (.int .u32 (U : Int))) (h3 : ∀ j, 1 ≤ j → j < 174 → D[j]? = some (.int .i64 0)) : Sta w b U 0 [] := by
  refine ⟨id, id, fun _ => none, ⟨by omega, D, T, h, h1, h2, h3 1 (by omega) (by omega), fun k hk => ⟨0, h3 _ (by omega) (by omega), fun h => by omega⟩, fun k hk => ⟨0, h3 _ (by omega) (by omega), fun h => by omega⟩⟩, ?_⟩
  rw [S6_nil, C6_nil]
  exact St6.start
theorem thirdBlock (w : World) (o o' o'' : Obj) : (((w.alloc o).alloc o').alloc o'').heap[w.heap.size]? = some o ∧ (((w.alloc o).alloc o').alloc o'').heap[w.heap.size + 1]? = some o' ∧ (((w.alloc o).alloc o').alloc o'').heap[w.heap.size + 2]? = some o'' := by
  refine ⟨?_, ?_, ?_⟩
  · rw [Below.heap_alloc _ _ _ (by simp; omega)]; exact first_block w o o'
  · rw [Below.heap_alloc _ _ _ (by simp)]; exact last_block w o o'
  · have := new_block ((w.alloc o).alloc o') o''
    simpa using this
set_option maxHeartbeats 2000000 in
theorem sortsOf0 (T : TypeId) (V : Value) (U N' : Nat) (l' : List (Bool × Nat × Nat)) (HF : ∀ w, Calls Tryz.prog 68 #[.iface T V] w fun e w' => e = .returned (.int .u32 (U : Int)) ∧ Below w.heap.size w w')
    (HW : ∀ b bx bw bm w, Env6 w b bx bw bm 26 (fun c => nmL c = true) lt6 → Sta w b U 26 [] → Calls Tryz.prog 80 #[.iface T V, .map (some bm), .pointer (some ⟨bx, 0, none⟩), .pointer (some ⟨bw, 0, none⟩)] w fun e w' => e = .returned (.tuple #[]) ∧ Sta w' b U N' l' ∧ Only b w w') (w : World) :
    Calls Tryz.prog 43 #[.iface T V] w fun e w' => (∃ b, e = .returned (.pointer (some ⟨b, 0, none⟩)) ∧ w.heap.size ≤ b ∧ Sta w' b U N' l') ∧ Below w.heap.size w w' := by
  obtain ⟨D, hbt, hD1, hD2, hD3⟩ := made6 U
  have HF' := Lib.hid HF
  have HW' := Lib.hid HW
  have HD := Lib.hid (And.intro hD1 (And.intro hD2 hD3))
  clear HF HW
  have hmm := @run_makeMap Tryz.prog
  go_enter Tryz.func43, Tryz.ntmps43
  go_wp2_with fail
  refine (HF'.out _).mono ?_
  rintro e w1 ⟨rfl, b1⟩
  have hsz1 := b1.size
  go_wp2_with (refine wpList_build6 rfl 75 (.tmp 8) rfl (.int .u32 (U : Int)) rfl D hbt ?_)
  obtain ⟨t1, t2, t3⟩ := thirdBlock w1 (.cells D 75) (.cells #[.pointer (some ⟨w1.heap.size, 0, none⟩)] 40) (.map #[] 0)
  obtain ⟨W, hW⟩ : ∃ W, W = (((w1.alloc (.cells D 75)).alloc (.cells #[.pointer (some ⟨w1.heap.size, 0, none⟩)] 40)).alloc (.map #[] 0)) := ⟨_, rfl⟩
  have bW : Below w.heap.size w W := by
    rw [hW]; exact ((b1.alloc hsz1 _).alloc (by simp; omega) _).alloc (by simp; omega) _
  have mW : MapAt W (w1.heap.size + 2) 0 (fun c => 97 ≤ c.toNat ∧ c.toNat < 97 + 0) lt6 := by
    refine ⟨.map [], ?_, fun c hc => by omega⟩
    have := World.ownsMap_made ((w1.alloc (.cells D 75)).alloc (.cells #[.pointer (some ⟨w1.heap.size, 0, none⟩)] 40)) Tryz.prog 5 (plainElem (H := Unit) Tryz.prog 3)
    rw [hW]
    simpa using this
  rw [← hW] at t1 t2 t3
  have SW := sta_made t1 HD.out.1 HD.out.2.1 HD.out.2.2
  rw [← hW]
  have HB := Lib.hid bW
  have HM := Lib.hid mW
  have HSt := Lib.hid SW
  have HX := Lib.hid (show ∃ T, W.heap[w1.heap.size + 1]? = some (.cells #[.pointer (some ⟨w1.heap.size, 0, none⟩)] T (0, 0)) from ⟨_, t2⟩)
  clear hW bW mW t1 t2 t3 SW hbt hD1 hD2 hD3
  obtain ⟨b, hb⟩ : ∃ b, b = w1.heap.size := ⟨_, rfl⟩
  rw [← hb] at HM HSt HX ⊢
  have hwb : w.heap.size ≤ b := by omega
  clear hb
  go_loopg [5] 26 (fun gk s5 wr => (∃ k : Nat, s5 = .int .u8 ((97 + k : Nat) : Int) ∧ k + gk = 26 ∧ Hid (Sta wr b U k []) ∧ Hid (MapAt wr (b + 2) k (fun c => 97 ≤ c.toNat ∧ c.toNat < 97 + k) lt6) ∧ Hid (∃ T, wr.heap[b + 1]? = some (.cells #[.pointer (some ⟨b, 0, none⟩)] T (0, 0)))) ∧ Hid (Below w.heap.size w wr))
  case atStart => exact ⟨⟨0, rfl, by omega, HSt, HM, HX⟩, HB⟩
  case round =>
    obtain ⟨⟨k, rfl, hg, hs, hm, hx⟩, bw⟩ := hrel
    by_cases hk : k < 26
    · have HA := Lib.hid (sta_add hs.out (by omega))
      obtain ⟨Tx, hx2⟩ := hx.out
      have cx := cellOf1 hx2
      have lx := lt_of_block hx2
      clear hx2
      go_wp2_with fail
      refine (HA.out).mono ?_
      rintro e w3 ⟨rfl, s3, o3⟩
      have S3 := Lib.hid s3
      have M3 := hm.out.of (o3.block _ hm.out.lt (by omega))
      have X3 := Lib.hid (show ∃ T, w3.heap[b + 1]? = some (.cells #[.pointer (some ⟨b, 0, none⟩)] T (0, 0)) by obtain ⟨T, h⟩ := hx.out; exact ⟨T, (o3.block _ (lt_of_block h) (by omega)).trans h⟩)
      obtain ⟨w4, hu, m4, u4⟩ := M3.upd (UInt8.ofNat (97 + k)) k (by omega) (by omega)
      have ec : ((UInt8.ofNat (97 + k)).toNat : Nat) = 97 + k := by rw [UInt8.toNat_ofNat']; omega
      rw [ec] at hu
      push_cast at hu
      have S4 := Lib.hid (show Sta w4 b U (k + 1) [] from S3.out.of (u4.block _ S3.out.lt (by omega)))
      have M4 := Lib.hid (show MapAt w4 (b + 2) (k + 1) (fun c => 97 ≤ c.toNat ∧ c.toNat < 97 + (k + 1)) lt6 by
        obtain ⟨D, h1, h2⟩ := m4
        refine ⟨D, h1, fun c hc z => ?_⟩
        have := h2 c (by
          by_cases e : c.toNat = 97 + k
          · exact .inl (u8_ext (by omega))
          · exact .inr (by omega)) z
        rw [this]
        unfold upd6
        by_cases e : c = UInt8.ofNat (97 + k)
        · rw [if_pos e, e]
          unfold lt6
          rw [ec, show 97 + k - 97 = k by omega]
        · rw [if_neg e])
      have X4 := Lib.hid (show ∃ T, w4.heap[b + 1]? = some (.cells #[.pointer (some ⟨b, 0, none⟩)] T (0, 0)) by obtain ⟨T, h⟩ := X3.out; exact ⟨T, (u4.block _ (lt_of_block h) (by omega)).trans h⟩)
      have B4 := Lib.hid (show Below w.heap.size w w4 from Below.only (Below.only bw.out o3 hwb bw.out.size) u4 (by omega) (Nat.le_trans bw.out.size o3.size))
      clear cx s3 M3 m4 ec
      go_wp2_with fail
      clear hu
      go_roundg (gk - 1)
      case measure => omega
      case rel => exact ⟨⟨k + 1, by go_num, by omega, S4, M4, X4⟩, B4⟩
    · obtain rfl : k = 26 := by omega
      obtain ⟨W3, hW3⟩ : ∃ W3, W3 = wr.alloc (.cells #[.func (.func 80) #[] #[.pointer (some ⟨b + 1, 0, none⟩), .pointer (some ⟨wr.heap.size, 0, none⟩)]] 112) := ⟨_, rfl⟩
      have b3 : Below wr.heap.size wr W3 := by rw [hW3]; exact (Below.refl _ _).alloc (Nat.le_refl _) _
      have E3 := Lib.hid (show Env6 W3 b (b + 1) wr.heap.size (b + 1 + 1) 26 (fun c => nmL c = true) lt6 by
        obtain ⟨T, h⟩ := hx.out
        refine ⟨⟨T, (b3.block _ (lt_of_block h)).trans h⟩, ⟨_, by rw [hW3]; exact new_block wr _⟩, ?_, by omega, by have := hs.out.lt; omega, by omega⟩
        obtain ⟨D, h1, h2⟩ := hm.out.of (b3.block _ hm.out.lt)
        exact ⟨D, h1, fun c hc z => h2 c (by have := (nmL_iff c).1 hc; omega) z⟩)
      have S3 := Lib.hid (hs.out.below b3)
      have B3 := Lib.hid (below_trans bw.out b3 bw.out.size)
      rw [hW3] at E3 S3 B3
      have lb := new_block wr (.cells #[.nilFunc] 112)
      have c9 := cellOf1 lb
      have f9 := free_of_one lb
      have hst : (store ⟨wr.heap.size, 0, none⟩ (.func (.func 80) #[] #[.pointer (some ⟨b + 1, 0, none⟩), .pointer (some ⟨wr.heap.size, 0, none⟩)])).run Tryz.prog (wr.alloc (.cells #[.nilFunc] 112)) = .ok () ((wr.alloc (.cells #[.nilFunc] 112)).setCell ⟨wr.heap.size, 0, none⟩ (.func (.func 80) #[] #[.pointer (some ⟨b + 1, 0, none⟩), .pointer (some ⟨wr.heap.size, 0, none⟩)])) := by
        rw [run_store _ _ _ _ _ rfl, c9]
        simp [f9]
      clear lb hW3 b3
      go_wp2_with fail
      refine (HW'.out b (b + 1) wr.heap.size (b + 1 + 1) _ E3.out S3.out).mono ?_
      rintro e w5 ⟨rfl, s5, o5⟩
      have E5 := E3.out.only o5
      have cx := E5.cx
      have S5 := Lib.hid s5
      have B5 := Lib.hid (Below.only B3.out o5 hwb B3.out.size)
      clear s5 E5 hst c9 f9
      go_wp2_with fail
      go_ret
      exact ⟨⟨b, rfl, hwb, S5.out⟩, B5.out⟩
theorem sortsOf_any (t : Tm) (ho : t.ok nmL = true) (h60 : t.size ≤ 60) (w : World) : Calls Tryz.prog 43 #[.iface (tyOf t) (pay t)] w fun e w' => (∃ b, e = .returned (.pointer (some ⟨b, 0, none⟩)) ∧ w.heap.size ≤ b ∧ Sta w' b (setN t.free) (ask6 t lt6 26).2 (ask6 t lt6 26).1) ∧ Below w.heap.size w w' := by
  refine sortsOf0 _ _ (setN t.free) _ _ (freeNames_any t ho) (fun b bx bw bm w he hs => ?_) w
  have := walk_ok b bx bw (setN t.free) t bm 26 _ lt6 [] 26 w he hs (fun x hx => ?_) (by omega) (by omega)
  · rw [List.nil_append] at this; exact this
  · have h := lets_free t ho x hx
    exact ⟨(nmL_iff x).2 h, by unfold lt6; omega⟩
set_option maxHeartbeats 1000000 in
theorem readSorts_none (s : ByteArray) (hg : good s.data.toList = none) (hm : s.size ≤ 9223372036854775807) (w : World) : Calls Tryz.prog 21 #[.string s] w fun e w' => e = .returned (.tuple #[.pointer none, .bool false]) ∧ Below w.heap.size w w' := by
  have H := Lib.hid (parse_none hg w hm)
  clear hg
  go_enter Tryz.func21, Tryz.ntmps21
  go_wp2_with fail
  refine (H.out).mono ?_
  rintro e w1 ⟨rfl, bl⟩
  go_wp2_with fail
  go_ret2
  exact ⟨rfl, bl⟩
set_option maxHeartbeats 1000000 in
theorem readSorts_some (s : ByteArray) (t : Tm) (hg : good s.data.toList = some t) (hm : s.size ≤ 9223372036854775807) (w : World) : Calls Tryz.prog 21 #[.string s] w fun e w' => (∃ b, e = .returned (.tuple #[.pointer (some ⟨b, 0, none⟩), .bool true]) ∧ w.heap.size ≤ b ∧ Sta w' b (setN t.free) (ask6 t lt6 26).2 (ask6 t lt6 26).1) ∧ Below w.heap.size w w' := by
  have H := Lib.hid (parse_some hg w hm)
  obtain ⟨es, hL, hE, h300, h60⟩ := good_S hg
  have HS := sortsOf_any t hL h60
  obtain ⟨T, hT⟩ : ∃ T, T = tyOf t := ⟨_, rfl⟩
  obtain ⟨V, hV⟩ : ∃ V, V = pay t := ⟨_, rfl⟩
  obtain ⟨U, hU⟩ : ∃ U, U = setN t.free := ⟨_, rfl⟩
  obtain ⟨A, hA⟩ : ∃ A, A = ask6 t lt6 26 := ⟨_, rfl⟩
  rw [← hT, ← hV, ← hU, ← hA] at HS
  rw [← hT, ← hV] at H
  rw [← hU, ← hA]
  have H2 := Lib.hid HS
  clear hg es hL hE h300 h60 HS hT hV hU hA
  go_enter Tryz.func21, Tryz.ntmps21
  go_wp2_with fail
  refine (H.out).mono ?_
  rintro e w1 ⟨rfl, bl⟩
  go_wp2_with fail
  refine (H2.out _).mono ?_
  rintro e w2 ⟨⟨b, rfl, hb, hs⟩, b2⟩
  have S2 := Lib.hid hs
  clear hs
  go_wp2_with fail
  go_ret2
  exact ⟨⟨b, rfl, Nat.le_trans bl.size hb, S2.out⟩, below_trans bl b2 bl.size⟩

end Go.Proofs.YtlhmjcfnfefliaaGreat.T1
