/- Texts of the proof, put together: Rq. No conditions. -/
import Derived.Test.YtajgncapgeiniaaGreatHap
import Derived.Test.YtajgncapgeiniaaGreatHaq
import Derived.Test.YtajgncapgeiniaaGreatHaz
import Derived.Test.YtajgncapgeiniaaGreatHbb

/- Another process in place of the subterm at a path, in the program. -/
namespace Go.Proofs.YtajgncapgeiniaaGreat.T1
open Go.RowKit
set_option maxRecDepth 100000
set_option linter.unusedVariables false

/-- Another part, at an index. -/
def Tm.withP : Tm → Nat → Tm → Tm
  | .nil, _, _ => .nil
  | .snd a b _, _, q => .snd a b q
  | .rcv a x _, _, q => .rcv a x q
  | .tau _, _, q => .tau q
  | .sum p q, k, r => if k = 0 then .sum r q else .sum p r
  | .par p q, k, r => if k = 0 then .par r q else .par p r
  | .own x _, _, q => .own x q
  | .mat a b _, _, q => .mat a b q
  | .rep _, _, q => .rep q
/-- Another process at a path. -/
def putP : Tm → List UInt8 → Tm → Option Tm
  | _, [], q => some q
  | t, c :: l, q => match stepN t c.toNat with
    | some p => (putP p l q).map fun r => t.withP (c.toNat - 48) r
    | none => none
theorem putP_none (l : List UInt8) : ∀ (t q : Tm), putP t l q = none ↔ atP t l = none := by
  induction l with
  | nil => intro t q; simp [putP, atP]
  | cons c l ih =>
    intro t q
    simp only [putP, atP]
    cases stepN t c.toNat with
    | none => simp
    | some p => simp [ih p q]
theorem step_cases (t p : Tm) (r : Nat) (h : stepN t r = some p) : (t.parts = [p] ∧ r = 48) ∨ (∃ q, t.parts = [p, q] ∧ r = 48) ∨ (∃ q, t.parts = [q, p] ∧ r = 49) := by
  unfold stepN at h
  split at h
  · cases h
  · rcases parts_cases t with h1 | ⟨a, h1⟩ | ⟨a, b, h1⟩
    · rw [h1] at h; simp at h
    · rw [h1] at h
      rcases Nat.lt_or_ge (r - 48) 1 with h2 | h2
      · rw [show r - 48 = 0 by omega] at h; simp at h; subst h; exact .inl ⟨h1, by omega⟩
      · rw [List.getElem?_eq_none (by simpa using h2)] at h; cases h
    · rw [h1] at h
      rcases Nat.lt_or_ge (r - 48) 1 with h2 | h2
      · rw [show r - 48 = 0 by omega] at h; simp at h; subst h; exact .inr (.inl ⟨b, h1, by omega⟩)
      · rcases Nat.lt_or_ge (r - 48) 2 with h3 | h3
        · rw [show r - 48 = 1 by omega] at h; simp at h; subst h; exact .inr (.inr ⟨a, h1, by omega⟩)
        · rw [List.getElem?_eq_none (by simpa using h3)] at h; cases h
theorem with_ok (t p r : Tm) (c : Nat) (hs : stepN t c = some p) (nm : UInt8 → Bool) (ht : t.ok nm = true) (hr : r.ok nm = true) : (t.withP (c - 48) r).ok nm = true := by
  cases t <;> simp_all [Tm.withP, Tm.ok] <;> split <;> simp_all [Tm.ok]
theorem with_len (t p r : Tm) (c : Nat) (hs : stepN t c = some p) : (t.withP (c - 48) r).pr.length + p.pr.length = t.pr.length + r.pr.length ∧ (t.withP (c - 48) r).size + p.size = t.size + r.size := by
  rcases step_cases t p c hs with ⟨h, rfl⟩ | ⟨q, h, rfl⟩ | ⟨q, h, rfl⟩ <;> cases t <;> simp_all [Tm.parts, Tm.withP, Tm.pr, Tm.size] <;> omega
theorem putP_ok (l : List UInt8) : ∀ (t q r : Tm), putP t l q = some r → (∀ nm, t.ok nm = true → q.ok nm = true → r.ok nm = true) ∧ r.pr.length ≤ t.pr.length + q.pr.length ∧ r.size ≤ t.size + q.size := by
  induction l with
  | nil => intro t q r h; simp [putP] at h; subst h; exact ⟨fun _ _ h => h, by omega, by omega⟩
  | cons c l ih =>
    intro t q r h
    simp only [putP] at h
    cases hs : stepN t c.toNat with
    | none => rw [hs] at h; cases h
    | some p =>
      rw [hs] at h
      cases hp : putP p l q with
      | none => simp [hp] at h
      | some r' =>
        simp [hp] at h
        subst h
        obtain ⟨h1, h2, h3⟩ := ih p q r' hp
        obtain ⟨h4, h5⟩ := with_len t p r' c.toNat hs
        have hsub := (sub_parts t p (stepN_mem t p _ hs)).1
        exact ⟨fun nm ht hq => with_ok t p r' c.toNat hs nm ht (h1 nm (hsub nm ht) hq), by omega, by omega⟩

/-- What withParts makes of the parts in memory. -/
theorem withP_one (t p r : Tm) (h : t.parts = [p]) (b cap : Nat) (w : World) (hcap : 1 ≤ cap) (hc : w.cell? ⟨b, 0, none⟩ = some (.iface (tyOf r) (pay r))) :
    Calls Tryz.prog 109 #[.iface (tyOf t) (pay t), .slice (some ⟨b, 0, none⟩) 1 cap] w fun e w' => e = .returned (.iface (tyOf (t.withP 0 r)) (pay (t.withP 0 r))) ∧ Below w.heap.size w w' := by
  cases t with
  | nil => cases h
  | snd a x q => exact wp_send _ _ _ _ _ _ _ b cap w (.inr ⟨_, _, rfl⟩) hcap hc
  | rcv a x q => exact wp_receive _ _ _ _ _ _ _ b cap w (.inr ⟨_, _, rfl⟩) hcap hc
  | tau q => exact wp_silent _ _ _ b cap w (.inr ⟨_, _, rfl⟩) hcap hc
  | sum q u => cases h
  | par q u => cases h
  | own x q => exact wp_own _ _ _ _ _ b cap w (.inr ⟨_, _, rfl⟩) hcap hc
  | mat a x q => exact wp_match _ _ _ _ _ _ _ b cap w (.inr ⟨_, _, rfl⟩) hcap hc
  | rep q => exact wp_repeat _ _ _ b cap w (.inr ⟨_, _, rfl⟩) hcap hc
theorem withP_two (t p q r s : Tm) (h : t.parts = [p, q]) (b cap : Nat) (w : World) (hcap : 2 ≤ cap) (hc : w.cell? ⟨b, 0, none⟩ = some (.iface (tyOf r) (pay r))) (hc1 : w.cell? ⟨b, 1, none⟩ = some (.iface (tyOf s) (pay s))) :
    Calls Tryz.prog 109 #[.iface (tyOf t) (pay t), .slice (some ⟨b, 0, none⟩) 2 cap] w fun e w' => e = .returned (.iface (tyOf ((t.withP 0 r).withP 1 s)) (pay ((t.withP 0 r).withP 1 s))) ∧ Below w.heap.size w w' := by
  cases t with
  | sum a c => exact wp_choice _ _ _ _ _ _ b cap w (.inr ⟨_, _, rfl⟩) (.inr ⟨_, _, rfl⟩) hcap hc hc1
  | par a c => exact wp_beside _ _ _ _ _ _ b cap w (.inr ⟨_, _, rfl⟩) (.inr ⟨_, _, rfl⟩) hcap hc hc1
  | nil => cases h
  | snd a x q => cases h
  | rcv a x q => cases h
  | tau q => cases h
  | own x q => cases h
  | mat a x q => cases h
  | rep q => cases h
theorem with_same0 (t p q r : Tm) (h : t.parts = [p, q]) : (t.withP 0 r).withP 1 q = t.withP 0 r := by cases t <;> simp_all [Tm.parts, Tm.withP]
theorem with_same1 (t p q r : Tm) (h : t.parts = [p, q]) : (t.withP 0 p).withP 1 r = t.withP 1 r := by cases t <;> simp_all [Tm.parts, Tm.withP]

theorem two_free {w : World} {b : Nat} {x y : Value} {T : TypeId} (h : w.heap[b]? = some (.cells #[x, y] T (0, 0))) (j : Nat) : w.frozen? ⟨b, j, none⟩ = false := by simp [World.frozen?, h]
theorem two_set0 {w : World} {b : Nat} {x y : Value} {T : TypeId} (h : w.heap[b]? = some (.cells #[x, y] T (0, 0))) (v : Value) : (w.setCell ⟨b, 0, none⟩ v).heap[b]? = some (.cells #[v, y] T (0, 0)) := by
  have hlt := lt_of_block h
  have h' : w.heap[b] = .cells #[x, y] T (0, 0) := by simpa [Array.getElem?_eq_getElem hlt] using h
  show (w.heap.modify b _)[b]? = _
  rw [Array.getElem?_eq_getElem (by simpa using hlt), Array.getElem_modify_self, h']
  rfl
theorem two_set1 {w : World} {b : Nat} {x y : Value} {T : TypeId} (h : w.heap[b]? = some (.cells #[x, y] T (0, 0))) (v : Value) : (w.setCell ⟨b, 1, none⟩ v).heap[b]? = some (.cells #[x, v] T (0, 0)) := by
  have hlt := lt_of_block h
  have h' : w.heap[b] = .cells #[x, y] T (0, 0) := by simpa [Array.getElem?_eq_getElem hlt] using h
  show (w.heap.modify b _)[b]? = _
  rw [Array.getElem?_eq_getElem (by simpa using hlt), Array.getElem_modify_self, h']
  rfl
set_option maxHeartbeats 1000000 in
theorem ra_nil (T TQ : TypeId) (V VQ : Value) (w : World) : Calls Tryz.prog 66 #[.iface T V, .string ⟨#[]⟩, .iface TQ VQ] w fun e w' => e = .returned (.tuple #[.iface TQ VQ, .bool true]) ∧ Below w.heap.size w w' := by
  go_enter Tryz.func66, Tryz.ntmps66
  go_wp2_with fail
  go_ret2
  exact ⟨rfl, Below.refl _ _⟩
set_option maxHeartbeats 1000000 in
theorem ra_none (T TQ : TypeId) (V VQ : Value) (X : ByteArray) (hX : 0 < X.size) (hne : X.toList.isEmpty = false) (HPA : ∀ w, Calls Tryz.prog 103 #[.iface T V, .int .i32 ((X[0]'hX).toNat : Int)] w fun e w' => e = .returned (.tuple #[.nilIface, .bool false]) ∧ Below w.heap.size w w') (w : World) :
    Calls Tryz.prog 66 #[.iface T V, .string X, .iface TQ VQ] w fun e w' => e = .returned (.tuple #[.nilIface, .bool false]) ∧ Below w.heap.size w w' := by
  have H1 := Lib.hid HPA
  have hb : (X[0]'hX).toNat < 256 := (X[0]'hX).toNat_lt
  clear HPA
  go_enter Tryz.func66, Tryz.ntmps66
  go_wp2_with fail
  refine (H1.out _).mono ?_
  rintro e w1 ⟨rfl, b1⟩
  go_wp2_with fail
  go_ret2
  exact ⟨rfl, b1⟩
set_option maxHeartbeats 1000000 in
theorem ra_fail (T TQ tp : TypeId) (V VQ vp : Value) (X : ByteArray) (hX : 0 < X.size) (hne : X.toList.isEmpty = false) (HPA : ∀ w, Calls Tryz.prog 103 #[.iface T V, .int .i32 ((X[0]'hX).toNat : Int)] w fun e w' => e = .returned (.tuple #[.iface tp vp, .bool true]) ∧ Below w.heap.size w w')
    (IH : ∀ w, Calls Tryz.prog 66 #[.iface tp vp, .string (X.extract 1 X.size), .iface TQ VQ] w fun e w' => e = .returned (.tuple #[.nilIface, .bool false]) ∧ Below w.heap.size w w') (w : World) :
    Calls Tryz.prog 66 #[.iface T V, .string X, .iface TQ VQ] w fun e w' => e = .returned (.tuple #[.nilIface, .bool false]) ∧ Below w.heap.size w w' := by
  have H1 := Lib.hid HPA
  have H2 := Lib.hid IH
  have hb : (X[0]'hX).toNat < 256 := (X[0]'hX).toNat_lt
  clear HPA IH
  go_enter Tryz.func66, Tryz.ntmps66
  go_wp2_with fail
  refine (H1.out _).mono ?_
  rintro e w1 ⟨rfl, b1⟩
  go_wp2_with fail
  refine (H2.out _).mono ?_
  rintro e w2 ⟨rfl, b2⟩
  go_wp2_with fail
  go_ret2
  exact ⟨rfl, below_trans b1 b2 b1.size⟩
set_option maxHeartbeats 2000000 in
theorem ra_one (T TQ tp tr T2 : TypeId) (V VQ vp vr V2 : Value) (X : ByteArray) (hX : 0 < X.size) (hne : X.toList.isEmpty = false) (hk : ((X[0]'hX).toNat : Int) = 48) (HPA : ∀ w, Calls Tryz.prog 103 #[.iface T V, .int .i32 48] w fun e w' => e = .returned (.tuple #[.iface tp vp, .bool true]) ∧ Below w.heap.size w w')
    (IH : ∀ w, Calls Tryz.prog 66 #[.iface tp vp, .string (X.extract 1 X.size), .iface TQ VQ] w fun e w' => e = .returned (.tuple #[.iface tr vr, .bool true]) ∧ Below w.heap.size w w') (hP : ∃ (F : FuncId) (R : Value), (∀ n w, (method (n + 1) T V "loop.example/g01175/impl.parts").run Tryz.prog w = .ok (F, R) w) ∧ (∀ n w, (nilAhead (n + 1) T V "loop.example/g01175/impl.parts").run Tryz.prog w = .ok (some false) w) ∧ (∀ args w, (callFunc F args).run Tryz.prog w = .ok (.enter F args) w) ∧ ∀ w, Calls Tryz.prog F #[R] w fun e w' => ∃ b, e = .returned (.slice (some ⟨b, 0, none⟩) 1 1) ∧ w.heap.size ≤ b ∧ w'.heap[b]? = some (.cells #[.iface tp vp] 46 (0, 0)) ∧ Below w.heap.size w w')
    (HW : ∀ (b : Nat) (w : World), w.cell? ⟨b, 0, none⟩ = some (.iface tr vr) → Calls Tryz.prog 109 #[.iface T V, .slice (some ⟨b, 0, none⟩) 1 1] w fun e w' => e = .returned (.iface T2 V2) ∧ Below w.heap.size w w') (w : World) :
    Calls Tryz.prog 66 #[.iface T V, .string X, .iface TQ VQ] w fun e w' => e = .returned (.tuple #[.iface T2 V2, .bool true]) ∧ Below w.heap.size w w' := by
  obtain ⟨F, RR, hm, hn, hc, hp⟩ := hP
  have HP := Lib.hid hp
  have H1 := Lib.hid HPA
  have H2 := Lib.hid IH
  have H3 := Lib.hid HW
  clear HPA IH hp HW
  go_enter Tryz.func66, Tryz.ntmps66
  go_wp2_with fail
  refine (H1.out _).mono ?_
  rintro e w1 ⟨rfl, b1⟩
  go_wp2_with fail
  refine (H2.out _).mono ?_
  rintro e w2 ⟨rfl, b2⟩
  have bl2 := below_trans b1 b2 b1.size
  go_wp2_with fail
  refine (HP.out _).mono ?_
  rintro e w3 ⟨b, rfl, hb, hh, b3⟩
  have bl3 := below_trans bl2 b3 bl2.size
  have Hh := Lib.hid hh
  have c0 := cellOf1 hh
  have f0 := free_of_one hh
  clear hh
  go_wp2_with fail
  refine (H3.out b _ (cellOf1 (one_setCell Hh.out))).mono ?_
  rintro e w4 ⟨rfl, b4⟩
  have bl4 := below_trans (bl3.setCell (Nat.le_trans bl2.size hb) _) b4 (by simp; exact bl3.size)
  go_wp2_with fail
  go_ret2
  exact ⟨rfl, bl4⟩
set_option maxHeartbeats 2000000 in
theorem ra_twoA (T TQ tp tr T2 : TypeId) (V VQ vp vr V2 : Value) (tq : TypeId) (vq : Value) (X : ByteArray) (hX : 0 < X.size) (hne : X.toList.isEmpty = false) (hk : ((X[0]'hX).toNat : Int) = 48) (HPA : ∀ w, Calls Tryz.prog 103 #[.iface T V, .int .i32 48] w fun e w' => e = .returned (.tuple #[.iface tp vp, .bool true]) ∧ Below w.heap.size w w')
    (IH : ∀ w, Calls Tryz.prog 66 #[.iface tp vp, .string (X.extract 1 X.size), .iface TQ VQ] w fun e w' => e = .returned (.tuple #[.iface tr vr, .bool true]) ∧ Below w.heap.size w w') (hP : ∃ (F : FuncId) (R : Value), (∀ n w, (method (n + 1) T V "loop.example/g01175/impl.parts").run Tryz.prog w = .ok (F, R) w) ∧ (∀ n w, (nilAhead (n + 1) T V "loop.example/g01175/impl.parts").run Tryz.prog w = .ok (some false) w) ∧ (∀ args w, (callFunc F args).run Tryz.prog w = .ok (.enter F args) w) ∧ ∀ w, Calls Tryz.prog F #[R] w fun e w' => ∃ b, e = .returned (.slice (some ⟨b, 0, none⟩) 2 2) ∧ w.heap.size ≤ b ∧ w'.heap[b]? = some (.cells #[.iface tp vp, .iface tq vq] 46 (0, 0)) ∧ Below w.heap.size w w')
    (HW : ∀ (b : Nat) (w : World), w.cell? ⟨b, 0, none⟩ = some (.iface tr vr) → w.cell? ⟨b, 1, none⟩ = some (.iface tq vq) → Calls Tryz.prog 109 #[.iface T V, .slice (some ⟨b, 0, none⟩) 2 2] w fun e w' => e = .returned (.iface T2 V2) ∧ Below w.heap.size w w') (w : World) :
    Calls Tryz.prog 66 #[.iface T V, .string X, .iface TQ VQ] w fun e w' => e = .returned (.tuple #[.iface T2 V2, .bool true]) ∧ Below w.heap.size w w' := by
  obtain ⟨F, RR, hm, hn, hc, hp⟩ := hP
  have HP := Lib.hid hp
  have H1 := Lib.hid HPA
  have H2 := Lib.hid IH
  have H3 := Lib.hid HW
  clear HPA IH hp HW
  go_enter Tryz.func66, Tryz.ntmps66
  go_wp2_with fail
  refine (H1.out _).mono ?_
  rintro e w1 ⟨rfl, b1⟩
  go_wp2_with fail
  refine (H2.out _).mono ?_
  rintro e w2 ⟨rfl, b2⟩
  have bl2 := below_trans b1 b2 b1.size
  go_wp2_with fail
  refine (HP.out _).mono ?_
  rintro e w3 ⟨b, rfl, hb, hh, b3⟩
  have bl3 := below_trans bl2 b3 bl2.size
  have Hh := Lib.hid hh
  have c0 := cellOf2a hh
  have c1 := cellOf2b hh
  have f0 := two_free hh 0
  have f1 := two_free hh 1
  clear hh
  go_wp2_with fail
  refine (H3.out b _ (cellOf2a (two_set0 Hh.out _)) (cellOf2b (two_set0 Hh.out _))).mono ?_
  rintro e w4 ⟨rfl, b4⟩
  have bl4 := below_trans (bl3.setCell (Nat.le_trans bl2.size hb) _) b4 (by simp; exact bl3.size)
  go_wp2_with fail
  go_ret2
  exact ⟨rfl, bl4⟩
set_option maxHeartbeats 2000000 in
theorem ra_twoB (T TQ tp tr T2 : TypeId) (V VQ vp vr V2 : Value) (tq : TypeId) (vq : Value) (X : ByteArray) (hX : 0 < X.size) (hne : X.toList.isEmpty = false) (hk : ((X[0]'hX).toNat : Int) = 49) (HPA : ∀ w, Calls Tryz.prog 103 #[.iface T V, .int .i32 49] w fun e w' => e = .returned (.tuple #[.iface tp vp, .bool true]) ∧ Below w.heap.size w w')
    (IH : ∀ w, Calls Tryz.prog 66 #[.iface tp vp, .string (X.extract 1 X.size), .iface TQ VQ] w fun e w' => e = .returned (.tuple #[.iface tr vr, .bool true]) ∧ Below w.heap.size w w') (hP : ∃ (F : FuncId) (R : Value), (∀ n w, (method (n + 1) T V "loop.example/g01175/impl.parts").run Tryz.prog w = .ok (F, R) w) ∧ (∀ n w, (nilAhead (n + 1) T V "loop.example/g01175/impl.parts").run Tryz.prog w = .ok (some false) w) ∧ (∀ args w, (callFunc F args).run Tryz.prog w = .ok (.enter F args) w) ∧ ∀ w, Calls Tryz.prog F #[R] w fun e w' => ∃ b, e = .returned (.slice (some ⟨b, 0, none⟩) 2 2) ∧ w.heap.size ≤ b ∧ w'.heap[b]? = some (.cells #[.iface tq vq, .iface tp vp] 46 (0, 0)) ∧ Below w.heap.size w w')
    (HW : ∀ (b : Nat) (w : World), w.cell? ⟨b, 0, none⟩ = some (.iface tq vq) → w.cell? ⟨b, 1, none⟩ = some (.iface tr vr) → Calls Tryz.prog 109 #[.iface T V, .slice (some ⟨b, 0, none⟩) 2 2] w fun e w' => e = .returned (.iface T2 V2) ∧ Below w.heap.size w w') (w : World) :
    Calls Tryz.prog 66 #[.iface T V, .string X, .iface TQ VQ] w fun e w' => e = .returned (.tuple #[.iface T2 V2, .bool true]) ∧ Below w.heap.size w w' := by
  obtain ⟨F, RR, hm, hn, hc, hp⟩ := hP
  have HP := Lib.hid hp
  have H1 := Lib.hid HPA
  have H2 := Lib.hid IH
  have H3 := Lib.hid HW
  clear HPA IH hp HW
  go_enter Tryz.func66, Tryz.ntmps66
  go_wp2_with fail
  refine (H1.out _).mono ?_
  rintro e w1 ⟨rfl, b1⟩
  go_wp2_with fail
  refine (H2.out _).mono ?_
  rintro e w2 ⟨rfl, b2⟩
  have bl2 := below_trans b1 b2 b1.size
  go_wp2_with fail
  refine (HP.out _).mono ?_
  rintro e w3 ⟨b, rfl, hb, hh, b3⟩
  have bl3 := below_trans bl2 b3 bl2.size
  have Hh := Lib.hid hh
  have c0 := cellOf2a hh
  have c1 := cellOf2b hh
  have f0 := two_free hh 0
  have f1 := two_free hh 1
  clear hh
  go_wp2_with fail
  refine (H3.out b _ (cellOf2a (two_set1 Hh.out _)) (cellOf2b (two_set1 Hh.out _))).mono ?_
  rintro e w4 ⟨rfl, b4⟩
  have bl4 := below_trans (bl3.setCell (Nat.le_trans bl2.size hb) _) b4 (by simp; exact bl3.size)
  go_wp2_with fail
  go_ret2
  exact ⟨rfl, bl4⟩
theorem cons_empty (c : UInt8) (l : List UInt8) : (B (c :: l)).toList.isEmpty = false := by rw [ByteArray.toList_eq]; rfl
theorem cons_ext (c : UInt8) (l : List UInt8) : (B (c :: l)).extract 1 (B (c :: l)).size = B l := by
  apply B_eq
  rw [ByteArray.data_extract, Array.toList_extract, B_list]
  simp [List.extract_eq_take_drop, B_size]
theorem replaceAt_any (q : Tm) (l : List UInt8) : ∀ (t : Tm) (w : World), Calls Tryz.prog 66 #[.iface (tyOf t) (pay t), .string (B l), .iface (tyOf q) (pay q)] w (SubPost (putP t l q) w) := by
  induction l with
  | nil => exact fun t w => (ra_nil _ _ _ _ w).mono fun _ _ h => SubPost.yes rfl h
  | cons c l ih =>
    intro t w
    have hX : 0 < (B (c :: l)).size := by rw [B_size]; simp
    have hc : (B (c :: l))[0]'hX = c := byte_of (B_list _) 0 hX (by simp)
    have hPA := fun w => partAt_any t c.toNat (by have := c.toNat_lt; omega) w
    have he := cons_empty c l
    cases hs : stepN t c.toNat with
    | none =>
      rw [hs] at hPA
      refine (ra_none _ _ _ _ _ hX he (fun w => ?_) w).mono fun _ _ h => SubPost.no (by simp [putP, hs]) h
      rw [hc]
      refine (hPA w).mono ?_
      rintro e w' ⟨⟨p, h, _⟩ | ⟨_, h⟩, b⟩
      · cases h
      · exact ⟨h, b⟩
    | some p =>
      rw [hs] at hPA
      have hPA' : ∀ w, Calls Tryz.prog 103 #[.iface (tyOf t) (pay t), .int .i32 (c.toNat : Int)] w fun e w' => e = .returned (.tuple #[.iface (tyOf p) (pay p), .bool true]) ∧ Below w.heap.size w w' := fun w => (hPA w).mono (by
        rintro e w' ⟨⟨p', h, h'⟩ | ⟨h, _⟩, b⟩
        · cases h; exact ⟨h', b⟩
        · cases h)
      have hI := ih p
      cases hr : putP p l q with
      | none =>
        rw [hr] at hI
        refine (ra_fail _ _ _ _ _ _ _ hX he (by rw [hc]; exact hPA') (fun w => ?_) w).mono fun _ _ h => SubPost.no (by simp [putP, hs, hr]) h
        rw [cons_ext]
        refine (hI w).mono ?_
        rintro e w' ⟨⟨p, h, _⟩ | ⟨_, h⟩, b⟩
        · cases h
        · exact ⟨h, b⟩
      | some r =>
        rw [hr] at hI
        have hI' : ∀ w, Calls Tryz.prog 66 #[.iface (tyOf p) (pay p), .string ((B (c :: l)).extract 1 (B (c :: l)).size), .iface (tyOf q) (pay q)] w fun e w' => e = .returned (.tuple #[.iface (tyOf r) (pay r), .bool true]) ∧ Below w.heap.size w w' := fun w => by
          rw [cons_ext]
          refine (hI w).mono ?_
          rintro e w' ⟨⟨p', h, h'⟩ | ⟨h, _⟩, b⟩
          · cases h; exact ⟨h', b⟩
          · cases h
        have hres : putP t (c :: l) q = some (t.withP (c.toNat - 48) r) := by simp [putP, hs, hr]
        have hpf := (parts_fact t).pf
        rcases step_cases t p c.toNat hs with ⟨h1, h2⟩ | ⟨u, h1, h2⟩ | ⟨u, h1, h2⟩
        · rw [h1] at hpf
          rw [h2] at hPA' hres
          exact (ra_one _ _ _ _ _ _ _ _ _ _ _ hX he (by rw [hc, h2]; rfl) hPA' hI' hpf (fun b w hc => withP_one t p r h1 b 1 w (by omega) hc) w).mono fun _ _ h => SubPost.yes hres h
        · rw [h1] at hpf
          rw [h2] at hPA' hres
          exact (ra_twoA _ _ _ _ _ _ _ _ _ _ _ _ _ hX he (by rw [hc, h2]; rfl) hPA' hI' hpf (fun b w hc hc1 => by have := withP_two t p u r u h1 b 2 w (by omega) hc hc1; rw [with_same0 t p u r h1] at this; exact this) w).mono fun _ _ h => SubPost.yes hres h
        · rw [h1] at hpf
          rw [h2] at hPA' hres
          exact (ra_twoB _ _ _ _ _ _ _ _ _ _ _ _ _ hX he (by rw [hc, h2]; rfl) hPA' hI' hpf (fun b w hc hc1 => by have := withP_two t u p u r h1 b 2 w (by omega) hc hc1; rw [with_same1 t u p r h1] at this; exact this) w).mono fun _ _ h => SubPost.yes hres h

set_option maxHeartbeats 1000000 in
theorem processText_any (t : Tm) (hl : t.pr.length ≤ 900) (ht : t.size ≤ 1000) (w : World) : Calls Tryz.prog 67 #[.iface (tyOf t) (pay t)] w fun e w' => ((t.pr.length ≤ 300 ∧ t.size ≤ 60 ∧ e = .returned (.tuple #[.string (S t), .bool true])) ∨ (¬ (t.pr.length ≤ 300 ∧ t.size ≤ 60) ∧ e = .returned (.tuple #[.string ⟨#[]⟩, .bool false]))) ∧ Below w.heap.size w w' := by
  have hT := textOf_any t hl
  have hZ := size_any t ht
  obtain ⟨T, hT1⟩ : ∃ T, T = tyOf t := ⟨_, rfl⟩
  obtain ⟨V, hV1⟩ : ∃ V, V = pay t := ⟨_, rfl⟩
  obtain ⟨X, hX⟩ : ∃ X, X = S t := ⟨_, rfl⟩
  obtain ⟨N, hN⟩ : ∃ N, N = t.size := ⟨_, rfl⟩
  have hXs : X.size = t.pr.length := by rw [hX, S_size]
  obtain ⟨L, hL⟩ : ∃ L, L = t.pr.length := ⟨_, rfl⟩
  rw [← hT1, ← hV1, ← hX] at hT
  rw [← hT1, ← hV1, ← hN] at hZ
  rw [← hL] at hXs ⊢
  rw [← hT1, ← hV1, ← hX, ← hN]
  have H1 := Lib.hid hT
  have H2 := Lib.hid hZ
  clear hT hZ hT1 hV1 hX hN hL hl ht
  by_cases g1 : 300 < L
  · have g1' : 300 < X.size := by omega
    go_enter Tryz.func67, Tryz.ntmps67
    go_wp2_with fail
    refine (H1.out _).mono ?_
    rintro e w1 ⟨rfl, b1⟩
    go_wp2_with fail
    go_ret2
    exact ⟨.inr ⟨fun h => by omega, rfl⟩, b1⟩
  · have g1' : ¬ 300 < X.size := by omega
    by_cases g2 : (60 : Int) < (N : Int)
    · go_enter Tryz.func67, Tryz.ntmps67
      go_wp2_with fail
      refine (H1.out _).mono ?_
      rintro e w1 ⟨rfl, b1⟩
      go_wp2_with fail
      refine (H2.out _).mono ?_
      rintro e w2 ⟨rfl, b2⟩
      go_wp2_with fail
      go_ret2
      exact ⟨.inr ⟨fun h => by omega, rfl⟩, below_trans b1 b2 b1.size⟩
    · go_enter Tryz.func67, Tryz.ntmps67
      go_wp2_with fail
      refine (H1.out _).mono ?_
      rintro e w1 ⟨rfl, b1⟩
      go_wp2_with fail
      refine (H2.out _).mono ?_
      rintro e w2 ⟨rfl, b2⟩
      go_wp2_with fail
      go_ret2
      exact ⟨.inl ⟨by omega, by omega, rfl⟩, below_trans b1 b2 b1.size⟩

end Go.Proofs.YtajgncapgeiniaaGreat.T1
