/- Texts of the proof, put together: PureB, Mem, Enc, Ap. No conditions. -/
import Derived.Test.YtinkioodkgccjaaDoorHaa
import Derived.Below
import Derived.OneCell
import Derived.Deep.Draws
import Derived.Test.YtinkioodkgccjaaDoorProg
import Derived.Maps.AppendAt
import Derived.Laws.AppendOwnNone
import Derived.Laws.AppendOwn

/- Where a process ends in a text: plain lemmas. -/
namespace Go.Proofs.YtinkioodkgccjaaDoor.T1
/-- Where the process ends that begins at a place, or -1. -/
noncomputable def endOf (nm : UInt8 → Bool) (s : ByteArray) (at_ : Nat) : Int := match E nm (s.data.toList.drop at_) with
  | some (_, r) => (s.size : Int) - r.length
  | none => -1
theorem drop_at (s : ByteArray) (k : Nat) (h : k < s.size) : s.data.toList.drop k = s[k] :: s.data.toList.drop (k + 1) := by
  rw [List.drop_eq_getElem_cons (by simpa using h)]; rfl


section
variable {nm : UInt8 → Bool} (hn : Nm nm) {s : ByteArray} {a : Nat}
theorem endOf_cases (nm : UInt8 → Bool) (hn : Nm nm) (s : ByteArray) (a : Nat) : (endOf nm s a = -1 ∧ E nm (s.data.toList.drop a) = none) ∨ ∃ t m, a < m ∧ m ≤ s.size ∧ endOf nm s a = (m : Int) ∧ E nm (s.data.toList.drop a) = some (t, s.data.toList.drop m) := by
  unfold endOf
  cases he : E nm (s.data.toList.drop a) with
  | none => exact .inl ⟨rfl, rfl⟩
  | some x =>
    obtain ⟨t, r⟩ := x
    obtain ⟨h1, h2⟩ := E_lt hn he
    have h3 : (s.data.toList.drop a).length = s.size - a := by simp
    have h4 : a ≤ s.size := by
      rcases Nat.lt_or_ge s.size a with h | h
      · omega
      · exact h
    refine .inr ⟨t, s.size - r.length, by omega, by omega, by simp only []; omega, ?_⟩
    rw [List.drop_drop] at h2
    rw [show s.size - r.length = a + ((s.data.toList.drop a).length - r.length) by omega, h2]
include hn
theorem endOf_ge (h : s.size ≤ a) : endOf nm s a = -1 := by
  rw [endOf, List.drop_of_length_le (by simpa using h), E_mt hn]
theorem endOf_zero (hlt : a < s.size) (h : s[a] = 48) : endOf nm s a = (a : Int) + 1 := by
  rw [endOf, drop_at s a hlt, h, E_zero hn]
  simp; omega
omit hn in
theorem endOf_map {b : Nat} {f : Tm → Tm} (h : E nm (s.data.toList.drop a) = (E nm (s.data.toList.drop b)).map fun x => (f x.1, x.2)) : endOf nm s b = endOf nm s a := by
  unfold endOf; rw [h]; cases E nm (s.data.toList.drop b) <;> rfl
omit hn in
theorem endOf_none (h : E nm (s.data.toList.drop a) = none) : endOf nm s a = -1 := by
  unfold endOf; rw [h]
theorem endOf_rep (hlt : a < s.size) (h : s[a] = 42) : endOf nm s (a + 1) = endOf nm s a :=
  endOf_map (by rw [drop_at s a hlt, h, E_rep hn])
theorem endOf_tau (hlt : a + 1 < s.size) (h : s[a] = 126) (h1 : s[a + 1] = 46) : endOf nm s (a + 2) = endOf nm s a :=
  endOf_map (by rw [drop_at s a (by omega), drop_at s (a + 1) hlt, h, h1, E_tau hn])
theorem endOf_tau_no (hlt : a < s.size) (h : s[a] = 126) (h1 : ∀ _ : a + 1 < s.size, s[a + 1] = 46 → False) : endOf nm s a = -1 := by
  refine endOf_none ?_
  rw [drop_at s a hlt, h]
  refine E_tau_no hn fun l' e => ?_
  have hb : a + 1 < s.size := by
    rcases Nat.lt_or_ge (a + 1) s.size with h | h
    · exact h
    · rw [List.drop_of_length_le (by simpa using h)] at e; cases e
  rw [drop_at s (a + 1) hb] at e
  simp only [List.cons.injEq] at e
  exact h1 hb e.1
theorem endOf_own (hlt : a + 2 < s.size) (h : s[a] = 35) (h1 : nm s[a + 1] = true) (h2 : s[a + 2] = 46) : endOf nm s (a + 3) = endOf nm s a :=
  endOf_map (by rw [drop_at s a (by omega), drop_at s (a + 1) (by omega), drop_at s (a + 2) hlt, h, h2, E_own hn h1])
omit hn in
theorem drop_cons_lt {s : ByteArray} {a : Nat} {c : UInt8} {l : List UInt8} (e : s.data.toList.drop a = c :: l) : ∃ h : a < s.size, s[a] = c ∧ s.data.toList.drop (a + 1) = l := by
  have hb : a < s.size := by
    rcases Nat.lt_or_ge a s.size with h | h
    · exact h
    · rw [List.drop_of_length_le (by simpa using h)] at e; cases e
  rw [drop_at s a hb] at e
  simp only [List.cons.injEq] at e
  exact ⟨hb, e⟩
theorem endOf_own_no (hlt : a < s.size) (h : s[a] = 35) (h1 : ∀ _ : a + 2 < s.size, nm s[a + 1] = true → s[a + 2] = 46 → False) : endOf nm s a = -1 := by
  refine endOf_none ?_
  rw [drop_at s a hlt, h]
  refine E_own_no hn fun x l' e => ?_
  obtain ⟨b1, e1, e⟩ := drop_cons_lt e
  obtain ⟨b2, e2, e⟩ := drop_cons_lt e
  cases hx : nm x with
  | false => rfl
  | true => exact (h1 b2 (by rw [e1]; exact hx) e2).elim
theorem endOf_mat (hlt : a + 4 < s.size) (h : s[a] = 91) (h1 : nm s[a + 1] = true) (h2 : s[a + 2] = 61) (h3 : nm s[a + 3] = true) (h4 : s[a + 4] = 93) : endOf nm s (a + 5) = endOf nm s a :=
  endOf_map (by rw [drop_at s a (by omega), drop_at s (a + 1) (by omega), drop_at s (a + 2) (by omega), drop_at s (a + 3) (by omega), drop_at s (a + 4) (by omega), h, h2, h4, E_mat hn h1 h3])
theorem endOf_mat_no (hlt : a < s.size) (h : s[a] = 91) (h1 : ∀ _ : a + 4 < s.size, nm s[a + 1] = true → s[a + 2] = 61 → nm s[a + 3] = true → s[a + 4] = 93 → False) : endOf nm s a = -1 := by
  refine endOf_none ?_
  rw [drop_at s a hlt, h]
  refine E_mat_no hn fun x y l' e hx => ?_
  obtain ⟨b1, e1, e⟩ := drop_cons_lt e
  obtain ⟨b2, e2, e⟩ := drop_cons_lt e
  obtain ⟨b3, e3, e⟩ := drop_cons_lt e
  obtain ⟨b4, e4, e⟩ := drop_cons_lt e
  cases hy : nm y with
  | false => rfl
  | true => exact (h1 b4 (by rw [e1]; exact hx) e2 (by rw [e3]; exact hy) e4).elim
theorem endOf_snd (hlt : a + 3 < s.size) (h : nm s[a] = true) (h1 : s[a + 1] = 33) (h2 : nm s[a + 2] = true) (h3 : s[a + 3] = 46) : endOf nm s (a + 4) = endOf nm s a :=
  endOf_map (by rw [drop_at s a (by omega), drop_at s (a + 1) (by omega), drop_at s (a + 2) (by omega), drop_at s (a + 3) (by omega), h1, h3, E_snd hn h h2])
theorem endOf_rcv (hlt : a + 3 < s.size) (h : nm s[a] = true) (h1 : s[a + 1] = 63) (h2 : nm s[a + 2] = true) (h3 : s[a + 3] = 46) : endOf nm s (a + 4) = endOf nm s a :=
  endOf_map (by rw [drop_at s a (by omega), drop_at s (a + 1) (by omega), drop_at s (a + 2) (by omega), drop_at s (a + 3) (by omega), h1, h3, E_rcv hn h h2])
theorem endOf_other (hlt : a < s.size) (h0 : s[a] ≠ 48) (h1 : s[a] ≠ 42) (h2 : s[a] ≠ 126) (h3 : s[a] ≠ 35) (h4 : s[a] ≠ 91) (h5 : s[a] ≠ 40)
    (h6 : ∀ _ : a + 3 < s.size, nm s[a] = true → (s[a + 1] = 33 ∨ s[a + 1] = 63) → nm s[a + 2] = true → s[a + 3] = 46 → False) : endOf nm s a = -1 := by
  refine endOf_none ?_
  rw [drop_at s a hlt]
  refine E_other hn h0 h1 h2 h3 h4 h5 fun m x l' e hm hc => ?_
  obtain ⟨b1, e1, e⟩ := drop_cons_lt e
  obtain ⟨b2, e2, e⟩ := drop_cons_lt e
  obtain ⟨b3, e3, e⟩ := drop_cons_lt e
  cases hx : nm x with
  | false => rfl
  | true => exact (h6 b3 hc (by rw [e1]; exact hm) (by rw [e2]; exact hx) e3).elim
theorem endOf_pair_no1 (hlt : a < s.size) (h : s[a] = 40) (h1 : E nm (s.data.toList.drop (a + 1)) = none) : endOf nm s a = -1 := by
  refine endOf_none ?_
  rw [drop_at s a hlt, h, E_pair_no1 hn h1]
theorem endOf_pair_no2 {m : Nat} {t : Tm} (hlt : a < s.size) (h : s[a] = 40) (h1 : E nm (s.data.toList.drop (a + 1)) = some (t, s.data.toList.drop m)) (h2 : ∀ _ : m < s.size, s[m] ≠ 43 ∧ s[m] ≠ 38) : endOf nm s a = -1 := by
  refine endOf_none ?_
  rw [drop_at s a hlt, h, E_pair_no2 hn h1]
  intro r'
  constructor
  · intro e
    obtain ⟨b1, e1, e⟩ := drop_cons_lt e
    exact (h2 b1).1 e1
  · intro e
    obtain ⟨b1, e1, e⟩ := drop_cons_lt e
    exact (h2 b1).2 e1
theorem endOf_pair_no3 {m : Nat} {t : Tm} (hlt : a < s.size) (hm : m < s.size) (h : s[a] = 40) (h1 : E nm (s.data.toList.drop (a + 1)) = some (t, s.data.toList.drop m)) (h2 : E nm (s.data.toList.drop (m + 1)) = none) : endOf nm s a = -1 := by
  refine endOf_none ?_
  rw [drop_at s m hm] at h1
  rw [drop_at s a hlt, h, E_pair_no3 hn h1 h2]
theorem endOf_pair_no4 {m n : Nat} {t q : Tm} (hlt : a < s.size) (hm : m < s.size) (h : s[a] = 40) (h1 : E nm (s.data.toList.drop (a + 1)) = some (t, s.data.toList.drop m)) (h2 : E nm (s.data.toList.drop (m + 1)) = some (q, s.data.toList.drop n)) (h3 : ∀ _ : n < s.size, s[n] ≠ 41) : endOf nm s a = -1 := by
  refine endOf_none ?_
  rw [drop_at s m hm] at h1
  rw [drop_at s a hlt, h, E_pair_no4 hn h1 h2]
  intro r' e
  obtain ⟨b1, e1, e⟩ := drop_cons_lt e
  exact h3 b1 e1
theorem E_pair {m n : Nat} {t q : Tm} (hlt : a < s.size) (hm : m < s.size) (hn' : n < s.size) (h : s[a] = 40) (h1 : E nm (s.data.toList.drop (a + 1)) = some (t, s.data.toList.drop m)) (h2 : E nm (s.data.toList.drop (m + 1)) = some (q, s.data.toList.drop n)) (h3 : s[m] = 43 ∨ s[m] = 38) (h4 : s[n] = 41) :
    E nm (s.data.toList.drop a) = some (if s[m] = 43 then .sum t q else .par t q, s.data.toList.drop (n + 1)) := by
  rw [drop_at s m hm] at h1
  rw [drop_at s n hn', h4] at h2
  rw [drop_at s a hlt, h]
  rcases h3 with h3 | h3
  · rw [h3] at h1 ⊢
    rw [E_sum hn h1 h2, if_pos rfl]
  · rw [h3] at h1 ⊢
    rw [E_par hn h1 h2, if_neg (by decide)]
theorem endOf_pair {m n : Nat} {t q : Tm} (hlt : a < s.size) (hm : m < s.size) (hn' : n < s.size) (h : s[a] = 40) (h1 : E nm (s.data.toList.drop (a + 1)) = some (t, s.data.toList.drop m)) (h2 : E nm (s.data.toList.drop (m + 1)) = some (q, s.data.toList.drop n)) (h3 : s[m] = 43 ∨ s[m] = 38) (h4 : s[n] = 41) : endOf nm s a = (n : Int) + 1 := by
  unfold endOf
  rw [E_pair hn hlt hm hn' h h1 h2 h3 h4]
  simp; omega
end

end Go.Proofs.YtinkioodkgccjaaDoor.T1

/- Memory: what a call leaves that writes into one old block alone; the block of a reader. Plain lemmas. -/
namespace Go.Proofs.YtinkioodkgccjaaDoor.T1
open Go.RowKit

/-- Behind the call only block b, of the old ones, may have turned. -/
structure Only (b : Nat) (w w' : World) : Prop where
  os : w'.os = w.os
  tape : w'.tape = w.tape
  output : w'.output = w.output
  size : w.heap.size ≤ w'.heap.size
  block : ∀ k, k < w.heap.size → k ≠ b → w'.heap[k]? = w.heap[k]?
theorem Only.refl (b : Nat) (w : World) : Only b w w := ⟨rfl, rfl, rfl, Nat.le_refl _, fun _ _ _ => rfl⟩
theorem Only.trans {b : Nat} {u v w : World} (h : Only b u v) (k : Only b v w) : Only b u w :=
  ⟨k.os.trans h.os, k.tape.trans h.tape, k.output.trans h.output, Nat.le_trans h.size k.size, fun i hi hb => (k.block i (Nat.lt_of_lt_of_le hi h.size) hb).trans (h.block i hi hb)⟩
theorem Only.drewN {b : Nat} {u v : World} (h : Only b u v) (n : Nat) : Only b u (v.drewN n) := h.trans ⟨rfl, rfl, rfl, Nat.le_refl _, fun _ _ _ => rfl⟩
theorem Only.drew {b : Nat} {u v : World} (h : Only b u v) : Only b u v.drew := h.trans ⟨rfl, rfl, rfl, Nat.le_refl _, fun _ _ _ => rfl⟩
theorem Only.setCell {b : Nat} {u v : World} (h : Only b u v) (o : Nat) (sp) (x : Value) : Only b u (v.setCell ⟨b, o, sp⟩ x) :=
  h.trans ⟨rfl, rfl, rfl, by simp [World.setCell], fun k _ hb => Below.heap_setCell _ _ _ _ hb⟩
theorem Only.alloc {b : Nat} {u v : World} (h : Only b u v) (o : Obj) : Only b u (v.alloc o) :=
  h.trans ⟨rfl, rfl, rfl, by simp, fun k hk _ => Below.heap_alloc _ _ _ hk⟩
theorem Only.below {b : Nat} {u v w : World} (h : Only b u v) (k : Below v.heap.size v w) : Only b u w :=
  h.trans ⟨k.os, k.tape, k.output, k.size, fun i hi _ => k.block i hi⟩
theorem Below.only {B b : Nat} {u v w : World} (h : Below B u v) (k : Only b v w) (hb : B ≤ b) (hB : B ≤ v.heap.size) : Below B u w :=
  h.trans ⟨k.os, k.tape, k.output, k.size, fun i hi => k.block i (by omega) (by omega)⟩
theorem below_trans {B : Nat} {u v w : World} (h : Below B u v) (k : Below v.heap.size v w) (hB : B ≤ v.heap.size) : Below B u w := h.trans (k.mono hB)
theorem below_drewN' {B : Nat} {u v : World} (h : Below B u v) (n : Nat) : Below B u (v.drewN n) := h.trans ⟨rfl, rfl, rfl, Nat.le_refl _, fun _ _ => rfl⟩

/-- Block b is a reader of the text s, at the place a. -/
def RdAt (w : World) (b : Nat) (s : ByteArray) (a : Nat) : Prop := ∃ T, w.heap[b]? = some (.cells #[.string s, .int .i64 (a : Int)] T (0, 0))
theorem RdAt.c0 {w : World} {b : Nat} {s : ByteArray} {a : Nat} (h : RdAt w b s a) : w.cell? ⟨b, 0, none⟩ = some (.string s) := by obtain ⟨T, h⟩ := h; simp [World.cell?, h]
theorem RdAt.c1 {w : World} {b : Nat} {s : ByteArray} {a : Nat} (h : RdAt w b s a) : w.cell? ⟨b, 1, none⟩ = some (.int .i64 (a : Int)) := by obtain ⟨T, h⟩ := h; simp [World.cell?, h]
theorem RdAt.f1 {w : World} {b : Nat} {s : ByteArray} {a : Nat} (h : RdAt w b s a) : w.frozen? ⟨b, 1, none⟩ = false := by obtain ⟨T, h⟩ := h; simp [World.frozen?, h]
theorem RdAt.lt {w : World} {b : Nat} {s : ByteArray} {a : Nat} (h : RdAt w b s a) : b < w.heap.size := by obtain ⟨T, h⟩ := h; exact lt_of_block h
theorem RdAt.drewN {w : World} {b : Nat} {s : ByteArray} {a : Nat} (h : RdAt w b s a) (n : Nat) : RdAt (w.drewN n) b s a := h
theorem RdAt.set {w : World} {b : Nat} {s : ByteArray} {a : Nat} (h : RdAt w b s a) (c : Nat) : RdAt (w.setCell ⟨b, 1, none⟩ (.int .i64 (c : Int))) b s c := by
  obtain ⟨T, h⟩ := h
  have hlt := lt_of_block h
  have h' : w.heap[b] = .cells #[.string s, .int .i64 (a : Int)] T (0, 0) := by simpa [Array.getElem?_eq_getElem hlt] using h
  refine ⟨T, ?_⟩
  show (w.heap.modify b _)[b]? = _
  rw [Array.getElem?_eq_getElem (by simpa using hlt), Array.getElem_modify_self, h']
  rfl
theorem RdAt.below {w w' : World} {b : Nat} {s : ByteArray} {a : Nat} (h : RdAt w b s a) (k : Below w.heap.size w w') : RdAt w' b s a := by
  have hlt := h.lt
  obtain ⟨T, h⟩ := h
  exact ⟨T, (k.block b hlt).trans h⟩
theorem RdAt.alloc {w : World} {b : Nat} {s : ByteArray} {a : Nat} (h : RdAt w b s a) (o : Obj) : RdAt (w.alloc o) b s a := h.below ((Below.refl _ _).alloc (Nat.le_refl _) o)

end Go.Proofs.YtinkioodkgccjaaDoor.T1

/- A tree of signs as the program holds it; the first signs whose part is still missing. -/
namespace Go.Proofs.YtinkioodkgccjaaDoor.T1
open Go.RowKit

def ub (c : UInt8) : Value := .int .u8 (c.toNat : Int)
/-- The dynamic type of a sign. -/
def tyOf : Tm → TypeId
  | .nil => 105
  | .snd _ _ _ => 53
  | .rcv _ _ _ => 67
  | .tau _ => 94
  | .sum _ _ => 98
  | .par _ _ => 99
  | .own _ _ => 51
  | .mat _ _ _ => 101
  | .rep _ => 102
/-- Its fields. -/
def pay : Tm → Value
  | .nil => .agg #[]
  | .snd a b p => .agg #[.int .u8 (a.toNat : Int), .int .u8 (b.toNat : Int), .iface (tyOf p) (pay p)]
  | .rcv a x p => .agg #[.int .u8 (a.toNat : Int), .int .u8 (x.toNat : Int), .iface (tyOf p) (pay p)]
  | .tau p => .agg #[.iface (tyOf p) (pay p)]
  | .sum p q => .agg #[.iface (tyOf p) (pay p), .iface (tyOf q) (pay q)]
  | .par p q => .agg #[.iface (tyOf p) (pay p), .iface (tyOf q) (pay q)]
  | .own x p => .agg #[.int .u8 (x.toNat : Int), .iface (tyOf p) (pay p)]
  | .mat a b p => .agg #[.int .u8 (a.toNat : Int), .int .u8 (b.toNat : Int), .iface (tyOf p) (pay p)]
  | .rep p => .agg #[.iface (tyOf p) (pay p)]
/-- A sign as an interface value. -/
def enc (t : Tm) : Value := .iface (tyOf t) (pay t)

/-- What is written before the part of a sign with one part. -/
inductive Hd where
  | tau | rep
  | own (x : UInt8)
  | mat (a b : UInt8)
  | snd (a b : UInt8)
  | rcv (a b : UInt8)
def Hd.put : Hd → Tm → Tm
  | .tau, p => .tau p
  | .rep, p => .rep p
  | .own x, p => .own x p
  | .mat a b, p => .mat a b p
  | .snd a b, p => .snd a b p
  | .rcv a b, p => .rcv a b p
def Hd.enc : Hd → Value
  | .tau => .iface 94 (.agg #[.nilIface])
  | .rep => .iface 102 (.agg #[.nilIface])
  | .own x => .iface 51 (.agg #[.int .u8 (x.toNat : Int), .nilIface])
  | .mat a b => .iface 101 (.agg #[.int .u8 (a.toNat : Int), .int .u8 (b.toNat : Int), .nilIface])
  | .snd a b => .iface 53 (.agg #[.int .u8 (a.toNat : Int), .int .u8 (b.toNat : Int), .nilIface])
  | .rcv a b => .iface 67 (.agg #[.int .u8 (a.toNat : Int), .int .u8 (b.toNat : Int), .nilIface])

end Go.Proofs.YtinkioodkgccjaaDoor.T1

/- A row of one's own with another one behind it. -/
namespace Go.Proofs.YtinkioodkgccjaaDoor.T1
open Go.RowKit

theorem own_cells {w : World} {base : Nat} {e : TypeId} {g n cap : Nat} {xs : List Value} (h : w.ownsRow base e 1 (.slice (some ⟨g, 0, none⟩) n cap) n xs) : ∀ j u, xs[j]? = some u → w.cell? ((⟨g, 0, none⟩ : Addr).add j) = some u := by
  intro j u hj
  rcases h.2 with ⟨h1, _⟩ | ⟨g', cap', cur, h1, _, h3, _, _, _, h7⟩
  · cases h1
  · cases h1
    have hjl : j < xs.length := by
      rcases Nat.lt_or_ge j xs.length with c | c
      · exact c
      · rw [List.getElem?_eq_none c] at hj; cases hj
    have hx := h.1
    have : (cur.toList.take (n * 1))[j]? = some u := by rw [h7]; exact hj
    rw [List.getElem?_take, if_pos (by omega)] at this
    show w.cell? (Addr.add ⟨g, 0, none⟩ j) = some u
    have e2 : (Addr.add ⟨g, 0, none⟩ j) = ⟨g, j, none⟩ := by cases j <;> simp [Addr.add]
    rw [e2]
    simp only [World.cell?, h3]
    simpa using this
theorem wpList_append_rows {P : Program} {w : World} {ops : Array Oper} {rest : List Oper} {o : Oper} {a : Act} {Q : Exit → Act → World → Prop} (hgd : o.guard = none) (s x : Operand) (t : TypeId)
    (ho : o.op = .call { callee := .builtin .append, args := #[s, x], argTypes := #[t, t] })
    (base base2 : Nat) (e : TypeId) (i : TypeInfo) (z : Value) (bytes : Nat) (ht : P.underlying t = some (.slice e)) (hi : P.info? e = some i) (hz : i.zero = some z)
    (hsize : i.size = 1) (hby : i.bytes = bytes) (hzs : z.cells.size = 1)
    (v : Value) (n : Nat) (xs : List Value) (hs : a.eval s = v) (hown : w.ownsRow base e 1 v n xs)
    (v2 : Value) (m : Nat) (ys : List Value) (hx : a.eval x = v2) (hown2 : w.ownsRow base2 e 1 v2 m ys) (h1 : ∀ u ∈ ys, u.oneCell' = true)
    (h63 : n + m ≤ maxLen) (hbytes : (n + m) * bytes ≤ 140737488355328) (hbase : base ≤ w.heap.size)
    (h : ∀ v' w', w'.ownsRow base e 1 v' (n + m) (xs ++ ys) → w.grownBy w' v.ownBlock → (v'.ownBlock = v.ownBlock ∨ v'.ownBlock = some w.heap.size) → wpList P ops Q rest (a.put o.dst v') w') :
    wpList P ops Q (o :: rest) a w := by
  rcases hown2.2 with ⟨e1, e2⟩ | ⟨g, cap, cur, e1, _⟩
  · subst e2
    have hy : ys = [] := by have := hown2.1; simpa using this
    subst hy
    refine wpList_append_own_none hgd s x t ho base e i 1 ht hi v n xs hs hown (hx.trans e1) ?_
    exact h v w (by simpa using hown) ⟨rfl, rfl, rfl, Nat.le_refl _, fun _ _ _ => rfl⟩ (.inl rfl)
  · subst e1
    refine wpList_append_own_at w hgd s x t ho base e i z 1 bytes ht hi hz hsize hby hzs (by decide) v n xs hs hown ⟨g, 0, none⟩ m cap ys hx (by have := hown2.1; omega) (own_cells hown2) h1 h63 hbytes hbase ?_
    intro v' w' a1 a2 _ a3
    exact h v' w' a1 a2 a3
/-- A row of one's own stays while blocks that are not its own change. -/
theorem own_keep {w w' : World} {base n : Nat} {e : TypeId} {v : Value} {xs : List Value} (h : w.ownsRow base e 1 v n xs) (hk : ∀ g, v.ownBlock = some g → w'.heap[g]? = w.heap[g]?) : w'.ownsRow base e 1 v n xs := by
  refine ⟨h.1, h.2.imp id ?_⟩
  rintro ⟨g, cap, cur, hv, h2, h3, h4⟩
  exact ⟨g, cap, cur, hv, h2, (hk g (by rw [hv]; rfl)).trans h3, h4⟩
theorem own_below2 {w w' : World} {base n : Nat} {e : TypeId} {v : Value} {xs : List Value} (h : w.ownsRow base e 1 v n xs) (k : Below w.heap.size w w') : w'.ownsRow base e 1 v n xs :=
  own_keep h fun g hg => k.block g (h.lt g hg).2
theorem own_new1 (w : World) (x : Value) (T : TypeId) (base : Nat) (hb : base ≤ w.heap.size) : (w.alloc (.cells #[x] T)).ownsRow base T 1 (.slice (some ⟨w.heap.size, 0, none⟩) 1 1) 1 [x] :=
  ⟨rfl, .inr ⟨w.heap.size, 1, #[x], rfl, hb, heap_alloc_new w _, Nat.le_refl _, by unfold maxLen; omega, rfl, rfl⟩⟩
/-- What grows in a row of one's own leaves what is older. -/
theorem below_grown2 {w0 w w' : World} {r : Option Nat} {B : Nat} (h : Below B w0 w) (k : w.grownBy w' r) (hr : ∀ g, r = some g → B ≤ g) (hB : B ≤ w.heap.size) : Below B w0 w' :=
  ⟨k.os.trans h.os, k.tape.trans h.tape, k.output.trans h.output, Nat.le_trans h.size k.size, fun i hi => (k.block i (by omega) (fun e => by have := hr i e.symm; omega)).trans (h.block i hi)⟩

end Go.Proofs.YtinkioodkgccjaaDoor.T1
