/- Texts of the proof, put together: Mem, Enc, Ap. No conditions. -/
import Derived.Test.YtdfelpahacmdpaaGab
import Derived.Below
import Derived.OneCell
import Derived.Deep.Draws
import Derived.Test.YtdfelpahacmdpaaProg
import Derived.Maps.AppendAt
import Derived.Laws.AppendOwnNone
import Derived.Laws.AppendOwn

/- Memory: what a call leaves that writes into one old block alone; the block of a reader. Plain lemmas. -/
namespace Go.Proofs.Ytdfelpahacmdpaa.T1
open Go.RowKit

/-- Behind the call only block b, of the old ones, may have turned. -/
structure Only (b : Nat) (w w' : World) : Prop where
  os : w'.os = w.os
  tape : w'.tape = w.tape
  output : w'.output = w.output
  size : w.heap.size ≤ w'.heap.size
  block : ∀ k, k < w.heap.size → k ≠ b → w'.heap[k]? = w.heap[k]?
theorem Only.refl (b : Nat) (w : World) : Only b w w := ⟨rfl, rfl, rfl, Nat.le_refl _, fun _ _ _ => rfl⟩
theorem Only.trans {b : Nat} {u v w : World} (h : Only b u v) (k : Only b v w) : Only b u w :=
  ⟨k.os.trans h.os, k.tape.trans h.tape, k.output.trans h.output, Nat.le_trans h.size k.size, fun i hi hb => (k.block i (Nat.lt_of_lt_of_le hi h.size) hb).trans (h.block i hi hb)⟩
theorem Only.drewN {b : Nat} {u v : World} (h : Only b u v) (n : Nat) : Only b u (v.drewN n) := h.trans ⟨rfl, rfl, rfl, Nat.le_refl _, fun _ _ _ => rfl⟩
theorem Only.drew {b : Nat} {u v : World} (h : Only b u v) : Only b u v.drew := h.trans ⟨rfl, rfl, rfl, Nat.le_refl _, fun _ _ _ => rfl⟩
theorem Only.setCell {b : Nat} {u v : World} (h : Only b u v) (o : Nat) (sp) (x : Value) : Only b u (v.setCell ⟨b, o, sp⟩ x) :=
  h.trans ⟨rfl, rfl, rfl, by simp [World.setCell], fun k _ hb => Below.heap_setCell _ _ _ _ hb⟩
theorem Only.alloc {b : Nat} {u v : World} (h : Only b u v) (o : Obj) : Only b u (v.alloc o) :=
  h.trans ⟨rfl, rfl, rfl, by simp, fun k hk _ => Below.heap_alloc _ _ _ hk⟩
theorem Only.below {b : Nat} {u v w : World} (h : Only b u v) (k : Below v.heap.size v w) : Only b u w :=
  h.trans ⟨k.os, k.tape, k.output, k.size, fun i hi _ => k.block i hi⟩
theorem Below.only {B b : Nat} {u v w : World} (h : Below B u v) (k : Only b v w) (hb : B ≤ b) (hB : B ≤ v.heap.size) : Below B u w :=
  h.trans ⟨k.os, k.tape, k.output, k.size, fun i hi => k.block i (by omega) (by omega)⟩
theorem below_trans {B : Nat} {u v w : World} (h : Below B u v) (k : Below v.heap.size v w) (hB : B ≤ v.heap.size) : Below B u w := h.trans (k.mono hB)
theorem below_drewN' {B : Nat} {u v : World} (h : Below B u v) (n : Nat) : Below B u (v.drewN n) := h.trans ⟨rfl, rfl, rfl, Nat.le_refl _, fun _ _ => rfl⟩

/-- Block b is a reader of the text s, at the place a. -/
def RdAt (w : World) (b : Nat) (s : ByteArray) (a : Nat) : Prop := ∃ T, w.heap[b]? = some (.cells #[.string s, .int .i64 (a : Int)] T (0, 0))
theorem RdAt.c0 {w : World} {b : Nat} {s : ByteArray} {a : Nat} (h : RdAt w b s a) : w.cell? ⟨b, 0, none⟩ = some (.string s) := by obtain ⟨T, h⟩ := h; simp [World.cell?, h]
theorem RdAt.c1 {w : World} {b : Nat} {s : ByteArray} {a : Nat} (h : RdAt w b s a) : w.cell? ⟨b, 1, none⟩ = some (.int .i64 (a : Int)) := by obtain ⟨T, h⟩ := h; simp [World.cell?, h]
theorem RdAt.f1 {w : World} {b : Nat} {s : ByteArray} {a : Nat} (h : RdAt w b s a) : w.frozen? ⟨b, 1, none⟩ = false := by obtain ⟨T, h⟩ := h; simp [World.frozen?, h]
theorem RdAt.lt {w : World} {b : Nat} {s : ByteArray} {a : Nat} (h : RdAt w b s a) : b < w.heap.size := by obtain ⟨T, h⟩ := h; exact lt_of_block h
theorem RdAt.drewN {w : World} {b : Nat} {s : ByteArray} {a : Nat} (h : RdAt w b s a) (n : Nat) : RdAt (w.drewN n) b s a := h
theorem RdAt.set {w : World} {b : Nat} {s : ByteArray} {a : Nat} (h : RdAt w b s a) (c : Nat) : RdAt (w.setCell ⟨b, 1, none⟩ (.int .i64 (c : Int))) b s c := by
  obtain ⟨T, h⟩ := h
  have hlt := lt_of_block h
  have h' : w.heap[b] = .cells #[.string s, .int .i64 (a : Int)] T (0, 0) := by simpa [Array.getElem?_eq_getElem hlt] using h
  refine ⟨T, ?_⟩
  show (w.heap.modify b _)[b]? = _
  rw [Array.getElem?_eq_getElem (by simpa using hlt), Array.getElem_modify_self, h']
  rfl
theorem RdAt.below {w w' : World} {b : Nat} {s : ByteArray} {a : Nat} (h : RdAt w b s a) (k : Below w.heap.size w w') : RdAt w' b s a := by
  have hlt := h.lt
  obtain ⟨T, h⟩ := h
  exact ⟨T, (k.block b hlt).trans h⟩
theorem RdAt.alloc {w : World} {b : Nat} {s : ByteArray} {a : Nat} (h : RdAt w b s a) (o : Obj) : RdAt (w.alloc o) b s a := h.below ((Below.refl _ _).alloc (Nat.le_refl _) o)

end Go.Proofs.Ytdfelpahacmdpaa.T1

/- A tree of signs as the program holds it; the first signs whose part is still missing. -/
namespace Go.Proofs.Ytdfelpahacmdpaa.T1
open Go.RowKit

def ub (c : UInt8) : Value := .int .u8 (c.toNat : Int)
/-- The dynamic type of a sign. -/
def tyOf : Tm → TypeId
  | .nil => 126
  | .snd _ _ _ => 109
  | .rcv _ _ _ => 111
  | .tau _ => 142
  | .sum _ _ => 140
  | .par _ _ => 139
  | .own _ _ => 131
  | .mat _ _ _ => 113
  | .rep _ => 143
/-- Its fields. -/
def pay : Tm → Value
  | .nil => .agg #[]
  | .snd a b p => .agg #[.int .u8 (a.toNat : Int), .int .u8 (b.toNat : Int), .iface (tyOf p) (pay p)]
  | .rcv a x p => .agg #[.int .u8 (a.toNat : Int), .int .u8 (x.toNat : Int), .iface (tyOf p) (pay p)]
  | .tau p => .agg #[.iface (tyOf p) (pay p)]
  | .sum p q => .agg #[.iface (tyOf p) (pay p), .iface (tyOf q) (pay q)]
  | .par p q => .agg #[.iface (tyOf p) (pay p), .iface (tyOf q) (pay q)]
  | .own x p => .agg #[.int .u8 (x.toNat : Int), .iface (tyOf p) (pay p)]
  | .mat a b p => .agg #[.int .u8 (a.toNat : Int), .int .u8 (b.toNat : Int), .iface (tyOf p) (pay p)]
  | .rep p => .agg #[.iface (tyOf p) (pay p)]
/-- A sign as an interface value. -/
def enc (t : Tm) : Value := .iface (tyOf t) (pay t)

/-- What is written before the part of a sign with one part. -/
inductive Hd where
  | tau | rep
  | own (x : UInt8)
  | mat (a b : UInt8)
  | snd (a b : UInt8)
  | rcv (a b : UInt8)
def Hd.put : Hd → Tm → Tm
  | .tau, p => .tau p
  | .rep, p => .rep p
  | .own x, p => .own x p
  | .mat a b, p => .mat a b p
  | .snd a b, p => .snd a b p
  | .rcv a b, p => .rcv a b p
def Hd.enc : Hd → Value
  | .tau => .iface 142 (.agg #[.nilIface])
  | .rep => .iface 143 (.agg #[.nilIface])
  | .own x => .iface 131 (.agg #[.int .u8 (x.toNat : Int), .nilIface])
  | .mat a b => .iface 113 (.agg #[.int .u8 (a.toNat : Int), .int .u8 (b.toNat : Int), .nilIface])
  | .snd a b => .iface 109 (.agg #[.int .u8 (a.toNat : Int), .int .u8 (b.toNat : Int), .nilIface])
  | .rcv a b => .iface 111 (.agg #[.int .u8 (a.toNat : Int), .int .u8 (b.toNat : Int), .nilIface])

end Go.Proofs.Ytdfelpahacmdpaa.T1

/- A row of one's own with another one behind it. -/
namespace Go.Proofs.Ytdfelpahacmdpaa.T1
open Go.RowKit

theorem own_cells {w : World} {base : Nat} {e : TypeId} {g n cap : Nat} {xs : List Value} (h : w.ownsRow base e 1 (.slice (some ⟨g, 0, none⟩) n cap) n xs) : ∀ j u, xs[j]? = some u → w.cell? ((⟨g, 0, none⟩ : Addr).add j) = some u := by
  intro j u hj
  rcases h.2 with ⟨h1, _⟩ | ⟨g', cap', cur, h1, _, h3, _, _, _, h7⟩
  · cases h1
  · cases h1
    have hjl : j < xs.length := by
      rcases Nat.lt_or_ge j xs.length with c | c
      · exact c
      · rw [List.getElem?_eq_none c] at hj; cases hj
    have hx := h.1
    have : (cur.toList.take (n * 1))[j]? = some u := by rw [h7]; exact hj
    rw [List.getElem?_take, if_pos (by omega)] at this
    show w.cell? (Addr.add ⟨g, 0, none⟩ j) = some u
    have e2 : (Addr.add ⟨g, 0, none⟩ j) = ⟨g, j, none⟩ := by cases j <;> simp [Addr.add]
    rw [e2]
    simp only [World.cell?, h3]
    simpa using this
theorem wpList_append_rows {P : Program} {w : World} {ops : Array Oper} {rest : List Oper} {o : Oper} {a : Act} {Q : Exit → Act → World → Prop} (hgd : o.guard = none) (s x : Operand) (t : TypeId)
    (ho : o.op = .call { callee := .builtin .append, args := #[s, x], argTypes := #[t, t] })
    (base base2 : Nat) (e : TypeId) (i : TypeInfo) (z : Value) (bytes : Nat) (ht : P.underlying t = some (.slice e)) (hi : P.info? e = some i) (hz : i.zero = some z)
    (hsize : i.size = 1) (hby : i.bytes = bytes) (hzs : z.cells.size = 1)
    (v : Value) (n : Nat) (xs : List Value) (hs : a.eval s = v) (hown : w.ownsRow base e 1 v n xs)
    (v2 : Value) (m : Nat) (ys : List Value) (hx : a.eval x = v2) (hown2 : w.ownsRow base2 e 1 v2 m ys) (h1 : ∀ u ∈ ys, u.oneCell' = true)
    (h63 : n + m ≤ maxLen) (hbytes : (n + m) * bytes ≤ 140737488355328) (hbase : base ≤ w.heap.size)
    (h : ∀ v' w', w'.ownsRow base e 1 v' (n + m) (xs ++ ys) → w.grownBy w' v.ownBlock → (v'.ownBlock = v.ownBlock ∨ v'.ownBlock = some w.heap.size) → wpList P ops Q rest (a.put o.dst v') w') :
    wpList P ops Q (o :: rest) a w := by
  rcases hown2.2 with ⟨e1, e2⟩ | ⟨g, cap, cur, e1, _⟩
  · subst e2
    have hy : ys = [] := by have := hown2.1; simpa using this
    subst hy
    refine wpList_append_own_none hgd s x t ho base e i 1 ht hi v n xs hs hown (hx.trans e1) ?_
    exact h v w (by simpa using hown) ⟨rfl, rfl, rfl, Nat.le_refl _, fun _ _ _ => rfl⟩ (.inl rfl)
  · subst e1
    refine wpList_append_own_at w hgd s x t ho base e i z 1 bytes ht hi hz hsize hby hzs (by decide) v n xs hs hown ⟨g, 0, none⟩ m cap ys hx (by have := hown2.1; omega) (own_cells hown2) h1 h63 hbytes hbase ?_
    intro v' w' a1 a2 _ a3
    exact h v' w' a1 a2 a3
/-- A row of one's own stays while blocks that are not its own change. -/
theorem own_keep {w w' : World} {base n : Nat} {e : TypeId} {v : Value} {xs : List Value} (h : w.ownsRow base e 1 v n xs) (hk : ∀ g, v.ownBlock = some g → w'.heap[g]? = w.heap[g]?) : w'.ownsRow base e 1 v n xs := by
  refine ⟨h.1, h.2.imp id ?_⟩
  rintro ⟨g, cap, cur, hv, h2, h3, h4⟩
  exact ⟨g, cap, cur, hv, h2, (hk g (by rw [hv]; rfl)).trans h3, h4⟩
/-- Rows of different types lie in different blocks. -/
theorem own_apart {w : World} {b1 b2 n m : Nat} {e f : TypeId} {v u : Value} {xs ys : List Value} (hef : e ≠ f) (h : w.ownsRow b1 e 1 v n xs) (k : w.ownsRow b2 f 1 u m ys) (g : Nat) (h1 : v.ownBlock = some g) : u.ownBlock ≠ some g := by
  intro h2
  rcases h.2 with ⟨e1, _⟩ | ⟨g1, c1, r1, e1, _, d1, _⟩
  · rw [e1] at h1; simp [Value.ownBlock] at h1
  · rcases k.2 with ⟨e2, _⟩ | ⟨g2, c2, r2, e2, _, d2, _⟩
    · rw [e2] at h2; simp [Value.ownBlock] at h2
    · rw [e1] at h1; rw [e2] at h2
      simp only [Value.ownBlock, Option.some.injEq] at h1 h2
      subst h1; subst h2
      rw [d1] at d2
      simp only [Option.some.injEq, Obj.cells.injEq] at d2
      exact hef d2.2.1
theorem own_bas2 {w : World} {base b2 n : Nat} {e : TypeId} {v : Value} {xs : List Value} (h : w.ownsRow base e 1 v n xs) (hb : b2 ≤ base) : w.ownsRow b2 e 1 v n xs := by
  refine ⟨h.1, h.2.imp id ?_⟩
  rintro ⟨g, cap, cur, hv, h2, h3⟩
  exact ⟨g, cap, cur, hv, Nat.le_trans hb h2, h3⟩
theorem own_below2 {w w' : World} {base n : Nat} {e : TypeId} {v : Value} {xs : List Value} (h : w.ownsRow base e 1 v n xs) (k : Below w.heap.size w w') : w'.ownsRow base e 1 v n xs :=
  own_keep h fun g hg => k.block g (h.lt g hg).2
theorem own_grown {w w' : World} {base n : Nat} {e : TypeId} {v : Value} {r : Option Nat} {xs : List Value} (h : w.ownsRow base e 1 v n xs) (k : w.grownBy w' r) (hr : ∀ g, v.ownBlock = some g → r ≠ some g) : w'.ownsRow base e 1 v n xs :=
  own_keep h fun g hg => k.block g (h.lt g hg).2 (fun e => hr g hg e.symm)
theorem own_new1 (w : World) (x : Value) (T : TypeId) (base : Nat) (hb : base ≤ w.heap.size) : (w.alloc (.cells #[x] T)).ownsRow base T 1 (.slice (some ⟨w.heap.size, 0, none⟩) 1 1) 1 [x] :=
  ⟨rfl, .inr ⟨w.heap.size, 1, #[x], rfl, hb, heap_alloc_new w _, Nat.le_refl _, by unfold maxLen; omega, rfl, rfl⟩⟩
/-- What grows in a row of one's own leaves what is older. -/
theorem below_grown2 {w0 w w' : World} {r : Option Nat} {B : Nat} (h : Below B w0 w) (k : w.grownBy w' r) (hr : ∀ g, r = some g → B ≤ g) (hB : B ≤ w.heap.size) : Below B w0 w' :=
  ⟨k.os.trans h.os, k.tape.trans h.tape, k.output.trans h.output, Nat.le_trans h.size k.size, fun i hi => (k.block i (by omega) (fun e => by have := hr i e.symm; omega)).trans (h.block i hi)⟩

end Go.Proofs.Ytdfelpahacmdpaa.T1
