/- Texts of the proof, put together: Sh, Tx, Ap, Ke, Ls. No conditions. -/
import Derived.Test.YtalegefnppbkdaaGreatJaa
import Derived.Test.YtalegefnppbkdaaGreatJaj
import Derived.Test.YtalegefnppbkdaaGreatJaq
import Derived.Test.YtalegefnppbkdaaGreatJat
import Derived.Shelf.SlGeneric
import Derived.Ground.SlgnProg
import Derived.Shelf.SlicesE.Reverse
import Derived.Shelf.SlicesE.Clone
import Derived.Shelf.Small.Bits
import Derived.Shelf.Strconv.Itoa0
import Derived.Shelf.Sort.Plain
import Derived.Shelf.Slices.In.SortNone
import Derived.Test.YtalegefnppbkdaaGreatProg
import Derived.Laws.IdiomStrings
import Derived.Maps.AppendAt
import Derived.Laws.AppendOwnNone
import Derived.Laws.AppendOwn
namespace Go.Proofs
set_option maxHeartbeats 1000000
open Go.Shelf
def Tryz.lays128_ren : Go.Shelf.Ren := ⟨fun | 128 => 132 | n => n, fun | 51 => 69 | 3 => 3 | 4 => 4 | 46 => 100 | 5 => 5 | 9 => 9 | n => n, fun | n => n⟩
theorem Tryz.lays128 : Go.Proofs.Lays.n128 Tryz.prog Tryz.lays128_ren := {
 mixed := by kernel_rfl
 f128 := Tryz.func132.trans (congrArg some (by kernel_rfl))
 t3 := Tryz.underlying3
 a3 := Tryz.isAgg3
 z3 := Tryz.sizeOf3
 v3 := Tryz.zeroValue3
 t4 := Tryz.underlying4
 a4 := Tryz.isAgg4
 z4 := Tryz.sizeOf4
 v4 := Tryz.zeroValue4
 t5 := Tryz.underlying5
 a5 := Tryz.isAgg5
 z5 := Tryz.sizeOf5
 v5 := Tryz.zeroValue5
 t9 := Tryz.underlying9
 a9 := Tryz.isAgg9
 z9 := Tryz.sizeOf9
 v9 := Tryz.zeroValue9
 t46 := Tryz.underlying100
 a46 := Tryz.isAgg100
 z46 := Tryz.sizeOf100
 v46 := Tryz.zeroValue100
 t51 := Tryz.underlying69
 a51 := Tryz.isAgg69
 z51 := Tryz.sizeOf69
 v51 := Tryz.zeroValue69 }
theorem Tryz.bits_Len32 (x : Int) (w : World) (h0 : 0 ≤ x) (h1 : x ≤ 4294967295) :
  Calls Tryz.prog 132 #[.int .u32 x] w fun e w' => e = .returned (.int .i64 (Lib.bitLen x.toNat)) ∧ w' = w := Any.bits_Len32 Tryz.lays128 x w h0 h1
def Tryz.lays125_ren : Go.Shelf.Ren := ⟨fun | 125 => 96 | 128 => 132 | 129 => 133 | n => n, fun | 46 => 100 | 3 => 3 | 51 => 69 | 53 => 139 | 4 => 4 | 5 => 5 | 9 => 9 | n => n, fun | n => n⟩
theorem Tryz.lays125 : Go.Proofs.Lays.n125 Tryz.prog Tryz.lays125_ren := {
 mixed := by kernel_rfl
 f125 := Tryz.func96.trans (congrArg some (by kernel_rfl))
 f128 := Tryz.func132.trans (congrArg some (by kernel_rfl))
 f129 := Tryz.func133.trans (congrArg some (by kernel_rfl))
 t3 := Tryz.underlying3
 a3 := Tryz.isAgg3
 z3 := Tryz.sizeOf3
 v3 := Tryz.zeroValue3
 t4 := Tryz.underlying4
 a4 := Tryz.isAgg4
 z4 := Tryz.sizeOf4
 v4 := Tryz.zeroValue4
 t5 := Tryz.underlying5
 a5 := Tryz.isAgg5
 z5 := Tryz.sizeOf5
 v5 := Tryz.zeroValue5
 t9 := Tryz.underlying9
 a9 := Tryz.isAgg9
 z9 := Tryz.sizeOf9
 v9 := Tryz.zeroValue9
 t46 := Tryz.underlying100
 a46 := Tryz.isAgg100
 z46 := Tryz.sizeOf100
 v46 := Tryz.zeroValue100
 t51 := Tryz.underlying69
 a51 := Tryz.isAgg69
 z51 := Tryz.sizeOf69
 v51 := Tryz.zeroValue69
 t53 := Tryz.underlying139
 a53 := Tryz.isAgg139
 z53 := Tryz.sizeOf139
 v53 := Tryz.zeroValue139 }
theorem Tryz.bits_Len (x : Int) (w : World) (h0 : 0 ≤ x) (h1 : x ≤ 18446744073709551615) :
  Calls Tryz.prog 96 #[.int .u64 x] w fun e w' => e = .returned (.int .i64 (Lib.bitLen x.toNat)) ∧ w' = w := Any.bits_Len Tryz.lays125 x w h0 h1
def Tryz.lays129_ren : Go.Shelf.Ren := ⟨fun | 129 => 133 | n => n, fun | 53 => 139 | 3 => 3 | 4 => 4 | 46 => 100 | 5 => 5 | 9 => 9 | n => n, fun | n => n⟩
theorem Tryz.lays129 : Go.Proofs.Lays.n129 Tryz.prog Tryz.lays129_ren := {
 mixed := by kernel_rfl
 f129 := Tryz.func133.trans (congrArg some (by kernel_rfl))
 t3 := Tryz.underlying3
 a3 := Tryz.isAgg3
 z3 := Tryz.sizeOf3
 v3 := Tryz.zeroValue3
 t4 := Tryz.underlying4
 a4 := Tryz.isAgg4
 z4 := Tryz.sizeOf4
 v4 := Tryz.zeroValue4
 t5 := Tryz.underlying5
 a5 := Tryz.isAgg5
 z5 := Tryz.sizeOf5
 v5 := Tryz.zeroValue5
 t9 := Tryz.underlying9
 a9 := Tryz.isAgg9
 z9 := Tryz.sizeOf9
 v9 := Tryz.zeroValue9
 t46 := Tryz.underlying100
 a46 := Tryz.isAgg100
 z46 := Tryz.sizeOf100
 v46 := Tryz.zeroValue100
 t53 := Tryz.underlying139
 a53 := Tryz.isAgg139
 z53 := Tryz.sizeOf139
 v53 := Tryz.zeroValue139 }
theorem Tryz.bits_Len64 (x : Int) (w : World) (h0 : 0 ≤ x) (h1 : x ≤ 18446744073709551615) :
  Calls Tryz.prog 133 #[.int .u64 x] w fun e w' => e = .returned (.int .i64 (Lib.bitLen x.toNat)) ∧ w' = w := Any.bits_Len64 Tryz.lays129 x w h0 h1
def Tryz.lays190_ren : Go.Shelf.Ren := ⟨fun | 190 => 70 | 125 => 96 | 258 => 95 | 128 => 132 | 129 => 133 | 302 => 123 | 303 => 124 | 304 => 125 | 305 => 126 | 306 => 127 | 307 => 128 | 308 => 129 | 309 => 130 | 310 => 131 | 333 => 161 | 329 => 162 | 330 => 163 | 334 => 164 | 335 => 165 | 336 => 166 | 344 => 182 | n => n, fun | 31 => 29 | 9 => 9 | 3 => 3 | 46 => 100 | 0 => 0 | 51 => 69 | 53 => 139 | 4 => 4 | 183 => 132 | 182 => 131 | 131 => 34 | 5 => 5 | 218 => 162 | 222 => 166 | 228 => 177 | 229 => 178 | n => n, fun | n => n⟩
theorem Tryz.lays190 : Go.Proofs.Lays.n190 Tryz.prog Tryz.lays190_ren := {
 mixed := by kernel_rfl
 f125 := Tryz.func96.trans (congrArg some (by kernel_rfl))
 f128 := Tryz.func132.trans (congrArg some (by kernel_rfl))
 f129 := Tryz.func133.trans (congrArg some (by kernel_rfl))
 f190 := Tryz.func70.trans (congrArg some (by kernel_rfl))
 f258 := Tryz.func95.trans (congrArg some (by kernel_rfl))
 f302 := Tryz.func123.trans (congrArg some (by kernel_rfl))
 f303 := Tryz.func124.trans (congrArg some (by kernel_rfl))
 f304 := Tryz.func125.trans (congrArg some (by kernel_rfl))
 f305 := Tryz.func126.trans (congrArg some (by kernel_rfl))
 f306 := Tryz.func127.trans (congrArg some (by kernel_rfl))
 f307 := Tryz.func128.trans (congrArg some (by kernel_rfl))
 f308 := Tryz.func129.trans (congrArg some (by kernel_rfl))
 f309 := Tryz.func130.trans (congrArg some (by kernel_rfl))
 f310 := Tryz.func131.trans (congrArg some (by kernel_rfl))
 f329 := Tryz.func162.trans (congrArg some (by kernel_rfl))
 f330 := Tryz.func163.trans (congrArg some (by kernel_rfl))
 f333 := Tryz.func161.trans (congrArg some (by kernel_rfl))
 f334 := Tryz.func164.trans (congrArg some (by kernel_rfl))
 f335 := Tryz.func165.trans (congrArg some (by kernel_rfl))
 f336 := Tryz.func166.trans (congrArg some (by kernel_rfl))
 f344 := Tryz.func182.trans (congrArg some (by kernel_rfl))
 t0 := Tryz.underlying0
 a0 := Tryz.isAgg0
 z0 := Tryz.sizeOf0
 v0 := Tryz.zeroValue0
 t3 := Tryz.underlying3
 a3 := Tryz.isAgg3
 z3 := Tryz.sizeOf3
 v3 := Tryz.zeroValue3
 t4 := Tryz.underlying4
 a4 := Tryz.isAgg4
 z4 := Tryz.sizeOf4
 v4 := Tryz.zeroValue4
 t5 := Tryz.underlying5
 a5 := Tryz.isAgg5
 z5 := Tryz.sizeOf5
 v5 := Tryz.zeroValue5
 t9 := Tryz.underlying9
 a9 := Tryz.isAgg9
 z9 := Tryz.sizeOf9
 v9 := Tryz.zeroValue9
 t31 := Tryz.underlying29
 a31 := Tryz.isAgg29
 z31 := Tryz.sizeOf29
 v31 := Tryz.zeroValue29
 t46 := Tryz.underlying100
 a46 := Tryz.isAgg100
 z46 := Tryz.sizeOf100
 v46 := Tryz.zeroValue100
 t51 := Tryz.underlying69
 a51 := Tryz.isAgg69
 z51 := Tryz.sizeOf69
 v51 := Tryz.zeroValue69
 t53 := Tryz.underlying139
 a53 := Tryz.isAgg139
 z53 := Tryz.sizeOf139
 v53 := Tryz.zeroValue139
 t131 := Tryz.underlying34
 a131 := Tryz.isAgg34
 z131 := Tryz.sizeOf34
 v131 := Tryz.zeroValue34
 t182 := Tryz.underlying131
 a182 := Tryz.isAgg131
 z182 := Tryz.sizeOf131
 v182 := Tryz.zeroValue131
 t183 := Tryz.underlying132
 a183 := Tryz.isAgg132
 z183 := Tryz.sizeOf132
 v183 := Tryz.zeroValue132
 t218 := Tryz.underlying162
 a218 := Tryz.isAgg162
 z218 := Tryz.sizeOf162
 v218 := Tryz.zeroValue162
 t222 := Tryz.underlying166
 a222 := Tryz.isAgg166
 z222 := Tryz.sizeOf166
 v222 := Tryz.zeroValue166
 t228 := Tryz.underlying177
 a228 := Tryz.isAgg177
 z228 := Tryz.sizeOf177
 v228 := Tryz.zeroValue177
 t229 := Tryz.underlying178
 a229 := Tryz.isAgg178
 z229 := Tryz.sizeOf178
 v229 := Tryz.zeroValue178 }
open Go.Sort Go.RowKit in
theorem Tryz.slices_Sort_string (blk off cap : Nat) (ss : List (List UInt8)) (w : World) (hH : Holds encStr w blk off ss.toArray) (hblk : blk < w.heap.size) (hsz : ss.length < 4611686018427387904) :
  Calls Tryz.prog 70 #[.slice (some ⟨blk, off, none⟩) ss.length cap] w fun e w' =>
   e = .returned (.tuple #[]) ∧ ∃ n os, w' = grow (putRow encStr (Sort.ahead w n) blk off (ss.mergeSort fun x y => decide (x ≤ y)).toArray) os := Any.slices_Sort_string Tryz.lays190 blk off cap ss w hH hblk hsz
open Go.RowKit Go.Sort in
theorem Tryz.slices_Sort_string_none (p : Option Addr) (cap : Nat) (w : World) :
  Calls Tryz.prog 70 #[.slice p 0 cap] w fun e w' => e = .returned (.tuple #[]) ∧ w' = w := Any.slices_Sort_string_none Tryz.lays190 p cap w
def Tryz.laysRev_ren : Go.Shelf.Ren := ⟨fun | 35 => 189 | n => n, fun | 22 => 44 | 23 => 5 | 3 => 3 | 4 => 4 | 0 => 0 | n => n, fun | n => n⟩
theorem Tryz.laysRev : Go.Proofs.SlLaysE.n35 Tryz.prog Tryz.laysRev_ren := {
 mixed := by kernel_rfl
 f35 := ⟨Tryz.f189.name, by decide, Tryz.func189.trans (congrArg some (by kernel_rfl))⟩
 t0 := Tryz.underlying0
 a0 := Tryz.isAgg0
 z0 := Tryz.sizeOf0
 v0 := Tryz.zeroValue0
 t3 := Tryz.underlying3
 a3 := Tryz.isAgg3
 z3 := Tryz.sizeOf3
 v3 := Tryz.zeroValue3
 t4 := Tryz.underlying4
 a4 := Tryz.isAgg4
 z4 := Tryz.sizeOf4
 v4 := Tryz.zeroValue4
 t22 := Tryz.underlying44
 a22 := Tryz.isAgg44
 z22 := Tryz.sizeOf44
 v22 := Tryz.zeroValue44
 a23 := Tryz.isAgg5
 z23 := Tryz.sizeOf5 }
def Tryz.laysCln_ren : Go.Shelf.Ren := ⟨fun | 41 => 179 | n => n, fun | 22 => 44 | 23 => 5 | 4 => 4 | n => n, fun | n => n⟩
theorem Tryz.laysCln : Go.Proofs.SlLaysE0.n41 Tryz.prog Tryz.laysCln_ren := {
 mixed := by kernel_rfl
 f41 := ⟨Tryz.f179.name, by decide, Tryz.func179.trans (congrArg some (by kernel_rfl))⟩
 t4 := Tryz.underlying4
 a4 := Tryz.isAgg4
 z4 := Tryz.sizeOf4
 v4 := Tryz.zeroValue4
 t22 := Tryz.underlying44
 a22 := Tryz.isAgg44
 z22 := Tryz.sizeOf44
 v22 := Tryz.zeroValue44 }
end Go.Proofs
namespace Go.Proofs.YtalegefnppbkdaaGreat.T1
set_option maxHeartbeats 1000000
open Go.RowKit
set_option maxRecDepth 100000
theorem add0 (g j : Nat) : (⟨g, 0, none⟩ : Addr).add j = ⟨g, j, none⟩ := by
 unfold Addr.add
 split
 ·rename_i h; rw [h]
 ·rw [Nat.zero_add]
theorem conv_row {w : World} {base n : Nat} {v : Value} (l : List UInt8) (hn : n = l.length) (hne : 0 < l.length) (h : w.ownsRow base 5 1 v n (l.map ub)) :
  (convert 44 9 v).run Tryz.prog w = .ok (.string ⟨l.toArray⟩) w := by
 subst hn
 rcases h.2 with ⟨_, h0⟩ | ⟨g, cap, cur, rfl, _⟩
 ·omega
 ·refine run_convert_bytes_back w 44 9 5 ⟨g, 0, none⟩ cap l Tryz.underlying44 Tryz.underlying5 Tryz.underlying9 fun j hj => ?_
  rw [add0, h.cellAt j (by omega)]
  simp [ub, hj]
theorem textOf_any (t : Tm) (hl : t.pr.length ≤ 900) (w : World) : Calls Tryz.prog 86 #[.iface (tyOf t) (pay t)] w fun e w' => e = .returned (.string (S t)) ∧ Below w.heap.size w w' := by
 have HW := write_any t w.heap.size 0 [] (.slice none 0 0) w (World.ownsRow_nil _ _ _ _) (by omega) (Nat.le_refl _)
 have hpos := pr_pos t
 have HC : Hid (∀ (w : World) (v : Value), w.ownsRow w.heap.size 5 1 v (0 + t.pr.length) ([] ++ t.pr.map ub) → True) := fun _ _ _ => trivial
 have HV : Hid (∀ (w1 : World) (b : Nat) (v : Value), w1.ownsRow b 5 1 v (0 + t.pr.length) ([] ++ t.pr.map ub) → (convert 44 9 v).run Tryz.prog w1 = .ok (.string (S t)) w1) := fun w1 b v h =>
  conv_row t.pr (by omega) hpos h
 clear HC
 obtain ⟨T, hT⟩ : ∃ T, T = tyOf t := ⟨_, rfl⟩
 obtain ⟨V, hV⟩ : ∃ V, V = pay t := ⟨_, rfl⟩
 obtain ⟨X, hX⟩ : ∃ X, X = S t := ⟨_, rfl⟩
 rw [← hT, ← hV] at HW
 rw [← hX] at HV
 rw [← hT, ← hV, ← hX]
 have H := Lib.hid HW
 clear hT hV hX HW hpos
 go_enter Tryz.func86, Tryz.ntmps86
 go_wp2_with fail
 refine (H.out).mono ?_
 rintro e w1 ⟨v1, rfl, ho, k1⟩
 have hcv := HV.out w1 _ v1 ho
 clear ho
 go_wp2_with fail
 go_ret
 exact ⟨rfl, k1.below⟩
theorem own_cells {w : World} {base : Nat} {e : TypeId} {g n cap : Nat} {xs : List Value} (h : w.ownsRow base e 1 (.slice (some ⟨g, 0, none⟩) n cap) n xs) : ∀ j u, xs[j]? = some u → w.cell? ((⟨g, 0, none⟩ : Addr).add j) = some u := by
 intro j u hj
 rcases h.2 with ⟨h1, _⟩ | ⟨g', cap', cur, h1, _, h3, _, _, _, h7⟩
 ·cases h1
 ·cases h1
  have hjl : j < xs.length := by
   rcases Nat.lt_or_ge j xs.length with c | c
   ·exact c
   ·rw [List.getElem?_eq_none c] at hj; cases hj
  have hx := h.1
  have : (cur.toList.take (n * 1))[j]? = some u := by rw [h7]; exact hj
  rw [List.getElem?_take, if_pos (by omega)] at this
  show w.cell? (Addr.add ⟨g, 0, none⟩ j) = some u
  have e2 : (Addr.add ⟨g, 0, none⟩ j) = ⟨g, j, none⟩ := by cases j <;> simp [Addr.add]
  rw [e2]
  simp only [World.cell?, h3]
  simpa using this
theorem wpList_append_rows {P : Program} {w : World} {ops : Array Oper} {rest : List Oper} {o : Oper} {a : Act} {Q : Exit → Act → World → Prop} (hgd : o.guard = none) (s x : Operand) (t : TypeId)
  (ho : o.op = .call { callee := .builtin .append, args := #[s, x], argTypes := #[t, t] })
  (base base2 : Nat) (e : TypeId) (i : TypeInfo) (z : Value) (bytes : Nat) (ht : P.underlying t = some (.slice e)) (hi : P.info? e = some i) (hz : i.zero = some z)
  (hsize : i.size = 1) (hby : i.bytes = bytes) (hzs : z.cells.size = 1)
  (v : Value) (n : Nat) (xs : List Value) (hs : a.eval s = v) (hown : w.ownsRow base e 1 v n xs)
  (v2 : Value) (m : Nat) (ys : List Value) (hx : a.eval x = v2) (hown2 : w.ownsRow base2 e 1 v2 m ys) (h1 : ∀ u ∈ ys, u.oneCell' = true)
  (h63 : n + m ≤ maxLen) (hbytes : (n + m) * bytes ≤ 140737488355328) (hbase : base ≤ w.heap.size)
  (h : ∀ v' w', w'.ownsRow base e 1 v' (n + m) (xs ++ ys) → w.grownBy w' v.ownBlock → (v'.ownBlock = v.ownBlock ∨ v'.ownBlock = some w.heap.size) → wpList P ops Q rest (a.put o.dst v') w') :
  wpList P ops Q (o :: rest) a w := by
 rcases hown2.2 with ⟨e1, e2⟩ | ⟨g, cap, cur, e1, _⟩
 ·subst e2
  have hy : ys = [] := by have := hown2.1; simpa using this
  subst hy
  refine wpList_append_own_none hgd s x t ho base e i 1 ht hi v n xs hs hown (hx.trans e1) ?_
  exact h v w (by simpa using hown) ⟨rfl, rfl, rfl, Nat.le_refl _, fun _ _ _ => rfl⟩ (.inl rfl)
 ·subst e1
  refine wpList_append_own_at w hgd s x t ho base e i z 1 bytes ht hi hz hsize hby hzs (by decide) v n xs hs hown ⟨g, 0, none⟩ m cap ys hx (by have := hown2.1; omega) (own_cells hown2) h1 h63 hbytes hbase ?_
  intro v' w' a1 a2 _ a3
  exact h v' w' a1 a2 a3
theorem own_keep {w w' : World} {base n : Nat} {e : TypeId} {v : Value} {xs : List Value} (h : w.ownsRow base e 1 v n xs) (hk : ∀ g, v.ownBlock = some g → w'.heap[g]? = w.heap[g]?) : w'.ownsRow base e 1 v n xs := by
 refine ⟨h.1, h.2.imp id ?_⟩
 rintro ⟨g, cap, cur, hv, h2, h3, h4⟩
 exact ⟨g, cap, cur, hv, h2, (hk g (by rw [hv]; rfl)).trans h3, h4⟩
theorem own_apart {w : World} {b1 b2 n m : Nat} {e f : TypeId} {v u : Value} {xs ys : List Value} (hef : e ≠ f) (h : w.ownsRow b1 e 1 v n xs) (k : w.ownsRow b2 f 1 u m ys) (g : Nat) (h1 : v.ownBlock = some g) : u.ownBlock ≠ some g := by
 intro h2
 rcases h.2 with ⟨e1, _⟩ | ⟨g1, c1, r1, e1, _, d1, _⟩
 ·rw [e1] at h1; simp [Value.ownBlock] at h1
 ·rcases k.2 with ⟨e2, _⟩ | ⟨g2, c2, r2, e2, _, d2, _⟩
  ·rw [e2] at h2; simp [Value.ownBlock] at h2
  ·rw [e1] at h1; rw [e2] at h2
   simp only [Value.ownBlock, Option.some.injEq] at h1 h2
   subst h1; subst h2
   rw [d1] at d2
   simp only [Option.some.injEq, Obj.cells.injEq] at d2
   exact hef d2.2.1
theorem own_bas2 {w : World} {base b2 n : Nat} {e : TypeId} {v : Value} {xs : List Value} (h : w.ownsRow base e 1 v n xs) (hb : b2 ≤ base) : w.ownsRow b2 e 1 v n xs := by
 refine ⟨h.1, h.2.imp id ?_⟩
 rintro ⟨g, cap, cur, hv, h2, h3⟩
 exact ⟨g, cap, cur, hv, Nat.le_trans hb h2, h3⟩
theorem own_below2 {w w' : World} {base n : Nat} {e : TypeId} {v : Value} {xs : List Value} (h : w.ownsRow base e 1 v n xs) (k : Below w.heap.size w w') : w'.ownsRow base e 1 v n xs :=
 own_keep h fun g hg => k.block g (h.lt g hg).2
theorem own_grown {w w' : World} {base n : Nat} {e : TypeId} {v : Value} {r : Option Nat} {xs : List Value} (h : w.ownsRow base e 1 v n xs) (k : w.grownBy w' r) (hr : ∀ g, v.ownBlock = some g → r ≠ some g) : w'.ownsRow base e 1 v n xs :=
 own_keep h fun g hg => k.block g (h.lt g hg).2 (fun e => hr g hg e.symm)
theorem own_new1 (w : World) (x : Value) (T : TypeId) (base : Nat) (hb : base ≤ w.heap.size) : (w.alloc (.cells #[x] T)).ownsRow base T 1 (.slice (some ⟨w.heap.size, 0, none⟩) 1 1) 1 [x] :=
 ⟨rfl, .inr ⟨w.heap.size, 1, #[x], rfl, hb, heap_alloc_new w _, Nat.le_refl _, by unfold maxLen; omega, rfl, rfl⟩⟩
theorem below_grown2 {w0 w w' : World} {r : Option Nat} {B : Nat} (h : Below B w0 w) (k : w.grownBy w' r) (hr : ∀ g, r = some g → B ≤ g) (hB : B ≤ w.heap.size) : Below B w0 w' :=
 ⟨k.os.trans h.os, k.tape.trans h.tape, k.output.trans h.output, Nat.le_trans h.size k.size, fun i hi => (k.block i (by omega) (fun e => by have := hr i e.symm; omega)).trans (h.block i hi)⟩
open Go.Sort (Holds putRow putCells swp ahead)
set_option linter.unusedVariables false
set_option linter.unusedSimpArgs false
theorem revC : RevC := fun g k c zs w hH hz => AnyE.slices_Reverse Tryz.laysRev ub (fun _ => rfl) g k c zs w hH (by omega)
def sv (t : Tm) : Value := .string (S t)
theorem sv_enc (ts : List Tm) : ts.map sv = (ts.map Tm.pr).map encStr := by rw [List.map_map]; rfl
theorem sort_pr (ts : List Tm) : ((ts.map Tm.pr).mergeSort fun x y => decide (x ≤ y)) = (srtT ts).map Tm.pr := by
 unfold srtT
 exact (List.map_mergeSort (r := fun a b : Tm => decide (a.pr ≤ b.pr)) (s := fun x y : List UInt8 => decide (x ≤ y)) (f := Tm.pr) (fun a _ b _ => rfl)).symm
theorem sortT (ts : List Tm) (v : Value) (n base : Nat) (w : World) (h : w.ownsRow base 9 1 v n (ts.map sv)) (hn : n ≤ 1000) :
  Calls Tryz.prog 70 #[v] w fun e w' => e = .returned (.tuple #[]) ∧ w'.ownsRow base 9 1 v n ((srtT ts).map sv) ∧ w.grownBy w' v.ownBlock := by
 have hl := h.1
 rw [List.length_map, Nat.mul_one] at hl
 rcases h.2 with ⟨rfl, rfl⟩ | ⟨g, cap, cur, rfl, h2, h3, h4, h5, h6, h7⟩
 ·have ht : ts = [] := List.length_eq_zero_iff.1 hl
  subst ht
  refine (Tryz.slices_Sort_string_none none 0 w).mono ?_
  rintro e w' ⟨rfl, rfl⟩
  refine ⟨rfl, ?_, ⟨rfl, rfl, rfl, Nat.le_refl _, fun _ _ _ => rfl⟩⟩
  have : srtT ([] : List Tm) = [] := List.length_eq_zero_iff.1 (srtT_len [])
  rw [this]; exact h
 ·subst hl
  rw [Nat.mul_one, sv_enc] at h7
  have hlen : (ts.map Tm.pr).length = ts.length := List.length_map _
  have hH : Holds encStr w g 0 (ts.map Tm.pr).toArray := holds_block encStr h3 (by rw [hlen]; exact h7)
  have := Tryz.slices_Sort_string g 0 cap (ts.map Tm.pr) w hH (lt_of_block h3) (by rw [hlen]; omega)
  rw [hlen, sort_pr] at this
  refine this.mono ?_
  rintro e w' ⟨rfl, q, os, rfl⟩
  refine ⟨rfl, ?_, grownBy_sorted _⟩
  have h8 := ownsRow_sorted (n := q) (os := os) (ss := ts.map Tm.pr) (ts := (srtT ts).map Tm.pr) (base := base) (g := g) (cap := cap) (cur := cur) (e := 9) (w := w) (by rw [List.length_map, List.length_map, srtT_len]) h2 h3 (by rw [hlen]; exact h4) h5 h6
  rw [hlen, ← sv_enc] at h8
  exact h8
theorem cloneB (fs : List UInt8) (v : Value) (n base : Nat) (w : World) (h : w.ownsRow base 5 1 v n (fs.map ub)) (hn : n ≤ 1000) :
  Calls Tryz.prog 179 #[v] w fun e w' => ∃ v', e = .returned v' ∧ w'.ownsRow w.heap.size 5 1 v' n (fs.map ub) ∧ Below w.heap.size w w' := by
 obtain ⟨i0, hi, hz0, hz1, hz2⟩ := info_parts Tryz.infoU8
 have hl := h.1
 rw [List.length_map, Nat.mul_one] at hl
 rcases h.2 with ⟨rfl, rfl⟩ | ⟨g, cap, cur, rfl, h2, h3, h4, h5, h6, h7⟩
 ·refine (AnyE.slices_Clone_nil Tryz.laysCln 0 0 w).mono ?_
  rintro e w' ⟨rfl, rfl⟩
  have ht : fs = [] := List.length_eq_zero_iff.1 hl
  subst ht
  exact ⟨_, rfl, World.ownsRow_nil _ _ _ _, Below.refl _ _⟩
 ·refine (AnyE.slices_Clone Tryz.laysCln i0 (.int .u8 0) 1 1 hi hz0 hz1 hz2 rfl (by decide) Tryz.sizeOf5 g 0 n cap (fs.map ub) w (by rw [List.length_map, Nat.mul_one]; exact hl) (by unfold maxLen; omega) (by omega) (fun j u hj => ?_) (ub_one fs)).mono ?_
  ·have := own_cells h j u hj
   rw [add0] at this
   rw [Nat.zero_add]; exact this
  ·rintro e w' ⟨v', rfl, ho, _, bl⟩
   exact ⟨v', rfl, ho, bl⟩
theorem conv_nil (w : World) : (convert 44 9 (.slice none 0 0)).run Tryz.prog w = .ok (.string ⟨#[]⟩) w := by kernel_rfl
end Go.Proofs.YtalegefnppbkdaaGreat.T1
