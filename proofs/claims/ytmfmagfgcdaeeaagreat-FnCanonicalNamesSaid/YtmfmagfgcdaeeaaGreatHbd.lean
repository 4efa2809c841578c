/- Texts of the proof, put together: St, Nt, Jd, Je. No conditions. -/
import Derived.Test.YtmfmagfgcdaeeaaGreatHai
import Derived.Test.YtmfmagfgcdaeeaaGreatHaj
import Derived.Test.YtmfmagfgcdaeeaaGreatHau
import Derived.Test.YtmfmagfgcdaeeaaGreatHaw
import Derived.Test.YtmfmagfgcdaeeaaGreatHba
import Derived.Laws.Rows
import Derived.Deep.DeepCutAuto
import Derived.Deep.RegionWith

/- Slices of texts: compared, marked, and asked for their marks. -/
namespace Go.Proofs.YtmfmagfgcdaeeaaGreat.T1
open Go.RowKit
set_option maxRecDepth 100000
set_option linter.unusedVariables false
set_option linter.unusedSimpArgs false

/-- A slice of texts. -/
structure SRow (w : World) (v : Value) (g : Nat) (xs : List ByteArray) : Prop where
  ex : ∃ a c, v = .slice a xs.length c ∧ (xs ≠ [] → a = some ⟨g, 0, none⟩ ∧ ∃ C, w.heap[g]? = some (.cells C 9 (0, 0)) ∧ ∀ j (h : j < xs.length), C[j]? = some (.string xs[j]))
theorem SRow.below {w w' : World} {v : Value} {g : Nat} {xs : List ByteArray} (h : SRow w v g xs) (k : Below w.heap.size w w') : SRow w' v g xs := by
  obtain ⟨a, c, h1, h2⟩ := h.ex
  refine ⟨a, c, h1, fun hne => ?_⟩
  obtain ⟨h3, C, h4, h5⟩ := h2 hne
  exact ⟨h3, C, (k.block g (lt_of_block h4)).trans h4, h5⟩
theorem SRow.only {w w' : World} {v : Value} {g b : Nat} {xs : List ByteArray} (h : SRow w v g xs) (k : Only b w w') (hb : xs ≠ [] → g ≠ b) : SRow w' v g xs := by
  obtain ⟨a, c, h1, h2⟩ := h.ex
  refine ⟨a, c, h1, fun hne => ?_⟩
  obtain ⟨h3, C, h4, h5⟩ := h2 hne
  exact ⟨h3, C, (k.block g (lt_of_block h4) (hb hne)).trans h4, h5⟩
theorem SRow.lt {w : World} {v : Value} {g : Nat} {xs : List ByteArray} (h : SRow w v g xs) (hne : xs ≠ []) : g < w.heap.size := by
  obtain ⟨a, c, h1, h2⟩ := h.ex
  obtain ⟨h3, C, h4, h5⟩ := h2 hne
  exact lt_of_block h4
end Go.Proofs.YtmfmagfgcdaeeaaGreat.T1

/- Texts with a sign between them, brackets to the right: in the specification. -/
namespace Go.Proofs.YtmfmagfgcdaeeaaGreat.T1
open Go.RowKit
set_option maxRecDepth 100000
set_option linter.unusedVariables false
set_option linter.unusedSimpArgs false

/-- Texts with a sign between them, brackets to the right. -/
def joinB (sg : ByteArray) : List ByteArray → ByteArray
  | [] => ⟨#[]⟩
  | [x] => x
  | x :: y :: xs => (⟨#[40]⟩ : ByteArray) ++ x ++ sg ++ joinB sg (y :: xs) ++ (⟨#[41]⟩ : ByteArray)
theorem joinB_drop (sg : ByteArray) (xs : List ByteArray) (j : Nat) (h : j + 1 < xs.length) : joinB sg (xs.drop j) = (⟨#[40]⟩ : ByteArray) ++ xs[j] ++ sg ++ joinB sg (xs.drop (j + 1)) ++ (⟨#[41]⟩ : ByteArray) := by
  rw [List.drop_eq_getElem_cons (show j < xs.length by omega), List.drop_eq_getElem_cons h]; rfl
theorem joinB_last (sg : ByteArray) (xs : List ByteArray) (h : 0 < xs.length) : joinB sg (xs.drop (xs.length - 1)) = xs[xs.length - 1] := by
  rw [List.drop_eq_getElem_cons (show xs.length - 1 < xs.length by omega), List.drop_of_length_le (by omega)]; rfl
theorem joinB_size (sg : ByteArray) (xs : List ByteArray) (M : Nat) (hs : sg.size ≤ 1) (h : ∀ x ∈ xs, x.size ≤ M) : (joinB sg xs).size ≤ xs.length * (M + 3) := by
  induction xs with
  | nil => exact Nat.zero_le _
  | cons x xs ih =>
    cases xs with
    | nil => have := h x (by simp); simp [joinB]; omega
    | cons y xs =>
      have h1 := ih (fun z hz => h z (by simp [hz]))
      have h2 := h x (by simp)
      simp only [joinB, ByteArray.size_append, List.length_cons] at h1 ⊢
      have e1 : (⟨#[40]⟩ : ByteArray).size = 1 := rfl
      have e2 : (⟨#[41]⟩ : ByteArray).size = 1 := rfl
      rw [e1, e2]
      have e3 : (xs.length + 1 + 1) * (M + 3) = (xs.length + 1) * (M + 3) + (M + 3) := by rw [Nat.succ_mul]
      omega
end Go.Proofs.YtmfmagfgcdaeeaaGreat.T1

/- Texts with brackets; what is written before a part: in the program. -/
namespace Go.Proofs.YtmfmagfgcdaeeaaGreat.T1
open Go.RowKit
set_option maxRecDepth 100000
set_option linter.unusedVariables false
set_option linter.unusedSimpArgs false

set_option maxHeartbeats 2000000 in
theorem bracketed_some (w : World) (g n c : Nat) (C : Array Value) (xs : List ByteArray) (sg : ByteArray) (hn : n = xs.length) (hn1 : 1 ≤ n) (hn2 : n ≤ 100) (hsg : sg.size ≤ 1) (hM : ∀ x ∈ xs, x.size ≤ 1000) (hC : ∀ j (h : j < xs.length), C[j]? = some (.string xs[j])) (hg : w.heap[g]? = some (.cells C 9 (0, 0))) :
    Calls Tryz.prog 183 #[.slice (some ⟨g, 0, none⟩) n c, .string sg] w fun e w' => e = .returned (.string (joinB sg xs)) ∧ w = w' := by
  have HC := Lib.hid hC
  have HM := Lib.hid hM
  have HN := Lib.hid hn
  have HG := Lib.hid hg
  have hlast : n - 1 < xs.length := by omega
  have cl : w.cell? ⟨g, n - 1, none⟩ = some (.string (xs[n - 1]'hlast)) := by rw [cell_of_row w g _ C _ _ hg]; exact hC _ hlast
  obtain ⟨m, rfl⟩ : ∃ m, n = m + 1 := ⟨n - 1, by omega⟩
  have hl0 : Hid (joinB sg (xs.drop m) = xs[m]'(by omega)) := by
    have := joinB_last sg xs (by omega)
    simp only [show xs.length - 1 = m by omega] at this
    exact this
  simp only [Nat.add_sub_cancel] at cl
  obtain ⟨x0, hx0⟩ : ∃ x, x = xs[m]'(by omega) := ⟨_, rfl⟩
  rw [← hx0] at cl
  have HX0 : Hid (x0 = joinB sg (xs.drop m)) := by show _ = _; rw [hl0.out, hx0]
  clear hC hM hn hg hx0 hl0
  go_enter Tryz.func183, Tryz.ntmps183
  go_wp2_with fail
  have hsz : Hid (∀ k, (joinB sg (xs.drop k)).size ≤ 200000) := fun k => by
    have h1 := joinB_size sg (xs.drop k) 1000 hsg (fun x hx => HM.out x (List.mem_of_mem_drop hx))
    have h2 : (xs.drop k).length ≤ 100 := by rw [List.length_drop]; have := HN.out; omega
    have h3 := Nat.mul_le_mul_right (1000 + 3) h2
    omega
  go_loop [6, 7] (fun o v => ∃ (k : Nat) (X : ByteArray), k ≤ m ∧ o = .string X ∧ v = .int .i64 ((k : Int) - 1) ∧ Hid (X = joinB sg (xs.drop k)) ∧ X.size ≤ 200000) (fun _ v => (intOf v + 1).toNat)
  case atStart => exact ⟨m, x0, Nat.le_refl _, rfl, by congr 1 <;> omega, HX0, by rw [HX0.out]; exact hsz.out m⟩
  case round =>
    obtain ⟨k, X, hk, rfl, rfl, hX, hXs⟩ := hrel
    cases k with
    | zero =>
      have hr : Hid (X = joinB sg xs) := hX.out
      rw [show (((0 : Nat) : Int) - 1) = -1 from rfl]
      go_wp2_with fail
      go_ret
      exact ⟨by rw [← hr.out]; rfl, rfl⟩
    | succ j =>
      have hj : j + 1 < xs.length := by have := HN.out; omega
      have hcj := HC.out j (by omega)
      have c1 : w.cell? ⟨g, j, none⟩ = some (.string (xs[j]'(by omega))) := by rw [cell_of_row w g _ C _ _ HG.out]; exact hcj
      have hxj : (xs[j]'(by omega)).size ≤ 1000 := HM.out _ (List.getElem_mem _)
      have hnew : Hid ((⟨#[40]⟩ : ByteArray) ++ (xs[j]'(by omega)) ++ sg ++ X ++ (⟨#[41]⟩ : ByteArray) = joinB sg (xs.drop j)) := by show _ = _; rw [joinB_drop sg xs j hj, ← hX.out]
      obtain ⟨x, hx⟩ : ∃ x, x = xs[j]'(by omega) := ⟨_, rfl⟩
      rw [← hx] at c1 hxj hnew
      rw [show (((j + 1 : Nat) : Int) - 1) = (j : Int) by omega]
      have hjm : (j : Int) < (m : Int) + 1 := by omega
      have hns : ((⟨#[40]⟩ : ByteArray) ++ x ++ sg ++ X ++ (⟨#[41]⟩ : ByteArray)).size ≤ 200000 := by rw [hnew.out]; exact hsz.out j
      have Hns := Lib.hid hns
      clear hcj hx hX hj hns
      go_wp2_with fail
      go_round
      case rel => exact ⟨j, _, by omega, rfl, rfl, hnew, Hns.out⟩
      case measure => simp [intOf]
set_option maxHeartbeats 1000000 in
theorem bracketed_none (p : Option Addr) (c : Nat) (sg : ByteArray) (w : World) : Calls Tryz.prog 183 #[.slice p 0 c, .string sg] w fun e w' => e = .returned (.string ⟨#[48]⟩) ∧ w = w' := by
  go_enter Tryz.func183, Tryz.ntmps183
  go_wp2_with fail
  go_ret
  exact ⟨rfl, rfl⟩
/-- What is written before the part of a sign with one part. -/
def hdL : Tm → List UInt8
  | .snd a b _ => [a, 33, b, 46]
  | .rcv a b _ => [a, 63, b, 46]
  | .tau _ => [126, 46]
  | .own a _ => [35, a, 46]
  | .mat a b _ => [91, a, 61, b, 93]
  | .rep _ => [42]
  | _ => []
theorem hdL_pr (t p : Tm) (h : t.parts = [p]) : t.pr = hdL t ++ p.pr := by
  cases t <;> simp only [Tm.parts, List.cons.injEq, and_true, List.nil_eq, reduceCtorEq, List.ne_cons_self, and_false] at h <;> first | (subst h; rfl) | cases h
set_option maxHeartbeats 1000000 in
theorem headOf0 (T : TypeId) (V : Value) (l : List UInt8) (hl : 0 < l.length) (hl2 : l.length ≤ 10)
    (HW : ∀ w, Calls Tryz.prog 154 #[.slice none 0 0, .iface T V] w (WrPost w.heap.size 0 [] l w)) (w : World) :
    Calls Tryz.prog 185 #[.iface T V] w fun e w' => e = .returned (.string (B l)) ∧ Below w.heap.size w w' := by
  have HV : Hid (∀ (w1 : World) (b : Nat) (v : Value), w1.ownsRow b 5 1 v (0 + l.length) ([] ++ l.map ub) → (convert 22 9 v).run Tryz.prog w1 = .ok (.string (B l)) w1) := fun w1 b v h => conv_row l (by omega) hl h
  have H := Lib.hid HW
  clear HW
  obtain ⟨X, hX⟩ : ∃ X, X = B l := ⟨_, rfl⟩
  rw [← hX] at HV ⊢
  clear hX
  go_enter Tryz.func185, Tryz.ntmps185
  go_wp2_with fail
  refine (H.out _).mono ?_
  rintro e w1 ⟨v1, rfl, ho, k1⟩
  have hcv := HV.out w1 _ v1 ho
  clear ho
  go_wp2_with fail
  go_ret
  exact ⟨rfl, k1.below⟩
theorem headOf_any (t p : Tm) (h : t.parts = [p]) (w : World) : Calls Tryz.prog 185 #[.iface (tyOf t) (pay t)] w fun e w' => e = .returned (.string (B (hdL t))) ∧ Below w.heap.size w w' := by
  cases t with
  | nil => cases h
  | sum q u => cases h
  | par q u => cases h
  | snd a b q => exact headOf0 _ _ [a, 33, b, 46] (by simp) (by simp) (fun w => wh_send a b _ _ w.heap.size 0 [] (.slice none 0 0) w (World.ownsRow_nil _ _ _ _) (by omega) (Nat.le_refl _)) w
  | rcv a b q => exact headOf0 _ _ [a, 63, b, 46] (by simp) (by simp) (fun w => wh_receive a b _ _ w.heap.size 0 [] (.slice none 0 0) w (World.ownsRow_nil _ _ _ _) (by omega) (Nat.le_refl _)) w
  | mat a b q => exact headOf0 _ _ [91, a, 61, b, 93] (by simp) (by simp) (fun w => wh_match a b _ _ w.heap.size 0 [] (.slice none 0 0) w (World.ownsRow_nil _ _ _ _) (by omega) (Nat.le_refl _)) w
  | own a q => exact headOf0 _ _ [35, a, 46] (by simp) (by simp) (fun w => wh_own a _ _ w.heap.size 0 [] (.slice none 0 0) w (World.ownsRow_nil _ _ _ _) (by omega) (Nat.le_refl _)) w
  | tau q => exact headOf0 _ _ [126, 46] (by simp) (by simp) (fun w => wh_silent _ _ w.heap.size 0 [] (.slice none 0 0) w (World.ownsRow_nil _ _ _ _) (by omega) (Nat.le_refl _)) w
  | rep q => exact headOf0 _ _ [42] (by simp) (by simp) (fun w => wh_repeat _ _ w.heap.size 0 [] (.slice none 0 0) w (World.ownsRow_nil _ _ _ _) (by omega) (Nat.le_refl _)) w

end Go.Proofs.YtmfmagfgcdaeeaaGreat.T1

/- A draft binds names: in the program. -/
namespace Go.Proofs.YtmfmagfgcdaeeaaGreat.T1
open Go.RowKit
set_option maxRecDepth 100000
set_option linter.unusedVariables false
set_option linter.unusedSimpArgs false

theorem Tryz.infoDf : (Tryz.prog.info? 152).map (·.size) = some 257 := by kernel_rfl
theorem zs257 : Hid ((Tryz.zeroCells152).size = 257) := by show _ = _; kernel_rfl
/-- A draft as it lies in memory: what stands for each name, and the letters that are left. -/
structure DrOf (D : Array Value) (L : UInt8 → UInt8) (v : Value) : Prop where
  sz : D.size = 257
  at_ : ∀ j, j < 256 → D[j]? = some (.int .u8 ((L (UInt8.ofNat j)).toNat : Int))
  lf : D[256]? = some v
  ones : v.oneCell' = true
theorem DrOf.set {D : Array Value} {L : UInt8 → UInt8} {v : Value} (h : DrOf D L v) (x n0 : UInt8) : DrOf (D.setIfInBounds x.toNat (.int .u8 (n0.toNat : Int))) (upd L x n0) v := by
  have hx := x.toNat_lt
  refine ⟨by rw [Array.size_setIfInBounds]; exact h.sz, fun j hj => ?_, ?_, h.ones⟩
  · by_cases e : x.toNat = j
    · subst e
      rw [Array.getElem?_setIfInBounds_self_of_lt (by rw [h.sz]; omega)]
      have : UInt8.ofNat x.toNat = x := by apply UInt8.toNat_inj.1; rw [UInt8.toNat_ofNat']; omega
      rw [this]; unfold upd; rw [if_pos rfl]
    · rw [Array.getElem?_setIfInBounds_ne e, h.at_ j hj]
      unfold upd
      rw [if_neg]
      intro e2
      apply e
      rw [← e2, UInt8.toNat_ofNat']; omega
  · rw [Array.getElem?_setIfInBounds_ne (by omega)]; exact h.lf
theorem DrOf.left {D : Array Value} {L : UInt8 → UInt8} {v : Value} (h : DrOf D L v) (u : Value) (hu : u.oneCell' = true) : DrOf (D.setIfInBounds 256 u) L u := by
  refine ⟨by rw [Array.size_setIfInBounds]; exact h.sz, fun j hj => ?_, ?_, hu⟩
  · rw [Array.getElem?_setIfInBounds_ne (by omega)]; exact h.at_ j hj
  · rw [Array.getElem?_setIfInBounds_self_of_lt (by rw [h.sz]; omega)]
theorem DrOf.all {D : Array Value} {L : UInt8 → UInt8} {v : Value} (h : DrOf D L v) : D.all (·.oneCell') = true := by
  refine Array.all_eq_true.2 fun i hi => ?_
  have hs := h.sz
  by_cases c : i < 256
  · have := h.at_ i c
    rw [Array.getElem?_eq_getElem hi] at this
    simp only [Option.some.injEq] at this
    rw [this]; rfl
  · obtain rfl : i = 256 := by omega
    have := h.lf
    rw [Array.getElem?_eq_getElem hi] at this
    simp only [Option.some.injEq] at this
    rw [this]; exact h.ones
theorem updL_snoc : ∀ (xs ls : List UInt8) (L : UInt8 → UInt8) (k : Nat) (h1 : k < xs.length) (h2 : k < ls.length), updL L (xs.take (k + 1)) ls = upd (updL L (xs.take k) ls) xs[k] ls[k]
  | x :: xs, l :: ls, L, 0, _, _ => by simp [updL]
  | x :: xs, l :: ls, L, k + 1, h1, h2 => by
    simp only [List.take_succ_cons, updL, List.getElem_cons_succ]
    exact updL_snoc xs ls _ k (by simpa using h1) (by simpa using h2)
  | [], _, _, _, h, _ => by simp at h
  | _ :: _, [], _, _, _, h => by simp at h
/-- The letters that are left: a slice somewhere in block g. -/
def LfS (w : World) (g : Nat) (v : Value) (ns : List UInt8) : Prop :=
  (v = .slice none 0 0 ∧ ns = []) ∨ ∃ off c, v = .slice (some ⟨g, off, none⟩) ns.length c ∧ ns.length ≤ c ∧ c ≤ maxLen ∧ ∀ j (h : j < ns.length), w.cell? ⟨g, off + j, none⟩ = some (.int .u8 (ns[j].toNat : Int))
theorem LfS.below {w w' : World} {g : Nat} {v : Value} {ns : List UInt8} (h : LfS w g v ns) (k : Below w.heap.size w w') : LfS w' g v ns := by
  rcases h with h | ⟨off, c, h1, h2, h3, h4⟩
  · exact .inl h
  · exact .inr ⟨off, c, h1, h2, h3, fun j hj => (k.cell (p := ⟨g, off + j, none⟩) (lt_cell (h4 j hj))).trans (h4 j hj)⟩
theorem LfS.keep {w w' : World} {g : Nat} {v : Value} {ns : List UInt8} (h : LfS w g v ns) (k : w'.heap[g]? = w.heap[g]?) : LfS w' g v ns := by
  rcases h with h | ⟨off, c, h1, h2, h3, h4⟩
  · exact .inl h
  · exact .inr ⟨off, c, h1, h2, h3, fun j hj => (World.cell?_of_block (a := ⟨g, off + j, none⟩) k).trans (h4 j hj)⟩
theorem LfS.one {w : World} {g : Nat} {v : Value} {ns : List UInt8} (h : LfS w g v ns) : v.oneCell' = true := by
  rcases h with ⟨rfl, _⟩ | ⟨off, c, rfl, _⟩ <;> rfl
def BindP (L : UInt8 → UInt8) (gL : Nat) (ns : List UInt8) (w : World) (e : Ending) (w' : World) : Prop :=
  ∃ D' v', e = .returned (.agg D') ∧ DrOf D' L v' ∧ LfS w' gL v' ns ∧ Below w.heap.size w w'
set_option maxHeartbeats 8000000 in
theorem binding_any (D : Array Value) (L : UInt8 → UInt8) (vL : Value) (gL : Nat) (ns xs : List UInt8) (px : Option Addr) (gx cx : Nat) (hD : DrOf D L vL) (hn : xs.length ≤ 1000) (hle : xs.length ≤ ns.length) (hns : ns.length ≤ 1000) (w : World) (hL : LfS w gL vL ns) (hgL : gL < w.heap.size)
    (hx : xs ≠ [] → px = some ⟨gx, 0, none⟩ ∧ ∀ k (h : k < xs.length), w.cell? ⟨gx, k, none⟩ = some (.int .u8 (xs[k].toNat : Int))) :
    Calls Tryz.prog 180 #[.agg D, .slice px xs.length cx] w (BindP (updL L xs ns) gL (ns.drop xs.length) w) := by
  have HX := Lib.hid hx
  have HD := Lib.hid hD
  have HL := Lib.hid hL
  have HVL : Hid (vL.oneCell' = true) := hL.one
  obtain ⟨Z, hZ⟩ : ∃ Z, Z = Tryz.zeroCells152 := ⟨_, rfl⟩
  have hZs : Hid (Z.size = 257) := by rw [hZ]; exact zs257
  clear hx hD hL
  go_enter Tryz.func180, Tryz.ntmps180
  go_wp2_with fail
  rw [← hZ]
  obtain ⟨W, hW⟩ : ∃ W, W = (w.alloc (.cells D 152)).alloc (.cells Z 152) := ⟨_, rfl⟩
  rw [← hW]
  have r0 : Hid (W.heap[w.heap.size]? = some (.cells D 152 (0, 0))) := by rw [hW]; exact first_block _ _ _
  have r1 : Hid (W.heap[w.heap.size + 1]? = some (.cells Z 152 (0, 0))) := by rw [hW]; exact last_block _ _ _
  have bl : Below w.heap.size w W := by rw [hW]; exact below_two _ _ _
  clear hW hZ
  go_loopw [9] (fun i wr => ∃ (k : Nat) (Dk : Array Value), k ≤ xs.length ∧ i = .int .i64 (k : Int) ∧ Hid (DrOf Dk (updL L (xs.take k) ns) vL) ∧ Hid (wr.heap[w.heap.size]? = some (.cells Dk 152 (0, 0))) ∧ Hid (wr.heap[w.heap.size + 1]? = some (.cells Z 152 (0, 0))) ∧ Below w.heap.size w wr) (fun i _ => xs.length - (intOf i).toNat)
  case atStart => exact ⟨0, D, Nat.zero_le _, rfl, by show DrOf _ _ _; have := HD.out; simpa [updL] using this, r0, r1, bl⟩
  case round =>
    obtain ⟨k, Dk, hk, rfl, hdk, h0, h1, hbw⟩ := hrel
    have cL : wr.cell? ⟨w.heap.size, 256, none⟩ = some vL := by rw [cell_of_row wr _ 256 Dk _ _ h0.out]; exact hdk.out.lf
    have fL := frozen_of_row wr w.heap.size 256 Dk _ h0.out
    by_cases hlt : k < xs.length
    · have hxne : xs ≠ [] := fun e => by rw [e] at hlt; simp at hlt
      have hkn : k < ns.length := by omega
      obtain ⟨e1, hxc⟩ := HX.out hxne
      rcases HL.out with ⟨_, e⟩ | ⟨off, c, e2, hc1, hc3, hnc⟩
      · rw [e] at hkn; simp at hkn
      subst e1 e2
      obtain ⟨x, hx⟩ : ∃ x, x = xs[k] := ⟨_, rfl⟩
      obtain ⟨y, hy⟩ : ∃ y, y = ns[k] := ⟨_, rfl⟩
      have c1 : wr.cell? ⟨gx, k, none⟩ = some (.int .u8 (x.toNat : Int)) := by
        rw [hx]; exact (hbw.cell (p := ⟨gx, k, none⟩) (lt_cell (hxc k hlt))).trans (hxc k hlt)
      have c2 : wr.cell? ⟨gL, off + k, none⟩ = some (.int .u8 (y.toNat : Int)) := by
        rw [hy]; exact (hbw.cell (p := ⟨gL, off + k, none⟩) hgL).trans (hnc k hkn)
      have hxl := x.toNat_lt
      have hxi : ((x.toNat : Nat) : Int) < 256 := by omega
      obtain ⟨z, hz⟩ : ∃ z, Dk[x.toNat]? = some z := ⟨_, Array.getElem?_eq_getElem (by rw [hdk.out.sz]; omega)⟩
      have c3 : wr.cell? ⟨w.heap.size, x.toNat, none⟩ = some z := by rw [cell_of_row wr _ x.toNat Dk _ _ h0.out]; exact hz
      have f3 := frozen_of_row wr w.heap.size x.toNat Dk _ h0.out
      have H0 := Lib.hid (heap_setCell_same wr w.heap.size x.toNat Dk 152 (.int .u8 (y.toNat : Int)) h0.out)
      have H1 : Hid ((wr.setCell ⟨w.heap.size, x.toNat, none⟩ (.int .u8 (y.toNat : Int))).heap[w.heap.size + 1]? = some (.cells Z 152 (0, 0))) := row_set h1.out (by omega)
      have HDk : Hid (DrOf (Dk.setIfInBounds x.toNat (.int .u8 (y.toNat : Int))) (updL L (xs.take (k + 1)) ns) (.slice (some ⟨gL, off, none⟩) ns.length c)) := by
        show DrOf _ _ _
        rw [updL_snoc xs ns L k hlt hkn, ← hx, ← hy]
        exact hdk.out.set x y
      have Hb := Lib.hid hbw
      clear hx hy hz hxc hnc hbw
      go_wp2_with fail
      go_roundw
      case rel => exact ⟨k + 1, _, by omega, by push_cast; rfl, HDk, H0, H1, Hb.out.setCell (p := ⟨w.heap.size, x.toNat, none⟩) (Nat.le_refl _) _⟩
      case measure => simp [intOf] <;> omega
    · obtain rfl : k = xs.length := by omega
      have hi : Hid ((Tryz.prog.info? 152).map (·.size) = some 257) := Tryz.infoDf
      have hlt : xs.length ≤ ns.length := hle
      have q1 : (xs.length : Int) ≤ (ns.length : Int) := by omega
      rcases HL.out with ⟨e, e2⟩ | ⟨off, c, e, hc1, hc3, hnc⟩
      · subst e
        have hx0 : xs = [] := List.length_eq_zero_iff.1 (by rw [e2] at hle; simpa using hle)
        have hlf : Hid (LfS w gL (.slice none 0 0) (ns.drop xs.length)) := .inl ⟨rfl, by rw [e2]; simp⟩
        have E2 := Lib.hid e2
        clear e2
        subst hx0
        obtain ⟨V', hV'⟩ : ∃ V', V' = (.slice none 0 0 : Value) := ⟨_, rfl⟩
        have hd' : Hid (DrOf (Dk.setIfInBounds 256 V') (updL L [] ns) V') := by
          have := hdk.out.left V' (by rw [hV']; rfl)
          show DrOf _ _ _
          simpa using this
        have hlf' : Hid (LfS w gL V' (ns.drop ([] : List UInt8).length)) := by
          rw [hV']; exact hlf.out
        have h0' := Lib.hid (heap_setCell_same wr w.heap.size 256 Dk 152 V' h0.out)
        have h1' : Hid ((wr.setCell ⟨w.heap.size, 256, none⟩ V').heap[w.heap.size + 1]? = some (.cells Z 152 (0, 0))) := row_set h1.out (by omega)
        obtain ⟨D', hD'⟩ : ∃ D', D' = Dk.setIfInBounds 256 V' := ⟨_, rfl⟩
        rw [← hD'] at hd' h0'
        have hi' : Hid ((Tryz.prog.info? 152).map (·.size) = some D'.size) := by show _ = _; rw [Tryz.infoDf, hd'.out.sz]
        have hold : Hid (Z.size = D'.size) := by show _ = _; rw [hZs.out, hd'.out.sz]
        have hone : Hid (D'.all (·.oneCell') = true) := hd'.out.all
        have bl' := Lib.hid (hbw.setCell (p := ⟨w.heap.size, 256, none⟩) (Nat.le_refl _) V')
        rw [hV'] at h0' h1' bl'
        clear hD' hbw
        go_wp2_with (first
          | refine wpList_load_row rfl 152 (.tmp 2) rfl w.heap.size rfl 152 D' (0, 0) _ h0'.out Tryz.underlying152 rfl hi'.out ?_
          | refine wpList_store_row rfl 152 (.tmp 4) (.tmp 29) rfl (w.heap.size + 1) D' rfl rfl 152 Z h1'.out hi'.out hold.out hone.out ?_)
        have bf := below_setRow (g := w.heap.size + 1) (cs := D') bl'.out (by omega) bl'.out.size
        exact bodyPost_ret (v := .agg D') (results_cell_row (t := 152) (fr := (0, 0)) rfl _ _ (w.heap.size + 1) _ _ rfl (setRow_heap _ (w.heap.size + 1) Z D' 152 _ h1'.out) Tryz.underlying152 rfl hi'.out) rfl ⟨D', V', rfl, hd'.out, hlf'.out.below bf, bf⟩
      · subst e
        have q2 : (xs.length : Int) ≤ (c : Int) := by omega
        by_cases hcn : c = xs.length
        · have hlf : Hid (LfS w gL (.slice (some ⟨gL, off, none⟩) 0 0) (ns.drop xs.length)) := by
            have hd0 : ns.drop xs.length = [] := List.drop_of_length_le (by omega)
            rw [hd0]
            exact .inr ⟨off, 0, rfl, Nat.le_refl _, by omega, fun j hj => by simp at hj⟩
          clear hnc
          subst hcn
          obtain ⟨V', hV'⟩ : ∃ V', V' = (.slice (some ⟨gL, off, none⟩) 0 0 : Value) := ⟨_, rfl⟩
          have hd' : Hid (DrOf (Dk.setIfInBounds 256 V') (updL L xs ns) V') := by
            have := hdk.out.left V' (by rw [hV']; rfl)
            rw [List.take_of_length_le (Nat.le_refl _)] at this
            exact this
          have hlf' : Hid (LfS w gL V' (ns.drop xs.length)) := by
            rw [hV']; exact hlf.out
          have h0' := Lib.hid (heap_setCell_same wr w.heap.size 256 Dk 152 V' h0.out)
          have h1' : Hid ((wr.setCell ⟨w.heap.size, 256, none⟩ V').heap[w.heap.size + 1]? = some (.cells Z 152 (0, 0))) := row_set h1.out (by omega)
          obtain ⟨D', hD'⟩ : ∃ D', D' = Dk.setIfInBounds 256 V' := ⟨_, rfl⟩
          rw [← hD'] at hd' h0'
          have hi' : Hid ((Tryz.prog.info? 152).map (·.size) = some D'.size) := by show _ = _; rw [Tryz.infoDf, hd'.out.sz]
          have hold : Hid (Z.size = D'.size) := by show _ = _; rw [hZs.out, hd'.out.sz]
          have hone : Hid (D'.all (·.oneCell') = true) := hd'.out.all
          have bl' := Lib.hid (hbw.setCell (p := ⟨w.heap.size, 256, none⟩) (Nat.le_refl _) V')
          rw [hV'] at h0' h1' bl'
          clear hD' hbw
          go_wp2_with (first
            | refine wpList_load_row rfl 152 (.tmp 2) rfl w.heap.size rfl 152 D' (0, 0) _ h0'.out Tryz.underlying152 rfl hi'.out ?_
            | refine wpList_store_row rfl 152 (.tmp 4) (.tmp 29) rfl (w.heap.size + 1) D' rfl rfl 152 Z h1'.out hi'.out hold.out hone.out ?_)
          have bf := below_setRow (g := w.heap.size + 1) (cs := D') bl'.out (by omega) bl'.out.size
          exact bodyPost_ret (v := .agg D') (results_cell_row (t := 152) (fr := (0, 0)) rfl _ _ (w.heap.size + 1) _ _ rfl (setRow_heap _ (w.heap.size + 1) Z D' 152 _ h1'.out) Tryz.underlying152 rfl hi'.out) rfl ⟨D', V', rfl, hd'.out, hlf'.out.below bf, bf⟩
        · have hlf : Hid (LfS w gL (.slice (some ⟨gL, off + xs.length, none⟩) (ns.length - xs.length) (c - xs.length)) (ns.drop xs.length)) := by
            refine .inr ⟨off + xs.length, c - xs.length, by rw [List.length_drop], by rw [List.length_drop]; omega, by omega, fun j hj => ?_⟩
            rw [List.length_drop] at hj
            have := hnc (xs.length + j) (by omega)
            rw [Nat.add_assoc, this, List.getElem_drop]
          clear hnc
          obtain ⟨V', hV'⟩ : ∃ V', V' = (.slice (some ⟨gL, off + xs.length, none⟩) (ns.length - xs.length) (c - xs.length) : Value) := ⟨_, rfl⟩
          have hd' : Hid (DrOf (Dk.setIfInBounds 256 V') (updL L xs ns) V') := by
            have := hdk.out.left V' (by rw [hV']; rfl)
            rw [List.take_of_length_le (Nat.le_refl _)] at this
            exact this
          have hlf' : Hid (LfS w gL V' (ns.drop xs.length)) := by
            rw [hV']; exact hlf.out
          have h0' := Lib.hid (heap_setCell_same wr w.heap.size 256 Dk 152 V' h0.out)
          have h1' : Hid ((wr.setCell ⟨w.heap.size, 256, none⟩ V').heap[w.heap.size + 1]? = some (.cells Z 152 (0, 0))) := row_set h1.out (by omega)
          obtain ⟨D', hD'⟩ : ∃ D', D' = Dk.setIfInBounds 256 V' := ⟨_, rfl⟩
          rw [← hD'] at hd' h0'
          have hi' : Hid ((Tryz.prog.info? 152).map (·.size) = some D'.size) := by show _ = _; rw [Tryz.infoDf, hd'.out.sz]
          have hold : Hid (Z.size = D'.size) := by show _ = _; rw [hZs.out, hd'.out.sz]
          have hone : Hid (D'.all (·.oneCell') = true) := hd'.out.all
          have bl' := Lib.hid (hbw.setCell (p := ⟨w.heap.size, 256, none⟩) (Nat.le_refl _) V')
          rw [hV'] at h0' h1' bl'
          clear hD' hbw
          go_wp2_with (first
            | refine wpList_load_row rfl 152 (.tmp 2) rfl w.heap.size rfl 152 D' (0, 0) _ h0'.out Tryz.underlying152 rfl hi'.out ?_
            | refine wpList_store_row rfl 152 (.tmp 4) (.tmp 29) rfl (w.heap.size + 1) D' rfl rfl 152 Z h1'.out hi'.out hold.out hone.out ?_)
          have bf := below_setRow (g := w.heap.size + 1) (cs := D') bl'.out (by omega) bl'.out.size
          exact bodyPost_ret (v := .agg D') (results_cell_row (t := 152) (fr := (0, 0)) rfl _ _ (w.heap.size + 1) _ _ rfl (setRow_heap _ (w.heap.size + 1) Z D' 152 _ h1'.out) Tryz.underlying152 rfl hi'.out) rfl ⟨D', V', rfl, hd'.out, hlf'.out.below bf, bf⟩

end Go.Proofs.YtmfmagfgcdaeeaaGreat.T1
