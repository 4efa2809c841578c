/- Texts of the proof, put together: St, Nt, Jd. No conditions. -/
import Derived.Test.YtnncoaeolfckbaaGreatGab
import Derived.Test.YtnncoaeolfckbaaGreatGar
import Derived.Test.YtnncoaeolfckbaaGreatGaw
import Derived.Test.YtnncoaeolfckbaaGreatGax
import Derived.Laws.Rows
import Derived.Deep.DeepCutAuto
import Derived.Deep.RegionWith

/- Slices of texts: compared, marked, and asked for their marks. -/
namespace Go.Proofs.YtnncoaeolfckbaaGreat.T1
open Go.RowKit
set_option maxRecDepth 100000
set_option linter.unusedVariables false
set_option linter.unusedSimpArgs false

theorem st_go {u v w : World} (h : Below u.heap.size u v) (k : Below v.heap.size v w) : Below u.heap.size u w := below_trans h k h.size
/-- The digits of a number in front of a text. -/
def dgs : Nat → Nat → ByteArray → ByteArray
  | 0, _, acc => acc
  | f + 1, k, acc => if k = 0 then acc else dgs f (k / 10) (one (UInt8.ofNat (48 + k % 10)) ++ acc)
/-- The text that marks a place. -/
def mkT (k : Nat) : ByteArray := ⟨#[109]⟩ ++ dgs (k + 1) k ⟨#[]⟩
theorem conv_dig (k : Nat) (w : World) : (convert 61 9 (.slice (some ⟨w.heap.size, 0, none⟩) 1 1)).run Tryz.prog (w.alloc (.cells #[.int .u8 (48 + (k : Int) % 10)] 5)) = .ok (.string (one (UInt8.ofNat (48 + k % 10)))) (w.alloc (.cells #[.int .u8 (48 + (k : Int) % 10)] 5)) := by
  have h := conv1 (UInt8.ofNat (48 + k % 10)) w
  rw [show (((UInt8.ofNat (48 + k % 10)).toNat : Nat) : Int) = 48 + (k : Int) % 10 by rw [UInt8.toNat_ofNat']; omega] at h
  exact h
/-- A slice of texts. -/
structure SRow (w : World) (v : Value) (g : Nat) (xs : List ByteArray) : Prop where
  ex : ∃ a c, v = .slice a xs.length c ∧ (xs ≠ [] → a = some ⟨g, 0, none⟩ ∧ ∃ C, w.heap[g]? = some (.cells C 9 (0, 0)) ∧ ∀ j (h : j < xs.length), C[j]? = some (.string xs[j]))
theorem SRow.below {w w' : World} {v : Value} {g : Nat} {xs : List ByteArray} (h : SRow w v g xs) (k : Below w.heap.size w w') : SRow w' v g xs := by
  obtain ⟨a, c, h1, h2⟩ := h.ex
  refine ⟨a, c, h1, fun hne => ?_⟩
  obtain ⟨h3, C, h4, h5⟩ := h2 hne
  exact ⟨h3, C, (k.block g (lt_of_block h4)).trans h4, h5⟩
theorem SRow.only {w w' : World} {v : Value} {g b : Nat} {xs : List ByteArray} (h : SRow w v g xs) (k : Only b w w') (hb : xs ≠ [] → g ≠ b) : SRow w' v g xs := by
  obtain ⟨a, c, h1, h2⟩ := h.ex
  refine ⟨a, c, h1, fun hne => ?_⟩
  obtain ⟨h3, C, h4, h5⟩ := h2 hne
  exact ⟨h3, C, (k.block g (lt_of_block h4) (hb hne)).trans h4, h5⟩
theorem SRow.lt {w : World} {v : Value} {g : Nat} {xs : List ByteArray} (h : SRow w v g xs) (hne : xs ≠ []) : g < w.heap.size := by
  obtain ⟨a, c, h1, h2⟩ := h.ex
  obtain ⟨h3, C, h4, h5⟩ := h2 hne
  exact lt_of_block h4
theorem w_ne (x : ByteArray) : (x.toList != x.toList) = false := by simp

/-- The marks from a number on. -/
def mks (k n : Nat) : List ByteArray := (List.range n).map fun i => mkT (k + i)
theorem mks_len (k n : Nat) : (mks k n).length = n := by simp [mks]
theorem mks_at (k n j : Nat) (h : j < (mks k n).length) : (mks k n)[j] = mkT (k + j) := by simp [mks]
/-- What marking leaves: the next number, the marks in the block, no other old block written. -/
def MkPost (g k n : Nat) (w : World) (e : Ending) (w' : World) : Prop := e = .returned (.int .i64 ((k + n : Nat) : Int)) ∧ (∃ C, w'.heap[g]? = some (.cells C 9 (0, 0)) ∧ ∀ j, j < n → C[j]? = some (.string (mkT (k + j)))) ∧ Only g w w'
end Go.Proofs.YtnncoaeolfckbaaGreat.T1

/- Texts with a sign between them, brackets to the right: in the specification. -/
namespace Go.Proofs.YtnncoaeolfckbaaGreat.T1
open Go.RowKit
set_option maxRecDepth 100000
set_option linter.unusedVariables false
set_option linter.unusedSimpArgs false

/-- Texts with a sign between them, brackets to the right. -/
def joinB (sg : ByteArray) : List ByteArray → ByteArray
  | [] => ⟨#[]⟩
  | [x] => x
  | x :: y :: xs => (⟨#[40]⟩ : ByteArray) ++ x ++ sg ++ joinB sg (y :: xs) ++ (⟨#[41]⟩ : ByteArray)
theorem joinB_drop (sg : ByteArray) (xs : List ByteArray) (j : Nat) (h : j + 1 < xs.length) : joinB sg (xs.drop j) = (⟨#[40]⟩ : ByteArray) ++ xs[j] ++ sg ++ joinB sg (xs.drop (j + 1)) ++ (⟨#[41]⟩ : ByteArray) := by
  rw [List.drop_eq_getElem_cons (show j < xs.length by omega), List.drop_eq_getElem_cons h]; rfl
theorem joinB_last (sg : ByteArray) (xs : List ByteArray) (h : 0 < xs.length) : joinB sg (xs.drop (xs.length - 1)) = xs[xs.length - 1] := by
  rw [List.drop_eq_getElem_cons (show xs.length - 1 < xs.length by omega), List.drop_of_length_le (by omega)]; rfl
theorem joinB_size (sg : ByteArray) (xs : List ByteArray) (M : Nat) (hs : sg.size ≤ 1) (h : ∀ x ∈ xs, x.size ≤ M) : (joinB sg xs).size ≤ xs.length * (M + 3) := by
  induction xs with
  | nil => exact Nat.zero_le _
  | cons x xs ih =>
    cases xs with
    | nil => have := h x (by simp); simp [joinB]; omega
    | cons y xs =>
      have h1 := ih (fun z hz => h z (by simp [hz]))
      have h2 := h x (by simp)
      simp only [joinB, ByteArray.size_append, List.length_cons] at h1 ⊢
      have e1 : (⟨#[40]⟩ : ByteArray).size = 1 := rfl
      have e2 : (⟨#[41]⟩ : ByteArray).size = 1 := rfl
      rw [e1, e2]
      have e3 : (xs.length + 1 + 1) * (M + 3) = (xs.length + 1) * (M + 3) + (M + 3) := by rw [Nat.succ_mul]
      omega
set_option maxHeartbeats 2000000 in
theorem nfText_any (w : World) (g n c : Nat) (C : Array Value) (xs : List ByteArray) (sg : ByteArray) (hn : n = xs.length) (hn1 : 1 ≤ n) (hn2 : n ≤ 100) (hsg : sg.size ≤ 1) (hM : ∀ x ∈ xs, x.size ≤ 1000) (hC : ∀ j (h : j < xs.length), C[j]? = some (.string xs[j])) (hg : w.heap[g]? = some (.cells C 9 (0, 0))) :
    Calls Tryz.prog 98 #[.slice (some ⟨g, 0, none⟩) n c, .string sg] w fun e w' => e = .returned (.string (joinB sg xs)) ∧ w = w' := by
  have HC := Lib.hid hC
  have HM := Lib.hid hM
  have HN := Lib.hid hn
  have HG := Lib.hid hg
  have hlast : n - 1 < xs.length := by omega
  have cl : w.cell? ⟨g, n - 1, none⟩ = some (.string (xs[n - 1]'hlast)) := by rw [cell_of_row w g _ C _ _ hg]; exact hC _ hlast
  obtain ⟨m, rfl⟩ : ∃ m, n = m + 1 := ⟨n - 1, by omega⟩
  have hl0 : Hid (joinB sg (xs.drop m) = xs[m]'(by omega)) := by
    have := joinB_last sg xs (by omega)
    simp only [show xs.length - 1 = m by omega] at this
    exact this
  simp only [Nat.add_sub_cancel] at cl
  obtain ⟨x0, hx0⟩ : ∃ x, x = xs[m]'(by omega) := ⟨_, rfl⟩
  rw [← hx0] at cl
  have HX0 : Hid (x0 = joinB sg (xs.drop m)) := by show _ = _; rw [hl0.out, hx0]
  clear hC hM hn hg hx0 hl0
  go_enter Tryz.func98, Tryz.ntmps98
  go_wp2_with fail
  have hsz : Hid (∀ k, (joinB sg (xs.drop k)).size ≤ 200000) := fun k => by
    have h1 := joinB_size sg (xs.drop k) 1000 hsg (fun x hx => HM.out x (List.mem_of_mem_drop hx))
    have h2 : (xs.drop k).length ≤ 100 := by rw [List.length_drop]; have := HN.out; omega
    have h3 := Nat.mul_le_mul_right (1000 + 3) h2
    omega
  go_loop [5, 6] (fun o v => ∃ (k : Nat) (X : ByteArray), k ≤ m ∧ o = .string X ∧ v = .int .i64 ((k : Int) - 1) ∧ Hid (X = joinB sg (xs.drop k)) ∧ X.size ≤ 200000) (fun _ v => (intOf v + 1).toNat)
  case atStart => exact ⟨m, x0, Nat.le_refl _, rfl, by congr 1; omega, HX0, by rw [HX0.out]; exact hsz.out m⟩
  case round =>
    obtain ⟨k, X, hk, rfl, rfl, hX, hXs⟩ := hrel
    cases k with
    | zero =>
      have hr : Hid (X = joinB sg xs) := hX.out
      rw [show (((0 : Nat) : Int) - 1) = -1 from rfl]
      go_wp2_with fail
      go_ret
      exact ⟨by rw [← hr.out]; rfl, rfl⟩
    | succ j =>
      have hj : j + 1 < xs.length := by have := HN.out; omega
      have hcj := HC.out j (by omega)
      have c1 : w.cell? ⟨g, j, none⟩ = some (.string (xs[j]'(by omega))) := by rw [cell_of_row w g _ C _ _ HG.out]; exact hcj
      have hxj : (xs[j]'(by omega)).size ≤ 1000 := HM.out _ (List.getElem_mem _)
      have hnew : Hid ((⟨#[40]⟩ : ByteArray) ++ (xs[j]'(by omega)) ++ sg ++ X ++ (⟨#[41]⟩ : ByteArray) = joinB sg (xs.drop j)) := by show _ = _; rw [joinB_drop sg xs j hj, ← hX.out]
      obtain ⟨x, hx⟩ : ∃ x, x = xs[j]'(by omega) := ⟨_, rfl⟩
      rw [← hx] at c1 hxj hnew
      rw [show (((j + 1 : Nat) : Int) - 1) = (j : Int) by omega]
      have hjm : (j : Int) < (m : Int) + 1 := by omega
      have hns : ((⟨#[40]⟩ : ByteArray) ++ x ++ sg ++ X ++ (⟨#[41]⟩ : ByteArray)).size ≤ 200000 := by rw [hnew.out]; exact hsz.out j
      have Hns := Lib.hid hns
      clear hcj hx hX hj hns
      go_wp2_with fail
      go_round
      case rel => exact ⟨j, _, by omega, rfl, rfl, hnew, Hns.out⟩
      case measure => simp [intOf]

end Go.Proofs.YtnncoaeolfckbaaGreat.T1

/- Texts with brackets; what is written before a part: in the program. -/
namespace Go.Proofs.YtnncoaeolfckbaaGreat.T1
open Go.RowKit
set_option maxRecDepth 100000
set_option linter.unusedVariables false
set_option linter.unusedSimpArgs false

set_option maxHeartbeats 2000000 in
theorem bracketed_some (w : World) (g n c : Nat) (C : Array Value) (xs : List ByteArray) (sg : ByteArray) (hn : n = xs.length) (hn1 : 1 ≤ n) (hn2 : n ≤ 100) (hsg : sg.size ≤ 1) (hM : ∀ x ∈ xs, x.size ≤ 1000) (hC : ∀ j (h : j < xs.length), C[j]? = some (.string xs[j])) (hg : w.heap[g]? = some (.cells C 9 (0, 0))) :
    Calls Tryz.prog 89 #[.slice (some ⟨g, 0, none⟩) n c, .string sg] w fun e w' => e = .returned (.string (joinB sg xs)) ∧ w = w' := by
  have HC := Lib.hid hC
  have HM := Lib.hid hM
  have HN := Lib.hid hn
  have HG := Lib.hid hg
  have hlast : n - 1 < xs.length := by omega
  have cl : w.cell? ⟨g, n - 1, none⟩ = some (.string (xs[n - 1]'hlast)) := by rw [cell_of_row w g _ C _ _ hg]; exact hC _ hlast
  obtain ⟨m, rfl⟩ : ∃ m, n = m + 1 := ⟨n - 1, by omega⟩
  have hl0 : Hid (joinB sg (xs.drop m) = xs[m]'(by omega)) := by
    have := joinB_last sg xs (by omega)
    simp only [show xs.length - 1 = m by omega] at this
    exact this
  simp only [Nat.add_sub_cancel] at cl
  obtain ⟨x0, hx0⟩ : ∃ x, x = xs[m]'(by omega) := ⟨_, rfl⟩
  rw [← hx0] at cl
  have HX0 : Hid (x0 = joinB sg (xs.drop m)) := by show _ = _; rw [hl0.out, hx0]
  clear hC hM hn hg hx0 hl0
  go_enter Tryz.func89, Tryz.ntmps89
  go_wp2_with fail
  have hsz : Hid (∀ k, (joinB sg (xs.drop k)).size ≤ 200000) := fun k => by
    have h1 := joinB_size sg (xs.drop k) 1000 hsg (fun x hx => HM.out x (List.mem_of_mem_drop hx))
    have h2 : (xs.drop k).length ≤ 100 := by rw [List.length_drop]; have := HN.out; omega
    have h3 := Nat.mul_le_mul_right (1000 + 3) h2
    omega
  go_loop [6, 7] (fun o v => ∃ (k : Nat) (X : ByteArray), k ≤ m ∧ o = .string X ∧ v = .int .i64 ((k : Int) - 1) ∧ Hid (X = joinB sg (xs.drop k)) ∧ X.size ≤ 200000) (fun _ v => (intOf v + 1).toNat)
  case atStart => exact ⟨m, x0, Nat.le_refl _, rfl, by congr 1 <;> omega, HX0, by rw [HX0.out]; exact hsz.out m⟩
  case round =>
    obtain ⟨k, X, hk, rfl, rfl, hX, hXs⟩ := hrel
    cases k with
    | zero =>
      have hr : Hid (X = joinB sg xs) := hX.out
      rw [show (((0 : Nat) : Int) - 1) = -1 from rfl]
      go_wp2_with fail
      go_ret
      exact ⟨by rw [← hr.out]; rfl, rfl⟩
    | succ j =>
      have hj : j + 1 < xs.length := by have := HN.out; omega
      have hcj := HC.out j (by omega)
      have c1 : w.cell? ⟨g, j, none⟩ = some (.string (xs[j]'(by omega))) := by rw [cell_of_row w g _ C _ _ HG.out]; exact hcj
      have hxj : (xs[j]'(by omega)).size ≤ 1000 := HM.out _ (List.getElem_mem _)
      have hnew : Hid ((⟨#[40]⟩ : ByteArray) ++ (xs[j]'(by omega)) ++ sg ++ X ++ (⟨#[41]⟩ : ByteArray) = joinB sg (xs.drop j)) := by show _ = _; rw [joinB_drop sg xs j hj, ← hX.out]
      obtain ⟨x, hx⟩ : ∃ x, x = xs[j]'(by omega) := ⟨_, rfl⟩
      rw [← hx] at c1 hxj hnew
      rw [show (((j + 1 : Nat) : Int) - 1) = (j : Int) by omega]
      have hjm : (j : Int) < (m : Int) + 1 := by omega
      have hns : ((⟨#[40]⟩ : ByteArray) ++ x ++ sg ++ X ++ (⟨#[41]⟩ : ByteArray)).size ≤ 200000 := by rw [hnew.out]; exact hsz.out j
      have Hns := Lib.hid hns
      clear hcj hx hX hj hns
      go_wp2_with fail
      go_round
      case rel => exact ⟨j, _, by omega, rfl, rfl, hnew, Hns.out⟩
      case measure => simp [intOf]
set_option maxHeartbeats 1000000 in
theorem bracketed_none (p : Option Addr) (c : Nat) (sg : ByteArray) (w : World) : Calls Tryz.prog 89 #[.slice p 0 c, .string sg] w fun e w' => e = .returned (.string ⟨#[48]⟩) ∧ w = w' := by
  go_enter Tryz.func89, Tryz.ntmps89
  go_wp2_with fail
  go_ret
  exact ⟨rfl, rfl⟩
/-- What is written before the part of a sign with one part. -/
def hdL : Tm → List UInt8
  | .snd a b _ => [a, 33, b, 46]
  | .rcv a b _ => [a, 63, b, 46]
  | .tau _ => [126, 46]
  | .own a _ => [35, a, 46]
  | .mat a b _ => [91, a, 61, b, 93]
  | .rep _ => [42]
  | _ => []
theorem hdL_pr (t p : Tm) (h : t.parts = [p]) : t.pr = hdL t ++ p.pr := by
  cases t <;> simp only [Tm.parts, List.cons.injEq, and_true, List.nil_eq, reduceCtorEq, List.ne_cons_self, and_false] at h <;> first | (subst h; rfl) | cases h
set_option maxHeartbeats 1000000 in
theorem headOf0 (T : TypeId) (V : Value) (l : List UInt8) (hl : 0 < l.length) (hl2 : l.length ≤ 10)
    (HW : ∀ w, Calls Tryz.prog 93 #[.slice none 0 0, .iface T V] w (WrPost w.heap.size 0 [] l w)) (w : World) :
    Calls Tryz.prog 91 #[.iface T V] w fun e w' => e = .returned (.string (B l)) ∧ Below w.heap.size w w' := by
  have HV : Hid (∀ (w1 : World) (b : Nat) (v : Value), w1.ownsRow b 5 1 v (0 + l.length) ([] ++ l.map ub) → (convert 61 9 v).run Tryz.prog w1 = .ok (.string (B l)) w1) := fun w1 b v h => conv_row l (by omega) hl h
  have H := Lib.hid HW
  clear HW
  obtain ⟨X, hX⟩ : ∃ X, X = B l := ⟨_, rfl⟩
  rw [← hX] at HV ⊢
  clear hX
  go_enter Tryz.func91, Tryz.ntmps91
  go_wp2_with fail
  refine (H.out _).mono ?_
  rintro e w1 ⟨v1, rfl, ho, k1⟩
  have hcv := HV.out w1 _ v1 ho
  clear ho
  go_wp2_with fail
  go_ret
  exact ⟨rfl, k1.below⟩
theorem headOf_any (t p : Tm) (h : t.parts = [p]) (w : World) : Calls Tryz.prog 91 #[.iface (tyOf t) (pay t)] w fun e w' => e = .returned (.string (B (hdL t))) ∧ Below w.heap.size w w' := by
  cases t with
  | nil => cases h
  | sum q u => cases h
  | par q u => cases h
  | snd a b q => exact headOf0 _ _ [a, 33, b, 46] (by simp) (by simp) (fun w => wh_send a b _ _ w.heap.size 0 [] (.slice none 0 0) w (World.ownsRow_nil _ _ _ _) (by omega) (Nat.le_refl _)) w
  | rcv a b q => exact headOf0 _ _ [a, 63, b, 46] (by simp) (by simp) (fun w => wh_receive a b _ _ w.heap.size 0 [] (.slice none 0 0) w (World.ownsRow_nil _ _ _ _) (by omega) (Nat.le_refl _)) w
  | mat a b q => exact headOf0 _ _ [91, a, 61, b, 93] (by simp) (by simp) (fun w => wh_match a b _ _ w.heap.size 0 [] (.slice none 0 0) w (World.ownsRow_nil _ _ _ _) (by omega) (Nat.le_refl _)) w
  | own a q => exact headOf0 _ _ [35, a, 46] (by simp) (by simp) (fun w => wh_own a _ _ w.heap.size 0 [] (.slice none 0 0) w (World.ownsRow_nil _ _ _ _) (by omega) (Nat.le_refl _)) w
  | tau q => exact headOf0 _ _ [126, 46] (by simp) (by simp) (fun w => wh_silent _ _ w.heap.size 0 [] (.slice none 0 0) w (World.ownsRow_nil _ _ _ _) (by omega) (Nat.le_refl _)) w
  | rep q => exact headOf0 _ _ [42] (by simp) (by simp) (fun w => wh_repeat _ _ w.heap.size 0 [] (.slice none 0 0) w (World.ownsRow_nil _ _ _ _) (by omega) (Nat.le_refl _)) w

end Go.Proofs.YtnncoaeolfckbaaGreat.T1
