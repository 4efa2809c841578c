/- Texts of the proof, put together: Count. No conditions. -/
import Derived.Test.YtinkioodkgccjaaDoorHal

/- Subterms counted for which a function says yes. -/
namespace Go.Proofs.YtinkioodkgccjaaDoor.T1
open Go.RowKit
set_option maxRecDepth 100000

/-- The counter's block and the function's block. -/
def CntI (bf bn : Nat) (fv : Value) (hp : Tm → Bool) (J : World → Prop) (acc : List Tm) (w : World) : Prop :=
  (∃ Tf, w.heap[bf]? = some (.cells #[fv] Tf (0, 0))) ∧ (∃ Tn, w.heap[bn]? = some (.cells #[.int .i64 (wrap64 (acc.countP hp : Nat))] Tn (0, 0))) ∧ J w

theorem wrap64_lo (x : Int) : -9223372036854775808 ≤ wrap64 x ∧ wrap64 x ≤ 9223372036854775807 := by unfold wrap64; omega
theorem wrap64_succ (c : Nat) : wrap64 (wrap64 (c : Int) + 1) = wrap64 ((c + 1 : Nat) : Int) := by unfold wrap64; omega

set_option maxHeartbeats 1000000 in
theorem count1 (bf bn : Nat) (HF : FuncId) (hcaps : Array Value) (hp : Tm → Bool) (J : World → Prop) (B : Nat) (hne : bf ≠ bn) (hB : B ≤ bn)
    (hFH : ∀ args w, (callFunc HF args).run Tryd.prog w = .ok (.enter HF args) w) (hJ : ∀ w w', J w → Below B w w' → J w')
    (T : TypeId) (V : Value) (t : Tm) (hH : ∀ w, J w → Calls Tryd.prog HF (#[.iface T V] ++ hcaps) w fun e w' => e = .returned (.bool (hp t)) ∧ Below w.heap.size w w')
    (acc : List Tm) (w : World) (h0 : CntI bf bn (.func (.func HF) #[] hcaps) hp J acc w) (hBw : B ≤ w.heap.size) :
    Calls Tryd.prog 79 #[.iface T V, .pointer (some ⟨bf, 0, none⟩), .pointer (some ⟨bn, 0, none⟩)] w (VisPost bn (CntI bf bn (.func (.func HF) #[] hcaps) hp J) (acc ++ [t]) w) := by
  obtain ⟨⟨Tf, hf⟩, ⟨Tn, hn⟩, j0⟩ := h0
  have cf := cellOf1 hf
  have Hf := Lib.hid hf
  have Hn := Lib.hid hn
  have HH := Lib.hid hH
  have HJ := Lib.hid hJ
  clear hf hn hH hJ
  cases hq : hp t with
  | true =>
    have Hq : Hid ((acc ++ [t]).countP hp = acc.countP hp + 1) := by simp [Hid, hq]
    have HH2 : Hid (Calls Tryd.prog HF (#[.iface T V] ++ hcaps) w fun e w' => e = .returned (.bool true) ∧ Below w.heap.size w w') := by have := HH.out w j0; rw [hq] at this; exact this
    clear HH hq
    go_enter Tryd.func79, Tryd.ntmps79
    go_wp2_with fail
    refine (HH2.out).mono ?_
    rintro e w1 ⟨rfl, bl⟩
    have hn1 := (bl.block bn (lt_of_block Hn.out)).trans Hn.out
    have hf1 := (bl.block bf (lt_of_block Hf.out)).trans Hf.out
    obtain ⟨x, hx⟩ : ∃ x, x = wrap64 (acc.countP hp : Nat) := ⟨_, rfl⟩
    rw [← hx] at hn1
    have cn := cellOf1 hn1
    have fn := free_of_one hn1
    have Hn1 := Lib.hid hn1
    have Hf1 := Lib.hid hf1
    have xb := wrap64_lo (acc.countP hp : Nat)
    rw [← hx] at xb
    have Hx := Lib.hid hx
    have HJ1 : Hid (J w1) := HJ.out _ _ j0 (bl.mono hBw)
    clear hn1 hf1 hx cf j0
    go_wp2_with fail
    go_end0
    refine ⟨rfl, ⟨⟨Tf, ?_⟩, ⟨Tn, ?_⟩, ?_⟩, ?_⟩
    · rw [Below.heap_setCell _ _ _ _ hne]; exact Hf1.out
    · rw [one_setCell Hn1.out, Hq.out, ← wrap64_succ, ← Hx.out]
    · exact HJ.out _ _ HJ1.out ((Below.refl _ _).setCell hB _)
    · exact ((Only.refl bn w).below bl).setCell _ _ _
  | false =>
    have Hq : Hid ((acc ++ [t]).countP hp = acc.countP hp) := by simp [Hid, hq]
    have HH2 : Hid (Calls Tryd.prog HF (#[.iface T V] ++ hcaps) w fun e w' => e = .returned (.bool false) ∧ Below w.heap.size w w') := by have := HH.out w j0; rw [hq] at this; exact this
    clear HH hq
    go_enter Tryd.func79, Tryd.ntmps79
    go_wp2_with fail
    refine (HH2.out).mono ?_
    rintro e w1 ⟨rfl, bl⟩
    have HJ1 : Hid (J w1) := HJ.out _ _ j0 (bl.mono hBw)
    clear cf j0
    go_wp2_with fail
    go_end0
    refine ⟨rfl, ⟨⟨Tf, (bl.block bf (lt_of_block Hf.out)).trans Hf.out⟩, ⟨Tn, ?_⟩, HJ1.out⟩, (Only.refl bn w).below bl⟩
    rw [Hq.out]
    exact (bl.block bn (lt_of_block Hn.out)).trans Hn.out

theorem cf_c1 (args : Array Value) (w : World) : (callFunc 79 args).run Tryd.prog w = .ok (.enter 79 args) w := by kernel_rfl
theorem subs_len (t : Tm) : t.subs.length = t.size := by
  induction t <;> simp_all [Tm.subs, Tm.size] <;> omega

theorem first_block (w : World) (o o' : Obj) : ((w.alloc o).alloc o').heap[w.heap.size]? = some o := by
  show ((w.heap.push o).push o')[w.heap.size]? = _
  rw [Array.getElem?_push, if_neg (by simp), Array.getElem?_push, if_pos rfl]

set_option maxHeartbeats 1000000 in
theorem countOf_any (HF : FuncId) (hcaps : Array Value) (hp : Tm → Bool) (J : World → Prop)
    (hFH : ∀ args w, (callFunc HF args).run Tryd.prog w = .ok (.enter HF args) w)
    (hH : ∀ t w, J w → Calls Tryd.prog HF (#[.iface (tyOf t) (pay t)] ++ hcaps) w fun e w' => e = .returned (.bool (hp t)) ∧ Below w.heap.size w w')
    (t : Tm) (ht : t.size ≤ 1000) (w : World) (hJ : ∀ w1 w', J w1 → Below w.heap.size w1 w' → J w') (j0 : J w) :
    Calls Tryd.prog 66 #[.iface (tyOf t) (pay t), .func (.func HF) #[] hcaps] w fun e w' => e = .returned (.int .i64 (t.subs.countP hp : Nat)) ∧ Below w.heap.size w w' := by
  have HV := Lib.hid (visitAll_any 79 #[.pointer (some ⟨w.heap.size, 0, none⟩), .pointer (some ⟨w.heap.size + 1, 0, none⟩)] (w.heap.size + 1)
    (fun acc w1 => CntI w.heap.size (w.heap.size + 1) (.func (.func HF) #[] hcaps) hp J acc w1) cf_c1
    (fun acc w1 w' h bl => by
      obtain ⟨⟨Tf, hf⟩, ⟨Tn, hn⟩, j⟩ := h
      exact ⟨⟨Tf, (bl.block _ (lt_of_block hf)).trans hf⟩, ⟨Tn, (bl.block _ (lt_of_block hn)).trans hn⟩, hJ _ _ j (bl.mono (Nat.le_of_lt (lt_of_block hf)))⟩)
    (fun acc w1 h => by obtain ⟨_, ⟨Tn, hn⟩, _⟩ := h; exact lt_of_block hn)
    (fun t acc w1 h => count1 _ _ HF hcaps hp J w.heap.size (by omega) (by omega) hFH hJ _ _ t (fun w2 j => hH t w2 j) acc w1 h (by obtain ⟨⟨Tf, hf⟩, _⟩ := h; exact Nat.le_of_lt (lt_of_block hf))) t)
  have HJ := Lib.hid hJ
  have J0 := Lib.hid j0
  have hc : Hid (wrap64 ((t.subs.countP hp : Nat) : Int) = ((t.subs.countP hp : Nat) : Int)) := by
    have h1 : t.subs.countP hp ≤ t.subs.length := List.countP_le_length
    rw [subs_len] at h1
    exact IntWalk.wrap64_in _ (by omega)
  have H0 : Hid (∀ T1 T2, CntI w.heap.size (w.heap.size + 1) (.func (.func HF) #[] hcaps) hp J [] ((w.alloc (.cells #[.func (.func HF) #[] hcaps] T1)).alloc (.cells #[.int .i64 0] T2))) :=
    fun T1 T2 => ⟨⟨T1, first_block _ _ _⟩, ⟨T2, (last_block _ _ _).trans (by simp [wrap64])⟩, hJ _ _ j0 (below_two _ _ _)⟩
  clear hJ hH j0
  obtain ⟨T, hT⟩ : ∃ T, T = tyOf t := ⟨_, rfl⟩
  obtain ⟨V, hV⟩ : ∃ V, V = pay t := ⟨_, rfl⟩
  obtain ⟨N, hN⟩ : ∃ N, N = t.subs.countP hp := ⟨_, rfl⟩
  rw [← hT, ← hV] at HV ⊢
  rw [← hN] at hc ⊢
  have HN := Lib.hid hN
  clear hT hV hN
  go_enter Tryd.func66, Tryd.ntmps66
  go_wp2_with fail
  refine ((HV.out) [] _ (H0.out _ _)).mono ?_
  rintro e w1 ⟨rfl, ⟨_, ⟨Tn, hn⟩, _⟩, o1⟩
  rw [List.nil_append, ← HN.out, hc.out] at hn
  have cn := cellOf1 hn
  go_wp2_with fail
  go_ret
  exact ⟨rfl, Below.only (below_two _ _ _) o1 (by omega) (by simp; omega)⟩

end Go.Proofs.YtinkioodkgccjaaDoor.T1
