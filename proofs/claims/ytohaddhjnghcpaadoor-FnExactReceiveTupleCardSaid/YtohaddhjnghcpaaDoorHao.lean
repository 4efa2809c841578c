/- Texts of the proof, put together: Count, ImplF. No conditions. -/
import Derived.Test.YtohaddhjnghcpaaDoorHaj
import Derived.Test.YtohaddhjnghcpaaDoorHan

/- Subterms counted for which a function says yes. -/
namespace Go.Proofs.YtohaddhjnghcpaaDoor.T1
open Go.RowKit
set_option maxRecDepth 100000

/-- The counter's block and the function's block. -/
def CntI (bf bn : Nat) (fv : Value) (hp : Tm → Bool) (J : World → Prop) (acc : List Tm) (w : World) : Prop :=
  (∃ Tf, w.heap[bf]? = some (.cells #[fv] Tf (0, 0))) ∧ (∃ Tn, w.heap[bn]? = some (.cells #[.int .i64 (wrap64 (acc.countP hp : Nat))] Tn (0, 0))) ∧ J w

theorem wrap64_lo (x : Int) : -9223372036854775808 ≤ wrap64 x ∧ wrap64 x ≤ 9223372036854775807 := by unfold wrap64; omega
theorem wrap64_succ (c : Nat) : wrap64 (wrap64 (c : Int) + 1) = wrap64 ((c + 1 : Nat) : Int) := by unfold wrap64; omega

set_option maxHeartbeats 1000000 in
theorem count1 (bf bn : Nat) (HF : FuncId) (hcaps : Array Value) (hp : Tm → Bool) (J : World → Prop) (B : Nat) (hne : bf ≠ bn) (hB : B ≤ bn)
    (hFH : ∀ args w, (callFunc HF args).run Tryd.prog w = .ok (.enter HF args) w) (hJ : ∀ w w', J w → Below B w w' → J w')
    (T : TypeId) (V : Value) (t : Tm) (hH : ∀ w, J w → Calls Tryd.prog HF (#[.iface T V] ++ hcaps) w fun e w' => e = .returned (.bool (hp t)) ∧ Below w.heap.size w w')
    (acc : List Tm) (w : World) (h0 : CntI bf bn (.func (.func HF) #[] hcaps) hp J acc w) (hBw : B ≤ w.heap.size) :
    Calls Tryd.prog 80 #[.iface T V, .pointer (some ⟨bf, 0, none⟩), .pointer (some ⟨bn, 0, none⟩)] w (VisPost bn (CntI bf bn (.func (.func HF) #[] hcaps) hp J) (acc ++ [t]) w) := by
  obtain ⟨⟨Tf, hf⟩, ⟨Tn, hn⟩, j0⟩ := h0
  have cf := cellOf1 hf
  have Hf := Lib.hid hf
  have Hn := Lib.hid hn
  have HH := Lib.hid hH
  have HJ := Lib.hid hJ
  clear hf hn hH hJ
  cases hq : hp t with
  | true =>
    have Hq : Hid ((acc ++ [t]).countP hp = acc.countP hp + 1) := by simp [Hid, hq]
    have HH2 : Hid (Calls Tryd.prog HF (#[.iface T V] ++ hcaps) w fun e w' => e = .returned (.bool true) ∧ Below w.heap.size w w') := by have := HH.out w j0; rw [hq] at this; exact this
    clear HH hq
    go_enter Tryd.func80, Tryd.ntmps80
    go_wp2_with fail
    refine (HH2.out).mono ?_
    rintro e w1 ⟨rfl, bl⟩
    have hn1 := (bl.block bn (lt_of_block Hn.out)).trans Hn.out
    have hf1 := (bl.block bf (lt_of_block Hf.out)).trans Hf.out
    obtain ⟨x, hx⟩ : ∃ x, x = wrap64 (acc.countP hp : Nat) := ⟨_, rfl⟩
    rw [← hx] at hn1
    have cn := cellOf1 hn1
    have fn := free_of_one hn1
    have Hn1 := Lib.hid hn1
    have Hf1 := Lib.hid hf1
    have xb := wrap64_lo (acc.countP hp : Nat)
    rw [← hx] at xb
    have Hx := Lib.hid hx
    have HJ1 : Hid (J w1) := HJ.out _ _ j0 (bl.mono hBw)
    clear hn1 hf1 hx cf j0
    go_wp2_with fail
    go_end0
    refine ⟨rfl, ⟨⟨Tf, ?_⟩, ⟨Tn, ?_⟩, ?_⟩, ?_⟩
    · rw [Below.heap_setCell _ _ _ _ hne]; exact Hf1.out
    · rw [one_setCell Hn1.out, Hq.out, ← wrap64_succ, ← Hx.out]
    · exact HJ.out _ _ HJ1.out ((Below.refl _ _).setCell hB _)
    · exact ((Only.refl bn w).below bl).setCell _ _ _
  | false =>
    have Hq : Hid ((acc ++ [t]).countP hp = acc.countP hp) := by simp [Hid, hq]
    have HH2 : Hid (Calls Tryd.prog HF (#[.iface T V] ++ hcaps) w fun e w' => e = .returned (.bool false) ∧ Below w.heap.size w w') := by have := HH.out w j0; rw [hq] at this; exact this
    clear HH hq
    go_enter Tryd.func80, Tryd.ntmps80
    go_wp2_with fail
    refine (HH2.out).mono ?_
    rintro e w1 ⟨rfl, bl⟩
    have HJ1 : Hid (J w1) := HJ.out _ _ j0 (bl.mono hBw)
    clear cf j0
    go_wp2_with fail
    go_end0
    refine ⟨rfl, ⟨⟨Tf, (bl.block bf (lt_of_block Hf.out)).trans Hf.out⟩, ⟨Tn, ?_⟩, HJ1.out⟩, (Only.refl bn w).below bl⟩
    rw [Hq.out]
    exact (bl.block bn (lt_of_block Hn.out)).trans Hn.out

theorem cf_c1 (args : Array Value) (w : World) : (callFunc 80 args).run Tryd.prog w = .ok (.enter 80 args) w := by kernel_rfl
theorem subs_len (t : Tm) : t.subs.length = t.size := by
  induction t <;> simp_all [Tm.subs, Tm.size] <;> omega

theorem first_block (w : World) (o o' : Obj) : ((w.alloc o).alloc o').heap[w.heap.size]? = some o := by
  show ((w.heap.push o).push o')[w.heap.size]? = _
  rw [Array.getElem?_push, if_neg (by simp), Array.getElem?_push, if_pos rfl]

set_option maxHeartbeats 1000000 in
theorem countOf_any (HF : FuncId) (hcaps : Array Value) (hp : Tm → Bool) (J : World → Prop)
    (hFH : ∀ args w, (callFunc HF args).run Tryd.prog w = .ok (.enter HF args) w)
    (hH : ∀ t w, J w → Calls Tryd.prog HF (#[.iface (tyOf t) (pay t)] ++ hcaps) w fun e w' => e = .returned (.bool (hp t)) ∧ Below w.heap.size w w')
    (t : Tm) (ht : t.size ≤ 1000) (w : World) (hJ : ∀ w1 w', J w1 → Below w.heap.size w1 w' → J w') (j0 : J w) :
    Calls Tryd.prog 65 #[.iface (tyOf t) (pay t), .func (.func HF) #[] hcaps] w fun e w' => e = .returned (.int .i64 (t.subs.countP hp : Nat)) ∧ Below w.heap.size w w' := by
  have HV := Lib.hid (visitAll_any 80 #[.pointer (some ⟨w.heap.size, 0, none⟩), .pointer (some ⟨w.heap.size + 1, 0, none⟩)] (w.heap.size + 1)
    (fun acc w1 => CntI w.heap.size (w.heap.size + 1) (.func (.func HF) #[] hcaps) hp J acc w1) cf_c1
    (fun acc w1 w' h bl => by
      obtain ⟨⟨Tf, hf⟩, ⟨Tn, hn⟩, j⟩ := h
      exact ⟨⟨Tf, (bl.block _ (lt_of_block hf)).trans hf⟩, ⟨Tn, (bl.block _ (lt_of_block hn)).trans hn⟩, hJ _ _ j (bl.mono (Nat.le_of_lt (lt_of_block hf)))⟩)
    (fun acc w1 h => by obtain ⟨_, ⟨Tn, hn⟩, _⟩ := h; exact lt_of_block hn)
    (fun t acc w1 h => count1 _ _ HF hcaps hp J w.heap.size (by omega) (by omega) hFH hJ _ _ t (fun w2 j => hH t w2 j) acc w1 h (by obtain ⟨⟨Tf, hf⟩, _⟩ := h; exact Nat.le_of_lt (lt_of_block hf))) t)
  have HJ := Lib.hid hJ
  have J0 := Lib.hid j0
  have hc : Hid (wrap64 ((t.subs.countP hp : Nat) : Int) = ((t.subs.countP hp : Nat) : Int)) := by
    have h1 : t.subs.countP hp ≤ t.subs.length := List.countP_le_length
    rw [subs_len] at h1
    exact IntWalk.wrap64_in _ (by omega)
  have H0 : Hid (∀ T1 T2, CntI w.heap.size (w.heap.size + 1) (.func (.func HF) #[] hcaps) hp J [] ((w.alloc (.cells #[.func (.func HF) #[] hcaps] T1)).alloc (.cells #[.int .i64 0] T2))) :=
    fun T1 T2 => ⟨⟨T1, first_block _ _ _⟩, ⟨T2, (last_block _ _ _).trans (by simp [wrap64])⟩, hJ _ _ j0 (below_two _ _ _)⟩
  clear hJ hH j0
  obtain ⟨T, hT⟩ : ∃ T, T = tyOf t := ⟨_, rfl⟩
  obtain ⟨V, hV⟩ : ∃ V, V = pay t := ⟨_, rfl⟩
  obtain ⟨N, hN⟩ : ∃ N, N = t.subs.countP hp := ⟨_, rfl⟩
  rw [← hT, ← hV] at HV ⊢
  rw [← hN] at hc ⊢
  have HN := Lib.hid hN
  clear hT hV hN
  go_enter Tryd.func65, Tryd.ntmps65
  go_wp2_with fail
  refine ((HV.out) [] _ (H0.out _ _)).mono ?_
  rintro e w1 ⟨rfl, ⟨_, ⟨Tn, hn⟩, _⟩, o1⟩
  rw [List.nil_append, ← HN.out, hc.out] at hn
  have cn := cellOf1 hn
  go_wp2_with fail
  go_ret
  exact ⟨rfl, Below.only (below_two _ _ _) o1 (by omega) (by simp; omega)⟩

end Go.Proofs.YtohaddhjnghcpaaDoor.T1

/- The size of a tree; a text parsed. -/
namespace Go.Proofs.YtohaddhjnghcpaaDoor.T1
open Go.RowKit
set_option maxRecDepth 100000

theorem size1_any (T : TypeId) (V : Value) (w : World) : Calls Tryd.prog 66 (#[.iface T V] ++ #[]) w fun e w' => e = .returned (.bool true) ∧ Below w.heap.size w w' := by
  show Calls Tryd.prog 66 #[.iface T V] w _
  go_enter Tryd.func66, Tryd.ntmps66
  go_wp2_with fail
  go_ret
  exact ⟨rfl, Below.refl _ _⟩
theorem cf_s1 (args : Array Value) (w : World) : (callFunc 66 args).run Tryd.prog w = .ok (.enter 66 args) w := by kernel_rfl

theorem size_any (t : Tm) (ht : t.size ≤ 1000) (w : World) : Calls Tryd.prog 56 #[.iface (tyOf t) (pay t)] w fun e w' => e = .returned (.int .i64 (t.size : Nat)) ∧ Below w.heap.size w w' := by
  have HC := countOf_any 66 #[] (fun _ => true) (fun _ => True) cf_s1 (fun t w _ => size1_any _ _ w) t ht w (fun _ _ _ _ => trivial) trivial
  rw [List.countP_true, subs_len] at HC
  obtain ⟨T, hT⟩ : ∃ T, T = tyOf t := ⟨_, rfl⟩
  obtain ⟨V, hV⟩ : ∃ V, V = pay t := ⟨_, rfl⟩
  obtain ⟨N, hN⟩ : ∃ N, N = t.size := ⟨_, rfl⟩
  rw [← hT, ← hV] at HC ⊢
  rw [← hN] at HC ⊢
  have H := Lib.hid HC
  clear hT hV hN HC
  go_enter Tryd.func56, Tryd.ntmps56
  go_wp2_with fail
  refine (H.out).mono ?_
  rintro e w1 ⟨rfl, bl⟩
  go_wp2_with fail
  go_ret
  exact ⟨rfl, bl⟩

/-- The tree of a process; nothing if the text is none. -/
noncomputable def good (l : List UInt8) : Option Tm :=
  if l.length ≤ 300 then
    match E nmL l with
    | some (t, []) => if t.size ≤ 60 then some t else none
    | _ => none
  else none
theorem good_long {l : List UInt8} (h : 300 < l.length) : good l = none := by rw [good, if_neg (by omega)]
theorem good_none {l : List UInt8} (h : E nmL l = none) : good l = none := by unfold good; rw [h]; split <;> rfl
theorem good_rest {l r : List UInt8} {t : Tm} (h : E nmL l = some (t, r)) (hr : r ≠ []) : good l = none := by
  unfold good; rw [h]
  cases r with
  | nil => exact absurd rfl hr
  | cons c r => split <;> rfl
theorem good_great {l : List UInt8} {t : Tm} (h : E nmL l = some (t, [])) (ht : 60 < t.size) : good l = none := by
  unfold good; rw [h]
  split
  · simp only []; rw [if_neg (by omega)]
  · rfl
theorem good_yes {l : List UInt8} {t : Tm} (hl : l.length ≤ 300) (h : E nmL l = some (t, [])) (ht : t.size ≤ 60) : good l = some t := by
  unfold good; rw [h, if_pos hl]
  simp only []; rw [if_pos ht]
theorem good_out {l : List UInt8} {t : Tm} (h : good l = some t) : l.length ≤ 300 ∧ l = t.pr ∧ t.ok nmL = true ∧ t.size ≤ 60 := by
  unfold good at h
  split at h
  · rename_i hl
    split at h
    · rename_i t' he
      split at h
      · rename_i ht
        cases h
        have := (E_some nmL_nm).1 he
        exact ⟨hl, by have h2 := this.1; rw [List.append_nil] at h2; exact h2, this.2, ht⟩
      · cases h
    · cases h
  · cases h

def ParsePost (s : ByteArray) (w : World) (e : Ending) (w' : World) : Prop :=
  ((∃ t, good s.data.toList = some t ∧ e = .returned (.tuple #[.iface (tyOf t) (pay t), .bool true])) ∨ (good s.data.toList = none ∧ e = .returned (.tuple #[.nilIface, .bool false]))) ∧ Below w.heap.size w w'

theorem new_block (w : World) (o : Obj) : (w.alloc o).heap[w.heap.size]? = some o := by
  show (w.heap.push o)[w.heap.size]? = _
  rw [Array.getElem?_push, if_pos rfl]

set_option maxHeartbeats 1000000 in
theorem parse_any (s : ByteArray) (w : World) (hm : s.size ≤ 9223372036854775807) : Calls Tryd.prog 43 #[.string s] w (ParsePost s w) := by
  by_cases hs : s.size ≤ 300
  · have HR : Hid (∀ T, RdAt (w.alloc (.cells #[.string s, .int .i64 0] T)) w.heap.size s 0) := fun T => ⟨T, new_block _ _⟩
    have HL : Hid (s.data.toList.length = s.size) := by simp [Hid]
    go_enter Tryd.func43, Tryd.ntmps43
    go_wp2_with fail
    refine (process_any w.heap.size s hs 0 _ (Nat.zero_le _) (HR.out _)).mono ?_
    rintro e w1 (⟨t, m, rfl, r1, o1, h1, h2, e1⟩ | ⟨v, rfl, o1, e1⟩)
    · have HE : Hid (E nmL s.data.toList = some (t, s.data.toList.drop m)) := e1
      have hsz : t.size ≤ 300 := by
        have h3 := (E_some nmL_nm).1 HE.out
        have h4 := size_le_pr t
        have h5 : s.data.toList.length = t.pr.length + (s.data.toList.drop m).length := by rw [← List.length_append, ← h3.1]
        rw [HL.out] at h5
        omega
      have HS := fun w => size_any t (by omega) w
      clear e1
      have hB : Below w.heap.size w w1 := Below.only ((Below.refl _ _).alloc (Nat.le_refl _) _) o1 (Nat.le_refl _) (by simp)
      have c1 := r1.c1
      by_cases hme : m = s.size
      · have t1 : ((m : Int) != (s.size : Int)) = false := by rw [hme]; simp
        have HE2 : Hid (E nmL s.data.toList = some (t, [])) := by have := HE.out; rw [List.drop_of_length_le (by rw [HL.out]; omega)] at this; exact this
        by_cases ht : t.size ≤ 60
        · have HG : Hid (good s.data.toList = some t) := good_yes (by rw [HL.out]; exact hs) HE2.out ht
          obtain ⟨T, hT⟩ : ∃ T, T = tyOf t := ⟨_, rfl⟩
          obtain ⟨V, hV⟩ : ∃ V, V = pay t := ⟨_, rfl⟩
          obtain ⟨N, hN⟩ : ∃ N, N = t.size := ⟨_, rfl⟩
          rw [← hT, ← hV, ← hN] at HS
          rw [← hT, ← hV]
          rw [← hN] at ht
          have HTV : Hid (T = tyOf t ∧ V = pay t) := ⟨hT, hV⟩
          have HS2 := Lib.hid HS
          clear hme hT hV hN HS
          go_wp2_with fail
          refine (HS2.out _).mono ?_
          rintro e w2 ⟨rfl, bl⟩
          go_wp2_with fail
          go_ret2
          exact ⟨.inl ⟨t, HG.out, by rw [← HTV.out.1, ← HTV.out.2]; rfl⟩, below_trans hB bl hB.size⟩
        · have HG : Hid (good s.data.toList = none) := good_great HE2.out (by omega)
          obtain ⟨T, hT⟩ : ∃ T, T = tyOf t := ⟨_, rfl⟩
          obtain ⟨V, hV⟩ : ∃ V, V = pay t := ⟨_, rfl⟩
          obtain ⟨N, hN⟩ : ∃ N, N = t.size := ⟨_, rfl⟩
          rw [← hT, ← hV, ← hN] at HS
          rw [← hT, ← hV]
          rw [← hN] at ht
          have HS2 := Lib.hid HS
          clear hme hT hV hN HS
          go_wp2_with fail
          refine (HS2.out _).mono ?_
          rintro e w2 ⟨rfl, bl⟩
          go_wp2_with fail
          go_ret2
          exact ⟨.inr ⟨HG.out, rfl⟩, below_trans hB bl hB.size⟩
      · have t1 : ((m : Int) != (s.size : Int)) = true := by simp; omega
        have HG : Hid (good s.data.toList = none) := good_rest HE.out (by intro h; have := congrArg List.length h; rw [List.length_drop, HL.out] at this; simp at this; omega)
        obtain ⟨T, hT⟩ : ∃ T, T = tyOf t := ⟨_, rfl⟩
        obtain ⟨V, hV⟩ : ∃ V, V = pay t := ⟨_, rfl⟩
        rw [← hT, ← hV]
        clear hme hT hV HS
        go_wp2_with fail
        go_ret2
        exact ⟨.inr ⟨HG.out, rfl⟩, hB⟩
    · have HG : Hid (good s.data.toList = none) := good_none e1
      have hB : Below w.heap.size w w1 := Below.only ((Below.refl _ _).alloc (Nat.le_refl _) _) o1 (Nat.le_refl _) (by simp)
      clear e1
      go_wp2_with fail
      go_ret2
      exact ⟨.inr ⟨HG.out, rfl⟩, hB⟩
  · have HG : Hid (good s.data.toList = none) := good_long (by simp; omega)
    go_enter Tryd.func43, Tryd.ntmps43
    go_wp2_with fail
    go_ret2
    exact ⟨.inr ⟨HG.out, rfl⟩, Below.refl _ _⟩

end Go.Proofs.YtohaddhjnghcpaaDoor.T1
