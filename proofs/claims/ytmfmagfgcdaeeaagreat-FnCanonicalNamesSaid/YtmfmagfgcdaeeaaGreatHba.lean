/- Texts of the proof, put together: Fs, Bj, Nb, Ar, CAreAlpha. No conditions. -/
import Derived.Test.YtmfmagfgcdaeeaaGreatHaq
import Derived.Test.YtmfmagfgcdaeeaaGreatHas
import Derived.Test.YtmfmagfgcdaeeaaGreatHau
import Derived.Test.YtmfmagfgcdaeeaaGreatHax
import Derived.Test.YtmfmagfgcdaeeaaGreatHaz
import Derived.Laws.Tables
import Derived.Test.YtmfmagfgcdaeeaaGreatProg
import Derived.WalkKit
import Derived.ProofKit
import Derived.OpenShut
import Derived.ShutString
import Derived.ChangeOld
import Derived.Below

/- What stands for each letter where nothing is bound: in the program. -/
namespace Go.Proofs.YtmfmagfgcdaeeaaGreat.T1
open Go.RowKit
set_option maxRecDepth 100000
set_option linter.unusedVariables false

theorem below_setRow {B g : Nat} {u v : World} {cs : Array Value} (h : Below B u v) (hg : B ≤ g) (hB : B ≤ v.heap.size) : Below B u (v.setRow g cs) :=
  h.trans ⟨rfl, rfl, rfl, by simp, fun i hi => setRow_other v g i cs (by omega)⟩
/-- A scope as an array of bytes: what stands for each letter. -/
def ScOf (C : Array Value) (sc : UInt8 → UInt8) : Prop := C.size = 256 ∧ ∀ j, j < 256 → C[j]? = some (.int .u8 ((sc (UInt8.ofNat (j))).toNat : Int))
theorem zs256 : Hid ((Tryz.zeroCells54).size = 256) := by show _ = _; kernel_rfl
set_option maxHeartbeats 2000000 in
theorem freeScope_any (w : World) : Calls Tryz.prog 64 #[] w fun e w' => ∃ C, e = .returned (.agg C) ∧ ScOf C id ∧ Below w.heap.size w w' := by
  go_enter Tryz.func64, Tryz.ntmps64
  go_wp2_with fail
  obtain ⟨Z, hZ⟩ : ∃ Z : Array Value, Z = Tryz.zeroCells54 := ⟨_, rfl⟩
  rw [← hZ]
  have hZs : Hid (Z.size = 256) := by rw [hZ]; exact zs256
  obtain ⟨W, hW⟩ : ∃ W, W = (w.alloc (.cells Z 54)).alloc (.cells Z 54) := ⟨_, rfl⟩
  rw [← hW]
  have r0 : Hid (W.heap[w.heap.size]? = some (.cells Z 54 (0, 0))) := by rw [hW]; exact first_block _ _ _
  have r1 : Hid (W.heap[w.heap.size + 1]? = some (.cells Z 54 (0, 0))) := by rw [hW]; exact last_block _ _ _
  have bl : Below w.heap.size w W := by rw [hW]; exact below_two _ _ _
  clear hW hZ
  go_loopw [3] (fun i wr => ∃ (k : Nat) (C : Array Value), k ≤ 256 ∧ i = .int .i64 (k : Int) ∧ Hid (C.size = 256) ∧ Hid (∀ j, j < k → C[j]? = some (.int .u8 ((j : Nat) : Int))) ∧ Hid (wr.heap[w.heap.size]? = some (.cells Z 54 (0, 0))) ∧ Hid (wr.heap[w.heap.size + 1]? = some (.cells C 54 (0, 0))) ∧ Below w.heap.size w wr) (fun i _ => 256 - (intOf i).toNat)
  case atStart => exact ⟨0, Z, Nat.zero_le _, rfl, hZs, fun j h => by omega, r0, r1, bl⟩
  case round =>
    obtain ⟨k, C, hk, rfl, hC, hCj, h0, h1, hbw⟩ := hrel
    by_cases hlt : k < 256
    · obtain ⟨y, hy⟩ : ∃ y, C[k]? = some y := ⟨_, Array.getElem?_eq_getElem (by have := hC.out; omega)⟩
      have c1 : wr.cell? ⟨w.heap.size + 1, k, none⟩ = some y := by rw [cell_of_row wr _ k C _ _ h1.out]; exact hy
      have f1 := frozen_of_row wr (w.heap.size + 1) k C _ h1.out
      have hw8 : IntKind.u8.wrap ((k : Int)) = (k : Int) := by rw [IntKind.wrap_u8] <;> omega
      have H1 := Lib.hid (heap_setCell_same wr (w.heap.size + 1) k C 54 (.int .u8 ((k : Int))) h1.out)
      have H0 : Hid ((wr.setCell ⟨w.heap.size + 1, k, none⟩ (.int .u8 ((k : Int)))).heap[w.heap.size]? = some (.cells Z 54 (0, 0))) := row_set h0.out (by omega)
      have HS : Hid ((C.setIfInBounds k (.int .u8 ((k : Int)))).size = 256) := by show _ = _; rw [Array.size_setIfInBounds]; exact hC.out
      have HJ : Hid (∀ j, j < k + 1 → (C.setIfInBounds k (.int .u8 ((k : Int))))[j]? = some (.int .u8 ((j : Nat) : Int))) := fun j hj => by
        by_cases e : k = j
        · subst e
          rw [Array.getElem?_setIfInBounds_self_of_lt (by have := hC.out; omega)]
        · rw [Array.getElem?_setIfInBounds_ne e]; exact hCj.out j (by omega)
      clear hy
      go_wp2_with fail
      go_roundw
      case rel => exact ⟨k + 1, _, by omega, by go_num, HS, HJ, H0, H1, hbw.setCell (p := ⟨w.heap.size + 1, k, none⟩) (by show w.heap.size ≤ w.heap.size + 1; omega) _⟩
      case measure => simp [intOf]; omega
    · obtain rfl : k = 256 := by omega
      have HSc : Hid (ScOf C id) := ⟨hC.out, fun j hj => by rw [hCj.out j hj]; show _ = some (Value.int .u8 (((UInt8.ofNat (j)).toNat : Nat) : Int)); rw [UInt8.toNat_ofNat', Nat.mod_eq_of_lt (by omega)]⟩
      have hi : Hid ((Tryz.prog.info? 54).map (·.size) = some C.size) := by show _ = _; rw [Tryz.infoSc, hC.out]
      have hone : Hid (C.all (·.oneCell') = true) := by
        refine Array.all_eq_true.2 fun i hi => ?_
        have hi' : i < 256 := by have := hC.out; omega
        have h1 := hCj.out i hi'
        rw [Array.getElem?_eq_getElem hi] at h1
        simp only [Option.some.injEq] at h1
        rw [h1]; rfl
      have hold : Hid (Z.size = C.size) := by show _ = _; rw [hZs.out, hC.out]
      clear hC hCj
      go_wp2_with (first | refine wpList_load_row rfl 54 (.tmp 1) rfl (w.heap.size + 1) rfl 54 C (0, 0) _ h1.out Tryz.underlying54 rfl hi.out ?_ | refine wpList_store_row rfl 54 (.tmp 0) (.tmp 11) rfl w.heap.size C rfl rfl 54 Z h0.out hi.out hold.out hone.out ?_)
      exact bodyPost_ret (v := .agg C) (results_cell_row (t := 54) (fr := (0, 0)) rfl _ _ w.heap.size _ _ rfl (setRow_heap wr w.heap.size Z C 54 _ h0.out) Tryz.underlying54 rfl hi.out) rfl ⟨C, rfl, HSc.out, below_setRow hbw (Nat.le_refl _) hbw.size⟩

end Go.Proofs.YtmfmagfgcdaeeaaGreat.T1

/- Names bound in an order that is given: in the program, for every process. -/
namespace Go.Proofs.YtmfmagfgcdaeeaaGreat.T1
open Go.RowKit
set_option maxRecDepth 100000
set_option linter.unusedVariables false
set_option linter.unusedSimpArgs false

theorem cf_bc (args : Array Value) (w : World) : (callFunc 117 args).run Tryz.prog w = .ok (.enter 117 args) w := by kernel_rfl
set_option maxHeartbeats 1000000 in
theorem bc_at (j g : Nat) (hj : j < 256) (n0 : Int) (w : World) (h1 : w.cell? ⟨g, j, none⟩ = some (.int .u8 n0)) :
    Calls Tryz.prog 117 #[.int .u8 ((j : Int)), .pointer (some ⟨g, 0, none⟩)] w fun e w' => e = .returned (.int .u8 n0) ∧ w = w' := by
  have hj2 : (j : Int) < 256 := by omega
  go_enter Tryz.func117, Tryz.ntmps117
  go_wp2_with fail
  go_ret
  exact ⟨rfl, rfl⟩
theorem let_j {c : UInt8} (h : nmL c = true) : c.toNat < 256 ∧ ((c.toNat : Nat) : Int) = ((c.toNat : Nat) : Int) ∧ UInt8.ofNat c.toNat = c := by
  have := c.toNat_lt
  exact ⟨by omega, rfl, u8_ext (by rw [UInt8.toNat_ofNat']; omega)⟩
theorem bc_any (c : UInt8) (hc : nmL c = true) (C : Array Value) (sc : UInt8 → UInt8) (hs : ScOf C sc) (g : Nat) (w : World) (h : w.heap[g]? = some (.cells C 54 (0, 0))) :
    Calls Tryz.prog 117 (#[.int .u8 (c.toNat : Int)] ++ #[.pointer (some ⟨g, 0, none⟩)]) w fun e w' => e = .returned (.int .u8 ((sc c).toNat : Int)) ∧ w = w' := by
  obtain ⟨h1, h2, h3⟩ := let_j hc
  have := bc_at (c.toNat) g h1 ((sc c).toNat : Int) w (by rw [cell_of_row w g _ C _ _ h, hs.2 _ h1, h3])
  exact this
theorem used_ok (t : Tm) (h : t.ok nmL = true) : ∀ c ∈ t.used, nmL c = true := by
  intro c hc
  cases t <;> simp only [Tm.used, Tm.ok, Bool.and_eq_true, List.mem_cons, List.not_mem_nil, or_false] at hc h
  · rcases hc with rfl | rfl; exact h.1.1; exact h.1.2
  · subst hc; exact h.1.1
  · rcases hc with rfl | rfl; exact h.1.1; exact h.1.2
theorem wu_sc (t : Tm) (ht : t.ok nmL = true) (C : Array Value) (sc : UInt8 → UInt8) (hs : ScOf C sc) (g : Nat) (v : World) (h : v.heap[g]? = some (.cells C 54 (0, 0))) :
    Calls Tryz.prog 116 #[.iface (tyOf t) (pay t), .func (.func 117) #[] #[.pointer (some ⟨g, 0, none⟩)]] v fun e v' => e = .returned (.iface (tyOf (t.mapU sc)) (pay (t.mapU sc))) ∧ Below v.heap.size v v' :=
  withUsed_any t 117 _ sc cf_bc v fun c hc v1 b1 => bc_any c (used_ok t ht c hc) C sc hs g v1 (row_below h b1)
theorem sc_upd (C : Array Value) (sc : UInt8 → UInt8) (x n0 : UInt8) (hx : nmL x = true) (hs : ScOf C sc) : ScOf (C.setIfInBounds (x.toNat) (.int .u8 (n0.toNat : Int))) (upd sc x n0) := by
  obtain ⟨h1, _, h3⟩ := let_j hx
  refine ⟨by rw [Array.size_setIfInBounds]; exact hs.1, fun j hj => ?_⟩
  by_cases e : x.toNat = j
  · subst e
    rw [Array.getElem?_setIfInBounds_self_of_lt (by rw [hs.1]; exact h1), h3]
    unfold upd; rw [if_pos rfl]
  · rw [Array.getElem?_setIfInBounds_ne e, hs.2 j hj]
    unfold upd
    rw [if_neg]
    intro e2
    apply e
    rw [← e2, UInt8.toNat_ofNat']; omega

/-- A slice of names in block g. -/
structure NmS (w : World) (g : Nat) (v : Value) (ns : List UInt8) : Prop where
  ex : ∃ (a : Option Addr) (c : Nat), v = .slice a ns.length c ∧ ns.length ≤ c ∧ (ns ≠ [] → ∃ off, a = some ⟨g, off, none⟩ ∧ ∀ j (h : j < ns.length), w.cell? ⟨g, off + j, none⟩ = some (.int .u8 (ns[j].toNat : Int)))
theorem NmS.below {w w' : World} {g : Nat} {v : Value} {ns : List UInt8} (h : NmS w g v ns) (k : Below w.heap.size w w') : NmS w' g v ns := by
  obtain ⟨a, c, h1, h2, h3⟩ := h.ex
  refine ⟨a, c, h1, h2, fun hne => ?_⟩
  obtain ⟨off, h4, h5⟩ := h3 hne
  exact ⟨off, h4, fun j hj => (k.cell (p := ⟨g, off + j, none⟩) (lt_cell (h5 j hj))).trans (h5 j hj)⟩
theorem NmS.set {w : World} {g : Nat} {v : Value} {ns : List UInt8} (h : NmS w g v ns) (b k : Nat) (x : Value) (hb : g < b) : NmS (w.setCell ⟨b, k, none⟩ x) g v ns := by
  obtain ⟨a, c, h1, h2, h3⟩ := h.ex
  refine ⟨a, c, h1, h2, fun hne => ?_⟩
  obtain ⟨off, h4, h5⟩ := h3 hne
  exact ⟨off, h4, fun j hj => (((Below.refl b w).setCell (p := ⟨b, k, none⟩) (Nat.le_refl b) x).cell (p := ⟨g, off + j, none⟩) (by show g < b; omega)).trans (h5 j hj)⟩
theorem NmS.tail {w : World} {g off c : Nat} {n0 : UInt8} {ns : List UInt8} (h1 : (n0 :: ns).length ≤ c) (h5 : ∀ j (h : j < (n0 :: ns).length), w.cell? ⟨g, off + j, none⟩ = some (.int .u8 ((n0 :: ns)[j].toNat : Int))) : NmS w g (.slice (some ⟨g, off + 1, none⟩) ns.length (c - 1)) ns := by
  simp only [List.length_cons] at h1
  refine ⟨_, _, rfl, by omega, fun _ => ⟨off + 1, rfl, fun j hj => ?_⟩⟩
  have := h5 (j + 1) (by simp; omega)
  rw [show off + 1 + j = off + (j + 1) by omega]
  simpa using this
set_option maxHeartbeats 1000000 in
theorem wp_nil (x : Value) (w : World) : Calls Tryz.prog 119 #[.iface (tyOf .nil) (pay .nil), x] w fun e w' => e = .returned (.iface (tyOf .nil) (pay .nil)) ∧ Below w.heap.size w w' := by
  show Calls Tryz.prog 119 #[.iface 132 (.agg #[]), x] w fun e w' => e = .returned (.iface 132 (.agg #[])) ∧ Below w.heap.size w w'
  go_enter Tryz.func119, Tryz.ntmps119
  go_wp2_with fail
  go_ret
  exact ⟨rfl, Below.refl _ _⟩
set_option maxHeartbeats 4000000 in
theorem bindInOrder_any (t : Tm) : ∀ (sc : UInt8 → UInt8) (C : Array Value) (ns : List UInt8) (v : Value) (g : Nat) (w : World), t.ok nmL = true → ScOf C sc → g ≤ w.heap.size → NmS w g v ns → t.bnd.length ≤ ns.length →
    Calls Tryz.prog 63 #[.iface (tyOf t) (pay t), .agg C, v] w (BiPost (tyOf (can t sc ns)) (pay (can t sc ns)) (fun v w => NmS w g v (ns.drop t.bnd.length)) w) := by
  induction t with
  | nil =>
    intro sc C ns v g w ht hs hg hn hb
    have hB := binderOf_any .nil
    exact (bo_0 _ _ _ _ v C hs.1 w (parts_fact .nil) (fun u hu => wu_sc .nil ht C sc hs _ u hu) hB wp_nil).mono fun e w' h => ⟨v, h.1, hn.below h.2, h.2⟩
  | snd a b p ih =>
    intro sc C ns v g w ht hs hg hn hb
    have ht0 := ht
    simp only [Tm.ok, Bool.and_eq_true] at ht
    have hB := binderOf_any (Tm.snd (sc a) (sc b) p)
    have hI := fun (w1 : World) (b1 : Below w.heap.size w w1) => ih sc C ns v g w1 ht.2 hs (Nat.le_trans hg b1.size) (hn.below b1) hb
    simp only [can]
    obtain ⟨r, hr⟩ : ∃ r, r = can p sc ns := ⟨_, rfl⟩
    rw [← hr] at hI ⊢
    exact bo_1 _ _ _ _ v C hs.1 _ _ _ _ _ _ _ g w (parts_fact (Tm.snd (sc a) (sc b) p)).pf (fun u hu => wu_sc (.snd a b p) ht0 C sc hs _ u hu) hg hB (fun v w w' h k => NmS.below h k) (fun v w b x h0 h => NmS.set h b 0 x h0) hI (fun bk w hc => withP_one (Tm.snd (sc a) (sc b) p) p r rfl bk 1 w (by omega) hc)
  | mat a b p ih =>
    intro sc C ns v g w ht hs hg hn hb
    have ht0 := ht
    simp only [Tm.ok, Bool.and_eq_true] at ht
    have hB := binderOf_any (Tm.mat (sc a) (sc b) p)
    have hI := fun (w1 : World) (b1 : Below w.heap.size w w1) => ih sc C ns v g w1 ht.2 hs (Nat.le_trans hg b1.size) (hn.below b1) hb
    simp only [can]
    obtain ⟨r, hr⟩ : ∃ r, r = can p sc ns := ⟨_, rfl⟩
    rw [← hr] at hI ⊢
    exact bo_1 _ _ _ _ v C hs.1 _ _ _ _ _ _ _ g w (parts_fact (Tm.mat (sc a) (sc b) p)).pf (fun u hu => wu_sc (.mat a b p) ht0 C sc hs _ u hu) hg hB (fun v w w' h k => NmS.below h k) (fun v w b x h0 h => NmS.set h b 0 x h0) hI (fun bk w hc => withP_one (Tm.mat (sc a) (sc b) p) p r rfl bk 1 w (by omega) hc)
  | tau p ih =>
    intro sc C ns v g w ht hs hg hn hb
    have ht0 := ht
    simp only [Tm.ok, Bool.and_eq_true] at ht
    have hB := binderOf_any (Tm.tau p)
    have hI := fun (w1 : World) (b1 : Below w.heap.size w w1) => ih sc C ns v g w1 ht hs (Nat.le_trans hg b1.size) (hn.below b1) hb
    simp only [can]
    obtain ⟨r, hr⟩ : ∃ r, r = can p sc ns := ⟨_, rfl⟩
    rw [← hr] at hI ⊢
    exact bo_1 _ _ _ _ v C hs.1 _ _ _ _ _ _ _ g w (parts_fact (Tm.tau p)).pf (fun u hu => wu_sc (.tau p) ht0 C sc hs _ u hu) hg hB (fun v w w' h k => NmS.below h k) (fun v w b x h0 h => NmS.set h b 0 x h0) hI (fun bk w hc => withP_one (Tm.tau p) p r rfl bk 1 w (by omega) hc)
  | rep p ih =>
    intro sc C ns v g w ht hs hg hn hb
    have ht0 := ht
    simp only [Tm.ok, Bool.and_eq_true] at ht
    have hB := binderOf_any (Tm.rep p)
    have hI := fun (w1 : World) (b1 : Below w.heap.size w w1) => ih sc C ns v g w1 ht hs (Nat.le_trans hg b1.size) (hn.below b1) hb
    simp only [can]
    obtain ⟨r, hr⟩ : ∃ r, r = can p sc ns := ⟨_, rfl⟩
    rw [← hr] at hI ⊢
    exact bo_1 _ _ _ _ v C hs.1 _ _ _ _ _ _ _ g w (parts_fact (Tm.rep p)).pf (fun u hu => wu_sc (.rep p) ht0 C sc hs _ u hu) hg hB (fun v w w' h k => NmS.below h k) (fun v w b x h0 h => NmS.set h b 0 x h0) hI (fun bk w hc => withP_one (Tm.rep p) p r rfl bk 1 w (by omega) hc)
  | sum p q ih ih2 =>
    intro sc C ns v g w ht hs hg hn hb
    have ht0 := ht
    simp only [Tm.ok, Bool.and_eq_true] at ht
    simp only [Tm.bnd, List.length_append] at hb
    have hB := binderOf_any (Tm.sum p q)
    have hI := fun (w1 : World) (b1 : Below w.heap.size w w1) => ih sc C ns v g w1 ht.1 hs (Nat.le_trans hg b1.size) (hn.below b1) (by omega)
    have hI2 := fun (v2 : Value) (w1 : World) (b1 : Below w.heap.size w w1) (h : NmS w1 g v2 (ns.drop p.bnd.length)) => ih2 sc C (ns.drop p.bnd.length) v2 g w1 ht.2 hs (Nat.le_trans hg b1.size) h (by rw [List.length_drop]; omega)
    simp only [can, Tm.bnd, List.length_append]
    have hdd : (ns.drop p.bnd.length).drop q.bnd.length = ns.drop (p.bnd.length + q.bnd.length) := by rw [List.drop_drop]
    rw [hdd] at hI2
    obtain ⟨r, hr⟩ : ∃ r, r = can p sc ns := ⟨_, rfl⟩
    obtain ⟨r2, hr2⟩ : ∃ r, r = can q sc (ns.drop p.bnd.length) := ⟨_, rfl⟩
    rw [← hr] at hI ⊢
    rw [← hr2] at hI2 ⊢
    exact bo_2 _ _ _ _ v C hs.1 _ _ _ _ _ _ _ _ _ _ _ _ g w (parts_fact (Tm.sum p q)).pf (fun u hu => wu_sc (.sum p q) ht0 C sc hs _ u hu) hg hB (fun v w w' h k => NmS.below h k) (fun v w b x h0 h => NmS.set h b 0 x h0) (fun v w b x h0 h => NmS.set h b 1 x h0) hI hI2 (fun bk w hc hc1 => withP_two (Tm.sum p q) p q r r2 rfl bk 2 w (by omega) hc hc1)
  | par p q ih ih2 =>
    intro sc C ns v g w ht hs hg hn hb
    have ht0 := ht
    simp only [Tm.ok, Bool.and_eq_true] at ht
    simp only [Tm.bnd, List.length_append] at hb
    have hB := binderOf_any (Tm.par p q)
    have hI := fun (w1 : World) (b1 : Below w.heap.size w w1) => ih sc C ns v g w1 ht.1 hs (Nat.le_trans hg b1.size) (hn.below b1) (by omega)
    have hI2 := fun (v2 : Value) (w1 : World) (b1 : Below w.heap.size w w1) (h : NmS w1 g v2 (ns.drop p.bnd.length)) => ih2 sc C (ns.drop p.bnd.length) v2 g w1 ht.2 hs (Nat.le_trans hg b1.size) h (by rw [List.length_drop]; omega)
    simp only [can, Tm.bnd, List.length_append]
    have hdd : (ns.drop p.bnd.length).drop q.bnd.length = ns.drop (p.bnd.length + q.bnd.length) := by rw [List.drop_drop]
    rw [hdd] at hI2
    obtain ⟨r, hr⟩ : ∃ r, r = can p sc ns := ⟨_, rfl⟩
    obtain ⟨r2, hr2⟩ : ∃ r, r = can q sc (ns.drop p.bnd.length) := ⟨_, rfl⟩
    rw [← hr] at hI ⊢
    rw [← hr2] at hI2 ⊢
    exact bo_2 _ _ _ _ v C hs.1 _ _ _ _ _ _ _ _ _ _ _ _ g w (parts_fact (Tm.par p q)).pf (fun u hu => wu_sc (.par p q) ht0 C sc hs _ u hu) hg hB (fun v w w' h k => NmS.below h k) (fun v w b x h0 h => NmS.set h b 0 x h0) (fun v w b x h0 h => NmS.set h b 1 x h0) hI hI2 (fun bk w hc hc1 => withP_two (Tm.par p q) p q r r2 rfl bk 2 w (by omega) hc hc1)
  | rcv a x p ih =>
    intro sc C ns v g w ht hs hg hn hb
    have ht0 := ht
    simp only [Tm.ok, Bool.and_eq_true] at ht
    simp only [Tm.bnd, List.length_cons] at hb
    obtain ⟨hj, hxj, _⟩ := let_j ht.1.2
    have hB := binderOf_any (Tm.rcv (sc a) x p)
    have hB2 : ∀ w, Calls Tryz.prog 112 #[.iface (tyOf (Tm.rcv (sc a) x p)) (pay (Tm.rcv (sc a) x p))] w fun e w' => e = .returned (.tuple #[.int .u8 (((x.toNat : Nat) : Int)), .bool true]) ∧ Below w.heap.size w w' := hB
    cases ns with
    | nil => simp at hb
    | cons n0 ns =>
      obtain ⟨A, c, rfl, h2, h3⟩ := hn.ex
      obtain ⟨off, rfl, h5⟩ := h3 (by simp)
      have hc0 : ∀ w1, Below w.heap.size w w1 → w1.cell? ⟨g, off, none⟩ = some (.int .u8 (n0.toNat : Int)) := fun w1 b1 => by
        have h0 := h5 0 (by simp)
        exact (b1.cell (p := ⟨g, off, none⟩) (lt_cell h0)).trans h0
      have hs' := sc_upd C sc x n0 ht.1.2 hs
      simp only [can, List.headD_cons, List.tail_cons, Tm.bnd, List.length_cons, List.drop_succ_cons]
      have hWB := fun w => wb_receive ((sc a).toNat : Int) (x.toNat : Int) (tyOf p) (pay p) (n0.toNat : Int) w
      by_cases hc1 : 1 < c
      · have hI := fun (w1 : World) (b1 : Below w.heap.size w w1) => ih (upd sc x n0) _ ns _ g w1 ht.2 hs' (Nat.le_trans hg b1.size) ((NmS.tail h2 h5).below b1) (by simpa using hb)
        obtain ⟨r, hr⟩ : ∃ r, r = can p (upd sc x n0) ns := ⟨_, rfl⟩
        rw [← hr] at hI ⊢
        exact bo_B _ _ _ _ _ C hs.1 _ _ _ _ _ _ _ _ _ g (x.toNat) g off ns.length c _ hj hc1 (by simpa using h2) w (parts_fact (Tm.rcv (sc a) n0 p)).pf (fun u hu => wu_sc (.rcv a x p) ht0 C sc hs _ u hu) hg rfl hc0 hB2 hWB (fun v w w' h k => NmS.below h k) (fun v w b x h0 h => NmS.set h b 0 x h0) hI (fun bk w hc => withP_one (Tm.rcv (sc a) n0 p) p r rfl bk 1 w (by omega) hc)
      · simp only [List.length_cons] at h2
        obtain rfl : c = 1 := by omega
        obtain rfl : ns = [] := List.length_eq_zero_iff.1 (by omega)
        have hI := fun (w1 : World) (b1 : Below w.heap.size w w1) => ih (upd sc x n0) _ [] (.slice (some ⟨g, off, none⟩) 0 0) g w1 ht.2 hs' (Nat.le_trans hg b1.size) ⟨⟨_, _, rfl, by simp, fun h => absurd rfl h⟩⟩ (by simpa using hb)
        obtain ⟨r, hr⟩ : ∃ r, r = can p (upd sc x n0) [] := ⟨_, rfl⟩
        rw [← hr] at hI ⊢
        exact bo_Bz _ _ _ _ _ C hs.1 _ _ _ _ _ _ _ _ _ g (x.toNat) g off _ hj w (parts_fact (Tm.rcv (sc a) n0 p)).pf (fun u hu => wu_sc (.rcv a x p) ht0 C sc hs _ u hu) hg rfl hc0 hB2 hWB (fun v w w' h k => NmS.below h k) (fun v w b x h0 h => NmS.set h b 0 x h0) hI (fun bk w hc => withP_one (Tm.rcv (sc a) n0 p) p r rfl bk 1 w (by omega) hc)
  | own x p ih =>
    intro sc C ns v g w ht hs hg hn hb
    have ht0 := ht
    simp only [Tm.ok, Bool.and_eq_true] at ht
    simp only [Tm.bnd, List.length_cons] at hb
    obtain ⟨hj, hxj, _⟩ := let_j ht.1
    have hB := binderOf_any (Tm.own x p)
    have hB2 : ∀ w, Calls Tryz.prog 112 #[.iface (tyOf (Tm.own x p)) (pay (Tm.own x p))] w fun e w' => e = .returned (.tuple #[.int .u8 (((x.toNat : Nat) : Int)), .bool true]) ∧ Below w.heap.size w w' := hB
    cases ns with
    | nil => simp at hb
    | cons n0 ns =>
      obtain ⟨A, c, rfl, h2, h3⟩ := hn.ex
      obtain ⟨off, rfl, h5⟩ := h3 (by simp)
      have hc0 : ∀ w1, Below w.heap.size w w1 → w1.cell? ⟨g, off, none⟩ = some (.int .u8 (n0.toNat : Int)) := fun w1 b1 => by
        have h0 := h5 0 (by simp)
        exact (b1.cell (p := ⟨g, off, none⟩) (lt_cell h0)).trans h0
      have hs' := sc_upd C sc x n0 ht.1 hs
      simp only [can, List.headD_cons, List.tail_cons, Tm.bnd, List.length_cons, List.drop_succ_cons]
      have hWB := fun w => wb_own (x.toNat : Int) (tyOf p) (pay p) (n0.toNat : Int) w
      by_cases hc1 : 1 < c
      · have hI := fun (w1 : World) (b1 : Below w.heap.size w w1) => ih (upd sc x n0) _ ns _ g w1 ht.2 hs' (Nat.le_trans hg b1.size) ((NmS.tail h2 h5).below b1) (by simpa using hb)
        obtain ⟨r, hr⟩ : ∃ r, r = can p (upd sc x n0) ns := ⟨_, rfl⟩
        rw [← hr] at hI ⊢
        exact bo_B _ _ _ _ _ C hs.1 _ _ _ _ _ _ _ _ _ g (x.toNat) g off ns.length c _ hj hc1 (by simpa using h2) w (parts_fact (Tm.own n0 p)).pf (fun u hu => wu_sc (.own x p) ht0 C sc hs _ u hu) hg rfl hc0 hB2 hWB (fun v w w' h k => NmS.below h k) (fun v w b x h0 h => NmS.set h b 0 x h0) hI (fun bk w hc => withP_one (Tm.own n0 p) p r rfl bk 1 w (by omega) hc)
      · simp only [List.length_cons] at h2
        obtain rfl : c = 1 := by omega
        obtain rfl : ns = [] := List.length_eq_zero_iff.1 (by omega)
        have hI := fun (w1 : World) (b1 : Below w.heap.size w w1) => ih (upd sc x n0) _ [] (.slice (some ⟨g, off, none⟩) 0 0) g w1 ht.2 hs' (Nat.le_trans hg b1.size) ⟨⟨_, _, rfl, by simp, fun h => absurd rfl h⟩⟩ (by simpa using hb)
        obtain ⟨r, hr⟩ : ∃ r, r = can p (upd sc x n0) [] := ⟨_, rfl⟩
        rw [← hr] at hI ⊢
        exact bo_Bz _ _ _ _ _ C hs.1 _ _ _ _ _ _ _ _ _ g (x.toNat) g off _ hj w (parts_fact (Tm.own n0 p)).pf (fun u hu => wu_sc (.own x p) ht0 C sc hs _ u hu) hg rfl hc0 hB2 hWB (fun v w w' h k => NmS.below h k) (fun v w b x h0 h => NmS.set h b 0 x h0) hI (fun bk w hc => withP_one (Tm.own n0 p) p r rfl bk 1 w (by omega) hc)

end Go.Proofs.YtmfmagfgcdaeeaaGreat.T1

/- A process with a name of its own for each sign that binds: in the program. -/
namespace Go.Proofs.YtmfmagfgcdaeeaaGreat.T1
open Go.RowKit
set_option maxRecDepth 100000
set_option linter.unusedVariables false
set_option linter.unusedSimpArgs false

def EncQ (t : Tm) (w : World) (e : Ending) (w' : World) : Prop := e = .returned (.iface (tyOf t) (pay t)) ∧ Below w.heap.size w w'
theorem marksN_at (k : Nat) (h : k < 133) : marksN[k]'(by rw [marksN_len]; exact h) = UInt8.ofNat (123 + k) := by unfold marksN; simp
theorem marksN_succ (k : Nat) (h : k < 133) : (marksN.take (k + 1)).map ub = (marksN.take k).map ub ++ [.int .u8 (123 + (k : Int))] := by
  rw [List.take_succ_eq_append_getElem (by rw [marksN_len]; exact h), List.map_append, marksN_at k h]
  congr 1
  show [ub (UInt8.ofNat (123 + k))] = _
  unfold ub
  rw [UInt8.toNat_ofNat', Nat.mod_eq_of_lt (by omega)]
  push_cast; rfl
/-- A row of names that is owned is a slice of names. -/
theorem NmS.of_own {w : World} {base g : Nat} {v : Value} {ns : List UInt8} (h : w.ownsRow base 5 1 v ns.length (ns.map ub)) (hg : v.ownBlock = some g ∨ ns = []) : NmS w g v ns := by
  rcases h.2 with ⟨h1, h2⟩ | ⟨g', cap, cur, h1, _, h3, h4, _, _, h7⟩
  · have : ns = [] := List.length_eq_zero_iff.1 h2
    subst this
    exact ⟨_, _, h1, Nat.le_refl _, fun h => absurd rfl h⟩
  · subst h1
    refine ⟨_, _, rfl, h4, fun hne => ⟨0, ?_, fun j hj => ?_⟩⟩
    · rcases hg with hg | hg
      · simp [Value.ownBlock] at hg; rw [hg]
      · exact absurd hg hne
    · rcases hg with hg | hg
      · simp [Value.ownBlock] at hg
        subst hg
        rw [Nat.zero_add]
        have h8 : cur.toList[j]? = some (.int .u8 (ns[j].toNat : Int)) := by
          have : (cur.toList.take (ns.length * 1))[j]? = (ns.map ub)[j]? := by rw [h7]
          rw [List.getElem?_take, if_pos (by omega), List.getElem?_map, List.getElem?_eq_getElem hj] at this
          exact this
        rw [cell_of_row w _ j cur _ _ h3, ← h8]; simp
      · exact absurd hg hne
set_option maxHeartbeats 2000000 in
theorem numbered0 (T T2 : TypeId) (V V2 : Value) (hS : ∀ w, Calls Tryz.prog 64 #[] w fun e w' => ∃ C, e = .returned (.agg C) ∧ ScOf C id ∧ Below w.heap.size w w')
    (hBI : ∀ C v g w, ScOf C id → g ≤ w.heap.size → NmS w g v marksN → Calls Tryz.prog 63 #[.iface T V, .agg C, v] w fun e w' => ∃ v', e = .returned (.tuple #[.iface T2 V2, v']) ∧ Below w.heap.size w w') (w : World) :
    Calls Tryz.prog 71 #[.iface T V] w fun e w' => e = .returned (.iface T2 V2) ∧ Below w.heap.size w w' := by
  obtain ⟨i0, hi, hz0, hz1, hz2⟩ := info_parts Tryz.infoU8
  have HS := Lib.hid hS
  have HBI := Lib.hid hBI
  clear hS hBI
  go_enter Tryz.func71, Tryz.ntmps71
  go_wp2_with fail
  go_loopw [3, 4] (fun v i wr => ∃ k : Nat, k ≤ 133 ∧ i = .int .i32 (123 + (k : Int)) ∧ Hid (wr.ownsRow w.heap.size 5 1 v k ((marksN.take k).map ub)) ∧ Below w.heap.size w wr) (fun _ i _ => 300 - (intOf i).toNat)
  case atStart => exact ⟨0, Nat.zero_le _, rfl, World.ownsRow_nil _ _ _ _, Below.refl _ _⟩
  case round =>
    obtain ⟨k, hk, rfl, hown, hbw⟩ := hrel
    by_cases hlt : k < 133
    · have hsz := hbw.size
      have hms := Lib.hid (marksN_succ k hlt)
      have hw8 : IntKind.u8.wrap (123 + (k : Int)) = 123 + (k : Int) := by rw [IntKind.wrap_u8] <;> omega
      have Hb := Lib.hid hbw
      clear hbw
      go_wp2_with (at_builtin; refine wpList_append_own _ rfl (.tmp 9) (.tmp 12) 22 rfl w.heap.size 5 i0 (.int .u8 0) 1 1 Tryz.underlying22 hi hz0 hz1 hz2 rfl (by decide) _ _ _ rfl (hown.out.alloc _) ⟨wr.heap.size, 0, none⟩ 1 1 [.int .u8 (123 + (k : Int))] rfl rfl (cell_row wr [.int .u8 (123 + (k : Int))] 5) (fun u hu => by simp at hu; subst hu; rfl) ?c2 ?c3 ?c4 ?_)
      case c2 => unfold maxLen; omega
      case c3 => omega
      case c4 => first | omega | (simp; omega)
      intro v1 w1 hown1 hgrow1 _
      have hbw1 : Below w.heap.size w w1 := Below.grown (Hb.out.alloc hsz _) hgrow1 (by simp; omega) (fun j hj => by
        rcases hown.out.2 with ⟨rfl, _⟩ | ⟨g, cap, cur, rfl, h1, _⟩
        · simp [Value.ownBlock] at hj
        · simp [Value.ownBlock] at hj; omega)
      have HO : Hid (w1.ownsRow w.heap.size 5 1 v1 (k + 1) ((marksN.take (k + 1)).map ub)) := by
        show World.ownsRow _ _ _ _ _ _ _
        rw [hms.out, List.map_take]; exact hown1
      clear hown1 hgrow1 hw8
      go_wp2_with fail
      go_roundw
      case rel => exact ⟨k + 1, by omega, by push_cast; first | rfl | (congr 1; omega), HO, hbw1⟩
      case measure => simp [intOf] <;> omega
    · obtain rfl : k = 133 := by omega
      have hmt : marksN.take 133 = marksN := List.take_of_length_le (by rw [marksN_len]; exact Nat.le_refl _)
      have ho := hown.out
      rw [hmt] at ho
      have hml : (133 : Nat) = marksN.length := marksN_len.symm
      rw [hml] at ho
      obtain ⟨g, hg⟩ : ∃ g, u3.ownBlock = some g := by
        rcases ho.2 with ⟨_, h⟩ | ⟨g, cap, cur, h, _⟩
        · rw [marksN_len] at h; omega
        · exact ⟨g, by rw [h]; rfl⟩
      have HN := Lib.hid (NmS.of_own ho (.inl hg))
      have hgl : g < wr.heap.size := (ho.lt g hg).2
      have Hb := Lib.hid hbw
      clear ho hmt hml hg hbw
      go_wp2_with fail
      refine (HS.out _).mono ?_
      rintro e w1 ⟨C1, rfl, hsc, b1⟩
      have HSC := Lib.hid hsc
      have Hb1 := Lib.hid (below_go Hb.out b1)
      have HN1 := Lib.hid (HN.out.below b1)
      have hg1 : g ≤ w1.heap.size := Nat.le_trans (Nat.le_of_lt hgl) b1.size
      clear hsc b1
      go_wp2_with fail
      refine (HBI.out _ _ _ _ HSC.out hg1 HN1.out).mono ?_
      rintro e w2 ⟨v2, rfl, b2⟩
      have bl2 := below_go Hb1.out b2
      go_wp2_with fail
      go_ret
      exact ⟨rfl, bl2⟩
theorem numbered_any (t : Tm) (ht : t.ok nmL = true) (hb : t.bnd.length ≤ 133) (w : World) : Calls Tryz.prog 71 #[.iface (tyOf t) (pay t)] w (EncQ (can t id marksN) w) :=
  numbered0 _ _ _ _ (fun w => freeScope_any w) (fun C v g w hsc hg hn => (bindInOrder_any t id C marksN v g w ht hsc hg hn (by rw [marksN_len]; exact hb)).mono fun e w' ⟨v', h1, _, h3⟩ => ⟨v', h1, h3⟩) w

end Go.Proofs.YtmfmagfgcdaeeaaGreat.T1

/- Alike by names, in the specification, for every two processes. -/
namespace Go.Proofs.YtmfmagfgcdaeeaaGreat.T1
open Go.RowKit
set_option maxRecDepth 100000
set_option linter.unusedVariables false
set_option linter.unusedSimpArgs false

theorem B_cons (x : UInt8) (l : List UInt8) : B (x :: l) = one x ++ B l := by
  symm; apply B_eq
  rw [ByteArray.data_append, Array.toList_append, B_list]; rfl
theorem sp_any (a b : UInt8) (l r : List UInt8) (h : l.length = r.length) (hl : l.length ≤ 1000) (w : World) : Calls Tryz.prog 139 #[.int .u8 (a.toNat : Int), .int .u8 (b.toNat : Int), .string (B l), .string (B r)] w fun e w' => e = .returned (.bool (sameP a b l r)) ∧ w = w' := by
  have := samePlace_any a b (B l) (B r) (by rw [B_size, B_size, h]) (by rw [B_size]; omega) w
  rw [B_list, B_list] at this
  exact this
set_option maxHeartbeats 4000000 in
theorem tmAlpha_any (t : Tm) : ∀ (u : Tm) (l r : List UInt8) (w : World), t.ok nmE = true → u.ok nmE = true → t.pr.length ≤ 700 → u.pr.length ≤ 700 → l.length = r.length → l.length + t.size ≤ 1000 →
    Calls Tryz.prog 77 #[.string (S t), .string (S u), .string (B l), .string (B r)] w fun e w' => e = .returned (.bool (alp t u l r)) ∧ Below w.heap.size w w' := by
  induction t with
  | nil  =>
    intro u l r w ho hu hl hlu hlr hsz
    have hK1 := tmKind_any (.nil ) ho hl
    have hK2 := tmKind_any u hu hlu
    cases u with
    | nil =>
      have hN := tmNames_any .nil ho hl
      exact al_nil _ _ _ _ _ _ 48 (by decide) (by rw [B_size]; simp [Tm.used]) hK1 hK2 hN hN (tmBinds_any .nil ho hl) (tmParts_any .nil ho hl) (tmParts_any .nil ho hl) w
    | snd c d q => exact al_kind _ _ _ _ 48 33 (by decide) hK1 hK2 w
    | rcv c y q => exact al_kind _ _ _ _ 48 63 (by decide) hK1 hK2 w
    | tau q => exact al_kind _ _ _ _ 48 126 (by decide) hK1 hK2 w
    | sum q q2 => exact al_kind _ _ _ _ 48 43 (by decide) hK1 hK2 w
    | par q q2 => exact al_kind _ _ _ _ 48 38 (by decide) hK1 hK2 w
    | own y q => exact al_kind _ _ _ _ 48 35 (by decide) hK1 hK2 w
    | mat c d q => exact al_kind _ _ _ _ 48 61 (by decide) hK1 hK2 w
    | rep q => exact al_kind _ _ _ _ 48 42 (by decide) hK1 hK2 w
  | snd a b p ih =>
    intro u l r w ho hu hl hlu hlr hsz
    have hK1 := tmKind_any (.snd a b p) ho hl
    have hK2 := tmKind_any u hu hlu
    cases u with
    | nil  => exact al_kind _ _ _ _ 33 48 (by decide) hK1 hK2 w
    | snd c d q =>
      have hN1 := tmNames_any (.snd a b p) ho hl
      have hN2 := tmNames_any (.snd c d q) hu hlu
      have hB1 := tmBinds_any (.snd a b p) ho hl
      have hB2 := tmBinds_any (.snd c d q) hu hlu
      have hP1 := tmParts_any (.snd a b p) ho hl
      have hP2 := tmParts_any (.snd c d q) hu hlu
      simp only [Tm.ok, Bool.and_eq_true] at ho hu
      simp only [Tm.pr, List.length_cons, List.length_append] at hl hlu
      simp only [Tm.size] at hsz
      simp only [alp]
      have hs0 := sp_any a c l r hlr (by omega)
      have hs1 := sp_any b d l r hlr (by omega)
      have hI := fun w => ih q l r w ho.2 hu.2 (by omega) (by omega) hlr (by omega)
      cases h0 : sameP a c l r with
      | false =>
        rw [h0] at hs0
        simp only [Bool.false_and]
        exact al_twoF _ _ _ _ _ _ 33 (by decide) (by rw [B_size]; simp [Tm.used]) (by rw [B_size]; simp [Tm.used]) (by rw [B_size]; simp [Tm.used]) (by rw [B_size]; simp [Tm.used]) (by rw [B_size]; simp [Tm.used]) hK1 hK2 hN1 hN2 hs0 w
      | true =>
        rw [h0] at hs0
        cases h1 : sameP b d l r with
        | false =>
          rw [h1] at hs1
          simp only [Bool.and_false, Bool.false_and]
          exact al_twoTF _ _ _ _ _ _ 33 (by decide) (by rw [B_size]; simp [Tm.used]) (by rw [B_size]; simp [Tm.used]) (by rw [B_size]; simp [Tm.used]) (by rw [B_size]; simp [Tm.used]) (by rw [B_size]; simp [Tm.used]) hK1 hK2 hN1 hN2 hs0 hs1 w
        | true =>
          rw [h1] at hs1
          simp only [Bool.and_true, Bool.true_and]
          cases h2 : alp p q l r with
          | false => rw [h2] at hI; exact al_twoN _ _ _ _ _ _ 33 (by decide) (by rw [B_size]; simp [Tm.used]) (by rw [B_size]; simp [Tm.used]) (by rw [B_size]; simp [Tm.used]) (by rw [B_size]; simp [Tm.used]) (by rw [B_size]; simp [Tm.used]) _ _ hK1 hK2 hN1 hN2 hs0 hs1 hB1 hP2 hP1 hI w
          | true => rw [h2] at hI; exact al_twoY _ _ _ _ _ _ 33 (by decide) (by rw [B_size]; simp [Tm.used]) (by rw [B_size]; simp [Tm.used]) (by rw [B_size]; simp [Tm.used]) (by rw [B_size]; simp [Tm.used]) (by rw [B_size]; simp [Tm.used]) _ _ hK1 hK2 hN1 hN2 hs0 hs1 hB1 hP2 hP1 hI w
    | rcv c y q => exact al_kind _ _ _ _ 33 63 (by decide) hK1 hK2 w
    | tau q => exact al_kind _ _ _ _ 33 126 (by decide) hK1 hK2 w
    | sum q q2 => exact al_kind _ _ _ _ 33 43 (by decide) hK1 hK2 w
    | par q q2 => exact al_kind _ _ _ _ 33 38 (by decide) hK1 hK2 w
    | own y q => exact al_kind _ _ _ _ 33 35 (by decide) hK1 hK2 w
    | mat c d q => exact al_kind _ _ _ _ 33 61 (by decide) hK1 hK2 w
    | rep q => exact al_kind _ _ _ _ 33 42 (by decide) hK1 hK2 w
  | rcv a x p ih =>
    intro u l r w ho hu hl hlu hlr hsz
    have hK1 := tmKind_any (.rcv a x p) ho hl
    have hK2 := tmKind_any u hu hlu
    cases u with
    | nil  => exact al_kind _ _ _ _ 63 48 (by decide) hK1 hK2 w
    | snd c d q => exact al_kind _ _ _ _ 63 33 (by decide) hK1 hK2 w
    | rcv c y q =>
      have hN1 := tmNames_any (.rcv a x p) ho hl
      have hN2 := tmNames_any (.rcv c y q) hu hlu
      have hB1 := tmBinds_any (.rcv a x p) ho hl
      have hB2 := tmBinds_any (.rcv c y q) hu hlu
      have hP1 := tmParts_any (.rcv a x p) ho hl
      have hP2 := tmParts_any (.rcv c y q) hu hlu
      simp only [Tm.ok, Bool.and_eq_true] at ho hu
      simp only [Tm.pr, List.length_cons, List.length_append] at hl hlu
      simp only [Tm.size] at hsz
      simp only [alp]
      have hs0 := sp_any a c l r hlr (by omega)
      have hI := fun w => ih q (x :: l) (y :: r) w ho.2 hu.2 (by omega) (by omega) (by simp [hlr]) (by simp only [List.length_cons]; omega)
      have hb1 : (B l).size ≤ 100000 := by rw [B_size]; omega
      have hb2 : (B r).size ≤ 100000 := by rw [B_size]; omega
      cases h0 : sameP a c l r with
      | false =>
        rw [h0] at hs0
        simp only [Bool.false_and]
        exact al_rcvF _ _ _ _ _ _ 63 (by decide) (by rw [B_size]; simp [Tm.used]) (by rw [B_size]; simp [Tm.used]) (by rw [B_size]; simp [Tm.used]) hK1 hK2 hN1 hN2 hs0 w
      | true =>
        rw [h0] at hs0
        simp only [Bool.true_and]
        cases h2 : alp p q (x :: l) (y :: r) with
        | false => rw [h2] at hI; exact al_rcvN _ _ _ _ _ _ 63 (by decide) (by rw [B_size]; simp [Tm.used]) (by rw [B_size]; simp [Tm.used]) (by rw [B_size]; simp [Tm.used]) x y _ _ (B_cons x l) (B_cons y r) hb1 hb2 _ _ hK1 hK2 hN1 hN2 hs0 hB1 hB2 hP2 hP1 hI w
        | true => rw [h2] at hI; exact al_rcvY _ _ _ _ _ _ 63 (by decide) (by rw [B_size]; simp [Tm.used]) (by rw [B_size]; simp [Tm.used]) (by rw [B_size]; simp [Tm.used]) x y _ _ (B_cons x l) (B_cons y r) hb1 hb2 _ _ hK1 hK2 hN1 hN2 hs0 hB1 hB2 hP2 hP1 hI w
    | tau q => exact al_kind _ _ _ _ 63 126 (by decide) hK1 hK2 w
    | sum q q2 => exact al_kind _ _ _ _ 63 43 (by decide) hK1 hK2 w
    | par q q2 => exact al_kind _ _ _ _ 63 38 (by decide) hK1 hK2 w
    | own y q => exact al_kind _ _ _ _ 63 35 (by decide) hK1 hK2 w
    | mat c d q => exact al_kind _ _ _ _ 63 61 (by decide) hK1 hK2 w
    | rep q => exact al_kind _ _ _ _ 63 42 (by decide) hK1 hK2 w
  | tau p ih =>
    intro u l r w ho hu hl hlu hlr hsz
    have hK1 := tmKind_any (.tau p) ho hl
    have hK2 := tmKind_any u hu hlu
    cases u with
    | nil  => exact al_kind _ _ _ _ 126 48 (by decide) hK1 hK2 w
    | snd c d q => exact al_kind _ _ _ _ 126 33 (by decide) hK1 hK2 w
    | rcv c y q => exact al_kind _ _ _ _ 126 63 (by decide) hK1 hK2 w
    | tau q =>
      have hN1 := tmNames_any (.tau p) ho hl
      have hN2 := tmNames_any (.tau q) hu hlu
      have hB1 := tmBinds_any (.tau p) ho hl
      have hB2 := tmBinds_any (.tau q) hu hlu
      have hP1 := tmParts_any (.tau p) ho hl
      have hP2 := tmParts_any (.tau q) hu hlu
      simp only [Tm.ok, Bool.and_eq_true] at ho hu
      simp only [Tm.pr, List.length_cons, List.length_append] at hl hlu
      simp only [Tm.size] at hsz
      simp only [alp]
      have hI := fun w => ih q l r w ho hu (by omega) (by omega) hlr (by omega)
      cases h2 : alp p q l r with
      | false => rw [h2] at hI; exact al_tauN _ _ _ _ _ _ 126 (by decide) (by rw [B_size]; simp [Tm.used]) _ _ hK1 hK2 hN1 hN2 hB1 hP2 hP1 hI w
      | true => rw [h2] at hI; exact al_tauY _ _ _ _ _ _ 126 (by decide) (by rw [B_size]; simp [Tm.used]) _ _ hK1 hK2 hN1 hN2 hB1 hP2 hP1 hI w
    | sum q q2 => exact al_kind _ _ _ _ 126 43 (by decide) hK1 hK2 w
    | par q q2 => exact al_kind _ _ _ _ 126 38 (by decide) hK1 hK2 w
    | own y q => exact al_kind _ _ _ _ 126 35 (by decide) hK1 hK2 w
    | mat c d q => exact al_kind _ _ _ _ 126 61 (by decide) hK1 hK2 w
    | rep q => exact al_kind _ _ _ _ 126 42 (by decide) hK1 hK2 w
  | sum p p2 ih ih2 =>
    intro u l r w ho hu hl hlu hlr hsz
    have hK1 := tmKind_any (.sum p p2) ho hl
    have hK2 := tmKind_any u hu hlu
    cases u with
    | nil  => exact al_kind _ _ _ _ 43 48 (by decide) hK1 hK2 w
    | snd c d q => exact al_kind _ _ _ _ 43 33 (by decide) hK1 hK2 w
    | rcv c y q => exact al_kind _ _ _ _ 43 63 (by decide) hK1 hK2 w
    | tau q => exact al_kind _ _ _ _ 43 126 (by decide) hK1 hK2 w
    | sum q q2 =>
      have hN1 := tmNames_any (.sum p p2) ho hl
      have hN2 := tmNames_any (.sum q q2) hu hlu
      have hB1 := tmBinds_any (.sum p p2) ho hl
      have hB2 := tmBinds_any (.sum q q2) hu hlu
      have hP1 := tmParts_any (.sum p p2) ho hl
      have hP2 := tmParts_any (.sum q q2) hu hlu
      simp only [Tm.ok, Bool.and_eq_true] at ho hu
      simp only [Tm.pr, List.length_cons, List.length_append] at hl hlu
      simp only [Tm.size] at hsz
      simp only [alp]
      have hI := fun w => ih q l r w ho.1 hu.1 (by omega) (by omega) hlr (by omega)
      have hI2 := fun w => ih2 q2 l r w ho.2 hu.2 (by omega) (by omega) hlr (by omega)
      cases h2 : alp p q l r with
      | false => rw [h2] at hI; simp only [Bool.false_and]; exact al_parN _ _ _ _ _ _ 43 (by decide) (by rw [B_size]; simp [Tm.used]) _ _ _ _ hK1 hK2 hN1 hN2 hB1 hP2 hP1 hI w
      | true =>
        rw [h2] at hI
        simp only [Bool.true_and]
        cases h3 : alp p2 q2 l r with
        | false => rw [h3] at hI2; exact al_parYN _ _ _ _ _ _ 43 (by decide) (by rw [B_size]; simp [Tm.used]) _ _ _ _ hK1 hK2 hN1 hN2 hB1 hP2 hP1 hI hI2 w
        | true => rw [h3] at hI2; exact al_parYY _ _ _ _ _ _ 43 (by decide) (by rw [B_size]; simp [Tm.used]) _ _ _ _ hK1 hK2 hN1 hN2 hB1 hP2 hP1 hI hI2 w
    | par q q2 => exact al_kind _ _ _ _ 43 38 (by decide) hK1 hK2 w
    | own y q => exact al_kind _ _ _ _ 43 35 (by decide) hK1 hK2 w
    | mat c d q => exact al_kind _ _ _ _ 43 61 (by decide) hK1 hK2 w
    | rep q => exact al_kind _ _ _ _ 43 42 (by decide) hK1 hK2 w
  | par p p2 ih ih2 =>
    intro u l r w ho hu hl hlu hlr hsz
    have hK1 := tmKind_any (.par p p2) ho hl
    have hK2 := tmKind_any u hu hlu
    cases u with
    | nil  => exact al_kind _ _ _ _ 38 48 (by decide) hK1 hK2 w
    | snd c d q => exact al_kind _ _ _ _ 38 33 (by decide) hK1 hK2 w
    | rcv c y q => exact al_kind _ _ _ _ 38 63 (by decide) hK1 hK2 w
    | tau q => exact al_kind _ _ _ _ 38 126 (by decide) hK1 hK2 w
    | sum q q2 => exact al_kind _ _ _ _ 38 43 (by decide) hK1 hK2 w
    | par q q2 =>
      have hN1 := tmNames_any (.par p p2) ho hl
      have hN2 := tmNames_any (.par q q2) hu hlu
      have hB1 := tmBinds_any (.par p p2) ho hl
      have hB2 := tmBinds_any (.par q q2) hu hlu
      have hP1 := tmParts_any (.par p p2) ho hl
      have hP2 := tmParts_any (.par q q2) hu hlu
      simp only [Tm.ok, Bool.and_eq_true] at ho hu
      simp only [Tm.pr, List.length_cons, List.length_append] at hl hlu
      simp only [Tm.size] at hsz
      simp only [alp]
      have hI := fun w => ih q l r w ho.1 hu.1 (by omega) (by omega) hlr (by omega)
      have hI2 := fun w => ih2 q2 l r w ho.2 hu.2 (by omega) (by omega) hlr (by omega)
      cases h2 : alp p q l r with
      | false => rw [h2] at hI; simp only [Bool.false_and]; exact al_parN _ _ _ _ _ _ 38 (by decide) (by rw [B_size]; simp [Tm.used]) _ _ _ _ hK1 hK2 hN1 hN2 hB1 hP2 hP1 hI w
      | true =>
        rw [h2] at hI
        simp only [Bool.true_and]
        cases h3 : alp p2 q2 l r with
        | false => rw [h3] at hI2; exact al_parYN _ _ _ _ _ _ 38 (by decide) (by rw [B_size]; simp [Tm.used]) _ _ _ _ hK1 hK2 hN1 hN2 hB1 hP2 hP1 hI hI2 w
        | true => rw [h3] at hI2; exact al_parYY _ _ _ _ _ _ 38 (by decide) (by rw [B_size]; simp [Tm.used]) _ _ _ _ hK1 hK2 hN1 hN2 hB1 hP2 hP1 hI hI2 w
    | own y q => exact al_kind _ _ _ _ 38 35 (by decide) hK1 hK2 w
    | mat c d q => exact al_kind _ _ _ _ 38 61 (by decide) hK1 hK2 w
    | rep q => exact al_kind _ _ _ _ 38 42 (by decide) hK1 hK2 w
  | own x p ih =>
    intro u l r w ho hu hl hlu hlr hsz
    have hK1 := tmKind_any (.own x p) ho hl
    have hK2 := tmKind_any u hu hlu
    cases u with
    | nil  => exact al_kind _ _ _ _ 35 48 (by decide) hK1 hK2 w
    | snd c d q => exact al_kind _ _ _ _ 35 33 (by decide) hK1 hK2 w
    | rcv c y q => exact al_kind _ _ _ _ 35 63 (by decide) hK1 hK2 w
    | tau q => exact al_kind _ _ _ _ 35 126 (by decide) hK1 hK2 w
    | sum q q2 => exact al_kind _ _ _ _ 35 43 (by decide) hK1 hK2 w
    | par q q2 => exact al_kind _ _ _ _ 35 38 (by decide) hK1 hK2 w
    | own y q =>
      have hN1 := tmNames_any (.own x p) ho hl
      have hN2 := tmNames_any (.own y q) hu hlu
      have hB1 := tmBinds_any (.own x p) ho hl
      have hB2 := tmBinds_any (.own y q) hu hlu
      have hP1 := tmParts_any (.own x p) ho hl
      have hP2 := tmParts_any (.own y q) hu hlu
      simp only [Tm.ok, Bool.and_eq_true] at ho hu
      simp only [Tm.pr, List.length_cons, List.length_append] at hl hlu
      simp only [Tm.size] at hsz
      simp only [alp]
      have hI := fun w => ih q (x :: l) (y :: r) w ho.2 hu.2 (by omega) (by omega) (by simp [hlr]) (by simp only [List.length_cons]; omega)
      have hb1 : (B l).size ≤ 100000 := by rw [B_size]; omega
      have hb2 : (B r).size ≤ 100000 := by rw [B_size]; omega
      cases h2 : alp p q (x :: l) (y :: r) with
      | false => rw [h2] at hI; exact al_ownN _ _ _ _ _ _ 35 (by decide) (by rw [B_size]; simp [Tm.used]) x y _ _ (B_cons x l) (B_cons y r) hb1 hb2 _ _ hK1 hK2 hN1 hN2 hB1 hB2 hP2 hP1 hI w
      | true => rw [h2] at hI; exact al_ownY _ _ _ _ _ _ 35 (by decide) (by rw [B_size]; simp [Tm.used]) x y _ _ (B_cons x l) (B_cons y r) hb1 hb2 _ _ hK1 hK2 hN1 hN2 hB1 hB2 hP2 hP1 hI w
    | mat c d q => exact al_kind _ _ _ _ 35 61 (by decide) hK1 hK2 w
    | rep q => exact al_kind _ _ _ _ 35 42 (by decide) hK1 hK2 w
  | mat a b p ih =>
    intro u l r w ho hu hl hlu hlr hsz
    have hK1 := tmKind_any (.mat a b p) ho hl
    have hK2 := tmKind_any u hu hlu
    cases u with
    | nil  => exact al_kind _ _ _ _ 61 48 (by decide) hK1 hK2 w
    | snd c d q => exact al_kind _ _ _ _ 61 33 (by decide) hK1 hK2 w
    | rcv c y q => exact al_kind _ _ _ _ 61 63 (by decide) hK1 hK2 w
    | tau q => exact al_kind _ _ _ _ 61 126 (by decide) hK1 hK2 w
    | sum q q2 => exact al_kind _ _ _ _ 61 43 (by decide) hK1 hK2 w
    | par q q2 => exact al_kind _ _ _ _ 61 38 (by decide) hK1 hK2 w
    | own y q => exact al_kind _ _ _ _ 61 35 (by decide) hK1 hK2 w
    | mat c d q =>
      have hN1 := tmNames_any (.mat a b p) ho hl
      have hN2 := tmNames_any (.mat c d q) hu hlu
      have hB1 := tmBinds_any (.mat a b p) ho hl
      have hB2 := tmBinds_any (.mat c d q) hu hlu
      have hP1 := tmParts_any (.mat a b p) ho hl
      have hP2 := tmParts_any (.mat c d q) hu hlu
      simp only [Tm.ok, Bool.and_eq_true] at ho hu
      simp only [Tm.pr, List.length_cons, List.length_append] at hl hlu
      simp only [Tm.size] at hsz
      simp only [alp]
      have hs0 := sp_any a c l r hlr (by omega)
      have hs1 := sp_any b d l r hlr (by omega)
      have hI := fun w => ih q l r w ho.2 hu.2 (by omega) (by omega) hlr (by omega)
      cases h0 : sameP a c l r with
      | false =>
        rw [h0] at hs0
        simp only [Bool.false_and]
        exact al_twoF _ _ _ _ _ _ 61 (by decide) (by rw [B_size]; simp [Tm.used]) (by rw [B_size]; simp [Tm.used]) (by rw [B_size]; simp [Tm.used]) (by rw [B_size]; simp [Tm.used]) (by rw [B_size]; simp [Tm.used]) hK1 hK2 hN1 hN2 hs0 w
      | true =>
        rw [h0] at hs0
        cases h1 : sameP b d l r with
        | false =>
          rw [h1] at hs1
          simp only [Bool.and_false, Bool.false_and]
          exact al_twoTF _ _ _ _ _ _ 61 (by decide) (by rw [B_size]; simp [Tm.used]) (by rw [B_size]; simp [Tm.used]) (by rw [B_size]; simp [Tm.used]) (by rw [B_size]; simp [Tm.used]) (by rw [B_size]; simp [Tm.used]) hK1 hK2 hN1 hN2 hs0 hs1 w
        | true =>
          rw [h1] at hs1
          simp only [Bool.and_true, Bool.true_and]
          cases h2 : alp p q l r with
          | false => rw [h2] at hI; exact al_twoN _ _ _ _ _ _ 61 (by decide) (by rw [B_size]; simp [Tm.used]) (by rw [B_size]; simp [Tm.used]) (by rw [B_size]; simp [Tm.used]) (by rw [B_size]; simp [Tm.used]) (by rw [B_size]; simp [Tm.used]) _ _ hK1 hK2 hN1 hN2 hs0 hs1 hB1 hP2 hP1 hI w
          | true => rw [h2] at hI; exact al_twoY _ _ _ _ _ _ 61 (by decide) (by rw [B_size]; simp [Tm.used]) (by rw [B_size]; simp [Tm.used]) (by rw [B_size]; simp [Tm.used]) (by rw [B_size]; simp [Tm.used]) (by rw [B_size]; simp [Tm.used]) _ _ hK1 hK2 hN1 hN2 hs0 hs1 hB1 hP2 hP1 hI w
    | rep q => exact al_kind _ _ _ _ 61 42 (by decide) hK1 hK2 w
  | rep p ih =>
    intro u l r w ho hu hl hlu hlr hsz
    have hK1 := tmKind_any (.rep p) ho hl
    have hK2 := tmKind_any u hu hlu
    cases u with
    | nil  => exact al_kind _ _ _ _ 42 48 (by decide) hK1 hK2 w
    | snd c d q => exact al_kind _ _ _ _ 42 33 (by decide) hK1 hK2 w
    | rcv c y q => exact al_kind _ _ _ _ 42 63 (by decide) hK1 hK2 w
    | tau q => exact al_kind _ _ _ _ 42 126 (by decide) hK1 hK2 w
    | sum q q2 => exact al_kind _ _ _ _ 42 43 (by decide) hK1 hK2 w
    | par q q2 => exact al_kind _ _ _ _ 42 38 (by decide) hK1 hK2 w
    | own y q => exact al_kind _ _ _ _ 42 35 (by decide) hK1 hK2 w
    | mat c d q => exact al_kind _ _ _ _ 42 61 (by decide) hK1 hK2 w
    | rep q =>
      have hN1 := tmNames_any (.rep p) ho hl
      have hN2 := tmNames_any (.rep q) hu hlu
      have hB1 := tmBinds_any (.rep p) ho hl
      have hB2 := tmBinds_any (.rep q) hu hlu
      have hP1 := tmParts_any (.rep p) ho hl
      have hP2 := tmParts_any (.rep q) hu hlu
      simp only [Tm.ok, Bool.and_eq_true] at ho hu
      simp only [Tm.pr, List.length_cons, List.length_append] at hl hlu
      simp only [Tm.size] at hsz
      simp only [alp]
      have hI := fun w => ih q l r w ho hu (by omega) (by omega) hlr (by omega)
      cases h2 : alp p q l r with
      | false => rw [h2] at hI; exact al_tauN _ _ _ _ _ _ 42 (by decide) (by rw [B_size]; simp [Tm.used]) _ _ hK1 hK2 hN1 hN2 hB1 hP2 hP1 hI w
      | true => rw [h2] at hI; exact al_tauY _ _ _ _ _ _ 42 (by decide) (by rw [B_size]; simp [Tm.used]) _ _ hK1 hK2 hN1 hN2 hB1 hP2 hP1 hI w

end Go.Proofs.YtmfmagfgcdaeeaaGreat.T1

/- What AreAlpha answers on both sides. No conditions. -/
namespace Go.Proofs.YtmfmagfgcdaeeaaGreat
namespace LawAreAlpha
open Go.ChangeShapes Go.WideShapes Go.ChangeAt Go.RowKit Go.Proofs.YtmfmagfgcdaeeaaGreat.T1
open Go.ChangeMaps (open_string shut_string)
set_option linter.unusedVariables false

theorem blw {u v w : World} (h : Below u.heap.size u v) (k : Below v.heap.size v w) : Below u.heap.size u w := below_trans h k h.size
set_option maxHeartbeats 1000000 in
theorem s_n1 (s q : ByteArray)  (G1 : ∀ w, Calls Tryz.prog 66 #[.string s] w fun e w' => e = .returned (.bool false) ∧ Below w.heap.size w w') (w : World) : Calls Tryz.prog 15 #[.string s, .string q] w fun e w' => e = .returned (.tuple #[.bool false, .bool false]) ∧ Below w.heap.size w w' := by
  have G1' := Lib.hid G1
  clear G1
  go_enter Tryz.func15, Tryz.ntmps15
  go_wp2_with fail
  refine (G1'.out _).mono ?_
  rintro e w1 ⟨rfl, b1⟩
  go_wp2_with fail
  go_ret2
  exact ⟨rfl, b1⟩
set_option maxHeartbeats 1000000 in
theorem s_n2 (s q : ByteArray)  (G1 : ∀ w, Calls Tryz.prog 66 #[.string s] w fun e w' => e = .returned (.bool true) ∧ Below w.heap.size w w') (G2 : ∀ w, Calls Tryz.prog 66 #[.string q] w fun e w' => e = .returned (.bool false) ∧ Below w.heap.size w w') (w : World) : Calls Tryz.prog 15 #[.string s, .string q] w fun e w' => e = .returned (.tuple #[.bool false, .bool false]) ∧ Below w.heap.size w w' := by
  have G1' := Lib.hid G1
  have G2' := Lib.hid G2
  clear G1 G2
  go_enter Tryz.func15, Tryz.ntmps15
  go_wp2_with fail
  refine (G1'.out _).mono ?_
  rintro e w1 ⟨rfl, b1⟩
  go_wp2_with fail
  refine (G2'.out _).mono ?_
  rintro e w2 ⟨rfl, b2⟩
  have bl2 := blw b1 b2
  go_wp2_with fail
  go_ret2
  exact ⟨rfl, bl2⟩
set_option maxHeartbeats 1000000 in
theorem s_yes (s q : ByteArray) (b : Bool) (G1 : ∀ w, Calls Tryz.prog 66 #[.string s] w fun e w' => e = .returned (.bool true) ∧ Below w.heap.size w w') (G2 : ∀ w, Calls Tryz.prog 66 #[.string q] w fun e w' => e = .returned (.bool true) ∧ Below w.heap.size w w') (HA : ∀ w, Calls Tryz.prog 77 #[.string s, .string q, .string ⟨#[]⟩, .string ⟨#[]⟩] w fun e w' => e = .returned (.bool b) ∧ Below w.heap.size w w') (w : World) : Calls Tryz.prog 15 #[.string s, .string q] w fun e w' => e = .returned (.tuple #[.bool b, .bool true]) ∧ Below w.heap.size w w' := by
  have G1' := Lib.hid G1
  have G2' := Lib.hid G2
  have HA' := Lib.hid HA
  clear G1 G2 HA
  go_enter Tryz.func15, Tryz.ntmps15
  go_wp2_with fail
  refine (G1'.out _).mono ?_
  rintro e w1 ⟨rfl, b1⟩
  go_wp2_with fail
  refine (G2'.out _).mono ?_
  rintro e w2 ⟨rfl, b2⟩
  have bl2 := blw b1 b2
  go_wp2_with fail
  refine (HA'.out _).mono ?_
  rintro e w3 ⟨rfl, b3⟩
  have bl3 := blw bl2 b3
  go_wp2_with fail
  go_ret2
  exact ⟨rfl, bl3⟩
set_option maxHeartbeats 1000000 in
theorem i_n1 (s q : ByteArray)  (G1 : ∀ w, Calls Tryz.prog 59 #[.string s] w fun e w' => e = .returned (.tuple #[.nilIface, .bool false]) ∧ Below w.heap.size w w') (G2 : ∀ w, Calls Tryz.prog 59 #[.string q] w fun e w' => e = .returned (.tuple #[.nilIface, .bool false]) ∧ Below w.heap.size w w') (w : World) : Calls Tryz.prog 11 #[.string s, .string q] w fun e w' => e = .returned (.tuple #[.bool false, .bool false]) ∧ Below w.heap.size w w' := by
  have G1' := Lib.hid G1
  have G2' := Lib.hid G2
  clear G1 G2
  go_enter Tryz.func11, Tryz.ntmps11
  go_wp2_with fail
  refine (G1'.out _).mono ?_
  rintro e w1 ⟨rfl, b1⟩
  go_wp2_with fail
  refine (G2'.out _).mono ?_
  rintro e w2 ⟨rfl, b2⟩
  have bl2 := blw b1 b2
  go_wp2_with fail
  go_ret2
  exact ⟨rfl, bl2⟩
set_option maxHeartbeats 1000000 in
theorem i_n1b (s q : ByteArray) (T2 : TypeId) (V2 : Value) (G1 : ∀ w, Calls Tryz.prog 59 #[.string s] w fun e w' => e = .returned (.tuple #[.nilIface, .bool false]) ∧ Below w.heap.size w w') (G2 : ∀ w, Calls Tryz.prog 59 #[.string q] w fun e w' => e = .returned (.tuple #[.iface T2 V2, .bool true]) ∧ Below w.heap.size w w') (w : World) : Calls Tryz.prog 11 #[.string s, .string q] w fun e w' => e = .returned (.tuple #[.bool false, .bool false]) ∧ Below w.heap.size w w' := by
  have G1' := Lib.hid G1
  have G2' := Lib.hid G2
  clear G1 G2
  go_enter Tryz.func11, Tryz.ntmps11
  go_wp2_with fail
  refine (G1'.out _).mono ?_
  rintro e w1 ⟨rfl, b1⟩
  go_wp2_with fail
  refine (G2'.out _).mono ?_
  rintro e w2 ⟨rfl, b2⟩
  have bl2 := blw b1 b2
  go_wp2_with fail
  go_ret2
  exact ⟨rfl, bl2⟩
set_option maxHeartbeats 1000000 in
theorem i_n2 (s q : ByteArray) (T1 : TypeId) (V1 : Value) (G1 : ∀ w, Calls Tryz.prog 59 #[.string s] w fun e w' => e = .returned (.tuple #[.iface T1 V1, .bool true]) ∧ Below w.heap.size w w') (G2 : ∀ w, Calls Tryz.prog 59 #[.string q] w fun e w' => e = .returned (.tuple #[.nilIface, .bool false]) ∧ Below w.heap.size w w') (w : World) : Calls Tryz.prog 11 #[.string s, .string q] w fun e w' => e = .returned (.tuple #[.bool false, .bool false]) ∧ Below w.heap.size w w' := by
  have G1' := Lib.hid G1
  have G2' := Lib.hid G2
  clear G1 G2
  go_enter Tryz.func11, Tryz.ntmps11
  go_wp2_with fail
  refine (G1'.out _).mono ?_
  rintro e w1 ⟨rfl, b1⟩
  go_wp2_with fail
  refine (G2'.out _).mono ?_
  rintro e w2 ⟨rfl, b2⟩
  have bl2 := blw b1 b2
  go_wp2_with fail
  go_ret2
  exact ⟨rfl, bl2⟩
set_option maxHeartbeats 1000000 in
theorem i_yes (s q : ByteArray) (T1 T2 T3 T4 : TypeId) (V1 V2 V3 V4 : Value) (X Y : ByteArray) (b : Bool) (hb : (X.toList == Y.toList) = b) (G1 : ∀ w, Calls Tryz.prog 59 #[.string s] w fun e w' => e = .returned (.tuple #[.iface T1 V1, .bool true]) ∧ Below w.heap.size w w') (G2 : ∀ w, Calls Tryz.prog 59 #[.string q] w fun e w' => e = .returned (.tuple #[.iface T2 V2, .bool true]) ∧ Below w.heap.size w w') (HA : ∀ w, Calls Tryz.prog 71 #[.iface T1 V1] w fun e w' => e = .returned (.iface T3 V3) ∧ Below w.heap.size w w') (HX : ∀ w, Calls Tryz.prog 65 #[.iface T3 V3] w fun e w' => e = .returned (.string X) ∧ Below w.heap.size w w') (HB : ∀ w, Calls Tryz.prog 71 #[.iface T2 V2] w fun e w' => e = .returned (.iface T4 V4) ∧ Below w.heap.size w w') (HY : ∀ w, Calls Tryz.prog 65 #[.iface T4 V4] w fun e w' => e = .returned (.string Y) ∧ Below w.heap.size w w') (w : World) : Calls Tryz.prog 11 #[.string s, .string q] w fun e w' => e = .returned (.tuple #[.bool b, .bool true]) ∧ Below w.heap.size w w' := by
  have G1' := Lib.hid G1
  have G2' := Lib.hid G2
  have HA' := Lib.hid HA
  have HB' := Lib.hid HB
  have HX' := Lib.hid HX
  have HY' := Lib.hid HY
  clear G1 G2 HA HB HX HY
  have HBB := Lib.hid hb
  clear hb
  go_enter Tryz.func11, Tryz.ntmps11
  go_wp2_with fail
  refine (G1'.out _).mono ?_
  rintro e w1 ⟨rfl, b1⟩
  go_wp2_with fail
  refine (G2'.out _).mono ?_
  rintro e w2 ⟨rfl, b2⟩
  have bl2 := blw b1 b2
  go_wp2_with fail
  refine (HA'.out _).mono ?_
  rintro e w3 ⟨rfl, b3⟩
  have bl3 := blw bl2 b3
  go_wp2_with fail
  refine (HX'.out _).mono ?_
  rintro e w4 ⟨rfl, b4⟩
  have bl4 := blw bl3 b4
  go_wp2_with fail
  refine (HB'.out _).mono ?_
  rintro e w5 ⟨rfl, b5⟩
  have bl5 := blw bl4 b5
  go_wp2_with fail
  refine (HY'.out _).mono ?_
  rintro e w6 ⟨rfl, b6⟩
  have bl6 := blw bl5 b6
  go_wp2_with fail
  go_ret2
  exact ⟨by rw [← HBB.out]; rfl, bl6⟩

theorem can_more (t : Tm) : ∀ (f : UInt8 → UInt8) (ns ms : List UInt8), t.bnd.length ≤ ns.length → can t f (ns ++ ms) = can t f ns := by
  induction t with
  | nil => intro f ns ms h; rfl
  | snd a b p ih => intro f ns ms h; simp only [can]; rw [ih f ns ms h]
  | tau p ih => intro f ns ms h; simp only [can]; rw [ih f ns ms h]
  | mat a b p ih => intro f ns ms h; simp only [can]; rw [ih f ns ms h]
  | rep p ih => intro f ns ms h; simp only [can]; rw [ih f ns ms h]
  | rcv a x p ih =>
    intro f ns ms h
    cases ns with
    | nil => simp [Tm.bnd] at h
    | cons n ns => simp only [can, List.cons_append, List.headD_cons, List.tail_cons]; rw [ih _ ns ms (by simp [Tm.bnd] at h; omega)]
  | own x p ih =>
    intro f ns ms h
    cases ns with
    | nil => simp [Tm.bnd] at h
    | cons n ns => simp only [can, List.cons_append, List.headD_cons, List.tail_cons]; rw [ih _ ns ms (by simp [Tm.bnd] at h; omega)]
  | sum p q ih ih2 =>
    intro f ns ms h
    simp only [Tm.bnd, List.length_append] at h
    simp only [can]
    rw [ih f ns ms (by omega), List.drop_append_of_le_length (by omega), ih2 f _ ms (by rw [List.length_drop]; omega)]
  | par p q ih ih2 =>
    intro f ns ms h
    simp only [Tm.bnd, List.length_append] at h
    simp only [can]
    rw [ih f ns ms (by omega), List.drop_append_of_le_length (by omega), ih2 f _ ms (by rw [List.length_drop]; omega)]
theorem marks_split : marksN = marks ++ marksN.drop 60 := by unfold marksN marks; decide +kernel
theorem can_marks (t : Tm) (h : t.bnd.length ≤ 60) : can t id marksN = can t id marks := by
  rw [marks_split]; exact can_more t id marks _ (by rw [marks_len]; exact h)
theorem bnd_lt (t : Tm) : t.bnd.length + 1 ≤ t.size := by
  induction t <;> simp_all [Tm.bnd, Tm.size] <;> omega
theorem both (s q : ByteArray) (hm : s.size ≤ 9223372036854775807) (hmq : q.size ≤ 9223372036854775807) : ∃ (n b : Bool), (∀ w, Calls Tryz.prog 15 #[.string s, .string q] w fun e w' => e = .returned (.tuple #[.bool n, .bool b]) ∧ Below w.heap.size w w') ∧ (∀ w, Calls Tryz.prog 11 #[.string s, .string q] w fun e w' => e = .returned (.tuple #[.bool n, .bool b]) ∧ Below w.heap.size w w') := by
  cases hg : good s.data.toList with
  | none =>
    have h1 := fun w => tmGood_none hg w hm
    have h2 := fun w => parse_none hg w hm
    cases hg2 : good q.data.toList with
    | none => exact ⟨_, _, s_n1 s q h1, i_n1 s q h2 (fun w => parse_none hg2 w hmq)⟩
    | some u => exact ⟨_, _, s_n1 s q h1, i_n1b s q _ _ h2 (fun w => parse_some hg2 w hmq)⟩
  | some t =>
    have h1 := fun w => tmGood_some hg w hm
    have h2 := fun w => parse_some hg w hm
    cases hg2 : good q.data.toList with
    | none => exact ⟨_, _, s_n2 s q h1 (fun w => tmGood_none hg2 w hmq), i_n2 s q _ _ h2 (fun w => parse_none hg2 w hmq)⟩
    | some u =>
      have h3 := fun w => tmGood_some hg2 w hmq
      have h4 := fun w => parse_some hg2 w hmq
      obtain ⟨es, hL, hE, h300, h60⟩ := good_S hg
      obtain ⟨eq, hL2, hE2, h3002, h602⟩ := good_S hg2
      have hb1 := bnd_lt t
      have hb2 := bnd_lt u
      have hA := fun w => tmAlpha_any t u [] [] w hE hE2 (by omega) (by omega) rfl (by simp; omega)
      rw [← es, ← eq] at hA
      refine ⟨alp t u [] [], true, s_yes s q _ h1 h3 hA, i_yes s q _ _ _ _ _ _ _ _ _ _ _ ?_ h2 h4 (numbered_any t hL (by omega)) (textOf_any _ (by rw [(can_len t id marksN).1]; omega)) (numbered_any u hL2 (by omega)) (textOf_any _ (by rw [(can_len u id marksN).1]; omega))⟩
      rw [alp_iff t u hL hL2 (by omega) (by omega), ByteArray.toList_eq, ByteArray.toList_eq]
      show ((can t id marksN).pr == (can u id marksN).pr) = _
      rw [can_marks t (by omega), can_marks u (by omega)]
      rw [Bool.eq_iff_iff, beq_iff_eq, decide_eq_true_iff]
end LawAreAlpha
end Go.Proofs.YtmfmagfgcdaeeaaGreat
