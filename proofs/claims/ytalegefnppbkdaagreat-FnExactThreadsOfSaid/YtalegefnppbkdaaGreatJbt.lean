/- Texts of the proof, put together: Oh, Op, Ma, Sz, Kr. No conditions. -/
import Derived.Test.YtalegefnppbkdaaGreatJaj
import Derived.Test.YtalegefnppbkdaaGreatJbo
import Derived.Test.YtalegefnppbkdaaGreatJbr
import Derived.Test.YtalegefnppbkdaaGreatJbs
namespace Go.Proofs.YtalegefnppbkdaaGreat.T1
set_option maxHeartbeats 8000000
open Go.RowKit
set_option maxRecDepth 100000
set_option linter.unusedVariables false
set_option linter.unusedSimpArgs false
theorem bst_fold (l : List Tm) : ∀ b : Tm, (l.map S).foldl bstStep (S b) = S (l.foldl (fun b c => if c.pr < b.pr then c else b) b) := by
 induction l with
 | nil => intro b; rfl
 | cons c l ih =>
  intro b
  simp only [List.map_cons, List.foldl_cons]
  have : bstStep (S b) (S c) = S (if c.pr < b.pr then c else b) := by
   unfold bstStep
   rw [bytesLess_eq, Lib.toList_data, Lib.toList_data, S_list, S_list]
   have hp : (S b).size ≠ 0 := by rw [S_size]; have := pr_pos b; omega
   by_cases h : c.pr < b.pr
   ·rw [if_pos (.inr (by simpa using h)), if_pos h]
   ·rw [if_neg (by simp [hp, h]), if_neg h]
  rw [this, ih]
theorem bst_T (l : List Tm) (h : l ≠ []) : bstB (l.map S) = S (bestT l) := by
 cases l with
 | nil => exact absurd rfl h
 | cons c l =>
  unfold bstB
  simp only [List.map_cons, List.foldl_cons]
  rw [show bstStep ⟨#[]⟩ (S c) = S c from by unfold bstStep; rw [if_pos (.inl rfl)], bst_fold]
  rfl
theorem wrap_S (ls : List UInt8) (t : Tm) : wrapB ls (S t) = S (wrapO ls t) := by
 induction ls with
 | nil => rfl
 | cons a l ih =>
  have e1 : wrapB (a :: l) (S t) = ((⟨#[35]⟩ : ByteArray) ++ B [a] ++ ⟨#[46]⟩) ++ wrapB l (S t) := rfl
  have e2 : wrapO (a :: l) t = .own a (wrapO l t) := rfl
  rw [e1, e2, ih]
  refine data_inj ?_
  simp [S, B, Tm.pr]
def WhP (n : Nat) : Prop := ∀ (t : Tm) (tk : List UInt8) (once br : Bool) (m : Nat) (w : World), t.size ≤ n → t.size ≤ 121 → FitT t → Plain t → t.ok nmE = true → t.pr.length ≤ 700 → Srt tk → MkAt w m br once →
 Calls Tryz.prog 103 #[.pointer (some ⟨m, 0, none⟩), .string (S t), .string (B tk)] w (MkP m br once (S (whl n once t tk).1) (whl n once t tk).2 w)
theorem ltI {a b : UInt8} : Op.bytesLess (B [a]).toList (B [b]).toList = decide (a < b) := by
 rw [bytesLess_eq, Lib.toList_data, Lib.toList_data, B_list, B_list]
 simp [List.cons_lt_cons_iff]
theorem thread_any (n : Nat) (ih : WhP n) (T : Tm) (tk : List UInt8) (once br : Bool) (m : Nat) (w : World) (hn : T.size ≤ n + 1) (h121 : T.size ≤ 121) (hw : Thw T) (hf : FitX T) (hp : Plain T) (ho : T.ok nmE = true) (hl : T.pr.length ≤ 700) (hs : Srt tk) (hm : MkAt w m br once) :
  Calls Tryz.prog 174 #[.pointer (some ⟨m, 0, none⟩), .string (S T), .string (B tk)] w (MkP m br once (S (thS (whl n once) T tk).1) (thS (whl n once) T tk).2 w) := by
 have hK := tmKind_any T ho hl
 have hH := tmHead_any T ho hl
 have hX : (S T).size ≤ 700 := by rw [S_size]; exact hl
 have hTl : T.pr.length = (S T).size := (S_size T).symm
 have hr : ∀ p tk, p.pr.length ≤ 700 → (S (whl n once p tk).1).size ≤ 1000 := fun p tk h => by rw [S_size]; have := whl_len n once p tk; omega
 cases T with
 | nil => exact hw.elim
 | par p q => exact hw.elim
 | own x p => exact hw.elim
 | snd a b p =>
  have ho' : (nmE a = true ∧ nmE b = true) ∧ p.ok nmE = true := by simpa only [Tm.ok, Bool.and_eq_true] using ho
  have hlp : p.pr.length + 4 = (S (Tm.snd a b p)).size := by rw [S_size]; simp [Tm.pr]
  have hsz : p.size + 1 = (Tm.snd a b p).size := rfl
  have hF : Fit (Tm.snd a b p) := by rcases hf with h | ⟨_, _, e, _⟩; exact h; cases e
  have hpp : Plain p := fun z hz => hp z (by rw [mf_snd]; simp only [Tm.bnd]; grind)
  have hfp : FitT p := .inl (fit_sub hF (by simp only [Tm.bdp]; try omega) fun z hz => by rw [mf_snd]; grind)
  have hW := fun w hmk => ih p tk once br m w (by omega) (by omega) hfp hpp ho'.2 (by omega) hs hmk
  have e1 : (S (Tm.snd a b p)).extract 4 (S (Tm.snd a b p)).size = S p := ext_pre (t := .snd a b p) (p := p) (pre := [a, 33, b, 46]) rfl
  have e2 : (S (Tm.snd a b p)).extract 0 4 ++ S (whl n once p tk).1 = S (thS (whl n once) (Tm.snd a b p) tk).1 := by
   refine data_inj ?_
   rw [ByteArray.data_append, Array.toList_append, ByteArray.data_extract, Array.toList_extract, List.extract_eq_take_drop, S_list, S_list, S_list]
   simp [thS, Tm.pr]
  have := th_pre (S (Tm.snd a b p)) (B tk) (S (whl n once p tk).1) 33 (.inl rfl) 4 (by omega) hX (hr p tk (by omega)) m br once (whl n once p tk).2 hK hH (by rw [e1]; exact hW) w hm
  rw [e2] at this
  exact this
 | tau p =>
  have ho' : p.ok nmE = true := by simpa only [Tm.ok] using ho
  have hlp : p.pr.length + 2 = (S (Tm.tau p)).size := by rw [S_size]; simp [Tm.pr]
  have hsz : p.size + 1 = (Tm.tau p).size := rfl
  have hF : Fit (Tm.tau p) := by rcases hf with h | ⟨_, _, e, _⟩; exact h; cases e
  have hpp : Plain p := fun z hz => hp z (by rw [mf_tau]; simp only [Tm.bnd]; exact hz)
  have hfp : FitT p := .inl (fit_sub hF (by simp only [Tm.bdp]; try omega) fun z hz => by rw [mf_tau]; exact hz)
  have hW := fun w hmk => ih p tk once br m w (by omega) (by omega) hfp hpp ho' (by omega) hs hmk
  have e1 : (S (Tm.tau p)).extract 2 (S (Tm.tau p)).size = S p := ext_pre (t := .tau p) (p := p) (pre := [126, 46]) rfl
  have e2 : (S (Tm.tau p)).extract 0 2 ++ S (whl n once p tk).1 = S (thS (whl n once) (Tm.tau p) tk).1 := by
   refine data_inj ?_
   rw [ByteArray.data_append, Array.toList_append, ByteArray.data_extract, Array.toList_extract, List.extract_eq_take_drop, S_list, S_list, S_list]
   simp [thS, Tm.pr]
  have := th_pre (S (Tm.tau p)) (B tk) (S (whl n once p tk).1) 126 (.inr ⟨rfl, rfl⟩) 2 (by omega) hX (hr p tk (by omega)) m br once (whl n once p tk).2 hK hH (by rw [e1]; exact hW) w hm
  rw [e2] at this
  exact this
 | rep p =>
  have ho' : p.ok nmE = true := by simpa only [Tm.ok] using ho
  have hlp : p.pr.length + 1 = (S (Tm.rep p)).size := by rw [S_size]; simp [Tm.pr]
  have hsz : p.size + 1 = (Tm.rep p).size := rfl
  have hF : Fit (Tm.rep p) := by rcases hf with h | ⟨_, _, e, _⟩; exact h; cases e
  have hpp : Plain p := fun z hz => hp z (by rw [mf_rep]; simp only [Tm.bnd]; exact hz)
  have hfp : FitT p := .inl (fit_sub hF (by simp only [Tm.bdp]; try omega) fun z hz => by rw [mf_rep]; exact hz)
  have hW := fun w hmk => ih p tk once br m w (by omega) (by omega) hfp hpp ho' (by omega) hs hmk
  have e1 : (S (Tm.rep p)).extract 1 (S (Tm.rep p)).size = S p := ext_pre (t := .rep p) (p := p) (pre := [42]) rfl
  have e2 : (⟨#[42]⟩ : ByteArray) ++ S (whl n once p tk).1 = S (thS (whl n once) (Tm.rep p) tk).1 := by
   refine data_inj ?_
   simp [thS, Tm.pr, S]
  have := th_rep (S (Tm.rep p)) (B tk) (S (whl n once p tk).1) hX (by omega) (hr p tk (by omega)) m br once (whl n once p tk).2 hK (by rw [e1]; exact hW) w hm
  rw [e2] at this
  exact this
 | mat a b p =>
  have ho' : (nmE a = true ∧ nmE b = true) ∧ p.ok nmE = true := by simpa only [Tm.ok, Bool.and_eq_true] using ho
  have hlp : p.pr.length + 5 = (S (Tm.mat a b p)).size := by rw [S_size]; simp [Tm.pr]
  have hsz : p.size + 1 = (Tm.mat a b p).size := rfl
  have hF : Fit (Tm.mat a b p) := by rcases hf with h | ⟨_, _, e, _⟩; exact h; cases e
  have hpp : Plain p := fun z hz => hp z (by rw [mf_mat]; simp only [Tm.bnd]; grind)
  have hfp : FitT p := .inl (fit_sub hF (by simp only [Tm.bdp]; try omega) fun z hz => by rw [mf_mat]; grind)
  have hW := fun w hmk => ih p tk once br m w (by omega) (by omega) hfp hpp ho'.2 (by omega) hs hmk
  have e1 : (S (Tm.mat a b p)).extract 5 (S (Tm.mat a b p)).size = S p := ext_pre (t := .mat a b p) (p := p) (pre := [91, a, 61, b, 93]) rfl
  have x1 : (S (Tm.mat a b p)).extract 1 2 = B [a] := by
   refine data_inj ?_
   rw [ByteArray.data_extract, Array.toList_extract, List.extract_eq_take_drop, S_list, B_list]; rfl
  have x3 : (S (Tm.mat a b p)).extract 3 4 = B [b] := by
   refine data_inj ?_
   rw [ByteArray.data_extract, Array.toList_extract, List.extract_eq_take_drop, S_list, B_list]; rfl
  have := th_mat (S (Tm.mat a b p)) (B tk) (S (whl n once p tk).1) hX (by omega) (hr p tk (by omega)) m br once (whl n once p tk).2 (decide (b < a)) (by rw [x1, x3, ltI]) hK (by rw [e1]; exact hW) w hm
  rw [x1, x3] at this
  have e2 : (⟨#[91]⟩ : ByteArray) ++ (if decide (b < a) = true then B [b] else B [a]) ++ ⟨#[61]⟩ ++ (if decide (b < a) = true then B [a] else B [b]) ++ ⟨#[93]⟩ ++ S (whl n once p tk).1 = S (thS (whl n once) (Tm.mat a b p) tk).1 := by
   refine data_inj ?_
   by_cases h : b < a <;> simp [thS, Tm.pr, S, B, h]
  rw [e2] at this
  exact this
 | rcv a x p =>
  have ho' : (nmE a = true ∧ nmE x = true) ∧ p.ok nmE = true := by simpa only [Tm.ok, Bool.and_eq_true] using ho
  have hlp : p.pr.length + 4 = (S (Tm.rcv a x p)).size := by rw [S_size]; simp [Tm.pr]
  have hsz : p.size + 1 = (Tm.rcv a x p).size := rfl
  have hF : Fit (Tm.rcv a x p) := by rcases hf with h | ⟨_, _, e, _⟩; exact h; cases e
  have hfp : Fit p := fit_bind (x := x) hF (by simp only [Tm.bdp]; try omega) (fun z hz => by rw [mf_rcv]; grind)
  obtain ⟨y, hy⟩ : ∃ y, y = fresh tk := ⟨_, rfl⟩
  have hyn : nmE y = true := by rw [hy]; exact fresh_nm tk
  have hyg : ¬ great y := by rw [hy]; exact fresh_great tk
  have hpx : ∀ z, z ∈ p.free ∨ z ∈ p.bnd → ¬ great z := fun z hz => by
   by_cases c : z = x
   ·exact hp z (.inr (by simp [Tm.bnd, c]))
   ·exact hp z (by rw [mf_rcv]; simp only [Tm.bnd, List.mem_cons]; grind)
  have hpr : Plain (R p x y) := fun z hz => by
   rcases R_names hfp x y z hz with h | h | h
   ·exact hpx z h
   ·rw [h]; exact hyg
   ·exact h
  have hW := fun w hmk => ih (R p x y) (addL tk y) once br m w (by rw [R_size]; omega) (by rw [R_size]; omega) (.inl (fit_R hfp x y)) hpr (ren_okE _ _ _ _ ho'.2 hyn) (by rw [R_len]; omega) (srt_addL hs y) hmk
  have e1 : (S (Tm.rcv a x p)).extract 4 (S (Tm.rcv a x p)).size = S p := ext_pre (t := .rcv a x p) (p := p) (pre := [a, 63, x, 46]) rfl
  have hx2 : (S (Tm.rcv a x p))[2]'(by omega) = x := byte_of (S_list _) 2 (by omega) (by simp [Tm.pr])
  have hFr : ∀ w, Calls Tryz.prog 138 #[.string (B tk)] w fun e w' => e = .returned (.int .u8 ((y.toNat : Nat) : Int)) ∧ w = w' := fun w => by
   have := tmFresh_exact (B tk) (by rw [B_size]; exact Nat.le_trans (srt_len hs) (by omega)) w
   rw [B_list, ← hy] at this; exact this
  have := th_rcv (S (Tm.rcv a x p)) (B tk) (S (whl n once (R p x y) (addL tk y)).1) (S (R p x y)) (B (addL tk y)) y hX (by omega) (hr _ _ (by rw [R_len]; omega)) m br once (whl n once (R p x y) (addL tk y)).2 hK hFr
   (by rw [e1, hx2]; exact tmRename_any p.size p x y (Nat.le_refl _) ho'.2 (by omega) hyn) (ad_any tk y hs) hW w hm
  have e2 : (S (Tm.rcv a x p)).extract 0 2 ++ one y ++ ⟨#[46]⟩ ++ S (whl n once (R p x y) (addL tk y)).1 = S (thS (whl n once) (Tm.rcv a x p) tk).1 := by
   refine data_inj ?_
   rw [ByteArray.data_append, Array.toList_append, ByteArray.data_append, Array.toList_append, ByteArray.data_append, Array.toList_append, ByteArray.data_extract, Array.toList_extract, List.extract_eq_take_drop, S_list, S_list, S_list]
   simp [thS, Tm.pr, ← hy, one]
  rw [e2] at this
  have e3 : (thS (whl n once) (Tm.rcv a x p) tk).2 = (whl n once (R p x y) (addL tk y)).2 := by simp [thS, ← hy]
  rw [e3]
  exact this
 | sum p q =>
  have hne : Tm.sums (Tm.sum p q).size (Tm.sum p q) ≠ [] := sums_ne _ _ (Nat.le_refl _) (by simp [Tm.dead, hw.1])
  have hpe : (Tm.sum p q).peel = .sum p q := peel_peel _ hw
  have hsub : ∀ r ∈ Tm.sums (Tm.sum p q).size (Tm.sum p q), r.size < (Tm.sum p q).size := by
   intro r hr
   have e : (Tm.sum p q).size = (p.size + q.size) + 1 := rfl
   rw [e] at hr ⊢
   unfold Tm.sums at hr
   rw [hpe] at hr
   simp only [List.mem_append] at hr
   have hq1 := size_pos q
   have hp1 := size_pos p
   rcases hr with h | h
   ·have := (wt_mem h).2; have := (sums_wt (p.size + q.size) p).2; omega
   ·have := (wt_mem h).2; have := (sums_wt (p.size + q.size) q).2; omega
  have hwt := sums_wt (Tm.sum p q).size (Tm.sum p q)
  have hfa := sums_facts (Tm.sum p q).size (Tm.sum p q) ho hf hp
  have hSm := fun w => nfSummands_any (Tm.sum p q).size (Tm.sum p q) (Nat.le_refl _) ho hl w
  obtain ⟨l, hl0⟩ : ∃ l, l = Tm.sums (Tm.sum p q).size (Tm.sum p q) := ⟨_, rfl⟩
  rw [← hl0] at hne hsub hwt hfa hSm
  have hll := wt_len l
  have := th_sum (S (Tm.sum p q)) (B tk) (l.map S) (l.map fun r => S (whl n once r tk).1) (l.map fun r => (whl n once r tk).2) (by simpa using hne) (by simp) (by simp) (by rw [List.length_map]; omega)
   (fun r hr0 => by
    obtain ⟨r', hr', rfl⟩ := List.mem_map.1 hr0
    exact hr r' tk (by have := (wt_mem hr').1; omega)) m br once hK (fun w => (hSm w).mono fun e w' h => h.some_ (by simpa using hne))
   (fun j q' r' bb h1 h2 h3 br w hmk => by
    simp only [List.getElem?_map, Option.map_eq_some_iff] at h1 h2 h3
    obtain ⟨c1, k1, rfl⟩ := h1
    obtain ⟨c2, k2, rfl⟩ := h2
    obtain ⟨c3, k3, rfl⟩ := h3
    rw [k1] at k2 k3
    cases k2; cases k3
    have hc := List.mem_of_getElem? k1
    obtain ⟨f1, f2, f3⟩ := hfa c1 hc
    exact ih c1 tk once br m w (by have := hsub c1 hc; omega) (by have := hsub c1 hc; omega) f2 f3 f1 (by have := (wt_mem hc).1; omega) hs hmk) w hm
  have e1 : (l.map fun r => S (whl n once r tk).1) = (l.map fun r => (whl n once r tk).1).map S := by rw [List.map_map]; rfl
  rw [e1, srtB_S, joinB_sum _ (by
   intro e
   have := congrArg List.length e
   unfold srtT at this
   rw [List.length_mergeSort, List.length_map] at this
   exact hne (List.length_eq_zero_iff.1 this)), List.any_map] at this
  have e2 : thS (whl n once) (Tm.sum p q) tk = (joinR .sum (srtT (l.map fun r => (whl n once r tk).1)), l.any fun r => (whl n once r tk).2) := by rw [hl0]; rfl
  rw [e2]
  exact this
def nmL8 : List UInt8 → List UInt8 → Tm → Tm
 | g :: o, l :: ls, t => nmL8 o ls (R t g l)
 | _, _, t => t
theorem nmG_eq : ∀ (o : List Nat) (ls : List UInt8) (t : Tm), nmL8 (o.map gl) ls t = nmG o ls t
 | [], ls, t => by simp [nmL8, nmG]
 | i :: o, [], t => by simp [nmL8, nmG]
 | i :: o, l :: ls, t => by simp only [List.map_cons, nmL8, nmG]; exact nmG_eq o ls _
theorem nmL8_len : ∀ (o ls : List UInt8) (t : Tm), (nmL8 o ls t).pr.length = t.pr.length
 | [], ls, t => by simp [nmL8]
 | i :: o, [], t => by simp [nmL8]
 | i :: o, l :: ls, t => by simp only [nmL8]; rw [nmL8_len o ls, R_len]
def txO (n : Nat) (once : Bool) (TT : List Tm) (ns al : List UInt8) (o : List UInt8) : Tm := joinR .par (srtT (TT.map fun T => (thS (whl n once) (nmL8 o ns T) al).1))
def fbO (n : Nat) (once : Bool) (TT : List Tm) (ns al : List UInt8) (o : List UInt8) : Bool := TT.any fun T => (thS (whl n once) (nmL8 o ns T) al).2
theorem srt_ne {l : List Tm} (h : l ≠ []) : srtT l ≠ [] := fun e => h (by
 have := congrArg List.length e
 unfold srtT at this
 rw [List.length_mergeSort] at this
 exact List.length_eq_zero_iff.1 this)
theorem txO_len (n : Nat) (once : Bool) (TT : List Tm) (ns al o : List UInt8) (h : TT ≠ []) : (txO n once TT ns al o).pr.length + 3 ≤ wtL TT := by
 unfold txO
 have h1 := joinP_len (srtT (TT.map fun T => (thS (whl n once) (nmL8 o ns T) al).1)) (srt_ne (by simpa using h))
 rw [wt_srt] at h1
 have h2 := wt_le TT (fun T => (thS (whl n once) (nmL8 o ns T) al).1) id (fun T _ => by
  have := thS_len (whl n once) (whl_len n once) (nmL8 o ns T) al
  rw [nmL8_len] at this
  exact this)
 rw [List.map_id] at h2
 omega
theorem named_all (n : Nat) (ih : WhP n) (TT : List Tm) (tk : List UInt8) (mm : Nat) (once br : Bool) (m : Nat) (o' : List Nat) (ho1 : o'.length = mm) (ho2 : o'.Nodup) (ho3 : ∀ i, i ∈ o' ↔ i < mm) (hmm : mm ≤ 5) (hs : Srt tk) (hTT : TT ≠ []) (hlen : TT.length ≤ 100)
  (hf : ∀ T ∈ TT, (FitX T ∧ (Fit T ∨ mm = 0)) ∧ T.size ≤ n + 1 ∧ T.size ≤ 121 ∧ Thw T ∧ (∀ z, z ∈ T.free → ¬ great z ∨ ∃ j, j < mm ∧ z = gl j) ∧ (∀ z ∈ T.bnd, ¬ great z) ∧ T.ok nmE = true ∧ T.pr.length ≤ 700)
  (g cap : Nat) (C : Array Value) (w : World) (hC : ∀ j (h : j < (TT.map S).length), C[j]? = some (.string (TT.map S)[j])) (hg : w.heap[g]? = some (.cells C 9 (0, 0))) (hgm : g ≠ m) (hm : MkAt w m br once) :
  Calls Tryz.prog 140 #[.pointer (some ⟨m, 0, none⟩), .slice (some ⟨g, 0, none⟩) (TT.map S).length cap, .string (B (o'.map gl)), .string (B (nexts tk mm)), .string (B (allT tk mm))] w
   (MkP m br once (S (txO n once TT (nexts tk mm) (allT tk mm) (o'.map gl))) (fbO n once TT (nexts tk mm) (allT tk mm) (o'.map gl)) w) := by
 have hnl := nexts_len mm tk
 have hN := nexts_nmE mm tk
 have hNg := nexts_great mm tk
 have hoi : ∀ i ∈ o', i < 90 := fun i hi => by have := (ho3 i).1 hi; omega
 have hfac : ∀ T ∈ TT, ∀ i, i ≤ mm → FitX (nmG (o'.take i) ((nexts tk mm).take i) T) ∧ (nmG (o'.take i) ((nexts tk mm).take i) T).ok nmE = true ∧ Thw (nmG (o'.take i) ((nexts tk mm).take i) T) := fun T hT i hi => by
  obtain ⟨⟨f1, f2⟩, f3, f4, f5, f6, f7, f8, f9⟩ := hf T hT
  exact nmG_facts _ _ T (by simp; omega) (fun j hj => hoi j (List.mem_of_mem_take hj)) (fun l hl => hN l (List.mem_of_mem_take hl)) (f2.imp id fun h => by
   have : o' = [] := List.length_eq_zero_iff.1 (by omega)
   rw [this, List.take_nil]) f1 f8 f5
 have hB1 : (B (o'.map gl)).size = mm := by rw [B_size, List.length_map, ho1]
 have hB2 : (B (nexts tk mm)).size = mm := by rw [B_size, hnl]
 have hfull : ∀ T, nmG (o'.take mm) ((nexts tk mm).take mm) T = nmL8 (o'.map gl) (nexts tk mm) T := fun T => by
  rw [List.take_of_length_le (by omega), List.take_of_length_le (by omega), nmG_eq]
 have hTl : ∀ (T : Tm) i, (nmG (o'.take i) ((nexts tk mm).take i) T).pr.length = T.pr.length ∧ (nmG (o'.take i) ((nexts tk mm).take i) T).size = T.size := fun T i => nmG_len _ _ T
 have key := nd_any g cap C (TT.map S) (TT.map fun T => S (thS (whl n once) (nmL8 (o'.map gl) (nexts tk mm) T) (allT tk mm)).1) (TT.map fun T => (thS (whl n once) (nmL8 (o'.map gl) (nexts tk mm) T) (allT tk mm)).2)
  (B (o'.map gl)) (B (nexts tk mm)) (B (allT tk mm)) (fun j i => S (nmG (o'.take i) ((nexts tk mm).take i) (TT.getD j .nil))) (by simpa using hTT) (by simp) (by simp) (by simpa using hlen)
  (fun r hr => by
   obtain ⟨T, hT, rfl⟩ := List.mem_map.1 hr
   rw [S_size]
   have := thS_len (whl n once) (whl_len n once) (nmL8 (o'.map gl) (nexts tk mm) T) (allT tk mm)
   rw [nmL8_len] at this
   have := (hf T hT).2.2.2.2.2.2.2
   omega) (by omega) (by omega) m br once hgm
  (fun j q hq => by
   simp only [List.getElem?_map, Option.map_eq_some_iff] at hq
   obtain ⟨T, hT, rfl⟩ := hq
   simp [nmG, List.getD_eq_getElem?_getD, hT])
  hC
  (fun j i h w hj => by
   rw [List.length_map] at hj
   have hT : TT.getD j .nil = TT[j] := by rw [List.getD_eq_getElem?_getD, List.getElem?_eq_getElem hj]; rfl
   have hTm : TT[j] ∈ TT := List.getElem_mem hj
   rw [hT]
   have hi1 : i < o'.length := by omega
   have hi2 : i < (nexts tk mm).length := by omega
   rw [nmG_snoc i o' (nexts tk mm) TT[j] hi1 hi2]
   have b1 : ((B (o'.map gl))[i]'h) = gl o'[i] := by
    have := byte_of (s := B (o'.map gl)) (l := o'.map gl) (B_list _) i h (by rw [List.length_map]; exact hi1)
    rw [this, List.getElem_map]
   have b2 : ((B (nexts tk mm))[i]'(by omega)) = (nexts tk mm)[i] := byte_of (B_list _) i (by omega) hi2
   rw [b1, b2]
   refine tmRename_any _ _ _ _ (Nat.le_refl _) (hfac _ hTm i (by omega)).2.1 ?_ (hN _ (List.getElem_mem hi2)) w
   rw [(hTl _ _).1]; exact (hf _ hTm).2.2.2.2.2.2.2)
  (fun j r bb hj h1 h2 br w hmk => by
   rw [List.length_map] at hj
   have hT : TT.getD j .nil = TT[j] := by rw [List.getD_eq_getElem?_getD, List.getElem?_eq_getElem hj]; rfl
   have hTm : TT[j] ∈ TT := List.getElem_mem hj
   simp only [List.getElem?_map, List.getElem?_eq_getElem hj, Option.map_some, Option.some.injEq] at h1 h2
   subst h1 h2
   rw [hT, hB1]
   obtain ⟨⟨f1, f2⟩, f3, f4, f5, f6, f7, f8, f9⟩ := hf _ hTm
   obtain ⟨k1, k2, k3⟩ := hfac _ hTm mm (Nat.le_refl _)
   have kl := hTl TT[j] mm
   have kp : Plain (nmG (o'.take mm) ((nexts tk mm).take mm) TT[j]) := by
    rw [List.take_of_length_le (by omega), List.take_of_length_le (by omega)]
    exact nmG_plain o' (nexts tk mm) TT[j] (by omega) ho2 hoi hNg (f2.imp id fun h => List.length_eq_zero_iff.1 (by omega)) (fun z hz => (f6 z hz).imp id fun ⟨j, hj, e⟩ => ⟨j, (ho3 j).2 hj, e⟩) f7
   rw [hfull] at k1 k2 k3 kl kp ⊢
   exact thread_any n ih _ (allT tk mm) once br m w (by omega) (by omega) k3 k1 kp k2 (by omega) (allT_srt mm tk hs) hmk)
  w hg hm
 have e1 : (TT.map fun T => S (thS (whl n once) (nmL8 (o'.map gl) (nexts tk mm) T) (allT tk mm)).1) = (TT.map fun T => (thS (whl n once) (nmL8 (o'.map gl) (nexts tk mm) T) (allT tk mm)).1).map S := by rw [List.map_map]; rfl
 rw [e1, srtB_S, joinB_par _ (srt_ne (by simpa using hTT)), List.any_map] at key
 exact key
theorem whole_any (n : Nat) : WhP n := by
 induction n with
 | zero => intro t tk once br m w h; have := size_pos t; omega
 | succ n ih =>
  intro t tk once br m w hn h121 hf hp ho hl hs hm
  obtain ⟨g89, gfa⟩ := gath_facts h121 hf hp
  have gok := gath_okE t.size 0 t ho g89
  have gw := gath_wt t.size 0 t
  have gu := gath_used t.size t 0 (fun z => ¬ great z) (Nat.le_refl _) hf g89 (fun z h => h) (fun i _ hi h => h (gl_great hi)) hp
  have HG := fun b w lv => gather_any t.size t 0 b w.heap.size (fun z => ¬ great z) [] (.slice none 0 0) w (Nat.le_refl _) hf ho hl g89 (fun z h => h) (fun i _ hi h => h (gl_great hi)) hp (by simp; omega) lv (World.ownsRow_nil _ _ _ _) (Nat.le_refl _)
  unfold whl
  obtain ⟨mm, hmm⟩ : ∃ mm, mm = (gath t.size 0 t).2 := ⟨_, rfl⟩
  obtain ⟨TT, hTTe⟩ : ∃ TT, TT = (gath t.size 0 t).1 := ⟨_, rfl⟩
  rw [← hmm] at g89 gfa gw gu HG ⊢
  rw [← hTTe] at gfa gok gw gu HG ⊢
  clear hmm hTTe
  have hwm := fun T (h : T ∈ TT) => wt_mem h
  have hll := wt_len TT
  have hgl : (glist mm).length = mm := by simp [glist]
  have hU : ∀ j (h : j < (TT.map S).length) w, Calls Tryz.prog 104 #[.string (TT.map S)[j]] w fun e w' => e = .returned (.string (B (TT.getD j .nil).usd)) ∧ Below w.heap.size w w' := fun j h w => by
   have hj : j < TT.length := by simpa using h
   have := nfUsed_any TT[j].size TT[j] (Nat.le_refl _) (gok _ (List.getElem_mem hj)) (by have := (hwm _ (List.getElem_mem hj)).1; omega) w
   have e : (TT.map S)[j] = S TT[j] := List.getElem_map _
   rw [← e] at this
   rw [List.getD_eq_getElem?_getD, List.getElem?_eq_getElem hj]
   exact this
  have hord : ordsL mm (glist mm) = (ords mm).map (·.map gl) := ordsL_mapF gl mm (List.range mm)
  obtain ⟨O, hO⟩ : ∃ O, O = (if once = true then (ords mm).take 1 else ords mm) := ⟨_, rfl⟩
  have hOO : (if once = true then (ordsL (glist mm).length (glist mm)).take 1 else ordsL (glist mm).length (glist mm)) = O.map (·.map gl) := by
   rw [hgl, hord, hO]; cases once <;> simp [List.map_take]
  rw [← hO]
  have hOm : mm ≤ 5 → ∀ o ∈ O, o.length = mm ∧ o.Nodup ∧ ∀ i, i ∈ o ↔ i < mm := fun h o h1 => by
   refine ords_ok mm h o ?_
   rw [hO] at h1
   split at h1
   ·exact List.mem_of_mem_take h1
   ·exact h1
  have hOn : mm ≤ 5 → O ≠ [] ∧ O.length ≤ 120 := fun h => by
   have h1 := ords_ne mm h
   have h2 := (ordsL_facts mm (List.range mm) (by simp)).1
   have h3 : ∀ k, k ≤ 5 → fct k ≤ 120 := by decide
   rw [List.length_range] at h2
   have h4 := h3 mm h
   rw [hO]
   unfold ords at h1 ⊢
   cases once
   ·exact ⟨by simpa using h1, by simp only [Bool.false_eq_true, if_false]; omega⟩
   ·refine ⟨by simpa using h1, ?_⟩
    simp only [if_true, List.length_take]; omega
  refine wh_all (S t) tk (glist mm) (TT.map S) (fun j => (TT.getD j .nil).usd) hs (fun j => srt_usd _) (by rw [List.length_map]; omega) (by omega) (fun hne z hz => ?_) (O.map (·.map gl)) m br once hOO.symm (fun h => ?_)
   (fun o => S (txO n once TT (nexts tk mm) (allT tk mm) o)) (fun o => fbO n once TT (nexts tk mm) (allT tk mm) o) (fun o ho => ?_) _ _ (fun h => ?_) (fun h h5 => ?_) (fun h h5 => ?_) HG ?_ (fun hne h5 o ho br g cap C w hC hg hgm hmk => ?_) w hm
  ·rw [usU_mem]
   obtain ⟨i, hi, rfl⟩ := List.mem_map.1 hz
   obtain ⟨T, hT, hu⟩ := gu _ (.inr ⟨i, Nat.zero_le _, List.mem_range.1 hi, rfl⟩)
   obtain ⟨k, hk, e⟩ := List.mem_iff_getElem.1 hT
   refine ⟨k, by simpa using hk, ?_⟩
   rw [List.getD_eq_getElem?_getD, List.getElem?_eq_getElem hk, Option.getD_some, e]
   exact hu
  ·rw [hgl] at h
   exact ⟨by rw [List.length_map]; exact (hOn h).2, by simpa using (hOn h).1⟩
  ·rw [S_size]
   refine ⟨pr_pos _, ?_⟩
   by_cases hTT : TT = []
   ·subst hTT; simp [txO, srtT, joinR, Tm.pr]
   ·have := txO_len n once TT (nexts tk mm) (allT tk mm) o hTT; omega
  ·have : TT = [] := by simpa using h
   rw [this]
   exact ⟨rfl, rfl⟩
  ·have h1 : TT.isEmpty = false := by simpa using h
   rw [hgl] at h5
   rw [h1]
   simp only [Bool.false_eq_true, if_false]
   rw [if_pos h5]
   exact ⟨rfl, rfl⟩
  ·have h1 : TT.isEmpty = false := by simpa using h
   rw [hgl] at h5 ⊢
   rw [h1]
   simp only [Bool.false_eq_true, if_false]
   rw [if_neg (by omega)]
   have e1 : (O.map (·.map gl)).map (fun o => S (txO n once TT (nexts tk mm) (allT tk mm) o)) = (O.map fun o => joinR .par (srtT (TT.map fun T => (thS (whl n once) (nmG o (nexts tk mm) T) (allT tk mm)).1))).map S := by
    rw [List.map_map, List.map_map]
    refine List.map_congr_left fun o _ => ?_
    simp only [Function.comp, txO, nmG_eq]
   rw [e1, bst_T _ (by simpa using (hOn h5).1), wrap_S]
   refine ⟨rfl, ?_⟩
   rw [List.any_map]
   show (O.any fun o => TT.any fun T => (thS (whl n once) (nmG o (nexts tk mm) T) (allT tk mm)).2) = _
   congr 1
   funext o
   simp only [Function.comp, fbO, nmG_eq]
  ·exact hU
  ·rw [hgl] at h5 ⊢
   obtain ⟨o', ho', rfl⟩ := List.mem_map.1 ho
   obtain ⟨a1, a2, a3⟩ := hOm h5 o' ho'
   refine named_all n ih TT tk mm once br m o' a1 a2 a3 h5 hs (by simpa using hne) (by omega) (fun T hT => ?_) g cap C w hC hg hgm hmk
   obtain ⟨b1, b2, b3, b4, b5, b6⟩ := gfa T hT
   exact ⟨⟨b1, b2⟩, by omega, by omega, b4, b5, b6, gok T hT, by have := (hwm T hT).1; omega⟩
theorem count_take (l : List UInt8) (i : Nat) (h : i < l.length) : (l.take (i + 1)).count 35 = (l.take i).count 35 + if l[i] = 35 then 1 else 0 := by
 rw [List.take_succ_eq_append_getElem h, List.count_append]
 congr 1
 by_cases c : l[i] = 35 <;> simp [c]
def TwoS (R : ByteArray) (b : Bool) (w : World) (e : Ending) (w' : World) : Prop := e = .returned (.tuple #[.string R, .bool b]) ∧ Below w.heap.size w w'
theorem nfOf_walk (X U R1 R2 : ByteArray) (b1 b2 : Bool) (hs1 : R1.size ≤ 1000) (V : ByteArray) (z : Bool) (hv1 : (b1 = true ∨ 8 < R1.data.toList.count 35) → V = ⟨#[]⟩ ∧ z = false) (hv2 : ¬ (b1 = true ∨ 8 < R1.data.toList.count 35) → V = R2 ∧ z = !b2)
  (HU : ∀ w, Calls Tryz.prog 104 #[.string X] w fun e w' => e = .returned (.string U) ∧ Below w.heap.size w w')
  (HW1 : ∀ m w, MkAt w m false true → Calls Tryz.prog 103 #[.pointer (some ⟨m, 0, none⟩), .string X, .string U] w (MkP m false true R1 b1 w))
  (HW2 : ∀ m w, MkAt w m false false → Calls Tryz.prog 103 #[.pointer (some ⟨m, 0, none⟩), .string X, .string U] w (MkP m false false R2 b2 w)) (w : World) :
  Calls Tryz.prog 81 #[.string X] w (TwoS V z w) := by
 have HU' := Lib.hid HU
 have HW1' := Lib.hid HW1
 have HW2' := Lib.hid HW2
 have HV1 := Lib.hid hv1
 have HV2 := Lib.hid hv2
 clear HU HW1 HW2 hv1 hv2
 go_enter Tryz.func81, Tryz.ntmps81
 go_wp2_with fail
 refine (HU'.out _).mono ?_
 rintro e w1 ⟨rfl, bl1⟩
 have hmk : MkAt w1 w.heap.size false true := (bl1.block w.heap.size (by simp)).trans (new_block0 w _)
 have HM := Lib.hid hmk
 have B1 := Lib.hid (below_trans ((Below.refl w.heap.size w).alloc (Nat.le_refl _) _) bl1 (by simp))
 clear bl1 hmk
 go_wp2_with fail
 refine (HW1'.out _ _ HM.out).mono ?_
 rintro e w2 ⟨rfl, m2, o2⟩
 have B2 : Hid (Below w.heap.size w w2) := ⟨o2.os.trans B1.out.os, o2.tape.trans B1.out.tape, o2.output.trans B1.out.output, Nat.le_trans B1.out.size o2.size, fun k hk => (o2.block k (by have := B1.out.size; omega) (by omega)).trans (B1.out.block k hk)⟩
 obtain ⟨cap0, W0, hcv, bW, hr⟩ := conv_head R1 _ R1.size rfl (by simp) w2
 have M2 := Lib.hid (m2.below bW)
 have B3 := Lib.hid (B2.out.trans (bW.mono B2.out.size))
 have HR := Lib.hid hr
 obtain ⟨g, hg⟩ : ∃ g, g = w2.heap.size := ⟨_, rfl⟩
 rw [← hg] at hcv HR
 obtain ⟨l, hl⟩ : ∃ l, l = R1.data.toList := ⟨_, rfl⟩
 have hll : Hid (l.length = R1.size) := by show _ = _; rw [hl]; simp
 rw [← hl] at HR HV1 HV2
 have hml := M2.out.lt
 clear m2 o2 bW hr B2 HM hg hl
 go_wp2_with fail
 clear hcv
 go_loop [5, 19] (fun s c => ∃ i : Nat, i ≤ R1.size ∧ c = .int .i64 (i : Int) ∧ s = .int .i64 (((l.take i).count 35 : Nat) : Int)) (fun _ c => R1.size - (intOf c).toNat)
 case atStart => exact ⟨0, Nat.zero_le _, rfl, by simp⟩
 case round =>
  obtain ⟨i, hi, rfl, rfl⟩ := hrel
  have hct : (l.take i).count 35 ≤ 1000 := Nat.le_trans List.count_le_length (by rw [List.length_take]; omega)
  by_cases hlt : i < R1.size
  ·have hil : i < l.length := by have := hll.out; omega
   have hcs := Lib.hid (count_take l i hil)
   have hc := HR.out.cell i hil
   obtain ⟨k, hk⟩ : ∃ k, k = l[i] := ⟨_, rfl⟩
   rw [← hk] at hcs hc
   obtain ⟨K, hK⟩ : ∃ K, K = (l.take i).count 35 := ⟨_, rfl⟩
   rw [← hK] at hct hcs ⊢
   clear hk hK
   by_cases h35 : k = 35
   ·have t1 : ((k.toNat : Int) == 35) = true := by rw [h35]; rfl
    have H35 := Lib.hid h35
    clear h35
    go_wp2_with fail
    go_round
    case rel => exact ⟨i + 1, by omega, by push_cast; rfl, by rw [hcs.out, if_pos H35.out]; push_cast; rfl⟩
    case measure => simp [intOf] <;> omega
   ·have t1 : ((k.toNat : Int) == 35) = false := by
     rw [beq_eq_false_iff_ne]
     intro e
     exact h35 (by apply UInt8.toNat_inj.1; show k.toNat = 35; omega)
    have H35 := Lib.hid h35
    clear h35
    go_wp2_with fail
    go_round
    case rel => exact ⟨i + 1, by omega, by push_cast; rfl, by rw [hcs.out, if_neg H35.out]; push_cast; rfl⟩
    case measure => simp [intOf] <;> omega
  ·obtain rfl : i = R1.size := by omega
   rw [List.take_of_length_le (by have := hll.out; omega)] at hct ⊢
   obtain ⟨K, hK⟩ : ∃ K, K = l.count 35 := ⟨_, rfl⟩
   rw [← hK] at hct HV1 HV2 ⊢
   have c0 := M2.out.c0
   clear hK HR
   simp only [Bool.false_or] at c0
   cases hb1 : b1
   ·rw [hb1] at c0 HV1 HV2
    by_cases h8 : 8 < K
    ·have q8 : (8 : Int) < (K : Int) := by omega
     go_wp2_with fail
     go_ret2
     have := HV1.out (.inr h8)
     exact ⟨by rw [this.1, this.2]; rfl, B3.out⟩
    ·have q8 : ¬ (8 : Int) < (K : Int) := by omega
     have hv := Lib.hid (HV2.out (by simp [h8]))
     go_wp2_with fail
     refine (HU'.out _).mono ?_
     rintro e w3 ⟨rfl, bl3⟩
     have hmk : MkAt w3 W0.heap.size false false := (bl3.block W0.heap.size (by simp)).trans (new_block0 W0 _)
     have HM3 := Lib.hid hmk
     have hz3 : W0.heap.size < w3.heap.size := by have := bl3.size; simp at this; omega
     have B4 := Lib.hid (B3.out.trans (below_trans ((Below.refl W0.heap.size W0).alloc (Nat.le_refl _) _) bl3 (by simp) |>.mono B3.out.size))
     clear bl3 hmk c0
     go_wp2_with fail
     refine (HW2'.out _ _ HM3.out).mono ?_
     rintro e w4 ⟨rfl, m4, o4⟩
     have hws := B3.out.size
     have B5 : Hid (Below w.heap.size w w4) := ⟨o4.os.trans B4.out.os, o4.tape.trans B4.out.tape, o4.output.trans B4.out.output, Nat.le_trans B4.out.size o4.size, fun k hk => (o4.block k (by omega) (by omega)).trans (B4.out.block k hk)⟩
     have c4 := m4.c0
     simp only [Bool.false_or] at c4
     clear m4 o4
     go_wp2_with fail
     go_quiet (fail)
     go_wp2_with fail
     go_ret2
     exact ⟨by rw [hv.out.1, hv.out.2]; rfl, by first | exact B5.out | exact below_drewN' B5.out _⟩
   ·rw [hb1] at c0 HV1 HV2
    go_wp2_with fail
    go_ret2
    have := HV1.out (.inl (by trivial))
    exact ⟨by rw [this.1, this.2]; rfl, B3.out⟩
theorem nfIf_walk (X V : ByteArray) (z : Bool) (R : ByteArray) (y : Bool) (hz : z = false → R = ⟨#[]⟩ ∧ y = false) (HI : z = true → ∀ w, Calls Tryz.prog 82 #[.string V] w (TwoS R y w))
  (HO : ∀ w, Calls Tryz.prog 81 #[.string X] w (TwoS V z w)) (w : World) :
  Calls Tryz.prog 49 #[.string X] w (TwoS R y w) := by
 have HO' := Lib.hid HO
 have HI' := Lib.hid HI
 have HZ := Lib.hid hz
 clear HO HI hz
 go_enter Tryz.func49, Tryz.ntmps49
 go_wp2_with fail
 refine (HO'.out _).mono ?_
 rintro e w1 ⟨rfl, b1⟩
 have B1 := Lib.hid b1
 clear b1
 cases z
 ·go_wp2_with fail
  go_ret2
  exact ⟨by rw [(HZ.out (by trivial)).1, (HZ.out (by trivial)).2]; rfl, B1.out⟩
 ·have HI2 := Lib.hid (HI'.out (by trivial))
  go_wp2_with fail
  refine (HI2.out _).mono ?_
  rintro e w2 ⟨rfl, b2⟩
  have B2 := Lib.hid (below_trans B1.out b2 B1.out.size)
  clear b2
  go_wp2_with fail
  go_ret2
  exact ⟨rfl, B2.out⟩
def optS : Option Tm → ByteArray
 | some r => S r
 | none => ⟨#[]⟩
theorem nfIf_any (t : Tm) (hs : t.size ≤ 121) (hf : FitT t) (ho : t.ok nmL = true) (hl : t.pr.length ≤ 700) (w : World) :
  Calls Tryz.prog 49 #[.string (S t)] w (TwoS (optS (nfS t)) (nfS t).isSome w) := by
 have hoE := ok_LE t ho
 have hp : Plain t := fun z hz => letter_great (hz.elim ((okL_names ho).1 z) ((okL_names ho).2 z))
 have hU := nfUsed_any t.size t (Nat.le_refl _) hoE hl
 have hW := fun once m w hmk => whole_any t.size t t.usd once false m w (Nat.le_refl _) hs hf hp hoE hl (srt_usd t) hmk
 have hL := fun once => whl_len t.size once t t.usd
 have hO := fun once => whl_okE t.size once t t.usd (Nat.le_refl _) hs hf hp hoE
 have hx : ∀ r : Tm, (S r).data.toList.count 35 = r.pr.count 35 := fun r => by rw [S_list]
 unfold nfS
 by_cases h1 : (whl t.size true t t.usd).2 = true ∨ 8 < (whl t.size true t t.usd).1.pr.count 35
 ·rw [if_pos h1]
  refine nfIf_walk (S t) ⟨#[]⟩ false _ _ (fun _ => ⟨rfl, rfl⟩) (fun h => by cases h) (fun w => nfOf_walk (S t) (B t.usd) (S (whl t.size true t t.usd).1) (S (whl t.size false t t.usd).1) (whl t.size true t t.usd).2 (whl t.size false t t.usd).2 (by rw [S_size]; have := hL true; omega) _ _ (fun _ => ⟨rfl, rfl⟩) (fun h => ?_) hU (hW true) (hW false) w) w
  rw [hx] at h
  exact absurd h1 h
 ·rw [if_neg h1]
  cases h2 : (whl t.size false t t.usd).2 with
  | true =>
   rw [if_pos rfl]
   refine nfIf_walk (S t) (S (whl t.size false t t.usd).1) false _ _ (fun _ => ⟨rfl, rfl⟩) (fun h => by cases h) (fun w => nfOf_walk (S t) (B t.usd) (S (whl t.size true t t.usd).1) (S (whl t.size false t t.usd).1) (whl t.size true t t.usd).2 (whl t.size false t t.usd).2 (by rw [S_size]; have := hL true; omega) _ _ (fun h => ?_) (fun h => ⟨rfl, by rw [h2]; rfl⟩) hU (hW true) (hW false) w) w
   rw [hx] at h
   exact absurd h h1
  | false =>
   rw [if_neg (by simp)]
   refine nfIf_walk (S t) (S (whl t.size false t t.usd).1) true _ _ (fun h => by cases h) (fun _ w => ?_) (fun w => nfOf_walk (S t) (B t.usd) (S (whl t.size true t t.usd).1) (S (whl t.size false t t.usd).1) (whl t.size true t t.usd).2 (whl t.size false t t.usd).2 (by rw [S_size]; have := hL true; omega) _ _ (fun h => ?_) (fun h => ⟨rfl, by rw [h2]; rfl⟩) hU (hW true) (hW false) w) w
   ·have := tmIf_any (whl t.size false t t.usd).1 (hO false) (by have := hL false; omega) w
    by_cases h : okT (whl t.size false t t.usd).1 = true
    ·rw [if_pos h] at this; rw [if_pos ((okT_iff _).1 h)]; exact this
    ·rw [if_neg h] at this; rw [if_neg (fun h' => h ((okT_iff _).2 h'))]; exact this
   ·rw [hx] at h
    exact absurd h h1
def Thd (T : Tm) : Prop := (∀ p q, T ≠ .par p q) ∧ (∀ x p, T ≠ .own x p) ∧ T ≠ .nil
def Tm.fro : Tm → List UInt8 × Tm
 | .own x p => (x :: p.fro.1, p.fro.2)
 | t => ([], t)
def Tm.pars : Tm → List Tm
 | .par p q => p :: q.pars
 | t => [t]
def Tm.sumR : Tm → List Tm
 | .sum p q => p :: q.sumR
 | t => [t]
def Tm.thrs (t : Tm) : List Tm := match t.fro.2 with
 | .nil => []
 | u => u.pars
theorem thd_lvl {T : Tm} (h : Thd T) : lvl T = ([], [T]) := by
 cases T with
 | nil => exact absurd rfl h.2.2
 | par p q => exact absurd rfl (h.1 p q)
 | own x p => exact absurd rfl (h.2.1 x p)
 | _ => rfl
theorem thd_fro {T : Tm} (h : Thd T) : T.fro = ([], T) := by
 cases T with
 | own x p => exact absurd rfl (h.2.1 x p)
 | _ => rfl
theorem thd_pars {T : Tm} (h : Thd T) : T.pars = [T] := by
 cases T with
 | par p q => exact absurd rfl (h.1 p q)
 | _ => rfl
theorem lvl_join : ∀ l : List Tm, (∀ T ∈ l, Thd T) → lvl (joinR .par l) = ([], l)
 | [], _ => rfl
 | [a], h => thd_lvl (h a (by simp))
 | a :: b :: l, h => by
  have h1 := thd_lvl (h a (by simp))
  have h2 := lvl_join (b :: l) fun T hT => h T (by simp [hT])
  show ((lvl a).1 ++ (lvl (joinR .par (b :: l))).1, (lvl a).2 ++ (lvl (joinR .par (b :: l))).2) = _
  rw [h1, h2]; rfl
theorem lvl_wrap (t : Tm) : ∀ ls : List UInt8, lvl (wrapO ls t) = (ls ++ (lvl t).1, (lvl t).2)
 | [] => rfl
 | a :: ls => by
  have := lvl_wrap t ls
  show (a :: (lvl (wrapO ls t)).1, (lvl (wrapO ls t)).2) = _
  rw [this]; rfl
theorem fro_join (l : List Tm) (h : ∀ T ∈ l, Thd T) : (joinR .par l).fro = ([], joinR .par l) := by
 cases l with
 | nil => rfl
 | cons a l =>
  cases l with
  | nil => exact thd_fro (h a (by simp))
  | cons b l => rfl
theorem fro_wrap (t : Tm) : ∀ ls : List UInt8, (wrapO ls t).fro = (ls ++ t.fro.1, t.fro.2)
 | [] => rfl
 | a :: ls => by
  have := fro_wrap t ls
  show (a :: (wrapO ls t).fro.1, (wrapO ls t).fro.2) = _
  rw [this]; rfl
theorem pars_join : ∀ l : List Tm, l ≠ [] → (∀ T ∈ l, Thd T) → (joinR .par l).pars = l
 | [], h, _ => absurd rfl h
 | [a], _, h => thd_pars (h a (by simp))
 | a :: b :: l, _, h => by
  have := pars_join (b :: l) (by simp) fun T hT => h T (by simp [hT])
  show a :: (joinR .par (b :: l)).pars = _
  rw [this]
theorem join_notnil (l : List Tm) (hl : l ≠ []) (h : ∀ T ∈ l, Thd T) : joinR .par l ≠ .nil := by
 cases l with
 | nil => exact absurd rfl hl
 | cons a l =>
  cases l with
  | nil => exact (h a (by simp)).2.2
  | cons b l => intro e; cases e
theorem thrs_wrap (ls : List UInt8) (l : List Tm) (h : ∀ T ∈ l, Thd T) : (wrapO ls (joinR .par l)).thrs = l := by
 unfold Tm.thrs
 rw [fro_wrap, fro_join l h]
 by_cases hl : l = []
 ·subst hl; rfl
 ·have h1 := join_notnil l hl h
  have h2 := pars_join l hl h
  generalize joinR .par l = u at *
  cases u with
  | nil => exact absurd rfl h1
  | _ => exact h2
def NotS (t : Tm) : Prop := ∀ p q, t ≠ .sum p q
theorem nots_smds {t : Tm} (h : NotS t) : smds t = [t] := by
 cases t with
 | sum p q => exact absurd rfl (h p q)
 | _ => rfl
theorem nots_sumR {t : Tm} (h : NotS t) : t.sumR = [t] := by
 cases t with
 | sum p q => exact absurd rfl (h p q)
 | _ => rfl
theorem smds_join : ∀ l : List Tm, l ≠ [] → (∀ t ∈ l, NotS t) → smds (joinR .sum l) = l ∧ (joinR .sum l).sumR = l
 | [], h, _ => absurd rfl h
 | [a], _, h => ⟨nots_smds (h a (by simp)), nots_sumR (h a (by simp))⟩
 | a :: b :: l, _, h => by
  obtain ⟨h1, h2⟩ := smds_join (b :: l) (by simp) fun T hT => h T (by simp [hT])
  constructor
  ·show smds a ++ smds (joinR .sum (b :: l)) = _
   rw [nots_smds (h a (by simp)), h1]; rfl
  ·show a :: (joinR .sum (b :: l)).sumR = _
   rw [h2]
def Flat (T : Tm) : Prop := smds T = T.sumR
theorem smds_nots (t : Tm) : ∀ q ∈ smds t, NotS q := by
 induction t with
 | sum p q ih ih2 => intro r hr; simp only [smds, List.mem_append] at hr; exact hr.elim (ih r) (ih2 r)
 | _ => intro r hr; simp only [smds, List.mem_singleton] at hr; subst hr; intro a b e; cases e
def Neat : Tm → Prop
 | .nil => True
 | .snd _ _ p => Neat p
 | .rcv _ _ p => Neat p
 | .tau p => Neat p
 | .sum p q => Neat p ∧ Neat q
 | .par p q => (p ≠ .nil ∧ q ≠ .nil) ∧ Neat p ∧ Neat q
 | .own _ p => p ≠ .nil ∧ Neat p
 | .mat _ _ p => Neat p
 | .rep p => Neat p
theorem neat_clean (t : Tm) (h : Neat t) : Clean t := by
 induction t with
 | nil => trivial
 | snd a b p ih => exact ih h
 | rcv a x p ih => exact ih h
 | tau p ih => exact ih h
 | sum p q ih ih2 => exact ⟨ih h.1, ih2 h.2⟩
 | par p q ih ih2 => exact ⟨h.1.1, ih h.2.1, ih2 h.2.2⟩
 | own x p ih => exact ⟨h.1, ih h.2⟩
 | mat a b p ih => exact ih h
 | rep p ih => exact ih h
theorem neat_sim (t : Tm) : Neat t.sim := by
 induction t with
 | nil => trivial
 | snd a b p ih => exact ih
 | rcv a x p ih => exact ih
 | tau p ih => exact ih
 | sum p q ih ih2 =>
  unfold Tm.sim
  split
  ·exact ih2
  ·split
   ·exact ih
   ·exact ⟨ih, ih2⟩
 | par p q ih ih2 =>
  unfold Tm.sim
  split
  ·exact ih2
  ·split
   ·exact ih
   ·rename_i h1 h2; exact ⟨⟨h1, h2⟩, ih, ih2⟩
 | own x p ih =>
  unfold Tm.sim
  split
  ·rename_i h; exact ⟨fun e => by rw [e] at h; simp [Tm.free] at h, ih⟩
  ·exact ih
 | mat a b p ih => unfold Tm.sim; split <;> exact ih
 | rep p ih => unfold Tm.sim; split <;> exact ih
theorem neat_can (s : Tm) : ∀ (f : UInt8 → UInt8) (ns : List UInt8), Neat s → Neat (can s f ns) := by
 induction s with
 | nil => intro f ns h; trivial
 | snd a b p ih => intro f ns h; exact ih _ _ h
 | rcv a x p ih => intro f ns h; exact ih _ _ h
 | tau p ih => intro f ns h; exact ih _ _ h
 | mat a b p ih => intro f ns h; exact ih _ _ h
 | rep p ih => intro f ns h; exact ih _ _ h
 | sum p q ih ih2 => intro f ns h; exact ⟨ih _ _ h.1, ih2 _ _ h.2⟩
 | par p q ih ih2 => intro f ns h; exact ⟨⟨fun e => h.1.1 (can_nil e), fun e => h.1.2 (can_nil e)⟩, ih _ _ h.2.1, ih2 _ _ h.2.2⟩
 | own x p ih => intro f ns h; exact ⟨fun e => h.1 (can_nil e), ih _ _ h.2⟩
theorem neat_thr (s : Tm) (h : Neat s) : ∀ T ∈ (lvl s).2, Neat T := by
 induction s with
 | nil => intro T hT; simp [lvl] at hT
 | own x p ih => exact ih h.2
 | par p q ih ih2 =>
  intro T hT
  simp only [lvl, List.mem_append] at hT
  exact hT.elim (ih h.2.1 T) (ih2 h.2.2 T)
 | _ => intro T hT; simp only [lvl, List.mem_singleton] at hT; rw [hT]; exact h
theorem neat_smds (s : Tm) (h : Neat s) : ∀ q ∈ smds s, Neat q := by
 induction s with
 | sum p q ih ih2 =>
  intro T hT
  simp only [smds, List.mem_append] at hT
  exact hT.elim (ih h.1 T) (ih2 h.2 T)
 | _ => intro T hT; simp only [smds, List.mem_singleton] at hT; rw [hT]; exact h
theorem srt_one (x : Tm) : srtT [x] = [x] := by unfold srtT; exact List.mergeSort_singleton _
theorem join_two (c : Tm → Tm → Tm) (l : List Tm) (h : 2 ≤ l.length) : ∃ a b, joinR c l = c a b := by
 match l with
 | [] => simp at h
 | [a] => simp at h
 | a :: b :: l => exact ⟨_, _, rfl⟩
theorem levI_one (n : Nat) (L : UInt8 → UInt8) (left : List UInt8) (s x : Tm) (h0 : (lvl s).1 = []) (h1 : (lvl s).2 = [s]) (hx : ∀ o, thI (levI n) (updL L o left) (left.drop (lvl s).1.length) s = x → True) :
  ∃ o, levI (n + 1) L left s = thI (levI n) (updL L o left) (left.drop (lvl s).1.length) s := by
 rw [levI_cand]
 have hne : (visG ltU 200 (lvl s).1).map (candI n L left s) ≠ [] := fun e => visG_ne ltU 199 _ (List.map_eq_nil_iff.1 e)
 obtain ⟨o, _, e⟩ := List.mem_map.1 (bestL_mem _ hne)
 refine ⟨o, ?_⟩
 rw [← e]
 unfold candI
 rw [h1, h0]
 simp only [List.length_nil, List.take_zero, List.map_cons, List.map_nil]
 rw [srt_one]; rfl
theorem levI_nots (n : Nat) (L : UInt8 → UInt8) (left : List UInt8) (s : Tm) (hc : Neat s) (hf : fl s left.length = true) (hs : NotS s) (hn : s.size ≤ n) : NotS (levI n L left s) := by
 cases n with
 | zero => have := size_pos s; omega
 | succ n =>
  obtain ⟨f1, f2, f3⟩ := fl_inv hf
  have hfr : (lvl s).1 ≠ [] → NotS (levI (n + 1) L left s) := by
   intro h
   rw [levI_cand]
   cases hh : left.take (lvl s).1.length with
   | nil =>
    have := congrArg List.length hh
    rw [List.length_take, List.length_nil] at this
    have h0 : 0 < (lvl s).1.length := List.length_pos_iff.2 h
    omega
   | cons a l => intro p q e; cases e
  cases s with
  | nil => rw [levI_nil]; intro p q e; cases e
  | sum p q => exact absurd rfl (hs p q)
  | own x p => exact hfr (by simp [lvl])
  | snd a b p => obtain ⟨o, e⟩ := levI_one n L left (.snd a b p) .nil rfl rfl (fun _ _ => trivial); rw [e]; intro p q e; cases e
  | rcv a x p => obtain ⟨o, e⟩ := levI_one n L left (.rcv a x p) .nil rfl rfl (fun _ _ => trivial); rw [e]; intro p q e; cases e
  | tau p => obtain ⟨o, e⟩ := levI_one n L left (.tau p) .nil rfl rfl (fun _ _ => trivial); rw [e]; intro p q e; cases e
  | rep p => obtain ⟨o, e⟩ := levI_one n L left (.rep p) .nil rfl rfl (fun _ _ => trivial); rw [e]; intro p q e; cases e
  | mat a b p =>
   obtain ⟨o, e⟩ := levI_one n L left (.mat a b p) .nil rfl rfl (fun _ _ => trivial)
   rw [e]; intro p q e
   simp only [thI] at e
   split at e <;> cases e
  | par p q =>
   by_cases h0 : (lvl (.par p q)).1 = []
   ·have h1 : 1 ≤ (lvl p).2.length := List.length_pos_iff.2 (clean_lvl p (neat_clean p hc.2.1) hc.1.1)
    have h2 : 1 ≤ (lvl q).2.length := List.length_pos_iff.2 (clean_lvl q (neat_clean q hc.2.2) hc.1.2)
    rw [levI_cand]
    have hne : (visG ltU 200 (lvl (.par p q)).1).map (candI n L left (.par p q)) ≠ [] := fun e => visG_ne ltU 199 _ (List.map_eq_nil_iff.1 e)
    obtain ⟨o, _, e⟩ := List.mem_map.1 (bestL_mem _ hne)
    rw [← e, h0]
    obtain ⟨a, b, e2⟩ := join_two .par (candI n L left (.par p q) o) (by rw [(candI_txt n L left (.par p q) o).1]; simp only [lvl, List.length_append]; omega)
    rw [e2]
    intro u v e3; cases e3
   ·exact hfr h0
theorem smds_sum2 (p q : Tm) : 2 ≤ (smds (.sum p q)).length := by
 have h1 : 1 ≤ (smds p).length := List.length_pos_iff.2 (smds_nil p)
 have h2 : 1 ≤ (smds q).length := List.length_pos_iff.2 (smds_nil q)
 simp only [smds, List.length_append]; omega
theorem thI_form (n : Nat) (L : UInt8 → UInt8) (left : List UInt8) (T : Tm) (hk : Thd T) (hc : Neat T) (htf : tf T left.length = true) (hn : T.size ≤ n + 1) : Thd (thI (levI n) L left T) ∧ Flat (thI (levI n) L left T) := by
 have hsimple : ∀ t : Tm, Thd t → NotS t → Thd t ∧ Flat t := fun t h1 h2 => ⟨h1, by unfold Flat; rw [nots_smds h2, nots_sumR h2]⟩
 cases T with
 | nil => exact absurd rfl hk.2.2
 | par p q => exact absurd rfl (hk.1 p q)
 | own x p => exact absurd rfl (hk.2.1 x p)
 | snd a b p => exact hsimple _ ⟨fun _ _ e => (by cases e), fun _ _ e => (by cases e), fun e => (by cases e)⟩ (fun _ _ e => (by cases e))
 | tau p => exact hsimple _ ⟨fun _ _ e => (by cases e), fun _ _ e => (by cases e), fun e => (by cases e)⟩ (fun _ _ e => (by cases e))
 | rep p => exact hsimple _ ⟨fun _ _ e => (by cases e), fun _ _ e => (by cases e), fun e => (by cases e)⟩ (fun _ _ e => (by cases e))
 | rcv a x p => exact hsimple _ ⟨fun _ _ e => (by cases e), fun _ _ e => (by cases e), fun e => (by cases e)⟩ (fun _ _ e => (by cases e))
 | mat a b p =>
  simp only [thI]
  split
  ·exact hsimple _ ⟨fun _ _ e => (by cases e), fun _ _ e => (by cases e), fun e => (by cases e)⟩ (fun _ _ e => (by cases e))
  ·exact hsimple _ ⟨fun _ _ e => (by cases e), fun _ _ e => (by cases e), fun e => (by cases e)⟩ (fun _ _ e => (by cases e))
 | sum p q =>
  have hsm := (smds_fl (.sum p q) left.length).1 (by rw [tf_sum]; exact htf)
  have e1 : thI (levI n) L left (.sum p q) = joinR .sum (srtT ((smds (.sum p q)).map (levI n L left))) := rfl
  rw [e1]
  have hlen : 2 ≤ (srtT ((smds (.sum p q)).map (levI n L left))).length := by rw [srtT_len, List.length_map]; exact smds_sum2 p q
  have hnots : ∀ t ∈ srtT ((smds (.sum p q)).map (levI n L left)), NotS t := fun t ht => by
   obtain ⟨r, hr, rfl⟩ := List.mem_map.1 ((mem_srtT _ _).1 ht)
   refine levI_nots n L left r (neat_smds _ hc r hr) (hsm r hr) (smds_nots _ r hr) ?_
   have : r.size < (Tm.sum p q).size := by
    simp only [smds, List.mem_append] at hr
    simp only [Tm.size]
    rcases hr with hr | hr
    ·have := smds_size p r hr; omega
    ·have := smds_size q r hr; omega
   omega
  obtain ⟨h1, h2⟩ := smds_join _ (fun e => by rw [e] at hlen; simp at hlen) hnots
  refine ⟨?_, by unfold Flat; rw [h1, h2]⟩
  obtain ⟨a, b, e2⟩ := join_two .sum _ hlen
  rw [e2]
  exact ⟨fun _ _ e => (by cases e), fun _ _ e => (by cases e), fun e => (by cases e)⟩
def NfForm (r : Tm) : Prop := ∃ ls l, r = wrapO ls (joinR .par l) ∧ ∀ T ∈ l, Thd T ∧ Flat T
theorem levI_form (n : Nat) (L : UInt8 → UInt8) (left : List UInt8) (s : Tm) (hc : Neat s) (hf : fl s left.length = true) (hn : s.size ≤ n + 1) : NfForm (levI (n + 1) L left s) := by
 obtain ⟨f1, f2, f3⟩ := fl_inv hf
 rw [levI_cand]
 have hne : (visG ltU 200 (lvl s).1).map (candI n L left s) ≠ [] := fun e => visG_ne ltU 199 _ (List.map_eq_nil_iff.1 e)
 obtain ⟨o, _, e⟩ := List.mem_map.1 (bestL_mem _ hne)
 refine ⟨_, _, rfl, fun t ht => ?_⟩
 rw [← e] at ht
 obtain ⟨T, hT, rfl⟩ := List.mem_map.1 ((mem_srtT _ _).1 ht)
 exact thI_form n _ _ T (lvl_kind s T hT) (neat_thr s hc T hT) (by rw [List.length_drop]; exact f3 T hT) (by have := lvl_size s T hT; omega)
theorem nfI_form {t r : Tm} (h : nfI t = some r) : NfForm r := by
 unfold nfI at h
 split at h
 ·cases h
 ·rename_i h1
  split at h
  ·cases h
   have hfl : fl (numb t) (othL t.usd).length = true := by
    cases e : fl (numb t) (othL t.usd).length with
    | true => rfl
    | false => exact absurd (.inr e) h1
   obtain ⟨m, hm⟩ : ∃ m, t.size = m + 1 := ⟨t.size - 1, by have := size_pos t; omega⟩
   have hsz : (numb t).size ≤ t.size := by unfold numb; rw [can_size]; exact sim_size t
   rw [hm] at hsz ⊢
   exact levI_form m id _ _ (neat_can _ _ _ (neat_sim t)) hfl hsz
  ·cases h
theorem form_lvl {r : Tm} (h : NfForm r) : (lvl r).1 = r.fro.1 ∧ (lvl r).2 = r.thrs ∧ ∀ T ∈ r.thrs, Thd T ∧ Flat T := by
 obtain ⟨ls, l, rfl, hl⟩ := h
 have h1 : ∀ T ∈ l, Thd T := fun T hT => (hl T hT).1
 rw [lvl_wrap, lvl_join l h1, fro_wrap, fro_join l h1, thrs_wrap ls l h1]
 exact ⟨rfl, rfl, hl⟩
def wz (l : List Tm) : Nat := (l.map fun t => t.size + 1).sum
theorem wz_app (l m : List Tm) : wz (l ++ m) = wz l + wz m := by simp [wz]
theorem wz_perm {l m : List Tm} (h : l.Perm m) : wz l = wz m := by unfold wz; exact (h.map _).sum_nat
theorem wz_srt (l : List Tm) : wz (srtT l) = wz l := wz_perm (List.mergeSort_perm _ _)
theorem wz_map {f : Tm → Tm} : ∀ l : List Tm, (∀ t ∈ l, t.size ≤ (f t).size) → wz l ≤ wz (l.map f) := by
 intro l; induction l with
 | nil => intro _; simp [wz]
 | cons a l ih =>
  intro h
  have h1 := h a (by simp)
  have h2 := ih fun b hb => h b (by simp [hb])
  simp only [wz, List.map_cons, List.sum_cons] at h2 ⊢; omega
theorem wz_joinP : ∀ l : List Tm, wz l ≤ (joinR .par l).size + 1 := by
 intro l; induction l with
 | nil => simp [wz]
 | cons a l ih =>
  cases l with
  | nil => simp [wz, joinR]
  | cons b l => simp only [joinR, Tm.size, wz, List.map_cons, List.sum_cons] at ih ⊢; omega
theorem wz_joinS : ∀ l : List Tm, wz l ≤ (joinR .sum l).size + 1 := by
 intro l; induction l with
 | nil => simp [wz]
 | cons a l ih =>
  cases l with
  | nil => simp [wz, joinR]
  | cons b l => simp only [joinR, Tm.size, wz, List.map_cons, List.sum_cons] at ih ⊢; omega
theorem wz_wrap (t : Tm) : ∀ ls : List UInt8, (wrapO ls t).size = ls.length + t.size := by
 intro ls; induction ls with
 | nil => simp [wrapO]
 | cons a ls ih =>
  have e : wrapO (a :: ls) t = .own a (wrapO ls t) := rfl
  rw [e, Tm.size, ih, List.length_cons]; omega
theorem wz_smds (s : Tm) : s.size + 1 = wz (smds s) := by
 induction s with
 | sum p q ih ih2 => simp only [smds, wz_app, Tm.size]; omega
 | _ => simp [smds, wz]
theorem wz_lvl (s : Tm) (h : Neat s) (hs : s ≠ .nil) : s.size + 1 ≤ (lvl s).1.length + wz (lvl s).2 := by
 induction s with
 | nil => exact absurd rfl hs
 | own x p ih => have := ih h.2 h.1; simp only [lvl, List.length_cons, Tm.size]; omega
 | par p q ih ih2 =>
  have h1 := ih h.2.1 h.1.1
  have h2 := ih2 h.2.2 h.1.2
  simp only [lvl, List.length_append, wz_app, Tm.size]; omega
 | _ => simp [lvl, wz]
theorem mid_size (n : Nat) : ∀ (once : Bool) (L : UInt8 → UInt8) (left : List UInt8) (s : Tm), s.size ≤ n → Neat s → fl s left.length = true → s.size ≤ (mid n once L left s).size := by
 induction n with
 | zero => intro once L left s h; have := size_pos s; omega
 | succ n ih =>
  intro once L left s hn hc hf
  obtain ⟨f1, f2, f3⟩ := fl_inv hf
  unfold mid
  by_cases hU : (lvl s).2 = []
  ·have : s = .nil := by
    cases s with
    | nil => rfl
    | _ => exact absurd hU (clean_lvl _ (neat_clean _ hc) (by simp))
   subst this; simp [lvl, Tm.size]
  ·have hU' : (lvl s).2.isEmpty = false := by simpa using hU
   have hsn : s ≠ .nil := fun e => by subst e; simp [lvl] at hU
   have hlv := wz_lvl s hc hsn
   rw [hU']
   simp only [Bool.false_eq_true, if_false]
   rw [wz_wrap, List.length_take, Nat.min_eq_left f2]
   have hm := bestT_mem ((if once then (ords (lvl s).1.length).take 1 else ords (lvl s).1.length).map fun o =>
    joinR .par (srtT ((lvl s).2.map (thI (mid n once) (updL L (o.map fun i => (lvl s).1.getD i 0) left) (left.drop (lvl s).1.length))))) (by simpa using ords_one f1)
   obtain ⟨o, ho, e⟩ := List.mem_map.1 hm
   rw [← e]
   have hj := wz_joinP (srtT ((lvl s).2.map (thI (mid n once) (updL L (o.map fun i => (lvl s).1.getD i 0) left) (left.drop (lvl s).1.length))))
   rw [wz_srt] at hj
   have hmap := wz_map (f := thI (mid n once) (updL L (o.map fun i => (lvl s).1.getD i 0) left) (left.drop (lvl s).1.length)) (lvl s).2 fun T hT => by
    have hk := lvl_kind s T hT
    have hsz := lvl_size s T hT
    have hcl := neat_thr s hc T hT
    have htf := f3 T hT
    have hlen : (left.drop (lvl s).1.length).length = left.length - (lvl s).1.length := List.length_drop
    rw [← hlen] at htf
    generalize left.drop (lvl s).1.length = lf at *
    generalize updL L (o.map fun i => (lvl s).1.getD i 0) left = L'
    cases T with
    | nil => exact absurd rfl hk.2.2
    | par p q => exact absurd rfl (hk.1 p q)
    | own x p => exact absurd rfl (hk.2.1 x p)
    | snd a b p => simp only [Tm.size] at hsz; simp only [thI, Tm.size]; have := ih once L' lf p (by omega) hcl htf; omega
    | tau p => simp only [Tm.size] at hsz; simp only [thI, Tm.size]; have := ih once L' lf p (by omega) hcl htf; omega
    | rep p => simp only [Tm.size] at hsz; simp only [thI, Tm.size]; have := ih once L' lf p (by omega) hcl htf; omega
    | mat a b p => simp only [Tm.size] at hsz; have := ih once L' lf p (by omega) hcl htf; simp only [thI]; split <;> simp only [Tm.size] <;> omega
    | rcv a x p =>
     simp only [Tm.size] at hsz
     cases lf with
     | nil => simp [tf] at htf
     | cons c lf =>
      simp only [thI, Tm.size, List.headD_cons, List.tail_cons]
      have := ih once (upd L' x c) lf p (by omega) hcl (by
       simp only [tf, List.length_cons, Bool.and_eq_true] at htf
       simpa [fl] using htf)
      omega
    | sum p q =>
     have hsm := (smds_fl (.sum p q) lf.length).1 (by rw [tf_sum]; exact htf)
     have e1 : thI (mid n once) L' lf (.sum p q) = joinR .sum (srtT ((smds (.sum p q)).map (mid n once L' lf))) := rfl
     rw [e1]
     have h1 := wz_joinS (srtT ((smds (.sum p q)).map (mid n once L' lf)))
     rw [wz_srt] at h1
     have h2 := wz_smds (.sum p q)
     have h3 := wz_map (f := mid n once L' lf) (smds (.sum p q)) fun r hr => by
      have hrs : r.size < (Tm.sum p q).size := by
       simp only [smds, List.mem_append] at hr
       simp only [Tm.size]
       rcases hr with hr | hr
       ·have := smds_size p r hr; omega
       ·have := smds_size q r hr; omega
      exact ih once L' lf r (by omega) (neat_smds _ hcl r hr) (hsm r hr)
     omega
   omega
theorem oth_le (l : List UInt8) : (othL l).length ≤ 26 := by
 unfold othL
 have := List.length_filter_le (fun c => decide (c ∉ l)) ((List.range 26).map fun i => UInt8.ofNat (97 + i))
 simpa using this
theorem bnd_lt (t : Tm) : t.bnd.length + 1 ≤ t.size := by
 induction t with
 | nil => simp [Tm.bnd, Tm.size]
 | _ => simp only [Tm.bnd, Tm.size, List.length_append, List.length_cons] <;> omega
theorem free_le (t : Tm) (h : t.ok nmL = true) : t.free.length ≤ 26 := by
 have := srt_sub (srt_free t) lowL_srt (fun z hz => (mem_low z).2 (lets_free t h z hz))
 have h2 : lowL.length = 26 := by unfold lowL; simp
 omega
theorem fit_ok (t : Tm) (h : t.ok nmL = true) (hs : t.size ≤ 61) : Fit t := by
 have := free_le t h
 have := bnd_lt t
 have := bdp_bnd t
 unfold Fit; omega
theorem nfI_big {t : Tm} (ho : t.ok nmL = true) (hs : t.size ≤ 121) (h60 : 60 < t.sim.size) : nfI t = none := by
 have hss := sim_size t
 have hnum : can t.sim id marksN = numb t := rfl
 have hsz : (numb t).size ≤ t.size := by rw [← hnum, can_size]; exact hss
 have hsz2 : (numb t).size = t.sim.size := by rw [← hnum, can_size]
 unfold nfI
 split
 ·rfl
 ·rename_i hcf
  have hfl : fl (numb t) (othL t.usd).length = true := by
   cases h : fl (numb t) (othL t.usd).length
   ·exact absurd (.inr h) hcf
   ·rfl
  rw [if_neg]
  rintro ⟨_, _, h6⟩
  have hcl : Neat (numb t) := neat_can _ _ _ (neat_sim t)
  have hlet : ∀ l ∈ othL t.usd, nmL l = true := fun l hl => (nmL_iff l).2 ((mem_oth _ _).1 hl).1
  have hfr : ∀ v, v ∈ (numb t).free → nmL (id v) = true := fun v hv => by
   obtain ⟨u, hu, e⟩ := can_free t.sim id marksN (by have := bnd_len t.sim; rw [marksN_len]; omega) v hv
   rw [e]
   rw [sim_usd] at hu
   exact (okL_names ho).1 _ (usd_free t _ hu)
  have hbp : (numb t).bnd.Pairwise (· < ·) := by rw [numb_bnd hs]; exact marksN_srt.sublist (List.take_sublist _ _)
  rw [levI_mid t.size id (othL t.usd) (numb t) hsz (neat_clean _ hcl) hfl hbp hlet hfr] at h6
  have := mid_size t.size false id (othL t.usd) (numb t) hsz hcl hfl
  omega
def nfV : Option Tm → Value
 | some r => .iface (tyOf r) (pay r)
 | none => .nilIface
theorem normalForm_any (t : Tm) (ho : t.ok nmL = true) (hs : t.size ≤ 121) (hl : t.pr.length ≤ 900) (w : World) :
  Calls Tryz.prog 85 #[.iface (tyOf t) (pay t)] w fun e w' => e = .returned (.tuple #[nfV (nfI t), .bool (nfI t).isSome]) ∧ Below w.heap.size w w' := by
 have hso := sim_ok t ho
 have hss := sim_size t
 have hnum : can t.sim id marksN = numb t := rfl
 have hsz : (numb t).size ≤ t.size := by rw [← hnum, can_size]; exact hss
 have hOt := others_set t.sim.free (lets_free t.sim hso)
 have hb133 : t.sim.bnd.length ≤ 133 := by have := bnd_len t.sim; omega
 have hCk := countKind_any (numb t) (by omega) ⟨#[35]⟩
 rw [subs_own] at hCk
 rw [sim_usd] at hOt
 have hFi := fits_any (numb t).size (numb t) (othL t.usd).length (Nat.le_refl _) (by omega) (by have := oth_le t.usd; omega)
 have hol := oth_le t.usd
 have hFr := freeNames_any t.sim hso
 rw [sim_usd] at hFr
 have hSzC := fun w => size_any t.sim (by omega) w
 by_cases h60 : 60 < t.sim.size
 ·have e : nfI t = none := nfI_big ho hs h60
  rw [e]
  exact nf_bad0 _ _ _ _ _ h60 w (simplify_any t ho) hSzC
 by_cases hc : 8 < ownc (numb t)
 ·have e : nfI t = none := by unfold nfI; rw [if_pos (.inl hc)]
  rw [e]
  exact nf_bad1 _ _ _ _ _ _ _ (othL t.usd) (by omega) _ _ h60 hc w (simplify_any t ho) hSzC hFr hOt (numbered_any t.sim hso hb133) hCk
 ·cases hfl : fl (numb t) (othL t.usd).length with
  | false =>
   have e : nfI t = none := by unfold nfI; rw [if_pos (.inr hfl)]
   rw [e]
   rw [hfl] at hFi
   exact nf_bad2 _ _ _ _ _ _ _ (othL t.usd) (by omega) _ _ h60 hc w (simplify_any t ho) hSzC hFr hOt (numbered_any t.sim hso hb133) hCk hFi
  | true =>
   rw [hfl] at hFi
   have hcl : Clean (numb t) := clean_can _ _ _ (clean_sim t)
   have hlet : ∀ l ∈ othL t.usd, nmL l = true := fun l hl => (nmL_iff l).2 ((mem_oth _ _).1 hl).1
   have hfr : ∀ v, v ∈ (numb t).free → nmL (id v) = true := fun v hv => by
    obtain ⟨u, hu, e⟩ := can_free t.sim id marksN (by have := bnd_len t.sim; rw [marksN_len]; omega) v hv
    rw [e]
    rw [sim_usd] at hu
    exact (okL_names ho).1 _ (usd_free t _ hu)
   have hbp : (numb t).bnd.Pairwise (· < ·) := by rw [numb_bnd hs]; exact marksN_srt.sublist (List.take_sublist _ _)
   have e3 := levI_mid t.size id (othL t.usd) (numb t) hsz hcl hfl hbp hlet hfr
   have hok : (levI t.size id (othL t.usd) (numb t)).ok nmL = true := by rw [e3]; exact mid_ok t.size false id (othL t.usd) (numb t) hsz hfl hlet hfr
   have hlen := levI_len t.size id (othL t.usd) (numb t)
   have hnl := numb_len t
   have hLe := fun (D : Array Value) (v : Value) (g : Nat) (w : World) (hd : DrOf D id v) (hlf : LfS w g v (othL t.usd)) (hg : g < w.heap.size) =>
    level_any t.size (numb t) D id v g (othL t.usd) w hsz hd hlf hg hfl (by omega) (by omega) hbp (by omega)
   have hnf : nfI t = if (levI t.size id (othL t.usd) (numb t)).ok nmL = true ∧ (levI t.size id (othL t.usd) (numb t)).pr.length ≤ 300 ∧ (levI t.size id (othL t.usd) (numb t)).size ≤ 60 then some (levI t.size id (othL t.usd) (numb t)) else none := by
    unfold nfI; rw [if_neg (by rw [hfl]; simp; omega)]
   generalize levI t.size id (othL t.usd) (numb t) = r at *
   rw [hnf]
   by_cases hg : r.ok nmL = true ∧ r.pr.length ≤ 300 ∧ r.size ≤ 60
   ·rw [if_pos hg]
    exact nf_good _ _ _ _ _ _ _ (othL t.usd) (by omega) _ _ h60 hc (S r) _ _ w (simplify_any t ho) hSzC hFr hOt (numbered_any t.sim hso hb133) hCk hFi freeScope_big hLe (fun w => parse_some (s := S r) (by rw [S_list]; exact good_of hg.1 hg.2.1 hg.2.2) w (by rw [S_size]; omega))
   ·rw [if_neg hg]
    exact nf_good _ _ _ _ _ _ _ (othL t.usd) (by omega) _ _ h60 hc (S r) _ _ w (simplify_any t ho) hSzC hFr hOt (numbered_any t.sim hso hb133) hCk hFi freeScope_big hLe (fun w => parse_none (s := S r) (by rw [S_list]; exact good_not (ok_LE r hok) hg) w (by rw [S_size]; omega))
end Go.Proofs.YtalegefnppbkdaaGreat.T1
