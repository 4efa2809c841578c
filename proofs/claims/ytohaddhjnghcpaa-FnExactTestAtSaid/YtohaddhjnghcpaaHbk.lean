/- Texts of the proof, put together: Cdp. No conditions. -/
import Derived.Test.YtohaddhjnghcpaaHbg
import Derived.Test.YtohaddhjnghcpaaHbi
import Derived.Test.YtohaddhjnghcpaaHbj

/- What the specification answers in chapter 7, by trees. MADE BY gen_Cp7.py. No conditions. -/
namespace Go.Proofs.Ytohaddhjnghcpaa.T1
open Go.RowKit
set_option maxRecDepth 100000
set_option linter.unusedVariables false
set_option linter.unusedSimpArgs false

theorem sz1 (c : UInt8) : (B [c]).size ≤ 700 := by rw [B_size]; simp
theorem szf (p : Tm) : (B p.free).size ≤ 700 := by rw [B_size]; have := srt_len (srt_free p); omega
theorem szS {p : Tm} (h : p.pr.length ≤ 700) : (S p).size ≤ 700 := by rw [S_size]; exact h
theorem fr_at {s : ByteArray} (l : List UInt8) (hs : s = B l) (h : l.length ≤ 1000) (c : UInt8) (hc : c = fresh l) : ∀ w, Calls Try.prog 43 #[.string s] w fun e w' => e = .returned (.int .u8 (c.toNat : Int)) ∧ Below w.heap.size w w' := by
  intro w; rw [hs]; exact fresh_at l h c hc w
theorem sd_at {s t : ByteArray} (a : UInt8) (l : List UInt8) (p : Tm) (hs : s = B l) (ht : t = S p) (hl : l.length ≤ 100) (hp : p.ok nmE = true) (hpl : p.pr.length ≤ 700) : ∀ w, Calls Try.prog 45 #[.string (B [a]), .string s, .string t] w fun e w' => e = .returned (.string (S (sendC a l p))) ∧ Below w.heap.size w w' := by
  intro w; rw [hs, ht]; exact cdSend_any a l p hl hp hpl w
theorem rc_at {s t : ByteArray} (a : UInt8) (l : List UInt8) (p : Tm) (hs : s = B l) (ht : t = S p) (hl : l.length ≤ 100) (hp : p.ok nmE = true) (hpl : p.pr.length ≤ 700) : ∀ w, Calls Try.prog 44 #[.string (B [a]), .string s, .string t] w fun e w' => e = .returned (.string (S (recvC a l p))) ∧ Below w.heap.size w w' := by
  intro w; rw [hs, ht]; exact cdReceive_any a l p hl hp hpl w
theorem if_at {s : ByteArray} (t : Tm) (hs : s = S t) (hE : t.ok nmE = true) (hl : t.pr.length ≤ 100000) : ∀ w, Calls Try.prog 31 #[.string s] w fun e w' => e = .returned (.tuple #[.string (if okT t then S t else ⟨#[]⟩), .bool (okT t)]) ∧ Below w.heap.size w w' := by
  intro w; rw [hs]; exact tmIf_coded t hE hl w
theorem Bt (c : UInt8) : (B [c]).toList = [c] := by rw [ByteArray.toList_eq]; rfl
theorem S_nil0 : (⟨#[48]⟩ : ByteArray) = S .nil := rfl
theorem sendC_len (a : UInt8) (l : List UInt8) (p : Tm) : (sendC a l p).pr.length = 7 + 4 * l.length + p.pr.length := sendW_len _ _ _ _
theorem recvC_len (a : UInt8) (l : List UInt8) (p : Tm) : (recvC a l p).pr.length = 4 + 4 * l.length + p.pr.length := recvW_len _ _ _ _
theorem spT_TruthAt (a : UInt8) (v : Bool) (ha : nmL a = true) (x y : UInt8) (hxy : frs 2 [a] = [x, y]) (C0 : ∀ w, Calls Try.prog 30 #[.string (B [a])] w fun e w' => e = .returned (.bool true) ∧ Below w.heap.size w w') (w : World) :
    Calls Try.prog 12 #[.string (B [a]), .bool v] w fun e w' => e = .returned (codedV (truthC x y a (if v then x else y))) ∧ Below w.heap.size w w' := by
  simp only [frs, List.cons.injEq, and_true] at hxy
  obtain ⟨hx, hy⟩ := hxy
  rw [hx] at hy
  have hxn : nmL x = true := by rw [← hx]; exact fresh_few (m := [a]) (fun z h => h) (by simp)
  have hyn : nmL y = true := by rw [← hy]; exact fresh_few (m := [a, x]) (fun z h => by simpa using h) (by simp)
  have tl : ∀ t, (truthC x y a t).pr.length = 18 := fun t => by
    have := recvC_len a [x, y] (.snd t t .nil)
    simp [truthC, Tm.pr] at this ⊢; omega
  cases v with
  | true =>
    have hok := okE_of (truthC_ok hxn hyn ha hxn)
    refine sp_TruthAt_yes (B [a]) true _ _ _ (sz1 a) C0 (cdTruth_true (B [a]) (B [x]) (B [y]) (S (recvC a [x, y] (.snd x x .nil))) _ _ (sz1 a) (szS (by rw [recvC_len]; simp [Tm.pr])) (sz1 x) (sz1 y)
      (fr_at [a] rfl (by simp) x hx.symm) (cdText_any x) (fr_at ([a] ++ [x]) (B_app _ _) (by simp) y hy.symm) (cdText_any y)
      (rc_at a [x, y] (.snd x x .nil) (B_app _ _) (by apply S_of; simp only [ByteArray.data_append, Array.toList_append, S_list, B_list]; simp [Tm.pr]) (by simp) (by simp only [Tm.ok, nmE_of hxn, Bool.and_self]) (by simp [Tm.pr]))) (if_at (truthC x y a x) ?_ hok (by rw [tl]; omega)) w
    apply S_of
    simp only [ByteArray.data_append, Array.toList_append, S_list]
    simp [truthC, Tm.pr]
  | false =>
    have hok := okE_of (truthC_ok hxn hyn ha hyn)
    refine sp_TruthAt_yes (B [a]) false _ _ _ (sz1 a) C0 (cdTruth_false (B [a]) (B [x]) (B [y]) (S (recvC a [x, y] (.snd y y .nil))) _ _ (sz1 a) (szS (by rw [recvC_len]; simp [Tm.pr])) (sz1 x) (sz1 y)
      (fr_at [a] rfl (by simp) x hx.symm) (cdText_any x) (fr_at ([a] ++ [x]) (B_app _ _) (by simp) y hy.symm) (cdText_any y)
      (rc_at a [x, y] (.snd y y .nil) (B_app _ _) (by apply S_of; simp only [ByteArray.data_append, Array.toList_append, S_list, B_list]; simp [Tm.pr]) (by simp) (by simp only [Tm.ok, nmE_of hyn, Bool.and_self]) (by simp [Tm.pr]))) (if_at (truthC x y a y) ?_ hok (by rw [tl]; omega)) w
    apply S_of
    simp only [ByteArray.data_append, Array.toList_append, S_list]
    simp [truthC, Tm.pr]
theorem testC_len (x y z a : UInt8) (p q : Tm) : (testC x y z a p q).pr.length = 36 + p.pr.length + q.pr.length := by
  have := sendC_len a [x, y] .nil
  simp [testC, Tm.pr] at this ⊢; omega
theorem cdTest_any (a : UInt8) (p q : Tm) (ha : nmE a = true) (hp : p.ok nmE = true) (hq : q.ok nmE = true) (hpl : p.pr.length ≤ 700) (hql : q.pr.length ≤ 700) (x y z : UInt8) (hxy : frs 3 ([a] ++ p.free ++ q.free) = [x, y, z]) (w : World) :
    Calls Try.prog 38 #[.string (B [a]), .string (S p), .string (S q)] w fun e w' => e = .returned (.string (S (testC x y z a p q))) ∧ Below w.heap.size w w' := by
  simp only [frs, List.cons.injEq, and_true] at hxy
  obtain ⟨hx, hy, hz⟩ := hxy
  rw [hx] at hy hz
  rw [hy] at hz
  have hfp := srt_len (srt_free p)
  have hfq := srt_len (srt_free q)
  have e : (⟨#[35]⟩ : ByteArray) ++ B [x] ++ ⟨#[46, 35]⟩ ++ B [y] ++ ⟨#[46, 40]⟩ ++ S (sendC a [x, y] .nil) ++ ⟨#[38, 40]⟩ ++ B [x] ++ ⟨#[63]⟩ ++ B [z] ++ ⟨#[46]⟩ ++ S p ++ ⟨#[38]⟩ ++ B [y] ++ ⟨#[63]⟩ ++ B [z] ++ ⟨#[46]⟩ ++ S q ++ ⟨#[41, 41]⟩ = S (testC x y z a p q) := by
    apply S_of
    simp only [ByteArray.data_append, Array.toList_append, S_list, B_list]
    simp [testC, Tm.pr]
  rw [← e]
  have hxe : nmE x = true := by rw [← hx]; exact fresh_nm _
  have hye : nmE y = true := by rw [← hy]; exact fresh_nm _
  exact cdTest_walk (B [a]) (S p) (S q) (B p.free) (B q.free) (B [x]) (B [y]) (B [z]) (S (sendC a [x, y] .nil)) _ _ _ (sz1 a) (szS hpl) (szf p) (szS hql) (szf q) (szS (by rw [sendC_len]; simp [Tm.pr])) (sz1 x) (sz1 y) (sz1 z)
    (tmFree_any p hp hpl) (tmFree_any q hq hql)
    (fr_at ([a] ++ p.free ++ q.free) (by rw [B_app, B_app]) (by simp; omega) x hx.symm) (cdText_any x)
    (fr_at ([a] ++ p.free ++ q.free ++ [x]) (by rw [B_app, B_app, B_app]) (by simp; omega) y hy.symm) (cdText_any y)
    (fr_at ([a] ++ p.free ++ q.free ++ [x] ++ [y]) (by rw [B_app, B_app, B_app, B_app]) (by simp; omega) z hz.symm) (cdText_any z)
    (sd_at a [x, y] .nil (B_app _ _) S_nil0 (by simp) rfl (by simp [Tm.pr])) w
theorem spT_TestAt (a : UInt8) (p q : Tm) (ha : nmE a = true) (hp : p.ok nmE = true) (hq : q.ok nmE = true) (hpl : p.pr.length ≤ 300) (hql : q.pr.length ≤ 300) (x y z : UInt8) (hxy : frs 3 ([a] ++ p.free ++ q.free) = [x, y, z]) (C0 : ∀ w, Calls Try.prog 30 #[.string (B [a])] w fun e w' => e = .returned (.bool true) ∧ Below w.heap.size w w') (C1 : ∀ w, Calls Try.prog 37 #[.string (S p)] w fun e w' => e = .returned (.bool true) ∧ Below w.heap.size w w') (C2 : ∀ w, Calls Try.prog 37 #[.string (S q)] w fun e w' => e = .returned (.bool true) ∧ Below w.heap.size w w') (w : World) :
    Calls Try.prog 14 #[.string (B [a]), .string (S p), .string (S q)] w fun e w' => e = .returned (codedV (testC x y z a p q)) ∧ Below w.heap.size w w' := by
  have h0 := hxy
  simp only [frs, List.cons.injEq, and_true] at h0
  have hxe : nmE x = true := by rw [← h0.1]; exact fresh_nm _
  have hye : nmE y = true := by rw [← h0.2.1]; exact fresh_nm _
  have hze : nmE z = true := by rw [← h0.2.2]; exact fresh_nm _
  exact sp_TestAt_yes (B [a]) (S p) (S q) _ _ _ (sz1 a) (szS (by omega)) (szS (by omega)) C0 C1 C2 (cdTest_any a p q ha hp hq (by omega) (by omega) x y z hxy)
    (if_at (testC x y z a p q) rfl (testC_okE hxe hye hze ha hp hq) (by rw [testC_len]; omega)) w
theorem spT_NotAt (a b : UInt8) (ha : nmL a = true) (hb : nmL b = true) (x y : UInt8) (hxy : frs 2 [a, b] = [x, y]) (C0 : ∀ w, Calls Try.prog 30 #[.string (B [a])] w fun e w' => e = .returned (.bool true) ∧ Below w.heap.size w w') (C1 : ∀ w, Calls Try.prog 30 #[.string (B [b])] w fun e w' => e = .returned (.bool true) ∧ Below w.heap.size w w') (w : World) :
    Calls Try.prog 16 #[.string (B [a]), .string (B [b])] w fun e w' => e = .returned (codedV (notC x y a b)) ∧ Below w.heap.size w w' := by
  simp only [frs, List.cons.injEq, and_true] at hxy
  obtain ⟨hx, hy⟩ := hxy
  rw [hx] at hy
  have hxn : nmL x = true := by rw [← hx]; exact fresh_few (m := [a, b]) (fun z h => h) (by simp)
  have hyn : nmL y = true := by rw [← hy]; exact fresh_few (m := [a, b, x]) (fun z h => by simpa using h) (by simp)
  have hok := okE_of (notC_ok hxn hyn ha hb)
  have hs := okE_of (sendC_okL (link_nil b y x) hb (nm2 hyn hxn) (p := .nil) rfl)
  have l1 := sendC_len b [y, x] .nil
  have l2 := recvC_len a [x, y] (sendC b [y, x] .nil)
  simp [Tm.pr] at l1 l2
  refine sp_NotAt_yes (B [a]) (B [b]) (B [x]) (B [y]) (S (sendC b [y, x] .nil)) (S (recvC a [x, y] (sendC b [y, x] .nil))) _ _ _ _ (sz1 a) (szS (by omega)) (szS (by omega)) (sz1 b) (sz1 x) (sz1 y) C0 C1
    (fr_at ([a] ++ [b]) (B_app _ _) (by simp) x hx.symm) (cdText_any x) (fr_at ([a] ++ [b] ++ [x]) (by rw [B_app, B_app]) (by simp) y hy.symm) (cdText_any y)
    (sd_at b [y, x] .nil (B_app _ _) S_nil0 (by simp) rfl (by simp [Tm.pr])) (rc_at a [x, y] (sendC b [y, x] .nil) (B_app _ _) rfl (by simp) hs (by omega)) (if_at (notC x y a b) ?_ hok (by simp [notC, Tm.pr]; omega)) w
  apply S_of
  simp only [ByteArray.data_append, Array.toList_append, S_list]
  simp [notC, Tm.pr]
theorem spT_AndAt (a b c : UInt8) (ha : nmL a = true) (hb : nmL b = true) (hc : nmL c = true) (x y u z : UInt8) (hxy : frs 4 [a, b, c] = [x, y, u, z]) (C0 : ∀ w, Calls Try.prog 30 #[.string (B [a])] w fun e w' => e = .returned (.bool true) ∧ Below w.heap.size w w') (C1 : ∀ w, Calls Try.prog 30 #[.string (B [b])] w fun e w' => e = .returned (.bool true) ∧ Below w.heap.size w w') (C2 : ∀ w, Calls Try.prog 30 #[.string (B [c])] w fun e w' => e = .returned (.bool true) ∧ Below w.heap.size w w') (w : World) :
    Calls Try.prog 18 #[.string (B [a]), .string (B [b]), .string (B [c])] w fun e w' => e = .returned (codedV (andC x y u z a b c)) ∧ Below w.heap.size w w' := by
  simp only [frs, List.cons.injEq, and_true] at hxy
  obtain ⟨hx, hy, hu, hz⟩ := hxy
  rw [hx] at hy hu hz
  rw [hy] at hu hz
  rw [hu] at hz
  have hxn : nmL x = true := by rw [← hx]; exact fresh_few (m := [a, b, c]) (fun z h => h) (by simp)
  have hyn : nmL y = true := by rw [← hy]; exact fresh_few (m := [a, b, c, x]) (fun z h => by simpa using h) (by simp)
  have hun : nmL u = true := by rw [← hu]; exact fresh_few (m := [a, b, c, x, y]) (fun z h => by simpa using h) (by simp)
  have hzn : nmL z = true := by rw [← hz]; exact fresh_few (m := [a, b, c, x, y, u]) (fun z h => by simpa using h) (by simp)
  have hok := okE_of (andC_ok hxn hyn hun hzn ha hb hc)
  have hbo := okE_of (bothC_ok hxn hyn hun hzn hb hc)
  have l1 := sendC_len b [u, y] .nil
  have l3 := sendC_len c [x, y] .nil
  have l4 : (bothC x y u z b c).pr.length = 11 + (sendC b [u, y] .nil).pr.length + (sendC c [x, y] .nil).pr.length - 1 := by simp [bothC, Tm.pr]; omega
  have l2 := recvC_len a [x, y] (bothC x y u z b c)
  have l5 : (andC x y u z a b c).pr.length = 1 + (recvC a [x, y] (bothC x y u z b c)).pr.length := by simp [andC, Tm.pr]; omega
  simp only [Tm.pr, List.length_cons, List.length_nil] at l1 l2 l3
  have l6 : (bothC x y u z b c).pr.length ≤ 60 := by omega
  refine sp_AndAt_yes (B [a]) (B [b]) (B [c]) (B [x]) (B [y]) (B [u]) (B [z]) (S (sendC b [u, y] .nil)) (S (sendC c [x, y] .nil)) (S (recvC a [x, y] (bothC x y u z b c))) _ _ _ _ _ _ (sz1 a) (sz1 c) (szS (by omega)) (szS (by omega)) (szS (by omega)) (sz1 u) (sz1 b) (sz1 x) (sz1 y) (sz1 z) C0 C1 C2
    (fr_at ([a] ++ [b] ++ [c]) (by rw [B_app, B_app]) (by simp) x hx.symm) (cdText_any x)
    (fr_at ([a] ++ [b] ++ [c] ++ [x]) (by rw [B_app, B_app, B_app]) (by simp) y hy.symm) (cdText_any y)
    (fr_at ([a] ++ [b] ++ [c] ++ [x] ++ [y]) (by rw [B_app, B_app, B_app, B_app]) (by simp) u hu.symm) (cdText_any u)
    (fr_at ([a] ++ [b] ++ [c] ++ [x] ++ [y] ++ [u]) (by rw [B_app, B_app, B_app, B_app, B_app]) (by simp) z hz.symm) (cdText_any z)
    (sd_at b [u, y] .nil (B_app _ _) S_nil0 (by simp) rfl (by simp [Tm.pr])) (sd_at c [x, y] .nil (B_app _ _) S_nil0 (by simp) rfl (by simp [Tm.pr]))
    (rc_at a [x, y] (bothC x y u z b c) (B_app _ _) (by
      apply S_of
      simp only [ByteArray.data_append, Array.toList_append, S_list, B_list]
      simp [bothC, Tm.pr]) (by simp) hbo (by omega)) (if_at (andC x y u z a b c) ?_ hok (by omega)) w
  apply S_of
  simp only [ByteArray.data_append, Array.toList_append, S_list]
  simp [andC, Tm.pr]
theorem spT_ForwardAt (a b : UInt8) (ha : nmL a = true) (hb : nmL b = true) (x : UInt8) (hxy : frs 1 [a, b] = [x]) (C0 : ∀ w, Calls Try.prog 30 #[.string (B [a])] w fun e w' => e = .returned (.bool true) ∧ Below w.heap.size w w') (C1 : ∀ w, Calls Try.prog 30 #[.string (B [b])] w fun e w' => e = .returned (.bool true) ∧ Below w.heap.size w w') (w : World) :
    Calls Try.prog 20 #[.string (B [a]), .string (B [b])] w fun e w' => e = .returned (codedV (forwC x a b)) ∧ Below w.heap.size w w' := by
  simp only [frs, List.cons.injEq, and_true] at hxy
  have hxn : nmL x = true := by rw [← hxy]; exact fresh_few (m := [a, b]) (fun z h => h) (by simp)
  refine sp_ForwardAt_yes (B [a]) (B [b]) (B [x]) _ _ _ (sz1 a) (sz1 b) (sz1 x) C0 C1
    (fr_at ([a] ++ [b]) (B_app _ _) (by simp) x hxy.symm) (cdText_any x) (if_at (forwC x a b) ?_ (by rw [forwC_ok, nmE_of ha, nmE_of hb, nmE_of hxn]; rfl) (by simp [forwC, Tm.pr])) w
  apply S_of
  simp only [ByteArray.data_append, Array.toList_append, B_list]
  simp [forwC, Tm.pr]
theorem spT_CellAt (a b : UInt8) (ha : nmL a = true) (hb : nmL b = true) (C0 : ∀ w, Calls Try.prog 30 #[.string (B [a])] w fun e w' => e = .returned (.bool true) ∧ Below w.heap.size w w') (C1 : ∀ w, Calls Try.prog 30 #[.string (B [b])] w fun e w' => e = .returned (.bool true) ∧ Below w.heap.size w w') (w : World) :
    Calls Try.prog 22 #[.string (B [a]), .string (B [b])] w fun e w' => e = .returned (codedV (.snd a b .nil)) ∧ Below w.heap.size w w' := by
  refine sp_CellAt_yes (B [a]) (B [b]) _ _ (sz1 a) (sz1 b) C0 C1 (if_at (.snd a b .nil) ?_ (by simp [Tm.ok, nmE_of ha, nmE_of hb]) (by simp [Tm.pr])) w
  apply S_of
  simp only [ByteArray.data_append, Array.toList_append, B_list]
  simp [Tm.pr]
theorem spT_ReadCell (a b : UInt8) (p : Tm) (hab : a ≠ b) (ha : nmL a = true) (hb : nmL b = true) (hp : p.ok nmE = true) (hpl : p.pr.length ≤ 300) (C0 : ∀ w, Calls Try.prog 30 #[.string (B [a])] w fun e w' => e = .returned (.bool true) ∧ Below w.heap.size w w') (C1 : ∀ w, Calls Try.prog 30 #[.string (B [b])] w fun e w' => e = .returned (.bool true) ∧ Below w.heap.size w w') (C3 : ∀ w, Calls Try.prog 37 #[.string (S p)] w fun e w' => e = .returned (.bool true) ∧ Below w.heap.size w w') (w : World) :
    Calls Try.prog 24 #[.string (B [a]), .string (B [b]), .string (S p)] w fun e w' => e = .returned (codedV (cellC a b b p)) ∧ Below w.heap.size w w' := by
  refine sp_ReadCell_yes (B [a]) (B [b]) (S p) (by rw [Bt, Bt]; simpa using hab) _ _ (sz1 a) (szS (by omega)) (sz1 b) C0 C1 C3 (if_at (cellC a b b p) ?_ (by rw [cellC_ok, nmE_of ha, nmE_of hb, hp]; rfl) (by simp [cellC, Tm.pr]; omega)) w
  apply S_of
  simp only [ByteArray.data_append, Array.toList_append, B_list, S_list]
  simp [cellC, Tm.pr]
theorem spT_WriteCell (a b : UInt8) (p : Tm) (ha : nmL a = true) (hb : nmL b = true) (hp : p.ok nmE = true) (hpl : p.pr.length ≤ 300) (z : UInt8) (hz : frs 1 ([a] ++ [b] ++ p.free) = [z]) (C0 : ∀ w, Calls Try.prog 30 #[.string (B [a])] w fun e w' => e = .returned (.bool true) ∧ Below w.heap.size w w') (C1 : ∀ w, Calls Try.prog 30 #[.string (B [b])] w fun e w' => e = .returned (.bool true) ∧ Below w.heap.size w w') (C2 : ∀ w, Calls Try.prog 37 #[.string (S p)] w fun e w' => e = .returned (.bool true) ∧ Below w.heap.size w w') (w : World) :
    Calls Try.prog 26 #[.string (B [a]), .string (B [b]), .string (S p)] w fun e w' => e = .returned (codedV (cellC a z b p)) ∧ Below w.heap.size w w' := by
  simp only [frs, List.cons.injEq, and_true] at hz
  have hzE : nmE z = true := by rw [← hz]; exact fresh_nm _
  have hfp := srt_len (srt_free p)
  refine sp_WriteCell_yes (B [a]) (B [b]) (S p) (B p.free) (B [z]) _ _ _ (sz1 a) (szS (by omega)) (szf p) (sz1 b) (sz1 z) C0 C1 C2 (tmFree_any p hp (by omega))
    (fr_at ([a] ++ [b] ++ p.free) (by rw [B_app, B_app]) (by simp; omega) z hz.symm) (cdText_any z) (if_at (cellC a z b p) ?_ (by rw [cellC_ok, nmE_of ha, nmE_of hb, hzE, hp]; rfl) (by simp [cellC, Tm.pr]; omega)) w
  apply S_of
  simp only [ByteArray.data_append, Array.toList_append, B_list, S_list]
  simp [cellC, Tm.pr]
theorem choiceC_len (s z : UInt8) (p q : Tm) : (choiceC s z p q).pr.length = 22 + p.pr.length + q.pr.length := by simp [choiceC, Tm.pr]; omega
theorem spT_ChoiceOf (p q : Tm) (hp : p.ok nmE = true) (hq : q.ok nmE = true) (hpl : p.pr.length ≤ 300) (hql : q.pr.length ≤ 300) (s z : UInt8) (hz : frs 2 (p.free ++ q.free) = [s, z]) (C0 : ∀ w, Calls Try.prog 37 #[.string (S p)] w fun e w' => e = .returned (.bool true) ∧ Below w.heap.size w w') (C1 : ∀ w, Calls Try.prog 37 #[.string (S q)] w fun e w' => e = .returned (.bool true) ∧ Below w.heap.size w w') (w : World) :
    Calls Try.prog 28 #[.string (S p), .string (S q)] w fun e w' => e = .returned (codedV (choiceC s z p q)) ∧ Below w.heap.size w w' := by
  simp only [frs, List.cons.injEq, and_true] at hz
  obtain ⟨hs, hz⟩ := hz
  rw [hs] at hz
  have hsE : nmE s = true := by rw [← hs]; exact fresh_nm _
  have hzE : nmE z = true := by rw [← hz]; exact fresh_nm _
  have hfp := srt_len (srt_free p)
  have hfq := srt_len (srt_free q)
  refine sp_ChoiceOf_yes (S p) (S q) (B p.free) (B q.free) (B [s]) (B [z]) _ _ _ _ (szS (by omega)) (szf p) (szS (by omega)) (szf q) (sz1 s) (sz1 z) C0 C1 (tmFree_any p hp (by omega)) (tmFree_any q hq (by omega))
    (fr_at (p.free ++ q.free) (B_app _ _) (by simp; omega) s hs.symm) (cdText_any s) (fr_at (p.free ++ q.free ++ [s]) (by rw [B_app, B_app]) (by simp; omega) z hz.symm) (cdText_any z)
    (if_at (choiceC s z p q) ?_ (by rw [choiceC_ok, hsE, hzE, hp, hq]; rfl) (by rw [choiceC_len]; omega)) w
  apply S_of
  simp only [ByteArray.data_append, Array.toList_append, B_list, S_list]
  simp [choiceC, Tm.pr]
end Go.Proofs.Ytohaddhjnghcpaa.T1
