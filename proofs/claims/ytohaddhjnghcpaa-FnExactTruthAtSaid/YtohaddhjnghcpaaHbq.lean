/- Texts of the proof, put together: Cdk. No conditions. -/
import Derived.Test.YtohaddhjnghcpaaHbj
import Derived.Test.YtohaddhjnghcpaaHbo
import Derived.Deep.RegionHeld3

/- Truth values, tests, not, and, choices: the trees that the program builds. No conditions. -/
namespace Go.Proofs.Ytohaddhjnghcpaa.T1
open Go.RowKit
set_option maxRecDepth 100000
set_option linter.unusedVariables false
set_option linter.unusedSimpArgs false

theorem brow_lit1 (w : World) (a : UInt8) : BRow (w.alloc (.cells #[.int .u8 (a.toNat : Int)] 5)) w.heap.size [a] :=
  ⟨by simp, by simp, fun j hj => by
    have : j = 0 := by simp at hj; omega
    subst this; rw [World.cell?_alloc_new]; rfl⟩
theorem brow_lit2 (w : World) (a b : UInt8) : BRow (w.alloc (.cells #[.int .u8 (a.toNat : Int), .int .u8 (b.toNat : Int)] 5)) w.heap.size [a, b] :=
  ⟨by simp, by simp, fun j hj => by
    have : j = 0 ∨ j = 1 := by simp at hj; omega
    rcases this with rfl | rfl <;> rw [World.cell?_alloc_new] <;> rfl⟩
theorem brow_lit3 (w : World) (a b c : UInt8) : BRow (w.alloc (.cells #[.int .u8 (a.toNat : Int), .int .u8 (b.toNat : Int), .int .u8 (c.toNat : Int)] 5)) w.heap.size [a, b, c] :=
  ⟨by simp, by simp, fun j hj => by
    have : j = 0 ∨ j = 1 ∨ j = 2 := by simp at hj; omega
    rcases this with rfl | rfl | rfl <;> rw [World.cell?_alloc_new] <;> rfl⟩
theorem lets_of {l : List UInt8} (h : ∀ c ∈ l, nmL c = true) : Lets l := fun c hc => (nmL_iff c).1 (h c hc)

set_option maxHeartbeats 2000000 in
theorem truthAt_any (a : UInt8) (v : Bool) (ha : nmL a = true) (x y : UInt8) (hxy : frs 2 [a] = [x, y]) (w : World) :
    Calls Try.prog 35 #[.int .u8 (a.toNat : Int), .bool v] w fun e w' => e = .returned (.iface (tyOf (truthC x y a (if v then x else y))) (pay (truthC x y a (if v then x else y)))) ∧ Below w.heap.size w w' := by
  have hla : Lets (bothL [] [a]) := lets_bothL lets_nil0 (lets_of (by simp [ha]))
  have hoth : 2 ≤ (othL (bothL [] [a])).length := oth_few (m := [a]) (fun x hx => by simpa [mem_bn] using hx) 2 (by simp)
  have ht : (othL (bothL [] [a])).take 2 = [x, y] := by rw [frs_of (l := [a]) 2 (fun x => mem_bn [a] x) hoth, hxy]
  have hn2 : ∀ c ∈ [x, y], nmL c = true := by
    rw [← ht]; intro c hc
    exact (nmL_iff c).2 ((mem_oth _ c).1 (List.mem_of_mem_take hc)).1
  have hx : nmL x = true := hn2 x (by simp)
  have hy : nmL y = true := hn2 y (by simp)
  have HS := Lib.hid (fun (T : TypeId) w1 (hr : BRow w1 w.heap.size [a]) => setOf_any [a] (lets_of (by simp [ha])) 1 rfl w.heap.size 1 w1 hr)
  have HF := Lib.hid (fun w1 => ff_yes (setN (bothL [] [a])) _ rfl hla 2 2 rfl (by omega) hoth w1)
  rw [ht] at HF
  obtain ⟨t, htd⟩ : ∃ t, t = if v then x else y := ⟨_, rfl⟩
  have htl : nmL t = true := by rw [htd]; cases v <;> simp [hx, hy]
  rw [← htd]
  have HO := Lib.hid (sendOnly_any t t)
  have HA := Lib.hid (fun g w1 (hr : BRow w1 g [x, y]) => answering_yes a [x, y] (.snd t t .nil) ha (lets_of hn2) (by simp [Tm.ok, htl]) 2 rfl g 2 w1 hr (link_truth a x y t))
  obtain ⟨X, hX⟩ : ∃ X, X = setN (bothL [] [a]) := ⟨_, rfl⟩
  rw [← hX] at HS HF
  obtain ⟨T0, hT0⟩ : ∃ T, T = tyOf (.snd t t .nil) := ⟨_, rfl⟩
  obtain ⟨V0, hV0⟩ : ∃ V, V = pay (.snd t t .nil) := ⟨_, rfl⟩
  rw [← hT0, ← hV0] at HO HA
  show Calls _ _ _ _ fun e w' => e = .returned (.iface (tyOf (.rep (recvC a [x, y] (.snd t t .nil)))) (pay (.rep (recvC a [x, y] (.snd t t .nil))))) ∧ Below w.heap.size w w'
  obtain ⟨T, hT⟩ : ∃ T, T = tyOf (.rep (recvC a [x, y] (.snd t t .nil))) := ⟨_, rfl⟩
  obtain ⟨V, hV⟩ : ∃ V, V = pay (.rep (recvC a [x, y] (.snd t t .nil))) := ⟨_, rfl⟩
  rw [← hT, ← hV] at HA ⊢
  have b0 := brow_lit1 w a
  have HB0 := Lib.hid b0
  obtain ⟨aa, haa⟩ : ∃ aa : Int, aa = (a.toNat : Int) := ⟨_, rfl⟩
  rw [← haa] at HA HB0 ⊢
  have HTD := Lib.hid htd
  clear hla hoth ht hn2 hx hy htl htd hX hT0 hV0 hT hV b0 haa ha hxy
  go_enter Try.func35, Try.ntmps35
  go_wp2_with fail
  with_reducible refine (HS.out 0 _ HB0.out).mono ?_
  rintro e w1 ⟨rfl, rfl⟩
  have bl1 := (Below.refl w.heap.size w).alloc (Nat.le_refl _) (.cells #[.int .u8 aa] 5)
  go_wp2_with fail
  with_reducible refine (HF.out _).mono ?_
  rintro e w2 ⟨g, rfl, hr, b2⟩
  have bl2 := cdgo bl1 b2
  have HR := Lib.hid hr
  have c0 := hr.2.2 0 (by simp)
  have c1 := hr.2.2 1 (by simp)
  simp only [List.getElem_cons_zero, List.getElem_cons_succ] at c0 c1
  clear hr b2 bl1
  cases v with
  | true =>
    have hte : (x.toNat : Int) = (t.toNat : Int) := by have := HTD.out; simp at this; rw [this]
    go_wp2_with fail
    with_reducible refine (HO.out _).mono ?_
    rintro e w3 ⟨rfl, rfl⟩
    go_wp2_with fail
    with_reducible refine (HA.out _ _ HR.out).mono ?_
    rintro e w4 ⟨rfl, b4⟩
    have bl4 := cdgo bl2 b4
    go_wp2_with fail
    go_ret
    exact ⟨rfl, bl4⟩
  | false =>
    have hte : (y.toNat : Int) = (t.toNat : Int) := by have := HTD.out; simp at this; rw [this]
    go_wp2_with fail
    with_reducible refine (HO.out _).mono ?_
    rintro e w3 ⟨rfl, rfl⟩
    go_wp2_with fail
    with_reducible refine (HA.out _ _ HR.out).mono ?_
    rintro e w4 ⟨rfl, b4⟩
    have bl4 := cdgo bl2 b4
    go_wp2_with fail
    go_ret
    exact ⟨rfl, bl4⟩

theorem brow2 {w : World} {g : Nat} {x y : UInt8} (h0 : w.cell? ⟨g, 0, none⟩ = some (.int .u8 (x.toNat : Int))) (h1 : w.cell? ⟨g, 1, none⟩ = some (.int .u8 (y.toNat : Int))) : BRow w g [x, y] :=
  ⟨World.block_lt_of_cell? w _ h0, by simp, fun j hj => by
    have : j = 0 ∨ j = 1 := by simp at hj; omega
    rcases this with rfl | rfl
    · exact h0
    · exact h1⟩
set_option maxHeartbeats 4000000 in
theorem notAt_any (a b : UInt8) (ha : nmL a = true) (hb : nmL b = true) (x y : UInt8) (hxy : frs 2 [a, b] = [x, y]) (w : World) :
    Calls Try.prog 47 #[.int .u8 (a.toNat : Int), .int .u8 (b.toNat : Int)] w fun e w' => e = .returned (.iface (tyOf (notC x y a b)) (pay (notC x y a b))) ∧ Below w.heap.size w w' := by
  have hab : Lets [a, b] := lets_of (nm2 ha hb)
  have hla : Lets (bothL [] [a, b]) := lets_bothL lets_nil0 hab
  have hoth : 2 ≤ (othL (bothL [] [a, b])).length := oth_few (m := [a, b]) (fun x hx => by simpa [mem_bn] using hx) 2 (by simp)
  have ht : (othL (bothL [] [a, b])).take 2 = [x, y] := by rw [frs_of (l := [a, b]) 2 (fun x => mem_bn [a, b] x) hoth, hxy]
  have hn2 : ∀ c ∈ [x, y], nmL c = true := by
    rw [← ht]; intro c hc
    exact (nmL_iff c).2 ((mem_oth _ c).1 (List.mem_of_mem_take hc)).1
  have hx : nmL x = true := hn2 x (by simp)
  have hy : nmL y = true := hn2 y (by simp)
  have HS := Lib.hid (fun w1 (hr : BRow w1 w.heap.size [a, b]) => setOf_any [a, b] hab 2 rfl w.heap.size 2 w1 hr)
  have HF := Lib.hid (fun w1 => ff_yes (setN (bothL [] [a, b])) _ rfl hla 2 2 rfl (by omega) hoth w1)
  rw [ht] at HF
  have HD := Lib.hid (fun g w1 (hr : BRow w1 g [y, x]) => sd_yes b [y, x] .nil hb (lets_of (nm2 hy hx)) rfl 2 rfl g 2 w1 hr (link_nil b y x))
  have HA := Lib.hid (fun g w1 (hr : BRow w1 g [x, y]) => answering_yes a [x, y] (sendC b [y, x] .nil) ha (lets_of hn2) (sendC_okL (link_nil b y x) hb (nm2 hy hx) rfl) 2 rfl g 2 w1 hr (link_not a b x y))
  have HB := Lib.hid (fun w1 (h0 : w1.cell? ⟨0, 0, none⟩ = w1.cell? ⟨0, 0, none⟩) => brow_lit2 w1 y x)
  obtain ⟨X, hX⟩ : ∃ X, X = setN (bothL [] [a, b]) := ⟨_, rfl⟩
  rw [← hX] at HS HF
  have en : tyOf .nil = 70 ∧ pay .nil = .agg #[] := ⟨rfl, rfl⟩
  rw [en.1, en.2] at HD
  obtain ⟨T0, hT0⟩ : ∃ T, T = tyOf (sendC b [y, x] .nil) := ⟨_, rfl⟩
  obtain ⟨V0, hV0⟩ : ∃ V, V = pay (sendC b [y, x] .nil) := ⟨_, rfl⟩
  rw [← hT0, ← hV0] at HD HA
  show Calls _ _ _ _ fun e w' => e = .returned (.iface (tyOf (.rep (recvC a [x, y] (sendC b [y, x] .nil)))) (pay (.rep (recvC a [x, y] (sendC b [y, x] .nil))))) ∧ Below w.heap.size w w'
  obtain ⟨T1, hT1⟩ : ∃ T, T = tyOf (.rep (recvC a [x, y] (sendC b [y, x] .nil))) := ⟨_, rfl⟩
  obtain ⟨V1, hV1⟩ : ∃ V, V = pay (.rep (recvC a [x, y] (sendC b [y, x] .nil))) := ⟨_, rfl⟩
  rw [← hT1, ← hV1] at HA ⊢
  have HB0 := Lib.hid (brow_lit2 w a b)
  obtain ⟨aa, haa⟩ : ∃ aa : Int, aa = (a.toNat : Int) := ⟨_, rfl⟩
  obtain ⟨bb, hbb⟩ : ∃ bb : Int, bb = (b.toNat : Int) := ⟨_, rfl⟩
  obtain ⟨xx, hxx⟩ : ∃ xx : Int, xx = (x.toNat : Int) := ⟨_, rfl⟩
  obtain ⟨yy, hyy⟩ : ∃ yy : Int, yy = (y.toNat : Int) := ⟨_, rfl⟩
  have HL2 : Hid (∀ W : World, BRow (W.alloc (.cells #[.int .u8 yy, .int .u8 xx] 5)).drew W.heap.size [y, x]) := fun W => by rw [hxx, hyy]; exact (brow_lit2 W y x).below (Below.refl _ _).drew
  have HR2 : Hid (∀ (W : World) g, W.cell? ⟨g, 0, none⟩ = some (.int .u8 xx) → W.cell? ⟨g, 1, none⟩ = some (.int .u8 yy) → BRow W g [x, y]) := fun W g => by rw [hxx, hyy]; exact brow2
  rw [← haa, ← hbb] at HB0 ⊢
  rw [← haa] at HA
  rw [← hbb] at HD
  have HX : Hid (∀ W g, BRow W g [x, y] → W.cell? ⟨g, 0, none⟩ = some (.int .u8 xx) ∧ W.cell? ⟨g, 1, none⟩ = some (.int .u8 yy)) := fun W g h => by
    have c0 := h.2.2 0 (by simp)
    have c1 := h.2.2 1 (by simp)
    simp only [List.getElem_cons_zero, List.getElem_cons_succ] at c0 c1
    rw [hxx, hyy]; exact ⟨c0, c1⟩
  clear hab hla hoth ht hn2 hx hy hX hT0 hV0 hT1 hV1 haa hbb hxx hyy ha hb hxy en HB
  go_enter Try.func47, Try.ntmps47
  go_wp2_with fail
  with_reducible refine (HS.out _ HB0.out).mono ?_
  rintro e w1 ⟨rfl, rfl⟩
  have bl1 := (Below.refl w.heap.size w).alloc (Nat.le_refl _) (.cells #[.int .u8 aa, .int .u8 bb] 5)
  go_wp2_with fail
  with_reducible refine (HF.out _).mono ?_
  rintro e w2 ⟨g, rfl, hr, b2⟩
  have bl2 := cdgo bl1 b2
  obtain ⟨c0, c1⟩ := HX.out _ _ hr
  have lg := hr.1
  clear hr b2 bl1 HX HS HF HB0
  have k0 := bl2.drew
  go_wp2_with fail
  go_region_held3 (fun w' => w'.cell? ⟨g, 0, none⟩ = some (.int .u8 xx) ∧ w'.cell? ⟨g, 1, none⟩ = some (.int .u8 yy)) (first | exact ⟨c0, c1⟩ | exact ⟨d0, d1⟩ | exact ⟨f0, f1⟩ | go_keep)
    (first
    | (go_at_call 71; with_reducible refine (HD.out _ _ (HL2.out _)).mono ?_; rintro e w3 ⟨rfl, b3⟩; have kB := cdgo (((Below.refl w2.heap.size w2).alloc (Nat.le_refl _) _).drew) b3; have k3 := cdgo bl2 kB; have d0 := (kB.cell (p := ⟨g, 0, none⟩) lg).trans c0; have d1 := (kB.cell (p := ⟨g, 1, none⟩) lg).trans c1)
    | (go_at_call 66; with_reducible refine (HA.out g w3 (HR2.out w3 g d0 d1)).mono ?_; rintro e w4 ⟨rfl, b4⟩; have k4 := cdgo k3 b4; have lg3 : g < w3.heap.size := Nat.lt_of_lt_of_le lg kB.size; have f0 := (b4.cell (p := ⟨g, 0, none⟩) lg3).trans d0; have f1 := (b4.cell (p := ⟨g, 1, none⟩) lg3).trans d1))
  all_goals
    go_wp2_with fail
    go_ret
    exact ⟨rfl, by assumption⟩
end Go.Proofs.Ytohaddhjnghcpaa.T1
