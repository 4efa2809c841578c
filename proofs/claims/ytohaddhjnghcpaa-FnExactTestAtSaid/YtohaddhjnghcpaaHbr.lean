/- Texts of the proof, put together: Cdl. No conditions. -/
import Derived.Test.YtohaddhjnghcpaaHbq

/- And, tests and choices: the trees that the program builds. MADE BY gen_Ck7.py. No conditions. -/
namespace Go.Proofs.Ytohaddhjnghcpaa.T1
open Go.RowKit
set_option maxRecDepth 100000
set_option linter.unusedVariables false
set_option linter.unusedSimpArgs false

set_option maxHeartbeats 4000000 in
theorem andAt_any (a b c : UInt8) (ha : nmL a = true) (hb : nmL b = true) (hc : nmL c = true) (x y u z : UInt8) (hxy : frs 4 [a, b, c] = [x, y, u, z]) (w : World) :
    Calls Try.prog 49 #[.int .u8 (a.toNat : Int), .int .u8 (b.toNat : Int), .int .u8 (c.toNat : Int)] w fun e w' => e = .returned (.iface (tyOf (andC x y u z a b c)) (pay (andC x y u z a b c))) ∧ Below w.heap.size w w' := by
  have hab : Lets [a, b, c] := lets_of (by simp [ha, hb, hc])
  have hla : Lets (bothL [] [a, b, c]) := lets_bothL lets_nil0 hab
  have hoth : 4 ≤ (othL (bothL [] [a, b, c])).length := oth_few (m := [a, b, c]) (fun x hx => by simpa [mem_bn] using hx) 4 (by simp)
  have ht : (othL (bothL [] [a, b, c])).take 4 = [x, y, u, z] := by rw [frs_of (l := [a, b, c]) 4 (fun x => mem_bn [a, b, c] x) hoth, hxy]
  have hn2 : ∀ c ∈ [x, y, u, z], nmL c = true := by
    rw [← ht]; intro c hc
    exact (nmL_iff c).2 ((mem_oth _ c).1 (List.mem_of_mem_take hc)).1
  have hx : nmL x = true := hn2 x (by simp)
  have hy : nmL y = true := hn2 y (by simp)
  have hu : nmL u = true := hn2 u (by simp)
  have hz : nmL z = true := hn2 z (by simp)
  have HS := Lib.hid (fun w1 (hr : BRow w1 w.heap.size [a, b, c]) => setOf_any [a, b, c] hab 3 rfl w.heap.size 3 w1 hr)
  have HF := Lib.hid (fun w1 => ff_yes (setN (bothL [] [a, b, c])) _ rfl hla 4 4 rfl (by omega) hoth w1)
  rw [ht] at HF
  have HD1 := Lib.hid (fun g w1 (hr : BRow w1 g [u, y]) => sd_yes b [u, y] .nil hb (lets_of (nm2 hu hy)) rfl 2 rfl g 2 w1 hr (link_nil b u y))
  have HD2 := Lib.hid (fun g w1 (hr : BRow w1 g [x, y]) => sd_yes c [x, y] .nil hc (lets_of (nm2 hx hy)) rfl 2 rfl g 2 w1 hr (link_nil c x y))
  have HA := Lib.hid (fun g w1 (hr : BRow w1 g [x, y]) => answering_yes a [x, y] (bothC x y u z b c) ha (lets_of (nm2 hx hy)) (bothC_ok hx hy hu hz hb hc) 2 rfl g 2 w1 hr (link_and x y u z a b c))
  obtain ⟨X, hX⟩ : ∃ X, X = setN (bothL [] [a, b, c]) := ⟨_, rfl⟩
  rw [← hX] at HS HF
  have en : tyOf .nil = 70 ∧ pay .nil = .agg #[] := ⟨rfl, rfl⟩
  rw [en.1, en.2] at HD1 HD2
  obtain ⟨T1, hT1⟩ : ∃ T, T = tyOf (sendC b [u, y] .nil) := ⟨_, rfl⟩
  obtain ⟨V1, hV1⟩ : ∃ V, V = pay (sendC b [u, y] .nil) := ⟨_, rfl⟩
  obtain ⟨T2, hT2⟩ : ∃ T, T = tyOf (sendC c [x, y] .nil) := ⟨_, rfl⟩
  obtain ⟨V2, hV2⟩ : ∃ V, V = pay (sendC c [x, y] .nil) := ⟨_, rfl⟩
  rw [← hT1, ← hV1] at HD1
  rw [← hT2, ← hV2] at HD2
  have eb : tyOf (bothC x y u z b c) = 74 ∧ pay (bothC x y u z b c) = .agg #[.int .u8 (u.toNat : Int), .iface 81 (.agg #[.iface T1 V1, .iface 52 (.agg #[.int .u8 (u.toNat : Int), .int .u8 (z.toNat : Int), .iface T2 V2])])] := by
    rw [hT1, hV1, hT2, hV2]; exact ⟨rfl, rfl⟩
  rw [eb.1, eb.2] at HA
  show Calls _ _ _ _ fun e w' => e = .returned (.iface (tyOf (.rep (recvC a [x, y] (bothC x y u z b c)))) (pay (.rep (recvC a [x, y] (bothC x y u z b c))))) ∧ Below w.heap.size w w'
  obtain ⟨T3, hT3⟩ : ∃ T, T = tyOf (.rep (recvC a [x, y] (bothC x y u z b c))) := ⟨_, rfl⟩
  obtain ⟨V3, hV3⟩ : ∃ V, V = pay (.rep (recvC a [x, y] (bothC x y u z b c))) := ⟨_, rfl⟩
  rw [← hT3, ← hV3] at HA ⊢
  have HB0 := Lib.hid (brow_lit3 w a b c)
  obtain ⟨aa, haa⟩ : ∃ n : Int, n = (a.toNat : Int) := ⟨_, rfl⟩
  obtain ⟨bb, hbb⟩ : ∃ n : Int, n = (b.toNat : Int) := ⟨_, rfl⟩
  obtain ⟨cc, hcc⟩ : ∃ n : Int, n = (c.toNat : Int) := ⟨_, rfl⟩
  obtain ⟨xx, hxx⟩ : ∃ n : Int, n = (x.toNat : Int) := ⟨_, rfl⟩
  obtain ⟨yy, hyy⟩ : ∃ n : Int, n = (y.toNat : Int) := ⟨_, rfl⟩
  obtain ⟨uu, huu⟩ : ∃ n : Int, n = (u.toNat : Int) := ⟨_, rfl⟩
  obtain ⟨zz, hzz⟩ : ∃ n : Int, n = (z.toNat : Int) := ⟨_, rfl⟩
  have HL2 : Hid (∀ W : World, BRow (W.alloc (.cells #[.int .u8 uu, .int .u8 yy] 5)).drew W.heap.size [u, y]) := fun W => by rw [huu, hyy]; exact (brow_lit2 W u y).below (Below.refl _ _).drew
  rw [← haa, ← hbb, ← hcc] at HB0 ⊢
  rw [← haa, ← huu, ← hzz] at HA
  rw [← hbb] at HD1
  rw [← hcc] at HD2
  have HX : Hid (∀ W g, BRow W g [x, y, u, z] → BRow W g [x, y] ∧ W.cell? ⟨g, 1, none⟩ = some (.int .u8 yy) ∧ W.cell? ⟨g, 2, none⟩ = some (.int .u8 uu) ∧ W.cell? ⟨g, 3, none⟩ = some (.int .u8 zz)) := fun W g h => by
    have c1 := h.2.2 1 (by simp)
    have c2 := h.2.2 2 (by simp)
    have c3 := h.2.2 3 (by simp)
    simp only [List.getElem_cons_zero, List.getElem_cons_succ] at c1 c2 c3
    rw [hyy, huu, hzz]; exact ⟨h.take 2, c1, c2, c3⟩
  clear hab hla hoth ht hn2 hx hy hu hz hX hT1 hV1 hT2 hV2 hT3 hV3 haa hbb hcc hxx hyy huu hzz ha hb hc hxy en eb
  go_enter Try.func49, Try.ntmps49
  go_wp2_with fail
  with_reducible refine (HS.out _ HB0.out).mono ?_
  rintro e w1 ⟨rfl, rfl⟩
  have bl1 := (Below.refl w.heap.size w).alloc (Nat.le_refl _) (.cells #[.int .u8 aa, .int .u8 bb, .int .u8 cc] 5)
  go_wp2_with fail
  with_reducible refine (HF.out _).mono ?_
  rintro e w2 ⟨g, rfl, hr, b2⟩
  have bl2 := cdgo bl1 b2
  obtain ⟨hr2, c1, c2, c3⟩ := HX.out _ _ hr
  have R2 := Lib.hid hr2
  clear hr hr2 b2 bl1 HX HS HF HB0
  have k0 := bl2.drew
  go_wp2_with fail
  go_region
  go_wp2_with fail
  with_reducible refine (HD1.out _ _ (HL2.out _)).mono ?_
  rintro e w3 ⟨rfl, b3⟩
  have kB := cdgo (((Below.refl w2.heap.size w2).alloc (Nat.le_refl _) _).drew) b3
  have k3 := cdgo bl2 kB
  have R3 := Lib.hid (R2.out.below kB)
  clear b3 kB R2 k0 c1 c2 c3
  go_wp2_with fail
  with_reducible refine (HD2.out _ _ R3.out).mono ?_
  rintro e w4 ⟨rfl, b4⟩
  have k4 := cdgo k3 b4
  have R4 := Lib.hid (R3.out.below b4)
  clear b4 k3 R3
  go_wp2_with fail
  with_reducible refine (HA.out _ _ (R4.out.below ((Below.refl _ _).alloc (Nat.le_refl _) _))).mono ?_
  rintro e w5 ⟨rfl, b5⟩
  have k5 := cdgo (k4.alloc k4.size _) b5
  go_wp2_with fail
  go_ret
  exact ⟨rfl, k5⟩
theorem cf_t1 (args : Array Value) (w : World) : (callFunc 73 args).run Try.prog w = .ok (.enter 73 args) w := by kernel_rfl
theorem tt1 (c : Int) (w : World) :
    Calls Try.prog 73 (#[.int .u8 c] ++ #[]) w fun e w' => e = .returned (.iface 74 (.agg #[.int .u8 c, .nilIface])) ∧ Below w.heap.size w w' := by
  show Calls Try.prog 73 #[.int .u8 c] w _
  go_enter Try.func73, Try.ntmps73
  go_wp2_with fail
  go_ret
  exact ⟨rfl, Below.refl _ _⟩
/-- The names that are taken for a test, as the program holds them. -/
def takenQ (a : UInt8) (p q : Tm) : List UInt8 := addL (bothL p.free q.free) a
theorem mem_takenQ (a : UInt8) (p q : Tm) (x : UInt8) : x ∈ takenQ a p q ↔ x ∈ [a] ++ p.free ++ q.free := by
  unfold takenQ; rw [mem_addL, mem_bothL]; simp; grind
theorem lets_takenQ {a : UInt8} {p q : Tm} (ha : nmL a = true) (hp : p.ok nmL = true) (hq : q.ok nmL = true) : Lets (takenQ a p q) :=
  lets_addL (lets_bothL (lets_free p hp) (lets_free q hq)) ((nmL_iff a).1 ha)
set_option maxHeartbeats 4000000 in
theorem testAt_yes (a : UInt8) (p q : Tm) (ha : nmL a = true) (hp : p.ok nmL = true) (hq : q.ok nmL = true) (x y z : UInt8) (hoth : 3 ≤ (othL (takenQ a p q)).length) (hxy : frs 3 ([a] ++ p.free ++ q.free) = [x, y, z]) (w : World) :
    Calls Try.prog 40 #[.int .u8 (a.toNat : Int), .iface (tyOf p) (pay p), .iface (tyOf q) (pay q)] w fun e w' => e = .returned (.iface (tyOf (testC x y z a p q)) (pay (testC x y z a p q))) ∧ Below w.heap.size w w' := by
  have ht : (othL (takenQ a p q)).take 3 = [x, y, z] := by rw [frs_of (l := [a] ++ p.free ++ q.free) 3 (mem_takenQ a p q) hoth, hxy]
  have hn2 : ∀ c ∈ [x, y, z], nmL c = true := by
    rw [← ht]; intro c hc
    exact (nmL_iff c).2 ((mem_oth _ c).1 (List.mem_of_mem_take hc)).1
  have hx : nmL x = true := hn2 x (by simp)
  have hy : nmL y = true := hn2 y (by simp)
  have HF1 := Lib.hid (freeNames_any p hp)
  have HF2 := Lib.hid (freeNames_any q hq)
  have HO := Lib.hid (or_set p.free q.free (lets_free p hp) (lets_free q hq))
  have HW := Lib.hid (with_set (bothL p.free q.free) (lets_bothL (lets_free p hp) (lets_free q hq)) a ha)
  have e4 : setN (addL (bothL p.free q.free) a) = setN (takenQ a p q) := rfl
  rw [e4] at HW
  have HF := Lib.hid (fun w1 => ff_yes (setN (takenQ a p q)) _ rfl (lets_takenQ ha hp hq) 3 3 rfl (by omega) hoth w1)
  rw [ht] at HF
  have HD := Lib.hid (fun g w1 (hr : BRow w1 g [x, y]) => sd_yes a [x, y] .nil ha (lets_of (nm2 hx hy)) rfl 2 rfl g 2 w1 hr (link_nil a x y))
  have en : tyOf .nil = 70 ∧ pay .nil = .agg #[] := ⟨rfl, rfl⟩
  rw [en.1, en.2] at HD
  have HM := Lib.hid (fun g w1 (hr : BRow w1 g [x, y]) => made_any 73 #[] (fun c => Hd.own c) cf_t1 [x, y] 2 rfl g 2 w1 hr (fun c w2 _ => tt1 _ w2))
  have HR := Lib.hid (receivers_any x y z p q)
  have HI := Lib.hid (fun v base w1 (ho : w1.ownsRow base 34 1 v 2 (([x, y].map fun c => Hd.own c).map Hd.enc)) => inFront_any ([x, y].map fun c => Hd.own c) (.par (sendC a [x, y] .nil) (.par (.rcv x z p) (.rcv y z q))) 2 rfl (by omega) v base w1 ho)
  obtain ⟨X1, hX1⟩ : ∃ X, X = setN p.free := ⟨_, rfl⟩
  obtain ⟨X2, hX2⟩ : ∃ X, X = setN q.free := ⟨_, rfl⟩
  obtain ⟨X3, hX3⟩ : ∃ X, X = setN (bothL p.free q.free) := ⟨_, rfl⟩
  obtain ⟨X4, hX4⟩ : ∃ X, X = setN (takenQ a p q) := ⟨_, rfl⟩
  rw [← hX1] at HF1 HO
  rw [← hX2] at HF2 HO
  rw [← hX3] at HO HW
  rw [← hX4] at HW HF
  obtain ⟨T1, hT1⟩ : ∃ T, T = tyOf (sendC a [x, y] .nil) := ⟨_, rfl⟩
  obtain ⟨V1, hV1⟩ : ∃ V, V = pay (sendC a [x, y] .nil) := ⟨_, rfl⟩
  obtain ⟨T2, hT2⟩ : ∃ T, T = tyOf (.par (.rcv x z p) (.rcv y z q)) := ⟨_, rfl⟩
  obtain ⟨V2, hV2⟩ : ∃ V, V = pay (.par (.rcv x z p) (.rcv y z q)) := ⟨_, rfl⟩
  rw [← hT1, ← hV1] at HD
  rw [← hT2, ← hV2] at HR
  have eb : tyOf (.par (sendC a [x, y] .nil) (.par (.rcv x z p) (.rcv y z q))) = 81 ∧ pay (.par (sendC a [x, y] .nil) (.par (.rcv x z p) (.rcv y z q))) = .agg #[.iface T1 V1, .iface T2 V2] := by
    rw [hT1, hV1, hT2, hV2]; exact ⟨rfl, rfl⟩
  rw [eb.1, eb.2] at HI
  show Calls _ _ _ _ fun e w' => e = .returned (.iface (tyOf (puts ([x, y].map fun c => Hd.own c) (.par (sendC a [x, y] .nil) (.par (.rcv x z p) (.rcv y z q))))) (pay (puts ([x, y].map fun c => Hd.own c) (.par (sendC a [x, y] .nil) (.par (.rcv x z p) (.rcv y z q)))))) ∧ Below w.heap.size w w'
  obtain ⟨T3, hT3⟩ : ∃ T, T = tyOf (puts ([x, y].map fun c => Hd.own c) (.par (sendC a [x, y] .nil) (.par (.rcv x z p) (.rcv y z q)))) := ⟨_, rfl⟩
  obtain ⟨V3, hV3⟩ : ∃ V, V = pay (puts ([x, y].map fun c => Hd.own c) (.par (sendC a [x, y] .nil) (.par (.rcv x z p) (.rcv y z q)))) := ⟨_, rfl⟩
  rw [← hT3, ← hV3] at HI ⊢
  obtain ⟨T4, hT4⟩ : ∃ T, T = tyOf p := ⟨_, rfl⟩
  obtain ⟨V4, hV4⟩ : ∃ V, V = pay p := ⟨_, rfl⟩
  obtain ⟨T5, hT5⟩ : ∃ T, T = tyOf q := ⟨_, rfl⟩
  obtain ⟨V5, hV5⟩ : ∃ V, V = pay q := ⟨_, rfl⟩
  rw [← hT4, ← hV4] at HF1 HR ⊢
  rw [← hT5, ← hV5] at HF2 HR ⊢
  obtain ⟨RW, hRW⟩ : ∃ l, l = ([x, y].map fun c => Hd.own c).map Hd.enc := ⟨_, rfl⟩
  rw [← hRW] at HM HI
  obtain ⟨aa, haa⟩ : ∃ n : Int, n = (a.toNat : Int) := ⟨_, rfl⟩
  obtain ⟨xx, hxx⟩ : ∃ n : Int, n = (x.toNat : Int) := ⟨_, rfl⟩
  obtain ⟨yy, hyy⟩ : ∃ n : Int, n = (y.toNat : Int) := ⟨_, rfl⟩
  obtain ⟨zz, hzz⟩ : ∃ n : Int, n = (z.toNat : Int) := ⟨_, rfl⟩
  rw [← haa] at HW HD ⊢
  rw [← hxx, ← hyy, ← hzz] at HR
  have HX : Hid (∀ W g, BRow W g [x, y, z] → BRow W g [x, y] ∧ W.cell? ⟨g, 2, none⟩ = some (.int .u8 zz)) := fun W g h => by
    have c2 := h.2.2 2 (by simp)
    simp only [List.getElem_cons_zero, List.getElem_cons_succ] at c2
    rw [hzz]; exact ⟨h.take 2, c2⟩
  have HY : Hid (∀ W g, BRow W g [x, y] → W.cell? ⟨g, 0, none⟩ = some (.int .u8 xx) ∧ W.cell? ⟨g, 1, none⟩ = some (.int .u8 yy)) := fun W g h => by
    have c0 := h.2.2 0 (by simp)
    have c1 := h.2.2 1 (by simp)
    simp only [List.getElem_cons_zero, List.getElem_cons_succ] at c0 c1
    rw [hxx, hyy]; exact ⟨c0, c1⟩
  clear ht hn2 hx hy hX1 hX2 hX3 hX4 hT1 hV1 hT2 hV2 hT3 hV3 hT4 hV4 hT5 hV5 haa hxx hyy hzz ha hp hq hxy hoth en eb e4 hRW
  go_enter Try.func40, Try.ntmps40
  go_wp2_with fail
  with_reducible refine (HF1.out _).mono ?_
  rintro e w1 ⟨rfl, b1⟩
  go_wp2_with fail
  with_reducible refine (HF2.out _).mono ?_
  rintro e w2 ⟨rfl, b2⟩
  have bl2 := cdgo b1 b2
  clear b1 b2
  go_wp2_with fail
  rw [HO.out]
  go_wp2_with fail
  with_reducible refine (HW.out _).mono ?_
  rintro e w' ⟨rfl, rfl⟩
  go_wp2_with fail
  with_reducible refine (HF.out _).mono ?_
  rintro e w3 ⟨g, rfl, hr, b3⟩
  have bl3 := cdgo bl2 b3
  obtain ⟨hr2, c2⟩ := HX.out _ _ hr
  have R3 := Lib.hid (hr2.below (Below.refl _ _).drew)
  clear hr hr2 b3 bl2 HX
  have k3 := bl3.drew
  go_wp2_with fail
  go_region
  go_wp2_with fail
  with_reducible refine (HD.out _ _ R3.out).mono ?_
  rintro e w4 ⟨rfl, b4⟩
  have k4 := cdgo k3 b4
  have R4 := Lib.hid (R3.out.below b4)
  clear b4 R3 k3 c2 bl3
  go_wp2_with fail
  with_reducible refine (HM.out _ _ R4.out).mono ?_
  rintro e w5 ⟨v, rfl, ho, b5⟩
  have k5 := cdgo k4 b5
  obtain ⟨c0, c1⟩ := HY.out _ _ (R4.out.below b5)
  have O5 := Lib.hid (own_below2 ho (Below.refl _ _).drew)
  obtain ⟨pv, cv, rfl⟩ := cd_form ho
  clear ho b5 k4 R4
  go_wp2_with fail
  have k5d := k5.drew
  have lg0 : g < w5.heap.size := World.block_lt_of_cell? w5 _ c0
  have lg : g < w5.drew.heap.size := lg0
  have c0d : w5.drew.cell? ⟨g, 0, none⟩ = some (.int .u8 xx) := c0
  have c1d : w5.drew.cell? ⟨g, 1, none⟩ = some (.int .u8 yy) := c1
  go_region_held3 (fun w' => w'.cell? ⟨g, 0, none⟩ = some (.int .u8 xx) ∧ w'.cell? ⟨g, 1, none⟩ = some (.int .u8 yy)) (first | exact ⟨c0, c1⟩ | exact ⟨f0, f1⟩ | assumption | go_keep)
    (first
    | (go_at_call 75; with_reducible refine (HR.out _).mono ?_; rintro e w6 ⟨rfl, rfl⟩)
    | (go_at_call 74; with_reducible refine (HI.out _ _ _ O5.out).mono ?_; rintro e w7 ⟨rfl, b7⟩; have k7 := cdgo k5d b7; have f0 := (b7.cell (p := ⟨g, 0, none⟩) lg).trans c0d; have f1 := (b7.cell (p := ⟨g, 1, none⟩) lg).trans c1d))
  all_goals
    go_wp2_with fail
    go_ret
    exact ⟨rfl, by assumption⟩
set_option maxHeartbeats 2000000 in
theorem testAt_no (a : UInt8) (p q : Tm) (ha : nmL a = true) (hp : p.ok nmL = true) (hq : q.ok nmL = true) (hoth : (othL (takenQ a p q)).length < 3) (w : World) :
    Calls Try.prog 40 #[.int .u8 (a.toNat : Int), .iface (tyOf p) (pay p), .iface (tyOf q) (pay q)] w fun e w' => e = failed ∧ Below w.heap.size w w' := by
  have HF1 := Lib.hid (freeNames_any p hp)
  have HF2 := Lib.hid (freeNames_any q hq)
  have HO := Lib.hid (or_set p.free q.free (lets_free p hp) (lets_free q hq))
  have HW := Lib.hid (with_set (bothL p.free q.free) (lets_bothL (lets_free p hp) (lets_free q hq)) a ha)
  have e4 : setN (addL (bothL p.free q.free) a) = setN (takenQ a p q) := rfl
  rw [e4] at HW
  have HF := Lib.hid (fun w1 => ff_no (setN (takenQ a p q)) _ rfl (lets_takenQ ha hp hq) 3 3 rfl hoth (by omega) w1)
  obtain ⟨X1, hX1⟩ : ∃ X, X = setN p.free := ⟨_, rfl⟩
  obtain ⟨X2, hX2⟩ : ∃ X, X = setN q.free := ⟨_, rfl⟩
  obtain ⟨X3, hX3⟩ : ∃ X, X = setN (bothL p.free q.free) := ⟨_, rfl⟩
  obtain ⟨X4, hX4⟩ : ∃ X, X = setN (takenQ a p q) := ⟨_, rfl⟩
  rw [← hX1] at HF1 HO
  rw [← hX2] at HF2 HO
  rw [← hX3] at HO HW
  rw [← hX4] at HW HF
  obtain ⟨T4, hT4⟩ : ∃ T, T = tyOf p := ⟨_, rfl⟩
  obtain ⟨V4, hV4⟩ : ∃ V, V = pay p := ⟨_, rfl⟩
  obtain ⟨T5, hT5⟩ : ∃ T, T = tyOf q := ⟨_, rfl⟩
  obtain ⟨V5, hV5⟩ : ∃ V, V = pay q := ⟨_, rfl⟩
  rw [← hT4, ← hV4] at HF1 ⊢
  rw [← hT5, ← hV5] at HF2 ⊢
  obtain ⟨aa, haa⟩ : ∃ n : Int, n = (a.toNat : Int) := ⟨_, rfl⟩
  rw [← haa] at HW ⊢
  clear hX1 hX2 hX3 hX4 hT4 hV4 hT5 hV5 haa ha hp hq hoth e4
  go_enter Try.func40, Try.ntmps40
  go_wp2_with fail
  with_reducible refine (HF1.out _).mono ?_
  rintro e w1 ⟨rfl, b1⟩
  go_wp2_with fail
  with_reducible refine (HF2.out _).mono ?_
  rintro e w2 ⟨rfl, b2⟩
  have bl2 := cdgo b1 b2
  clear b1 b2
  go_wp2_with fail
  rw [HO.out]
  go_wp2_with fail
  with_reducible refine (HW.out _).mono ?_
  rintro e w' ⟨rfl, rfl⟩
  go_wp2_with fail
  with_reducible refine (HF.out _).mono ?_
  rintro e w3 ⟨rfl, b3⟩
  exact ⟨rfl, rfl, cdgo bl2 b3⟩
set_option maxHeartbeats 4000000 in
theorem choiceOf_yes (p q : Tm) (hp : p.ok nmL = true) (hq : q.ok nmL = true) (s z : UInt8) (hoth : 2 ≤ (othL (bothL p.free q.free)).length) (hxy : frs 2 (p.free ++ q.free) = [s, z]) (w : World) :
    Calls Try.prog 63 #[.iface (tyOf p) (pay p), .iface (tyOf q) (pay q)] w fun e w' => e = .returned (.iface (tyOf (choiceC s z p q)) (pay (choiceC s z p q))) ∧ Below w.heap.size w w' := by
  have ht : (othL (bothL p.free q.free)).take 2 = [s, z] := by rw [frs_of (l := p.free ++ q.free) 2 (fun x => by rw [mem_bothL]; simp) hoth, hxy]
  have HF1 := Lib.hid (freeNames_any p hp)
  have HF2 := Lib.hid (freeNames_any q hq)
  have HO := Lib.hid (or_set p.free q.free (lets_free p hp) (lets_free q hq))
  have HF := Lib.hid (fun w1 => ff_yes (setN (bothL p.free q.free)) _ rfl (lets_bothL (lets_free p hp) (lets_free q hq)) 2 2 rfl (by omega) hoth w1)
  rw [ht] at HF
  have HS := Lib.hid (sendOnly_any s s)
  have HR := Lib.hid (receivers_any s s z p q)
  obtain ⟨X1, hX1⟩ : ∃ X, X = setN p.free := ⟨_, rfl⟩
  obtain ⟨X2, hX2⟩ : ∃ X, X = setN q.free := ⟨_, rfl⟩
  obtain ⟨X3, hX3⟩ : ∃ X, X = setN (bothL p.free q.free) := ⟨_, rfl⟩
  rw [← hX1] at HF1 HO
  rw [← hX2] at HF2 HO
  rw [← hX3] at HO HF
  obtain ⟨T1, hT1⟩ : ∃ T, T = tyOf (.snd s s .nil) := ⟨_, rfl⟩
  obtain ⟨V1, hV1⟩ : ∃ V, V = pay (.snd s s .nil) := ⟨_, rfl⟩
  obtain ⟨T2, hT2⟩ : ∃ T, T = tyOf (.par (.rcv s z p) (.rcv s z q)) := ⟨_, rfl⟩
  obtain ⟨V2, hV2⟩ : ∃ V, V = pay (.par (.rcv s z p) (.rcv s z q)) := ⟨_, rfl⟩
  rw [← hT1, ← hV1] at HS
  rw [← hT2, ← hV2] at HR
  have eb : tyOf (choiceC s z p q) = 74 ∧ pay (choiceC s z p q) = .agg #[.int .u8 (s.toNat : Int), .iface 81 (.agg #[.iface T1 V1, .iface T2 V2])] := by
    rw [hT1, hV1, hT2, hV2]; exact ⟨rfl, rfl⟩
  rw [eb.1, eb.2]
  obtain ⟨T4, hT4⟩ : ∃ T, T = tyOf p := ⟨_, rfl⟩
  obtain ⟨V4, hV4⟩ : ∃ V, V = pay p := ⟨_, rfl⟩
  obtain ⟨T5, hT5⟩ : ∃ T, T = tyOf q := ⟨_, rfl⟩
  obtain ⟨V5, hV5⟩ : ∃ V, V = pay q := ⟨_, rfl⟩
  rw [← hT4, ← hV4] at HF1 HR ⊢
  rw [← hT5, ← hV5] at HF2 HR ⊢
  obtain ⟨ss, hss⟩ : ∃ n : Int, n = (s.toNat : Int) := ⟨_, rfl⟩
  obtain ⟨zz, hzz⟩ : ∃ n : Int, n = (z.toNat : Int) := ⟨_, rfl⟩
  rw [← hss] at HS HR ⊢
  rw [← hzz] at HR
  have HX : Hid (∀ W g, BRow W g [s, z] → W.cell? ⟨g, 0, none⟩ = some (.int .u8 ss) ∧ W.cell? ⟨g, 1, none⟩ = some (.int .u8 zz)) := fun W g h => by
    have c0 := h.2.2 0 (by simp)
    have c1 := h.2.2 1 (by simp)
    simp only [List.getElem_cons_zero, List.getElem_cons_succ] at c0 c1
    rw [hss, hzz]; exact ⟨c0, c1⟩
  clear ht hX1 hX2 hX3 hT1 hV1 hT2 hV2 hT4 hV4 hT5 hV5 hss hzz hp hq hxy hoth eb
  go_enter Try.func63, Try.ntmps63
  go_wp2_with fail
  with_reducible refine (HF1.out _).mono ?_
  rintro e w1 ⟨rfl, b1⟩
  go_wp2_with fail
  with_reducible refine (HF2.out _).mono ?_
  rintro e w2 ⟨rfl, b2⟩
  have bl2 := cdgo b1 b2
  clear b1 b2
  go_wp2_with fail
  rw [HO.out]
  go_wp2_with fail
  with_reducible refine (HF.out _).mono ?_
  rintro e w3 ⟨g, rfl, hr, b3⟩
  have bl3 := cdgo bl2 b3
  obtain ⟨c0, c1⟩ := HX.out _ _ hr
  clear hr b3 bl2 HX
  have k3 := bl3.drew
  go_wp2_with fail
  go_region
  go_wp2_with fail
  with_reducible refine (HS.out _).mono ?_
  rintro e w4 ⟨rfl, rfl⟩
  go_wp2_with fail
  with_reducible refine (HR.out _).mono ?_
  rintro e w5 ⟨rfl, rfl⟩
  go_wp2_with fail
  go_ret
  exact ⟨rfl, k3⟩
set_option maxHeartbeats 2000000 in
theorem choiceOf_no (p q : Tm) (hp : p.ok nmL = true) (hq : q.ok nmL = true) (hoth : (othL (bothL p.free q.free)).length < 2) (w : World) :
    Calls Try.prog 63 #[.iface (tyOf p) (pay p), .iface (tyOf q) (pay q)] w fun e w' => e = failed ∧ Below w.heap.size w w' := by
  have HF1 := Lib.hid (freeNames_any p hp)
  have HF2 := Lib.hid (freeNames_any q hq)
  have HO := Lib.hid (or_set p.free q.free (lets_free p hp) (lets_free q hq))
  have HF := Lib.hid (fun w1 => ff_no (setN (bothL p.free q.free)) _ rfl (lets_bothL (lets_free p hp) (lets_free q hq)) 2 2 rfl hoth (by omega) w1)
  obtain ⟨X1, hX1⟩ : ∃ X, X = setN p.free := ⟨_, rfl⟩
  obtain ⟨X2, hX2⟩ : ∃ X, X = setN q.free := ⟨_, rfl⟩
  obtain ⟨X3, hX3⟩ : ∃ X, X = setN (bothL p.free q.free) := ⟨_, rfl⟩
  rw [← hX1] at HF1 HO
  rw [← hX2] at HF2 HO
  rw [← hX3] at HO HF
  obtain ⟨T4, hT4⟩ : ∃ T, T = tyOf p := ⟨_, rfl⟩
  obtain ⟨V4, hV4⟩ : ∃ V, V = pay p := ⟨_, rfl⟩
  obtain ⟨T5, hT5⟩ : ∃ T, T = tyOf q := ⟨_, rfl⟩
  obtain ⟨V5, hV5⟩ : ∃ V, V = pay q := ⟨_, rfl⟩
  rw [← hT4, ← hV4] at HF1 ⊢
  rw [← hT5, ← hV5] at HF2 ⊢
  clear hX1 hX2 hX3 hT4 hV4 hT5 hV5 hp hq hoth
  go_enter Try.func63, Try.ntmps63
  go_wp2_with fail
  with_reducible refine (HF1.out _).mono ?_
  rintro e w1 ⟨rfl, b1⟩
  go_wp2_with fail
  with_reducible refine (HF2.out _).mono ?_
  rintro e w2 ⟨rfl, b2⟩
  have bl2 := cdgo b1 b2
  clear b1 b2
  go_wp2_with fail
  rw [HO.out]
  go_wp2_with fail
  with_reducible refine (HF.out _).mono ?_
  rintro e w3 ⟨rfl, b3⟩
  exact ⟨rfl, rfl, cdgo bl2 b3⟩
end Go.Proofs.Ytohaddhjnghcpaa.T1
