/- Texts of the proof, put together: Cdf. No conditions. -/
import Derived.Test.YtohaddhjnghcpaaHbn

/- Tuples that are sent and received, in the program. No conditions. -/
namespace Go.Proofs.Ytohaddhjnghcpaa.T1
open Go.RowKit
set_option maxRecDepth 100000
set_option linter.unusedVariables false
set_option linter.unusedSimpArgs false

theorem own_new2 (w : World) (x y : Value) (T : TypeId) (base : Nat) (hb : base ≤ w.heap.size) : (w.alloc (.cells #[x, y] T)).ownsRow base T 1 (.slice (some ⟨w.heap.size, 0, none⟩) 2 2) 2 [x, y] :=
  ⟨rfl, .inr ⟨w.heap.size, 2, #[x, y], rfl, hb, heap_alloc_new w _, Nat.le_refl _, by unfold maxLen; omega, rfl, rfl⟩⟩
theorem cf_st (args : Array Value) (w : World) : (callFunc 95 args).run Try.prog w = .ok (.enter 95 args) w := by kernel_rfl
theorem cf_rt (args : Array Value) (w : World) : (callFunc 103 args).run Try.prog w = .ok (.enter 103 args) w := by kernel_rfl
theorem st1 (c d : Int) (b : Nat) (w : World) (hc : w.cell? ⟨b, 0, none⟩ = some (.int .u8 d)) :
    Calls Try.prog 95 (#[.int .u8 c] ++ #[.pointer (some ⟨b, 0, none⟩)]) w fun e w' => e = .returned (.iface 86 (.agg #[.int .u8 d, .int .u8 c, .nilIface])) ∧ Below w.heap.size w w' := by
  show Calls Try.prog 95 #[.int .u8 c, .pointer (some ⟨b, 0, none⟩)] w _
  go_enter Try.func95, Try.ntmps95
  go_wp2_with fail
  go_ret
  exact ⟨rfl, Below.refl _ _⟩
theorem rt1 (c d : Int) (b : Nat) (w : World) (hc : w.cell? ⟨b, 0, none⟩ = some (.int .u8 d)) :
    Calls Try.prog 103 (#[.int .u8 c] ++ #[.pointer (some ⟨b, 0, none⟩)]) w fun e w' => e = .returned (.iface 52 (.agg #[.int .u8 d, .int .u8 c, .nilIface])) ∧ Below w.heap.size w w' := by
  show Calls Try.prog 103 #[.int .u8 c, .pointer (some ⟨b, 0, none⟩)] w _
  go_enter Try.func103, Try.ntmps103
  go_wp2_with fail
  go_ret
  exact ⟨rfl, Below.refl _ _⟩

set_option maxHeartbeats 2000000 in
theorem sd_yes (a : UInt8) (l : List UInt8) (p : Tm) (ha : nmL a = true) (hl : Lets l) (hp : p.ok nmL = true) (n : Nat) (hn : n = l.length) (g cap : Nat) (w : World) (hr : BRow w g l) (hw : nmL (linkN a l p) = true) :
    Calls Try.prog 71 #[.int .u8 (a.toNat : Int), .slice (some ⟨g, 0, none⟩) n cap, .iface (tyOf p) (pay p)] w fun e w' => e = .returned (.iface (tyOf (sendC a l p)) (pay (sendC a l p))) ∧ Below w.heap.size w w' := by
  have HL := Lib.hid (lf_yes a l p ha hl hp n hn g cap w hr hw)
  obtain ⟨c, hc⟩ : ∃ c, c = linkN a l p := ⟨_, rfl⟩
  have e0 : sendC a l p = puts ([Hd.own c, Hd.snd a c] ++ l.map fun b => Hd.snd c b) p := by
    rw [hc]; exact congrArg (fun x => Tm.own _ (Tm.snd _ _ x)) (puts_snd _ l p).symm
  rw [e0]
  rw [← hc] at HL
  have hl100 := hr.2.1
  have HR := Lib.hid hr
  have HM := Lib.hid (fun b w1 (hr1 : BRow w1 g l) (h1 : w1.cell? ⟨b, 0, none⟩ = some (.int .u8 (c.toNat : Int))) => made_any 95 #[.pointer (some ⟨b, 0, none⟩)] (fun x => Hd.snd c x) cf_st l n hn g cap w1 hr1 (fun x w2 bl => st1 _ _ b w2 ((bl.cell (p := ⟨b, 0, none⟩) (World.block_lt_of_cell? w1 _ h1)).trans h1)))
  have HI := Lib.hid (fun v base w1 (ho : w1.ownsRow base 34 1 v (n + 2) (([Hd.own c, Hd.snd a c] ++ l.map fun b => Hd.snd c b).map Hd.enc)) => inFront_any ([Hd.own c, Hd.snd a c] ++ l.map fun b => Hd.snd c b) p (n + 2) (by simp [hn]) (by omega) v base w1 ho)
  obtain ⟨i0, hi, hz0, hz1, hz2⟩ := info_parts Try.infoSg
  obtain ⟨T, hT⟩ : ∃ T, T = tyOf (puts ([Hd.own c, Hd.snd a c] ++ l.map fun b => Hd.snd c b) p) := ⟨_, rfl⟩
  obtain ⟨V, hV⟩ : ∃ V, V = pay (puts ([Hd.own c, Hd.snd a c] ++ l.map fun b => Hd.snd c b) p) := ⟨_, rfl⟩
  rw [← hT, ← hV] at HI ⊢
  obtain ⟨T0, hT0⟩ : ∃ T, T = tyOf p := ⟨_, rfl⟩
  obtain ⟨V0, hV0⟩ : ∃ V, V = pay p := ⟨_, rfl⟩
  rw [← hT0, ← hV0] at HI HL ⊢
  obtain ⟨cc, hcc⟩ : ∃ cc : Int, cc = (c.toNat : Int) := ⟨_, rfl⟩
  obtain ⟨aa, haa⟩ : ∃ aa : Int, aa = (a.toNat : Int) := ⟨_, rfl⟩
  rw [← hcc] at HL HM
  rw [← haa] at HL ⊢
  obtain ⟨L, hL⟩ : ∃ L, L = (l.map fun b => Hd.snd c b).map Hd.enc := ⟨_, rfl⟩
  have HLL : Hid (([Hd.own c, Hd.snd a c] ++ l.map fun b => Hd.snd c b).map Hd.enc = [.iface 74 (.agg #[.int .u8 cc, .nilIface]), .iface 86 (.agg #[.int .u8 aa, .int .u8 cc, .nilIface])] ++ L) := by
    show _ = _; rw [List.map_append, hL, hcc, haa]; rfl
  have HL1 : Hid (∀ u ∈ L, u.oneCell' = true) := fun u hu => by
    rw [hL] at hu
    obtain ⟨h, _, rfl⟩ := List.mem_map.1 hu
    cases h <;> rfl
  rw [← hL] at HM
  rw [HLL.out] at HI
  have n100 : n ≤ 100 := by omega
  clear e0 hc hr hw hp hl ha hn hT hV hT0 hV0 hcc haa hL hl100
  go_enter Try.func71, Try.ntmps71
  go_wp2_with fail
  with_reducible refine (HL.out).mono ?_
  rintro e w1 ⟨rfl, b1⟩
  have hmf : ∀ (fn : Fn) (first cap : Array Value) (w : World), (Instr.makeFunc fn first cap).run Try.prog w = .ok (.func fn first cap) w := fun _ _ _ _ => rfl
  go_wp2_with fail
  have bl1 := (b1.alloc b1.size (.cells #[.int .u8 cc] 5))
  have own2 := own_new2 (w1.alloc (.cells #[.int .u8 cc] 5)) (.iface 74 (.agg #[.int .u8 cc, .nilIface])) (.iface 86 (.agg #[.int .u8 aa, .int .u8 cc, .nilIface])) 34 w.heap.size bl1.size
  have bl2 := bl1.alloc bl1.size (.cells #[.iface 74 (.agg #[.int .u8 cc, .nilIface]), .iface 86 (.agg #[.int .u8 aa, .int .u8 cc, .nilIface])] 34)
  have c1 : ((w1.alloc (.cells #[.int .u8 cc] 5)).alloc (.cells #[.iface 74 (.agg #[.int .u8 cc, .nilIface]), .iface 86 (.agg #[.int .u8 aa, .int .u8 cc, .nilIface])] 34)).cell? ⟨w1.heap.size, 0, none⟩ = some (.int .u8 cc) := by
    rw [World.cell?_alloc_past _ _ _ (by simp), World.cell?_alloc_new]; simp
  have sz1 : (w1.alloc (.cells #[.int .u8 cc] 5)).heap.size = w1.heap.size + 1 := by simp
  rw [sz1] at own2
  obtain ⟨W2, hW2⟩ : ∃ W2, W2 = ((w1.alloc (.cells #[.int .u8 cc] 5)).alloc (.cells #[.iface 74 (.agg #[.int .u8 cc, .nilIface]), .iface 86 (.agg #[.int .u8 aa, .int .u8 cc, .nilIface])] 34)) := ⟨_, rfl⟩
  rw [← hW2] at own2 bl2 c1 ⊢
  have O2 := Lib.hid own2
  clear hW2 sz1 own2 b1 bl1
  with_reducible refine (HM.out w1.heap.size _ (HR.out.below bl2) c1).mono ?_
  rintro e w3 ⟨v, rfl, ho, b3⟩
  have HO := Lib.hid ho
  have O3 := Lib.hid (own_below2 O2.out b3)
  have bl3 := cdgo bl2 b3
  obtain ⟨p3, cap3, rfl⟩ := cd_form ho
  clear ho O2 b3 bl2 c1
  have hsz3 := bl3.size
  go_wp2_with (at_builtin; refine wpList_append_rows rfl (.tmp 25) (.tmp 26) 71 rfl w.heap.size _ 34 i0 .nilIface 16 Try.underlying71 hi hz0 hz1 hz2 rfl _ 2 _ rfl O3.out _ n L rfl HO.out HL1.out ?c2 ?c3 ?c4 ?_)
  case c2 => unfold maxLen; omega
  case c3 => omega
  case c4 => exact hsz3
  intro v4 w4 hown4 hgrow4 _
  rw [Nat.add_comm 2 n] at hown4
  have hol := O3.out.lt
  have bl4 := below_grown2 bl3 hgrow4 (fun g e => (hol g e).1) hsz3
  have O4 := Lib.hid hown4
  obtain ⟨p4, cap4, rfl⟩ := cd_form hown4
  clear hown4 hgrow4 hol
  go_wp2_with fail
  refine (HI.out _ _ _ O4.out).mono ?_
  rintro e w5 ⟨rfl, b5⟩
  have bl5 := cdgo bl4 b5
  go_wp2_with fail
  go_ret
  exact ⟨rfl, bl5⟩
set_option maxHeartbeats 2000000 in
theorem rc_yes (a : UInt8) (l : List UInt8) (p : Tm) (ha : nmL a = true) (hl : Lets l) (hp : p.ok nmL = true) (n : Nat) (hn : n = l.length) (g cap : Nat) (w : World) (hr : BRow w g l) (hw : nmL (linkN a l p) = true) :
    Calls Try.prog 91 #[.int .u8 (a.toNat : Int), .slice (some ⟨g, 0, none⟩) n cap, .iface (tyOf p) (pay p)] w fun e w' => e = .returned (.iface (tyOf (recvC a l p)) (pay (recvC a l p))) ∧ Below w.heap.size w w' := by
  have HL := Lib.hid (lf_yes a l p ha hl hp n hn g cap w hr hw)
  obtain ⟨c, hc⟩ : ∃ c, c = linkN a l p := ⟨_, rfl⟩
  have e0 : recvC a l p = puts ([Hd.rcv a c] ++ l.map fun b => Hd.rcv c b) p := by
    rw [hc]; exact congrArg (fun x => Tm.rcv _ _ x) (puts_rcv _ l p).symm
  rw [e0]
  rw [← hc] at HL
  have hl100 := hr.2.1
  have HR := Lib.hid hr
  have HM := Lib.hid (fun b w1 (hr1 : BRow w1 g l) (h1 : w1.cell? ⟨b, 0, none⟩ = some (.int .u8 (c.toNat : Int))) => made_any 103 #[.pointer (some ⟨b, 0, none⟩)] (fun x => Hd.rcv c x) cf_rt l n hn g cap w1 hr1 (fun x w2 bl => rt1 _ _ b w2 ((bl.cell (p := ⟨b, 0, none⟩) (World.block_lt_of_cell? w1 _ h1)).trans h1)))
  have HI := Lib.hid (fun v base w1 (ho : w1.ownsRow base 34 1 v (n + 1) (([Hd.rcv a c] ++ l.map fun b => Hd.rcv c b).map Hd.enc)) => inFront_any ([Hd.rcv a c] ++ l.map fun b => Hd.rcv c b) p (n + 1) (by simp [hn]) (by omega) v base w1 ho)
  obtain ⟨i0, hi, hz0, hz1, hz2⟩ := info_parts Try.infoSg
  obtain ⟨T, hT⟩ : ∃ T, T = tyOf (puts ([Hd.rcv a c] ++ l.map fun b => Hd.rcv c b) p) := ⟨_, rfl⟩
  obtain ⟨V, hV⟩ : ∃ V, V = pay (puts ([Hd.rcv a c] ++ l.map fun b => Hd.rcv c b) p) := ⟨_, rfl⟩
  rw [← hT, ← hV] at HI ⊢
  obtain ⟨T0, hT0⟩ : ∃ T, T = tyOf p := ⟨_, rfl⟩
  obtain ⟨V0, hV0⟩ : ∃ V, V = pay p := ⟨_, rfl⟩
  rw [← hT0, ← hV0] at HI HL ⊢
  obtain ⟨cc, hcc⟩ : ∃ cc : Int, cc = (c.toNat : Int) := ⟨_, rfl⟩
  obtain ⟨aa, haa⟩ : ∃ aa : Int, aa = (a.toNat : Int) := ⟨_, rfl⟩
  rw [← hcc] at HL HM
  rw [← haa] at HL ⊢
  obtain ⟨L, hL⟩ : ∃ L, L = (l.map fun b => Hd.rcv c b).map Hd.enc := ⟨_, rfl⟩
  have HLL : Hid (([Hd.rcv a c] ++ l.map fun b => Hd.rcv c b).map Hd.enc = [.iface 52 (.agg #[.int .u8 aa, .int .u8 cc, .nilIface])] ++ L) := by
    show _ = _; rw [List.map_append, hL, hcc, haa]; rfl
  have HL1 : Hid (∀ u ∈ L, u.oneCell' = true) := fun u hu => by
    rw [hL] at hu
    obtain ⟨h, _, rfl⟩ := List.mem_map.1 hu
    cases h <;> rfl
  rw [← hL] at HM
  rw [HLL.out] at HI
  have n100 : n ≤ 100 := by omega
  clear e0 hc hr hw hp hl ha hn hT hV hT0 hV0 hcc haa hL hl100
  go_enter Try.func91, Try.ntmps91
  go_wp2_with fail
  with_reducible refine (HL.out).mono ?_
  rintro e w1 ⟨rfl, b1⟩
  have hmf : ∀ (fn : Fn) (first cap : Array Value) (w : World), (Instr.makeFunc fn first cap).run Try.prog w = .ok (.func fn first cap) w := fun _ _ _ _ => rfl
  go_wp2_with fail
  have bl1 := (b1.alloc b1.size (.cells #[.int .u8 cc] 5))
  have own2 := own_new1 (w1.alloc (.cells #[.int .u8 cc] 5)) (.iface 52 (.agg #[.int .u8 aa, .int .u8 cc, .nilIface])) 34 w.heap.size bl1.size
  have bl2 := bl1.alloc bl1.size (.cells #[.iface 52 (.agg #[.int .u8 aa, .int .u8 cc, .nilIface])] 34)
  have c1 : ((w1.alloc (.cells #[.int .u8 cc] 5)).alloc (.cells #[.iface 52 (.agg #[.int .u8 aa, .int .u8 cc, .nilIface])] 34)).cell? ⟨w1.heap.size, 0, none⟩ = some (.int .u8 cc) := by
    rw [World.cell?_alloc_past _ _ _ (by simp), World.cell?_alloc_new]; simp
  have sz1 : (w1.alloc (.cells #[.int .u8 cc] 5)).heap.size = w1.heap.size + 1 := by simp
  rw [sz1] at own2
  obtain ⟨W2, hW2⟩ : ∃ W2, W2 = ((w1.alloc (.cells #[.int .u8 cc] 5)).alloc (.cells #[.iface 52 (.agg #[.int .u8 aa, .int .u8 cc, .nilIface])] 34)) := ⟨_, rfl⟩
  rw [← hW2] at own2 bl2 c1 ⊢
  have O2 := Lib.hid own2
  clear hW2 sz1 own2 b1 bl1
  with_reducible refine (HM.out w1.heap.size _ (HR.out.below bl2) c1).mono ?_
  rintro e w3 ⟨v, rfl, ho, b3⟩
  have HO := Lib.hid ho
  have O3 := Lib.hid (own_below2 O2.out b3)
  have bl3 := cdgo bl2 b3
  obtain ⟨p3, cap3, rfl⟩ := cd_form ho
  clear ho O2 b3 bl2 c1
  have hsz3 := bl3.size
  go_wp2_with (at_builtin; refine wpList_append_rows rfl (.tmp 22) (.tmp 23) 71 rfl w.heap.size _ 34 i0 .nilIface 16 Try.underlying71 hi hz0 hz1 hz2 rfl _ 1 _ rfl O3.out _ n L rfl HO.out HL1.out ?c2 ?c3 ?c4 ?_)
  case c2 => unfold maxLen; omega
  case c3 => omega
  case c4 => exact hsz3
  intro v4 w4 hown4 hgrow4 _
  rw [Nat.add_comm 1 n] at hown4
  have hol := O3.out.lt
  have bl4 := below_grown2 bl3 hgrow4 (fun g e => (hol g e).1) hsz3
  have O4 := Lib.hid hown4
  obtain ⟨p4, cap4, rfl⟩ := cd_form hown4
  clear hown4 hgrow4 hol
  go_wp2_with fail
  refine (HI.out _ _ _ O4.out).mono ?_
  rintro e w5 ⟨rfl, b5⟩
  have bl5 := cdgo bl4 b5
  go_wp2_with fail
  go_ret
  exact ⟨rfl, bl5⟩
set_option maxHeartbeats 1000000 in
theorem sendOnly_any (a b : UInt8) (w : World) : Calls Try.prog 53 #[.int .u8 (a.toNat : Int), .int .u8 (b.toNat : Int)] w fun e w' => e = .returned (.iface (tyOf (.snd a b .nil)) (pay (.snd a b .nil))) ∧ w = w' := by
  show Calls _ _ _ _ fun e w' => e = .returned (.iface 86 (.agg #[.int .u8 (a.toNat : Int), .int .u8 (b.toNat : Int), .iface 70 (.agg #[])])) ∧ w = w'
  go_enter Try.func53, Try.ntmps53
  go_wp2_with fail
  go_ret
  exact ⟨rfl, rfl⟩
set_option maxHeartbeats 1000000 in
theorem receivers_any (a b z : UInt8) (p q : Tm) (w : World) : Calls Try.prog 75 #[.int .u8 (a.toNat : Int), .int .u8 (b.toNat : Int), .int .u8 (z.toNat : Int), .iface (tyOf p) (pay p), .iface (tyOf q) (pay q)] w fun e w' => e = .returned (.iface (tyOf (.par (.rcv a z p) (.rcv b z q))) (pay (.par (.rcv a z p) (.rcv b z q)))) ∧ w = w' := by
  show Calls _ _ _ _ fun e w' => e = .returned (.iface 81 (.agg #[.iface 52 (.agg #[.int .u8 (a.toNat : Int), .int .u8 (z.toNat : Int), .iface (tyOf p) (pay p)]), .iface 52 (.agg #[.int .u8 (b.toNat : Int), .int .u8 (z.toNat : Int), .iface (tyOf q) (pay q)])])) ∧ w = w'
  obtain ⟨T0, hT0⟩ : ∃ T, T = tyOf p := ⟨_, rfl⟩
  obtain ⟨V0, hV0⟩ : ∃ V, V = pay p := ⟨_, rfl⟩
  obtain ⟨T1, hT1⟩ : ∃ T, T = tyOf q := ⟨_, rfl⟩
  obtain ⟨V1, hV1⟩ : ∃ V, V = pay q := ⟨_, rfl⟩
  rw [← hT0, ← hV0, ← hT1, ← hV1]
  clear hT0 hV0 hT1 hV1
  go_enter Try.func75, Try.ntmps75
  go_wp2_with fail
  go_ret
  exact ⟨rfl, rfl⟩
set_option maxHeartbeats 1000000 in
theorem behindCell_any (a x v : UInt8) (p : Tm) (w : World) : Calls Try.prog 57 #[.int .u8 (a.toNat : Int), .int .u8 (x.toNat : Int), .int .u8 (v.toNat : Int), .iface (tyOf p) (pay p)] w fun e w' => e = .returned (.iface (tyOf (.rcv a x (.par (.snd a v .nil) p))) (pay (.rcv a x (.par (.snd a v .nil) p)))) ∧ w = w' := by
  have H := Lib.hid (sendOnly_any a v)
  show Calls _ _ _ _ fun e w' => e = .returned (.iface 52 (.agg #[.int .u8 (a.toNat : Int), .int .u8 (x.toNat : Int), .iface 81 (.agg #[.iface (tyOf (.snd a v .nil)) (pay (.snd a v .nil)), .iface (tyOf p) (pay p)])])) ∧ w = w'
  obtain ⟨T0, hT0⟩ : ∃ T, T = tyOf p := ⟨_, rfl⟩
  obtain ⟨V0, hV0⟩ : ∃ V, V = pay p := ⟨_, rfl⟩
  obtain ⟨T1, hT1⟩ : ∃ T, T = tyOf (.snd a v .nil) := ⟨_, rfl⟩
  obtain ⟨V1, hV1⟩ : ∃ V, V = pay (.snd a v .nil) := ⟨_, rfl⟩
  rw [← hT1, ← hV1] at H ⊢
  rw [← hT0, ← hV0]
  clear hT0 hV0 hT1 hV1
  go_enter Try.func57, Try.ntmps57
  go_wp2_with fail
  with_reducible refine (H.out _).mono ?_
  rintro e w1 ⟨rfl, rfl⟩
  go_wp2_with fail
  go_ret
  exact ⟨rfl, rfl⟩
set_option maxHeartbeats 1000000 in
theorem answering_yes (a : UInt8) (l : List UInt8) (p : Tm) (ha : nmL a = true) (hl : Lets l) (hp : p.ok nmL = true) (n : Nat) (hn : n = l.length) (g cap : Nat) (w : World) (hr : BRow w g l) (hw : nmL (linkN a l p) = true) :
    Calls Try.prog 66 #[.int .u8 (a.toNat : Int), .slice (some ⟨g, 0, none⟩) n cap, .iface (tyOf p) (pay p)] w fun e w' => e = .returned (.iface (tyOf (.rep (recvC a l p))) (pay (.rep (recvC a l p)))) ∧ Below w.heap.size w w' := by
  have H := Lib.hid (rc_yes a l p ha hl hp n hn g cap w hr hw)
  show Calls _ _ _ _ fun e w' => e = .returned (.iface 54 (.agg #[.iface (tyOf (recvC a l p)) (pay (recvC a l p))])) ∧ Below w.heap.size w w'
  obtain ⟨T0, hT0⟩ : ∃ T, T = tyOf p := ⟨_, rfl⟩
  obtain ⟨V0, hV0⟩ : ∃ V, V = pay p := ⟨_, rfl⟩
  obtain ⟨T1, hT1⟩ : ∃ T, T = tyOf (recvC a l p) := ⟨_, rfl⟩
  obtain ⟨V1, hV1⟩ : ∃ V, V = pay (recvC a l p) := ⟨_, rfl⟩
  rw [← hT1, ← hV1] at H ⊢
  rw [← hT0, ← hV0] at H ⊢
  clear hT0 hV0 hT1 hV1 hr hw hp hl ha hn
  go_enter Try.func66, Try.ntmps66
  go_wp2_with fail
  with_reducible refine (H.out).mono ?_
  rintro e w1 ⟨rfl, b1⟩
  go_wp2_with fail
  go_ret
  exact ⟨rfl, b1⟩
end Go.Proofs.Ytohaddhjnghcpaa.T1
