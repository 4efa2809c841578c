/- Texts of the proof, put together: Cdf. No conditions. -/
import Derived.Test.YtohaddhjnghcpaaDoorHbo

/- Tuples that are sent and received, in the program. No conditions. -/
namespace Go.Proofs.YtohaddhjnghcpaaDoor.T1
open Go.RowKit
set_option maxRecDepth 100000
set_option linter.unusedVariables false
set_option linter.unusedSimpArgs false

theorem own_new2 (w : World) (x y : Value) (T : TypeId) (base : Nat) (hb : base ≤ w.heap.size) : (w.alloc (.cells #[x, y] T)).ownsRow base T 1 (.slice (some ⟨w.heap.size, 0, none⟩) 2 2) 2 [x, y] :=
  ⟨rfl, .inr ⟨w.heap.size, 2, #[x, y], rfl, hb, heap_alloc_new w _, Nat.le_refl _, by unfold maxLen; omega, rfl, rfl⟩⟩
theorem cf_st (args : Array Value) (w : World) : (callFunc 38 args).run Tryd.prog w = .ok (.enter 38 args) w := by kernel_rfl
theorem cf_rt (args : Array Value) (w : World) : (callFunc 46 args).run Tryd.prog w = .ok (.enter 46 args) w := by kernel_rfl
theorem st1 (c d : Int) (b : Nat) (w : World) (hc : w.cell? ⟨b, 0, none⟩ = some (.int .u8 d)) :
    Calls Tryd.prog 38 (#[.int .u8 c] ++ #[.pointer (some ⟨b, 0, none⟩)]) w fun e w' => e = .returned (.iface 57 (.agg #[.int .u8 d, .int .u8 c, .nilIface])) ∧ Below w.heap.size w w' := by
  show Calls Tryd.prog 38 #[.int .u8 c, .pointer (some ⟨b, 0, none⟩)] w _
  go_enter Tryd.func38, Tryd.ntmps38
  go_wp2_with fail
  go_ret
  exact ⟨rfl, Below.refl _ _⟩
theorem rt1 (c d : Int) (b : Nat) (w : World) (hc : w.cell? ⟨b, 0, none⟩ = some (.int .u8 d)) :
    Calls Tryd.prog 46 (#[.int .u8 c] ++ #[.pointer (some ⟨b, 0, none⟩)]) w fun e w' => e = .returned (.iface 73 (.agg #[.int .u8 d, .int .u8 c, .nilIface])) ∧ Below w.heap.size w w' := by
  show Calls Tryd.prog 46 #[.int .u8 c, .pointer (some ⟨b, 0, none⟩)] w _
  go_enter Tryd.func46, Tryd.ntmps46
  go_wp2_with fail
  go_ret
  exact ⟨rfl, Below.refl _ _⟩

set_option maxHeartbeats 2000000 in
theorem sd_yes (a : UInt8) (l : List UInt8) (p : Tm) (ha : nmL a = true) (hl : Lets l) (hp : p.ok nmL = true) (n : Nat) (hn : n = l.length) (g cap : Nat) (w : World) (hr : BRow w g l) (hw : nmL (linkN a l p) = true) :
    Calls Tryd.prog 16 #[.int .u8 (a.toNat : Int), .slice (some ⟨g, 0, none⟩) n cap, .iface (tyOf p) (pay p)] w fun e w' => e = .returned (.iface (tyOf (sendC a l p)) (pay (sendC a l p))) ∧ Below w.heap.size w w' := by
  have HL := Lib.hid (lf_yes a l p ha hl hp n hn g cap w hr hw)
  obtain ⟨c, hc⟩ : ∃ c, c = linkN a l p := ⟨_, rfl⟩
  have e0 : sendC a l p = puts ([Hd.own c, Hd.snd a c] ++ l.map fun b => Hd.snd c b) p := by
    rw [hc]; exact congrArg (fun x => Tm.own _ (Tm.snd _ _ x)) (puts_snd _ l p).symm
  rw [e0]
  rw [← hc] at HL
  have hl100 := hr.2.1
  have HR := Lib.hid hr
  have HM := Lib.hid (fun b w1 (hr1 : BRow w1 g l) (h1 : w1.cell? ⟨b, 0, none⟩ = some (.int .u8 (c.toNat : Int))) => made_any 38 #[.pointer (some ⟨b, 0, none⟩)] (fun x => Hd.snd c x) cf_st l n hn g cap w1 hr1 (fun x w2 bl => st1 _ _ b w2 ((bl.cell (p := ⟨b, 0, none⟩) (World.block_lt_of_cell? w1 _ h1)).trans h1)))
  have HI := Lib.hid (fun v base w1 (ho : w1.ownsRow base 30 1 v (n + 2) (([Hd.own c, Hd.snd a c] ++ l.map fun b => Hd.snd c b).map Hd.enc)) => inFront_any ([Hd.own c, Hd.snd a c] ++ l.map fun b => Hd.snd c b) p (n + 2) (by simp [hn]) (by omega) v base w1 ho)
  obtain ⟨i0, hi, hz0, hz1, hz2⟩ := info_parts Tryd.infoSg
  obtain ⟨T, hT⟩ : ∃ T, T = tyOf (puts ([Hd.own c, Hd.snd a c] ++ l.map fun b => Hd.snd c b) p) := ⟨_, rfl⟩
  obtain ⟨V, hV⟩ : ∃ V, V = pay (puts ([Hd.own c, Hd.snd a c] ++ l.map fun b => Hd.snd c b) p) := ⟨_, rfl⟩
  rw [← hT, ← hV] at HI ⊢
  obtain ⟨T0, hT0⟩ : ∃ T, T = tyOf p := ⟨_, rfl⟩
  obtain ⟨V0, hV0⟩ : ∃ V, V = pay p := ⟨_, rfl⟩
  rw [← hT0, ← hV0] at HI HL ⊢
  obtain ⟨cc, hcc⟩ : ∃ cc : Int, cc = (c.toNat : Int) := ⟨_, rfl⟩
  obtain ⟨aa, haa⟩ : ∃ aa : Int, aa = (a.toNat : Int) := ⟨_, rfl⟩
  rw [← hcc] at HL HM
  rw [← haa] at HL ⊢
  obtain ⟨L, hL⟩ : ∃ L, L = (l.map fun b => Hd.snd c b).map Hd.enc := ⟨_, rfl⟩
  have HLL : Hid (([Hd.own c, Hd.snd a c] ++ l.map fun b => Hd.snd c b).map Hd.enc = [.iface 55 (.agg #[.int .u8 cc, .nilIface]), .iface 57 (.agg #[.int .u8 aa, .int .u8 cc, .nilIface])] ++ L) := by
    show _ = _; rw [List.map_append, hL, hcc, haa]; rfl
  have HL1 : Hid (∀ u ∈ L, u.oneCell' = true) := fun u hu => by
    rw [hL] at hu
    obtain ⟨h, _, rfl⟩ := List.mem_map.1 hu
    cases h <;> rfl
  rw [← hL] at HM
  rw [HLL.out] at HI
  have n100 : n ≤ 100 := by omega
  clear e0 hc hr hw hp hl ha hn hT hV hT0 hV0 hcc haa hL hl100
  go_enter Tryd.func16, Tryd.ntmps16
  go_wp2_with fail
  with_reducible refine (HL.out).mono ?_
  rintro e w1 ⟨rfl, b1⟩
  have hmf : ∀ (fn : Fn) (first cap : Array Value) (w : World), (Instr.makeFunc fn first cap).run Tryd.prog w = .ok (.func fn first cap) w := fun _ _ _ _ => rfl
  go_wp2_with fail
  have bl1 := (b1.alloc b1.size (.cells #[.int .u8 cc] 5))
  have own2 := own_new2 (w1.alloc (.cells #[.int .u8 cc] 5)) (.iface 55 (.agg #[.int .u8 cc, .nilIface])) (.iface 57 (.agg #[.int .u8 aa, .int .u8 cc, .nilIface])) 30 w.heap.size bl1.size
  have bl2 := bl1.alloc bl1.size (.cells #[.iface 55 (.agg #[.int .u8 cc, .nilIface]), .iface 57 (.agg #[.int .u8 aa, .int .u8 cc, .nilIface])] 30)
  have c1 : ((w1.alloc (.cells #[.int .u8 cc] 5)).alloc (.cells #[.iface 55 (.agg #[.int .u8 cc, .nilIface]), .iface 57 (.agg #[.int .u8 aa, .int .u8 cc, .nilIface])] 30)).cell? ⟨w1.heap.size, 0, none⟩ = some (.int .u8 cc) := by
    rw [World.cell?_alloc_past _ _ _ (by simp), World.cell?_alloc_new]; simp
  have sz1 : (w1.alloc (.cells #[.int .u8 cc] 5)).heap.size = w1.heap.size + 1 := by simp
  rw [sz1] at own2
  obtain ⟨W2, hW2⟩ : ∃ W2, W2 = ((w1.alloc (.cells #[.int .u8 cc] 5)).alloc (.cells #[.iface 55 (.agg #[.int .u8 cc, .nilIface]), .iface 57 (.agg #[.int .u8 aa, .int .u8 cc, .nilIface])] 30)) := ⟨_, rfl⟩
  rw [← hW2] at own2 bl2 c1 ⊢
  have O2 := Lib.hid own2
  clear hW2 sz1 own2 b1 bl1
  with_reducible refine (HM.out w1.heap.size _ (HR.out.below bl2) c1).mono ?_
  rintro e w3 ⟨v, rfl, ho, b3⟩
  have HO := Lib.hid ho
  have O3 := Lib.hid (own_below2 O2.out b3)
  have bl3 := cdgo bl2 b3
  obtain ⟨p3, cap3, rfl⟩ := cd_form ho
  clear ho O2 b3 bl2 c1
  have hsz3 := bl3.size
  go_wp2_with (at_builtin; refine wpList_append_rows rfl (.tmp 25) (.tmp 26) 58 rfl w.heap.size _ 30 i0 .nilIface 16 Tryd.underlying58 hi hz0 hz1 hz2 rfl _ 2 _ rfl O3.out _ n L rfl HO.out HL1.out ?c2 ?c3 ?c4 ?_)
  case c2 => unfold maxLen; omega
  case c3 => omega
  case c4 => exact hsz3
  intro v4 w4 hown4 hgrow4 _
  rw [Nat.add_comm 2 n] at hown4
  have hol := O3.out.lt
  have bl4 := below_grown2 bl3 hgrow4 (fun g e => (hol g e).1) hsz3
  have O4 := Lib.hid hown4
  obtain ⟨p4, cap4, rfl⟩ := cd_form hown4
  clear hown4 hgrow4 hol
  go_wp2_with fail
  refine (HI.out _ _ _ O4.out).mono ?_
  rintro e w5 ⟨rfl, b5⟩
  have bl5 := cdgo bl4 b5
  go_wp2_with fail
  go_ret
  exact ⟨rfl, bl5⟩
set_option maxHeartbeats 2000000 in
theorem rc_yes (a : UInt8) (l : List UInt8) (p : Tm) (ha : nmL a = true) (hl : Lets l) (hp : p.ok nmL = true) (n : Nat) (hn : n = l.length) (g cap : Nat) (w : World) (hr : BRow w g l) (hw : nmL (linkN a l p) = true) :
    Calls Tryd.prog 26 #[.int .u8 (a.toNat : Int), .slice (some ⟨g, 0, none⟩) n cap, .iface (tyOf p) (pay p)] w fun e w' => e = .returned (.iface (tyOf (recvC a l p)) (pay (recvC a l p))) ∧ Below w.heap.size w w' := by
  have HL := Lib.hid (lf_yes a l p ha hl hp n hn g cap w hr hw)
  obtain ⟨c, hc⟩ : ∃ c, c = linkN a l p := ⟨_, rfl⟩
  have e0 : recvC a l p = puts ([Hd.rcv a c] ++ l.map fun b => Hd.rcv c b) p := by
    rw [hc]; exact congrArg (fun x => Tm.rcv _ _ x) (puts_rcv _ l p).symm
  rw [e0]
  rw [← hc] at HL
  have hl100 := hr.2.1
  have HR := Lib.hid hr
  have HM := Lib.hid (fun b w1 (hr1 : BRow w1 g l) (h1 : w1.cell? ⟨b, 0, none⟩ = some (.int .u8 (c.toNat : Int))) => made_any 46 #[.pointer (some ⟨b, 0, none⟩)] (fun x => Hd.rcv c x) cf_rt l n hn g cap w1 hr1 (fun x w2 bl => rt1 _ _ b w2 ((bl.cell (p := ⟨b, 0, none⟩) (World.block_lt_of_cell? w1 _ h1)).trans h1)))
  have HI := Lib.hid (fun v base w1 (ho : w1.ownsRow base 30 1 v (n + 1) (([Hd.rcv a c] ++ l.map fun b => Hd.rcv c b).map Hd.enc)) => inFront_any ([Hd.rcv a c] ++ l.map fun b => Hd.rcv c b) p (n + 1) (by simp [hn]) (by omega) v base w1 ho)
  obtain ⟨i0, hi, hz0, hz1, hz2⟩ := info_parts Tryd.infoSg
  obtain ⟨T, hT⟩ : ∃ T, T = tyOf (puts ([Hd.rcv a c] ++ l.map fun b => Hd.rcv c b) p) := ⟨_, rfl⟩
  obtain ⟨V, hV⟩ : ∃ V, V = pay (puts ([Hd.rcv a c] ++ l.map fun b => Hd.rcv c b) p) := ⟨_, rfl⟩
  rw [← hT, ← hV] at HI ⊢
  obtain ⟨T0, hT0⟩ : ∃ T, T = tyOf p := ⟨_, rfl⟩
  obtain ⟨V0, hV0⟩ : ∃ V, V = pay p := ⟨_, rfl⟩
  rw [← hT0, ← hV0] at HI HL ⊢
  obtain ⟨cc, hcc⟩ : ∃ cc : Int, cc = (c.toNat : Int) := ⟨_, rfl⟩
  obtain ⟨aa, haa⟩ : ∃ aa : Int, aa = (a.toNat : Int) := ⟨_, rfl⟩
  rw [← hcc] at HL HM
  rw [← haa] at HL ⊢
  obtain ⟨L, hL⟩ : ∃ L, L = (l.map fun b => Hd.rcv c b).map Hd.enc := ⟨_, rfl⟩
  have HLL : Hid (([Hd.rcv a c] ++ l.map fun b => Hd.rcv c b).map Hd.enc = [.iface 73 (.agg #[.int .u8 aa, .int .u8 cc, .nilIface])] ++ L) := by
    show _ = _; rw [List.map_append, hL, hcc, haa]; rfl
  have HL1 : Hid (∀ u ∈ L, u.oneCell' = true) := fun u hu => by
    rw [hL] at hu
    obtain ⟨h, _, rfl⟩ := List.mem_map.1 hu
    cases h <;> rfl
  rw [← hL] at HM
  rw [HLL.out] at HI
  have n100 : n ≤ 100 := by omega
  clear e0 hc hr hw hp hl ha hn hT hV hT0 hV0 hcc haa hL hl100
  go_enter Tryd.func26, Tryd.ntmps26
  go_wp2_with fail
  with_reducible refine (HL.out).mono ?_
  rintro e w1 ⟨rfl, b1⟩
  have hmf : ∀ (fn : Fn) (first cap : Array Value) (w : World), (Instr.makeFunc fn first cap).run Tryd.prog w = .ok (.func fn first cap) w := fun _ _ _ _ => rfl
  go_wp2_with fail
  have bl1 := (b1.alloc b1.size (.cells #[.int .u8 cc] 5))
  have own2 := own_new1 (w1.alloc (.cells #[.int .u8 cc] 5)) (.iface 73 (.agg #[.int .u8 aa, .int .u8 cc, .nilIface])) 30 w.heap.size bl1.size
  have bl2 := bl1.alloc bl1.size (.cells #[.iface 73 (.agg #[.int .u8 aa, .int .u8 cc, .nilIface])] 30)
  have c1 : ((w1.alloc (.cells #[.int .u8 cc] 5)).alloc (.cells #[.iface 73 (.agg #[.int .u8 aa, .int .u8 cc, .nilIface])] 30)).cell? ⟨w1.heap.size, 0, none⟩ = some (.int .u8 cc) := by
    rw [World.cell?_alloc_past _ _ _ (by simp), World.cell?_alloc_new]; simp
  have sz1 : (w1.alloc (.cells #[.int .u8 cc] 5)).heap.size = w1.heap.size + 1 := by simp
  rw [sz1] at own2
  obtain ⟨W2, hW2⟩ : ∃ W2, W2 = ((w1.alloc (.cells #[.int .u8 cc] 5)).alloc (.cells #[.iface 73 (.agg #[.int .u8 aa, .int .u8 cc, .nilIface])] 30)) := ⟨_, rfl⟩
  rw [← hW2] at own2 bl2 c1 ⊢
  have O2 := Lib.hid own2
  clear hW2 sz1 own2 b1 bl1
  with_reducible refine (HM.out w1.heap.size _ (HR.out.below bl2) c1).mono ?_
  rintro e w3 ⟨v, rfl, ho, b3⟩
  have HO := Lib.hid ho
  have O3 := Lib.hid (own_below2 O2.out b3)
  have bl3 := cdgo bl2 b3
  obtain ⟨p3, cap3, rfl⟩ := cd_form ho
  clear ho O2 b3 bl2 c1
  have hsz3 := bl3.size
  go_wp2_with (at_builtin; refine wpList_append_rows rfl (.tmp 22) (.tmp 23) 58 rfl w.heap.size _ 30 i0 .nilIface 16 Tryd.underlying58 hi hz0 hz1 hz2 rfl _ 1 _ rfl O3.out _ n L rfl HO.out HL1.out ?c2 ?c3 ?c4 ?_)
  case c2 => unfold maxLen; omega
  case c3 => omega
  case c4 => exact hsz3
  intro v4 w4 hown4 hgrow4 _
  rw [Nat.add_comm 1 n] at hown4
  have hol := O3.out.lt
  have bl4 := below_grown2 bl3 hgrow4 (fun g e => (hol g e).1) hsz3
  have O4 := Lib.hid hown4
  obtain ⟨p4, cap4, rfl⟩ := cd_form hown4
  clear hown4 hgrow4 hol
  go_wp2_with fail
  refine (HI.out _ _ _ O4.out).mono ?_
  rintro e w5 ⟨rfl, b5⟩
  have bl5 := cdgo bl4 b5
  go_wp2_with fail
  go_ret
  exact ⟨rfl, bl5⟩
set_option maxHeartbeats 2000000 in
theorem sd_no (a : UInt8) (l : List UInt8) (p : Tm) (ha : nmL a = true) (hl : Lets l) (hp : p.ok nmL = true) (n : Nat) (hn : n = l.length) (g cap : Nat) (w : World) (hr : BRow w g l) (hw : nmL (linkN a l p) = false) :
    Calls Tryd.prog 16 #[.int .u8 (a.toNat : Int), .slice (some ⟨g, 0, none⟩) n cap, .iface (tyOf p) (pay p)] w fun e w' => e = failed ∧ Below w.heap.size w w' := by
  have HL := Lib.hid (lf_no a l p ha hl hp n hn g cap w hr hw)
  obtain ⟨T0, hT0⟩ : ∃ T, T = tyOf p := ⟨_, rfl⟩
  obtain ⟨V0, hV0⟩ : ∃ V, V = pay p := ⟨_, rfl⟩
  rw [← hT0, ← hV0] at HL ⊢
  obtain ⟨aa, haa⟩ : ∃ aa : Int, aa = (a.toNat : Int) := ⟨_, rfl⟩
  rw [← haa] at HL ⊢
  clear hr hw hp hl ha hn hT0 hV0 haa
  go_enter Tryd.func16, Tryd.ntmps16
  go_wp2_with fail
  with_reducible refine (HL.out).mono ?_
  rintro e w1 ⟨rfl, b1⟩
  exact ⟨rfl, rfl, b1⟩
set_option maxHeartbeats 2000000 in
theorem rc_no (a : UInt8) (l : List UInt8) (p : Tm) (ha : nmL a = true) (hl : Lets l) (hp : p.ok nmL = true) (n : Nat) (hn : n = l.length) (g cap : Nat) (w : World) (hr : BRow w g l) (hw : nmL (linkN a l p) = false) :
    Calls Tryd.prog 26 #[.int .u8 (a.toNat : Int), .slice (some ⟨g, 0, none⟩) n cap, .iface (tyOf p) (pay p)] w fun e w' => e = failed ∧ Below w.heap.size w w' := by
  have HL := Lib.hid (lf_no a l p ha hl hp n hn g cap w hr hw)
  obtain ⟨T0, hT0⟩ : ∃ T, T = tyOf p := ⟨_, rfl⟩
  obtain ⟨V0, hV0⟩ : ∃ V, V = pay p := ⟨_, rfl⟩
  rw [← hT0, ← hV0] at HL ⊢
  obtain ⟨aa, haa⟩ : ∃ aa : Int, aa = (a.toNat : Int) := ⟨_, rfl⟩
  rw [← haa] at HL ⊢
  clear hr hw hp hl ha hn hT0 hV0 haa
  go_enter Tryd.func26, Tryd.ntmps26
  go_wp2_with fail
  with_reducible refine (HL.out).mono ?_
  rintro e w1 ⟨rfl, b1⟩
  exact ⟨rfl, rfl, b1⟩
end Go.Proofs.YtohaddhjnghcpaaDoor.T1
