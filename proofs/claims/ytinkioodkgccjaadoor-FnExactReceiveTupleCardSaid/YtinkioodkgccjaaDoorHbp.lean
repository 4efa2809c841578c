/- Texts of the proof, put together: Cde, Cdf. No conditions. -/
import Derived.Test.YtinkioodkgccjaaDoorHaj
import Derived.Test.YtinkioodkgccjaaDoorHbf
import Derived.Laws.Rows
import Derived.Deep.LoopGhost

/- Signs in front of a process, tuples that are sent and received, in the program. No conditions. -/
namespace Go.Proofs.YtinkioodkgccjaaDoor.T1
open Go.RowKit
set_option maxRecDepth 100000
set_option linter.unusedVariables false
set_option linter.unusedSimpArgs false

/-- Signs with one part, the first one outermost. -/
def puts (hs : List Hd) (p : Tm) : Tm := hs.foldr Hd.put p
theorem puts_snd (w : UInt8) (l : List UInt8) (p : Tm) : puts (l.map fun b => Hd.snd w b) p = snds w l p := by
  induction l with
  | nil => rfl
  | cons b l ih => simp only [List.map_cons, puts, List.foldr_cons, Hd.put, snds]; rw [← ih]; rfl
theorem puts_rcv (w : UInt8) (l : List UInt8) (p : Tm) : puts (l.map fun b => Hd.rcv w b) p = rcvs w l p := by
  induction l with
  | nil => rfl
  | cons b l ih => simp only [List.map_cons, puts, List.foldr_cons, Hd.put, rcvs]; rw [← ih]; rfl
theorem Tryd.infoSg : (Tryd.prog.info? 30).map (fun i => (i.zero, i.size, i.bytes)) = some (some .nilIface, 1, 16) := by kernel_rfl
theorem hd_if (h : Hd) : ∃ T V, h.enc = .iface T V := by cases h <;> exact ⟨_, _, rfl⟩

set_option maxHeartbeats 2000000 in
theorem inFront_any (hs : List Hd) (t : Tm) (n : Nat) (hn : n = hs.length) (hn2 : n ≤ 200) (v : Value) (base : Nat) (w : World) (ho : w.ownsRow base 30 1 v n (hs.map Hd.enc)) :
    Calls Tryd.prog 37 #[v, .iface (tyOf t) (pay t)] w fun e w' => e = .returned (.iface (tyOf (puts hs t)) (pay (puts hs t))) ∧ Below w.heap.size w w' := by
  obtain ⟨p, cap, rfl⟩ := cd_form ho
  have HO := Lib.hid ho
  have HN := Lib.hid hn
  have hw1 : IntKind.i64.wrap ((n : Int) - 1) = (n : Int) - 1 := IntWalk.i64_in _ (by omega)
  obtain ⟨T0, hT0⟩ : ∃ T, T = tyOf t := ⟨_, rfl⟩
  obtain ⟨V0, hV0⟩ : ∃ V, V = pay t := ⟨_, rfl⟩
  rw [← hT0, ← hV0]
  have HT0 := Lib.hid hT0
  have HV0 := Lib.hid hV0
  clear ho hn hT0 hV0
  go_enter Tryd.func37, Tryd.ntmps37
  go_wp2_with fail
  go_loopg [1, 5] n (fun k s1 s5 wr => ∃ (T : TypeId) (V : Value), s1 = .iface T V ∧ s5 = .int .i64 ((k : Int) - 1) ∧ k ≤ n ∧ Hid (T = tyOf (puts (hs.drop k) t) ∧ V = pay (puts (hs.drop k) t)) ∧ Hid (Below w.heap.size w wr))
  case atStart =>
    refine ⟨T0, V0, rfl, by go_num, Nat.le_refl _, ?_, Below.refl _ _⟩
    show _ ∧ _
    rw [List.drop_of_length_le (by rw [HN.out]; exact Nat.le_refl _)]
    exact ⟨HT0.out, HV0.out⟩
  case round =>
    obtain ⟨T, V, rfl, rfl, hk, he, hbw⟩ := hrel
    have hsz := hbw.out.size
    by_cases hlt : 0 < gk
    · obtain ⟨k, rfl⟩ : ∃ k, gk = k + 1 := ⟨gk - 1, by omega⟩
      have hkl : k < hs.length := by rw [← HN.out]; omega
      obtain ⟨g, hpg, hg1, hg2, hg3, hcells⟩ := cd_at HO.out (by omega)
      subst hpg
      have c1 : wr.cell? ⟨g, k, none⟩ = some (hs[k].enc) :=
        (hbw.out.cell (p := ⟨g, k, none⟩) hg2).trans (hcells k _ (by rw [List.getElem?_map, List.getElem?_eq_getElem hkl]; rfl))
      have HC : Hid (∀ b cap w', 1 ≤ cap → w'.cell? ⟨b, 0, none⟩ = some (.iface T V) → Calls Tryd.prog 58 #[hs[k].enc, .slice (some ⟨b, 0, none⟩) 1 cap] w' fun e w2 => e = .returned (.iface (tyOf (puts (hs.drop k) t)) (pay (puts (hs.drop k) t))) ∧ Below w'.heap.size w' w2) := by
        intro b cap w' h1 h2
        obtain ⟨e1, e2⟩ := he.out
        have e3 : puts (hs.drop k) t = hs[k].put (puts (hs.drop (k + 1)) t) := by rw [List.drop_eq_getElem_cons hkl]; rfl
        rw [e3]
        exact withParts_hd hs[k] _ b cap w' h1 (by rw [h2, e1, e2])
      obtain ⟨T1, V1, h1⟩ := hd_if hs[k]
      rw [h1] at HC c1
      obtain ⟨T2, hT2⟩ : ∃ T, T = tyOf (puts (hs.drop k) t) := ⟨_, rfl⟩
      obtain ⟨V2, hV2⟩ : ∃ V, V = pay (puts (hs.drop k) t) := ⟨_, rfl⟩
      rw [← hT2, ← hV2] at HC
      have HE : Hid (T2 = tyOf (puts (hs.drop k) t) ∧ V2 = pay (puts (hs.drop k) t)) := ⟨hT2, hV2⟩
      have i1 : ((k + 1 : Nat) : Int) - 1 = (k : Int) := by omega
      rw [i1]
      have hi0 : (0 : Int) ≤ (k : Int) := by omega
      have hi1 : (k : Int) < (n : Int) := by omega
      have hw2 : IntKind.i64.wrap ((k : Int) - 1) = (k : Int) - 1 := IntWalk.i64_in _ (by omega)
      clear hT2 hV2 h1 hcells he hkl i1
      go_wp2_with fail
      with_reducible refine (HC.out _ _ _ (Nat.le_refl _) (by rw [World.cell?_alloc_new]; simp)).mono ?_
      rintro e w2 ⟨rfl, b2⟩
      have hb2 := cdgo (hbw.out.alloc hsz _) b2
      clear hbw b2
      go_wp2_with fail
      go_roundg k
      case rel => exact ⟨T2, V2, rfl, rfl, by omega, HE, hb2⟩
      case measure => omega
    · obtain rfl : gk = 0 := by omega
      have hz : ¬ (0 : Int) ≤ ((0 : Nat) : Int) - 1 := by omega
      obtain ⟨e1, e2⟩ := he.out
      rw [List.drop_zero] at e1 e2
      have HE : Hid (T = tyOf (puts hs t) ∧ V = pay (puts hs t)) := ⟨e1, e2⟩
      clear he e1 e2
      go_wp2_with fail
      go_ret
      exact ⟨by rw [← HE.out.1, ← HE.out.2]; rfl, hbw.out⟩

set_option maxHeartbeats 2000000 in
/-- A sign for each of a row of letters. -/
theorem made_any (CF : FuncId) (caps : Array Value) (f : UInt8 → Hd) (hF : ∀ args w, (callFunc CF args).run Tryd.prog w = .ok (.enter CF args) w)
    (l : List UInt8) (n : Nat) (hn : n = l.length) (g cap : Nat) (w : World) (hr : BRow w g l)
    (HC : ∀ (c : UInt8) w1, Below w.heap.size w w1 → Calls Tryd.prog CF (#[.int .u8 (c.toNat : Int)] ++ caps) w1 fun e w' => e = .returned (f c).enc ∧ Below w1.heap.size w1 w') :
    Calls Tryd.prog 35 #[.slice (some ⟨g, 0, none⟩) n cap, .func (.func CF) #[] caps] w fun e w' => ∃ v, e = .returned v ∧ w'.ownsRow w.heap.size 30 1 v n ((l.map f).map Hd.enc) ∧ Below w.heap.size w w' := by
  obtain ⟨i0, hi, hz0, hz1, hz2⟩ := info_parts Tryd.infoSg
  obtain ⟨L, hL⟩ : ∃ L, L = (l.map f).map Hd.enc := ⟨_, rfl⟩
  have hLn : L.length = l.length := by rw [hL, List.length_map, List.length_map]
  have HL : Hid (∀ i (h : i < l.length), L.take (i + 1) = L.take i ++ [(f l[i]).enc]) := fun i h => by rw [List.take_succ_eq_append_getElem (by omega)]; simp [hL]
  rw [← hL]
  have HLn := Lib.hid hLn
  have HR := Lib.hid hr
  have HCC := Lib.hid HC
  have HN := Lib.hid hn
  have n100 : n ≤ 100 := by rw [hn]; exact hr.2.1
  clear hr HC hn hL hLn
  go_enter Tryd.func35, Tryd.ntmps35
  go_wp2_with fail
  go_loopg [5, 10] n (fun k s5 s10 wr => (∃ i : Nat, s10 = .int .i64 (i : Int) ∧ i + k = n ∧ Hid (wr.ownsRow w.heap.size 30 1 s5 i (L.take i))) ∧ Hid (Below w.heap.size w wr))
  case atStart => exact ⟨⟨0, by congr 1, by omega, World.ownsRow_nil _ _ _ _⟩, Below.refl _ _⟩
  case round =>
    obtain ⟨⟨i, rfl, hik, hown⟩, hbw⟩ := hrel
    have hsz := hbw.out.size
    by_cases hlt : (i : Int) < (n : Int)
    · have hil : i < l.length := by rw [← HN.out]; omega
      have c1 := (HR.out.below hbw.out).2.2 i hil
      have HC : Hid (∀ w1, Below w.heap.size w w1 → Calls Tryd.prog CF (#[.int .u8 (l[i].toNat : Int)] ++ caps) w1 fun e w' => e = .returned (f l[i]).enc ∧ Below w1.heap.size w1 w') := HCC.out l[i]
      obtain ⟨x, hx⟩ : ∃ x, x = (f l[i]).enc := ⟨_, rfl⟩
      rw [← hx] at HC
      have htk : Hid (L.take (i + 1) = L.take i ++ [x]) := by
        show _ = _
        rw [HL.out i hil, hx]
      obtain ⟨T, V, hTV⟩ := hd_if (f l[i])
      rw [← hx] at hTV
      subst hTV
      obtain ⟨cc, hcc⟩ : ∃ cc : Int, cc = (l[i].toNat : Int) := ⟨_, rfl⟩
      rw [← hcc] at c1 HC
      clear hx hcc
      go_wp2_with fail
      refine (HC.out _ hbw.out).mono ?_
      rintro e w1 ⟨rfl, b1⟩
      have hbw1 := Lib.hid (cdgo hbw.out b1)
      have hown1 := Lib.hid (own_below2 hown.out b1)
      have hsz1 := hbw1.out.size
      clear b1 c1 hbw hown
      go_wp2_with (at_builtin; refine wpList_append_rows rfl (.tmp 14) (.tmp 18) 54 rfl w.heap.size w.heap.size 30 i0 .nilIface 16 Tryd.underlying54 hi hz0 hz1 hz2 rfl _ i _ rfl (hown1.out.alloc _) _ 1 [.iface T V] rfl (own_new1 w1 (.iface T V) 30 w.heap.size hsz1) (fun u hu => by simp at hu; subst hu; rfl) ?c2 ?c3 ?c4 ?_)
      case c2 => unfold maxLen; omega
      case c3 => omega
      case c4 => simp; omega
      intro v3 w3 hown3 hgrow3 _
      have O3 : Hid (w3.ownsRow w.heap.size 30 1 v3 (i + 1) (L.take (i + 1))) := by
        show World.ownsRow _ _ _ _ _ _ _
        rw [htk.out]; exact hown3
      have hol := hown1.out.lt
      have Bl3 := Lib.hid (below_grown2 (hbw1.out.alloc hsz1 _) hgrow3 (fun g e => (hol g e).1) (by simp; omega))
      clear hown3 hgrow3 hol hbw1 hown1 htk
      go_wp2_with fail
      go_roundg (gk - 1)
      case rel => exact ⟨⟨i + 1, by congr 1, by omega, O3⟩, Bl3⟩
      case measure => omega
    · obtain rfl : i = n := by omega
      have htk : L.take i = L := List.take_of_length_le (by rw [HLn.out, HN.out]; exact Nat.le_refl _)
      rw [htk] at hown
      clear htk
      go_wp2_with fail
      go_ret
      exact ⟨_, rfl, hown.out, hbw.out⟩
end Go.Proofs.YtinkioodkgccjaaDoor.T1

/- Tuples that are sent and received, in the program. No conditions. -/
namespace Go.Proofs.YtinkioodkgccjaaDoor.T1
open Go.RowKit
set_option maxRecDepth 100000
set_option linter.unusedVariables false
set_option linter.unusedSimpArgs false

theorem own_new2 (w : World) (x y : Value) (T : TypeId) (base : Nat) (hb : base ≤ w.heap.size) : (w.alloc (.cells #[x, y] T)).ownsRow base T 1 (.slice (some ⟨w.heap.size, 0, none⟩) 2 2) 2 [x, y] :=
  ⟨rfl, .inr ⟨w.heap.size, 2, #[x, y], rfl, hb, heap_alloc_new w _, Nat.le_refl _, by unfold maxLen; omega, rfl, rfl⟩⟩
theorem cf_st (args : Array Value) (w : World) : (callFunc 36 args).run Tryd.prog w = .ok (.enter 36 args) w := by kernel_rfl
theorem cf_rt (args : Array Value) (w : World) : (callFunc 44 args).run Tryd.prog w = .ok (.enter 44 args) w := by kernel_rfl
theorem st1 (c d : Int) (b : Nat) (w : World) (hc : w.cell? ⟨b, 0, none⟩ = some (.int .u8 d)) :
    Calls Tryd.prog 36 (#[.int .u8 c] ++ #[.pointer (some ⟨b, 0, none⟩)]) w fun e w' => e = .returned (.iface 53 (.agg #[.int .u8 d, .int .u8 c, .nilIface])) ∧ Below w.heap.size w w' := by
  show Calls Tryd.prog 36 #[.int .u8 c, .pointer (some ⟨b, 0, none⟩)] w _
  go_enter Tryd.func36, Tryd.ntmps36
  go_wp2_with fail
  go_ret
  exact ⟨rfl, Below.refl _ _⟩
theorem rt1 (c d : Int) (b : Nat) (w : World) (hc : w.cell? ⟨b, 0, none⟩ = some (.int .u8 d)) :
    Calls Tryd.prog 44 (#[.int .u8 c] ++ #[.pointer (some ⟨b, 0, none⟩)]) w fun e w' => e = .returned (.iface 67 (.agg #[.int .u8 d, .int .u8 c, .nilIface])) ∧ Below w.heap.size w w' := by
  show Calls Tryd.prog 44 #[.int .u8 c, .pointer (some ⟨b, 0, none⟩)] w _
  go_enter Tryd.func44, Tryd.ntmps44
  go_wp2_with fail
  go_ret
  exact ⟨rfl, Below.refl _ _⟩

set_option maxHeartbeats 2000000 in
theorem sd_yes (a : UInt8) (l : List UInt8) (p : Tm) (ha : nmL a = true) (hl : Lets l) (hp : p.ok nmL = true) (n : Nat) (hn : n = l.length) (g cap : Nat) (w : World) (hr : BRow w g l) (hw : nmL (linkN a l p) = true) :
    Calls Tryd.prog 16 #[.int .u8 (a.toNat : Int), .slice (some ⟨g, 0, none⟩) n cap, .iface (tyOf p) (pay p)] w fun e w' => e = .returned (.iface (tyOf (sendC a l p)) (pay (sendC a l p))) ∧ Below w.heap.size w w' := by
  have HL := Lib.hid (lf_yes a l p ha hl hp n hn g cap w hr hw)
  obtain ⟨c, hc⟩ : ∃ c, c = linkN a l p := ⟨_, rfl⟩
  have e0 : sendC a l p = puts ([Hd.own c, Hd.snd a c] ++ l.map fun b => Hd.snd c b) p := by
    rw [hc]; exact congrArg (fun x => Tm.own _ (Tm.snd _ _ x)) (puts_snd _ l p).symm
  rw [e0]
  rw [← hc] at HL
  have hl100 := hr.2.1
  have HR := Lib.hid hr
  have HM := Lib.hid (fun b w1 (hr1 : BRow w1 g l) (h1 : w1.cell? ⟨b, 0, none⟩ = some (.int .u8 (c.toNat : Int))) => made_any 36 #[.pointer (some ⟨b, 0, none⟩)] (fun x => Hd.snd c x) cf_st l n hn g cap w1 hr1 (fun x w2 bl => st1 _ _ b w2 ((bl.cell (p := ⟨b, 0, none⟩) (World.block_lt_of_cell? w1 _ h1)).trans h1)))
  have HI := Lib.hid (fun v base w1 (ho : w1.ownsRow base 30 1 v (n + 2) (([Hd.own c, Hd.snd a c] ++ l.map fun b => Hd.snd c b).map Hd.enc)) => inFront_any ([Hd.own c, Hd.snd a c] ++ l.map fun b => Hd.snd c b) p (n + 2) (by simp [hn]) (by omega) v base w1 ho)
  obtain ⟨i0, hi, hz0, hz1, hz2⟩ := info_parts Tryd.infoSg
  obtain ⟨T, hT⟩ : ∃ T, T = tyOf (puts ([Hd.own c, Hd.snd a c] ++ l.map fun b => Hd.snd c b) p) := ⟨_, rfl⟩
  obtain ⟨V, hV⟩ : ∃ V, V = pay (puts ([Hd.own c, Hd.snd a c] ++ l.map fun b => Hd.snd c b) p) := ⟨_, rfl⟩
  rw [← hT, ← hV] at HI ⊢
  obtain ⟨T0, hT0⟩ : ∃ T, T = tyOf p := ⟨_, rfl⟩
  obtain ⟨V0, hV0⟩ : ∃ V, V = pay p := ⟨_, rfl⟩
  rw [← hT0, ← hV0] at HI HL ⊢
  obtain ⟨cc, hcc⟩ : ∃ cc : Int, cc = (c.toNat : Int) := ⟨_, rfl⟩
  obtain ⟨aa, haa⟩ : ∃ aa : Int, aa = (a.toNat : Int) := ⟨_, rfl⟩
  rw [← hcc] at HL HM
  rw [← haa] at HL ⊢
  obtain ⟨L, hL⟩ : ∃ L, L = (l.map fun b => Hd.snd c b).map Hd.enc := ⟨_, rfl⟩
  have HLL : Hid (([Hd.own c, Hd.snd a c] ++ l.map fun b => Hd.snd c b).map Hd.enc = [.iface 51 (.agg #[.int .u8 cc, .nilIface]), .iface 53 (.agg #[.int .u8 aa, .int .u8 cc, .nilIface])] ++ L) := by
    show _ = _; rw [List.map_append, hL, hcc, haa]; rfl
  have HL1 : Hid (∀ u ∈ L, u.oneCell' = true) := fun u hu => by
    rw [hL] at hu
    obtain ⟨h, _, rfl⟩ := List.mem_map.1 hu
    cases h <;> rfl
  rw [← hL] at HM
  rw [HLL.out] at HI
  have n100 : n ≤ 100 := by omega
  clear e0 hc hr hw hp hl ha hn hT hV hT0 hV0 hcc haa hL hl100
  go_enter Tryd.func16, Tryd.ntmps16
  go_wp2_with fail
  with_reducible refine (HL.out).mono ?_
  rintro e w1 ⟨rfl, b1⟩
  have hmf : ∀ (fn : Fn) (first cap : Array Value) (w : World), (Instr.makeFunc fn first cap).run Tryd.prog w = .ok (.func fn first cap) w := fun _ _ _ _ => rfl
  go_wp2_with fail
  have bl1 := (b1.alloc b1.size (.cells #[.int .u8 cc] 5))
  have own2 := own_new2 (w1.alloc (.cells #[.int .u8 cc] 5)) (.iface 51 (.agg #[.int .u8 cc, .nilIface])) (.iface 53 (.agg #[.int .u8 aa, .int .u8 cc, .nilIface])) 30 w.heap.size bl1.size
  have bl2 := bl1.alloc bl1.size (.cells #[.iface 51 (.agg #[.int .u8 cc, .nilIface]), .iface 53 (.agg #[.int .u8 aa, .int .u8 cc, .nilIface])] 30)
  have c1 : ((w1.alloc (.cells #[.int .u8 cc] 5)).alloc (.cells #[.iface 51 (.agg #[.int .u8 cc, .nilIface]), .iface 53 (.agg #[.int .u8 aa, .int .u8 cc, .nilIface])] 30)).cell? ⟨w1.heap.size, 0, none⟩ = some (.int .u8 cc) := by
    rw [World.cell?_alloc_past _ _ _ (by simp), World.cell?_alloc_new]; simp
  have sz1 : (w1.alloc (.cells #[.int .u8 cc] 5)).heap.size = w1.heap.size + 1 := by simp
  rw [sz1] at own2
  obtain ⟨W2, hW2⟩ : ∃ W2, W2 = ((w1.alloc (.cells #[.int .u8 cc] 5)).alloc (.cells #[.iface 51 (.agg #[.int .u8 cc, .nilIface]), .iface 53 (.agg #[.int .u8 aa, .int .u8 cc, .nilIface])] 30)) := ⟨_, rfl⟩
  rw [← hW2] at own2 bl2 c1 ⊢
  have O2 := Lib.hid own2
  clear hW2 sz1 own2 b1 bl1
  with_reducible refine (HM.out w1.heap.size _ (HR.out.below bl2) c1).mono ?_
  rintro e w3 ⟨v, rfl, ho, b3⟩
  have HO := Lib.hid ho
  have O3 := Lib.hid (own_below2 O2.out b3)
  have bl3 := cdgo bl2 b3
  obtain ⟨p3, cap3, rfl⟩ := cd_form ho
  clear ho O2 b3 bl2 c1
  have hsz3 := bl3.size
  go_wp2_with (at_builtin; refine wpList_append_rows rfl (.tmp 25) (.tmp 26) 54 rfl w.heap.size _ 30 i0 .nilIface 16 Tryd.underlying54 hi hz0 hz1 hz2 rfl _ 2 _ rfl O3.out _ n L rfl HO.out HL1.out ?c2 ?c3 ?c4 ?_)
  case c2 => unfold maxLen; omega
  case c3 => omega
  case c4 => exact hsz3
  intro v4 w4 hown4 hgrow4 _
  rw [Nat.add_comm 2 n] at hown4
  have hol := O3.out.lt
  have bl4 := below_grown2 bl3 hgrow4 (fun g e => (hol g e).1) hsz3
  have O4 := Lib.hid hown4
  obtain ⟨p4, cap4, rfl⟩ := cd_form hown4
  clear hown4 hgrow4 hol
  go_wp2_with fail
  refine (HI.out _ _ _ O4.out).mono ?_
  rintro e w5 ⟨rfl, b5⟩
  have bl5 := cdgo bl4 b5
  go_wp2_with fail
  go_ret
  exact ⟨rfl, bl5⟩
set_option maxHeartbeats 2000000 in
theorem rc_yes (a : UInt8) (l : List UInt8) (p : Tm) (ha : nmL a = true) (hl : Lets l) (hp : p.ok nmL = true) (n : Nat) (hn : n = l.length) (g cap : Nat) (w : World) (hr : BRow w g l) (hw : nmL (linkN a l p) = true) :
    Calls Tryd.prog 24 #[.int .u8 (a.toNat : Int), .slice (some ⟨g, 0, none⟩) n cap, .iface (tyOf p) (pay p)] w fun e w' => e = .returned (.iface (tyOf (recvC a l p)) (pay (recvC a l p))) ∧ Below w.heap.size w w' := by
  have HL := Lib.hid (lf_yes a l p ha hl hp n hn g cap w hr hw)
  obtain ⟨c, hc⟩ : ∃ c, c = linkN a l p := ⟨_, rfl⟩
  have e0 : recvC a l p = puts ([Hd.rcv a c] ++ l.map fun b => Hd.rcv c b) p := by
    rw [hc]; exact congrArg (fun x => Tm.rcv _ _ x) (puts_rcv _ l p).symm
  rw [e0]
  rw [← hc] at HL
  have hl100 := hr.2.1
  have HR := Lib.hid hr
  have HM := Lib.hid (fun b w1 (hr1 : BRow w1 g l) (h1 : w1.cell? ⟨b, 0, none⟩ = some (.int .u8 (c.toNat : Int))) => made_any 44 #[.pointer (some ⟨b, 0, none⟩)] (fun x => Hd.rcv c x) cf_rt l n hn g cap w1 hr1 (fun x w2 bl => rt1 _ _ b w2 ((bl.cell (p := ⟨b, 0, none⟩) (World.block_lt_of_cell? w1 _ h1)).trans h1)))
  have HI := Lib.hid (fun v base w1 (ho : w1.ownsRow base 30 1 v (n + 1) (([Hd.rcv a c] ++ l.map fun b => Hd.rcv c b).map Hd.enc)) => inFront_any ([Hd.rcv a c] ++ l.map fun b => Hd.rcv c b) p (n + 1) (by simp [hn]) (by omega) v base w1 ho)
  obtain ⟨i0, hi, hz0, hz1, hz2⟩ := info_parts Tryd.infoSg
  obtain ⟨T, hT⟩ : ∃ T, T = tyOf (puts ([Hd.rcv a c] ++ l.map fun b => Hd.rcv c b) p) := ⟨_, rfl⟩
  obtain ⟨V, hV⟩ : ∃ V, V = pay (puts ([Hd.rcv a c] ++ l.map fun b => Hd.rcv c b) p) := ⟨_, rfl⟩
  rw [← hT, ← hV] at HI ⊢
  obtain ⟨T0, hT0⟩ : ∃ T, T = tyOf p := ⟨_, rfl⟩
  obtain ⟨V0, hV0⟩ : ∃ V, V = pay p := ⟨_, rfl⟩
  rw [← hT0, ← hV0] at HI HL ⊢
  obtain ⟨cc, hcc⟩ : ∃ cc : Int, cc = (c.toNat : Int) := ⟨_, rfl⟩
  obtain ⟨aa, haa⟩ : ∃ aa : Int, aa = (a.toNat : Int) := ⟨_, rfl⟩
  rw [← hcc] at HL HM
  rw [← haa] at HL ⊢
  obtain ⟨L, hL⟩ : ∃ L, L = (l.map fun b => Hd.rcv c b).map Hd.enc := ⟨_, rfl⟩
  have HLL : Hid (([Hd.rcv a c] ++ l.map fun b => Hd.rcv c b).map Hd.enc = [.iface 67 (.agg #[.int .u8 aa, .int .u8 cc, .nilIface])] ++ L) := by
    show _ = _; rw [List.map_append, hL, hcc, haa]; rfl
  have HL1 : Hid (∀ u ∈ L, u.oneCell' = true) := fun u hu => by
    rw [hL] at hu
    obtain ⟨h, _, rfl⟩ := List.mem_map.1 hu
    cases h <;> rfl
  rw [← hL] at HM
  rw [HLL.out] at HI
  have n100 : n ≤ 100 := by omega
  clear e0 hc hr hw hp hl ha hn hT hV hT0 hV0 hcc haa hL hl100
  go_enter Tryd.func24, Tryd.ntmps24
  go_wp2_with fail
  with_reducible refine (HL.out).mono ?_
  rintro e w1 ⟨rfl, b1⟩
  have hmf : ∀ (fn : Fn) (first cap : Array Value) (w : World), (Instr.makeFunc fn first cap).run Tryd.prog w = .ok (.func fn first cap) w := fun _ _ _ _ => rfl
  go_wp2_with fail
  have bl1 := (b1.alloc b1.size (.cells #[.int .u8 cc] 5))
  have own2 := own_new1 (w1.alloc (.cells #[.int .u8 cc] 5)) (.iface 67 (.agg #[.int .u8 aa, .int .u8 cc, .nilIface])) 30 w.heap.size bl1.size
  have bl2 := bl1.alloc bl1.size (.cells #[.iface 67 (.agg #[.int .u8 aa, .int .u8 cc, .nilIface])] 30)
  have c1 : ((w1.alloc (.cells #[.int .u8 cc] 5)).alloc (.cells #[.iface 67 (.agg #[.int .u8 aa, .int .u8 cc, .nilIface])] 30)).cell? ⟨w1.heap.size, 0, none⟩ = some (.int .u8 cc) := by
    rw [World.cell?_alloc_past _ _ _ (by simp), World.cell?_alloc_new]; simp
  have sz1 : (w1.alloc (.cells #[.int .u8 cc] 5)).heap.size = w1.heap.size + 1 := by simp
  rw [sz1] at own2
  obtain ⟨W2, hW2⟩ : ∃ W2, W2 = ((w1.alloc (.cells #[.int .u8 cc] 5)).alloc (.cells #[.iface 67 (.agg #[.int .u8 aa, .int .u8 cc, .nilIface])] 30)) := ⟨_, rfl⟩
  rw [← hW2] at own2 bl2 c1 ⊢
  have O2 := Lib.hid own2
  clear hW2 sz1 own2 b1 bl1
  with_reducible refine (HM.out w1.heap.size _ (HR.out.below bl2) c1).mono ?_
  rintro e w3 ⟨v, rfl, ho, b3⟩
  have HO := Lib.hid ho
  have O3 := Lib.hid (own_below2 O2.out b3)
  have bl3 := cdgo bl2 b3
  obtain ⟨p3, cap3, rfl⟩ := cd_form ho
  clear ho O2 b3 bl2 c1
  have hsz3 := bl3.size
  go_wp2_with (at_builtin; refine wpList_append_rows rfl (.tmp 22) (.tmp 23) 54 rfl w.heap.size _ 30 i0 .nilIface 16 Tryd.underlying54 hi hz0 hz1 hz2 rfl _ 1 _ rfl O3.out _ n L rfl HO.out HL1.out ?c2 ?c3 ?c4 ?_)
  case c2 => unfold maxLen; omega
  case c3 => omega
  case c4 => exact hsz3
  intro v4 w4 hown4 hgrow4 _
  rw [Nat.add_comm 1 n] at hown4
  have hol := O3.out.lt
  have bl4 := below_grown2 bl3 hgrow4 (fun g e => (hol g e).1) hsz3
  have O4 := Lib.hid hown4
  obtain ⟨p4, cap4, rfl⟩ := cd_form hown4
  clear hown4 hgrow4 hol
  go_wp2_with fail
  refine (HI.out _ _ _ O4.out).mono ?_
  rintro e w5 ⟨rfl, b5⟩
  have bl5 := cdgo bl4 b5
  go_wp2_with fail
  go_ret
  exact ⟨rfl, bl5⟩
set_option maxHeartbeats 2000000 in
theorem sd_no (a : UInt8) (l : List UInt8) (p : Tm) (ha : nmL a = true) (hl : Lets l) (hp : p.ok nmL = true) (n : Nat) (hn : n = l.length) (g cap : Nat) (w : World) (hr : BRow w g l) (hw : nmL (linkN a l p) = false) :
    Calls Tryd.prog 16 #[.int .u8 (a.toNat : Int), .slice (some ⟨g, 0, none⟩) n cap, .iface (tyOf p) (pay p)] w fun e w' => e = failed ∧ Below w.heap.size w w' := by
  have HL := Lib.hid (lf_no a l p ha hl hp n hn g cap w hr hw)
  obtain ⟨T0, hT0⟩ : ∃ T, T = tyOf p := ⟨_, rfl⟩
  obtain ⟨V0, hV0⟩ : ∃ V, V = pay p := ⟨_, rfl⟩
  rw [← hT0, ← hV0] at HL ⊢
  obtain ⟨aa, haa⟩ : ∃ aa : Int, aa = (a.toNat : Int) := ⟨_, rfl⟩
  rw [← haa] at HL ⊢
  clear hr hw hp hl ha hn hT0 hV0 haa
  go_enter Tryd.func16, Tryd.ntmps16
  go_wp2_with fail
  with_reducible refine (HL.out).mono ?_
  rintro e w1 ⟨rfl, b1⟩
  exact ⟨rfl, rfl, b1⟩
set_option maxHeartbeats 2000000 in
theorem rc_no (a : UInt8) (l : List UInt8) (p : Tm) (ha : nmL a = true) (hl : Lets l) (hp : p.ok nmL = true) (n : Nat) (hn : n = l.length) (g cap : Nat) (w : World) (hr : BRow w g l) (hw : nmL (linkN a l p) = false) :
    Calls Tryd.prog 24 #[.int .u8 (a.toNat : Int), .slice (some ⟨g, 0, none⟩) n cap, .iface (tyOf p) (pay p)] w fun e w' => e = failed ∧ Below w.heap.size w w' := by
  have HL := Lib.hid (lf_no a l p ha hl hp n hn g cap w hr hw)
  obtain ⟨T0, hT0⟩ : ∃ T, T = tyOf p := ⟨_, rfl⟩
  obtain ⟨V0, hV0⟩ : ∃ V, V = pay p := ⟨_, rfl⟩
  rw [← hT0, ← hV0] at HL ⊢
  obtain ⟨aa, haa⟩ : ∃ aa : Int, aa = (a.toNat : Int) := ⟨_, rfl⟩
  rw [← haa] at HL ⊢
  clear hr hw hp hl ha hn hT0 hV0 haa
  go_enter Tryd.func24, Tryd.ntmps24
  go_wp2_with fail
  with_reducible refine (HL.out).mono ?_
  rintro e w1 ⟨rfl, b1⟩
  exact ⟨rfl, rfl, b1⟩
end Go.Proofs.YtinkioodkgccjaaDoor.T1
