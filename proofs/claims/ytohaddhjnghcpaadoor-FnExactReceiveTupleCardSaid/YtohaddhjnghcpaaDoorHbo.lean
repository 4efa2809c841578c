/- Texts of the proof, put together: Cde. No conditions. -/
import Derived.Test.YtohaddhjnghcpaaDoorHah
import Derived.Test.YtohaddhjnghcpaaDoorHbh
import Derived.Laws.Rows
import Derived.Deep.LoopGhost

/- Signs in front of a process, tuples that are sent and received, in the program. No conditions. -/
namespace Go.Proofs.YtohaddhjnghcpaaDoor.T1
open Go.RowKit
set_option maxRecDepth 100000
set_option linter.unusedVariables false
set_option linter.unusedSimpArgs false

/-- Signs with one part, the first one outermost. -/
def puts (hs : List Hd) (p : Tm) : Tm := hs.foldr Hd.put p
theorem puts_snd (w : UInt8) (l : List UInt8) (p : Tm) : puts (l.map fun b => Hd.snd w b) p = snds w l p := by
  induction l with
  | nil => rfl
  | cons b l ih => simp only [List.map_cons, puts, List.foldr_cons, Hd.put, snds]; rw [← ih]; rfl
theorem puts_rcv (w : UInt8) (l : List UInt8) (p : Tm) : puts (l.map fun b => Hd.rcv w b) p = rcvs w l p := by
  induction l with
  | nil => rfl
  | cons b l ih => simp only [List.map_cons, puts, List.foldr_cons, Hd.put, rcvs]; rw [← ih]; rfl
theorem Tryd.infoSg : (Tryd.prog.info? 30).map (fun i => (i.zero, i.size, i.bytes)) = some (some .nilIface, 1, 16) := by kernel_rfl
theorem hd_if (h : Hd) : ∃ T V, h.enc = .iface T V := by cases h <;> exact ⟨_, _, rfl⟩

set_option maxHeartbeats 2000000 in
theorem inFront_any (hs : List Hd) (t : Tm) (n : Nat) (hn : n = hs.length) (hn2 : n ≤ 200) (v : Value) (base : Nat) (w : World) (ho : w.ownsRow base 30 1 v n (hs.map Hd.enc)) :
    Calls Tryd.prog 39 #[v, .iface (tyOf t) (pay t)] w fun e w' => e = .returned (.iface (tyOf (puts hs t)) (pay (puts hs t))) ∧ Below w.heap.size w w' := by
  obtain ⟨p, cap, rfl⟩ := cd_form ho
  have HO := Lib.hid ho
  have HN := Lib.hid hn
  have hw1 : IntKind.i64.wrap ((n : Int) - 1) = (n : Int) - 1 := IntWalk.i64_in _ (by omega)
  obtain ⟨T0, hT0⟩ : ∃ T, T = tyOf t := ⟨_, rfl⟩
  obtain ⟨V0, hV0⟩ : ∃ V, V = pay t := ⟨_, rfl⟩
  rw [← hT0, ← hV0]
  have HT0 := Lib.hid hT0
  have HV0 := Lib.hid hV0
  clear ho hn hT0 hV0
  go_enter Tryd.func39, Tryd.ntmps39
  go_wp2_with fail
  go_loopg [1, 5] n (fun k s1 s5 wr => ∃ (T : TypeId) (V : Value), s1 = .iface T V ∧ s5 = .int .i64 ((k : Int) - 1) ∧ k ≤ n ∧ Hid (T = tyOf (puts (hs.drop k) t) ∧ V = pay (puts (hs.drop k) t)) ∧ Hid (Below w.heap.size w wr))
  case atStart =>
    refine ⟨T0, V0, rfl, by go_num, Nat.le_refl _, ?_, Below.refl _ _⟩
    show _ ∧ _
    rw [List.drop_of_length_le (by rw [HN.out]; exact Nat.le_refl _)]
    exact ⟨HT0.out, HV0.out⟩
  case round =>
    obtain ⟨T, V, rfl, rfl, hk, he, hbw⟩ := hrel
    have hsz := hbw.out.size
    by_cases hlt : 0 < gk
    · obtain ⟨k, rfl⟩ : ∃ k, gk = k + 1 := ⟨gk - 1, by omega⟩
      have hkl : k < hs.length := by rw [← HN.out]; omega
      obtain ⟨g, hpg, hg1, hg2, hg3, hcells⟩ := cd_at HO.out (by omega)
      subst hpg
      have c1 : wr.cell? ⟨g, k, none⟩ = some (hs[k].enc) :=
        (hbw.out.cell (p := ⟨g, k, none⟩) hg2).trans (hcells k _ (by rw [List.getElem?_map, List.getElem?_eq_getElem hkl]; rfl))
      have HC : Hid (∀ b cap w', 1 ≤ cap → w'.cell? ⟨b, 0, none⟩ = some (.iface T V) → Calls Tryd.prog 59 #[hs[k].enc, .slice (some ⟨b, 0, none⟩) 1 cap] w' fun e w2 => e = .returned (.iface (tyOf (puts (hs.drop k) t)) (pay (puts (hs.drop k) t))) ∧ Below w'.heap.size w' w2) := by
        intro b cap w' h1 h2
        obtain ⟨e1, e2⟩ := he.out
        have e3 : puts (hs.drop k) t = hs[k].put (puts (hs.drop (k + 1)) t) := by rw [List.drop_eq_getElem_cons hkl]; rfl
        rw [e3]
        exact withParts_hd hs[k] _ b cap w' h1 (by rw [h2, e1, e2])
      obtain ⟨T1, V1, h1⟩ := hd_if hs[k]
      rw [h1] at HC c1
      obtain ⟨T2, hT2⟩ : ∃ T, T = tyOf (puts (hs.drop k) t) := ⟨_, rfl⟩
      obtain ⟨V2, hV2⟩ : ∃ V, V = pay (puts (hs.drop k) t) := ⟨_, rfl⟩
      rw [← hT2, ← hV2] at HC
      have HE : Hid (T2 = tyOf (puts (hs.drop k) t) ∧ V2 = pay (puts (hs.drop k) t)) := ⟨hT2, hV2⟩
      have i1 : ((k + 1 : Nat) : Int) - 1 = (k : Int) := by omega
      rw [i1]
      have hi0 : (0 : Int) ≤ (k : Int) := by omega
      have hi1 : (k : Int) < (n : Int) := by omega
      have hw2 : IntKind.i64.wrap ((k : Int) - 1) = (k : Int) - 1 := IntWalk.i64_in _ (by omega)
      clear hT2 hV2 h1 hcells he hkl i1
      go_wp2_with fail
      with_reducible refine (HC.out _ _ _ (Nat.le_refl _) (by rw [World.cell?_alloc_new]; simp)).mono ?_
      rintro e w2 ⟨rfl, b2⟩
      have hb2 := cdgo (hbw.out.alloc hsz _) b2
      clear hbw b2
      go_wp2_with fail
      go_roundg k
      case rel => exact ⟨T2, V2, rfl, rfl, by omega, HE, hb2⟩
      case measure => omega
    · obtain rfl : gk = 0 := by omega
      have hz : ¬ (0 : Int) ≤ ((0 : Nat) : Int) - 1 := by omega
      obtain ⟨e1, e2⟩ := he.out
      rw [List.drop_zero] at e1 e2
      have HE : Hid (T = tyOf (puts hs t) ∧ V = pay (puts hs t)) := ⟨e1, e2⟩
      clear he e1 e2
      go_wp2_with fail
      go_ret
      exact ⟨by rw [← HE.out.1, ← HE.out.2]; rfl, hbw.out⟩

set_option maxHeartbeats 2000000 in
/-- A sign for each of a row of letters. -/
theorem made_any (CF : FuncId) (caps : Array Value) (f : UInt8 → Hd) (hF : ∀ args w, (callFunc CF args).run Tryd.prog w = .ok (.enter CF args) w)
    (l : List UInt8) (n : Nat) (hn : n = l.length) (g cap : Nat) (w : World) (hr : BRow w g l)
    (HC : ∀ (c : UInt8) w1, Below w.heap.size w w1 → Calls Tryd.prog CF (#[.int .u8 (c.toNat : Int)] ++ caps) w1 fun e w' => e = .returned (f c).enc ∧ Below w1.heap.size w1 w') :
    Calls Tryd.prog 37 #[.slice (some ⟨g, 0, none⟩) n cap, .func (.func CF) #[] caps] w fun e w' => ∃ v, e = .returned v ∧ w'.ownsRow w.heap.size 30 1 v n ((l.map f).map Hd.enc) ∧ Below w.heap.size w w' := by
  obtain ⟨i0, hi, hz0, hz1, hz2⟩ := info_parts Tryd.infoSg
  obtain ⟨L, hL⟩ : ∃ L, L = (l.map f).map Hd.enc := ⟨_, rfl⟩
  have hLn : L.length = l.length := by rw [hL, List.length_map, List.length_map]
  have HL : Hid (∀ i (h : i < l.length), L.take (i + 1) = L.take i ++ [(f l[i]).enc]) := fun i h => by rw [List.take_succ_eq_append_getElem (by omega)]; simp [hL]
  rw [← hL]
  have HLn := Lib.hid hLn
  have HR := Lib.hid hr
  have HCC := Lib.hid HC
  have HN := Lib.hid hn
  have n100 : n ≤ 100 := by rw [hn]; exact hr.2.1
  clear hr HC hn hL hLn
  go_enter Tryd.func37, Tryd.ntmps37
  go_wp2_with fail
  go_loopg [5, 10] n (fun k s5 s10 wr => (∃ i : Nat, s10 = .int .i64 (i : Int) ∧ i + k = n ∧ Hid (wr.ownsRow w.heap.size 30 1 s5 i (L.take i))) ∧ Hid (Below w.heap.size w wr))
  case atStart => exact ⟨⟨0, by congr 1, by omega, World.ownsRow_nil _ _ _ _⟩, Below.refl _ _⟩
  case round =>
    obtain ⟨⟨i, rfl, hik, hown⟩, hbw⟩ := hrel
    have hsz := hbw.out.size
    by_cases hlt : (i : Int) < (n : Int)
    · have hil : i < l.length := by rw [← HN.out]; omega
      have c1 := (HR.out.below hbw.out).2.2 i hil
      have HC : Hid (∀ w1, Below w.heap.size w w1 → Calls Tryd.prog CF (#[.int .u8 (l[i].toNat : Int)] ++ caps) w1 fun e w' => e = .returned (f l[i]).enc ∧ Below w1.heap.size w1 w') := HCC.out l[i]
      obtain ⟨x, hx⟩ : ∃ x, x = (f l[i]).enc := ⟨_, rfl⟩
      rw [← hx] at HC
      have htk : Hid (L.take (i + 1) = L.take i ++ [x]) := by
        show _ = _
        rw [HL.out i hil, hx]
      obtain ⟨T, V, hTV⟩ := hd_if (f l[i])
      rw [← hx] at hTV
      subst hTV
      obtain ⟨cc, hcc⟩ : ∃ cc : Int, cc = (l[i].toNat : Int) := ⟨_, rfl⟩
      rw [← hcc] at c1 HC
      clear hx hcc
      go_wp2_with fail
      refine (HC.out _ hbw.out).mono ?_
      rintro e w1 ⟨rfl, b1⟩
      have hbw1 := Lib.hid (cdgo hbw.out b1)
      have hown1 := Lib.hid (own_below2 hown.out b1)
      have hsz1 := hbw1.out.size
      clear b1 c1 hbw hown
      go_wp2_with (at_builtin; refine wpList_append_rows rfl (.tmp 14) (.tmp 18) 58 rfl w.heap.size w.heap.size 30 i0 .nilIface 16 Tryd.underlying58 hi hz0 hz1 hz2 rfl _ i _ rfl (hown1.out.alloc _) _ 1 [.iface T V] rfl (own_new1 w1 (.iface T V) 30 w.heap.size hsz1) (fun u hu => by simp at hu; subst hu; rfl) ?c2 ?c3 ?c4 ?_)
      case c2 => unfold maxLen; omega
      case c3 => omega
      case c4 => simp; omega
      intro v3 w3 hown3 hgrow3 _
      have O3 : Hid (w3.ownsRow w.heap.size 30 1 v3 (i + 1) (L.take (i + 1))) := by
        show World.ownsRow _ _ _ _ _ _ _
        rw [htk.out]; exact hown3
      have hol := hown1.out.lt
      have Bl3 := Lib.hid (below_grown2 (hbw1.out.alloc hsz1 _) hgrow3 (fun g e => (hol g e).1) (by simp; omega))
      clear hown3 hgrow3 hol hbw1 hown1 htk
      go_wp2_with fail
      go_roundg (gk - 1)
      case rel => exact ⟨⟨i + 1, by congr 1, by omega, O3⟩, Bl3⟩
      case measure => omega
    · obtain rfl : i = n := by omega
      have htk : L.take i = L := List.take_of_length_le (by rw [HLn.out, HN.out]; exact Nat.le_refl _)
      rw [htk] at hown
      clear htk
      go_wp2_with fail
      go_ret
      exact ⟨_, rfl, hown.out, hbw.out⟩
end Go.Proofs.YtohaddhjnghcpaaDoor.T1
