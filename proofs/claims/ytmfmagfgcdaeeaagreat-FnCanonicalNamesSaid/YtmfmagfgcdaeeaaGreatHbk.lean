/- Texts of the proof, put together: Kj, Of, Kk. No conditions. -/
import Derived.Test.YtmfmagfgcdaeeaaGreatHas
import Derived.Test.YtmfmagfgcdaeeaaGreatHba
import Derived.Test.YtmfmagfgcdaeeaaGreatHbd
import Derived.Test.YtmfmagfgcdaeeaaGreatHbf
import Derived.Test.YtmfmagfgcdaeeaaGreatHbj
import Derived.WalkMore
import Derived.Scope

/- The order before whose texts no others come: in the program. -/
namespace Go.Proofs.YtmfmagfgcdaeeaaGreat.T1
open Go.RowKit
open Go.Sort (Holds putRow putCells swp)
set_option maxRecDepth 100000
set_option linter.unusedVariables false
set_option linter.unusedSimpArgs false

set_option maxHeartbeats 2000000 in
theorem nextOrder_none (w : World) : Calls Tryz.prog 200 #[.slice none 0 0] w fun e w' => e = .returned (.bool false) ∧ w' = w := by
  go_enter Tryz.func200, Tryz.ntmps200
  go_wp2_with fail
  go_loopg [3] 1 (fun k s3 wr => s3 = .int .i64 (-2) ∧ wr = w)
  case atStart => exact ⟨by congr 1, rfl⟩
  case round =>
    obtain ⟨rfl, rfl⟩ := hrel
    go_wp2_with fail
    go_ret
    exact ⟨rfl, rfl⟩
theorem u8_ne_str : (5 : TypeId) ≠ 9 := by decide
theorem grown_same (w : World) (r : Option Nat) : w.grownBy w r := ⟨rfl, rfl, rfl, Nat.le_refl _, fun _ _ _ => rfl⟩
theorem next_len {o m : List UInt8} (h : nextG ltU o = some m) : m.length = o.length := by
  unfold nextG at h
  obtain ⟨i, _, h⟩ := List.exists_of_findSome?_eq_some h
  rw [Option.map_eq_some_iff] at h
  obtain ⟨j, _, h⟩ := h
  rw [← h]
  split
  · simp; omega
  · rfl
theorem nextOwn (o : List UInt8) (v : Value) (n base : Nat) (w : World) (hn : n = o.length) (hn2 : n ≤ 1000) (h : w.ownsRow base 5 1 v n (o.map ub)) :
    Calls Tryz.prog 200 #[v] w fun e w' => e = .returned (.bool (nextG ltU o).isSome) ∧ w'.ownsRow base 5 1 v n (((nextG ltU o).getD o).map ub) ∧ w.grownBy w' v.ownBlock := by
  rcases h.2 with ⟨rfl, rfl⟩ | ⟨g, cap, cur, rfl, h2, h3, h4, h5, h6, h7⟩
  · have ho : o = [] := List.length_eq_zero_iff.1 hn.symm
    subst ho
    have e0 : nextG ltU ([] : List UInt8) = none := nextG_none _ _ fun i j _ hj => by simp at hj
    refine (nextOrder_none w).mono ?_
    rintro e w' ⟨rfl, rfl⟩
    rw [e0]
    exact ⟨rfl, h, grown_same _ _⟩
  · subst hn
    rw [Nat.mul_one] at h7
    refine (nextOrder_any revC o g cap hn2 h4 w (holds_block ub h3 h7)).mono ?_
    rintro e w' ⟨rfl, q, rfl⟩
    refine ⟨rfl, owns_put ub ?_ h2 h3 h4 h5 h6, grown_put ub _⟩
    cases hx : nextG ltU o with
    | none => rfl
    | some m => exact next_len hx
theorem sortOwn (o : List UInt8) (v : Value) (n base : Nat) (w : World) (hn : n = o.length) (hn2 : n ≤ 12) (hs : o.Pairwise (· < ·)) (h : w.ownsRow base 5 1 v n (o.map ub)) :
    Calls Tryz.prog 199 #[v] w fun e w' => e = .returned (.tuple #[]) ∧ w'.ownsRow base 5 1 v n (o.map ub) ∧ Below w.heap.size w w' := by
  rcases h.2 with ⟨rfl, rfl⟩ | ⟨g, cap, cur, rfl, h2, h3, h4, h5, h6, h7⟩
  · refine (sortB_none w).mono ?_
    rintro e w' ⟨rfl, rfl⟩
    exact ⟨rfl, h, Below.refl _ _⟩
  · have hn' := hn
    subst hn
    rw [Nat.mul_one] at h7
    refine (sortB o g cap _ rfl hs hn2 h4 w (holds_block ub h3 h7)).mono ?_
    rintro e w' ⟨rfl, q, rfl⟩
    exact ⟨rfl, h, ⟨rfl, rfl, rfl, Nat.le_refl _, fun _ _ => rfl⟩⟩
/-- A row of bytes as an order that a function takes. -/
theorem own_ord {w : World} {base : Nat} {v : Value} {o : List UInt8} (h : w.ownsRow base 5 1 v o.length (o.map ub)) :
    ∃ po go co, v = .slice po o.length co ∧ (o ≠ [] → po = some ⟨go, 0, none⟩ ∧ ∀ k (h : k < o.length), w.cell? ⟨go, k, none⟩ = some (.int .u8 (o[k].toNat : Int))) := by
  have h0 := h
  rcases h.2 with ⟨e1, e2⟩ | ⟨g, cap, cur, rfl, _⟩
  · exact ⟨none, 0, 0, by rw [e1, e2], fun hne => absurd (List.length_eq_zero_iff.1 e2) hne⟩
  · refine ⟨_, g, cap, rfl, fun _ => ⟨rfl, fun k hk => ?_⟩⟩
    have := own_cells h0 k (ub o[k]) (by rw [List.getElem?_map, List.getElem?_eq_getElem hk]; rfl)
    rw [add0] at this
    exact this
set_option maxHeartbeats 16000000 in
theorem least_any (G : List UInt8) (hs : G.Pairwise (· < ·)) (hl5 : G.length ≤ 5) (Fc : List UInt8 → List Tm) (k : Nat) (hk : ∀ o ∈ visG ltU 200 G, (Fc o).length = k) (hk2 : k ≤ 300)
    (C : FuncId) (caps : Array Value) (hC : ∀ args w, (callFunc C args).run Tryz.prog w = .ok (.enter C args) w) (v0 : Value) (base : Nat) (w : World) (hown : w.ownsRow base 5 1 v0 G.length (G.map ub))
    (HT : ∀ o, o ∈ visG ltU 200 G → ∀ po go co w', Below w.heap.size w w' → (o ≠ [] → po = some ⟨go, 0, none⟩ ∧ ∀ j (h : j < o.length), w'.cell? ⟨go, j, none⟩ = some (.int .u8 (o[j].toNat : Int))) →
      Calls Tryz.prog C (#[.slice po o.length co] ++ caps) w' (TxP (Fc o) k w')) :
    Calls Tryz.prog 184 #[.agg #[.func (.func C) #[] caps], v0] w (TxP (bestL ((visG ltU 200 G).map Fc)) k w) := by
  have HTv := Lib.hid fun (o : List UInt8) (ho : o ∈ visG ltU 200 G) (b2 : Nat) (v : Value) (w' : World) (hb : Below w.heap.size w w') (hw : w'.ownsRow b2 5 1 v o.length (o.map ub)) =>
    (show Calls Tryz.prog C (#[v] ++ caps) w' (TxP (Fc o) k w') by
      obtain ⟨po, go, co, rfl, hc⟩ := own_ord hw
      exact HT o ho po go co w' hb hc)
  have HCl := Lib.hid fun (w' : World) (hb : Below w.heap.size w w') => cloneB G v0 G.length base w' (own_below2 hown hb) (by omega)
  have HSo := Lib.hid fun (v : Value) (b2 : Nat) (w' : World) (h : w'.ownsRow b2 5 1 v G.length (G.map ub)) => sortOwn G v G.length b2 w' rfl (by omega) hs h
  have HNx := Lib.hid fun (o : List UInt8) (v : Value) (b2 : Nat) (w' : World) (hn : G.length = o.length) (h : w'.ownsRow b2 5 1 v G.length (o.map ub)) => nextOwn o v G.length b2 w' hn (by omega) h
  have HS := Lib.hid hs
  have HK := Lib.hid hk
  obtain ⟨n, hn⟩ : ∃ n, n = G.length := ⟨_, rfl⟩
  have HN := Lib.hid hn
  rw [← hn] at HCl HSo HNx
  clear hn hs hk hown HT
  go_enter Tryz.func184, Tryz.ntmps184
  go_wp2_with fail
  go_step3
  go_wp2_with fail
  obtain ⟨W, hW⟩ : ∃ W, W = w.alloc (.cells #[.func (.func C) #[] caps] 171) := ⟨_, rfl⟩
  have hbk : W.heap[w.heap.size]? = some (.cells #[.func (.func C) #[] caps] 171 (0, 0)) := by rw [hW]; exact new_block0 _ _
  have blW : Below w.heap.size w W := by rw [hW]; exact (Below.refl _ _).alloc (Nat.le_refl _) _
  rw [← hW]
  clear hW
  refine (HCl.out _ blW).mono ?_
  rintro e w1 ⟨v1, rfl, ho1, b1⟩
  have bk1 := row_below0 hbk b1
  have bl1 := below_go blW b1
  have O1 := Lib.hid (own_bas2 (b2 := w.heap.size + 1) ho1 (lt_of_block hbk))
  clear hbk blW ho1 b1
  go_wp2_with fail
  refine (HSo.out _ _ _ O1.out).mono ?_
  rintro e w2 ⟨rfl, ho2, b2⟩
  have bk2 := Lib.hid (row_below0 bk1 b2)
  have bl2 := Lib.hid (below_go bl1 b2)
  have O2 := Lib.hid ho2
  have k2 := cellOf1 bk2.out
  clear bk1 bl1 ho2 b2 O1
  go_wp2_with fail
  have ho2 := O2.out
  rw [HN.out] at ho2
  refine (HTv.out G (Srch.start G Fc).mem _ _ _ bl2.out ho2).mono ?_
  rintro e w3 ⟨vb, rfl, ho3, b3⟩
  have bk3 := Lib.hid (row_below0 bk2.out b3)
  have bl3 := Lib.hid (below_go bl2.out b3)
  have O3 := Lib.hid (own_below2 O2.out b3)
  have P3 := Lib.hid (own_bas2 (b2 := w.heap.size + 1) ho3 (lt_of_block bk2.out))
  clear ho2 ho3 b3 k2 bk2 bl2 O2
  go_wp2_with fail
  go_step3
  go_wp2_with fail
  go_loopg [6] 199 (fun gk s6 wr => ∃ (o : List UInt8) (b : List Tm), Hid (Srch G Fc o b gk) ∧ Hid (wr.ownsRow (w.heap.size + 1) 5 1 v1 n (o.map ub)) ∧ Hid (wr.ownsRow (w.heap.size + 1) 9 1 s6 k (b.map sv)) ∧
    Hid (wr.heap[w.heap.size]? = some (.cells #[.func (.func C) #[] caps] 171 (0, 0))) ∧ Hid (Below w.heap.size w wr))
  case atStart => exact ⟨G, Fc G, Srch.start G Fc, O3, P3, bk3, bl3⟩
  case round =>
    obtain ⟨o, b, hsr, ho, hb, hbk, hbl⟩ := hrel
    have hol : Hid (n = o.length) := by show _ = _; rw [HN.out]; exact (vis_ord G HS.out hl5 hsr.out.mem).1.symm
    go_wp2_with fail
    refine (HNx.out o _ _ _ hol.out ho.out).mono ?_
    rintro e w4 ⟨rfl, ho4, g4⟩
    have hv1 := Lib.hid fun g (e : v1.ownBlock = some g) => (ho.out.lt g e).1
    have hb4 := Lib.hid (own_grown hb.out g4 (fun g e h => own_apart u8_ne_str ho.out hb.out g h e))
    have hbk4 : Hid (w4.heap[w.heap.size]? = some (.cells #[.func (.func C) #[] caps] 171 (0, 0))) := (g4.block _ (lt_of_block hbk.out) (fun e => by have := hv1.out _ e.symm; omega)).trans hbk.out
    have hbl4 := Lib.hid (below_grown2 hbl.out g4 (fun g e => by have := hv1.out g e; omega) hbl.out.size)
    have hb0 := lt_of_block hbk4.out
    have HO4 := Lib.hid ho4
    clear g4 ho4 hb hbk hbl
    cases hx : nextG ltU o with
    | none =>
      have he := Lib.hid (hsr.out.stop hx)
      simp only [Option.isSome_none]
      go_wp2_with fail
      try rw [Exit.noGoto_ret]
      go_ret
      rw [← he.out]
      exact ⟨_, rfl, own_bas2 hb4.out (by omega), hbl4.out⟩
    | some m =>
      obtain ⟨k', rfl, hs2⟩ := hsr.out.go HS.out hl5 hx
      have hsm := Lib.hid hs2
      have ho4 := HO4.out
      rw [hx] at ho4
      have ho5 : w4.ownsRow (w.heap.size + 1) 5 1 v1 m.length (m.map ub) := by
        rw [next_len hx, ← hol.out]; exact ho4
      have hbl0 : Hid (b.length = k) := by
        obtain ⟨_, _, o', h1, h2⟩ := hsr.out
        show _ = _
        rw [h2]; exact HK.out o' h1
      have HO5 := Lib.hid ho4
      have hml : Hid (m.length = n) := by show _ = _; rw [next_len hx, hol.out]
      have k4 := cellOf1 hbk4.out
      simp only [Option.isSome_some]
      clear hs2 HO4 ho4 hsr hx hol ho
      go_wp2_with fail
      refine (HTv.out m hsm.out.mem _ _ _ hbl4.out ho5).mono ?_
      rintro e w5 ⟨vt, rfl, ht5, b5⟩
      have hb5 := Lib.hid (own_below2 hb4.out b5)
      have hbk5 := Lib.hid (row_below0 hbk4.out b5)
      have hbl5 := Lib.hid (below_go hbl4.out b5)
      have HO6 := Lib.hid (own_below2 HO5.out b5)
      have HT5 := Lib.hid (own_bas2 (b2 := w.heap.size + 1) ht5 hb0)
      have hml2 : Hid ((Fc m).length = k) := HK.out m hsm.out.mem
      clear ho5 b5 ht5 k4 hb0 hb4 hbk4 hbl4 HO5
      obtain ⟨pt, ct, rfl⟩ := own_form HT5.out
      obtain ⟨pb, cb, rfl⟩ := own_form hb5.out
      go_wp2_with fail
      go_loopg [6, 26] k (fun j s6 s26 wr => ∃ i : Nat, s26 = .int .i64 (i : Int) ∧ i + j = k ∧ s6 = .slice pb k cb ∧ wr = w5 ∧ Hid (((Fc m).map Tm.pr).take i = (b.map Tm.pr).take i))
      case atStart => exact ⟨0, by congr 1, by omega, rfl, rfl, rfl⟩
      case round =>
        obtain ⟨i, rfl, hij, rfl, rfl, htk⟩ := hrel
        by_cases hlt : (i : Int) < (k : Int)
        · have hi1 : i < (Fc m).length := by rw [hml2.out]; omega
          have hi2 : i < b.length := by rw [hbl0.out]; omega
          obtain ⟨gt', hpt, _, hgt2, hgt3, hct⟩ := own_at HT5.out (by omega)
          obtain ⟨gb', hpb, _, hgb2, hgb3, hcb⟩ := own_at hb5.out (by omega)
          subst hpt hpb
          have c1 : wr.cell? ⟨gt', i, none⟩ = some (.string (S (Fc m)[i])) := hct i (sv (Fc m)[i]) (by rw [List.getElem?_map, List.getElem?_eq_getElem hi1]; rfl)
          have c2 : wr.cell? ⟨gb', i, none⟩ = some (.string (S b[i])) := hcb i (sv b[i]) (by rw [List.getElem?_map, List.getElem?_eq_getElem hi2]; rfl)
          have hg1 : ((Fc m).map Tm.pr)[i]? = some (Fc m)[i].pr := by rw [List.getElem?_map, List.getElem?_eq_getElem hi1]; rfl
          have hg2 : (b.map Tm.pr)[i]? = some b[i].pr := by rw [List.getElem?_map, List.getElem?_eq_getElem hi2]; rfl
          obtain ⟨x, hx⟩ : ∃ x, x = (Fc m)[i] := ⟨_, rfl⟩
          obtain ⟨y, hy⟩ : ∃ y, y = b[i] := ⟨_, rfl⟩
          rw [← hx] at c1 hg1
          rw [← hy] at c2 hg2
          obtain ⟨X, hX⟩ : ∃ X, X = S x := ⟨_, rfl⟩
          obtain ⟨Y, hY⟩ : ∃ Y, Y = S y := ⟨_, rfl⟩
          have hless : Op.bytesLess X.toList Y.toList = decide (x.pr < y.pr) := by rw [bytesLess_eq, Lib.toList_data, Lib.toList_data, hX, hY]; rfl
          have hgtr : (X.toList == Y.toList) = (x.pr == y.pr) := by rw [Lib.toList_data, Lib.toList_data, hX, hY]; rfl
          rw [← hX] at c1
          rw [← hY] at c2
          have G1 := Lib.hid hg1
          have G2 := Lib.hid hg2
          clear hX hY hx hy hg1 hg2 hct hcb hi1 hi2
          by_cases h1 : x.pr < y.pr
          · rw [decide_eq_true h1] at hless
            have hyes : Hid (ltLs ((Fc m).map Tm.pr) (b.map Tm.pr) = true) := ltLs_yes i _ _ _ _ htk.out G1.out G2.out h1
            clear hgtr
            go_wp2_with fail
            go_roundg k'
            case rel => exact ⟨m, Fc m, by have := hsm.out; rw [hyes.out] at this; show Srch _ _ _ _ _; simpa using this, HO6, HT5, hbk5, hbl5⟩
            case measure => omega
          · rw [decide_eq_false h1] at hless
            by_cases h2 : y.pr < x.pr
            · rw [show (x.pr == y.pr) = false from by simp only [beq_eq_false_iff_ne]; intro e; rw [e] at h2; exact lt_irr _ h2] at hgtr
              have hno : Hid (ltLs ((Fc m).map Tm.pr) (b.map Tm.pr) = false) := ltLs_no i _ _ _ _ htk.out G1.out G2.out h2
              go_wp2_with fail
              go_roundg k'
              case rel => exact ⟨m, b, by have := hsm.out; rw [hno.out] at this; show Srch _ _ _ _ _; simpa using this, HO6, hb5, hbk5, hbl5⟩
              case measure => omega
            · have hxy : x.pr = y.pr := List.le_antisymm (List.not_lt.1 h2) (List.not_lt.1 h1)
              rw [show (x.pr == y.pr) = true from by rw [hxy]; simp] at hgtr
              have hsame : Hid (((Fc m).map Tm.pr).take (i + 1) = (b.map Tm.pr).take (i + 1)) := by
                show _ = _
                obtain ⟨a1, e1⟩ := List.getElem?_eq_some_iff.1 G1.out
                obtain ⟨a2, e2⟩ := List.getElem?_eq_some_iff.1 G2.out
                rw [List.take_succ_eq_append_getElem a1, List.take_succ_eq_append_getElem a2, htk.out, e1, e2, hxy]
              go_wp2_with fail
              go_roundg (gk - 1)
              case rel => exact ⟨i + 1, by congr 1, by omega, rfl, rfl, hsame⟩
              case measure => omega
        · obtain rfl : i = k := by omega
          have hno : Hid (ltLs ((Fc m).map Tm.pr) (b.map Tm.pr) = false) := by
            have := htk.out
            rw [List.take_of_length_le (by rw [List.length_map, hml2.out]; exact Nat.le_refl _), List.take_of_length_le (by rw [List.length_map, hbl0.out]; exact Nat.le_refl _)] at this
            show _ = _
            rw [this]; exact ltLs_same _
          go_wp2_with fail
          go_roundg k'
          case rel => exact ⟨m, b, by have := hsm.out; rw [hno.out] at this; show Srch _ _ _ _ _; simpa using this, HO6, hb5, hbk5, hbl5⟩
          case measure => omega

end Go.Proofs.YtmfmagfgcdaeeaaGreat.T1

/- Lists of texts and lists of trees: put in order, joined. -/
namespace Go.Proofs.YtmfmagfgcdaeeaaGreat.T1
set_option linter.unusedVariables false
set_option linter.unusedSimpArgs false

theorem data_inj {a b : ByteArray} (h : a.data.toList = b.data.toList) : a = b := by
  cases a; cases b; congr; exact Array.toList_inj.1 h
theorem joinB_par (l : List Tm) (h : l ≠ []) : joinB ⟨#[38]⟩ (l.map S) = S (joinR .par l) := by
  induction l with
  | nil => exact absurd rfl h
  | cons a l ih =>
    cases l with
    | nil => rfl
    | cons b l =>
      have := ih (by simp)
      simp only [List.map_cons] at this ⊢
      show (⟨#[40]⟩ : ByteArray) ++ S a ++ _ ++ joinB _ (S b :: l.map S) ++ (⟨#[41]⟩ : ByteArray) = _
      rw [this]
      refine data_inj ?_
      simp [S, joinR, Tm.pr]
theorem joinB_sum (l : List Tm) (h : l ≠ []) : joinB ⟨#[43]⟩ (l.map S) = S (joinR .sum l) := by
  induction l with
  | nil => exact absurd rfl h
  | cons a l ih =>
    cases l with
    | nil => rfl
    | cons b l =>
      have := ih (by simp)
      simp only [List.map_cons] at this ⊢
      show (⟨#[40]⟩ : ByteArray) ++ S a ++ _ ++ joinB _ (S b :: l.map S) ++ (⟨#[41]⟩ : ByteArray) = _
      rw [this]
      refine data_inj ?_
      simp [S, joinR, Tm.pr]

end Go.Proofs.YtmfmagfgcdaeeaaGreat.T1

/- Texts with brackets out of a row; what stands for the names that a sign uses: in the program. -/
namespace Go.Proofs.YtmfmagfgcdaeeaaGreat.T1
open Go.RowKit
set_option maxRecDepth 100000
set_option linter.unusedVariables false
set_option linter.unusedSimpArgs false

theorem brOwn (sg : ByteArray) (hsg : sg.size ≤ 1) (ts : List Tm) (v : Value) (n base : Nat) (w : World) (h : w.ownsRow base 9 1 v n (ts.map sv)) (hn : n = ts.length) (hn1 : 1 ≤ n) (hn2 : n ≤ 100) (ht : ∀ t ∈ ts, t.pr.length ≤ 1000) :
    Calls Tryz.prog 183 #[v, .string sg] w fun e w' => e = .returned (.string (joinB sg (ts.map S))) ∧ w = w' := by
  rcases h.2 with ⟨_, h0⟩ | ⟨g, cap, cur, rfl, h2, h3, h4, h5, h6, h7⟩
  · omega
  · refine bracketed_some w g n cap cur (ts.map S) sg (by rw [List.length_map]; exact hn) hn1 hn2 hsg (fun x hx => ?_) (fun j hj => ?_) h3
    · obtain ⟨t, htm, rfl⟩ := List.mem_map.1 hx
      rw [S_size]; exact ht t htm
    · have hj' : j < ts.length := by simpa using hj
      have := own_cells h j (sv ts[j]) (by rw [List.getElem?_map, List.getElem?_eq_getElem hj']; rfl)
      rw [add0, cell_of_row w g j cur _ _ h3] at this
      rw [this, List.getElem_map]; rfl
theorem brNone (sg : ByteArray) (v : Value) (base : Nat) (w : World) (h : w.ownsRow base 9 1 v 0 []) :
    Calls Tryz.prog 183 #[v, .string sg] w fun e w' => e = .returned (.string ⟨#[48]⟩) ∧ w = w' := by
  obtain ⟨p, cap, rfl⟩ := own_form h
  exact bracketed_none p cap sg w
theorem cf_thC (args : Array Value) (w : World) : (callFunc 197 args).run Tryz.prog w = .ok (.enter 197 args) w := by kernel_rfl
set_option maxHeartbeats 1000000 in
theorem thC_at (j g : Nat) (hj : j < 256) (n0 : Int) (w : World) (h1 : w.cell? ⟨g, j, none⟩ = some (.int .u8 n0)) :
    Calls Tryz.prog 197 #[.int .u8 ((j : Int)), .pointer (some ⟨g, 0, none⟩)] w fun e w' => e = .returned (.int .u8 n0) ∧ w = w' := by
  have hj2 : (j : Int) < 256 := by omega
  go_enter Tryz.func197, Tryz.ntmps197
  go_wp2_with fail
  go_ret
  exact ⟨rfl, rfl⟩
theorem thC_any (c : UInt8) (D : Array Value) (L : UInt8 → UInt8) (v : Value) (hD : DrOf D L v) (g : Nat) (w : World) (h : w.heap[g]? = some (.cells D 152 (0, 0))) :
    Calls Tryz.prog 197 (#[.int .u8 (c.toNat : Int)] ++ #[.pointer (some ⟨g, 0, none⟩)]) w fun e w' => e = .returned (.int .u8 ((L c).toNat : Int)) ∧ w = w' := by
  have h1 := c.toNat_lt
  have h3 : UInt8.ofNat c.toNat = c := u8_ext (by rw [UInt8.toNat_ofNat']; omega)
  have := thC_at (c.toNat) g (by omega) ((L c).toNat : Int) w (by rw [cell_of_row w g _ D _ _ h, hD.at_ _ (by omega), h3])
  exact this
theorem wu_df (t : Tm) (D : Array Value) (L : UInt8 → UInt8) (vL : Value) (hs : DrOf D L vL) (g : Nat) (v : World) (h : v.heap[g]? = some (.cells D 152 (0, 0))) :
    Calls Tryz.prog 116 #[.iface (tyOf t) (pay t), .func (.func 197) #[] #[.pointer (some ⟨g, 0, none⟩)]] v fun e v' => e = .returned (.iface (tyOf (t.mapU L)) (pay (t.mapU L))) ∧ Below v.heap.size v v' :=
  withUsed_any t 197 _ L cf_thC v fun c hc v1 b1 => thC_any c D L vL hs g v1 (row_below h b1)

end Go.Proofs.YtmfmagfgcdaeeaaGreat.T1
