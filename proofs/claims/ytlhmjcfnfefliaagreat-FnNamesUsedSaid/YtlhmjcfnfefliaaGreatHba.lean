/- Texts of the proof, put together: Tx, Ls, Qa. No conditions. -/
import Derived.Test.YtlhmjcfnfefliaaGreatHab
import Derived.Test.YtlhmjcfnfefliaaGreatHar
import Derived.Test.YtlhmjcfnfefliaaGreatHau
import Derived.Test.YtlhmjcfnfefliaaGreatHaz
import Derived.Laws.IdiomStrings
import Derived.Laws.OwnMore
import Derived.Deep.LoopGhost

/- The text of a tree. -/
namespace Go.Proofs.YtlhmjcfnfefliaaGreat.T1
open Go.RowKit
set_option maxRecDepth 100000

theorem add0 (g j : Nat) : (⟨g, 0, none⟩ : Addr).add j = ⟨g, j, none⟩ := by
  unfold Addr.add
  split
  · rename_i h; rw [h]
  · rw [Nat.zero_add]
theorem conv_row {w : World} {base n : Nat} {v : Value} (l : List UInt8) (hn : n = l.length) (hne : 0 < l.length) (h : w.ownsRow base 5 1 v n (l.map ub)) :
    (convert 22 9 v).run Tryz.prog w = .ok (.string ⟨l.toArray⟩) w := by
  subst hn
  rcases h.2 with ⟨_, h0⟩ | ⟨g, cap, cur, rfl, _⟩
  · omega
  · refine run_convert_bytes_back w 22 9 5 ⟨g, 0, none⟩ cap l Tryz.underlying22 Tryz.underlying5 Tryz.underlying9 fun j hj => ?_
    rw [add0, h.cellAt j (by omega)]
    simp [ub, hj]

end Go.Proofs.YtlhmjcfnfefliaaGreat.T1

/- A set of letters as a text. -/
namespace Go.Proofs.YtlhmjcfnfefliaaGreat.T1
open Go.RowKit
set_option maxRecDepth 100000
theorem conv_nil (w : World) : (convert 22 9 (.slice none 0 0)).run Tryz.prog w = .ok (.string ⟨#[]⟩) w := by kernel_rfl
theorem conv_rowE {w : World} {base n : Nat} {v : Value} (l : List UInt8) (hn : n = l.length) (h : w.ownsRow base 5 1 v n (l.map ub)) :
    (convert 22 9 v).run Tryz.prog w = .ok (.string (B l)) w := by
  cases l with
  | nil =>
    subst hn
    rcases h.2 with ⟨rfl, _⟩ | ⟨g, cap, cur, rfl, _⟩
    · exact conv_nil w
    · exact run_convert_bytes_back w 22 9 5 ⟨g, 0, none⟩ cap [] Tryz.underlying22 Tryz.underlying5 Tryz.underlying9 fun j hj => by simp at hj
  | cons c l => exact conv_row (c :: l) hn (by simp) h
theorem lets_setN (l : List UInt8) (hs : Srt l) (hl : Lets l) : lets (setN l) 26 = l := by
  refine srt_ext ?_ hs fun x => ?_
  · unfold lets Srt
    rw [List.pairwise_map]
    refine List.Pairwise.imp_of_mem ?_ (List.Pairwise.filter _ List.pairwise_lt_range)
    intro a b ha hb hab
    have ha' := (List.mem_filter.1 ha).1
    have hb' := (List.mem_filter.1 hb).1
    rw [List.mem_range] at ha' hb'
    rw [u8_lt, UInt8.toNat_ofNat', UInt8.toNat_ofNat']; omega
  · unfold lets
    rw [List.mem_map]
    constructor
    · rintro ⟨i, hi, rfl⟩
      obtain ⟨h1, h2⟩ := List.mem_filter.1 hi
      rw [List.mem_range] at h1
      obtain ⟨d, hd, e⟩ := (setN_bit l hl i).1 h2
      rw [show UInt8.ofNat (97 + i) = d from u8_ext (by rw [UInt8.toNat_ofNat']; omega)]
      exact hd
    · intro hx
      have := hl x hx
      refine ⟨x.toNat - 97, List.mem_filter.2 ⟨List.mem_range.2 (by omega), (setN_bit l hl _).2 ⟨x, hx, by omega⟩⟩, u8_ext ?_⟩
      rw [UInt8.toNat_ofNat']; omega

end Go.Proofs.YtlhmjcfnfefliaaGreat.T1

/- Sorts in the program: a name by its text; the names for which something holds. -/
namespace Go.Proofs.YtlhmjcfnfefliaaGreat.T1
open Go.RowKit
set_option maxRecDepth 100000
set_option linter.unusedVariables false
set_option linter.unusedSimpArgs false

theorem Sta.u_at {w : World} {b U N : Nat} {l : List (Bool × Nat × Nat)} (h : Sta w b U N l) : w.cell? ⟨b, 0, none⟩ = some (.int .u32 (U : Int)) := by obtain ⟨f, r, c, h, _⟩ := h; exact h.u_at
theorem letterSort_any (c : UInt8) (h1 : 97 ≤ c.toNat) (h2 : c.toNat ≤ 122) (w : World) : Calls Tryz.prog 46 #[.int .u8 (c.toNat : Int)] w fun e w' => e = .returned (.int .i64 (lt6 c : Int)) ∧ w = w' := by
  have e : Hid (((lt6 c : Nat) : Int) = (c.toNat : Int) - 97) := by show _ = _; unfold lt6; omega
  go_enter Tryz.func46, Tryz.ntmps46
  go_wp2_with fail
  go_ret
  exact ⟨by rw [e.out]; rfl, rfl⟩
set_option maxHeartbeats 1000000 in
theorem named_text {w : World} {b U N : Nat} {l : List (Bool × Nat × Nat)} (h : Sta w b U N l) (k : ByteArray) (o2 : ∀ w, Calls Tryz.prog 44 #[.string k] w fun e w' => e = .returned (.tuple #[.int .u8 0, .bool false]) ∧ Below w.heap.size w w') :
    Calls Tryz.prog 23 #[.pointer (some ⟨b, 0, none⟩), .string k] w fun e w' => e = .returned (.tuple #[.int .i64 0, .bool false]) ∧ Below w.heap.size w w' := by
  have H := Lib.hid o2
  clear o2
  go_enter Tryz.func23, Tryz.ntmps23
  go_wp2_with fail
  refine (H.out _).mono ?_
  rintro e w1 ⟨rfl, b1⟩
  go_wp2_with fail
  go_ret2
  exact ⟨rfl, b1⟩
set_option maxHeartbeats 1000000 in
theorem named_name {w : World} {b U N : Nat} {l : List (Bool × Nat × Nat)} (h : Sta w b U N l) (k : ByteArray) (c : UInt8) (hc : nmL c = true) (q : Bool) (o2 : ∀ w, Calls Tryz.prog 44 #[.string k] w fun e w' => e = .returned (.tuple #[.int .u8 (c.toNat : Int), .bool true]) ∧ Below w.heap.size w w') (HH : ∀ w, Calls Tryz.prog 45 #[.int .u32 (U : Int), .int .u8 (c.toNat : Int)] w fun e w' => e = .returned (.bool q) ∧ w = w') :
    Calls Tryz.prog 23 #[.pointer (some ⟨b, 0, none⟩), .string k] w fun e w' => e = .returned (.tuple #[.int .i64 (if q then (lt6 c : Int) else 0), .bool q]) ∧ Below w.heap.size w w' := by
  have H := Lib.hid o2
  have HQ := Lib.hid HH
  have HS := Lib.hid h
  have h2 := (nmL_iff c).1 hc
  have HL := Lib.hid (fun w => letterSort_any c h2.1 h2.2 w)
  clear o2 HH h
  cases q
  · go_enter Tryz.func23, Tryz.ntmps23
    go_wp2_with fail
    refine (H.out _).mono ?_
    rintro e w1 ⟨rfl, b1⟩
    have cu := (HS.out.below b1).u_at
    go_wp2_with fail
    refine (HQ.out _).mono ?_
    rintro e w2 ⟨rfl, rfl⟩
    go_wp2_with fail
    go_ret2
    exact ⟨rfl, b1⟩
  · go_enter Tryz.func23, Tryz.ntmps23
    go_wp2_with fail
    refine (H.out _).mono ?_
    rintro e w1 ⟨rfl, b1⟩
    have cu := (HS.out.below b1).u_at
    go_wp2_with fail
    refine (HQ.out _).mono ?_
    rintro e w2 ⟨rfl, rfl⟩
    go_wp2_with fail
    refine (HL.out _).mono ?_
    rintro e w3 ⟨rfl, rfl⟩
    go_wp2_with fail
    go_ret2
    exact ⟨rfl, b1⟩
theorem filter_snoc {F : List UInt8} (p : UInt8 → Bool) (i : Nat) (h : i < F.length) : (F.take (i + 1)).filter p = (F.take i).filter p ++ (if p F[i] then [F[i]] else []) := by
  rw [List.take_succ_eq_append_getElem h, List.filter_append]
  congr 1
  cases hp : p F[i] <;> simp [hp]
set_option maxHeartbeats 2000000 in
theorem namesWith_any {b U : Nat} {F : List UInt8} (hF : Lets F) (hS : Srt F) (hU : U = setN F) (hF26 : F.length ≤ 26) (HFn : FuncId) (caps : Array Value) (hp : UInt8 → Bool) (J : World → Prop)
    (hFH : ∀ args w, (callFunc HFn args).run Tryz.prog w = .ok (.enter HFn args) w)
    (hJ : ∀ w w', J w → Below w.heap.size w w' → J w')
    (hu : ∀ w, J w → w.cell? ⟨b, 0, none⟩ = some (.int .u32 (U : Int)))
    (hH : ∀ c w, c ∈ F → J w → Calls Tryz.prog HFn (#[.int .i64 (lt6 c : Int)] ++ caps) w fun e w' => e = .returned (.bool (hp c)) ∧ Below w.heap.size w w') (w : World) (j0 : J w) :
    Calls Tryz.prog 56 #[.pointer (some ⟨b, 0, none⟩), .func (.func HFn) #[] caps] w fun e w' => e = .returned (.string (B (F.filter hp))) ∧ Below w.heap.size w w' := by
  obtain ⟨i0, hi, hz0, hz1, hz2⟩ := info_parts Tryz.infoU8
  have HLt := Lib.hid (letters_any (setN F) (setN_lt32 _ hF))
  have HV : Hid (∀ (w1 : World) (bb n : Nat) (v : Value), n = (F.filter hp).length → w1.ownsRow bb 5 1 v n ((F.filter hp).map ub) → (convert 22 9 v).run Tryz.prog w1 = .ok (.string (B (F.filter hp))) w1) := fun w1 bb n v hn h => conv_rowE _ hn h
  have HLt2 : Hid (∀ w, Calls Tryz.prog 92 #[.int .u32 (U : Int)] w fun e w' => ∃ v, e = .returned v ∧ w'.ownsRow w.heap.size 5 1 v F.length (F.map ub) ∧ Below w.heap.size w w') := fun w => by
    have := HLt.out w
    rw [lets_setN F hS hF] at this
    rw [hU]; exact this
  have cu := hu w j0
  have HJ := Lib.hid hJ
  have HH := Lib.hid hH
  have J0 := Lib.hid j0
  have HF := Lib.hid hF
  have HFS := Lib.hid (fun i (h : i < F.length) => filter_snoc hp i h)
  clear hF hS hU hJ hu hH j0 HLt
  go_enter Tryz.func56, Tryz.ntmps56
  go_wp2_with fail
  refine (HLt2.out _).mono ?_
  rintro e w1 ⟨v1, rfl, o1, b1⟩
  obtain ⟨p1, c1, rfl⟩ : ∃ p c, v1 = .slice p F.length c := by
    rcases o1.2 with ⟨h1, h0⟩ | ⟨g, cap, cur, hv, _⟩
    · exact ⟨none, 0, by rw [h1, h0]⟩
    · exact ⟨_, cap, hv⟩
  have O1 := Lib.hid o1
  have B1 := Lib.hid b1
  clear o1 cu b1
  go_wp2_with fail
  go_loopg [5, 14] F.length (fun gk s5 s14 wr => (∃ i : Nat, s14 = .int .i64 (i : Int) ∧ i + gk = F.length ∧ Hid (wr.ownsRow w1.heap.size 5 1 s5 ((F.take i).filter hp).length (((F.take i).filter hp).map ub))) ∧ Hid (Below w1.heap.size w1 wr))
  case atStart => exact ⟨⟨0, rfl, by omega, World.ownsRow_nil _ _ _ _⟩, Below.refl _ _⟩
  case round =>
    obtain ⟨⟨i, rfl, hg, ho⟩, bw⟩ := hrel
    by_cases hi2 : i < F.length
    · have HO := Lib.hid (O1.out)
      obtain ⟨g1, hp1⟩ : ∃ g1, p1 = some ⟨g1, 0, none⟩ := by
        rcases O1.out.2 with ⟨h1, h0⟩ | ⟨g, cap, cur, hv, _⟩
        · omega
        · simp only [Value.slice.injEq] at hv; exact ⟨g, hv.1⟩
      subst hp1
      have g1lt := (O1.out.lt g1 rfl).2
      have ci := (bw.out.cell (p := ⟨g1, i, none⟩) (by show g1 < w1.heap.size; exact g1lt)).trans ((O1.out.cellAt i (by omega)).trans (show (F.map ub)[i]? = some (.int .u8 ((F[i].toNat : Nat) : Int)) from by simp [hi2, ub]))
      have hli := HF.out _ (List.getElem_mem hi2)
      have HSL := Lib.hid (fun w => letterSort_any F[i] hli.1 hli.2 w)
      have hJw := HJ.out _ _ (HJ.out _ _ J0.out B1.out) bw.out
      have HCL := HH.out F[i] wr (List.getElem_mem hi2) hJw
      have hfs := HFS.out i hi2
      have hsz := bw.out.size
      have hll : ((F.take i).filter hp).length ≤ 26 := Nat.le_trans (List.length_filter_le _ _) (by rw [List.length_take]; omega)
      obtain ⟨c, hc⟩ : ∃ c, c = F[i] := ⟨_, rfl⟩
      rw [← hc] at ci HSL HCL hfs hli
      have HC := Lib.hid hc
      clear hc hJw
      cases hq : hp c with
      | true =>
        rw [hq] at HCL hfs
        have HCL2 := Lib.hid HCL
        have HF2 := Lib.hid hfs
        clear HCL hfs hq
        go_wp2_with fail
        refine (HSL.out _).mono ?_
        rintro e w2 ⟨rfl, rfl⟩
        go_wp2_with fail
        refine (HCL2.out).mono ?_
        rintro e w2 ⟨rfl, b2⟩
        have O2 := Lib.hid (own_below2 ho.out b2)
        have B2 := Lib.hid (below_trans bw.out b2 bw.out.size)
        have hs2 : w1.heap.size ≤ w2.heap.size := B2.out.size
        clear b2 ci
        go_wp2_with (at_builtin; refine wpList_append_own _ rfl (.tmp 22) (.tmp 24) 22 rfl w1.heap.size 5 i0 (.int .u8 0) 1 1 Tryz.underlying22 hi hz0 hz1 hz2 rfl (by decide) _ _ _ rfl (O2.out.alloc _) ⟨w2.heap.size, 0, none⟩ 1 1 [.int .u8 (c.toNat : Int)] rfl rfl (cell_row w2 [.int .u8 (c.toNat : Int)] 5) (fun u hu => by simp at hu; subst hu; rfl) ?c2 ?c3 ?c4 ?_)
        case c2 => unfold maxLen; omega
        case c3 => omega
        case c4 => simp; omega
        intro v3 w3 hown3 hgrow3 _
        have B3 := Lib.hid (Below.grown (B2.out.alloc hs2 _) hgrow3 (by simp; omega) (fun j hj => by
          rcases O2.out.2 with ⟨h1, h0⟩ | ⟨g, cap, cur, hv, h1, _⟩
          · rw [h1] at hj; simp [Value.ownBlock] at hj
          · rw [hv] at hj; simp [Value.ownBlock] at hj; omega))
        have O3 : Hid (w3.ownsRow w1.heap.size 5 1 v3 ((F.take (i + 1)).filter hp).length (((F.take (i + 1)).filter hp).map ub)) := by
          show w3.ownsRow _ _ _ _ _ _
          rw [HF2.out, List.map_append, List.length_append]
          exact hown3
        clear hown3 hgrow3
        go_wp2_with fail
        go_roundg (gk - 1)
        case measure => omega
        case rel => exact ⟨⟨i + 1, by go_num, by omega, O3⟩, B3⟩
      | false =>
        rw [hq] at HCL hfs
        have HCL2 := Lib.hid HCL
        have HF2 := Lib.hid hfs
        clear HCL hfs hq
        go_wp2_with fail
        refine (HSL.out _).mono ?_
        rintro e w2 ⟨rfl, rfl⟩
        go_wp2_with fail
        refine (HCL2.out).mono ?_
        rintro e w2 ⟨rfl, b2⟩
        have O2 : Hid (w2.ownsRow w1.heap.size 5 1 u5 ((F.take (i + 1)).filter hp).length (((F.take (i + 1)).filter hp).map ub)) := by
          show w2.ownsRow _ _ _ _ _ _
          rw [HF2.out]
          simpa using own_below2 ho.out b2
        have B2 := Lib.hid (below_trans bw.out b2 bw.out.size)
        clear b2 ci
        go_wp2_with fail
        go_roundg (gk - 1)
        case measure => omega
        case rel => exact ⟨⟨i + 1, by go_num, by omega, O2⟩, B2⟩
    · obtain rfl : i = F.length := by omega
      have ho2 := ho.out
      rw [List.take_length] at ho2
      have hcv := HV.out wr _ _ u5 rfl ho2
      clear ho2
      go_wp2_with fail
      go_ret
      exact ⟨rfl, below_trans B1.out bw.out B1.out.size⟩

end Go.Proofs.YtlhmjcfnfefliaaGreat.T1
