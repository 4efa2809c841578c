/- Texts of the proof, put together: Vy, Ql, Vz. No conditions. -/
import Derived.Test.YtlhmjcfnfefliaaGreatHao
import Derived.Test.YtlhmjcfnfefliaaGreatHat
import Derived.Test.YtlhmjcfnfefliaaGreatHaz
import Derived.Test.YtlhmjcfnfefliaaGreatHbc
import Derived.Test.YtlhmjcfnfefliaaGreatHbe
import Derived.Test.YtlhmjcfnfefliaaGreatHbf
import Derived.Deep.RegionLaw
import Derived.Deep.LoopGhost

/- Sorts in the specification: those of a process. -/
namespace Go.Proofs.YtlhmjcfnfefliaaGreat.T1
open Go.RowKit
set_option maxRecDepth 100000
set_option linter.unusedVariables false
set_option linter.unusedSimpArgs false

theorem SoAt.own_ge {w : World} {b N : Nat} {f : Nat → Nat} {c : Nat → Option Nat} {v1 v2 : Value} (h : SoAt w b N f c v1 v2) {i : Nat} (ho : Own6 w b i) : b ≤ i := by
  rcases ho with rfl | ⟨a1, a2, T, h1, h2⟩
  · exact Nat.le_refl _
  · obtain ⟨T2, hb⟩ := h.hb
    rw [hb] at h1
    simp only [Option.some.injEq, Obj.cells.injEq, Array.mk.injEq, List.cons.injEq] at h1
    obtain ⟨⟨rfl, rfl, _⟩, _⟩ := h1
    rcases h2 with h2 | h2
    · have := (h.r1.lt i h2).1; omega
    · have := (h.r2.lt i h2).1; omega
theorem SpSta.keep {w w' : World} {b N : Nat} {l : List (Bool × Nat × Nat)} (h : SpSta w b N l) (hk : ∀ i, Own6 w b i → w'.heap[i]? = w.heap[i]?) : SpSta w' b N l := by
  obtain ⟨f, r, c, v1, v2, h, hs⟩ := h
  obtain ⟨T, hb⟩ := h.hb
  exact ⟨f, r, c, v1, v2, ⟨⟨T, (hk b (.inl rfl)).trans hb⟩, own_keep h.r1 fun i hi => hk i (.inr ⟨_, _, T, hb, .inl hi⟩), own_keep h.r2 fun i hi => hk i (.inr ⟨_, _, T, hb, .inr hi⟩), h.ne⟩, hs⟩
theorem SpSta.own_ge {w : World} {b N : Nat} {l : List (Bool × Nat × Nat)} (h : SpSta w b N l) {i : Nat} (ho : Own6 w b i) : b ≤ i := by obtain ⟨f, r, c, v1, v2, h, _⟩ := h; exact h.own_ge ho
theorem Box6.set0 {w : World} {b k : Nat} {s s' : ByteArray} {v : Value} (h : Box6 w b k s v) : Box6 (w.setCell ⟨k, 0, none⟩ (.string s')) b k s' v := by
  obtain ⟨T, ht⟩ := h.at_
  have hbk : b ≠ k := fun e => h.no (.inl e.symm)
  exact ⟨⟨T, (set_two ht).1⟩, fun ho => h.no ((Own6.same (Below.heap_setCell _ _ _ _ hbk) k).1 ho)⟩
theorem Box6.set1 {w : World} {b k : Nat} {s : ByteArray} {v v' : Value} (h : Box6 w b k s v) : Box6 (w.setCell ⟨k, 1, none⟩ v') b k s v' := by
  obtain ⟨T, ht⟩ := h.at_
  have hbk : b ≠ k := fun e => h.no (.inl e.symm)
  exact ⟨⟨T, (set_two ht).2⟩, fun ho => h.no ((Own6.same (Below.heap_setCell _ _ _ _ hbk) k).1 ho)⟩
theorem Box6.same {w w' : World} {b k : Nat} {s : ByteArray} {v : Value} (h : Box6 w b k s v) (h1 : w'.heap[k]? = w.heap[k]?) (h2 : w'.heap[b]? = w.heap[b]?) : Box6 w' b k s v := by
  obtain ⟨T, ht⟩ := h.at_
  exact ⟨⟨T, h1.trans ht⟩, fun ho => h.no ((Own6.same h2 k).1 ho)⟩
theorem rI_more (i : Nat) : rI (List.range (i + 1)) = rI (List.range i) ++ [.int .i64 (i : Int)] := by
  unfold rI; rw [List.range_succ, List.map_append]; rfl
theorem B_more (F : List UInt8) (i : Nat) (h : i < F.length) : B (F.take i) ++ (B F).extract i (i + 1) = B (F.take (i + 1)) := by
  apply ByteArray.ext
  apply Array.ext'
  have e : ((B F).extract i (i + 1)).data.toList = (F.drop i).take 1 := by
    rw [ByteArray.data_extract, Array.toList_extract]
    show List.extract F i (i + 1) = _
    rw [List.extract_eq_take_drop, Nat.add_sub_cancel_left]
  show (B (F.take i) ++ (B F).extract i (i + 1)).data.toList = F.take (i + 1)
  rw [ByteArray.data_append, Array.toList_append, e]
  show F.take i ++ (F.drop i).take 1 = F.take (i + 1)
  rw [← List.take_add]
theorem fnd_idx : ∀ (F : List UInt8) (s : Nat) (x : UInt8), fnd F (List.range' s F.length) x = idx6 F s x
  | [], s, x => rfl
  | c :: cs, s, x => by
    show fnd (c :: cs) (List.range' s (cs.length + 1)) x = _
    rw [List.range'_succ]
    show (if c = x then s else fnd cs (List.range' (s + 1) cs.length) x) = if c = x then s else idx6 cs (s + 1) x
    rw [fnd_idx cs (s + 1) x]
theorem fnd_range (F : List UInt8) : fnd F (List.range F.length) = idx6 F 0 := by
  funext x; rw [List.range_eq_range', fnd_idx]
set_option maxHeartbeats 4000000 in
theorem soOf0 (X : ByteArray) (F : List UInt8) (hm : F.length ≤ 26) (N' : Nat) (l' : List (Bool × Nat × Nat)) (HFr : ∀ w, Calls Tryz.prog 32 #[.string X] w fun e w' => e = .returned (.string (B F)) ∧ Below w.heap.size w w')
    (HW : ∀ b s v w, SEnv w b s v F (List.range F.length) → SpSta w b F.length [] → Calls Tryz.prog 61 #[.pointer (some ⟨b, 0, none⟩), .string X, .agg #[.string s, v]] w (SP b N' l' w)) (w : World) :
    Calls Tryz.prog 30 #[.string X] w fun e w' => (∃ b, e = .returned (.pointer (some ⟨b, 0, none⟩)) ∧ w.heap.size ≤ b ∧ SpSta w' b N' l') ∧ Below w.heap.size w w' := by
  have HF' := Lib.hid HFr
  have HW' := Lib.hid HW
  clear HFr HW
  go_enter Tryz.func30, Tryz.ntmps30
  go_wp2_with fail
  refine (HF'.out _).mono ?_
  rintro e w1 ⟨rfl, b1⟩
  go_wp2_with fail
  obtain ⟨i0, hi, hz0, hz1, hz2⟩ := info_parts Tryz.infoI
  have t1 := first_block w (.cells #[.slice none 0 0, .slice none 0 0] 52) (.cells #[.string ⟨#[]⟩, .slice none 0 0] 97)
  have t2 := last_block w (.cells #[.slice none 0 0, .slice none 0 0] 52) (.cells #[.string ⟨#[]⟩, .slice none 0 0] 97)
  have b0 := below_two w (.cells #[.slice none 0 0, .slice none 0 0] 52) (.cells #[.string ⟨#[]⟩, .slice none 0 0] 97)
  have t3 := (b1.block _ (lt_of_block t1)).trans t1
  have t4 := (b1.block _ (lt_of_block t2)).trans t2
  have bw1 := Lib.hid (below_trans b0 b1 b0.size)
  obtain ⟨b, hb⟩ : ∃ b, b = w.heap.size := ⟨_, rfl⟩
  rw [← hb] at t3 t4 ⊢
  have hsa : SoAt w1 b 0 id (fun _ => none) (.slice none 0 0) (.slice none 0 0) := ⟨⟨_, t3⟩, World.ownsRow_nil _ _ _ _, World.ownsRow_nil _ _ _ _, fun g h => by simp [Value.ownBlock] at h⟩
  have S0 : Hid (SpSta w1 b 0 []) := ⟨id, id, fun _ => none, _, _, hsa, by rw [S6_nil, C6_nil]; exact St6.start⟩
  have nO : ¬ Own6 w1 b (b + 1) := fun ho => by
    rcases ho with h | ⟨a1, a2, T, h1, h2⟩
    · omega
    · rw [t3] at h1
      simp only [Option.some.injEq, Obj.cells.injEq, Array.mk.injEq, List.cons.injEq] at h1
      obtain ⟨⟨rfl, rfl, _⟩, _⟩ := h1
      simp [Value.ownBlock] at h2
  have X0 : Hid (Box6 w1 b (b + 1) (B (F.take 0)) (.slice none 0 0)) := ⟨⟨_, t4⟩, nO⟩
  have E0 : Hid (SEnv w1 b (B (F.take 0)) (.slice none 0 0) (F.take 0) (List.range 0)) := ⟨⟨rfl, rfl, World.ownsRow_nil _ _ _ _, fun _ => rfl⟩, fun g h => by simp [Value.ownBlock] at h⟩
  have HB := Lib.hid hb
  have hXF := Lib.hid (B_size F)
  have hXs : (B F).size ≤ 26 := by rw [B_size]; exact hm
  have hXg : F.length ≤ (B F).size := by rw [B_size]; exact Nat.le_refl _
  have hXl : (B F).size ≤ F.length := by rw [B_size]; exact Nat.le_refl _
  have HMO := Lib.hid (B_more F)
  clear t1 t2 t3 t4 b0 b1 hsa nO hb
  obtain ⟨XF, hXFe⟩ : ∃ XF, XF = B F := ⟨_, rfl⟩
  rw [← hXFe] at hXs hXg hXl HMO hXF ⊢
  have HXFe := Lib.hid hXFe
  clear hXFe
  go_loopg [6] F.length (fun gk s6 wr => (∃ i : Nat, s6 = .int .i64 (i : Int) ∧ i + gk = F.length ∧ Hid (∃ v, SpSta wr b i [] ∧ Box6 wr b (b + 1) (B (F.take i)) v ∧ SEnv wr b (B (F.take i)) v (F.take i) (List.range i) ∧ (∀ g, v.ownBlock = some g → b + 1 < g))) ∧ Hid (BesB b b w1 wr))
  case atStart => exact ⟨⟨0, rfl, by omega, ⟨_, S0.out, X0.out, E0.out, fun g h => by simp [Value.ownBlock] at h⟩⟩, BesB.refl _ _ _⟩
  case round =>
    obtain ⟨⟨i, rfl, hg, hJ⟩, bw⟩ := hrel
    obtain ⟨v, hS, hBx, hEn, hv⟩ := hJ.out
    clear hJ
    by_cases hi2 : i < F.length
    · obtain ⟨p1, q1, e1⟩ := own_slice6 hEn.sc.row
      rw [List.length_range] at e1
      subst e1
      have hbl := hS.lt
      have k0 := hBx.c0
      have f0 := hBx.f 0
      obtain ⟨s0, hs0⟩ : ∃ s0, s0 = B (F.take i) := ⟨_, rfl⟩
      have hs0l : s0.size ≤ 26 := by rw [hs0, B_size]; have := List.length_take_le i F; omega
      have hsl : (XF.extract i (i + 1)).size ≤ 1 := by rw [ByteArray.size_extract]; omega
      have hcat : ¬ 9223372036854775807 < s0.size + (XF.extract i (i + 1)).size := by omega
      have hwr : IntKind.i64.wrap ((i : Int) + 1) = (i : Int) + 1 := IntWalk.i64_in _ (by omega)
      have hMo := HMO.out i hi2
      rw [← hs0] at k0 hBx hEn hMo
      have HS := Lib.hid hS
      have HBx := Lib.hid hBx
      have HEn := Lib.hid hEn
      have HV := Lib.hid hv
      have HMo := Lib.hid hMo
      have q1' : (i : Int) < (XF.size : Int) := by omega
      have q2' : (i : Int) + 1 ≤ (XF.size : Int) := by omega
      have q3' : (i : Int) ≤ (i : Int) + 1 := by omega
      have q4' : (0 : Int) ≤ (i : Int) := by omega
      have q5' : ((i : Int) + 1).toNat = i + 1 := by omega
      clear hS hBx hEn hv hMo hs0
      go_wp2_with fail
      go_region
      obtain ⟨V, hV⟩ : ∃ V, V = (wr.setCell ⟨b + 1, 0, none⟩ (.string (s0 ++ XF.extract i (i + 1)))).drew := ⟨_, rfl⟩
      rw [← hV]
      have szV : V.heap.size = wr.heap.size := by rw [hV]; simp [World.setCell]
      have kV : ∀ k, k ≠ b + 1 → V.heap[k]? = wr.heap[k]? := fun k hk => by rw [hV]; exact Below.heap_setCell _ _ _ _ hk
      have ob1 : ¬ Own6 wr b (b + 1) := HBx.out.no
      have XV : Box6 V b (b + 1) (B (F.take (i + 1))) (.slice p1 i q1) := by
        have := HBx.out.set0 (s' := s0 ++ XF.extract i (i + 1))
        rw [HMo.out] at this
        rw [hV, HMo.out]; exact ⟨this.at_, this.no⟩
      have SV : SpSta V b i [] := HS.out.keep fun k hk => kV k (fun e => ob1 (by rw [← e]; exact hk))
      have EV : SEnv V b s0 (.slice p1 i q1) (F.take i) (List.range i) := ⟨HEn.out.sc.keep fun g hg => kV g (by have := HV.out g hg; omega), fun g hg ho => HEn.out.no g hg ((Own6.same (kV b (by omega)) g).1 ho)⟩
      have BV := Lib.hid (show BesB b b w1 V from ⟨by rw [hV]; exact bw.out.os, by rw [hV]; exact bw.out.tape, by rw [hV]; exact bw.out.output, by have := bw.out.size; omega, fun k hk hn => by
        have h1 := bw.out.keep k hk hn
        exact ⟨(kV k (by omega)).trans h1.1, fun ho => h1.2 ((Own6.same (kV b (by omega)) k).1 ho)⟩⟩)
      have hbV : b < V.heap.size := by omega
      have bD : Below V.heap.size V V.drew := (Below.refl _ _).drew
      have XD := Lib.hid (XV.below bD hbV)
      have SD := Lib.hid (SV.below bD)
      have ED := Lib.hid (EV.below bD hbV)
      have HFR := Lib.hid (fun w (h : SpSta w b i []) => sp_fresh h (by omega))
      have k1 := XV.c1
      have OBD := Lib.hid (fun (w5 : World) (h5 : SEnv w5 b s0 (.slice p1 i q1) (F.take i) (List.range i)) => (h5.sc.row.alloc (.cells #[.int .i64 (i : Int)] 3)))
      clear kV XV SV EV hV bD k0 f0 szV ob1 hcat hwr q1' q2' q3' q4' q5'
      go_wp2_with fail
      go_region_law (first
        | (go_simp; go_at_call 60; (with_reducible refine (HFR.out _ SD.out).mono ?_); rintro e w4 ⟨rfl, s4, d4⟩
           have E4 := Lib.hid (ED.out.bes d4)
           have X4 := Lib.hid (XD.out.bes d4)
           have S4 := Lib.hid s4
           have B4 := Lib.hid ((BesB.below BV.out ((Below.refl _ _).drew) hbV (by omega)).bes d4 (by show b ≤ V.heap.size; omega))
           have k4 := X4.out.c1
           have z4 : V.heap.size ≤ w4.heap.size := d4.size
           have l4 := X4.out.lt
           clear s4 d4)
        | (refine step_append_lies _ rfl (.tmp 28) (.tmp 31) 50 rfl 0 3 i0 (.int .i64 0) 1 8 Tryz.underlying50 hi hz0 hz1 hz2 rfl (by decide) (.slice p1 i q1) i (rI (List.range i)) rfl (by have := OBD.out w4 E4.out; rw [List.length_range] at this; exact this) ⟨w4.heap.size, 0, none⟩ 1 1 [.int .i64 (i : Int)] rfl rfl (cell_row w4 [.int .i64 (i : Int)] 3) (by simp [Value.oneCell']) (by decide) (by unfold maxLen; omega) (by omega) (Nat.zero_le _) _ rfl ?_
           intro g cap w9 hown hgrow hat hlt9
           have H9 := Lib.hid (And.intro hown (And.intro hgrow (And.intro hat hlt9)))
           have nb1 : some (b + 1) ≠ (Value.slice p1 i q1).ownBlock := fun e => by have := HV.out _ e.symm; omega
           have X9 := Lib.hid (show Box6 w9 b (b + 1) (B (F.take (i + 1))) (.slice p1 i q1) from X4.out.same ((hgrow.block (b + 1) (by simp; omega) nb1).trans (Below.heap_alloc _ _ _ (by omega))) ((hgrow.block b (by simp; omega) (fun e => by have := HV.out _ e.symm; omega)).trans (Below.heap_alloc _ _ _ (by omega))))
           have k9 := X9.out.c1
           have f9 := X9.out.f 1
           clear hown hgrow hat nb1))
      all_goals
        obtain ⟨hown, hgrow, hat, hlt9⟩ := H9.out
        have z9 : w4.heap.size + 1 ≤ w9.heap.size := by have := hgrow.size; simpa using this
        have k9' : ∀ k, k < w4.heap.size → (Value.slice p1 i q1).ownBlock ≠ some k → w9.heap[k]? = w4.heap[k]? := fun k hk hn => (hgrow.block k (by simp; omega) (fun e => hn e.symm)).trans (Below.heap_alloc _ _ _ hk)
        have n4 := E4.out.no
        have hb4 : b < w4.heap.size := by omega
        have kb : w9.heap[b]? = w4.heap[b]? := k9' b hb4 (fun e => by have := HV.out _ e; omega)
        have S9 : SpSta w9 b (i + 1) [] := S4.out.keep fun k hk => k9' k (S4.out.own_lt hk) (fun e => n4 _ e hk)
        have gAt : (Value.slice p1 i q1).ownBlock = some g ∨ w4.heap.size ≤ g := by
          rcases hat with h | h
          · exact .inl h
          · right; have : (w4.alloc (.cells #[.int .i64 (i : Int)] 3)).heap.size = w4.heap.size + 1 := by simp
            omega
        have gB : b + 1 < g := by
          rcases gAt with h | h
          · exact HV.out g h
          · omega
        have nG : ¬ Own6 w9 b g := fun ho => by
          have ho4 := (Own6.same kb g).1 ho
          rcases gAt with h | h
          · exact n4 g h ho4
          · have := S4.out.own_lt ho4; omega
        have SF := Lib.hid (S9.set (o := 1) (x := .slice (some ⟨g, 0, none⟩) (i + 1) cap) X9.out.no)
        have XF' := Lib.hid (X9.out.set1 (v' := .slice (some ⟨g, 0, none⟩) (i + 1) cap))
        have EF := Lib.hid (show SEnv (w9.setCell ⟨b + 1, 1, none⟩ (.slice (some ⟨g, 0, none⟩) (i + 1) cap)) b (B (F.take (i + 1))) (.slice (some ⟨g, 0, none⟩) (i + 1) cap) (F.take (i + 1)) (List.range (i + 1)) from ⟨⟨rfl, by rw [List.length_range, List.length_take]; omega, by
            rw [List.length_range, rI_more]
            exact own_keep hown fun k hk => Below.heap_setCell _ _ _ _ (by simp only [Value.ownBlock, Option.some.injEq] at hk; show k ≠ b + 1; omega), fun e => by simp at e⟩, fun k hk ho => by
            simp only [Value.ownBlock, Option.some.injEq] at hk
            subst hk
            exact nG ((Own6.same (Below.heap_setCell _ _ _ _ (by show b ≠ b + 1; omega)) _).1 ho)⟩)
        have GF : Hid (∀ k, (Value.slice (some ⟨g, 0, none⟩) (i + 1) cap).ownBlock = some k → b + 1 < k) := fun k hk => by
          simp only [Value.ownBlock, Option.some.injEq] at hk; omega
        have BF := Lib.hid (show BesB b b w1 (w9.setCell ⟨b + 1, 1, none⟩ (.slice (some ⟨g, 0, none⟩) (i + 1) cap)) from ⟨hgrow.os.trans B4.out.os, hgrow.tape.trans B4.out.tape, hgrow.output.trans B4.out.output, by have := B4.out.size; simp [World.setCell]; omega, fun k hk hn => by
          have h1 := B4.out.keep k hk hn
          refine ⟨((Below.heap_setCell _ _ _ _ (by show k ≠ b + 1; omega)).trans (k9' k (by omega) (fun e => by have := HV.out _ e; omega))).trans h1.1, fun ho => h1.2 ?_⟩
          exact (Own6.same kb k).1 ((Own6.same (Below.heap_setCell _ _ _ _ (by show b ≠ b + 1; omega)) k).1 ho)⟩)
        clear hown hgrow hat k9' n4 kb S9 gAt nG k9 f9 H9
        go_wp2_with fail
        go_roundg (gk - 1)
        case measure => omega
        case rel => exact ⟨⟨i + 1, by go_num, by omega, ⟨_, SF.out, XF'.out, EF.out, GF.out⟩⟩, BF.out⟩
    · obtain rfl : i = F.length := by omega
      have k0 := hBx.c0
      have k1 := hBx.c1
      rw [List.take_length] at hBx hEn k0
      have HWk := Lib.hid (HW'.out b _ v wr hEn hS)
      have hbl := hS.lt
      obtain ⟨s0, hs0⟩ : ∃ s0, s0 = B F := ⟨_, rfl⟩
      rw [← hs0] at HWk k0
      have nOwn : ∀ k, k < b → ¬ Own6 w1 b k := fun k hk ho => by have := S0.out.own_ge ho; omega
      have NO := Lib.hid nOwn
      clear hS hBx hEn hv hs0 nOwn
      go_wp2_with fail
      refine (HWk.out).mono ?_
      rintro e w5 ⟨rfl, s5, d5⟩
      have S5 := Lib.hid s5
      have D5 := Lib.hid (bw.out.bes d5 (by omega))
      clear k0 k1 s5 d5
      go_wp2_with fail
      go_ret
      have hbe := HB.out
      refine ⟨⟨b, rfl, by omega, S5.out⟩, ⟨D5.out.os.trans bw1.out.os, D5.out.tape.trans bw1.out.tape, D5.out.output.trans bw1.out.output, Nat.le_trans bw1.out.size D5.out.size, fun k hk => ?_⟩⟩
      exact (D5.out.keep k (by omega) (NO.out k (by omega))).1.trans (bw1.out.block k (by omega))

end Go.Proofs.YtlhmjcfnfefliaaGreat.T1

/- A name's place among the free ones, in the specification. -/
namespace Go.Proofs.YtlhmjcfnfefliaaGreat.T1
open Go.RowKit
set_option maxRecDepth 100000
set_option linter.unusedVariables false
set_option linter.unusedSimpArgs false

theorem srt_lenL {F : List UInt8} (hs : Srt F) (hl : Lets F) : F.length ≤ 26 := by
  have h := hs
  have key : ∀ (G : List UInt8) (b : Nat), Srt G → (∀ x ∈ G, b ≤ x.toNat ∧ x.toNat ≤ 122) → G.length + b ≤ 123 ∨ G = [] := by
    intro G
    induction G with
    | nil => intro b _ _; exact .inr rfl
    | cons c cs ih =>
      intro b hG hx
      left
      obtain ⟨h1, h2⟩ := List.pairwise_cons.1 hG
      have hc := hx c (by simp)
      rcases ih (c.toNat + 1) h2 (fun x hx2 => ⟨by have := (u8_lt _ _).1 (h1 x hx2); omega, (hx x (by simp [hx2])).2⟩) with h | h
      · simp; omega
      · subst h; simp; omega
  rcases key F 97 hs (fun x hx => hl x hx) with h | h
  · omega
  · subst h; simp
def plI (t : Tm) (o : Option UInt8) : Int := match o with
  | some c => (idx6 t.free 0 c : Int)
  | none => 0
theorem nd6 (t : Tm) : t.free.Nodup := srt_nodup (srt_free t)
theorem ext_one (F : List UInt8) (i : Nat) (h : i < F.length) : (B F).extract i (i + 1) = B [F[i]] := by
  apply ByteArray.ext
  apply Array.ext'
  rw [ByteArray.data_extract, Array.toList_extract]
  show List.extract F i (i + 1) = [F[i]]
  rw [List.extract_eq_take_drop, Nat.add_sub_cancel_left, List.drop_eq_getElem_cons h]
  rfl
theorem B_one_eq (a c : UInt8) : ((B [a]).toList == (B [c]).toList) = (a == c) := by
  rw [ByteArray.toList_eq, ByteArray.toList_eq]
  show ([a] == [c]) = _
  simp
set_option maxHeartbeats 1000000 in
theorem soPlace_bad (s k : ByteArray) (HG : ∀ w, Calls Tryz.prog 39 #[.string s] w fun e w' => e = .returned (.bool false) ∧ Below w.heap.size w w') (w : World) : Calls Tryz.prog 29 #[.string s, .string k] w fun e w' => e = .returned (.tuple #[.int .i64 0, .bool false]) ∧ Below w.heap.size w w' := by
  have H := Lib.hid HG
  clear HG
  go_enter Tryz.func29, Tryz.ntmps29
  go_wp2_with fail
  refine (H.out _).mono ?_
  rintro e w1 ⟨rfl, b1⟩
  go_wp2_with fail
  go_ret2
  exact ⟨rfl, b1⟩
set_option maxHeartbeats 1000000 in
theorem soPlace_not (s k : ByteArray) (HG : ∀ w, Calls Tryz.prog 39 #[.string s] w fun e w' => e = .returned (.bool true) ∧ Below w.heap.size w w') (HO : ∀ w, Calls Tryz.prog 59 #[.string k] w fun e w' => e = .returned (.bool false) ∧ Below w.heap.size w w') (w : World) : Calls Tryz.prog 29 #[.string s, .string k] w fun e w' => e = .returned (.tuple #[.int .i64 0, .bool false]) ∧ Below w.heap.size w w' := by
  have H := Lib.hid HG
  have H2 := Lib.hid HO
  clear HG HO
  go_enter Tryz.func29, Tryz.ntmps29
  go_wp2_with fail
  refine (H.out _).mono ?_
  rintro e w1 ⟨rfl, b1⟩
  go_wp2_with fail
  refine (H2.out _).mono ?_
  rintro e w2 ⟨rfl, b2⟩
  go_wp2_with fail
  go_ret2
  exact ⟨rfl, below_trans b1 b2 b1.size⟩
set_option maxHeartbeats 1000000 in
theorem soPlace_one (s : ByteArray) (F : List UInt8) (hm : F.length ≤ 26) (hn : F.Nodup) (c : UInt8) (HG : ∀ w, Calls Tryz.prog 39 #[.string s] w fun e w' => e = .returned (.bool true) ∧ Below w.heap.size w w') (HO : ∀ w, Calls Tryz.prog 59 #[.string (B [c])] w fun e w' => e = .returned (.bool true) ∧ Below w.heap.size w w') (HF : ∀ w, Calls Tryz.prog 32 #[.string s] w fun e w' => e = .returned (.string (B F)) ∧ Below w.heap.size w w') (w : World) :
    Calls Tryz.prog 29 #[.string s, .string (B [c])] w fun e w' => e = .returned (.tuple #[.int .i64 (if c ∈ F then (idx6 F 0 c : Int) else 0), .bool (decide (c ∈ F))]) ∧ Below w.heap.size w w' := by
  have H := Lib.hid HG
  have H2 := Lib.hid HO
  have H3 := Lib.hid HF
  have HX := Lib.hid (fun i (h : i < F.length) => ext_one F i h)
  have HN := Lib.hid hn
  have hs1 : (B F).size ≤ F.length := by rw [B_size]; exact Nat.le_refl _
  have hs2 : F.length ≤ (B F).size := by rw [B_size]; exact Nat.le_refl _
  obtain ⟨XF, hXF⟩ : ∃ X, X = B F := ⟨_, rfl⟩
  obtain ⟨K, hK⟩ : ∃ K, K = B [c] := ⟨_, rfl⟩
  rw [← hXF] at H3 HX hs1 hs2
  rw [← hK] at H2 ⊢
  have HK := Lib.hid hK
  obtain ⟨V1, hV1⟩ : ∃ V1, V1 = (if c ∈ F then (idx6 F 0 c : Int) else 0) := ⟨_, rfl⟩
  obtain ⟨V2, hV2⟩ : ∃ V2, V2 = decide (c ∈ F) := ⟨_, rfl⟩
  rw [← hV1, ← hV2]
  have HV1 := Lib.hid hV1
  have HV2 := Lib.hid hV2
  clear HG HO HF hn hXF hK hV1 hV2
  go_enter Tryz.func29, Tryz.ntmps29
  go_wp2_with fail
  refine (H.out _).mono ?_
  rintro e w1 ⟨rfl, b1⟩
  go_wp2_with fail
  refine (H2.out _).mono ?_
  rintro e w2 ⟨rfl, b2⟩
  go_wp2_with fail
  refine (H3.out _).mono ?_
  rintro e w3 ⟨rfl, b3⟩
  have B3 := Lib.hid (below_trans (below_trans b1 b2 b1.size) b3 (Nat.le_trans b1.size b2.size))
  clear b1 b2 b3
  go_wp2_with fail
  go_loopg [7] F.length (fun gk s7 wr => (∃ i : Nat, s7 = .int .i64 (i : Int) ∧ i + gk = F.length ∧ Hid (∀ j (h : j < F.length), j < i → F[j] ≠ c)) ∧ wr = w3)
  case atStart => exact ⟨⟨0, rfl, by omega, fun j h hj => by omega⟩, rfl⟩
  case round =>
    obtain ⟨⟨i, rfl, hg, hw⟩, rfl⟩ := hrel
    by_cases hi : i < F.length
    · have q1 : (i : Int) < (XF.size : Int) := by omega
      have q2 : (i : Int) + 1 ≤ (XF.size : Int) := by omega
      have q3 : (i : Int) ≤ (i : Int) + 1 := by omega
      by_cases e : F[i] = c
      · have q : ((XF.extract i (i + 1)).toList == K.toList) = true := by rw [HX.out i hi, HK.out, B_one_eq, e]; simp
        have HE := Lib.hid e
        clear e
        go_wp2_with fail
        go_ret2
        refine ⟨?_, B3.out⟩
        have hmem : c ∈ F := by rw [← HE.out]; exact List.getElem_mem hi
        have hid : idx6 F 0 c = i := by rw [← HE.out, idx6_at F 0 i hi HN.out]; omega
        rw [HV1.out, HV2.out, if_pos hmem, decide_eq_true hmem, hid]
        rfl
      · have q : ((XF.extract i (i + 1)).toList == K.toList) = false := by rw [HX.out i hi, HK.out, B_one_eq]; simp [e]
        have HE := Lib.hid e
        clear e
        go_wp2_with fail
        go_roundg (gk - 1)
        case measure => omega
        case rel => exact ⟨⟨i + 1, by go_num, by omega, fun j h hj => by
          by_cases e2 : j = i
          · subst e2; exact HE.out
          · exact hw.out j h (by omega)⟩, rfl⟩
    · have q1 : (XF.size : Int) ≤ (i : Int) := by omega
      go_wp2_with fail
      go_ret2
      refine ⟨?_, B3.out⟩
      have hmem : c ∉ F := fun hm => by
        obtain ⟨j, hj, e⟩ := List.getElem_of_mem hm
        exact hw.out j hj (by omega) e
      rw [HV1.out, HV2.out, if_neg hmem, decide_eq_false hmem]
      rfl
theorem soPlace_good (s : ByteArray) (t : Tm) (hg : good s.data.toList = some t) (hm : s.size ≤ 9223372036854775807) (k : ByteArray) (w : World) : Calls Tryz.prog 29 #[.string s, .string k] w fun e w' => e = .returned (.tuple #[.int .i64 (plI t (nameOf t.free k)), .bool (nameOf t.free k).isSome]) ∧ Below w.heap.size w w' := by
  obtain ⟨es, hL, hE, h300, h60⟩ := good_S hg
  rcases one_or2 k with ⟨c, hc, ek, o1, _⟩ | ⟨hn, o1, _⟩
  · subst ek
    have H := soPlace_one s t.free (srt_lenL (srt_free t) (lets_free t hL)) (nd6 t) c (tmGood_some hg · hm) o1 (fun w => by have := tmFree_any t hE (by omega) w; rw [← es] at this; exact this) w
    by_cases hmem : c ∈ t.free
    · rw [if_pos hmem, decide_eq_true hmem] at H
      rw [nameOf_yes hc hmem]; exact H
    · rw [if_neg hmem, decide_eq_false hmem] at H
      rw [nameOf_out hmem]; exact H
  · rw [nameOf_no hn]
    exact soPlace_not s k (tmGood_some hg · hm) o1 w

end Go.Proofs.YtlhmjcfnfefliaaGreat.T1

/- Sorts in the specification: of each process. -/
namespace Go.Proofs.YtlhmjcfnfefliaaGreat.T1
open Go.RowKit
set_option maxRecDepth 100000
set_option linter.unusedVariables false
set_option linter.unusedSimpArgs false

theorem withS_any {w : World} {s : ByteArray} {v : Value} {ns : List UInt8} {xs : List Nat} (h : ScAt w s v ns xs) (hl : ns.length ≤ 1000) (x : UInt8) (k : Nat) :
    Calls Tryz.prog 95 #[.agg #[.string s, v], .int .u8 (x.toNat : Int), .int .i64 (k : Int)] w fun e w' => (∃ s' v', e = .returned (.agg #[.string s', v']) ∧ ScAt w' s' v' (x :: ns) (k :: xs) ∧ ∀ g, v'.ownBlock = some g → w.heap.size ≤ g) ∧ Below w.heap.size w w' := by
  rcases Nat.eq_zero_or_pos xs.length with e | e
  · have hx : xs = [] := List.eq_nil_of_length_eq_zero e
    obtain rfl := h.none hx
    exact with_none h x k hx
  · exact with_some h hl x k e
def WalkS (t : Tm) : Prop := t.ok nmE = true → t.pr.length ≤ 700 → ∀ (b N : Nat) (l : List (Bool × Nat × Nat)) (s : ByteArray) (v : Value) (ns : List UInt8) (xs : List Nat) (w : World), SEnv w b s v ns xs → SpSta w b N l → (∀ x ∈ t.free, fnd ns xs x < N) → ns.length + t.size ≤ 1000 → N + t.size ≤ 1000 →
    Calls Tryz.prog 61 #[.pointer (some ⟨b, 0, none⟩), .string (S t), .agg #[.string s, v]] w (SP b (ask6 t (fnd ns xs) N).2 (l ++ (ask6 t (fnd ns xs) N).1) w)
theorem walkS_ok : ∀ t : Tm, WalkS t := by
  intro t
  induction t with
  | nil =>
    intro ho hl b N l s v ns xs w he hs hf h1 h2
    simp only [ask6, List.append_nil]
    exact sw_0 _ _ _ _ _ _ _ _ w _ (by simp only [Tm.kind]; decide) (by simp only [Tm.kind]; decide) (by simp only [Tm.kind]; decide) (by simp only [Tm.kind]; decide) (tmKind_any .nil ho hl) (tmParts_any .nil ho hl) he hs
  | tau p ih =>
    intro ho hl b N l s v ns xs w he hs hf h1 h2
    have ho' := ho
    simp only [Tm.ok] at ho'
    have hl' := hl
    simp only [Tm.pr, List.length_cons] at hl'
    simp only [Tm.size] at h1 h2
    exact sw_1 _ _ _ _ _ _ _ _ w _ _ _ _ (by simp only [Tm.kind]; decide) (by simp only [Tm.kind]; decide) (by simp only [Tm.kind]; decide) (by simp only [Tm.kind]; decide) (tmKind_any (.tau p) ho hl) (tmParts_any (.tau p) ho hl) he hs (fun w1 e1 s1 => ih ho' (by omega) b N l s v ns xs w1 e1 s1 (fun x hx => hf x ((mf_tau _ _).2 hx)) (by omega) (by omega))
  | rep p ih =>
    intro ho hl b N l s v ns xs w he hs hf h1 h2
    have ho' := ho
    simp only [Tm.ok] at ho'
    have hl' := hl
    simp only [Tm.pr, List.length_cons] at hl'
    simp only [Tm.size] at h1 h2
    exact sw_1 _ _ _ _ _ _ _ _ w _ _ _ _ (by simp only [Tm.kind]; decide) (by simp only [Tm.kind]; decide) (by simp only [Tm.kind]; decide) (by simp only [Tm.kind]; decide) (tmKind_any (.rep p) ho hl) (tmParts_any (.rep p) ho hl) he hs (fun w1 e1 s1 => ih ho' (by omega) b N l s v ns xs w1 e1 s1 (fun x hx => hf x ((mf_rep _ _).2 hx)) (by omega) (by omega))
  | sum p q ih ih2 =>
    intro ho hl b N l s v ns xs w he hs hf h1 h2
    have ho' := ho
    simp only [Tm.ok, Bool.and_eq_true] at ho'
    have hl' := hl
    simp only [Tm.pr, List.length_cons, List.length_append] at hl'
    simp only [Tm.size] at h1 h2
    simp only [ask6]
    have hq := ask6_next p (fnd ns xs) N
    exact sw_2 _ _ _ _ _ _ _ _ w _ _ _ _ _ _ _ (by simp only [Tm.kind]; decide) (by simp only [Tm.kind]; decide) (by simp only [Tm.kind]; decide) (by simp only [Tm.kind]; decide) (tmKind_any (.sum p q) ho hl) (tmParts_any (.sum p q) ho hl) he hs
      (fun w1 e1 s1 => ih ho'.1 (by omega) b N l s v ns xs w1 e1 s1 (fun x hx => hf x ((mf_sum _ _ _).2 (.inl hx))) (by omega) (by omega))
      (fun w1 e1 s1 => by
        have := ih2 ho'.2 (by omega) b (ask6 p (fnd ns xs) N).2 (l ++ (ask6 p (fnd ns xs) N).1) s v ns xs w1 e1 s1 (fun x hx => Nat.lt_of_lt_of_le (hf x ((mf_sum _ _ _).2 (.inr hx))) hq.1) (by omega) (by omega)
        rw [List.append_assoc] at this
        exact this)
  | par p q ih ih2 =>
    intro ho hl b N l s v ns xs w he hs hf h1 h2
    have ho' := ho
    simp only [Tm.ok, Bool.and_eq_true] at ho'
    have hl' := hl
    simp only [Tm.pr, List.length_cons, List.length_append] at hl'
    simp only [Tm.size] at h1 h2
    simp only [ask6]
    have hq := ask6_next p (fnd ns xs) N
    exact sw_2 _ _ _ _ _ _ _ _ w _ _ _ _ _ _ _ (by simp only [Tm.kind]; decide) (by simp only [Tm.kind]; decide) (by simp only [Tm.kind]; decide) (by simp only [Tm.kind]; decide) (tmKind_any (.par p q) ho hl) (tmParts_any (.par p q) ho hl) he hs
      (fun w1 e1 s1 => ih ho'.1 (by omega) b N l s v ns xs w1 e1 s1 (fun x hx => hf x ((mf_par _ _ _).2 (.inl hx))) (by omega) (by omega))
      (fun w1 e1 s1 => by
        have := ih2 ho'.2 (by omega) b (ask6 p (fnd ns xs) N).2 (l ++ (ask6 p (fnd ns xs) N).1) s v ns xs w1 e1 s1 (fun x hx => Nat.lt_of_lt_of_le (hf x ((mf_par _ _ _).2 (.inr hx))) hq.1) (by omega) (by omega)
        rw [List.append_assoc] at this
        exact this)
  | snd a c p ih =>
    intro ho hl b N l s v ns xs w he hs hf h1 h2
    have ho' := ho
    simp only [Tm.ok, Bool.and_eq_true] at ho'
    have hl' := hl
    simp only [Tm.pr, List.length_cons] at hl'
    simp only [Tm.size] at h1 h2
    simp only [ask6]
    have hz : 2 < (S (.snd a c p)).size := by rw [S_size]; simp [Tm.pr] <;> omega
    exact sw_snd _ _ _ _ _ _ _ _ w _ _ _ (by rw [S_size]; exact hl) hz (by omega) (fnd ns xs a) (fnd ns xs c) (by rw [S_at]; rfl) (by rw [S_at]; rfl) (hf a ((mf_snd _ _ _ _).2 (.inl rfl))) (hf c ((mf_snd _ _ _ _).2 (.inr (.inl rfl)))) (tmKind_any (.snd a c p) ho hl) (tmParts_any (.snd a c p) ho hl) he hs
      (fun w1 e1 s1 => by
        have := ih ho'.2 (by omega) b N _ s v ns xs w1 e1 s1 (fun x hx => hf x ((mf_snd _ _ _ _).2 (.inr (.inr hx)))) (by omega) (by omega)
        rw [List.append_assoc] at this
        exact this)
  | mat a c p ih =>
    intro ho hl b N l s v ns xs w he hs hf h1 h2
    have ho' := ho
    simp only [Tm.ok, Bool.and_eq_true] at ho'
    have hl' := hl
    simp only [Tm.pr, List.length_cons] at hl'
    simp only [Tm.size] at h1 h2
    simp only [ask6]
    have hz : 3 < (S (.mat a c p)).size := by rw [S_size]; simp [Tm.pr] <;> omega
    exact sw_mat _ _ _ _ _ _ _ _ w _ _ _ (by rw [S_size]; exact hl) hz (by omega) (fnd ns xs a) (fnd ns xs c) (by rw [S_at]; rfl) (by rw [S_at]; rfl) (hf a ((mf_mat _ _ _ _).2 (.inl rfl))) (hf c ((mf_mat _ _ _ _).2 (.inr (.inl rfl)))) (tmKind_any (.mat a c p) ho hl) (tmParts_any (.mat a c p) ho hl) he hs
      (fun w1 e1 s1 => by
        have := ih ho'.2 (by omega) b N _ s v ns xs w1 e1 s1 (fun x hx => hf x ((mf_mat _ _ _ _).2 (.inr (.inr hx)))) (by omega) (by omega)
        rw [List.append_assoc] at this
        exact this)
  | own x p ih =>
    intro ho hl b N l s v ns xs w he hs hf h1 h2
    have ho' := ho
    simp only [Tm.ok, Bool.and_eq_true] at ho'
    have hl' := hl
    simp only [Tm.pr, List.length_cons] at hl'
    simp only [Tm.size] at h1 h2
    simp only [ask6]
    have hp := size_pos p
    have hz : 1 < (S (.own x p)).size := by rw [S_size]; simp [Tm.pr]
    exact sw_own _ _ _ _ _ _ _ _ w _ _ _ x (by rw [S_size]; exact hl) hz (by rw [S_at]; rfl) (by omega) (by omega) (tmKind_any (.own x p) ho hl) (tmParts_any (.own x p) ho hl) he hs (fun w1 x k h => withS_any h (by omega) x k)
      (fun s' v' w1 e1 s1 => by
        have := ih ho'.2 (by omega) b (N + 1) l s' v' (x :: ns) (N :: xs) w1 e1 s1 (fun z hz => by
          rw [fnd_with]
          unfold upd6
          by_cases e : z = x
          · subst e; rw [if_pos rfl]; omega
          · have := hf z ((mf_own _ _ _).2 ⟨hz, e⟩)
            rw [if_neg e]; omega) (by simp; omega) (by omega)
        rw [fnd_with] at this
        exact this)
  | rcv a x p ih =>
    intro ho hl b N l s v ns xs w he hs hf h1 h2
    have ho' := ho
    simp only [Tm.ok, Bool.and_eq_true] at ho'
    have hl' := hl
    simp only [Tm.pr, List.length_cons] at hl'
    simp only [Tm.size] at h1 h2
    simp only [ask6]
    have hp := size_pos p
    have hz : 2 < (S (.rcv a x p)).size := by rw [S_size]; simp [Tm.pr] <;> omega
    exact sw_rcv _ _ _ _ _ _ _ _ w _ _ _ x (by rw [S_size]; exact hl) hz (by rw [S_at]; rfl) (by omega) (by omega) (fnd ns xs a) (by rw [S_at]; rfl) (hf a ((mf_rcv _ _ _ _).2 (.inl rfl))) (tmKind_any (.rcv a x p) ho hl) (tmParts_any (.rcv a x p) ho hl) he hs (fun w1 x k h => withS_any h (by omega) x k)
      (fun s' v' w1 e1 s1 => by
        have := ih ho'.2 (by omega) b (N + 1) _ s' v' (x :: ns) (N :: xs) w1 e1 s1 (fun z hz => by
          rw [fnd_with]
          unfold upd6
          by_cases e : z = x
          · subst e; rw [if_pos rfl]; omega
          · have := hf z ((mf_rcv _ _ _ _).2 (.inr ⟨hz, e⟩))
            rw [if_neg e]; omega) (by simp; omega) (by omega)
        rw [fnd_with, List.append_assoc] at this
        exact this)
theorem soOf_any (t : Tm) (ho : t.ok nmE = true) (hL : t.ok nmL = true) (hl : t.pr.length ≤ 300) (h60 : t.size ≤ 60) (w : World) :
    Calls Tryz.prog 30 #[.string (S t)] w fun e w' => (∃ b, e = .returned (.pointer (some ⟨b, 0, none⟩)) ∧ w.heap.size ≤ b ∧ SpSta w' b (ask6 t (idx6 t.free 0) t.free.length).2 (ask6 t (idx6 t.free 0) t.free.length).1) ∧ Below w.heap.size w w' := by
  have hnd := srt_nodup (srt_free t)
  have hfl : t.free.length ≤ 26 := by
    have h1 := srt_lenL (srt_free t) (lets_free t hL)
    exact h1
  refine soOf0 _ t.free hfl _ _ (tmFree_any t ho (by omega)) (fun b s v w1 he hs => ?_) w
  have := walkS_ok t ho (by omega) b t.free.length [] s v t.free (List.range t.free.length) w1 he hs (fun x hx => by rw [fnd_range]; exact idx6_lt hnd hx) (by omega) (by omega)
  rw [fnd_range, List.nil_append] at this
  exact this

end Go.Proofs.YtlhmjcfnfefliaaGreat.T1
