/- Texts of the proof, put together: Vy. No conditions. -/
import Derived.Test.YtdfelpahacmdpaaGbi
import Derived.Test.YtdfelpahacmdpaaGbs
import Derived.Deep.RegionLaw

/- Sorts in the specification: those of a process. -/
namespace Go.Proofs.Ytdfelpahacmdpaa.T1
open Go.RowKit
set_option maxRecDepth 100000
set_option linter.unusedVariables false
set_option linter.unusedSimpArgs false

theorem SoAt.own_ge {w : World} {b N : Nat} {f : Nat → Nat} {c : Nat → Option Nat} {v1 v2 : Value} (h : SoAt w b N f c v1 v2) {i : Nat} (ho : Own6 w b i) : b ≤ i := by
  rcases ho with rfl | ⟨a1, a2, T, h1, h2⟩
  · exact Nat.le_refl _
  · obtain ⟨T2, hb⟩ := h.hb
    rw [hb] at h1
    simp only [Option.some.injEq, Obj.cells.injEq, Array.mk.injEq, List.cons.injEq] at h1
    obtain ⟨⟨rfl, rfl, _⟩, _⟩ := h1
    rcases h2 with h2 | h2
    · have := (h.r1.lt i h2).1; omega
    · have := (h.r2.lt i h2).1; omega
theorem SpSta.keep {w w' : World} {b N : Nat} {l : List (Bool × Nat × Nat)} (h : SpSta w b N l) (hk : ∀ i, Own6 w b i → w'.heap[i]? = w.heap[i]?) : SpSta w' b N l := by
  obtain ⟨f, r, c, v1, v2, h, hs⟩ := h
  obtain ⟨T, hb⟩ := h.hb
  exact ⟨f, r, c, v1, v2, ⟨⟨T, (hk b (.inl rfl)).trans hb⟩, own_keep h.r1 fun i hi => hk i (.inr ⟨_, _, T, hb, .inl hi⟩), own_keep h.r2 fun i hi => hk i (.inr ⟨_, _, T, hb, .inr hi⟩), h.ne⟩, hs⟩
theorem SpSta.own_ge {w : World} {b N : Nat} {l : List (Bool × Nat × Nat)} (h : SpSta w b N l) {i : Nat} (ho : Own6 w b i) : b ≤ i := by obtain ⟨f, r, c, v1, v2, h, _⟩ := h; exact h.own_ge ho
theorem Box6.set0 {w : World} {b k : Nat} {s s' : ByteArray} {v : Value} (h : Box6 w b k s v) : Box6 (w.setCell ⟨k, 0, none⟩ (.string s')) b k s' v := by
  obtain ⟨T, ht⟩ := h.at_
  have hbk : b ≠ k := fun e => h.no (.inl e.symm)
  exact ⟨⟨T, (set_two ht).1⟩, fun ho => h.no ((Own6.same (Below.heap_setCell _ _ _ _ hbk) k).1 ho)⟩
theorem Box6.set1 {w : World} {b k : Nat} {s : ByteArray} {v v' : Value} (h : Box6 w b k s v) : Box6 (w.setCell ⟨k, 1, none⟩ v') b k s v' := by
  obtain ⟨T, ht⟩ := h.at_
  have hbk : b ≠ k := fun e => h.no (.inl e.symm)
  exact ⟨⟨T, (set_two ht).2⟩, fun ho => h.no ((Own6.same (Below.heap_setCell _ _ _ _ hbk) k).1 ho)⟩
theorem Box6.same {w w' : World} {b k : Nat} {s : ByteArray} {v : Value} (h : Box6 w b k s v) (h1 : w'.heap[k]? = w.heap[k]?) (h2 : w'.heap[b]? = w.heap[b]?) : Box6 w' b k s v := by
  obtain ⟨T, ht⟩ := h.at_
  exact ⟨⟨T, h1.trans ht⟩, fun ho => h.no ((Own6.same h2 k).1 ho)⟩
theorem rI_more (i : Nat) : rI (List.range (i + 1)) = rI (List.range i) ++ [.int .i64 (i : Int)] := by
  unfold rI; rw [List.range_succ, List.map_append]; rfl
theorem B_more (F : List UInt8) (i : Nat) (h : i < F.length) : B (F.take i) ++ (B F).extract i (i + 1) = B (F.take (i + 1)) := by
  apply ByteArray.ext
  apply Array.ext'
  have e : ((B F).extract i (i + 1)).data.toList = (F.drop i).take 1 := by
    rw [ByteArray.data_extract, Array.toList_extract]
    show List.extract F i (i + 1) = _
    rw [List.extract_eq_take_drop, Nat.add_sub_cancel_left]
  show (B (F.take i) ++ (B F).extract i (i + 1)).data.toList = F.take (i + 1)
  rw [ByteArray.data_append, Array.toList_append, e]
  show F.take i ++ (F.drop i).take 1 = F.take (i + 1)
  rw [← List.take_add]
theorem fnd_idx : ∀ (F : List UInt8) (s : Nat) (x : UInt8), fnd F (List.range' s F.length) x = idx6 F s x
  | [], s, x => rfl
  | c :: cs, s, x => by
    show fnd (c :: cs) (List.range' s (cs.length + 1)) x = _
    rw [List.range'_succ]
    show (if c = x then s else fnd cs (List.range' (s + 1) cs.length) x) = if c = x then s else idx6 cs (s + 1) x
    rw [fnd_idx cs (s + 1) x]
theorem fnd_range (F : List UInt8) : fnd F (List.range F.length) = idx6 F 0 := by
  funext x; rw [List.range_eq_range', fnd_idx]
set_option maxHeartbeats 4000000 in
theorem soOf0 (X : ByteArray) (F : List UInt8) (hm : F.length ≤ 26) (N' : Nat) (l' : List (Bool × Nat × Nat)) (HFr : ∀ w, Calls Try.prog 36 #[.string X] w fun e w' => e = .returned (.string (B F)) ∧ Below w.heap.size w w')
    (HW : ∀ b s v w, SEnv w b s v F (List.range F.length) → SpSta w b F.length [] → Calls Try.prog 52 #[.pointer (some ⟨b, 0, none⟩), .string X, .agg #[.string s, v]] w (SP b N' l' w)) (w : World) :
    Calls Try.prog 29 #[.string X] w fun e w' => (∃ b, e = .returned (.pointer (some ⟨b, 0, none⟩)) ∧ w.heap.size ≤ b ∧ SpSta w' b N' l') ∧ Below w.heap.size w w' := by
  have HF' := Lib.hid HFr
  have HW' := Lib.hid HW
  clear HFr HW
  go_enter Try.func29, Try.ntmps29
  go_wp2_with fail
  refine (HF'.out _).mono ?_
  rintro e w1 ⟨rfl, b1⟩
  go_wp2_with fail
  obtain ⟨i0, hi, hz0, hz1, hz2⟩ := info_parts Try.infoI
  have t1 := first_block w (.cells #[.slice none 0 0, .slice none 0 0] 62) (.cells #[.string ⟨#[]⟩, .slice none 0 0] 68)
  have t2 := last_block w (.cells #[.slice none 0 0, .slice none 0 0] 62) (.cells #[.string ⟨#[]⟩, .slice none 0 0] 68)
  have b0 := below_two w (.cells #[.slice none 0 0, .slice none 0 0] 62) (.cells #[.string ⟨#[]⟩, .slice none 0 0] 68)
  have t3 := (b1.block _ (lt_of_block t1)).trans t1
  have t4 := (b1.block _ (lt_of_block t2)).trans t2
  have bw1 := Lib.hid (below_trans b0 b1 b0.size)
  obtain ⟨b, hb⟩ : ∃ b, b = w.heap.size := ⟨_, rfl⟩
  rw [← hb] at t3 t4 ⊢
  have hsa : SoAt w1 b 0 id (fun _ => none) (.slice none 0 0) (.slice none 0 0) := ⟨⟨_, t3⟩, World.ownsRow_nil _ _ _ _, World.ownsRow_nil _ _ _ _, fun g h => by simp [Value.ownBlock] at h⟩
  have S0 : Hid (SpSta w1 b 0 []) := ⟨id, id, fun _ => none, _, _, hsa, by rw [S6_nil, C6_nil]; exact St6.start⟩
  have nO : ¬ Own6 w1 b (b + 1) := fun ho => by
    rcases ho with h | ⟨a1, a2, T, h1, h2⟩
    · omega
    · rw [t3] at h1
      simp only [Option.some.injEq, Obj.cells.injEq, Array.mk.injEq, List.cons.injEq] at h1
      obtain ⟨⟨rfl, rfl, _⟩, _⟩ := h1
      simp [Value.ownBlock] at h2
  have X0 : Hid (Box6 w1 b (b + 1) (B (F.take 0)) (.slice none 0 0)) := ⟨⟨_, t4⟩, nO⟩
  have E0 : Hid (SEnv w1 b (B (F.take 0)) (.slice none 0 0) (F.take 0) (List.range 0)) := ⟨⟨rfl, rfl, World.ownsRow_nil _ _ _ _, fun _ => rfl⟩, fun g h => by simp [Value.ownBlock] at h⟩
  have HB := Lib.hid hb
  have hXF := Lib.hid (B_size F)
  have hXs : (B F).size ≤ 26 := by rw [B_size]; exact hm
  have hXg : F.length ≤ (B F).size := by rw [B_size]; exact Nat.le_refl _
  have hXl : (B F).size ≤ F.length := by rw [B_size]; exact Nat.le_refl _
  have HMO := Lib.hid (B_more F)
  clear t1 t2 t3 t4 b0 b1 hsa nO hb
  obtain ⟨XF, hXFe⟩ : ∃ XF, XF = B F := ⟨_, rfl⟩
  rw [← hXFe] at hXs hXg hXl HMO hXF ⊢
  have HXFe := Lib.hid hXFe
  clear hXFe
  go_loopg [6] F.length (fun gk s6 wr => (∃ i : Nat, s6 = .int .i64 (i : Int) ∧ i + gk = F.length ∧ Hid (∃ v, SpSta wr b i [] ∧ Box6 wr b (b + 1) (B (F.take i)) v ∧ SEnv wr b (B (F.take i)) v (F.take i) (List.range i) ∧ (∀ g, v.ownBlock = some g → b + 1 < g))) ∧ Hid (BesB b b w1 wr))
  case atStart => exact ⟨⟨0, rfl, by omega, ⟨_, S0.out, X0.out, E0.out, fun g h => by simp [Value.ownBlock] at h⟩⟩, BesB.refl _ _ _⟩
  case round =>
    obtain ⟨⟨i, rfl, hg, hJ⟩, bw⟩ := hrel
    obtain ⟨v, hS, hBx, hEn, hv⟩ := hJ.out
    clear hJ
    by_cases hi2 : i < F.length
    · obtain ⟨p1, q1, e1⟩ := own_slice6 hEn.sc.row
      rw [List.length_range] at e1
      subst e1
      have hbl := hS.lt
      have k0 := hBx.c0
      have f0 := hBx.f 0
      obtain ⟨s0, hs0⟩ : ∃ s0, s0 = B (F.take i) := ⟨_, rfl⟩
      have hs0l : s0.size ≤ 26 := by rw [hs0, B_size]; have := List.length_take_le i F; omega
      have hsl : (XF.extract i (i + 1)).size ≤ 1 := by rw [ByteArray.size_extract]; omega
      have hcat : ¬ 9223372036854775807 < s0.size + (XF.extract i (i + 1)).size := by omega
      have hwr : IntKind.i64.wrap ((i : Int) + 1) = (i : Int) + 1 := IntWalk.i64_in _ (by omega)
      have hMo := HMO.out i hi2
      rw [← hs0] at k0 hBx hEn hMo
      have HS := Lib.hid hS
      have HBx := Lib.hid hBx
      have HEn := Lib.hid hEn
      have HV := Lib.hid hv
      have HMo := Lib.hid hMo
      have q1' : (i : Int) < (XF.size : Int) := by omega
      have q2' : (i : Int) + 1 ≤ (XF.size : Int) := by omega
      have q3' : (i : Int) ≤ (i : Int) + 1 := by omega
      have q4' : (0 : Int) ≤ (i : Int) := by omega
      have q5' : ((i : Int) + 1).toNat = i + 1 := by omega
      clear hS hBx hEn hv hMo hs0
      go_wp2_with fail
      go_region
      obtain ⟨V, hV⟩ : ∃ V, V = (wr.setCell ⟨b + 1, 0, none⟩ (.string (s0 ++ XF.extract i (i + 1)))).drew := ⟨_, rfl⟩
      rw [← hV]
      have szV : V.heap.size = wr.heap.size := by rw [hV]; simp [World.setCell]
      have kV : ∀ k, k ≠ b + 1 → V.heap[k]? = wr.heap[k]? := fun k hk => by rw [hV]; exact Below.heap_setCell _ _ _ _ hk
      have ob1 : ¬ Own6 wr b (b + 1) := HBx.out.no
      have XV : Box6 V b (b + 1) (B (F.take (i + 1))) (.slice p1 i q1) := by
        have := HBx.out.set0 (s' := s0 ++ XF.extract i (i + 1))
        rw [HMo.out] at this
        rw [hV, HMo.out]; exact ⟨this.at_, this.no⟩
      have SV : SpSta V b i [] := HS.out.keep fun k hk => kV k (fun e => ob1 (by rw [← e]; exact hk))
      have EV : SEnv V b s0 (.slice p1 i q1) (F.take i) (List.range i) := ⟨HEn.out.sc.keep fun g hg => kV g (by have := HV.out g hg; omega), fun g hg ho => HEn.out.no g hg ((Own6.same (kV b (by omega)) g).1 ho)⟩
      have BV := Lib.hid (show BesB b b w1 V from ⟨by rw [hV]; exact bw.out.os, by rw [hV]; exact bw.out.tape, by rw [hV]; exact bw.out.output, by have := bw.out.size; omega, fun k hk hn => by
        have h1 := bw.out.keep k hk hn
        exact ⟨(kV k (by omega)).trans h1.1, fun ho => h1.2 ((Own6.same (kV b (by omega)) k).1 ho)⟩⟩)
      have hbV : b < V.heap.size := by omega
      have bD : Below V.heap.size V V.drew := (Below.refl _ _).drew
      have XD := Lib.hid (XV.below bD hbV)
      have SD := Lib.hid (SV.below bD)
      have ED := Lib.hid (EV.below bD hbV)
      have HFR := Lib.hid (fun w (h : SpSta w b i []) => sp_fresh h (by omega))
      have k1 := XV.c1
      have OBD := Lib.hid (fun (w5 : World) (h5 : SEnv w5 b s0 (.slice p1 i q1) (F.take i) (List.range i)) => (h5.sc.row.alloc (.cells #[.int .i64 (i : Int)] 3)))
      clear kV XV SV EV hV bD k0 f0 szV ob1 hcat hwr q1' q2' q3' q4' q5'
      go_wp2_with fail
      go_region_law (first
        | (go_simp; go_at_call 51; (with_reducible refine (HFR.out _ SD.out).mono ?_); rintro e w4 ⟨rfl, s4, d4⟩
           have E4 := Lib.hid (ED.out.bes d4)
           have X4 := Lib.hid (XD.out.bes d4)
           have S4 := Lib.hid s4
           have B4 := Lib.hid ((BesB.below BV.out ((Below.refl _ _).drew) hbV (by omega)).bes d4 (by show b ≤ V.heap.size; omega))
           have k4 := X4.out.c1
           have z4 : V.heap.size ≤ w4.heap.size := d4.size
           have l4 := X4.out.lt
           clear s4 d4)
        | (refine step_append_lies _ rfl (.tmp 28) (.tmp 31) 60 rfl 0 3 i0 (.int .i64 0) 1 8 Try.underlying60 hi hz0 hz1 hz2 rfl (by decide) (.slice p1 i q1) i (rI (List.range i)) rfl (by have := OBD.out w4 E4.out; rw [List.length_range] at this; exact this) ⟨w4.heap.size, 0, none⟩ 1 1 [.int .i64 (i : Int)] rfl rfl (cell_row w4 [.int .i64 (i : Int)] 3) (by simp [Value.oneCell']) (by decide) (by unfold maxLen; omega) (by omega) (Nat.zero_le _) _ rfl ?_
           intro g cap w9 hown hgrow hat hlt9
           have H9 := Lib.hid (And.intro hown (And.intro hgrow (And.intro hat hlt9)))
           have nb1 : some (b + 1) ≠ (Value.slice p1 i q1).ownBlock := fun e => by have := HV.out _ e.symm; omega
           have X9 := Lib.hid (show Box6 w9 b (b + 1) (B (F.take (i + 1))) (.slice p1 i q1) from X4.out.same ((hgrow.block (b + 1) (by simp; omega) nb1).trans (Below.heap_alloc _ _ _ (by omega))) ((hgrow.block b (by simp; omega) (fun e => by have := HV.out _ e.symm; omega)).trans (Below.heap_alloc _ _ _ (by omega))))
           have k9 := X9.out.c1
           have f9 := X9.out.f 1
           clear hown hgrow hat nb1))
      all_goals
        obtain ⟨hown, hgrow, hat, hlt9⟩ := H9.out
        have z9 : w4.heap.size + 1 ≤ w9.heap.size := by have := hgrow.size; simpa using this
        have k9' : ∀ k, k < w4.heap.size → (Value.slice p1 i q1).ownBlock ≠ some k → w9.heap[k]? = w4.heap[k]? := fun k hk hn => (hgrow.block k (by simp; omega) (fun e => hn e.symm)).trans (Below.heap_alloc _ _ _ hk)
        have n4 := E4.out.no
        have hb4 : b < w4.heap.size := by omega
        have kb : w9.heap[b]? = w4.heap[b]? := k9' b hb4 (fun e => by have := HV.out _ e; omega)
        have S9 : SpSta w9 b (i + 1) [] := S4.out.keep fun k hk => k9' k (S4.out.own_lt hk) (fun e => n4 _ e hk)
        have gAt : (Value.slice p1 i q1).ownBlock = some g ∨ w4.heap.size ≤ g := by
          rcases hat with h | h
          · exact .inl h
          · right; have : (w4.alloc (.cells #[.int .i64 (i : Int)] 3)).heap.size = w4.heap.size + 1 := by simp
            omega
        have gB : b + 1 < g := by
          rcases gAt with h | h
          · exact HV.out g h
          · omega
        have nG : ¬ Own6 w9 b g := fun ho => by
          have ho4 := (Own6.same kb g).1 ho
          rcases gAt with h | h
          · exact n4 g h ho4
          · have := S4.out.own_lt ho4; omega
        have SF := Lib.hid (S9.set (o := 1) (x := .slice (some ⟨g, 0, none⟩) (i + 1) cap) X9.out.no)
        have XF' := Lib.hid (X9.out.set1 (v' := .slice (some ⟨g, 0, none⟩) (i + 1) cap))
        have EF := Lib.hid (show SEnv (w9.setCell ⟨b + 1, 1, none⟩ (.slice (some ⟨g, 0, none⟩) (i + 1) cap)) b (B (F.take (i + 1))) (.slice (some ⟨g, 0, none⟩) (i + 1) cap) (F.take (i + 1)) (List.range (i + 1)) from ⟨⟨rfl, by rw [List.length_range, List.length_take]; omega, by
            rw [List.length_range, rI_more]
            exact own_keep hown fun k hk => Below.heap_setCell _ _ _ _ (by simp only [Value.ownBlock, Option.some.injEq] at hk; show k ≠ b + 1; omega), fun e => by simp at e⟩, fun k hk ho => by
            simp only [Value.ownBlock, Option.some.injEq] at hk
            subst hk
            exact nG ((Own6.same (Below.heap_setCell _ _ _ _ (by show b ≠ b + 1; omega)) _).1 ho)⟩)
        have GF : Hid (∀ k, (Value.slice (some ⟨g, 0, none⟩) (i + 1) cap).ownBlock = some k → b + 1 < k) := fun k hk => by
          simp only [Value.ownBlock, Option.some.injEq] at hk; omega
        have BF := Lib.hid (show BesB b b w1 (w9.setCell ⟨b + 1, 1, none⟩ (.slice (some ⟨g, 0, none⟩) (i + 1) cap)) from ⟨hgrow.os.trans B4.out.os, hgrow.tape.trans B4.out.tape, hgrow.output.trans B4.out.output, by have := B4.out.size; simp [World.setCell]; omega, fun k hk hn => by
          have h1 := B4.out.keep k hk hn
          refine ⟨((Below.heap_setCell _ _ _ _ (by show k ≠ b + 1; omega)).trans (k9' k (by omega) (fun e => by have := HV.out _ e; omega))).trans h1.1, fun ho => h1.2 ?_⟩
          exact (Own6.same kb k).1 ((Own6.same (Below.heap_setCell _ _ _ _ (by show b ≠ b + 1; omega)) k).1 ho)⟩)
        clear hown hgrow hat k9' n4 kb S9 gAt nG k9 f9 H9
        go_wp2_with fail
        go_roundg (gk - 1)
        case measure => omega
        case rel => exact ⟨⟨i + 1, by go_num, by omega, ⟨_, SF.out, XF'.out, EF.out, GF.out⟩⟩, BF.out⟩
    · obtain rfl : i = F.length := by omega
      have k0 := hBx.c0
      have k1 := hBx.c1
      rw [List.take_length] at hBx hEn k0
      have HWk := Lib.hid (HW'.out b _ v wr hEn hS)
      have hbl := hS.lt
      obtain ⟨s0, hs0⟩ : ∃ s0, s0 = B F := ⟨_, rfl⟩
      rw [← hs0] at HWk k0
      have nOwn : ∀ k, k < b → ¬ Own6 w1 b k := fun k hk ho => by have := S0.out.own_ge ho; omega
      have NO := Lib.hid nOwn
      clear hS hBx hEn hv hs0 nOwn
      go_wp2_with fail
      refine (HWk.out).mono ?_
      rintro e w5 ⟨rfl, s5, d5⟩
      have S5 := Lib.hid s5
      have D5 := Lib.hid (bw.out.bes d5 (by omega))
      clear k0 k1 s5 d5
      go_wp2_with fail
      go_ret
      have hbe := HB.out
      refine ⟨⟨b, rfl, by omega, S5.out⟩, ⟨D5.out.os.trans bw1.out.os, D5.out.tape.trans bw1.out.tape, D5.out.output.trans bw1.out.output, Nat.le_trans bw1.out.size D5.out.size, fun k hk => ?_⟩⟩
      exact (D5.out.keep k (by omega) (NO.out k (by omega))).1.trans (bw1.out.block k (by omega))

end Go.Proofs.Ytdfelpahacmdpaa.T1
