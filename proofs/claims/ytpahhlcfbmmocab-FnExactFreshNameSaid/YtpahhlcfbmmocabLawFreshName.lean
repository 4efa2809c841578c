/- For every input the law FnExactFreshName returns true, and each text reads behind the call as it read before. No conditions. -/
import Derived.Test.YtpahhlcfbmmocabRows
import Derived.Test.YtpahhlcfbmmocabFr
import Derived.Test.YtpahhlcfbmmocabWc
import Derived.WalkKit
import Derived.ProofKit
import Derived.OpenShut
import Derived.ShutString
import Derived.ChangeOld
import Derived.Below
namespace Go.Proofs.Ytpahhlcfbmmocab
namespace LawFreshName
open Go.ChangeShapes Go.WideShapes Go.ChangeAt Go.RowKit Go.Proofs.Ytpahhlcfbmmocab.T1
open Go.ChangeMaps (open_string shut_string)
set_option linter.unusedVariables false

theorem own : ownKnob Try.prog.godebug = none := by kernel_rfl
theorem laidOut : laidOutB Try.prog = true := by kernel_rfl


/-- What is answered for a text. -/
def AnsPost (s : ByteArray) (w : World) (e : Ending) (w' : World) : Prop :=
  ((s.data.toList.all nmL = true ∧ ∃ k, FirstAt s k ∧ e = .returned (.tuple #[.string (one (UInt8.ofNat (97 + k))), .bool true])) ∨
   ((s.data.toList.all nmL = false ∨ ∀ i, i < 26 → inL s i = true) ∧ e = .returned (.tuple #[.string ⟨#[]⟩, .bool false]))) ∧ Below w.heap.size w w'
theorem first_uniq (s : ByteArray) (a b : Nat) (h1 : FirstAt s a) (h2 : FirstAt s b) : a = b := by
  obtain ⟨_, l1, n1⟩ := h1
  obtain ⟨_, l2, n2⟩ := h2
  rcases Nat.lt_trichotomy a b with h | h | h
  · have := l2 a h; rw [n1] at this; cases this
  · exact h
  · have := l1 b h; rw [n2] at this; cases this
theorem conv1 (k : UInt8) (w : World) : (convert 37 9 (.slice (some ⟨w.heap.size, 0, none⟩) 1 1)).run Try.prog (w.alloc (.cells #[.int .u8 (k.toNat : Int)] 5)) = .ok (.string (one k)) (w.alloc (.cells #[.int .u8 (k.toNat : Int)] 5)) :=
  run_convert_bytes_back _ 37 9 5 _ 1 [k] Try.underlying37 Try.underlying5 Try.underlying9 (fun j hj => by
    have : j = 0 := by simp at hj; omega
    subst this
    rw [show (⟨w.heap.size, 0, none⟩ : Addr).add 0 = ⟨w.heap.size, 0, none⟩ from rfl, World.cell?_alloc_new]; rfl)
theorem all_step (s : ByteArray) (k : Nat) (h : k < s.size) (h0 : (s.data.toList.take k).all nmL = true) (h1 : nmL (s[k]'h) = true) : (s.data.toList.take (k + 1)).all nmL = true := by
  rw [take_snoc s k h, List.all_append, h0]; simp [h1]
theorem all_no (s : ByteArray) (k : Nat) (h : k < s.size) (h1 : nmL (s[k]'h) = false) : s.data.toList.all nmL = false := by
  rw [List.all_eq_false]
  exact ⟨s[k]'h, by show s.data[k] ∈ _; simp, by simp [h1]⟩
theorem enc_oneF (c : UInt8) (h : c.toNat < 128) : Utf8.encode (c.toNat : Int) = one c := by
  have hv : Utf8.valid (c.toNat : Int) = true := by unfold Utf8.valid; simp; omega
  unfold Utf8.encode
  simp only [hv, if_true, Int.toNat_natCast, h]
  simp [one]
theorem ofNat_toNat (k : Nat) (h : k < 26) : ((UInt8.ofNat (97 + k)).toNat : Int) = 97 + (k : Int) := by
  rw [UInt8.toNat_ofNat']; omega

set_option maxHeartbeats 2000000 in
theorem spec_any (s : ByteArray) (hs : s.size ≤ 100000000) (w : World) : Calls Try.prog 14 #[.string s] w (AnsPost s w) := by
  have HFR := Lib.hid (fun w => tmFresh_any s hs w)
  go_enter Try.func14, Try.ntmps14
  go_wp2_with fail
  go_loop [4] (fun i => ∃ k : Nat, k ≤ s.size ∧ i = .int .i64 (k : Int) ∧ Hid ((s.data.toList.take k).all nmL = true)) (fun i => s.size - (intOf i).toNat)
  case atStart => exact ⟨0, Nat.zero_le _, rfl, by simp [Hid]⟩
  case round =>
    obtain ⟨k, hk, rfl, H⟩ := hrel
    by_cases hlt : k < s.size
    · have hb : (s[k]'hlt).toNat < 256 := (s[k]'hlt).toNat_lt
      cases hq : nmL (s[k]'hlt) with
      | true =>
        have HS := Lib.hid (all_step s k hlt H.out hq)
        have c1 : 97 ≤ ((s[k]'hlt).toNat : Int) := by simp [nmL] at hq; omega
        have c2 : ((s[k]'hlt).toNat : Int) ≤ 122 := by simp [nmL] at hq; omega
        clear hq
        go_wp2_with fail
        go_round
        case rel => exact ⟨k + 1, by omega, by go_num, HS⟩
        case measure => simp [intOf]; omega
      | false =>
        have HS : Hid (s.data.toList.all nmL = false) := all_no s k hlt hq
        have c1 : ((s[k]'hlt).toNat : Int) < 97 ∨ (97 ≤ ((s[k]'hlt).toNat : Int) ∧ 122 < ((s[k]'hlt).toNat : Int)) := by
          rcases Nat.lt_or_ge (s[k]'hlt).toNat 97 with h | h
          · exact .inl (by omega)
          · refine .inr ⟨by omega, ?_⟩
            rcases Nat.lt_or_ge 122 (s[k]'hlt).toNat with h' | h'
            · omega
            · exfalso; simp [nmL] at hq; omega
        clear hq
        rcases c1 with c1 | ⟨c1, c2⟩
        all_goals
          go_wp2_with fail
          go_ret2
          exact ⟨.inr ⟨.inl HS.out, rfl⟩, Below.refl _ _⟩
    · have HA : Hid (s.data.toList.all nmL = true) := by
        have := H.out
        rw [List.take_of_length_le (by simp; omega)] at this
        exact this
      go_wp2_with fail
      refine (HFR.out _).mono ?_
      rintro e w' ⟨m, rfl, rfl, (⟨j, rfl, hf⟩ | ⟨m1, m2, hall⟩)⟩
      · have HF := Lib.hid hf
        have hj : j < 26 := hf.1
        have hcv := conv1 (UInt8.ofNat (97 + j))
        rw [ofNat_toNat j hj] at hcv
        obtain ⟨C, hC⟩ : ∃ C, C = one (UInt8.ofNat (97 + j)) := ⟨_, rfl⟩
        rw [← hC] at hcv
        have HC := Lib.hid hC
        clear hf hC
        go_wp2_with fail
        go_ret2
        exact ⟨.inl ⟨HA.out, j, HF.out, by rw [← HC.out]; rfl⟩, (Below.refl _ _).alloc (Nat.le_refl _) _⟩
      · have HN := Lib.hid hall
        clear hall
        go_wp2_with fail
        go_ret2
        exact ⟨.inr ⟨.inr HN.out, rfl⟩, Below.refl _ _⟩

set_option maxHeartbeats 400000 in
theorem letter_int (r : Nat) (w : World) : Calls Try.prog 37 #[.int .i32 (r : Int)] w fun e w' => e = .returned (.bool (decide (97 ≤ r) && decide (r ≤ 122))) ∧ w = w' := by
  go_enter Try.func37, Try.ntmps37
  go_wp2
  all_goals (go_ret; refine ⟨ret_bool ?_, rfl⟩; rw [Bool.eq_iff_iff]; simp; omega)

/-- The set n holds just the letters of the first part of a text. -/
def SetOf (n : Nat) (l : List UInt8) : Prop := ∀ i, i < 26 → n.testBit i = l.any fun x => (x.toNat : Int) == ((97 + i : Nat) : Int)
theorem set_step (n : Nat) (l : List UInt8) (c : UInt8) (h1 : 97 ≤ c.toNat) (h2 : c.toNat ≤ 122) (h : SetOf n l) : SetOf (n ||| 2 ^ (c.toNat - 97)) (l ++ [c]) := by
  intro i hi
  rw [Nat.testBit_or, h i hi, Nat.testBit_two_pow, List.any_append]
  congr 1
  rw [Bool.eq_iff_iff]
  simp; omega
theorem lets_nil (n : Nat) : ∀ k, (∀ i, i < k → n.testBit i = false) → lets n k = [] := by
  intro k
  induction k with
  | zero => intro _; rfl
  | succ k ih => intro h; rw [lets_succ, ih (fun i hi => h i (by omega)), h k (by omega)]; rfl
theorem lets_head (n k : Nat) (h : ∀ i, i < k → n.testBit i = false) (hk : n.testBit k = true) : ∀ d, ∃ r, lets n (k + 1 + d) = UInt8.ofNat (97 + k) :: r := by
  intro d
  induction d with
  | zero => exact ⟨[], by rw [Nat.add_zero, lets_succ, lets_nil n k h, hk]; rfl⟩
  | succ d ih => obtain ⟨r, hr⟩ := ih; exact ⟨_, by rw [← Nat.add_assoc, lets_succ, hr, List.cons_append]⟩
theorem or_lt (n c : Nat) (hn : n < 2 ^ 32) (h2 : c ≤ 122) : n ||| 2 ^ (c - 97) < 2 ^ 32 := Nat.or_lt_two_pow hn (pow_lt32 c h2)

set_option maxHeartbeats 4000000 in
theorem impl_any (s : ByteArray) (hs : s.size ≤ 100000000) (w : World) : Calls Try.prog 15 #[.string s] w (AnsPost s w) := by
  go_enter Try.func15, Try.ntmps15
  go_wp2_with fail
  go_loopw [4] (fun v wr => ∃ (n pos : Nat), v = .int .u32 (n : Int) ∧ Hid (n < 2 ^ 32) ∧ Hid (wr.heap[w.heap.size]? = some (.stringIter s pos)) ∧ pos ≤ s.size ∧ Below w.heap.size w wr ∧ Hid (SetOf n (s.data.toList.take pos)) ∧ Hid ((s.data.toList.take pos).all nmL = true)) (fun _ wr => s.size - wr.iterPos w.heap.size)
  case atStart => exact ⟨0, 0, rfl, (by decide : (0 : Nat) < 2 ^ 32), World.iter_heap w s 0, Nat.zero_le _, (Below.refl _ _).alloc (Nat.le_refl _) _, fun i _ => by simp, by simp [Hid]⟩
  case round =>
    obtain ⟨n, pos, rfl, hn, hit, hple, hbw, hset, hall⟩ := hrel
    have hpos0 := Lib.hid (iterPos_of' hit.out)
    by_cases hp : pos < s.size
    · have hbt : (s[pos]'hp).toNat < 256 := (s[pos]'hp).toNat_lt
      cases hq : nmL (s[pos]'hp) with
      | true =>
        have hq' := hq
        simp [nmL] at hq'
        have HS := Lib.hid (all_step s pos hp hall.out hq)
        obtain ⟨c, hc⟩ : ∃ c, c = s[pos]'hp := ⟨_, rfl⟩
        have HSET : Hid (SetOf (n ||| 2 ^ (c.toNat - 97)) (s.data.toList.take (pos + 1))) := by
          rw [take_snoc s pos hp, ← hc]; exact set_step n _ c (by rw [hc]; omega) (by rw [hc]; omega) hset.out
        obtain ⟨r, hr⟩ : ∃ r, r = c.toNat := ⟨_, rfl⟩
        have hr1 : 97 ≤ r := by rw [hr, hc]; omega
        have hr2 : r ≤ 122 := by rw [hr, hc]; omega
        have hnx : ∀ ty, (Instr.next (.pointer (some ⟨w.heap.size, 0, none⟩)) true ty).run Try.prog wr = .ok (.tuple #[.bool true, .int .i64 (pos : Int), .int .i32 (r : Int)]) (wr.iterAt w.heap.size s (pos + 1)) := fun ty => by
          rw [hr, hc]; exact Lib.run_next_ascii_at wr w.heap.size s pos ty hit.out hp (by omega)
        have hit2 := Lib.hid (Lib.iterAt_heap wr w.heap.size s pos (pos + 1) hit.out)
        have hbw2 := Lib.below_iterAt hbw (k := w.heap.size) (Nat.le_refl _) s (pos + 1)
        have HL := letter_int r
        rw [show (decide (97 ≤ r) && decide (r ≤ 122)) = true by simp; omega] at HL
        have HL2 := Lib.hid HL
        have HW := Lib.hid (fun w => with_any n r hn.out hr1 hr2 w)
        have HN2 : Hid (n ||| 2 ^ (r - 97) < 2 ^ 32) := or_lt n r hn.out hr2
        rw [← hr] at HSET
        have hwr : IntKind.u8.wrap (r : Int) = (r : Int) := IntWalk.u8_in _ (by omega)
        clear hq hq' HL hr hc
        obtain ⟨N, hN⟩ : ∃ N, N = n ||| 2 ^ (r - 97) := ⟨_, rfl⟩
        rw [← hN] at HSET HW HN2
        obtain ⟨W2, hW2⟩ : ∃ W2, W2 = wr.iterAt w.heap.size s (pos + 1) := ⟨_, rfl⟩
        rw [← hW2] at hnx hit2 hbw2
        clear hN hW2
        go_wp2_with fail
        refine (HL2.out _).mono ?_
        rintro e w' ⟨rfl, rfl⟩
        go_wp2_with fail
        refine (HW.out _).mono ?_
        rintro e w' ⟨rfl, rfl⟩
        go_wp2_with fail
        go_roundw
        case rel => exact ⟨N, pos + 1, rfl, HN2, hit2, by omega, hbw2, HSET, HS⟩
        case measure => rw [iterPos_of' hit2.out, hpos0.out]; omega
      | false =>
        have HS : Hid (s.data.toList.all nmL = false) := all_no s pos hp hq
        obtain ⟨r, hr⟩ : ∃ r, r = (Utf8.decode s pos).1 := ⟨_, rfl⟩
        obtain ⟨d, hd⟩ : ∃ d, d = (Utf8.decode s pos).2 := ⟨_, rfl⟩
        have hno : ¬ (97 ≤ r ∧ r ≤ 122) := by
          rw [hr]
          rcases Nat.lt_or_ge (s[pos]'hp).toNat 128 with h | h
          · rw [decode_ascii s pos hp h]; simp [nmL] at hq; simp only []; omega
          · have := (decode_high s pos hp h).1; omega
        have hnx : ∀ ty, (Instr.next (.pointer (some ⟨w.heap.size, 0, none⟩)) true ty).run Try.prog wr = .ok (.tuple #[.bool true, .int .i64 (pos : Int), .int .i32 (r : Int)]) (wr.iterAt w.heap.size s (pos + d)) := fun ty => by
          rw [hr, hd]; exact Lib.run_next_any_at wr w.heap.size s pos ty hit.out hp
        have hbw2 := Lib.below_iterAt hbw (k := w.heap.size) (Nat.le_refl _) s (pos + d)
        have HL := letter_int r
        rw [show (decide (97 ≤ r) && decide (r ≤ 122)) = false by rw [Bool.eq_false_iff]; simp; omega] at HL
        have HL2 := Lib.hid HL
        obtain ⟨W2, hW2⟩ : ∃ W2, W2 = wr.iterAt w.heap.size s (pos + d) := ⟨_, rfl⟩
        rw [← hW2] at hnx hbw2
        clear hq HL hr hd hno hW2
        go_wp2_with fail
        refine (HL2.out _).mono ?_
        rintro e w' ⟨rfl, rfl⟩
        go_wp2_with fail
        go_ret2
        exact ⟨.inr ⟨.inl HS.out, rfl⟩, hbw2⟩
    · have hnx : ∀ ty, (Instr.next (.pointer (some ⟨w.heap.size, 0, none⟩)) true ty).run Try.prog wr = .ok (.tuple #[.bool false]) wr := fun ty => Lib.run_next_end_at wr w.heap.size s pos ty hit.out hp
      have htk : s.data.toList.take pos = s.data.toList := List.take_of_length_le (by simp; omega)
      have HA : Hid (s.data.toList.all nmL = true) := by have := hall.out; rw [htk] at this; exact this
      have HB : Hid (∀ i, i < 26 → (flip32 n).testBit i = !inL s i) := fun i hi => by
        have := hset.out i hi
        rw [htk] at this
        rw [flip_bit n i (by omega), this]; rfl
      clear htk
      rcases first_or s 26 with hf | ⟨k, hk, hlo, hno⟩
      · have HN := Lib.hid hf
        have hl : lets (flip32 n) 26 = [] := lets_nil _ 26 (fun i hi => by rw [HB.out i hi, hf i hi]; rfl)
        have HO := Lib.hid (fun w => fo_nil (n : Int) (fun w => by
          have := others_any n hn.out w
          rw [hl] at this
          exact this.mono fun e w' ⟨v, h1, h2, h3⟩ => ⟨v, _, h1, h2, h3⟩) w)
        clear hl hf
        go_wp2_with fail
        refine (HO.out _).mono ?_
        rintro e w1 ⟨rfl, bl⟩
        have hbw1 := below_trans hbw bl hbw.size
        clear hnx
        go_wp2_with fail
        go_ret2
        exact ⟨.inr ⟨.inr HN.out, rfl⟩, hbw1⟩
      · have HF : Hid (FirstAt s k) := ⟨hk, hlo, hno⟩
        obtain ⟨r, hr⟩ := lets_head (flip32 n) k (fun i hi => by rw [HB.out i (by omega), hlo i hi]; rfl) (by rw [HB.out k hk, hno]; rfl) (25 - k)
        rw [show k + 1 + (25 - k) = 26 by omega] at hr
        obtain ⟨y, hy⟩ : ∃ y : Int, y = ((UInt8.ofNat (97 + k)).toNat : Int) := ⟨_, rfl⟩
        have HO := Lib.hid (fun w => fo_cons (n : Int) y (fun w => by
          have := others_any n hn.out w
          rw [hr] at this
          refine this.mono fun e w' ⟨v, h1, h2, h3⟩ => ?_
          rcases h2.2 with ⟨rfl, h4⟩ | ⟨g, cap, cur, rfl, h4, _⟩
          · simp at h4
          · exact ⟨g, r.length, cap, h1, h4, by rw [h2.cellAt 0 (by simp), hy]; rfl, h3⟩) w)
        have HE : Hid (Utf8.encode y = one (UInt8.ofNat (97 + k))) := by
          show _ = _
          rw [hy]
          exact enc_oneF _ (by rw [UInt8.toNat_ofNat']; omega)
        clear hr hlo hno hy
        go_wp2_with fail
        refine (HO.out _).mono ?_
        rintro e w1 ⟨rfl, bl⟩
        have hbw1 := below_trans hbw bl hbw.size
        clear hnx
        go_wp2_with fail
        go_ret2
        exact ⟨.inl ⟨HA.out, k, HF.out, by rw [← HE.out]; rfl⟩, hbw1⟩

theorem both (s : ByteArray) (hs : s.size ≤ 100000000) : ∃ (n : ByteArray) (b : Bool), (∀ w, Calls Try.prog 14 #[.string s] w fun e w' => e = .returned (.tuple #[.string n, .bool b]) ∧ Below w.heap.size w w') ∧ (∀ w, Calls Try.prog 15 #[.string s] w fun e w' => e = .returned (.tuple #[.string n, .bool b]) ∧ Below w.heap.size w w') := by
  have h1 := spec_any s hs
  have h2 := impl_any s hs
  have no_ (h : s.data.toList.all nmL = false ∨ ∀ i, i < 26 → inL s i = true) : ∀ w e w', AnsPost s w e w' → e = .returned (.tuple #[.string ⟨#[]⟩, .bool false]) ∧ Below w.heap.size w w' := by
    rintro w e w' ⟨⟨ha, k, hf, _⟩ | ⟨_, h'⟩, b⟩
    · rcases h with h | h
      · rw [ha] at h; cases h
      · have := h k hf.1; rw [hf.2.2] at this; cases this
    · exact ⟨h', b⟩
  cases ha : s.data.toList.all nmL with
  | false => exact ⟨⟨#[]⟩, false, fun w => (h1 w).mono (no_ (.inl ha) w), fun w => (h2 w).mono (no_ (.inl ha) w)⟩
  | true =>
    rcases first_or s 26 with hf | ⟨k, hf⟩
    · exact ⟨⟨#[]⟩, false, fun w => (h1 w).mono (no_ (.inr hf) w), fun w => (h2 w).mono (no_ (.inr hf) w)⟩
    · have key : ∀ w e w', AnsPost s w e w' → e = .returned (.tuple #[.string (one (UInt8.ofNat (97 + k))), .bool true]) ∧ Below w.heap.size w w' := by
        rintro w e w' ⟨⟨_, j, hj, he⟩ | ⟨h, _⟩, b⟩
        · rw [first_uniq s j k hj hf] at he; exact ⟨he, b⟩
        · rcases h with h | h
          · rw [ha] at h; cases h
          · have := h k hf.1; rw [hf.2.2] at this; cases this
      exact ⟨_, true, fun w => (h1 w).mono (key w), fun w => (h2 w).mono (key w)⟩
set_option maxHeartbeats 1000000 in
theorem walk (a0 : ByteArray) (w0 : a0.size ≤ maxLen) (w : World) : Calls Try.prog 4 #[.string a0] w fun e w' => e = .returned (.bool true) ∧ Below w.heap.size w w' := by
  unfold maxLen at w0
  by_cases hl : 1048576 < a0.size
  · go_enter Try.func4, Try.ntmps4
    go_wp2_with fail
    go_ret
    exact ⟨rfl, Below.refl _ _⟩
  · obtain ⟨n, b, hs, hi⟩ := both a0 (by omega)
    have H1 := Lib.hid hs
    have H2 := Lib.hid hi
    clear hs hi
    go_enter Try.func4, Try.ntmps4
    go_wp2_with fail
    refine (H1.out _).mono ?_
    rintro e w2 ⟨rfl, b1⟩
    go_wp2_with fail
    refine (H2.out _).mono ?_
    rintro e w3 ⟨rfl, b2⟩
    go_wp2_with fail
    go_ret
    exact ⟨rfl, below_trans b1 b2 b1.size⟩


set_option maxRecDepth 100000 in
theorem lifted (os : Os) (started : os.Started) (H : Type) (enc : TypeId × Value → H) :
    ReturnsInHanded {} Try.checked os 4 .any (Rows.fnExactFreshNameSpec.pre6 enc Try.prog Try.f4 Rows.fnExactFreshNameRow.domain false) (Rows.fnExactFreshNameSpec.post enc Try.prog Try.f4 false true false false) := by
  refine returnsInHanded_of_change (C := Try.checked) own started (by kernel_rfl) Try.func4
    (ChangeSpec.witness6 (enc := enc) (C := Try.checked) false ⟨#[], #[.string ByteArray.empty], []⟩ 8 (by kernel_rfl) (by kernel_rfl) (by kernel_rfl) (by kernel_rfl)) ?_
  intro W base args ds gs before hval0 hW hcnd _
  have hval : ∀ (j : Nat) t v, Try.f4.params[j]? = some t → args[j]? = some v → Value.okWide Try.prog W .any base t v := hval0
  have hW' := hW
  obtain ⟨p, q, hA0, hV, rfl, hfz, hnd⟩ := hW
  have hA : DataW.TrodAll enc Try.prog W 0 (fun _ => true) true Try.f4.params.toList args.toList ds p := hA0
  rw [Try.params4] at hA hval
  obtain ⟨v0, vs0, d0, ds0, p0, q0, hargs, rfl, rfl, h0, r0⟩ := trodAll_cons hA
  obtain ⟨rfl, rfl, rfl⟩ := trodAll_nil r0
  obtain rfl : args = #[v0] := by cases args; simp_all
  obtain ⟨rfl, rfl⟩ := trodVars_none hV
  obtain ⟨a0, rfl, rfl, rfl, w0⟩ := open_string Try.underlying9 (hval 0 9 v0 rfl rfl) h0
  clear hA0 hval0
  simp only [List.append_nil] at hW'
  refine (walk a0 w0 W).mono fun e W' ⟨he, bel⟩ => ?_
  subst he
  exact ⟨_, rfl, _, _, _, [], [], [], hW', trodAll_mk1 (shut_bool Try.underlying4 _), (trodAll_cons_mk (shut_string Try.underlying9 w0) trodAll_mk0), rfl, bel.frame _, fun h => by cases h⟩

theorem over : Rows.fnExactFreshNameRow.holds Try.pinned (OpenSpec.ofChange Rows.fnExactFreshNameSpec) :=
  OpenClaim.holds_of_wide 4 Try.f4 rfl rfl rfl rfl rfl rfl rfl ⟨rfl, rfl, rfl, rfl, rfl⟩ rfl rfl rfl rfl rfl (by kernel_rfl) Try.func4 (by kernel_rfl)
    (of_decide_eq_true (by kernel_rfl)) (by unfold Func.isWrapper; first | (rw [if_pos (by decide +kernel)]; kernel_rfl) | (rw [if_neg (by decide +kernel)]; exact ⟨rfl, rfl⟩))
    (fun os started H enc _ => lifted os started H enc)
end LawFreshName

theorem fnExactFreshName_holds : Rows.FnExactFreshNameSaid := LawFreshName.over
#print axioms fnExactFreshName_holds
end Go.Proofs.Ytpahhlcfbmmocab
