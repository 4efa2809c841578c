/- No name is bound twice, or bound and free, in the specification and in the program. -/
import Derived.Test.YtpahhlcfbmmocabBd
import Derived.Test.YtpahhlcfbmmocabLs
import Derived.Test.YtpahhlcfbmmocabWn
import Derived.Test.YtpahhlcfbmmocabIn
import Derived.Test.YtpahhlcfbmmocabBn
namespace Go.Proofs.Ytpahhlcfbmmocab.T1
open Go.RowKit
set_option maxRecDepth 100000
set_option linter.unusedVariables false

instance wellN_dec (t : Tm) : Decidable t.wellN := by unfold Tm.wellN; infer_instance
theorem inB_iff (s : ByteArray) (c : UInt8) : inB s (c.toNat : Int) = decide (c ∈ s.data.toList) := by
  rw [Bool.eq_iff_iff, decide_eq_true_iff]
  unfold inB
  rw [List.any_eq_true]
  constructor
  · rintro ⟨x, hx, h⟩
    have : x = c := u8_ext (by have := eq_of_beq h; omega)
    rw [← this]; exact hx
  · intro h; exact ⟨c, h, by simp⟩
/-- The first names, seen alone, are well named. -/
def wellK (t : Tm) (k : Nat) : Prop := (t.bnd.take k).Nodup ∧ ∀ x ∈ t.bnd.take k, x ∉ t.free
theorem wellK_step (t : Tm) (k : Nat) (h : k < t.bnd.length) (h0 : wellK t k) (h1 : t.bnd[k] ∉ t.free) (h2 : t.bnd[k] ∉ t.bnd.take k) : wellK t (k + 1) := by
  unfold wellK
  rw [List.take_succ_eq_append_getElem h]
  refine ⟨List.nodup_append.2 ⟨h0.1, by simp, ?_⟩, ?_⟩
  · rintro a ha b hb rfl
    simp at hb; subst hb; exact h2 ha
  · intro x hx
    rcases List.mem_append.1 hx with hx | hx
    · exact h0.2 x hx
    · simp at hx; subst hx; exact h1
theorem wellK_free (t : Tm) (k : Nat) (h : k < t.bnd.length) (h1 : t.bnd[k] ∈ t.free) : ¬ t.wellN := fun hw => hw.2 _ (List.getElem_mem h) h1
theorem wellK_twice (t : Tm) (k : Nat) (h : k < t.bnd.length) (h2 : t.bnd[k] ∈ t.bnd.take k) : ¬ t.wellN := fun hw => by
  have h3 := hw.1
  rw [← List.take_append_drop k t.bnd, List.nodup_append] at h3
  exact h3.2.2 _ h2 _ (by rw [List.drop_eq_getElem_cons h]; exact List.mem_cons_self) rfl
theorem wellK_all (t : Tm) (k : Nat) (h : t.bnd.length ≤ k) (h0 : wellK t k) : t.wellN := by
  unfold wellK at h0
  rw [List.take_of_length_le h] at h0
  exact h0
theorem bnd_at (t : Tm) (k : Nat) (h : k < (B t.bnd).size) : (B t.bnd)[k]'h = t.bnd[k]'(by rw [B_size] at h; exact h) := byte_of (B_list _) k h (by rw [B_size] at h; exact h)
theorem bnd_ext (t : Tm) (k : Nat) : ((B t.bnd).extract 0 k).data.toList = t.bnd.take k := by
  rw [ByteArray.data_extract, Array.toList_extract, B_list]; simp [List.extract_eq_take_drop]

set_option maxHeartbeats 2000000 in
theorem specWell (s : ByteArray) (t : Tm) (hbl : t.bnd.length ≤ 300) (HG : ∀ w, Calls Try.prog 30 #[.string s] w fun e w' => e = .returned (.bool true) ∧ Below w.heap.size w w') (HN : ∀ w, Calls Try.prog 32 #[.string s] w fun e w' => e = .returned (.string (B t.bnd)) ∧ Below w.heap.size w w') (HF : ∀ w, Calls Try.prog 47 #[.string s] w fun e w' => e = .returned (.string (B t.free)) ∧ Below w.heap.size w w') (w : World) :
    Calls Try.prog 22 #[.string s] w fun e w' => e = .returned (.tuple #[.bool (decide t.wellN), .bool true]) ∧ Below w.heap.size w w' := by
  have hIF := fun c w => tmIn_any (B t.free) c w (by rw [B_size]; have := srt_len (srt_free t); omega)
  have hIB := fun k c w => tmIn_any ((B t.bnd).extract 0 k) c w (by simp; rw [B_size]; omega)
  obtain ⟨X, hX⟩ : ∃ X, X = B t.bnd := ⟨_, rfl⟩
  obtain ⟨Y, hY⟩ : ∃ Y, Y = B t.free := ⟨_, rfl⟩
  rw [← hX] at hIB HN
  rw [← hY] at hIF HF
  have hXs : X.size = t.bnd.length := by rw [hX, B_size]
  have hat : Hid (∀ k (h : k < X.size) (h' : k < t.bnd.length), X[k]'h = t.bnd[k]'h') := by subst hX; exact fun k h h' => bnd_at t k h
  have hex : Hid (∀ k, (X.extract 0 k).data.toList = t.bnd.take k) := by subst hX; exact fun k => bnd_ext t k
  have hYl : Hid (Y.data.toList = t.free) := by subst hY; rfl
  have HG' := Lib.hid HG
  have HN' := Lib.hid HN
  have HF' := Lib.hid HF
  have HIF := Lib.hid hIF
  have HIB := Lib.hid hIB
  have hsz : X.size ≤ 300 := by omega
  have HXS := Lib.hid hXs
  clear HG HN HF hIF hIB hX hY hbl hXs
  go_enter Try.func22, Try.ntmps22
  go_wp2_with fail
  refine (HG'.out _).mono ?_
  rintro e w1 ⟨rfl, b1⟩
  go_wp2_with fail
  refine (HN'.out _).mono ?_
  rintro e w2 ⟨rfl, b2⟩
  have bl2 := below_trans b1 b2 b1.size
  go_wp2_with fail
  refine (HF'.out _).mono ?_
  rintro e w3 ⟨rfl, b3⟩
  have bl3 := below_trans bl2 b3 bl2.size
  go_wp2_with fail
  go_loopw [6] (fun v wr => ∃ k : Nat, k ≤ X.size ∧ v = .int .i64 (k : Int) ∧ Hid (wellK t k) ∧ Below w.heap.size w wr) (fun v _ => X.size - (intOf v).toNat)
  case atStart => exact ⟨0, Nat.zero_le _, rfl, ⟨by simp, by simp⟩, bl3⟩
  case round =>
    obtain ⟨k, hk, rfl, H, hbw⟩ := hrel
    by_cases hlt : k < X.size
    · have hlt' := Lib.hid hlt
      have hkb : k < t.bnd.length := by have := HXS.out; omega
      have e1 := hat.out k hlt hkb
      have q1 : inB Y ((X[k]'hlt).toNat : Int) = decide (t.bnd[k]'hkb ∈ t.free) := by rw [inB_iff, hYl.out, e1]
      have q2 : inB (X.extract 0 k) ((X[k]'hlt).toNat : Int) = decide (t.bnd[k]'hkb ∈ t.bnd.take k) := by rw [inB_iff, hex.out, e1]
      have HC1 : Hid (∀ w, Calls Try.prog 48 #[.string Y, .int .u8 ((X[k]'hlt).toNat : Int)] w fun e w' => e = .returned (.bool (decide (t.bnd[k]'hkb ∈ t.free))) ∧ w = w') := fun w => by rw [← q1]; exact HIF.out _ w
      have HC2 : Hid (∀ w, Calls Try.prog 48 #[.string (X.extract 0 k), .int .u8 ((X[k]'hlt).toNat : Int)] w fun e w' => e = .returned (.bool (decide (t.bnd[k]'hkb ∈ t.bnd.take k))) ∧ w = w') := fun w => by rw [← q2]; exact HIB.out _ _ w
      have hby : (X[k]'hlt).toNat < 256 := (X[k]'hlt).toNat_lt
      by_cases d1 : t.bnd[k]'hkb ∈ t.free
      · have hno := Lib.hid (wellK_free t k hkb d1)
        rw [decide_eq_true d1] at HC1
        clear d1 HC2 q1 q2 e1
        go_wp2_with fail
        go_quiet ((go_at_call_of 48 Y; exact Calls.quiet_of_same ((HC1.out _).mono fun _ _ hh => ⟨hh.1, hh.2.symm⟩)))
        go_wp2_with fail
        go_ret2
        exact ⟨by rw [decide_eq_false hno.out]; rfl, below_drewN' hbw _⟩
      · rw [decide_eq_false d1] at HC1
        by_cases d2 : t.bnd[k]'hkb ∈ t.bnd.take k
        · have hno := Lib.hid (wellK_twice t k hkb d2)
          rw [decide_eq_true d2] at HC2
          clear d1 d2 q1 q2 e1
          go_wp2_with fail
          go_quiet (first | (go_at_call_of 48 Y; exact Calls.quiet_of_same ((HC1.out _).mono fun _ _ hh => ⟨hh.1, hh.2.symm⟩)) | (go_at_call 48; exact Calls.quiet_of_same ((HC2.out _).mono fun _ _ hh => ⟨hh.1, hh.2.symm⟩)))
          go_wp2_with fail
          go_ret2
          exact ⟨by rw [decide_eq_false hno.out]; rfl, below_drewN' hbw _⟩
        · have H' := Lib.hid (wellK_step t k hkb H.out d1 d2)
          rw [decide_eq_false d2] at HC2
          clear d1 d2 q1 q2 e1
          go_wp2_with fail
          go_quiet (first | (go_at_call_of 48 Y; exact Calls.quiet_of_same ((HC1.out _).mono fun _ _ hh => ⟨hh.1, hh.2.symm⟩)) | (go_at_call 48; exact Calls.quiet_of_same ((HC2.out _).mono fun _ _ hh => ⟨hh.1, hh.2.symm⟩)))
          go_wp2_with fail
          go_roundw
          case rel => exact ⟨k + 1, by omega, by go_num, H', below_drewN' hbw _⟩
          case measure => simp [intOf]; omega
    · have hyes := Lib.hid (wellK_all t k (by have := HXS.out; omega) H.out)
      go_wp2_with fail
      go_ret2
      exact ⟨by rw [decide_eq_true hyes.out]; rfl, hbw⟩

set_option maxHeartbeats 2000000 in
theorem implWell (s : ByteArray) (T : TypeId) (V : Value) (Bi Fi : Int) (K L : Nat) (xs : List Value) (hK : K ≤ 1000) (hL : L ≤ 1000) (HP : ∀ w, Calls Try.prog 33 #[.string s] w fun e w' => e = .returned (.tuple #[.iface T V, .bool true]) ∧ Below w.heap.size w w') (HB : ∀ w, Calls Try.prog 34 #[.iface T V] w fun e w' => e = .returned (.int .u32 Bi) ∧ Below w.heap.size w w') (HI : ∀ w, Calls Try.prog 51 #[.iface T V] w fun e w' => e = .returned (.int .i64 (K : Int)) ∧ Below w.heap.size w w')
    (HL : ∀ w, Calls Try.prog 35 #[.int .u32 Bi] w fun e w' => ∃ v, e = .returned v ∧ w'.ownsRow w.heap.size 5 1 v L xs ∧ Below w.heap.size w w') (HF : ∀ w, Calls Try.prog 49 #[.iface T V] w fun e w' => e = .returned (.int .u32 Fi) ∧ Below w.heap.size w w') (w : World) :
    Calls Try.prog 23 #[.string s] w fun e w' => e = .returned (.tuple #[.bool (decide (K = L) && (bits .and .u32 Bi Fi == 0)), .bool true]) ∧ Below w.heap.size w w' := by
  have HP' := Lib.hid HP
  have HB' := Lib.hid HB
  have HI' := Lib.hid HI
  have HL' := Lib.hid HL
  have HF' := Lib.hid HF
  clear HP HB HI HL HF
  go_enter Try.func23, Try.ntmps23
  go_wp2_with fail
  refine (HP'.out _).mono ?_
  rintro e w1 ⟨rfl, b1⟩
  go_wp2_with fail
  refine (HB'.out _).mono ?_
  rintro e w2 ⟨rfl, b2⟩
  have bl2 := below_trans b1 b2 b1.size
  go_wp2_with fail
  refine (HI'.out _).mono ?_
  rintro e w3 ⟨rfl, b3⟩
  have bl3 := below_trans bl2 b3 bl2.size
  go_wp2_with fail
  refine (HL'.out _).mono ?_
  rintro e w4 ⟨v, rfl, ho, b4⟩
  have bl4 := below_trans bl3 b4 bl3.size
  clear b1 b2 b3 b4
  have hv : ∃ a c, v = .slice a L c := by
    rcases ho.2 with ⟨rfl, rfl⟩ | ⟨g, cap, cur, rfl, _⟩
    · exact ⟨_, _, rfl⟩
    · exact ⟨_, _, rfl⟩
  clear ho
  obtain ⟨a, c, rfl⟩ := hv
  by_cases hq : K = L
  · have q1 : ((K : Int) == (L : Int)) = true := by simp [hq]
    have hd := Lib.hid (decide_eq_true hq)
    clear hq
    go_wp2_with fail
    refine (HF'.out _).mono ?_
    rintro e w5 ⟨rfl, b5⟩
    have bl5 := below_trans bl4 b5 bl4.size
    go_wp2_with fail
    go_ret2
    exact ⟨by rw [hd.out, Bool.true_and]; rfl, bl5⟩
  · have q1 : ((K : Int) == (L : Int)) = false := by rw [beq_eq_false_iff_ne]; omega
    have hd := Lib.hid (decide_eq_false hq)
    clear hq
    go_wp2_with fail
    go_ret2
    exact ⟨by rw [hd.out, Bool.false_and]; rfl, bl4⟩

end Go.Proofs.Ytpahhlcfbmmocab.T1
