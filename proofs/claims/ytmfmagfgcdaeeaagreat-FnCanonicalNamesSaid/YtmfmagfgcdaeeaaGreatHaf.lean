/- Texts of the proof, put together: ImplA, ImplC. No conditions. -/
import Derived.Test.YtmfmagfgcdaeeaaGreatHaa
import Derived.Test.YtmfmagfgcdaeeaaGreatProg
import Derived.WalkKit
import Derived.WalkLawsBesides
import Derived.WalkSpells
import Derived.LoopTactic
import Derived.Lib.Hide
import Derived.BigQuiet
import Derived.Deep.QuietTactic
import Derived.Outline
import Derived.IntWalk

/- The reader: one byte taken, one name read. -/
namespace Go.Proofs.YtmfmagfgcdaeeaaGreat.T1
open Go.RowKit
set_option maxRecDepth 100000

theorem ret_bool' {a b : Bool} (h : a = b) : Ending.returned (.bool a) = .returned (.bool b) := by rw [h]

/-- Is the byte at the place the wanted one? Where one reads on. -/
def tk (s : ByteArray) (a : Nat) (n : Int) : Bool := match s.data.toList.drop a with | c :: _ => decide ((c.toNat : Int) = n) | [] => false
def tkN (s : ByteArray) (a : Nat) (n : Int) : Nat := if tk s a n then a + 1 else a
theorem tk_lt {s : ByteArray} {a : Nat} (h : a < s.size) (n : Int) : tk s a n = decide ((s[a].toNat : Int) = n) := by rw [tk, drop_at s a h]
theorem tk_ge {s : ByteArray} {a : Nat} (h : s.size ≤ a) (n : Int) : tk s a n = false := by rw [tk, List.drop_of_length_le (by simpa using h)]

def TakePost (b : Nat) (s : ByteArray) (a : Nat) (n : Int) (w : World) (e : Ending) (w' : World) : Prop :=
  e = .returned (.bool (tk s a n)) ∧ RdAt w' b s (tkN s a n) ∧ Only b w w'

set_option maxHeartbeats 1000000 in
theorem take_any7 (b : Nat) (s : ByteArray) (a : Nat) (n : Int) (w : World) (hs : s.size ≤ 700) (ha : a ≤ s.size) (hr : RdAt w b s a) :
    Calls Tryz.prog 149 #[.pointer (some ⟨b, 0, none⟩), .int .u8 n] w (TakePost b s a n w) := by
  have c0 := hr.c0
  have c1 := hr.c1
  have f1 := hr.f1
  by_cases hlt : a < s.size
  · have t1 : ((a : Int) == (s.size : Int)) = false := by rw [beq_eq_false_iff_ne]; omega
    by_cases hc : (s[a].toNat : Int) = n
    · have t2 : ((s[a].toNat : Int) != n) = false := by simp [hc]
      have hT : tk s a n = true := by rw [tk_lt hlt]; simpa using hc
      have HT := Lib.hid hT
      clear hc hT
      go_enter Tryz.func149, Tryz.ntmps149
      go_wp2_with fail
      go_quiet (fail)
      go_wp2_with fail
      go_ret
      refine ⟨by rw [HT.out]; rfl, ?_, ((Only.refl _ _).drewN _).setCell _ _ _⟩
      rw [tkN, if_pos HT.out]
      exact (hr.drewN _).set (a + 1)
    · have t2 : ((s[a].toNat : Int) != n) = true := by simp [hc]
      have hT : tk s a n = false := by rw [tk_lt hlt]; simpa using hc
      have HT := Lib.hid hT
      clear hc hT
      go_enter Tryz.func149, Tryz.ntmps149
      go_wp2_with fail
      go_quiet (fail)
      go_wp2_with fail
      go_ret
      refine ⟨by rw [HT.out]; rfl, ?_, ((Only.refl _ _).drewN _)⟩
      rw [tkN, HT.out]
      exact hr.drewN _
  · have t1 : ((a : Int) == (s.size : Int)) = true := by rw [beq_iff_eq]; omega
    have hT : tk s a n = false := tk_ge (by omega) n
    have HT := Lib.hid hT
    clear hT
    go_enter Tryz.func149, Tryz.ntmps149
    go_wp2_with fail
    go_quiet (fail)
    go_wp2_with fail
    go_ret
    refine ⟨by rw [HT.out]; rfl, ?_, ((Only.refl _ _).drewN _)⟩
    rw [tkN, HT.out]
    exact hr.drewN _

theorem take_any (b : Nat) (s : ByteArray) (a : Nat) (n : Int) (w : World) (hs : s.size ≤ 300) (ha : a ≤ s.size) (hr : RdAt w b s a) :
    Calls Tryz.prog 149 #[.pointer (some ⟨b, 0, none⟩), .int .u8 n] w (TakePost b s a n w) := take_any7 b s a n w (by omega) ha hr

set_option maxHeartbeats 400000 in
theorem isLetter_any (c : UInt8) (w : World) : Calls Tryz.prog 146 #[.int .i32 (c.toNat : Int)] w fun e w' => e = .returned (.bool (nmL c)) ∧ w = w' := by
  go_enter Tryz.func146, Tryz.ntmps146
  go_wp2
  all_goals (go_ret; refine ⟨ret_bool' ?_, rfl⟩; rw [Bool.eq_iff_iff]; simp [nmL]; omega)

/-- Is there a name at the place? Which? Where one reads on. -/
def nmT (s : ByteArray) (a : Nat) : Bool := match s.data.toList.drop a with | c :: _ => nmL c | [] => false
def nmV (s : ByteArray) (a : Nat) : UInt8 := if nmT s a then (match s.data.toList.drop a with | c :: _ => c | [] => 0) else 0
def nmN (s : ByteArray) (a : Nat) : Nat := if nmT s a then a + 1 else a
theorem nmT_lt {s : ByteArray} {a : Nat} (h : a < s.size) : nmT s a = nmL s[a] := by rw [nmT, drop_at s a h]
theorem nmT_ge {s : ByteArray} {a : Nat} (h : s.size ≤ a) : nmT s a = false := by rw [nmT, List.drop_of_length_le (by simpa using h)]
theorem nmV_lt {s : ByteArray} {a : Nat} (h : a < s.size) (h1 : nmT s a = true) : nmV s a = s[a] := by rw [nmV, if_pos h1, drop_at s a h]
theorem nmV_no {s : ByteArray} {a : Nat} (h1 : nmT s a = false) : nmV s a = 0 := by rw [nmV, h1]; rfl

def NamePost (b : Nat) (s : ByteArray) (a : Nat) (w : World) (e : Ending) (w' : World) : Prop :=
  e = .returned (.tuple #[.int .u8 ((nmV s a).toNat : Int), .bool (nmT s a)]) ∧ RdAt w' b s (nmN s a) ∧ Only b w w'

set_option maxHeartbeats 1000000 in
theorem name_any (b : Nat) (s : ByteArray) (a : Nat) (w : World) (hs : s.size ≤ 300) (ha : a ≤ s.size) (hr : RdAt w b s a) :
    Calls Tryz.prog 175 #[.pointer (some ⟨b, 0, none⟩)] w (NamePost b s a w) := by
  have c0 := hr.c0
  have c1 := hr.c1
  have f1 := hr.f1
  by_cases hlt : a < s.size
  · have t1 : ((a : Int) == (s.size : Int)) = false := by rw [beq_eq_false_iff_ne]; omega
    have hb : s[a].toNat < 256 := s[a].toNat_lt
    have hwr : IntKind.i32.wrap (s[a].toNat : Int) = (s[a].toNat : Int) := IntWalk.i32_in _ (by omega)
    have hl := fun w => isLetter_any s[a] w
    cases hc : nmL s[a] with
    | true =>
      rw [hc] at hl
      have hT : nmT s a = true := by rw [nmT_lt hlt, hc]
      have HT := Lib.hid hT
      have HV := Lib.hid (nmV_lt hlt hT)
      have HL := Lib.hid hl
      clear hc hT hl
      go_enter Tryz.func175, Tryz.ntmps175
      go_wp2_with fail
      go_quiet ((go_at_call 146; exact Calls.quiet_of_same ((HL.out _).mono fun _ _ hh => ⟨hh.1, hh.2.symm⟩)))
      go_wp2_with fail
      go_quiet (fail)
      go_wp2_with fail
      go_ret2
      refine ⟨by rw [HT.out, HV.out]; rfl, ?_, (((Only.refl _ _).drewN _).setCell _ _ _).drewN _⟩
      rw [nmN, if_pos HT.out]
      exact ((hr.drewN _).set (a + 1)).drewN _
    | false =>
      rw [hc] at hl
      have hT : nmT s a = false := by rw [nmT_lt hlt, hc]
      have HT := Lib.hid hT
      have HV := Lib.hid (nmV_no hT)
      have HL := Lib.hid hl
      clear hc hT hl
      go_enter Tryz.func175, Tryz.ntmps175
      go_wp2_with fail
      go_quiet ((go_at_call 146; exact Calls.quiet_of_same ((HL.out _).mono fun _ _ hh => ⟨hh.1, hh.2.symm⟩)))
      go_wp2_with fail
      go_ret2
      refine ⟨by rw [HT.out, HV.out]; rfl, ?_, ((Only.refl _ _).drewN _)⟩
      rw [nmN, HT.out]
      exact hr.drewN _
  · have t1 : ((a : Int) == (s.size : Int)) = true := by rw [beq_iff_eq]; omega
    have hT : nmT s a = false := nmT_ge (by omega)
    have HT := Lib.hid hT
    have HV := Lib.hid (nmV_no hT)
    clear hT
    go_enter Tryz.func175, Tryz.ntmps175
    go_wp2_with fail
    go_quiet (fail)
    go_wp2_with fail
    go_ret2
    refine ⟨by rw [HT.out, HV.out]; rfl, ?_, ((Only.refl _ _).drewN _)⟩
    rw [nmN, HT.out]
    exact hr.drewN _

end Go.Proofs.YtmfmagfgcdaeeaaGreat.T1

/- The reader: what is written before the part of a sign with one part. -/
namespace Go.Proofs.YtmfmagfgcdaeeaaGreat.T1
open Go.RowKit
set_option maxRecDepth 100000

theorem tk_drop {s : ByteArray} {a : Nat} (k : UInt8) {n : Int} (hk : (k.toNat : Int) = n) (h : tk s a n = true) : s.data.toList.drop a = k :: s.data.toList.drop (a + 1) ∧ a < s.size := by
  have hb : a < s.size := by
    rcases Nat.lt_or_ge a s.size with h' | h'
    · exact h'
    · rw [tk_ge h'] at h; cases h
  rw [tk_lt hb] at h
  have : s[a] = k := by rw [← UInt8.toNat_inj]; simp at h; omega
  rw [drop_at s a hb, this]
  exact ⟨rfl, hb⟩
theorem tk_not {s : ByteArray} {a : Nat} (k : UInt8) {n : Int} (hk : (k.toNat : Int) = n) (h : tk s a n = false) (l' : List UInt8) : s.data.toList.drop a ≠ k :: l' := by
  intro e
  obtain ⟨hb, e1, _⟩ := drop_cons_lt e
  rw [tk_lt hb, e1] at h
  simp [hk] at h
theorem nm_drop {s : ByteArray} {a : Nat} (h : nmT s a = true) : s.data.toList.drop a = nmV s a :: s.data.toList.drop (a + 1) ∧ a < s.size ∧ nmL (nmV s a) = true := by
  have hb : a < s.size := by
    rcases Nat.lt_or_ge a s.size with h' | h'
    · exact h'
    · rw [nmT_ge h'] at h; cases h
  rw [nmV_lt hb h, drop_at s a hb]
  exact ⟨rfl, hb, by rw [← nmT_lt hb]; exact h⟩
theorem tkN_yes {s : ByteArray} {a : Nat} {n : Int} (h : tk s a n = true) : tkN s a n = a + 1 := by rw [tkN, if_pos h]
theorem tkN_no {s : ByteArray} {a : Nat} {n : Int} (h : tk s a n = false) : tkN s a n = a := by rw [tkN, h]; rfl
theorem nmN_yes {s : ByteArray} {a : Nat} (h : nmT s a = true) : nmN s a = a + 1 := by rw [nmN, if_pos h]
theorem nmN_no {s : ByteArray} {a : Nat} (h : nmT s a = false) : nmN s a = a := by rw [nmN, h]; rfl
theorem tkN_le {s : ByteArray} {a : Nat} (n : Int) (h : a ≤ s.size) : a ≤ tkN s a n ∧ tkN s a n ≤ s.size := by
  cases h1 : tk s a n with
  | false => rw [tkN_no h1]; omega
  | true =>
    rw [tkN_yes h1]
    rcases Nat.lt_or_ge a s.size with h' | h'
    · omega
    · rw [tk_ge h'] at h1; cases h1
theorem nmN_le {s : ByteArray} {a : Nat} (h : a ≤ s.size) : a ≤ nmN s a ∧ nmN s a ≤ s.size := by
  cases h1 : nmT s a with
  | false => rw [nmN_no h1]; omega
  | true => rw [nmN_yes h1]; have := (nm_drop h1).2.1; omega

/-- What the reader of a first sign leaves. -/
def HdPost (b : Nat) (s : ByteArray) (a : Nat) (w : World) (e : Ending) (w' : World) : Prop :=
  (∃ h a', e = .returned (.tuple #[Hd.enc h, .bool true]) ∧ RdAt w' b s a' ∧ Only b w w' ∧ a < a' ∧ a' ≤ s.size ∧ E nmL (s.data.toList.drop a) = (E nmL (s.data.toList.drop a')).map fun x => (h.put x.1, x.2)) ∨
  (∃ v, e = .returned (.tuple #[v, .bool false]) ∧ Only b w w' ∧ E nmL (s.data.toList.drop a) = none)
theorem HdPost.yes {b : Nat} {s : ByteArray} {a : Nat} {w : World} {e : Ending} {w' : World} (h : Hd) (a' : Nat) (h1 : e = .returned (.tuple #[h.enc, .bool true])) (h2 : RdAt w' b s a') (h3 : Only b w w') (h4 : a < a') (h5 : a' ≤ s.size)
    (h6 : E nmL (s.data.toList.drop a) = (E nmL (s.data.toList.drop a')).map fun x => (h.put x.1, x.2)) : HdPost b s a w e w' := .inl ⟨h, a', h1, h2, h3, h4, h5, h6⟩
theorem HdPost.no {b : Nat} {s : ByteArray} {a : Nat} {w : World} {e : Ending} {w' : World} (v : Value) (h1 : e = .returned (.tuple #[v, .bool false])) (h3 : Only b w w')
    (h6 : E nmL (s.data.toList.drop a) = none) : HdPost b s a w e w' := .inr ⟨v, h1, h3, h6⟩

theorem Eh_no {s : ByteArray} {a : Nat} (h48 : tk s a 48 = false) (h42 : tk s a 42 = false) (h126 : tk s a 126 = false) (h35 : tk s a 35 = false) (h91 : tk s a 91 = false) (h40 : tk s a 40 = false)
    (hno : nmT s a = true → (tk s (a + 1) 33 = true ∨ tk s (a + 1) 63 = true) → nmT s (a + 2) = true → tk s (a + 3) 46 = true → False) : E nmL (s.data.toList.drop a) = none := by
  rcases Nat.lt_or_ge a s.size with hb | hb
  · rw [drop_at s a hb]
    have k : ∀ (k : UInt8) (n : Int), (k.toNat : Int) = n → tk s a n = false → s[a] ≠ k := fun k n hk h e => tk_not k hk h _ (by rw [drop_at s a hb, e])
    refine E_other nmL_nm (k _ _ rfl h48) (k _ _ rfl h42) (k _ _ rfl h126) (k _ _ rfl h35) (k _ _ rfl h91) (k _ _ rfl h40) fun m x l' e hm hc => ?_
    obtain ⟨b1, e1, e⟩ := drop_cons_lt e
    obtain ⟨b2, e2, e⟩ := drop_cons_lt e
    obtain ⟨b3, e3, e⟩ := drop_cons_lt e
    cases hx : nmL x with
    | false => rfl
    | true =>
      refine (hno (by rw [nmT_lt hb]; exact hc) ?_ (by rw [nmT_lt b2, e2]; exact hx) (by rw [tk_lt b3, e3]; rfl)).elim
      rcases hm with rfl | rfl
      · exact .inl (by rw [tk_lt b1, e1]; rfl)
      · exact .inr (by rw [tk_lt b1, e1]; rfl)
  · rw [List.drop_of_length_le (by simpa using hb)]; exact E_mt nmL_nm
theorem Eh_snd {s : ByteArray} {a : Nat} (h0 : nmT s a = true) (h1 : tk s (a + 1) 33 = true) (h2 : nmT s (a + 2) = true) (h3 : tk s (a + 3) 46 = true) :
    E nmL (s.data.toList.drop a) = (E nmL (s.data.toList.drop (a + 4))).map fun x => ((Hd.snd (nmV s a) (nmV s (a + 2))).put x.1, x.2) := by
  rw [(nm_drop h0).1, (tk_drop 33 rfl h1).1, (nm_drop h2).1, (tk_drop 46 rfl h3).1, E_snd nmL_nm (nm_drop h0).2.2 (nm_drop h2).2.2]; rfl
theorem Eh_rcv {s : ByteArray} {a : Nat} (h0 : nmT s a = true) (h1 : tk s (a + 1) 63 = true) (h2 : nmT s (a + 2) = true) (h3 : tk s (a + 3) 46 = true) :
    E nmL (s.data.toList.drop a) = (E nmL (s.data.toList.drop (a + 4))).map fun x => ((Hd.rcv (nmV s a) (nmV s (a + 2))).put x.1, x.2) := by
  rw [(nm_drop h0).1, (tk_drop 63 rfl h1).1, (nm_drop h2).1, (tk_drop 46 rfl h3).1, E_rcv nmL_nm (nm_drop h0).2.2 (nm_drop h2).2.2]; rfl

set_option maxHeartbeats 2000000 in
theorem transfer_any (b : Nat) (s : ByteArray) (a : Nat) (w : World) (hs : s.size ≤ 300) (ha : a ≤ s.size) (r0 : RdAt w b s a) (h48 : tk s a 48 = false) (h42 : tk s a 42 = false) (h126 : tk s a 126 = false) (h35 : tk s a 35 = false) (h91 : tk s a 91 = false) (h40 : tk s a 40 = false) :
    Calls Tryz.prog 176 #[.pointer (some ⟨b, 0, none⟩)] w (HdPost b s a w) := by
  cases n1 : nmT s a with
  | false =>
    have HE : Hid (E nmL (s.data.toList.drop a) = none) := Eh_no h48 h42 h126 h35 h91 h40 (fun q1 q2 q3 q4 => by simp_all)
    clear h48 h42 h126 h35 h91 h40
    go_enter Tryz.func176, Tryz.ntmps176
    go_wp2_with fail
    refine (name_any b s (a) _ hs (by omega) r0).mono ?_
    rintro e w1 ⟨rfl, r1, o1⟩

    go_wp2_with fail
    go_ret2
    exact HdPost.no _ rfl o1 HE.out
  | true =>
    have a1 := (nm_drop n1).2.1
    cases m1 : tk s (a + 1) 33 with
    | true =>
      have a2 := (tk_drop 33 rfl m1).2
      cases n2 : nmT s (a + 2) with
      | false =>
        have HE : Hid (E nmL (s.data.toList.drop a) = none) := Eh_no h48 h42 h126 h35 h91 h40 (fun q1 q2 q3 q4 => by simp_all)
        clear h48 h42 h126 h35 h91 h40
        go_enter Tryz.func176, Tryz.ntmps176
        go_wp2_with fail
        refine (name_any b s (a) _ hs (by omega) r0).mono ?_
        rintro e w1 ⟨rfl, r1, o1⟩
        rw [nmN_yes n1] at r1
        go_wp2_with fail
        refine (take_any b s (a + 1) 33 _ hs (by omega) r1).mono ?_
        rintro e w2 ⟨rfl, r2, o2⟩
        rw [tkN_yes m1] at r2
        go_wp2_with fail
        refine (name_any b s (a + 2) _ hs (by omega) r2).mono ?_
        rintro e w3 ⟨rfl, r3, o3⟩

        go_wp2_with fail
        go_ret2
        exact HdPost.no _ rfl (((o1).trans o2).trans o3) HE.out
      | true =>
        have a3 := (nm_drop n2).2.1
        cases m2 : tk s (a + 3) 46 with
        | false =>
          have HE : Hid (E nmL (s.data.toList.drop a) = none) := Eh_no h48 h42 h126 h35 h91 h40 (fun q1 q2 q3 q4 => by simp_all)
          clear h48 h42 h126 h35 h91 h40
          go_enter Tryz.func176, Tryz.ntmps176
          go_wp2_with fail
          refine (name_any b s (a) _ hs (by omega) r0).mono ?_
          rintro e w1 ⟨rfl, r1, o1⟩
          rw [nmN_yes n1] at r1
          go_wp2_with fail
          refine (take_any b s (a + 1) 33 _ hs (by omega) r1).mono ?_
          rintro e w2 ⟨rfl, r2, o2⟩
          rw [tkN_yes m1] at r2
          go_wp2_with fail
          refine (name_any b s (a + 2) _ hs (by omega) r2).mono ?_
          rintro e w3 ⟨rfl, r3, o3⟩
          rw [nmN_yes n2] at r3
          go_wp2_with fail
          refine (take_any b s (a + 3) 46 _ hs (by omega) r3).mono ?_
          rintro e w4 ⟨rfl, r4, o4⟩

          go_wp2_with fail
          go_ret2
          exact HdPost.no _ rfl ((((o1).trans o2).trans o3).trans o4) HE.out
        | true =>
          have a4 := (tk_drop 46 rfl m2).2
          have HE : Hid _ := Lib.hid (Eh_snd n1 m1 n2 m2)
          clear h48 h42 h126 h35 h91 h40
          go_enter Tryz.func176, Tryz.ntmps176
          go_wp2_with fail
          refine (name_any b s (a) _ hs (by omega) r0).mono ?_
          rintro e w1 ⟨rfl, r1, o1⟩
          rw [nmN_yes n1] at r1
          go_wp2_with fail
          refine (take_any b s (a + 1) 33 _ hs (by omega) r1).mono ?_
          rintro e w2 ⟨rfl, r2, o2⟩
          rw [tkN_yes m1] at r2
          go_wp2_with fail
          refine (name_any b s (a + 2) _ hs (by omega) r2).mono ?_
          rintro e w3 ⟨rfl, r3, o3⟩
          rw [nmN_yes n2] at r3
          go_wp2_with fail
          refine (take_any b s (a + 3) 46 _ hs (by omega) r3).mono ?_
          rintro e w4 ⟨rfl, r4, o4⟩
          rw [tkN_yes m2] at r4
          go_wp2_with fail
          go_ret2
          exact HdPost.yes (Hd.snd (nmV s a) (nmV s (a + 2))) (a + 4) rfl r4 ((((o1).trans o2).trans o3).trans o4) (by omega) (by omega) HE.out
    | false =>
      have m0 : tk s (a + 1) 33 = false := m1
      clear m1
      cases m1 : tk s (a + 1) 63 with
      | true =>
        have a2 := (tk_drop 63 rfl m1).2
        cases n2 : nmT s (a + 2) with
        | false =>
          have HE : Hid (E nmL (s.data.toList.drop a) = none) := Eh_no h48 h42 h126 h35 h91 h40 (fun q1 q2 q3 q4 => by simp_all)
          clear h48 h42 h126 h35 h91 h40
          go_enter Tryz.func176, Tryz.ntmps176
          go_wp2_with fail
          refine (name_any b s (a) _ hs (by omega) r0).mono ?_
          rintro e w1 ⟨rfl, r1, o1⟩
          rw [nmN_yes n1] at r1
          go_wp2_with fail
          refine (take_any b s (a + 1) 33 _ hs (by omega) r1).mono ?_
          rintro e w2 ⟨rfl, r2, o2⟩
          rw [tkN_no m0] at r2
          go_wp2_with fail
          refine (take_any b s (a + 1) 63 _ hs (by omega) r2).mono ?_
          rintro e w3 ⟨rfl, r3, o3⟩
          rw [tkN_yes m1] at r3
          go_wp2_with fail
          refine (name_any b s (a + 2) _ hs (by omega) r3).mono ?_
          rintro e w4 ⟨rfl, r4, o4⟩

          go_wp2_with fail
          go_ret2
          exact HdPost.no _ rfl ((((o1).trans o2).trans o3).trans o4) HE.out
        | true =>
          have a3 := (nm_drop n2).2.1
          cases m2 : tk s (a + 3) 46 with
          | false =>
            have HE : Hid (E nmL (s.data.toList.drop a) = none) := Eh_no h48 h42 h126 h35 h91 h40 (fun q1 q2 q3 q4 => by simp_all)
            clear h48 h42 h126 h35 h91 h40
            go_enter Tryz.func176, Tryz.ntmps176
            go_wp2_with fail
            refine (name_any b s (a) _ hs (by omega) r0).mono ?_
            rintro e w1 ⟨rfl, r1, o1⟩
            rw [nmN_yes n1] at r1
            go_wp2_with fail
            refine (take_any b s (a + 1) 33 _ hs (by omega) r1).mono ?_
            rintro e w2 ⟨rfl, r2, o2⟩
            rw [tkN_no m0] at r2
            go_wp2_with fail
            refine (take_any b s (a + 1) 63 _ hs (by omega) r2).mono ?_
            rintro e w3 ⟨rfl, r3, o3⟩
            rw [tkN_yes m1] at r3
            go_wp2_with fail
            refine (name_any b s (a + 2) _ hs (by omega) r3).mono ?_
            rintro e w4 ⟨rfl, r4, o4⟩
            rw [nmN_yes n2] at r4
            go_wp2_with fail
            refine (take_any b s (a + 3) 46 _ hs (by omega) r4).mono ?_
            rintro e w5 ⟨rfl, r5, o5⟩

            go_wp2_with fail
            go_ret2
            exact HdPost.no _ rfl (((((o1).trans o2).trans o3).trans o4).trans o5) HE.out
          | true =>
            have a4 := (tk_drop 46 rfl m2).2
            have HE : Hid _ := Lib.hid (Eh_rcv n1 m1 n2 m2)
            clear h48 h42 h126 h35 h91 h40
            go_enter Tryz.func176, Tryz.ntmps176
            go_wp2_with fail
            refine (name_any b s (a) _ hs (by omega) r0).mono ?_
            rintro e w1 ⟨rfl, r1, o1⟩
            rw [nmN_yes n1] at r1
            go_wp2_with fail
            refine (take_any b s (a + 1) 33 _ hs (by omega) r1).mono ?_
            rintro e w2 ⟨rfl, r2, o2⟩
            rw [tkN_no m0] at r2
            go_wp2_with fail
            refine (take_any b s (a + 1) 63 _ hs (by omega) r2).mono ?_
            rintro e w3 ⟨rfl, r3, o3⟩
            rw [tkN_yes m1] at r3
            go_wp2_with fail
            refine (name_any b s (a + 2) _ hs (by omega) r3).mono ?_
            rintro e w4 ⟨rfl, r4, o4⟩
            rw [nmN_yes n2] at r4
            go_wp2_with fail
            refine (take_any b s (a + 3) 46 _ hs (by omega) r4).mono ?_
            rintro e w5 ⟨rfl, r5, o5⟩
            rw [tkN_yes m2] at r5
            go_wp2_with fail
            go_ret2
            exact HdPost.yes (Hd.rcv (nmV s a) (nmV s (a + 2))) (a + 4) rfl r5 (((((o1).trans o2).trans o3).trans o4).trans o5) (by omega) (by omega) HE.out
      | false =>
        have HE : Hid (E nmL (s.data.toList.drop a) = none) := Eh_no h48 h42 h126 h35 h91 h40 (fun q1 q2 q3 q4 => by simp_all)
        clear h48 h42 h126 h35 h91 h40
        go_enter Tryz.func176, Tryz.ntmps176
        go_wp2_with fail
        refine (name_any b s (a) _ hs (by omega) r0).mono ?_
        rintro e w1 ⟨rfl, r1, o1⟩
        rw [nmN_yes n1] at r1
        go_wp2_with fail
        refine (take_any b s (a + 1) 33 _ hs (by omega) r1).mono ?_
        rintro e w2 ⟨rfl, r2, o2⟩
        rw [tkN_no m0] at r2
        go_wp2_with fail
        refine (take_any b s (a + 1) 63 _ hs (by omega) r2).mono ?_
        rintro e w3 ⟨rfl, r3, o3⟩

        go_wp2_with fail
        go_ret2
        exact HdPost.no _ rfl (((o1).trans o2).trans o3) HE.out

end Go.Proofs.YtmfmagfgcdaeeaaGreat.T1
