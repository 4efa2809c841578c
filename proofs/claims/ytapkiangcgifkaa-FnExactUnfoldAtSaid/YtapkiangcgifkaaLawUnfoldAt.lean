/- For every input the law FnExactUnfoldAt returns true, and each text reads behind the call as it read before. No conditions. -/
import Derived.Test.YtapkiangcgifkaaRows
import Derived.Test.YtapkiangcgifkaaPq
import Derived.Test.YtapkiangcgifkaaSa
import Derived.WalkKit
import Derived.ProofKit
import Derived.OpenShut
import Derived.ShutString
import Derived.ChangeOld
import Derived.Below
namespace Go.Proofs.Ytapkiangcgifkaa
namespace LawUnfoldAt
open Go.ChangeShapes Go.WideShapes Go.ChangeAt Go.RowKit Go.Proofs.Ytapkiangcgifkaa.T1
open Go.ChangeMaps (open_string shut_string)
set_option linter.unusedVariables false

theorem own : ownKnob Try.prog.godebug = none := by kernel_rfl
theorem laidOut : laidOutB Try.prog = true := by kernel_rfl
theorem blw {u v w : World} (h : Below u.heap.size u v) (k : Below v.heap.size v w) : Below u.heap.size u w := below_trans h k h.size
set_option maxHeartbeats 1000000 in
theorem s_n1 (s k : ByteArray)  (G1 : ∀ w, Calls Try.prog 6 #[.string s] w fun e w' => e = .returned (.bool false) ∧ Below w.heap.size w w') (w : World) : Calls Try.prog 4 #[.string s, .string k] w fun e w' => e = .returned (.tuple #[.string ⟨#[]⟩, .bool false]) ∧ Below w.heap.size w w' := by
  have G1' := Lib.hid G1
  clear G1
  go_enter Try.func4, Try.ntmps4
  go_wp2_with fail
  refine (G1'.out _).mono ?_
  rintro e w1 ⟨rfl, b1⟩
  go_wp2_with fail
  go_ret2
  exact ⟨rfl, b1⟩
set_option maxHeartbeats 1000000 in
theorem s_n2 (s k : ByteArray)  (G1 : ∀ w, Calls Try.prog 6 #[.string s] w fun e w' => e = .returned (.bool true) ∧ Below w.heap.size w w') (HA : ∀ w, Calls Try.prog 7 #[.string s, .string k] w fun e w' => e = .returned (.tuple #[.string ⟨#[]⟩, .bool false]) ∧ Below w.heap.size w w') (w : World) : Calls Try.prog 4 #[.string s, .string k] w fun e w' => e = .returned (.tuple #[.string ⟨#[]⟩, .bool false]) ∧ Below w.heap.size w w' := by
  have G1' := Lib.hid G1
  have HA' := Lib.hid HA
  clear G1 HA
  go_enter Try.func4, Try.ntmps4
  go_wp2_with fail
  refine (G1'.out _).mono ?_
  rintro e w1 ⟨rfl, b1⟩
  go_wp2_with fail
  refine (HA'.out _).mono ?_
  rintro e w2 ⟨rfl, b2⟩
  have bl2 := blw (b1) b2
  go_wp2_with fail
  go_ret2
  exact ⟨rfl, bl2⟩
set_option maxHeartbeats 1000000 in
theorem s_n3 (s k : ByteArray) (X : ByteArray) (c : Nat) (hc : ((c : Int) == 42) = false) (hc2 : ((c : Int) != 42) = true) (G1 : ∀ w, Calls Try.prog 6 #[.string s] w fun e w' => e = .returned (.bool true) ∧ Below w.heap.size w w') (HA : ∀ w, Calls Try.prog 7 #[.string s, .string k] w fun e w' => e = .returned (.tuple #[.string X, .bool true]) ∧ Below w.heap.size w w') (HK : ∀ w, Calls Try.prog 8 #[.string X] w fun e w' => e = .returned (.int .u8 (c : Int)) ∧ w = w') (w : World) : Calls Try.prog 4 #[.string s, .string k] w fun e w' => e = .returned (.tuple #[.string ⟨#[]⟩, .bool false]) ∧ Below w.heap.size w w' := by
  have G1' := Lib.hid G1
  have HA' := Lib.hid HA
  have HK' := Lib.hid HK
  clear G1 HA HK
  go_enter Try.func4, Try.ntmps4
  go_wp2_with fail
  refine (G1'.out _).mono ?_
  rintro e w1 ⟨rfl, b1⟩
  go_wp2_with fail
  refine (HA'.out _).mono ?_
  rintro e w2 ⟨rfl, b2⟩
  have bl2 := blw (b1) b2
  go_wp2_with fail
  refine (HK'.out _).mono ?_
  rintro e w' ⟨rfl, rfl⟩
  go_wp2_with fail
  go_ret2
  exact ⟨rfl, bl2⟩
set_option maxHeartbeats 1000000 in
theorem s_yes (s k : ByteArray) (X R Y : ByteArray) (y : Bool) (hX : X.size ≤ 300) (hX1 : 1 ≤ X.size) (G1 : ∀ w, Calls Try.prog 6 #[.string s] w fun e w' => e = .returned (.bool true) ∧ Below w.heap.size w w') (HA : ∀ w, Calls Try.prog 7 #[.string s, .string k] w fun e w' => e = .returned (.tuple #[.string X, .bool true]) ∧ Below w.heap.size w w') (HK : ∀ w, Calls Try.prog 8 #[.string X] w fun e w' => e = .returned (.int .u8 42) ∧ w = w') (HP : ∀ w, Calls Try.prog 10 #[.string s, .string k, .string (one 40 ++ X.extract 1 X.size ++ one 38 ++ X ++ one 41)] w fun e w' => e = .returned (.string R) ∧ Below w.heap.size w w') (HI : ∀ w, Calls Try.prog 9 #[.string R] w fun e w' => e = .returned (.tuple #[.string Y, .bool y]) ∧ Below w.heap.size w w') (w : World) : Calls Try.prog 4 #[.string s, .string k] w fun e w' => e = .returned (.tuple #[.string Y, .bool y]) ∧ Below w.heap.size w w' := by
  have G1' := Lib.hid G1
  have HA' := Lib.hid HA
  have HK' := Lib.hid HK
  have HP' := Lib.hid HP
  have HI' := Lib.hid HI
  clear G1 HA HK HP HI
  go_enter Try.func4, Try.ntmps4
  go_wp2_with fail
  refine (G1'.out _).mono ?_
  rintro e w1 ⟨rfl, b1⟩
  go_wp2_with fail
  refine (HA'.out _).mono ?_
  rintro e w2 ⟨rfl, b2⟩
  have bl2 := blw (b1) b2
  go_wp2_with fail
  refine (HK'.out _).mono ?_
  rintro e w' ⟨rfl, rfl⟩
  go_wp2_with fail
  refine (HP'.out _).mono ?_
  rintro e w4 ⟨rfl, b4⟩
  have bl4 := blw (bl2) b4
  go_wp2_with fail
  refine (HI'.out _).mono ?_
  rintro e w5 ⟨rfl, b5⟩
  have bl5 := blw (bl4) b5
  go_wp2_with fail
  go_ret2
  exact ⟨rfl, bl5⟩
set_option maxHeartbeats 1000000 in
theorem i_n1 (s k : ByteArray)  (G1 : ∀ w, Calls Try.prog 11 #[.string s] w fun e w' => e = .returned (.tuple #[.nilIface, .bool false]) ∧ Below w.heap.size w w') (w : World) : Calls Try.prog 5 #[.string s, .string k] w fun e w' => e = .returned (.tuple #[.string ⟨#[]⟩, .bool false]) ∧ Below w.heap.size w w' := by
  have G1' := Lib.hid G1
  clear G1
  go_enter Try.func5, Try.ntmps5
  go_wp2_with fail
  refine (G1'.out _).mono ?_
  rintro e w1 ⟨rfl, b1⟩
  go_wp2_with fail
  go_ret2
  exact ⟨rfl, b1⟩
set_option maxHeartbeats 1000000 in
theorem i_n2 (s k : ByteArray) (T1 : TypeId) (V1 : Value) (G1 : ∀ w, Calls Try.prog 11 #[.string s] w fun e w' => e = .returned (.tuple #[.iface T1 V1, .bool true]) ∧ Below w.heap.size w w') (HA : ∀ w, Calls Try.prog 12 #[.iface T1 V1, .string k] w fun e w' => e = .returned (.tuple #[.nilIface, .bool false]) ∧ Below w.heap.size w w') (w : World) : Calls Try.prog 5 #[.string s, .string k] w fun e w' => e = .returned (.tuple #[.string ⟨#[]⟩, .bool false]) ∧ Below w.heap.size w w' := by
  have G1' := Lib.hid G1
  have HA' := Lib.hid HA
  clear G1 HA
  go_enter Try.func5, Try.ntmps5
  go_wp2_with fail
  refine (G1'.out _).mono ?_
  rintro e w1 ⟨rfl, b1⟩
  go_wp2_with fail
  refine (HA'.out _).mono ?_
  rintro e w2 ⟨rfl, b2⟩
  have bl2 := blw (b1) b2
  go_wp2_with fail
  go_ret2
  exact ⟨rfl, bl2⟩
set_option maxHeartbeats 1000000 in
theorem i_n3 (s k : ByteArray) (T1 T2 : TypeId) (V1 V2 : Value) (G1 : ∀ w, Calls Try.prog 11 #[.string s] w fun e w' => e = .returned (.tuple #[.iface T1 V1, .bool true]) ∧ Below w.heap.size w w') (HA : ∀ w, Calls Try.prog 12 #[.iface T1 V1, .string k] w fun e w' => e = .returned (.tuple #[.iface T2 V2, .bool true]) ∧ Below w.heap.size w w') (HT : ∀ w, (Instr.typeAssert (.iface T2 V2) 30 37 true).run Try.prog w = .ok (.tuple #[.agg #[.nilIface], .bool false]) w) (w : World) : Calls Try.prog 5 #[.string s, .string k] w fun e w' => e = .returned (.tuple #[.string ⟨#[]⟩, .bool false]) ∧ Below w.heap.size w w' := by
  have G1' := Lib.hid G1
  have HA' := Lib.hid HA
  clear G1 HA
  go_enter Try.func5, Try.ntmps5
  go_wp2_with fail
  refine (G1'.out _).mono ?_
  rintro e w1 ⟨rfl, b1⟩
  go_wp2_with fail
  refine (HA'.out _).mono ?_
  rintro e w2 ⟨rfl, b2⟩
  have bl2 := blw (b1) b2
  go_wp2_with fail
  go_ret2
  exact ⟨rfl, bl2.alloc bl2.size _⟩
set_option maxHeartbeats 1000000 in
theorem i_yes (s k : ByteArray) (T1 T3 T4 : TypeId) (V1 V3 V4 : Value) (Y : ByteArray) (y : Bool) (G1 : ∀ w, Calls Try.prog 11 #[.string s] w fun e w' => e = .returned (.tuple #[.iface T1 V1, .bool true]) ∧ Below w.heap.size w w') (HA : ∀ w, Calls Try.prog 12 #[.iface T1 V1, .string k] w fun e w' => e = .returned (.tuple #[.iface 37 (.agg #[.iface T3 V3]), .bool true]) ∧ Below w.heap.size w w') (HR : ∀ w, Calls Try.prog 13 #[.iface T1 V1, .string k, .iface 43 (.agg #[.iface T3 V3, .iface 37 (.agg #[.iface T3 V3])])] w fun e w' => e = .returned (.tuple #[.iface T4 V4, .bool true]) ∧ Below w.heap.size w w') (HI : ∀ w, Calls Try.prog 14 #[.iface T4 V4] w fun e w' => e = .returned (.tuple #[.string Y, .bool y]) ∧ Below w.heap.size w w') (w : World) : Calls Try.prog 5 #[.string s, .string k] w fun e w' => e = .returned (.tuple #[.string Y, .bool y]) ∧ Below w.heap.size w w' := by
  have G1' := Lib.hid G1
  have HA' := Lib.hid HA
  have HR' := Lib.hid HR
  have HI' := Lib.hid HI
  clear G1 HA HR HI
  go_enter Try.func5, Try.ntmps5
  go_wp2_with fail
  refine (G1'.out _).mono ?_
  rintro e w1 ⟨rfl, b1⟩
  go_wp2_with fail
  refine (HA'.out _).mono ?_
  rintro e w2 ⟨rfl, b2⟩
  have bl2 := blw (b1) b2
  go_wp2_with fail
  refine (HR'.out _).mono ?_
  rintro e w3 ⟨rfl, b3⟩
  have bl3 := blw (bl2.alloc bl2.size _) b3
  go_wp2_with fail
  refine (HI'.out _).mono ?_
  rintro e w4 ⟨rfl, b4⟩
  have bl4 := blw (bl3) b4
  go_wp2_with fail
  go_ret2
  exact ⟨rfl, bl4⟩

theorem out_if (b : Bool) (X Y : ByteArray) : (if b = true then (.tuple #[.string X, .bool true] : Value) else .tuple #[.string Y, .bool false]) = .tuple #[.string (if b then X else Y), .bool b] := by cases b <;> rfl
theorem putP_len (l : List UInt8) : ∀ (t q r p : Tm), putP t l q = some r → atP t l = some p → r.pr.length + p.pr.length = t.pr.length + q.pr.length ∧ r.size + p.size = t.size + q.size := by
  induction l with
  | nil => intro t q r p h h2; simp [putP] at h; simp [atP] at h2; subst h; subst h2; exact ⟨by omega, by omega⟩
  | cons c l ih =>
    intro t q r p h h2
    simp only [putP] at h
    simp only [atP] at h2
    cases hs : stepN t c.toNat with
    | none => rw [hs] at h; cases h
    | some u =>
      rw [hs] at h h2
      cases hp : putP u l q with
      | none => simp [hp] at h
      | some r' =>
        simp [hp] at h
        subst h
        obtain ⟨h3, h4⟩ := ih u q r' p hp h2
        obtain ⟨h5, h6⟩ := with_len t u r' c.toNat hs
        exact ⟨by omega, by omega⟩
theorem rep_S (x : Tm) : one 40 ++ (S (.rep x)).extract 1 (S (.rep x)).size ++ one 38 ++ S (.rep x) ++ one 41 = S (.par x (.rep x)) := by
  apply S_of
  rw [S_size]
  simp only [ByteArray.data_append, Array.toList_append, S_list, ByteArray.data_extract, Array.toList_extract]
  simp [Tm.pr, one, List.extract_eq_take_drop]
theorem not_rep (p : Tm) (h : ∀ x, p ≠ .rep x) : ∀ w, (Instr.typeAssert (.iface (tyOf p) (pay p)) 30 37 true).run Try.prog w = .ok (.tuple #[.agg #[.nilIface], .bool false]) w := by
  cases p with
  | nil => exact ta_nothing_repeat _
  | snd a b p => exact ta_send_repeat _
  | rcv a b p => exact ta_receive_repeat _
  | tau p => exact ta_silent_repeat _
  | sum p q => exact ta_choice_repeat _
  | par p q => exact ta_beside_repeat _
  | own x p => exact ta_own_repeat _
  | mat a b p => exact ta_match_repeat _
  | rep p => exact absurd rfl (h p)
theorem kind_no (p : Tm) (h : ∀ x, p ≠ .rep x) : (((p.kind.toNat : Nat) : Int) == 42) = false ∧ (((p.kind.toNat : Nat) : Int) != 42) = true := by
  cases p with
  | rep p => exact absurd rfl (h p)
  | _ => exact ⟨rfl, rfl⟩
theorem both (s k : ByteArray) (hm : s.size ≤ 9223372036854775807) (hmk : k.size ≤ 100000000) : ∃ (n : ByteArray) (b : Bool), (∀ w, Calls Try.prog 4 #[.string s, .string k] w fun e w' => e = .returned (.tuple #[.string n, .bool b]) ∧ Below w.heap.size w w') ∧ (∀ w, Calls Try.prog 5 #[.string s, .string k] w fun e w' => e = .returned (.tuple #[.string n, .bool b]) ∧ Below w.heap.size w w') := by
  cases hg : good s.data.toList with
  | none => exact ⟨_, _, s_n1 s k (fun w => tmGood_none hg w hm), i_n1 s k (fun w => parse_none hg w hm)⟩
  | some t =>
    have h1 := fun w => tmGood_some hg w hm
    have h2 := fun w => parse_some hg w hm
    obtain ⟨es, hL, hE, h300, h60⟩ := good_S hg
    have hA := fun w => tmAt_any t hE h300 k hmk w
    have hB := fun w => subtermAt_any t k w
    rw [← es] at hA
    cases ha : atP t k.data.toList with
    | none =>
      rw [ha] at hA hB
      exact ⟨_, _, s_n2 s k h1 (fun w => (hA w).mono fun e w' h => by
        rcases h with ⟨⟨p, h, _⟩ | ⟨_, h⟩, b⟩
        · cases h
        · exact ⟨h, b⟩), i_n2 s k _ _ h2 (fun w => (hB w).mono fun e w' h => by
        rcases h with ⟨⟨p, h, _⟩ | ⟨_, h⟩, b⟩
        · cases h
        · exact ⟨h, b⟩)⟩
    | some p =>
      rw [ha] at hA hB
      have hA' : ∀ w, Calls Try.prog 7 #[.string s, .string k] w fun e w' => e = .returned (.tuple #[.string (S p), .bool true]) ∧ Below w.heap.size w w' := fun w => (hA w).mono fun e w' h => by
        rcases h with ⟨⟨p', h, h'⟩ | ⟨h, _⟩, b⟩
        · cases h; exact ⟨h', b⟩
        · cases h
      have hB' : ∀ w, Calls Try.prog 12 #[.iface (tyOf t) (pay t), .string k] w fun e w' => e = .returned (.tuple #[.iface (tyOf p) (pay p), .bool true]) ∧ Below w.heap.size w w' := fun w => (hB w).mono fun e w' h => by
        rcases h with ⟨⟨p', h, h'⟩ | ⟨h, _⟩, b⟩
        · cases h; exact ⟨h', b⟩
        · cases h
      obtain ⟨q1, q2⟩ := atP_sub _ t p ha
      have hK := tmKind_any p (q1 nmE hE) (by omega)
      by_cases hr : ∃ x, p = .rep x
      · obtain ⟨x, rfl⟩ := hr
        have hxl : x.pr.length + 1 ≤ 300 := by have : (Tm.rep x).pr.length = x.pr.length + 1 := by simp [Tm.pr]
                                               omega
        have hul : (Tm.par x (.rep x)).pr.length = 2 * x.pr.length + 4 := by simp [Tm.pr]; omega
        have hR := fun w => replaceAt_any (.par x (.rep x)) k.data.toList t w
        rw [B_of] at hR
        cases hp : putP t k.data.toList (.par x (.rep x)) with
        | none => have := (putP_none _ t (.par x (.rep x))).1 hp; rw [ha] at this; cases this
        | some r =>
          rw [hp] at hR
          obtain ⟨o1, o2, o3⟩ := putP_ok _ t _ r hp
          obtain ⟨l1, l2⟩ := putP_len _ t _ r _ hp ha
          have hrp : (Tm.rep x).pr.length = x.pr.length + 1 := by simp [Tm.pr]
          have hx1 := q1 nmE hE
          have hx2 := q1 nmL hL
          have hx3 : x.ok nmE = true := hx1
          have hx4 : x.ok nmL = true := hx2
          have hP := fun w => tmPut_any (.par x (.rep x)) (by omega) k.data.toList t r hE h300 hp w
          rw [B_of, ← es, ← rep_S] at hP
          have hI := fun w => tmIf_any r (o1 nmE hE (by simp only [Tm.ok, hx3, Bool.and_self])) (by omega) w
          have hz1 : (Tm.rep x).size = x.size + 1 := rfl
          have hz2 : (Tm.par x (.rep x)).size = x.size + (x.size + 1) + 1 := rfl
          have hz3 := size_le_pr x
          have hX := fun w => processText_any r (by omega) (by omega) w
          refine ⟨if okT r then S r else ⟨#[]⟩, okT r, s_yes s k (S (.rep x)) (S r) _ _ (by rw [S_size]; omega) (by rw [S_size]; omega) h1 hA' hK hP (fun w => by rw [← out_if]; exact hI w),
            i_yes s k _ _ _ _ _ _ _ _ h2 hB' (fun w => (hR w).mono fun e w' h => by
              rcases h with ⟨⟨p', h, h'⟩ | ⟨h, _⟩, b⟩
              · cases h; exact ⟨h', b⟩
              · cases h) (fun w => (hX w).mono fun e w' h => ?_)⟩
          have hrl := o1 nmL hL (by simp only [Tm.ok, hx4, Bool.and_self])
          rcases h with ⟨⟨g1, g2, rfl⟩ | ⟨g, rfl⟩, b⟩
          · have : okT r = true := (okT_iff r).2 ⟨hrl, g1, g2⟩
            rw [this]; exact ⟨rfl, b⟩
          · have : okT r = false := by
              cases h : okT r with
              | false => rfl
              | true => exact absurd ((okT_iff r).1 h).2 g
            rw [this]; exact ⟨rfl, b⟩
      · have hr' : ∀ x, p ≠ .rep x := fun x e => hr ⟨x, e⟩
        obtain ⟨k1, k2⟩ := kind_no p hr'
        exact ⟨_, _, s_n3 s k (S p) p.kind.toNat k1 k2 h1 hA' hK, i_n3 s k _ _ _ _ h2 hB' (not_rep p hr')⟩
set_option maxHeartbeats 1000000 in
theorem walk (a0 a1 : ByteArray) (w0 : a0.size ≤ maxLen) (w1 : a1.size ≤ maxLen) (w : World) : Calls Try.prog 3 #[.string a0, .string a1] w fun e w' => e = .returned (.bool true) ∧ Below w.heap.size w w' := by
  unfold maxLen at w0 w1
  by_cases hl : 1048576 < a0.size
  · go_enter Try.func3, Try.ntmps3
    go_wp2_with fail
    go_ret
    exact ⟨rfl, Below.refl _ _⟩
  · by_cases hl2 : 1048576 < a1.size
    · go_enter Try.func3, Try.ntmps3
      go_wp2_with fail
      go_ret
      exact ⟨rfl, Below.refl _ _⟩
    · obtain ⟨n, b, hs, hi⟩ := both a0 a1 w0 (by omega)
      have H1 := Lib.hid hs
      have H2 := Lib.hid hi
      clear hs hi
      go_enter Try.func3, Try.ntmps3
      go_wp2_with fail
      refine (H1.out _).mono ?_
      rintro e w2 ⟨rfl, b1⟩
      go_wp2_with fail
      refine (H2.out _).mono ?_
      rintro e w3 ⟨rfl, b2⟩
      go_wp2_with fail
      go_ret
      exact ⟨rfl, below_trans b1 b2 b1.size⟩


set_option maxRecDepth 100000 in
theorem lifted (os : Os) (started : os.Started) (H : Type) (enc : TypeId × Value → H) :
    ReturnsInHanded {} Try.checked os 3 .any (Rows.fnExactUnfoldAtSpec.pre6 enc Try.prog Try.f3 Rows.fnExactUnfoldAtRow.domain false) (Rows.fnExactUnfoldAtSpec.post enc Try.prog Try.f3 false true false false) := by
  refine returnsInHanded_of_change (C := Try.checked) own started (by kernel_rfl) Try.func3
    (ChangeSpec.witness6 (enc := enc) (C := Try.checked) false ⟨#[], #[.string ByteArray.empty, .string ByteArray.empty], []⟩ 8 (by kernel_rfl) (by kernel_rfl) (by kernel_rfl) (by kernel_rfl)) ?_
  intro W base args ds gs before hval0 hW hcnd _
  have hval : ∀ (j : Nat) t v, Try.f3.params[j]? = some t → args[j]? = some v → Value.okWide Try.prog W .any base t v := hval0
  have hW' := hW
  obtain ⟨p, q, hA0, hV, rfl, hfz, hnd⟩ := hW
  have hA : DataW.TrodAll enc Try.prog W 0 (fun _ => true) true Try.f3.params.toList args.toList ds p := hA0
  rw [Try.params3] at hA hval
  obtain ⟨v0, vs0, d0, ds0, p0, q0, hargs, rfl, rfl, h0, r0⟩ := trodAll_cons hA
  obtain ⟨v1, vs1, d1, ds1, p1, q1, rfl, rfl, rfl, h1, r1⟩ := trodAll_cons r0
  obtain ⟨rfl, rfl, rfl⟩ := trodAll_nil r1
  obtain rfl : args = #[v0, v1] := by cases args; simp_all
  obtain ⟨rfl, rfl⟩ := trodVars_none hV
  obtain ⟨a0, rfl, rfl, rfl, w0⟩ := open_string Try.underlying9 (hval 0 9 v0 rfl rfl) h0
  obtain ⟨a1, rfl, rfl, rfl, w1⟩ := open_string Try.underlying9 (hval 1 9 v1 rfl rfl) h1
  clear hA0 hval0
  simp only [List.append_nil] at hW'
  refine (walk a0 a1 w0 w1 W).mono fun e W' ⟨he, bel⟩ => ?_
  subst he
  exact ⟨_, rfl, _, _, _, [], [], [], hW', trodAll_mk1 (shut_bool Try.underlying4 _), (trodAll_cons_mk (shut_string Try.underlying9 w0) (trodAll_cons_mk (shut_string Try.underlying9 w1) trodAll_mk0)), rfl, bel.frame _, fun h => by cases h⟩

theorem over : Rows.fnExactUnfoldAtRow.holds Try.pinned (OpenSpec.ofChange Rows.fnExactUnfoldAtSpec) :=
  OpenClaim.holds_of_wide 3 Try.f3 rfl rfl rfl rfl rfl rfl rfl ⟨rfl, rfl, rfl, rfl, rfl⟩ rfl rfl rfl rfl rfl (by kernel_rfl) Try.func3 (by kernel_rfl)
    (of_decide_eq_true (by kernel_rfl)) (by unfold Func.isWrapper; first | (rw [if_pos (by decide +kernel)]; kernel_rfl) | (rw [if_neg (by decide +kernel)]; exact ⟨rfl, rfl⟩))
    (fun os started H enc _ => lifted os started H enc)
end LawUnfoldAt

theorem fnExactUnfoldAt_holds : Rows.FnExactUnfoldAtSaid := LawUnfoldAt.over
#print axioms fnExactUnfoldAt_holds
end Go.Proofs.Ytapkiangcgifkaa
