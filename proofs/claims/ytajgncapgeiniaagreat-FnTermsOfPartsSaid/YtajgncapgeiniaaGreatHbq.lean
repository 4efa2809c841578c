/- Texts of the proof, put together: Gp, Gx. No conditions. -/
import Derived.Test.YtajgncapgeiniaaGreatHbf
import Derived.Test.YtajgncapgeiniaaGreatHbp
import Derived.Deep.CutRange
import Derived.Deep.DeepCutAuto
import Derived.Deep.LoopGhost

/- Signs and parts of terms: plain facts for the law of terms. No conditions. -/
namespace Go.Proofs.YtajgncapgeiniaaGreat.T1
open Go.RowKit
set_option linter.unusedVariables false
set_option linter.unusedSimpArgs false
theorem ptT_len (o : Option Tm) : (ptT o).length ≤ 2 := by
  cases o with
  | none => simp [ptT]
  | some t => rcases parts_cases t with h | ⟨p, h⟩ | ⟨p, q, h⟩ <;> simp [ptT, h]
theorem part_good {t q : Tm} (h : q ∈ t.parts) (h1 : t.ok nmL = true) (h2 : t.pr.length ≤ 300) (h3 : t.size ≤ 60) : q.ok nmL = true ∧ q.pr.length ≤ 300 ∧ q.size ≤ 60 := by
  cases t <;> simp [Tm.parts] at h <;> simp [Tm.ok] at h1 <;> simp [Tm.pr] at h2 <;> simp [Tm.size] at h3 <;> grind
theorem good_is {t : Tm} (h1 : t.ok nmL = true) (h2 : t.pr.length ≤ 300) (h3 : t.size ≤ 60) : good (S t).data.toList = some t := by
  have : (S t).data.toList = t.pr := by simp [S]
  rw [this]; exact good_of h1 h2 h3
/-- What the loop over the parts has found behind i of them. -/
def sgs (l : List Tm) : Nat := 1 + (l.map Tm.size).sum
def dps (l : List Tm) : Nat := l.foldl (fun d t => max d t.depth) 0
theorem sgs_parts (t : Tm) : sgs t.parts = t.size := by cases t <;> simp [sgs, Tm.parts, Tm.size] <;> omega
theorem dps_parts (t : Tm) : dps t.parts + 1 = t.depth := by cases t <;> simp [dps, Tm.parts, Tm.depth]
theorem sgs_snoc (l : List Tm) (t : Tm) : sgs (l ++ [t]) = sgs l + t.size := by simp [sgs]; omega
theorem dps_snoc (l : List Tm) (t : Tm) : dps (l ++ [t]) = max (dps l) t.depth := by simp [dps]
theorem sgs_le (t : Tm) (i : Nat) : sgs (t.parts.take i) ≤ t.size := by
  rw [← sgs_parts]
  rcases parts_cases t with h | ⟨p, h⟩ | ⟨p, q, h⟩ <;> rw [h] <;> rcases i with _ | _ | _ | i <;> simp [sgs] <;> omega
theorem at_part (t : Tm) (i : Nat) (h : i < t.parts.length) : atP t [UInt8.ofNat (48 + i)] = some t.parts[i] := by
  rcases parts_cases t with h1 | ⟨p, h1⟩ | ⟨p, q, h1⟩
  · rw [h1] at h; simp at h
  · have hi : i = 0 := by rw [h1] at h; simpa using h
    subst hi
    simp only [atP]
    have : stepN t (UInt8.ofNat (48 + 0)).toNat = some t.parts[0] := by unfold stepN; simp [h1]
    rw [this]
  · have hi : i = 0 ∨ i = 1 := by rw [h1] at h; simp at h; omega
    rcases hi with rfl | rfl
    · simp only [atP]
      have : stepN t (UInt8.ofNat (48 + 0)).toNat = some t.parts[0] := by unfold stepN; simp [h1]
      rw [this]
    · simp only [atP]
      have : stepN t (UInt8.ofNat (48 + 1)).toNat = some t.parts[1] := by unfold stepN; simp [h1]
      rw [this]
/-! ### the kinds -/
def kds : List UInt8 := [48, 33, 63, 126, 43, 38, 35, 61, 42]
def cnt (t : Tm) (n : Nat) : Nat := ((kds.take n).map fun c => t.subs.countP (isK c)).sum
theorem subs_all (t : Tm) : t.subs.length = t.size := by induction t <;> simp_all [Tm.subs, Tm.size] <;> omega
theorem one_kind (t : Tm) : ((kds.map fun c => if isK c t then 1 else 0).sum : Nat) = 1 := by cases t <;> rfl
theorem cnt_list (l : List Tm) : ((kds.map fun c => l.countP (isK c)).sum : Nat) = l.length := by
  induction l with
  | nil => rfl
  | cons t l ih =>
    have h := one_kind t
    simp only [kds, List.map_cons, List.map_nil, List.sum_cons, List.sum_nil, List.countP_cons, List.length_cons] at *
    omega
theorem cnt_all (t : Tm) : cnt t 9 = t.size := by
  rw [← subs_all, ← cnt_list]; rfl
theorem cnt_most (t : Tm) (n : Nat) : cnt t n ≤ t.size := by
  rw [← cnt_all]
  have h : cnt t 9 = cnt t n + ((kds.drop n).map fun c => t.subs.countP (isK c)).sum := by
    unfold cnt
    rw [← List.sum_append, ← List.map_append, List.take_append_drop]; rfl
  omega
theorem cnt_succ (t : Tm) (n : Nat) (h : n < 9) : cnt t (n + 1) = cnt t n + t.subs.countP (isK (kds[n]'h)) := by
  unfold cnt
  rw [List.take_succ_eq_append_getElem h]
  simp
theorem cn_kind (t : Tm) (n : Nat) (h : n < 9) : cnT (some t) (one (kds[n]'h)) = some (t.subs.countP (isK (kds[n]'h))) := by
  have h9 : isK9 (one (kds[n]'h)) = true := by
    have : ∀ i (hi : i < 9), isK9 (one (kds[i]'hi)) = true := by decide +kernel
    exact this n h
  unfold cnT
  simp only [Option.bind_some, h9, if_true]
  rfl
/-! ### simple, guarded, finite -/
theorem cnt0 {x t : Tm} {l : List Tm} (h : (x :: l).countP (isK 42) = 0) : l.countP (isK 42) = 0 := by
  rw [List.countP_cons] at h; omega
theorem inp_of (t : Tm) (h : t.subs.countP (isK 42) = 0) : t.inp = true := by
  induction t with
  | nil => rfl
  | snd a b p ih => exact ih (cnt0 (t := p) h)
  | rcv a b p ih => exact ih (cnt0 (t := p) h)
  | tau p ih => exact ih (cnt0 (t := p) h)
  | own x p ih => exact ih (cnt0 (t := p) h)
  | mat a b p ih => exact ih (cnt0 (t := p) h)
  | rep p ih =>
    rw [Tm.subs, List.countP_cons_of_pos (by rfl)] at h
    omega
  | sum p q ih ih2 =>
    have h := cnt0 (t := p) h
    rw [List.countP_append] at h; simp only [Tm.inp, Bool.and_eq_true]; exact ⟨ih (by omega), ih2 (by omega)⟩
  | par p q ih ih2 =>
    have h := cnt0 (t := p) h
    rw [List.countP_append] at h; simp only [Tm.inp, Bool.and_eq_true]; exact ⟨ih (by omega), ih2 (by omega)⟩
theorem law_end (o : Option Tm) : ((!(smT o) || gdT o) && (!(gdT o) || !(fnT o) || smT o)) = true := by
  cases o with
  | none => rfl
  | some t =>
    have h := inp_of t
    simp only [smT, gdT, fnT]
    cases hi : t.inp with
    | true => cases t.grd <;> cases (((t.subs.countP (isK 42) : Nat) : Int) == 0) <;> rfl
    | false =>
      have e : (((t.subs.countP (isK 42) : Nat) : Int) == 0) = false := by
        cases hc : (((t.subs.countP (isK 42) : Nat) : Int) == 0) with
        | false => rfl
        | true =>
          have h2 := eq_of_beq hc
          have := h (by omega)
          rw [hi] at this; cases this
      rw [e]; cases t.grd <;> rfl
/-! ### put back -/
theorem with_self (t p : Tm) (c : Nat) (h : stepN t c = some p) : t.withP (c - 48) p = t := by
  rcases step_cases t p c h with ⟨h1, rfl⟩ | ⟨q, h1, rfl⟩ | ⟨q, h1, rfl⟩ <;> cases t <;> simp [Tm.parts] at h1 <;> simp [Tm.withP, h1]
theorem step_with (t p r : Tm) (c : Nat) (h : stepN t c = some p) : stepN (t.withP (c - 48) r) c = some r := by
  rcases step_cases t p c h with ⟨h1, rfl⟩ | ⟨q, h1, rfl⟩ | ⟨q, h1, rfl⟩ <;> cases t <;> simp [Tm.parts] at h1 <;> simp [Tm.withP, stepN, Tm.parts]
theorem put_same (l : List UInt8) : ∀ (t a : Tm), atP t l = some a → putP t l a = some t := by
  induction l with
  | nil => intro t a h; simp only [atP, Option.some.injEq] at h; subst h; rfl
  | cons c l ih =>
    intro t a h
    simp only [atP] at h
    cases hs : stepN t c.toNat with
    | none => rw [hs] at h; cases h
    | some p =>
      rw [hs] at h
      have := ih p a h
      simp only [putP, hs, this, Option.map_some, with_self t p _ hs]
theorem put_at (l : List UInt8) : ∀ (t u r : Tm), putP t l u = some r → atP r l = some u := by
  induction l with
  | nil => intro t u r h; simp only [putP, Option.some.injEq] at h; subst h; rfl
  | cons c l ih =>
    intro t u r h
    simp only [putP] at h
    cases hs : stepN t c.toNat with
    | none => rw [hs] at h; cases h
    | some p =>
      rw [hs] at h
      simp only [Option.map_eq_some_iff] at h
      obtain ⟨x, h1, rfl⟩ := h
      simp only [atP, step_with t p x _ hs]
      exact ih p u x h1
/-- What ReplaceAt answers. -/
def putT (o : Option Tm) (k : List UInt8) (q : Option Tm) : Option Tm := o.bind fun t => q.bind fun u => (putP t k u).bind fun r => if okT r then some r else none
theorem two_put (s k q : ByteArray) (hm : s.size ≤ 9223372036854775807) (hmk : k.size ≤ 100000000) (hmq : q.size ≤ 9223372036854775807) : Two 25 23 #[.string s, .string k, .string q] (.tuple #[.string (txt (putT (good s.data.toList) k.data.toList (good q.data.toList))), .bool (putT (good s.data.toList) k.data.toList (good q.data.toList)).isSome]) := by
  open LawReplaceAt in
  cases hg : good s.data.toList with
  | none =>
    have h1 := fun w => tmGood_none hg w hm
    have h2 := fun w => parse_none hg w hm
    cases hg2 : good q.data.toList with
    | none => exact ⟨s_n1 s k q h1, i_n1 s k q h2 (fun w => parse_none hg2 w hmq)⟩
    | some u => exact ⟨s_n1 s k q h1, i_n1b s k q _ _ h2 (fun w => parse_some hg2 w hmq)⟩
  | some t =>
    have h1 := fun w => tmGood_some hg w hm
    have h2 := fun w => parse_some hg w hm
    cases hg2 : good q.data.toList with
    | none => exact ⟨s_n2 s k q h1 (fun w => tmGood_none hg2 w hmq), i_n2 s k q _ _ h2 (fun w => parse_none hg2 w hmq)⟩
    | some u =>
      have h3 := fun w => tmGood_some hg2 w hmq
      have h4 := fun w => parse_some hg2 w hmq
      obtain ⟨es, hL, hE, h300, h60⟩ := good_S hg
      obtain ⟨eq, hL2, hE2, h3002, h602⟩ := good_S hg2
      have hA := fun w => tmAt_any t hE (by omega) k hmk w
      have hR := fun w => replaceAt_any u k.data.toList t w
      rw [B_of] at hR
      rw [← es] at hA
      show Two _ _ _ (.tuple #[.string (txt ((putP t k.data.toList u).bind fun r => if okT r then some r else none)), .bool ((putP t k.data.toList u).bind fun r => if okT r then some r else none).isSome])
      cases hp : putP t k.data.toList u with
      | none =>
        have ha := (putP_none _ t u).1 hp
        rw [ha] at hA
        rw [hp] at hR
        exact ⟨s_n3 s k q h1 h3 (fun w => (hA w).mono fun e w' h => by
          rcases h with ⟨⟨p, h, _⟩ | ⟨_, h⟩, b⟩
          · cases h
          · exact ⟨h, b⟩), i_n3 s k q _ _ _ _ h2 h4 (fun w => (hR w).mono fun e w' h => by
          rcases h with ⟨⟨p, h, _⟩ | ⟨_, h⟩, b⟩
          · cases h
          · exact ⟨h, b⟩)⟩
      | some r =>
        rw [hp] at hR
        obtain ⟨p, ha⟩ : ∃ p, atP t k.data.toList = some p := by
          cases ha : atP t k.data.toList with
          | none => have := (putP_none _ t u).2 ha; rw [hp] at this; cases this
          | some p => exact ⟨p, rfl⟩
        rw [ha] at hA
        obtain ⟨o1, o2, o3⟩ := putP_ok _ t u r hp
        have hP := fun w => tmPut_any u (by omega) k.data.toList t r hE (by omega) hp w
        rw [B_of, ← es, ← eq] at hP
        have hI := fun w => tmIf_any r (o1 nmE hE hE2) (by omega) w
        have hX := fun w => processText_any r (by omega) (by omega) w
        have hv : (.tuple #[.string (txt (Option.bind (some r) fun r => if okT r then some r else none)), .bool (Option.bind (some r) fun r => if okT r then some r else none).isSome] : Value) = .tuple #[.string (if okT r then S r else ⟨#[]⟩), .bool (okT r)] := by
          show (.tuple #[.string (txt (if okT r then some r else none)), .bool (if okT r then some r else none).isSome] : Value) = _
          cases okT r <;> rfl
        rw [hv]
        refine ⟨s_yes s k q (S p) (S r) _ _ h1 h3 (fun w => (hA w).mono fun e w' h => by
          rcases h with ⟨⟨p', h, h'⟩ | ⟨h, _⟩, b⟩
          · cases h; exact ⟨h', b⟩
          · cases h) hP (fun w => by rw [← out_if]; exact hI w), i_yes s k q _ _ _ _ _ _ _ _ h2 h4 (fun w => (hR w).mono fun e w' h => by
          rcases h with ⟨⟨p', h, h'⟩ | ⟨h, _⟩, b⟩
          · cases h; exact ⟨h', b⟩
          · cases h) (fun w => (hX w).mono fun e w' h => ?_)⟩
        have hrl := o1 nmL hL hL2
        rcases h with ⟨⟨g1, g2, rfl⟩ | ⟨g, rfl⟩, b⟩
        · have : okT r = true := (okT_iff r).2 ⟨hrl, g1, g2⟩
          rw [this]; exact ⟨rfl, b⟩
        · have : okT r = false := by
            cases h : okT r with
            | false => rfl
            | true => exact absurd ((okT_iff r).1 h).2 g
          rw [this]; exact ⟨rfl, b⟩
theorem sub_good (l : List UInt8) : ∀ (t a : Tm), atP t l = some a → t.ok nmL = true → t.pr.length ≤ 300 → t.size ≤ 60 → a.ok nmL = true ∧ a.pr.length ≤ 300 ∧ a.size ≤ 60 := by
  induction l with
  | nil => intro t a h a1 a2 a3; simp only [atP, Option.some.injEq] at h; subst h; exact ⟨a1, a2, a3⟩
  | cons c l ih =>
    intro t a h a1 a2 a3
    simp only [atP] at h
    cases hs : stepN t c.toNat with
    | none => rw [hs] at h; cases h
    | some p =>
      rw [hs] at h
      have hm : p ∈ t.parts := by
        rcases step_cases t p _ hs with ⟨h, _⟩ | ⟨q, h, _⟩ | ⟨q, h, _⟩ <;> rw [h] <;> simp
      obtain ⟨b1, b2, b3⟩ := part_good hm a1 a2 a3
      exact ih p a h b1 b2 b3
theorem S_bytes (t : Tm) : (S t).size = t.pr.length := by unfold S; simp [ByteArray.size]
theorem at_small (s k : ByteArray) : (txt (atT (good s.data.toList) k.data.toList)).size ≤ 300 := by
  cases hg : good s.data.toList with
  | none => exact Nat.zero_le _
  | some t =>
    obtain ⟨es, hL, hE, h300, h60⟩ := good_S hg
    cases ha : atP t k.data.toList with
    | none => show (txt (atP t k.data.toList)).size ≤ 300; rw [ha]; exact Nat.zero_le _
    | some a =>
      show (txt (atP t k.data.toList)).size ≤ 300
      rw [ha]
      show (S a).size ≤ 300
      rw [S_bytes]
      exact (sub_good _ t a ha hL h300 h60).2.1
theorem put_small (o q : Option Tm) (k : List UInt8) : (txt (putT o k q)).size ≤ 300 := by
  cases o with
  | none => exact Nat.zero_le _
  | some t =>
    cases q with
    | none => exact Nat.zero_le _
    | some u =>
      show (txt ((putP t k u).bind fun r => if okT r then some r else none)).size ≤ 300
      cases putP t k u with
      | none => exact Nat.zero_le _
      | some r =>
        show (txt (if okT r then some r else none)).size ≤ 300
        cases hk : okT r with
        | false => exact Nat.zero_le _
        | true =>
          show (S r).size ≤ 300
          rw [S_bytes]
          exact ((okT_iff r).1 hk).2.1
/-- A part put where it was: nothing turns. -/
theorem put_back (s k : ByteArray) (a : Tm) (h : atT (good s.data.toList) k.data.toList = some a) : txt (putT (good s.data.toList) k.data.toList (good (S a).data.toList)) = s ∧ (putT (good s.data.toList) k.data.toList (good (S a).data.toList)).isSome = true := by
  cases hg : good s.data.toList with
  | none => rw [hg] at h; cases h
  | some t =>
    rw [hg] at h
    have h1 : atP t k.data.toList = some a := h
    obtain ⟨es, hL, hE, h300, h60⟩ := good_S hg
    obtain ⟨b1, b2, b3⟩ := sub_good _ t a h1 hL h300 h60
    rw [good_is b1 b2 b3]
    have h2 := put_same _ t a h1
    have hk : okT t = true := (okT_iff t).2 ⟨hL, h300, h60⟩
    have : putT (some t) k.data.toList (some a) = some t := by
      show ((putP t k.data.toList a).bind fun r => if okT r then some r else none) = _
      rw [h2]; simp [hk]
    rw [this]
    exact ⟨es.symm, rfl⟩
/-- What is put stands there. -/
theorem put_there (s k q : ByteArray) (h : (putT (good s.data.toList) k.data.toList (good q.data.toList)).isSome = true) : txt (atT (good (txt (putT (good s.data.toList) k.data.toList (good q.data.toList))).data.toList) k.data.toList) = q ∧ (atT (good (txt (putT (good s.data.toList) k.data.toList (good q.data.toList))).data.toList) k.data.toList).isSome = true := by
  cases hg : good s.data.toList with
  | none => rw [hg] at h; cases h
  | some t =>
    cases hg2 : good q.data.toList with
    | none => rw [hg, hg2] at h; cases h
    | some u =>
      rw [hg, hg2] at h
      obtain ⟨eq, _⟩ := good_S hg2
      cases hp : putP t k.data.toList u with
      | none => simp [putT, hp] at h
      | some r =>
        have e : putT (some t) k.data.toList (some u) = if okT r then some r else none := by simp [putT, hp]
        rw [e] at h ⊢
        cases hk : okT r with
        | false => rw [hk] at h; simp at h
        | true =>
          simp only [if_true]
          obtain ⟨a1, a2, a3⟩ := (okT_iff r).1 hk
          have : good (txt (some r)).data.toList = some r := good_is a1 a2 a3
          rw [this]
          have h2 := put_at _ t u r hp
          have h3 : atT (some r) k.data.toList = some u := h2
          rw [h3]
          exact ⟨eq.symm, rfl⟩
end Go.Proofs.YtajgncapgeiniaaGreat.T1

/- The law of terms and their parts: its last statements. No conditions. -/
namespace Go.Proofs.YtajgncapgeiniaaGreat.T1
open Go.RowKit LawPartsOf
set_option maxRecDepth 100000
set_option linter.unusedVariables false
set_option linter.unusedSimpArgs false

/-- The statements behind the first n. -/
def drp : Nat → Code → Code
  | 0, c => c
  | n + 1, .seq _ b => drp n b
  | _, c => c
noncomputable def bodyT : Code := (Tryz.f3.body).getD .skip
def PostT (w : World) : Ending → World → Prop := fun e w' => e = .returned (.bool true) ∧ Below w.heap.size w w'
set_option maxHeartbeats 20000000 in
theorem segF (a0 : Option Addr) (n0 c0 : Nat) (a1 : Option Addr) (n1 c1 : Nat) (w wc : World) (A0 : Hid (Arg w a0 n0)) (A1 : Hid (Arg w a1 n1)) (hcut : Hid (Below w.heap.size w wc)) (s2 s3 s4 s5 s6 s7 s8 s9 s10 s11 s12 s13 s14 s15 s16 s17 s18 s19 s20 s21 s22 s23 s24 s25 s26 s27 s28 s29 s30 s31 s32 s33 s34 s35 s36 s37 s38 s39 s40 s41 s42 s43 s44 s45 s46 s47 s48 s49 s50 s51 s52 s53 s54 s55 s56 s57 s58 s59 s60 s61 s62 s63 s64 s65 s66 s67 s68 s69 s70 s71 s72 s73 s74 s75 s76 s77 s78 s79 s80 s81 s82 s83 s84 s85 s86 s87 s88 s89 s90 s91 s92 s93 s94 s95 s96 s97 s98 s99 s100 s101 s102 s103 s104 s105 s106 s107 s108 s109 s110 s111 s112 s113 s114 s115 s116 s117 s118 s119 s120 s121 s122 s123 s124 s125 s126 s127 s128 s129 s130 s131 s132 s133 s134 s135 s136 s137 s138 s139 s140 s141 s142 s143 s144 s145 s146 s147 s148 s149 s150 s151 s152 s153 s154 s155 s156 s157 s158 s159 s160 s161 s162 s163 s164 s165 s166 s167 s168 s169 s170 s171 s172 s173 s174 s175 s176 s177 s178 s179 s180 s181 s182 s183 s184 s185 s186 s187 s188 s189 s190 s191 s192 s193 s194 s195 s196 s197 s198 s199 s200 s201 s202 s203 s204 s205 s206 s207 s208 s209 s210 s211 s212 s213 s214 s215 s216 s217 s218 s219 s220 s221 s222 s223 s224 s225 s226 s227 s228 s229 s230 s231 s232 s233 s234 s235 s236 s237 s238 s239 s240 s241 s242 s243 s244 s245 s246 s247 s248 s249 s250 s251 s252 s253 s254 s255 s256 s257 s258 s259 s260 s261 s262 s263 s264 s265 s266 s267 s268 s269 s270 s271 s272 s273 s274 s275 s276 s277 s278 s279 s280 s281 s282 s283 s284 s285 s286 s287 s288 s289 s290 s291 s292 s293 s294 s295 s296 s297 s298 s299 s300 s301 s302 s303 s304 s305 s306 s307 s308 s309 s310 s311 s312 s313 s314 s315 s316 s317 s318 s319 s320 s321 s322 s323 s324 s325 s326 s327 s328 s329 s330 s331 s332 s333 s334 s335 s336 s337 s338 s339 s340 s341 s342 s343 s344 s345 s346 s347 s348 s349 s350 s351 s352 s353 s354 s355 s356 s357 s358 s359 s360 s361 s362 s363 s364 s365 s366 s367 s368 s369 s370 s371 s372 s373 s374 s375 s376 s377 s378 s379 s380 s381 s382 s383 s384 s385 s386 s387 s388 s389 s390 s391 s392 s393 s394 s395 s396 s397 s398 s399 s400 s401 s402 s403 s404 s405 s406 s407 s408 s409 s410 s411 s412 s413 s414 s415 s416 s417 s418 s419 s420 s421 s422 s423 s424 s425 s426 s427 s428 s429 s430 s431 s432 s433 s434 s435 s436 s437 s438 s439 s440 s441 s442 s443 s444 s445 s446 s447 s448 s449 s450 s451 s452 s453 s454 s455 s456 s457 s458 s459 s460 s461 s462 s463 s464 s465 s466 s467 s468 s469 s470 s471 s472 s473 s474 s475 s476 s477 s478 s479 s480 s481 s482 : Value) :
    Code.wp Tryz.prog (drp 23 bodyT) (bodyPost Tryz.prog Tryz.f3 (PostT w)) ⟨#[.slice a0 n0 c0, .slice a1 n1 c1, s2, s3, s4, s5, s6, s7, s8, s9, s10, s11, s12, s13, s14, s15, s16, s17, s18, s19, s20, s21, s22, s23, s24, s25, s26, s27, s28, s29, s30, s31, s32, s33, s34, s35, s36, s37, s38, s39, s40, s41, s42, s43, s44, s45, s46, s47, s48, s49, s50, s51, s52, s53, s54, s55, s56, s57, s58, s59, s60, s61, s62, s63, s64, s65, s66, s67, s68, s69, s70, s71, s72, s73, s74, s75, s76, s77, s78, s79, s80, s81, s82, s83, s84, s85, s86, s87, s88, s89, s90, s91, s92, s93, s94, s95, s96, s97, s98, s99, s100, s101, s102, s103, s104, s105, s106, s107, s108, s109, s110, s111, s112, s113, s114, s115, s116, s117, s118, s119, s120, s121, s122, s123, s124, s125, s126, s127, s128, s129, s130, s131, s132, s133, s134, s135, s136, s137, s138, s139, s140, s141, s142, s143, s144, s145, s146, s147, s148, s149, s150, s151, s152, s153, s154, s155, s156, s157, s158, s159, s160, s161, s162, s163, s164, s165, s166, s167, s168, s169, s170, s171, s172, s173, s174, s175, s176, s177, s178, s179, s180, s181, s182, s183, s184, s185, s186, s187, s188, s189, s190, s191, s192, s193, s194, s195, s196, s197, s198, s199, s200, s201, s202, s203, s204, s205, s206, s207, s208, s209, s210, s211, s212, s213, s214, s215, s216, s217, s218, s219, s220, s221, s222, s223, s224, s225, s226, s227, s228, s229, s230, s231, s232, s233, s234, s235, s236, s237, s238, s239, s240, s241, s242, s243, s244, s245, s246, s247, s248, s249, s250, s251, s252, s253, s254, s255, s256, s257, s258, s259, s260, s261, s262, s263, s264, s265, s266, s267, s268, s269, s270, s271, s272, s273, s274, s275, s276, s277, s278, s279, s280, s281, s282, s283, s284, s285, s286, s287, s288, s289, s290, s291, s292, s293, s294, s295, s296, s297, s298, s299, s300, s301, s302, s303, s304, s305, s306, s307, s308, s309, s310, s311, s312, s313, s314, s315, s316, s317, s318, s319, s320, s321, s322, s323, s324, s325, s326, s327, s328, s329, s330, s331, s332, s333, s334, s335, s336, s337, s338, s339, s340, s341, s342, s343, s344, s345, s346, s347, s348, s349, s350, s351, s352, s353, s354, s355, s356, s357, s358, s359, s360, s361, s362, s363, s364, s365, s366, s367, s368, s369, s370, s371, s372, s373, s374, s375, s376, s377, s378, s379, s380, s381, s382, s383, s384, s385, s386, s387, s388, s389, s390, s391, s392, s393, s394, s395, s396, s397, s398, s399, s400, s401, s402, s403, s404, s405, s406, s407, s408, s409, s410, s411, s412, s413, s414, s415, s416, s417, s418, s419, s420, s421, s422, s423, s424, s425, s426, s427, s428, s429, s430, s431, s432, s433, s434, s435, s436, s437, s438, s439, s440, s441, s442, s443, s444, s445, s446, s447, s448, s449, s450, s451, s452, s453, s454, s455, s456, s457, s458, s459, s460, s461, s462, s463, s464, s465, s466, s467, s468, s469, s470, s471, s472, s473, s474, s475, s476, s477, s478, s479, s480, s481, s482], []⟩ wc := by
  unfold PostT
  conv => arg 2; whnf
  have B0 := Lib.hid (show Below w.heap.size w wc from hcut)
  clear hcut
  go_wp2_with fail
  with_reducible refine (dCountKind_any a1 n1 c1 _ (A1.out.below B0.out)).mono ?_
  rintro e x1 ⟨⟨u, k, rfl, hu, hk⟩, b1⟩
  have B1 := Lib.hid (B0.out.trans (b1.mono B0.out.size))
  clear b1 B0
  have Q := Lib.hid (And.intro (ab_of hu) hk)
  have HC := Lib.hid (two_count u k (by have := Q.out; omega) (by have := Q.out; omega))
  obtain ⟨oc, hoc⟩ : ∃ o, o = cnT (good u.data.toList) k := ⟨_, rfl⟩
  rw [← hoc] at HC
  obtain ⟨cv, hcv⟩ : ∃ c : Int, c = ((oc.getD 0 : Nat) : Int) := ⟨_, rfl⟩
  obtain ⟨b5, hb5⟩ : ∃ b, b = oc.isSome := ⟨_, rfl⟩
  rw [← hcv, ← hb5] at HC
  have CKi := Lib.hid (fun w => HC.out.2 w)
  have CKs := Lib.hid (fun w => HC.out.1 w)
  clear hu hk hoc hcv hb5 HC
  go_wp2_with fail
  with_reducible refine (CKi.out _).mono ?_
  rintro e x2 ⟨rfl, b2⟩
  have B2 := Lib.hid (B1.out.trans (b2.mono B1.out.size))
  clear b2 B1
  go_wp2_with fail
  with_reducible refine (CKs.out _).mono ?_
  rintro e x3 ⟨rfl, b3⟩
  have B3 := Lib.hid (B2.out.trans (b3.mono B2.out.size))
  clear b3 B2
  go_wp2_with fail
  with_reducible refine (dIsSimple_any a0 n0 c0 _ (A0.out.below B3.out)).mono ?_
  rintro e x4 ⟨⟨v, rfl, hv⟩, b4⟩
  have B4 := Lib.hid (B3.out.trans (b4.mono B3.out.size))
  clear b4 B3
  have V := Lib.hid (ab_of hv)
  obtain ⟨ov, hov⟩ : ∃ o, o = good v.data.toList := ⟨_, rfl⟩
  have HSM := Lib.hid (two_simple v (by have := V.out; omega))
  have HGD := Lib.hid (two_guarded v (by have := V.out; omega))
  have HFN := Lib.hid (two_finite v (by have := V.out; omega))
  rw [← hov] at HSM HGD HFN
  have hend := law_end ov
  obtain ⟨sm, hsm⟩ : ∃ b, b = smT ov := ⟨_, rfl⟩
  obtain ⟨gd, hgd⟩ : ∃ b, b = gdT ov := ⟨_, rfl⟩
  obtain ⟨fn, hfn⟩ : ∃ b, b = fnT ov := ⟨_, rfl⟩
  obtain ⟨b6, hb6⟩ : ∃ b, b = ov.isSome := ⟨_, rfl⟩
  rw [← hsm, ← hgd, ← hfn] at hend
  rw [← hsm, ← hb6] at HSM
  rw [← hgd, ← hb6] at HGD
  rw [← hfn, ← hb6] at HFN
  have SMi := Lib.hid (fun w => HSM.out.2 w)
  have SMs := Lib.hid (fun w => HSM.out.1 w)
  have GDi := Lib.hid (fun w => HGD.out.2 w)
  have GDs := Lib.hid (fun w => HGD.out.1 w)
  have FNi := Lib.hid (fun w => HFN.out.2 w)
  have FNs := Lib.hid (fun w => HFN.out.1 w)
  have HEND := Lib.hid hend
  clear hv hov hend hsm hgd hfn hb6 HSM HGD HFN
  go_wp2_with fail
  with_reducible refine (SMi.out _).mono ?_
  rintro e x5 ⟨rfl, b5⟩
  have B5 := Lib.hid (B4.out.trans (b5.mono B4.out.size))
  clear b5 B4
  go_wp2_with fail
  with_reducible refine (SMs.out _).mono ?_
  rintro e x6 ⟨rfl, b6⟩
  have B6 := Lib.hid (B5.out.trans (b6.mono B5.out.size))
  clear b6 B5
  go_wp2_with fail
  with_reducible refine (GDi.out _).mono ?_
  rintro e x7 ⟨rfl, b7⟩
  have B7 := Lib.hid (B6.out.trans (b7.mono B6.out.size))
  clear b7 B6
  go_wp2_with fail
  with_reducible refine (GDs.out _).mono ?_
  rintro e x8 ⟨rfl, b8⟩
  have B8 := Lib.hid (B7.out.trans (b8.mono B7.out.size))
  clear b8 B7
  go_wp2_with fail
  with_reducible refine (FNi.out _).mono ?_
  rintro e x9 ⟨rfl, b9⟩
  have B9 := Lib.hid (B8.out.trans (b9.mono B8.out.size))
  clear b9 B8
  go_wp2_with fail
  with_reducible refine (FNs.out _).mono ?_
  rintro e x10 ⟨rfl, b10⟩
  have B10 := Lib.hid (B9.out.trans (b10.mono B9.out.size))
  clear b10 B9
  cases sm <;> cases gd <;> cases fn <;> first
    | exact absurd HEND.out (by decide)
    | (go_wp2_with fail
       go_ret
       exact ⟨rfl, B10.out⟩)
set_option maxHeartbeats 20000000 in
theorem segEt (a0 : Option Addr) (n0 c0 : Nat) (a1 : Option Addr) (n1 c1 : Nat) (w wc : World) (A0 : Hid (Arg w a0 n0)) (A1 : Hid (Arg w a1 n1)) (hcut : Hid (Below w.heap.size w wc)) (r wy s : ByteArray) (hr : r.size ≤ 1000) (hwy : wy.size ≤ 10) (hs : s.size ≤ 1000) (hb : (putT (good r.data.toList) wy.data.toList (good s.data.toList)).isSome = true) (s2 s3 s4 s5 s6 s7 s8 s9 s10 s11 s12 s13 s14 s15 s16 s17 s18 s19 s20 s21 s22 s23 s24 s25 s26 s27 s28 s29 s30 s31 s32 s33 s34 s35 s36 s37 s38 s39 s40 s41 s42 s43 s44 s45 s46 s47 s48 s49 s53 s54 s55 s56 s57 s58 s59 s60 s61 s62 s63 s64 s65 s66 s67 s68 s69 s70 s71 s72 s73 s74 s75 s76 s77 s78 s79 s80 s81 s82 s83 s84 s85 s86 s87 s88 s89 s90 s91 s92 s93 s94 s95 s96 s97 s98 s99 s100 s101 s102 s103 s104 s105 s106 s107 s108 s109 s110 s111 s112 s113 s114 s115 s116 s117 s118 s119 s120 s121 s122 s123 s124 s125 s126 s127 s128 s129 s130 s131 s132 s133 s134 s135 s136 s137 s138 s139 s140 s141 s142 s143 s144 s145 s146 s147 s148 s149 s150 s151 s152 s153 s154 s155 s156 s157 s158 s159 s160 s161 s162 s163 s164 s165 s166 s167 s168 s169 s170 s171 s172 s173 s174 s175 s176 s177 s178 s179 s180 s181 s182 s183 s184 s185 s186 s187 s188 s189 s190 s191 s192 s193 s194 s195 s196 s197 s198 s199 s200 s201 s202 s203 s204 s205 s206 s207 s208 s209 s210 s211 s212 s213 s214 s215 s216 s217 s218 s219 s220 s221 s222 s223 s224 s225 s226 s227 s228 s229 s230 s231 s232 s233 s234 s235 s236 s237 s238 s239 s240 s241 s242 s243 s244 s245 s246 s247 s248 s249 s250 s251 s252 s253 s254 s255 s256 s257 s258 s259 s260 s261 s262 s263 s264 s265 s266 s267 s268 s269 s270 s271 s272 s273 s274 s275 s276 s277 s278 s279 s280 s281 s282 s283 s284 s285 s286 s287 s288 s289 s290 s291 s292 s293 s294 s295 s296 s297 s298 s299 s300 s301 s302 s303 s304 s305 s306 s307 s308 s309 s310 s311 s312 s313 s314 s315 s316 s317 s318 s319 s320 s321 s322 s323 s324 s325 s326 s327 s328 s329 s330 s331 s332 s333 s334 s335 s336 s337 s338 s339 s340 s341 s342 s343 s344 s345 s346 s347 s348 s349 s350 s351 s352 s353 s354 s355 s356 s357 s358 s359 s360 s361 s362 s363 s364 s365 s366 s367 s368 s369 s370 s371 s372 s373 s374 s375 s376 s377 s378 s379 s380 s381 s382 s383 s384 s385 s386 s387 s388 s389 s390 s391 s392 s393 s394 s395 s396 s397 s398 s399 s400 s401 s402 s403 s404 s405 s406 s407 s408 s409 s410 s411 s412 s413 s414 s415 s416 s417 s418 s419 s420 s421 s422 s423 s424 s425 s426 s427 s428 s429 s430 s431 s432 s433 s434 s435 s436 s437 s438 s439 s440 s441 s442 s443 s444 s445 s446 s447 s448 s449 s450 s451 s452 s453 s454 s455 s456 s457 s458 s459 s460 s461 s462 s463 s464 s465 s466 s467 s468 s469 s470 s471 s472 s473 s474 s475 s476 s477 s478 s479 s480 s481 s482 : Value) :
    Code.wp Tryz.prog (drp 19 bodyT) (bodyPost Tryz.prog Tryz.f3 (PostT w)) ⟨#[.slice a0 n0 c0, .slice a1 n1 c1, s2, s3, s4, s5, s6, s7, s8, s9, s10, s11, s12, s13, s14, s15, s16, s17, s18, s19, s20, s21, s22, s23, s24, s25, s26, s27, s28, s29, s30, s31, s32, s33, s34, s35, s36, s37, s38, s39, s40, s41, s42, s43, s44, s45, s46, s47, s48, s49, .string r, .string wy, .string s, s53, s54, s55, s56, s57, s58, s59, s60, s61, s62, s63, s64, s65, s66, s67, s68, s69, s70, s71, s72, s73, s74, s75, s76, s77, s78, s79, s80, s81, s82, s83, s84, s85, s86, s87, s88, s89, s90, s91, s92, s93, s94, s95, s96, s97, s98, s99, s100, s101, s102, s103, s104, s105, s106, s107, s108, s109, s110, s111, s112, s113, s114, s115, s116, s117, s118, s119, s120, s121, s122, s123, s124, s125, s126, s127, s128, s129, s130, s131, s132, s133, s134, s135, s136, s137, s138, s139, s140, s141, s142, s143, s144, s145, s146, s147, s148, s149, s150, s151, s152, s153, s154, s155, s156, s157, s158, s159, s160, s161, s162, s163, s164, s165, s166, s167, s168, s169, s170, s171, s172, s173, s174, s175, s176, s177, s178, s179, s180, s181, s182, s183, s184, s185, s186, s187, s188, s189, s190, s191, s192, s193, s194, s195, s196, s197, s198, s199, s200, s201, s202, s203, s204, s205, s206, s207, s208, s209, s210, s211, s212, s213, s214, s215, s216, s217, s218, s219, s220, s221, s222, s223, s224, s225, s226, s227, s228, s229, s230, s231, s232, s233, s234, s235, s236, s237, s238, s239, s240, s241, s242, s243, s244, s245, s246, s247, s248, s249, s250, s251, s252, s253, s254, s255, s256, s257, s258, s259, s260, s261, s262, s263, s264, s265, s266, s267, s268, s269, s270, s271, s272, s273, s274, s275, s276, s277, s278, s279, s280, s281, s282, s283, s284, s285, s286, s287, s288, s289, s290, s291, s292, s293, s294, s295, s296, s297, s298, s299, s300, s301, s302, s303, s304, s305, s306, s307, s308, s309, s310, s311, s312, s313, s314, s315, s316, s317, s318, s319, s320, s321, s322, s323, s324, s325, s326, s327, s328, s329, s330, s331, s332, s333, s334, s335, s336, s337, s338, s339, s340, s341, s342, s343, s344, s345, s346, s347, s348, s349, s350, s351, s352, s353, s354, s355, s356, s357, s358, s359, s360, s361, s362, s363, s364, s365, s366, s367, s368, s369, s370, s371, s372, s373, s374, s375, s376, s377, s378, s379, s380, s381, s382, s383, s384, s385, s386, s387, s388, s389, s390, s391, s392, s393, s394, s395, s396, s397, s398, s399, s400, s401, s402, s403, s404, s405, s406, s407, s408, s409, s410, s411, s412, s413, s414, s415, s416, s417, s418, s419, s420, s421, s422, s423, s424, s425, s426, s427, s428, s429, s430, s431, s432, s433, s434, s435, s436, s437, s438, s439, s440, s441, s442, s443, s444, s445, s446, s447, s448, s449, s450, s451, s452, s453, s454, s455, s456, s457, s458, s459, s460, s461, s462, s463, s464, s465, s466, s467, s468, s469, s470, s471, s472, s473, s474, s475, s476, s477, s478, s479, s480, s481, s482], []⟩ wc := by
  unfold PostT
  conv => arg 2; whnf
  have B1 := hcut
  clear hcut
  have Q := Lib.hid (And.intro hr (And.intro hwy hs))
  obtain ⟨op, hop⟩ : ∃ o, o = putT (good r.data.toList) wy.data.toList (good s.data.toList) := ⟨_, rfl⟩
  have HR := Lib.hid (two_put r wy s (by have := Q.out; omega) (by have := Q.out; omega) (by have := Q.out; omega))
  rw [← hop] at HR
  obtain ⟨pu, hpu⟩ : ∃ a, a = txt op := ⟨_, rfl⟩
  obtain ⟨b3, hb3⟩ : ∃ b, b = op.isSome := ⟨_, rfl⟩
  rw [← hop] at hb
  rw [← hpu, ← hb3] at HR
  have PUi := Lib.hid (fun w => HR.out.2 w)
  have PUs := Lib.hid (fun w => HR.out.1 w)
  have hps : pu.size ≤ 9223372036854775807 := by rw [hpu, hop]; exact Nat.le_trans (put_small _ _ _) (by decide)
  have HM := Lib.hid (two_at pu wy hps (by have := Q.out; omega))
  have hth : b3 = true → txt (atT (good pu.data.toList) wy.data.toList) = s ∧ (atT (good pu.data.toList) wy.data.toList).isSome = true := by
    intro h
    rw [hb3, hop] at h
    have := put_there r wy s h
    rw [← hop, ← hpu] at this
    exact this
  obtain ⟨md, hmd⟩ : ∃ a, a = txt (atT (good pu.data.toList) wy.data.toList) := ⟨_, rfl⟩
  obtain ⟨b4, hb4⟩ : ∃ b, b = (atT (good pu.data.toList) wy.data.toList).isSome := ⟨_, rfl⟩
  rw [← hmd, ← hb4] at HM hth
  have MDi := Lib.hid (fun w => HM.out.2 w)
  have hbb3 := bne_self' b3
  have HTH := Lib.hid hth
  have hb3' := hb3
  clear hr hwy hs hop hpu hb3 hmd hb4 hps HR HM hth
  have hb3t : b3 = true := by rw [hb3']; exact hb
  clear hb hb3'
  obtain ⟨hm, hb4⟩ := HTH.out hb3t
  subst hb3t
  subst hm
  subst hb4
  go_wp2_with fail
  with_reducible refine (PUi.out _).mono ?_
  rintro e x2 ⟨rfl, b2⟩
  have B2 := Lib.hid (B1.out.trans (b2.mono B1.out.size))
  clear b2 B1
  go_wp2_with fail
  with_reducible refine (MDi.out _).mono ?_
  rintro e x3 ⟨rfl, b3⟩
  have B3 := Lib.hid (B2.out.trans (b3.mono B2.out.size))
  clear b3 B2
  go_wp2_with fail
  with_reducible refine (PUs.out _).mono ?_
  rintro e x4 ⟨rfl, b4⟩
  have B4 := Lib.hid (B3.out.trans (b4.mono B3.out.size))
  clear b4 B3
  go_upto_if 377 with fail
  go_cut [] (fun wx => Hid (Below w.heap.size w wx))
  case first =>
    go_wp2_with fail
    go_meet
    case rel => exact B4
  case rest =>
    clear B4
    rename_i KK aK
    refine aK _ _ ?_
    exact segF a0 n0 c0 a1 n1 c1 w wc A0 A1 hcut _ _ _ _ _ _ _ _ _ _ _ _ _ _ _ _ _ _ _ _ _ _ _ _ _ _ _ _ _ _ _ _ _ _ _ _ _ _ _ _ _ _ _ _ _ _ _ _ _ _ _ _ _ _ _ _ _ _ _ _ _ _ _ _ _ _ _ _ _ _ _ _ _ _ _ _ _ _ _ _ _ _ _ _ _ _ _ _ _ _ _ _ _ _ _ _ _ _ _ _ _ _ _ _ _ _ _ _ _ _ _ _ _ _ _ _ _ _ _ _ _ _ _ _ _ _ _ _ _ _ _ _ _ _ _ _ _ _ _ _ _ _ _ _ _ _ _ _ _ _ _ _ _ _ _ _ _ _ _ _ _ _ _ _ _ _ _ _ _ _ _ _ _ _ _ _ _ _ _ _ _ _ _ _ _ _ _ _ _ _ _ _ _ _ _ _ _ _ _ _ _ _ _ _ _ _ _ _ _ _ _ _ _ _ _ _ _ _ _ _ _ _ _ _ _ _ _ _ _ _ _ _ _ _ _ _ _ _ _ _ _ _ _ _ _ _ _ _ _ _ _ _ _ _ _ _ _ _ _ _ _ _ _ _ _ _ _ _ _ _ _ _ _ _ _ _ _ _ _ _ _ _ _ _ _ _ _ _ _ _ _ _ _ _ _ _ _ _ _ _ _ _ _ _ _ _ _ _ _ _ _ _ _ _ _ _ _ _ _ _ _ _ _ _ _ _ _ _ _ _ _ _ _ _ _ _ _ _ _ _ _ _ _ _ _ _ _ _ _ _ _ _ _ _ _ _ _ _ _ _ _ _ _ _ _ _ _ _ _ _ _ _ _ _ _ _ _ _ _ _ _ _ _ _ _ _ _ _ _ _ _ _ _ _ _ _ _ _ _ _ _ _ _ _ _ _ _ _ _ _ _ _ _ _ _ _ _ _ _ _ _ _ _ _ _ _ _ _ _ _ _ _ _ _ _ _ _ _ _ _ _ _ _ _ _ _ _ _ _ _ _ _ _ _ _ _ _ _ _ _ _ _ _ _ _ _ _ _ _ _ _ _ _ _ _ _ _ _ _ _ _
set_option maxHeartbeats 20000000 in
theorem segEf (a0 : Option Addr) (n0 c0 : Nat) (a1 : Option Addr) (n1 c1 : Nat) (w wc : World) (A0 : Hid (Arg w a0 n0)) (A1 : Hid (Arg w a1 n1)) (hcut : Hid (Below w.heap.size w wc)) (r wy s : ByteArray) (hr : r.size ≤ 1000) (hwy : wy.size ≤ 10) (hs : s.size ≤ 1000) (hb : (putT (good r.data.toList) wy.data.toList (good s.data.toList)).isSome = false) (s2 s3 s4 s5 s6 s7 s8 s9 s10 s11 s12 s13 s14 s15 s16 s17 s18 s19 s20 s21 s22 s23 s24 s25 s26 s27 s28 s29 s30 s31 s32 s33 s34 s35 s36 s37 s38 s39 s40 s41 s42 s43 s44 s45 s46 s47 s48 s49 s53 s54 s55 s56 s57 s58 s59 s60 s61 s62 s63 s64 s65 s66 s67 s68 s69 s70 s71 s72 s73 s74 s75 s76 s77 s78 s79 s80 s81 s82 s83 s84 s85 s86 s87 s88 s89 s90 s91 s92 s93 s94 s95 s96 s97 s98 s99 s100 s101 s102 s103 s104 s105 s106 s107 s108 s109 s110 s111 s112 s113 s114 s115 s116 s117 s118 s119 s120 s121 s122 s123 s124 s125 s126 s127 s128 s129 s130 s131 s132 s133 s134 s135 s136 s137 s138 s139 s140 s141 s142 s143 s144 s145 s146 s147 s148 s149 s150 s151 s152 s153 s154 s155 s156 s157 s158 s159 s160 s161 s162 s163 s164 s165 s166 s167 s168 s169 s170 s171 s172 s173 s174 s175 s176 s177 s178 s179 s180 s181 s182 s183 s184 s185 s186 s187 s188 s189 s190 s191 s192 s193 s194 s195 s196 s197 s198 s199 s200 s201 s202 s203 s204 s205 s206 s207 s208 s209 s210 s211 s212 s213 s214 s215 s216 s217 s218 s219 s220 s221 s222 s223 s224 s225 s226 s227 s228 s229 s230 s231 s232 s233 s234 s235 s236 s237 s238 s239 s240 s241 s242 s243 s244 s245 s246 s247 s248 s249 s250 s251 s252 s253 s254 s255 s256 s257 s258 s259 s260 s261 s262 s263 s264 s265 s266 s267 s268 s269 s270 s271 s272 s273 s274 s275 s276 s277 s278 s279 s280 s281 s282 s283 s284 s285 s286 s287 s288 s289 s290 s291 s292 s293 s294 s295 s296 s297 s298 s299 s300 s301 s302 s303 s304 s305 s306 s307 s308 s309 s310 s311 s312 s313 s314 s315 s316 s317 s318 s319 s320 s321 s322 s323 s324 s325 s326 s327 s328 s329 s330 s331 s332 s333 s334 s335 s336 s337 s338 s339 s340 s341 s342 s343 s344 s345 s346 s347 s348 s349 s350 s351 s352 s353 s354 s355 s356 s357 s358 s359 s360 s361 s362 s363 s364 s365 s366 s367 s368 s369 s370 s371 s372 s373 s374 s375 s376 s377 s378 s379 s380 s381 s382 s383 s384 s385 s386 s387 s388 s389 s390 s391 s392 s393 s394 s395 s396 s397 s398 s399 s400 s401 s402 s403 s404 s405 s406 s407 s408 s409 s410 s411 s412 s413 s414 s415 s416 s417 s418 s419 s420 s421 s422 s423 s424 s425 s426 s427 s428 s429 s430 s431 s432 s433 s434 s435 s436 s437 s438 s439 s440 s441 s442 s443 s444 s445 s446 s447 s448 s449 s450 s451 s452 s453 s454 s455 s456 s457 s458 s459 s460 s461 s462 s463 s464 s465 s466 s467 s468 s469 s470 s471 s472 s473 s474 s475 s476 s477 s478 s479 s480 s481 s482 : Value) :
    Code.wp Tryz.prog (drp 19 bodyT) (bodyPost Tryz.prog Tryz.f3 (PostT w)) ⟨#[.slice a0 n0 c0, .slice a1 n1 c1, s2, s3, s4, s5, s6, s7, s8, s9, s10, s11, s12, s13, s14, s15, s16, s17, s18, s19, s20, s21, s22, s23, s24, s25, s26, s27, s28, s29, s30, s31, s32, s33, s34, s35, s36, s37, s38, s39, s40, s41, s42, s43, s44, s45, s46, s47, s48, s49, .string r, .string wy, .string s, s53, s54, s55, s56, s57, s58, s59, s60, s61, s62, s63, s64, s65, s66, s67, s68, s69, s70, s71, s72, s73, s74, s75, s76, s77, s78, s79, s80, s81, s82, s83, s84, s85, s86, s87, s88, s89, s90, s91, s92, s93, s94, s95, s96, s97, s98, s99, s100, s101, s102, s103, s104, s105, s106, s107, s108, s109, s110, s111, s112, s113, s114, s115, s116, s117, s118, s119, s120, s121, s122, s123, s124, s125, s126, s127, s128, s129, s130, s131, s132, s133, s134, s135, s136, s137, s138, s139, s140, s141, s142, s143, s144, s145, s146, s147, s148, s149, s150, s151, s152, s153, s154, s155, s156, s157, s158, s159, s160, s161, s162, s163, s164, s165, s166, s167, s168, s169, s170, s171, s172, s173, s174, s175, s176, s177, s178, s179, s180, s181, s182, s183, s184, s185, s186, s187, s188, s189, s190, s191, s192, s193, s194, s195, s196, s197, s198, s199, s200, s201, s202, s203, s204, s205, s206, s207, s208, s209, s210, s211, s212, s213, s214, s215, s216, s217, s218, s219, s220, s221, s222, s223, s224, s225, s226, s227, s228, s229, s230, s231, s232, s233, s234, s235, s236, s237, s238, s239, s240, s241, s242, s243, s244, s245, s246, s247, s248, s249, s250, s251, s252, s253, s254, s255, s256, s257, s258, s259, s260, s261, s262, s263, s264, s265, s266, s267, s268, s269, s270, s271, s272, s273, s274, s275, s276, s277, s278, s279, s280, s281, s282, s283, s284, s285, s286, s287, s288, s289, s290, s291, s292, s293, s294, s295, s296, s297, s298, s299, s300, s301, s302, s303, s304, s305, s306, s307, s308, s309, s310, s311, s312, s313, s314, s315, s316, s317, s318, s319, s320, s321, s322, s323, s324, s325, s326, s327, s328, s329, s330, s331, s332, s333, s334, s335, s336, s337, s338, s339, s340, s341, s342, s343, s344, s345, s346, s347, s348, s349, s350, s351, s352, s353, s354, s355, s356, s357, s358, s359, s360, s361, s362, s363, s364, s365, s366, s367, s368, s369, s370, s371, s372, s373, s374, s375, s376, s377, s378, s379, s380, s381, s382, s383, s384, s385, s386, s387, s388, s389, s390, s391, s392, s393, s394, s395, s396, s397, s398, s399, s400, s401, s402, s403, s404, s405, s406, s407, s408, s409, s410, s411, s412, s413, s414, s415, s416, s417, s418, s419, s420, s421, s422, s423, s424, s425, s426, s427, s428, s429, s430, s431, s432, s433, s434, s435, s436, s437, s438, s439, s440, s441, s442, s443, s444, s445, s446, s447, s448, s449, s450, s451, s452, s453, s454, s455, s456, s457, s458, s459, s460, s461, s462, s463, s464, s465, s466, s467, s468, s469, s470, s471, s472, s473, s474, s475, s476, s477, s478, s479, s480, s481, s482], []⟩ wc := by
  unfold PostT
  conv => arg 2; whnf
  have B1 := hcut
  clear hcut
  have Q := Lib.hid (And.intro hr (And.intro hwy hs))
  obtain ⟨op, hop⟩ : ∃ o, o = putT (good r.data.toList) wy.data.toList (good s.data.toList) := ⟨_, rfl⟩
  have HR := Lib.hid (two_put r wy s (by have := Q.out; omega) (by have := Q.out; omega) (by have := Q.out; omega))
  rw [← hop] at HR
  obtain ⟨pu, hpu⟩ : ∃ a, a = txt op := ⟨_, rfl⟩
  obtain ⟨b3, hb3⟩ : ∃ b, b = op.isSome := ⟨_, rfl⟩
  rw [← hop] at hb
  rw [← hpu, ← hb3] at HR
  have PUi := Lib.hid (fun w => HR.out.2 w)
  have PUs := Lib.hid (fun w => HR.out.1 w)
  have hps : pu.size ≤ 9223372036854775807 := by rw [hpu, hop]; exact Nat.le_trans (put_small _ _ _) (by decide)
  have HM := Lib.hid (two_at pu wy hps (by have := Q.out; omega))
  have hth : b3 = true → txt (atT (good pu.data.toList) wy.data.toList) = s ∧ (atT (good pu.data.toList) wy.data.toList).isSome = true := by
    intro h
    rw [hb3, hop] at h
    have := put_there r wy s h
    rw [← hop, ← hpu] at this
    exact this
  obtain ⟨md, hmd⟩ : ∃ a, a = txt (atT (good pu.data.toList) wy.data.toList) := ⟨_, rfl⟩
  obtain ⟨b4, hb4⟩ : ∃ b, b = (atT (good pu.data.toList) wy.data.toList).isSome := ⟨_, rfl⟩
  rw [← hmd, ← hb4] at HM hth
  have MDi := Lib.hid (fun w => HM.out.2 w)
  have hbb3 := bne_self' b3
  have HTH := Lib.hid hth
  have hb3' := hb3
  clear hr hwy hs hop hpu hb3 hmd hb4 hps HR HM hth
  have hb3t : b3 = false := by rw [hb3']; exact hb
  clear hb hb3'
  subst hb3t
  go_wp2_with fail
  with_reducible refine (PUi.out _).mono ?_
  rintro e x2 ⟨rfl, b2⟩
  have B2 := Lib.hid (B1.out.trans (b2.mono B1.out.size))
  clear b2 B1
  go_wp2_with fail
  with_reducible refine (MDi.out _).mono ?_
  rintro e x3 ⟨rfl, b3⟩
  have B3 := Lib.hid (B2.out.trans (b3.mono B2.out.size))
  clear b3 B2
  go_wp2_with fail
  with_reducible refine (PUs.out _).mono ?_
  rintro e x4 ⟨rfl, b4⟩
  have B4 := Lib.hid (B3.out.trans (b4.mono B3.out.size))
  clear b4 B3
  go_upto_if 377 with fail
  go_cut [] (fun wx => Hid (Below w.heap.size w wx))
  case first =>
    go_wp2_with fail
    go_meet
    case rel => exact B4
  case rest =>
    clear B4
    rename_i KK aK
    refine aK _ _ ?_
    exact segF a0 n0 c0 a1 n1 c1 w wc A0 A1 hcut _ _ _ _ _ _ _ _ _ _ _ _ _ _ _ _ _ _ _ _ _ _ _ _ _ _ _ _ _ _ _ _ _ _ _ _ _ _ _ _ _ _ _ _ _ _ _ _ _ _ _ _ _ _ _ _ _ _ _ _ _ _ _ _ _ _ _ _ _ _ _ _ _ _ _ _ _ _ _ _ _ _ _ _ _ _ _ _ _ _ _ _ _ _ _ _ _ _ _ _ _ _ _ _ _ _ _ _ _ _ _ _ _ _ _ _ _ _ _ _ _ _ _ _ _ _ _ _ _ _ _ _ _ _ _ _ _ _ _ _ _ _ _ _ _ _ _ _ _ _ _ _ _ _ _ _ _ _ _ _ _ _ _ _ _ _ _ _ _ _ _ _ _ _ _ _ _ _ _ _ _ _ _ _ _ _ _ _ _ _ _ _ _ _ _ _ _ _ _ _ _ _ _ _ _ _ _ _ _ _ _ _ _ _ _ _ _ _ _ _ _ _ _ _ _ _ _ _ _ _ _ _ _ _ _ _ _ _ _ _ _ _ _ _ _ _ _ _ _ _ _ _ _ _ _ _ _ _ _ _ _ _ _ _ _ _ _ _ _ _ _ _ _ _ _ _ _ _ _ _ _ _ _ _ _ _ _ _ _ _ _ _ _ _ _ _ _ _ _ _ _ _ _ _ _ _ _ _ _ _ _ _ _ _ _ _ _ _ _ _ _ _ _ _ _ _ _ _ _ _ _ _ _ _ _ _ _ _ _ _ _ _ _ _ _ _ _ _ _ _ _ _ _ _ _ _ _ _ _ _ _ _ _ _ _ _ _ _ _ _ _ _ _ _ _ _ _ _ _ _ _ _ _ _ _ _ _ _ _ _ _ _ _ _ _ _ _ _ _ _ _ _ _ _ _ _ _ _ _ _ _ _ _ _ _ _ _ _ _ _ _ _ _ _ _ _ _ _ _ _ _ _ _ _ _ _ _ _ _ _ _ _ _ _ _ _ _ _ _ _ _ _ _ _ _ _ _ _ _ _ _ _ _ _ _ _ _ _ _ _ _ _ _ _ _ _ _ _ _ _ _
set_option maxHeartbeats 20000000 in
theorem segE (a0 : Option Addr) (n0 c0 : Nat) (a1 : Option Addr) (n1 c1 : Nat) (w wc : World) (A0 : Hid (Arg w a0 n0)) (A1 : Hid (Arg w a1 n1)) (hcut : Hid (Below w.heap.size w wc)) (s2 s3 s4 s5 s6 s7 s8 s9 s10 s11 s12 s13 s14 s15 s16 s17 s18 s19 s20 s21 s22 s23 s24 s25 s26 s27 s28 s29 s30 s31 s32 s33 s34 s35 s36 s37 s38 s39 s40 s41 s42 s43 s44 s45 s46 s47 s48 s49 s50 s51 s52 s53 s54 s55 s56 s57 s58 s59 s60 s61 s62 s63 s64 s65 s66 s67 s68 s69 s70 s71 s72 s73 s74 s75 s76 s77 s78 s79 s80 s81 s82 s83 s84 s85 s86 s87 s88 s89 s90 s91 s92 s93 s94 s95 s96 s97 s98 s99 s100 s101 s102 s103 s104 s105 s106 s107 s108 s109 s110 s111 s112 s113 s114 s115 s116 s117 s118 s119 s120 s121 s122 s123 s124 s125 s126 s127 s128 s129 s130 s131 s132 s133 s134 s135 s136 s137 s138 s139 s140 s141 s142 s143 s144 s145 s146 s147 s148 s149 s150 s151 s152 s153 s154 s155 s156 s157 s158 s159 s160 s161 s162 s163 s164 s165 s166 s167 s168 s169 s170 s171 s172 s173 s174 s175 s176 s177 s178 s179 s180 s181 s182 s183 s184 s185 s186 s187 s188 s189 s190 s191 s192 s193 s194 s195 s196 s197 s198 s199 s200 s201 s202 s203 s204 s205 s206 s207 s208 s209 s210 s211 s212 s213 s214 s215 s216 s217 s218 s219 s220 s221 s222 s223 s224 s225 s226 s227 s228 s229 s230 s231 s232 s233 s234 s235 s236 s237 s238 s239 s240 s241 s242 s243 s244 s245 s246 s247 s248 s249 s250 s251 s252 s253 s254 s255 s256 s257 s258 s259 s260 s261 s262 s263 s264 s265 s266 s267 s268 s269 s270 s271 s272 s273 s274 s275 s276 s277 s278 s279 s280 s281 s282 s283 s284 s285 s286 s287 s288 s289 s290 s291 s292 s293 s294 s295 s296 s297 s298 s299 s300 s301 s302 s303 s304 s305 s306 s307 s308 s309 s310 s311 s312 s313 s314 s315 s316 s317 s318 s319 s320 s321 s322 s323 s324 s325 s326 s327 s328 s329 s330 s331 s332 s333 s334 s335 s336 s337 s338 s339 s340 s341 s342 s343 s344 s345 s346 s347 s348 s349 s350 s351 s352 s353 s354 s355 s356 s357 s358 s359 s360 s361 s362 s363 s364 s365 s366 s367 s368 s369 s370 s371 s372 s373 s374 s375 s376 s377 s378 s379 s380 s381 s382 s383 s384 s385 s386 s387 s388 s389 s390 s391 s392 s393 s394 s395 s396 s397 s398 s399 s400 s401 s402 s403 s404 s405 s406 s407 s408 s409 s410 s411 s412 s413 s414 s415 s416 s417 s418 s419 s420 s421 s422 s423 s424 s425 s426 s427 s428 s429 s430 s431 s432 s433 s434 s435 s436 s437 s438 s439 s440 s441 s442 s443 s444 s445 s446 s447 s448 s449 s450 s451 s452 s453 s454 s455 s456 s457 s458 s459 s460 s461 s462 s463 s464 s465 s466 s467 s468 s469 s470 s471 s472 s473 s474 s475 s476 s477 s478 s479 s480 s481 s482 : Value) :
    Code.wp Tryz.prog (drp 18 bodyT) (bodyPost Tryz.prog Tryz.f3 (PostT w)) ⟨#[.slice a0 n0 c0, .slice a1 n1 c1, s2, s3, s4, s5, s6, s7, s8, s9, s10, s11, s12, s13, s14, s15, s16, s17, s18, s19, s20, s21, s22, s23, s24, s25, s26, s27, s28, s29, s30, s31, s32, s33, s34, s35, s36, s37, s38, s39, s40, s41, s42, s43, s44, s45, s46, s47, s48, s49, s50, s51, s52, s53, s54, s55, s56, s57, s58, s59, s60, s61, s62, s63, s64, s65, s66, s67, s68, s69, s70, s71, s72, s73, s74, s75, s76, s77, s78, s79, s80, s81, s82, s83, s84, s85, s86, s87, s88, s89, s90, s91, s92, s93, s94, s95, s96, s97, s98, s99, s100, s101, s102, s103, s104, s105, s106, s107, s108, s109, s110, s111, s112, s113, s114, s115, s116, s117, s118, s119, s120, s121, s122, s123, s124, s125, s126, s127, s128, s129, s130, s131, s132, s133, s134, s135, s136, s137, s138, s139, s140, s141, s142, s143, s144, s145, s146, s147, s148, s149, s150, s151, s152, s153, s154, s155, s156, s157, s158, s159, s160, s161, s162, s163, s164, s165, s166, s167, s168, s169, s170, s171, s172, s173, s174, s175, s176, s177, s178, s179, s180, s181, s182, s183, s184, s185, s186, s187, s188, s189, s190, s191, s192, s193, s194, s195, s196, s197, s198, s199, s200, s201, s202, s203, s204, s205, s206, s207, s208, s209, s210, s211, s212, s213, s214, s215, s216, s217, s218, s219, s220, s221, s222, s223, s224, s225, s226, s227, s228, s229, s230, s231, s232, s233, s234, s235, s236, s237, s238, s239, s240, s241, s242, s243, s244, s245, s246, s247, s248, s249, s250, s251, s252, s253, s254, s255, s256, s257, s258, s259, s260, s261, s262, s263, s264, s265, s266, s267, s268, s269, s270, s271, s272, s273, s274, s275, s276, s277, s278, s279, s280, s281, s282, s283, s284, s285, s286, s287, s288, s289, s290, s291, s292, s293, s294, s295, s296, s297, s298, s299, s300, s301, s302, s303, s304, s305, s306, s307, s308, s309, s310, s311, s312, s313, s314, s315, s316, s317, s318, s319, s320, s321, s322, s323, s324, s325, s326, s327, s328, s329, s330, s331, s332, s333, s334, s335, s336, s337, s338, s339, s340, s341, s342, s343, s344, s345, s346, s347, s348, s349, s350, s351, s352, s353, s354, s355, s356, s357, s358, s359, s360, s361, s362, s363, s364, s365, s366, s367, s368, s369, s370, s371, s372, s373, s374, s375, s376, s377, s378, s379, s380, s381, s382, s383, s384, s385, s386, s387, s388, s389, s390, s391, s392, s393, s394, s395, s396, s397, s398, s399, s400, s401, s402, s403, s404, s405, s406, s407, s408, s409, s410, s411, s412, s413, s414, s415, s416, s417, s418, s419, s420, s421, s422, s423, s424, s425, s426, s427, s428, s429, s430, s431, s432, s433, s434, s435, s436, s437, s438, s439, s440, s441, s442, s443, s444, s445, s446, s447, s448, s449, s450, s451, s452, s453, s454, s455, s456, s457, s458, s459, s460, s461, s462, s463, s464, s465, s466, s467, s468, s469, s470, s471, s472, s473, s474, s475, s476, s477, s478, s479, s480, s481, s482], []⟩ wc := by
  unfold PostT
  conv => arg 2; whnf
  dsimp only
  go_upto_region 55 with fail
  go_cut [50, 51, 52] (fun s50 s51 s52 wx => ∃ r wy s : ByteArray, s50 = .string r ∧ s51 = .string wy ∧ s52 = .string s ∧ Hid (r.size ≤ 1000 ∧ wy.size ≤ 10 ∧ s.size ≤ 1000) ∧ Hid (Below w.heap.size w wx))
  case first =>
    go_wp2_with fail
    with_reducible refine (dReplaceAt_any a1 n1 c1 _ (A1.out.below hcut.out)).mono ?_
    rintro e x1 ⟨⟨r, wy, s, rfl, hr, hwy, hs⟩, b1⟩
    have Q := Lib.hid (And.intro (ab_of hr) (And.intro hwy (ab_of hs)))
    have B1 := Lib.hid (hcut.out.trans (b1.mono hcut.out.size))
    clear b1 hcut hr hwy hs
    go_wp2_with fail
    go_meet
    case rel => exact ⟨r, wy, s, rfl, rfl, rfl, Q, B1⟩
  case rest =>
    obtain ⟨r, wy, s, rfl, rfl, rfl, Q, hcut⟩ := hcut
    rename_i KK aK
    refine aK _ _ ?_
    cases hb : (putT (good r.data.toList) wy.data.toList (good s.data.toList)).isSome with
    | true => exact segEt a0 n0 c0 a1 n1 c1 w wc A0 A1 hcut r wy s Q.out.1 Q.out.2.1 Q.out.2.2 hb _ _ _ _ _ _ _ _ _ _ _ _ _ _ _ _ _ _ _ _ _ _ _ _ _ _ _ _ _ _ _ _ _ _ _ _ _ _ _ _ _ _ _ _ _ _ _ _ _ _ _ _ _ _ _ _ _ _ _ _ _ _ _ _ _ _ _ _ _ _ _ _ _ _ _ _ _ _ _ _ _ _ _ _ _ _ _ _ _ _ _ _ _ _ _ _ _ _ _ _ _ _ _ _ _ _ _ _ _ _ _ _ _ _ _ _ _ _ _ _ _ _ _ _ _ _ _ _ _ _ _ _ _ _ _ _ _ _ _ _ _ _ _ _ _ _ _ _ _ _ _ _ _ _ _ _ _ _ _ _ _ _ _ _ _ _ _ _ _ _ _ _ _ _ _ _ _ _ _ _ _ _ _ _ _ _ _ _ _ _ _ _ _ _ _ _ _ _ _ _ _ _ _ _ _ _ _ _ _ _ _ _ _ _ _ _ _ _ _ _ _ _ _ _ _ _ _ _ _ _ _ _ _ _ _ _ _ _ _ _ _ _ _ _ _ _ _ _ _ _ _ _ _ _ _ _ _ _ _ _ _ _ _ _ _ _ _ _ _ _ _ _ _ _ _ _ _ _ _ _ _ _ _ _ _ _ _ _ _ _ _ _ _ _ _ _ _ _ _ _ _ _ _ _ _ _ _ _ _ _ _ _ _ _ _ _ _ _ _ _ _ _ _ _ _ _ _ _ _ _ _ _ _ _ _ _ _ _ _ _ _ _ _ _ _ _ _ _ _ _ _ _ _ _ _ _ _ _ _ _ _ _ _ _ _ _ _ _ _ _ _ _ _ _ _ _ _ _ _ _ _ _ _ _ _ _ _ _ _ _ _ _ _ _ _ _ _ _ _ _ _ _ _ _ _ _ _ _ _ _ _ _ _ _ _ _ _ _ _ _ _ _ _ _ _ _ _ _ _ _ _ _ _ _ _ _ _ _ _ _ _ _ _ _ _ _ _ _ _ _ _ _ _ _ _ _ _ _ _ _ _ _ _ _ _ _ _ _ _ _ _ _ _ _ _ _ _ _
    | false => exact segEf a0 n0 c0 a1 n1 c1 w wc A0 A1 hcut r wy s Q.out.1 Q.out.2.1 Q.out.2.2 hb _ _ _ _ _ _ _ _ _ _ _ _ _ _ _ _ _ _ _ _ _ _ _ _ _ _ _ _ _ _ _ _ _ _ _ _ _ _ _ _ _ _ _ _ _ _ _ _ _ _ _ _ _ _ _ _ _ _ _ _ _ _ _ _ _ _ _ _ _ _ _ _ _ _ _ _ _ _ _ _ _ _ _ _ _ _ _ _ _ _ _ _ _ _ _ _ _ _ _ _ _ _ _ _ _ _ _ _ _ _ _ _ _ _ _ _ _ _ _ _ _ _ _ _ _ _ _ _ _ _ _ _ _ _ _ _ _ _ _ _ _ _ _ _ _ _ _ _ _ _ _ _ _ _ _ _ _ _ _ _ _ _ _ _ _ _ _ _ _ _ _ _ _ _ _ _ _ _ _ _ _ _ _ _ _ _ _ _ _ _ _ _ _ _ _ _ _ _ _ _ _ _ _ _ _ _ _ _ _ _ _ _ _ _ _ _ _ _ _ _ _ _ _ _ _ _ _ _ _ _ _ _ _ _ _ _ _ _ _ _ _ _ _ _ _ _ _ _ _ _ _ _ _ _ _ _ _ _ _ _ _ _ _ _ _ _ _ _ _ _ _ _ _ _ _ _ _ _ _ _ _ _ _ _ _ _ _ _ _ _ _ _ _ _ _ _ _ _ _ _ _ _ _ _ _ _ _ _ _ _ _ _ _ _ _ _ _ _ _ _ _ _ _ _ _ _ _ _ _ _ _ _ _ _ _ _ _ _ _ _ _ _ _ _ _ _ _ _ _ _ _ _ _ _ _ _ _ _ _ _ _ _ _ _ _ _ _ _ _ _ _ _ _ _ _ _ _ _ _ _ _ _ _ _ _ _ _ _ _ _ _ _ _ _ _ _ _ _ _ _ _ _ _ _ _ _ _ _ _ _ _ _ _ _ _ _ _ _ _ _ _ _ _ _ _ _ _ _ _ _ _ _ _ _ _ _ _ _ _ _ _ _ _ _ _ _ _ _ _ _ _ _ _ _ _ _ _ _ _ _ _ _ _ _ _ _ _ _ _ _ _ _ _ _ _ _ _ _
end Go.Proofs.YtajgncapgeiniaaGreat.T1
