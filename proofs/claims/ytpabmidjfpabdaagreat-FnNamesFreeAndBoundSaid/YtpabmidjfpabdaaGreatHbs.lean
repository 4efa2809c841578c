/- Texts of the proof, put together: Yb, Ye, Yf. No conditions. -/
import Derived.Test.YtpabmidjfpabdaaGreatHab
import Derived.Test.YtpabmidjfpabdaaGreatHaq
import Derived.Test.YtpabmidjfpabdaaGreatHar
import Derived.Test.YtpabmidjfpabdaaGreatHat
import Derived.Test.YtpabmidjfpabdaaGreatHbr
import Derived.Deep.CutRange
import Derived.Deep.DeepCutAuto
import Derived.Deep.LoopGhost

/- Renaming, and back: what both sides answer, and what it means for the names. No conditions. -/
namespace Go.Proofs.YtpabmidjfpabdaaGreat.T1
open Go.RowKit
set_option maxRecDepth 100000
set_option linter.unusedVariables false
set_option linter.unusedSimpArgs false

theorem good_S2 {t : Tm} (h1 : t.ok nmL = true) (h2 : t.pr.length ≤ 300) (h3 : t.size ≤ 60) : good (S t).data.toList = some t := by
  have : (S t).data.toList = t.pr := by simp [S]
  rw [this]; exact good_of h1 h2 h3
theorem twn_rename (s k q : ByteArray) (hm : s.size ≤ 9223372036854775807) : ∃ (n : ByteArray) (b : Bool), TwoN 7 6 #[.string s, .string k, .string q] (.tuple #[.string n, .bool b]) ∧ n.size ≤ 300 ∧ (b = true → ∃ t o m, good s.data.toList = some t ∧ nmL o = true ∧ nmL m = true ∧ k = B [o] ∧ q = B [m] ∧ n = S (R t o m) ∧ (R t o m).ok nmL = true) := by
  open LawRenameFree in
  have rn : ∀ k : ByteArray, ∃ (a : Int) (b : Bool), ∀ w, Calls Tryz.prog 26 #[.string k] w fun e w' => e = .returned (.tuple #[.int .u8 a, .bool b]) ∧ Below w.heap.size w w' := fun k => by
    rcases one_or k with ⟨c, _, _, _, h⟩ | ⟨_, h⟩
    · exact ⟨_, _, h⟩
    · exact ⟨_, _, h⟩
  have zz : (⟨#[]⟩ : ByteArray).size ≤ 300 := by decide
  cases hg : good s.data.toList with
  | none =>
    obtain ⟨a1, b1, r1⟩ := rn k
    obtain ⟨a2, b2, r2⟩ := rn q
    exact ⟨_, _, ⟨s_n1 s k q (fun w => tmGood_none hg w hm), i_n1 s k q _ _ _ _ (fun w => parse_none hg w hm) r1 r2⟩, zz, fun h => by cases h⟩
  | some t =>
    have h1 := fun w => tmGood_some hg w hm
    have h2 := fun w => parse_some hg w hm
    obtain ⟨es, hL, hE, h300, h60⟩ := good_S hg
    rcases one_or k with ⟨o, ho, ek, o1, o2⟩ | ⟨o1, o2⟩
    · rcases one_or q with ⟨m, hmn, eq, m1, m2⟩ | ⟨m1, m2⟩
      · have hk : 0 < k.size := by rw [ek, B_size]; simp
        have hq : 0 < q.size := by rw [eq, B_size]; simp
        have ek0 : k[0]'hk = o := by subst ek; rfl
        have eq0 : q[0]'hq = m := by subst eq; rfl
        have hE2 := R_okE o m hE (by rw [nmE_iff]; exact .inl ((nmL_iff m).1 hmn))
        have hT := tmRename_any t.size t o m (Nat.le_refl _) hE (by omega) (by rw [nmE_iff]; exact .inl ((nmL_iff m).1 hmn))
        rw [← es, ← ek0, ← eq0] at hT
        have hI := fun w => tmIf_any (R t o m) hE2 (by rw [R_len]; omega) w
        have hRf := renameFree_any t.size t o m (Nat.le_refl _) hL ho hmn
        rw [ek0, eq0] at hT
        refine ⟨if okT (R t o m) then S (R t o m) else ⟨#[]⟩, okT (R t o m), ⟨s_yes s k q hk hq _ _ _ h1 o1 m1 (by rw [ek0, eq0]; exact hT) (fun w => by rw [← out_if]; exact hI w), ?_⟩, ?_, ?_⟩
        · by_cases hok : (R t o m).ok nmL = true
          · have hr : renO t o m = some (R t o m) := by unfold renO; rw [if_pos hok]
            rw [hr] at hRf
            have hokT : okT (R t o m) = true := (okT_iff _).2 ⟨hok, by rw [R_len]; exact h300, by rw [R_size]; exact h60⟩
            have hX := fun w => processText_any (R t o m) (by rw [R_len]; omega) (by rw [R_size]; omega) w
            rw [hokT]
            refine i_yes s k q _ _ _ _ _ _ _ _ h2 o2 m2 (sub_some hRf) (fun w => (hX w).mono fun e w' h => ?_)
            rcases h with ⟨⟨_, _, rfl⟩ | ⟨g, rfl⟩, b⟩
            · exact ⟨rfl, b⟩
            · exact absurd ⟨by rw [R_len]; exact h300, by rw [R_size]; exact h60⟩ g
          · have hr : renO t o m = none := by unfold renO; rw [if_neg hok]
            rw [hr] at hRf
            have hokT : okT (R t o m) = false := by
              cases h : okT (R t o m) with
              | false => rfl
              | true => exact absurd ((okT_iff _).1 h).1 hok
            rw [hokT]
            exact i_n4 s k q _ _ _ _ h2 o2 m2 (sub_none hRf)
        · cases hk : okT (R t o m) with
          | false => exact zz
          | true =>
            show (S (R t o m)).size ≤ 300
            have := ((okT_iff _).1 hk).2.1
            unfold S; simpa [ByteArray.size] using this
        · intro h
          exact ⟨t, o, m, rfl, ho, hmn, ek, eq, by rw [h]; rfl, ((okT_iff _).1 h).1⟩
      · exact ⟨_, _, ⟨s_n3 s k q h1 o1 m1, i_n3 s k q _ _ _ _ h2 o2 m2⟩, zz, fun h => by cases h⟩
    · obtain ⟨a2, b2, r2⟩ := rn q
      exact ⟨_, _, ⟨s_n2 s k q h1 o1, i_n2 s k q _ _ _ _ _ h2 o2 r2⟩, zz, fun h => by cases h⟩
theorem rn_B (c : UInt8) (hc : nmL c = true) (w : World) : Calls Tryz.prog 26 #[.string (B [c])] w fun e w' => e = .returned (.tuple #[.int .u8 (c.toNat : Int), .bool true]) ∧ Below w.heap.size w w' := by
  have hL := isLetter_any c
  rw [hc] at hL
  exact LawRenameFree.rn_yes (B [c]) (by rw [B_size]; exact Nat.succ_pos 0) (by rw [B_size]; rfl) hL w
/-- Renaming whose answer has letters alone. -/
theorem rename_i (s : ByteArray) (t : Tm) (o m : UInt8) (hg : good s.data.toList = some t) (hm : s.size ≤ 9223372036854775807) (ho : nmL o = true) (hmn : nmL m = true) (hok : (R t o m).ok nmL = true) : AnsN 6 #[.string s, .string (B [o]), .string (B [m])] (.tuple #[.string (S (R t o m)), .bool true]) := by
  open LawRenameFree in
  have h2 := fun w => parse_some hg w hm
  obtain ⟨es, hL, hE, h300, h60⟩ := good_S hg
  have hRf := renameFree_any t.size t o m (Nat.le_refl _) hL ho hmn
  have hr : renO t o m = some (R t o m) := by unfold renO; rw [if_pos hok]
  rw [hr] at hRf
  have hX := fun w => processText_any (R t o m) (by rw [R_len]; omega) (by rw [R_size]; omega) w
  refine i_yes s _ _ _ _ _ _ _ _ _ _ h2 (rn_B o ho) (rn_B m hmn) (sub_some hRf) (fun w => (hX w).mono fun e w' h => ?_)
  rcases h with ⟨⟨_, _, rfl⟩ | ⟨g, rfl⟩, b⟩
  · exact ⟨rfl, b⟩
  · exact absurd ⟨by rw [R_len]; exact h300, by rw [R_size]; exact h60⟩ g

end Go.Proofs.YtpabmidjfpabdaaGreat.T1

/- Plain facts for the law of names: letters below a fresh one, names that are bound. No conditions. -/
namespace Go.Proofs.YtpabmidjfpabdaaGreat.T1
open Go.RowKit
theorem inL_mem (s : ByteArray) (k : Nat) (hk : k < 26) : inL s k = decide (UInt8.ofNat (97 + k) ∈ s.data.toList) := by
  unfold inL; exact inB_lit s (97 + k) (by omega)
theorem fresh_not (s : ByteArray) (k : Nat) (hk : k < 26) (h : inL s k = false) : oinV (one (UInt8.ofNat (97 + k))) s = false := by
  rw [inL_mem s k hk] at h
  have h2 := of_decide_eq_false h
  cases ho : oinV (one (UInt8.ofNat (97 + k))) s with
  | false => rfl
  | true =>
    rw [oin_iff] at ho
    exact absurd (ho (UInt8.ofNat (97 + k)) (by simp [one])) h2
theorem fresh_below (s : ByteArray) (k : Nat) (hk : k < 26) (h : inL s k = true) : oinV (one (UInt8.ofNat (97 + k))) s = true := by
  rw [inL_mem s k hk] at h
  have h2 := of_decide_eq_true h
  rw [oin_iff]
  intro c hc
  have : c = UInt8.ofNat (97 + k) := by simpa [one] using hc
  rw [this]; exact h2
/-- A process that is well named: no bound name is free. -/
theorem well_not (t : Tm) (h : t.wellN) : ∀ c ∈ bothL [] t.bnd, c ∉ t.free := by
  intro c hc
  rw [mem_bothL] at hc
  rcases hc with hc | hc
  · cases hc
  · exact h.2 c hc
end Go.Proofs.YtpabmidjfpabdaaGreat.T1

/- The law of names: its last statements. No conditions. -/
namespace Go.Proofs.YtpabmidjfpabdaaGreat.T1
open Go.RowKit
set_option maxRecDepth 100000
set_option linter.unusedVariables false
set_option linter.unusedSimpArgs false
/-- The statements behind the first n. -/
def drpN : Nat → Code → Code
  | 0, c => c
  | n + 1, .seq _ b => drpN n b
  | _, c => c
noncomputable def bodyN : Code := (Tryz.f3.body).getD .skip
def PostN (w : World) : Ending → World → Prop := fun e w' => e = .returned (.bool true) ∧ Below w.heap.size w w'
set_option maxHeartbeats 20000000 in
theorem nsF (a0 : Option Addr) (n0 c0 : Nat) (a1 : Option Addr) (n1 c1 : Nat) (w wc0 : World) (A0 : Hid (Arg w a0 n0)) (A1 : Hid (Arg w a1 n1)) (B0 : Hid (Below w.heap.size w wc0)) (s2 s3 s4 s5 s6 s7 s8 s9 s10 s11 s12 s13 s14 s15 s16 s17 s18 s19 s20 s21 s22 s23 s24 s25 s26 s27 s28 s29 s30 s31 s32 s33 s34 s35 s36 s37 s38 s39 s40 s41 s42 s43 s44 s45 s46 s47 s48 s49 s50 s51 s52 s53 s54 s55 s56 s57 s58 s59 s60 s61 s62 s63 s64 s65 s66 s67 s68 s69 s70 s71 s72 s73 s74 s75 s76 s77 s78 s79 s80 s81 s82 s83 s84 s85 s86 s87 s88 s89 s90 s91 s92 s93 s94 s95 s96 s97 s98 s99 s100 s101 s102 s103 s104 s105 s106 s107 s108 s109 s110 s111 s112 s113 s114 s115 s116 s117 s118 s119 s120 s121 s122 s123 s124 s125 s126 s127 s128 s129 s130 s131 s132 s133 s134 s135 s136 s137 s138 s139 s140 s141 s142 s143 s144 s145 s146 s147 s148 s149 s150 s151 s152 s153 s154 s155 s156 s157 s158 s159 s160 s161 s162 s163 s164 s165 s166 s167 s168 s169 s170 s171 s172 s173 s174 s175 s176 s177 s178 s179 s180 s181 s182 s183 s184 s185 s186 s187 s188 s189 s190 s191 s192 s193 s194 s195 s196 s197 s198 s199 s200 s201 s202 s203 s204 s205 s206 s207 s208 s209 s210 s211 s212 s213 s214 s215 s216 s217 s218 s219 s220 s221 s222 s223 s224 s225 s226 s227 s228 s229 s230 s231 s232 s233 s234 s235 s236 s237 s238 s239 s240 s241 s242 s243 s244 s245 s246 s247 s248 s249 s250 s251 s252 s253 s254 s255 s256 s257 s258 s259 s260 s261 s262 s263 s264 s265 s266 s267 s268 s269 s270 s271 s272 s273 s274 s275 s276 s277 s278 s279 s280 s281 s282 s283 s284 s285 s286 s287 s288 s289 s290 s291 s292 s293 s294 s295 s296 s297 s298 s299 s300 s301 s302 s303 s304 s305 : Value) :
    Code.wp Tryz.prog (drpN 16 bodyN) (bodyPost Tryz.prog Tryz.f3 (PostN w)) ⟨#[.slice a0 n0 c0, .slice a1 n1 c1, s2, s3, s4, s5, s6, s7, s8, s9, s10, s11, s12, s13, s14, s15, s16, s17, s18, s19, s20, s21, s22, s23, s24, s25, s26, s27, s28, s29, s30, s31, s32, s33, s34, s35, s36, s37, s38, s39, s40, s41, s42, s43, s44, s45, s46, s47, s48, s49, s50, s51, s52, s53, s54, s55, s56, s57, s58, s59, s60, s61, s62, s63, s64, s65, s66, s67, s68, s69, s70, s71, s72, s73, s74, s75, s76, s77, s78, s79, s80, s81, s82, s83, s84, s85, s86, s87, s88, s89, s90, s91, s92, s93, s94, s95, s96, s97, s98, s99, s100, s101, s102, s103, s104, s105, s106, s107, s108, s109, s110, s111, s112, s113, s114, s115, s116, s117, s118, s119, s120, s121, s122, s123, s124, s125, s126, s127, s128, s129, s130, s131, s132, s133, s134, s135, s136, s137, s138, s139, s140, s141, s142, s143, s144, s145, s146, s147, s148, s149, s150, s151, s152, s153, s154, s155, s156, s157, s158, s159, s160, s161, s162, s163, s164, s165, s166, s167, s168, s169, s170, s171, s172, s173, s174, s175, s176, s177, s178, s179, s180, s181, s182, s183, s184, s185, s186, s187, s188, s189, s190, s191, s192, s193, s194, s195, s196, s197, s198, s199, s200, s201, s202, s203, s204, s205, s206, s207, s208, s209, s210, s211, s212, s213, s214, s215, s216, s217, s218, s219, s220, s221, s222, s223, s224, s225, s226, s227, s228, s229, s230, s231, s232, s233, s234, s235, s236, s237, s238, s239, s240, s241, s242, s243, s244, s245, s246, s247, s248, s249, s250, s251, s252, s253, s254, s255, s256, s257, s258, s259, s260, s261, s262, s263, s264, s265, s266, s267, s268, s269, s270, s271, s272, s273, s274, s275, s276, s277, s278, s279, s280, s281, s282, s283, s284, s285, s286, s287, s288, s289, s290, s291, s292, s293, s294, s295, s296, s297, s298, s299, s300, s301, s302, s303, s304, s305], []⟩ wc0 := by
  unfold PostN
  conv => arg 2; whnf
  dsimp only
  go_wp2_with fail
  with_reducible refine (dFreshName_any a1 n1 c1 _ (A1.out.below B0.out)).mono ?_
  rintro e x1 ⟨⟨tk, rfl, htk⟩, b1⟩
  have B1 := Lib.hid (B0.out.trans (b1.mono B0.out.size))
  clear b1 B0
  have TK := Lib.hid htk
  obtain ⟨o, hT, hF⟩ := twn_fresh tk (by omega)
  have HF := Lib.hid hF
  obtain ⟨fr, hfr⟩ : ∃ x, x = frO o := ⟨_, rfl⟩
  obtain ⟨b7, hb7⟩ : ∃ b, b = o.isSome := ⟨_, rfl⟩
  rw [← hfr, ← hb7] at hT
  have FRs := Lib.hid (fun w => hT.1 w)
  have FRi := Lib.hid (fun w => hT.2 w)
  have HV := Lib.hid (And.intro hfr hb7)
  have hbb : (b7 != b7) = false := by cases b7 <;> rfl
  clear htk hT hF hfr hb7
  go_wp2_with fail
  with_reducible refine (FRi.out _).mono ?_
  rintro e x2 ⟨rfl, b2⟩
  have B2 := Lib.hid (B1.out.trans (b2.mono B1.out.size))
  clear b2 B1
  go_wp2_with fail
  with_reducible refine (FRs.out _).mono ?_
  rintro e x3 ⟨rfl, b3⟩
  have B3 := Lib.hid (B2.out.trans (b3.mono B2.out.size))
  clear b3 B2
  cases b7 with
  | false =>
    go_wp2_with fail
    go_ret
    exact ⟨rfl, B3.out⟩
  | true =>
    obtain ⟨hfr, hb7⟩ := HV.out
    obtain ⟨k, rfl⟩ : ∃ k, o = some k := by cases o with
      | none => cases hb7
      | some k => exact ⟨k, rfl⟩
    obtain ⟨k1, k2, k3⟩ := HF.out k rfl
    obtain ⟨fc, hfc⟩ : ∃ fc, fc = UInt8.ofNat (97 + k) := ⟨_, rfl⟩
    have hfr2 : fr = one fc := by rw [hfc]; exact hfr
    subst hfr2
    have o1 : oinV (one fc) tk = false := by rw [hfc]; exact fresh_not tk k k1 k3
    have o2 : ∀ j, j < k → oinV (one (UInt8.ofNat (97 + j))) tk = true := fun j hj => fresh_below tk j (by omega) (k2 j hj)
    have O2 := Lib.hid o2
    have HK := Lib.hid k1
    have hl1 : (one fc).size = 1 := rfl
    have hz : 0 < (one fc).size := by rw [hl1]; decide
    have h0 : (((one fc)[0]'hz).toNat : Int) = ((97 + k : Nat) : Int) := by
      show (fc.toNat : Int) = _
      rw [hfc, UInt8.toNat_ofNat']; omega
    have HFC := Lib.hid hfc
    have htk := TK.out
    clear hfr hb7 k2 k3 o2 HF HV FRs FRi hfc
    go_wp2_with fail
    with_reducible refine (oIn_any _ tk (by rw [hl1]; decide) (by omega) _).mono ?_
    rintro e y1 ⟨he, by1⟩
    rw [o1] at he
    subst he
    have BY := Lib.hid (B3.out.trans (by1.mono B3.out.size))
    clear by1 o1
    obtain ⟨Y, hY⟩ : ∃ Y : Int, Y = ((97 + k : Nat) : Int) := ⟨_, rfl⟩
    rw [← hY] at h0
    have HY := Lib.hid hY
    clear hY
    go_wp2_with fail
    go_loopg [43] k (fun g s43 wr => ∃ (j : Nat) (x : Int), j + g = k ∧ Hid (x = ((97 + j : Nat) : Int)) ∧ s43 = .int .u8 x ∧ Hid (Below w.heap.size w wr))
    case atStart => exact ⟨0, 97, by omega, rfl, rfl, BY⟩
    case round =>
      obtain ⟨j, x, hj, hx, rfl, hb⟩ := hrel
      by_cases hlt : j < k
      · have hd : decide (x < Y) = true := decide_eq_true (by have := hx.out; have := HY.out; omega)
        have hwx : IntKind.u8.wrap (x + 1) = x + 1 := by have := hx.out; have := HK.out; simp [IntKind.wrap, IntKind.bits, IntKind.signed]; omega
        obtain ⟨ch, hch⟩ : ∃ ch, ch = UInt8.ofNat (97 + j) := ⟨_, rfl⟩
        have hcx : ((ch.toNat : Nat) : Int) = x := by rw [hch, hx.out, UInt8.toNat_ofNat']; have := HK.out; omega
        have hcv := LawKindOf.conv1 ch wr
        rw [hcx] at hcv
        have o3 : oinV (one ch) tk = true := by rw [hch]; exact O2.out j hlt
        have hs1 : (one ch).size = 1 := rfl
        have HJ := Lib.hid (And.intro hj hlt)
        clear hch hcx hlt hj
        go_wp2_with fail
        with_reducible refine (oIn_any _ tk (by rw [hs1]; decide) (by omega) _).mono ?_
        rintro e y1 ⟨he, by1⟩
        rw [o3] at he
        subst he
        have BZ := Lib.hid ((hb.out.alloc hb.out.size _).trans (by1.mono (by simp; have := hb.out.size; omega)))
        clear by1 o3 hcv
        go_wp2_with fail
        go_roundg (gk - 1)
        case rel => exact ⟨j + 1, x + 1, by have := HJ.out; omega, Lib.hid (by have := hx.out; omega), rfl, BZ⟩
        case measure => have := HJ.out; omega
      · have hd : decide (x < Y) = false := decide_eq_false (by have := hx.out; have := HY.out; omega)
        clear hlt hj
        go_wp2_with fail
        go_ret
        exact ⟨rfl, hb.out⟩
set_option maxHeartbeats 20000000 in
theorem nsL (a0 : Option Addr) (n0 c0 : Nat) (a1 : Option Addr) (n1 c1 : Nat) (w wc0 : World) (A0 : Hid (Arg w a0 n0)) (A1 : Hid (Arg w a1 n1)) (B0 : Hid (Below w.heap.size w wc0)) (fB bB : ByteArray) (b wl : Bool) (hF : fB.size ≤ 300) (hBd : bB.size ≤ 300) (hW : b = true → wl = true → ∀ i, i < bB.size → oinV (bB.extract i (i + 1)) fB = false) (s2 s3 s4 s5 s6 s7 s8 s9 s10 s11 s12 s13 s14 s15 s16 s17 s18 s19 s20 s21 s22 s23 s24 s27 s28 s30 s31 s32 s34 s35 s36 s37 s38 s39 s40 s41 s42 s43 s44 s45 s46 s47 s48 s49 s50 s51 s52 s53 s54 s55 s56 s57 s58 s59 s60 s61 s62 s63 s64 s65 s66 s67 s68 s69 s70 s71 s72 s73 s74 s75 s76 s77 s78 s79 s80 s81 s82 s83 s84 s85 s86 s87 s88 s89 s90 s91 s92 s93 s94 s95 s96 s97 s98 s99 s100 s101 s102 s103 s104 s105 s106 s107 s108 s109 s110 s111 s112 s113 s114 s115 s116 s117 s118 s119 s120 s121 s122 s123 s124 s125 s126 s127 s128 s129 s130 s131 s132 s133 s134 s135 s136 s137 s138 s139 s140 s141 s142 s143 s144 s145 s146 s147 s148 s149 s150 s151 s152 s153 s154 s155 s156 s157 s158 s159 s160 s161 s162 s163 s164 s165 s166 s167 s168 s169 s170 s171 s172 s173 s174 s175 s176 s177 s178 s179 s180 s181 s182 s183 s184 s185 s186 s187 s188 s189 s190 s191 s192 s193 s194 s195 s196 s197 s198 s199 s200 s201 s202 s203 s204 s205 s206 s207 s208 s209 s210 s211 s212 s213 s214 s215 s216 s217 s218 s219 s220 s221 s222 s223 s224 s225 s226 s227 s228 s229 s230 s231 s232 s233 s234 s235 s236 s237 s238 s239 s240 s241 s242 s243 s244 s245 s246 s247 s248 s249 s250 s251 s252 s253 s254 s255 s256 s257 s258 s259 s260 s261 s262 s263 s264 s265 s266 s267 s268 s269 s270 s271 s272 s273 s274 s275 s276 s277 s278 s279 s280 s281 s282 s283 s284 s285 s286 s287 s288 s289 s290 s291 s292 s293 s294 s295 s296 s297 s298 s299 s300 s301 s302 s303 s304 s305 : Value) :
    Code.wp Tryz.prog (drpN 15 bodyN) (bodyPost Tryz.prog Tryz.f3 (PostN w)) ⟨#[.slice a0 n0 c0, .slice a1 n1 c1, s2, s3, s4, s5, s6, s7, s8, s9, s10, s11, s12, s13, s14, s15, s16, s17, s18, s19, s20, s21, s22, s23, s24, .string fB, .bool b, s27, s28, .string bB, s30, s31, s32, .bool wl, s34, s35, s36, s37, s38, s39, s40, s41, s42, s43, s44, s45, s46, s47, s48, s49, s50, s51, s52, s53, s54, s55, s56, s57, s58, s59, s60, s61, s62, s63, s64, s65, s66, s67, s68, s69, s70, s71, s72, s73, s74, s75, s76, s77, s78, s79, s80, s81, s82, s83, s84, s85, s86, s87, s88, s89, s90, s91, s92, s93, s94, s95, s96, s97, s98, s99, s100, s101, s102, s103, s104, s105, s106, s107, s108, s109, s110, s111, s112, s113, s114, s115, s116, s117, s118, s119, s120, s121, s122, s123, s124, s125, s126, s127, s128, s129, s130, s131, s132, s133, s134, s135, s136, s137, s138, s139, s140, s141, s142, s143, s144, s145, s146, s147, s148, s149, s150, s151, s152, s153, s154, s155, s156, s157, s158, s159, s160, s161, s162, s163, s164, s165, s166, s167, s168, s169, s170, s171, s172, s173, s174, s175, s176, s177, s178, s179, s180, s181, s182, s183, s184, s185, s186, s187, s188, s189, s190, s191, s192, s193, s194, s195, s196, s197, s198, s199, s200, s201, s202, s203, s204, s205, s206, s207, s208, s209, s210, s211, s212, s213, s214, s215, s216, s217, s218, s219, s220, s221, s222, s223, s224, s225, s226, s227, s228, s229, s230, s231, s232, s233, s234, s235, s236, s237, s238, s239, s240, s241, s242, s243, s244, s245, s246, s247, s248, s249, s250, s251, s252, s253, s254, s255, s256, s257, s258, s259, s260, s261, s262, s263, s264, s265, s266, s267, s268, s269, s270, s271, s272, s273, s274, s275, s276, s277, s278, s279, s280, s281, s282, s283, s284, s285, s286, s287, s288, s289, s290, s291, s292, s293, s294, s295, s296, s297, s298, s299, s300, s301, s302, s303, s304, s305], []⟩ wc0 := by
  unfold PostN
  conv => arg 2; whnf
  dsimp only
  have HS := Lib.hid (And.intro hF hBd)
  have HW := Lib.hid hW
  clear hF hBd hW
  cases b with
  | false =>
    go_upto_if 251 with fail
    go_cut [4, 37] from 252 to 264 (fun _ _ wx => Hid (Below w.heap.size w wx))
    case first =>
      go_wp2_with fail
      go_meet
      case rel => exact B0
    case rest =>
      rename_i KK aK
      refine aK _ _ ?_
      exact nsF a0 n0 c0 a1 n1 c1 w _ A0 A1 hcut _ _ _ _ _ _ _ _ _ _ _ _ _ _ _ _ _ _ _ _ _ _ _ _ _ _ _ _ _ _ _ _ _ _ _ _ _ _ _ _ _ _ _ _ _ _ _ _ _ _ _ _ _ _ _ _ _ _ _ _ _ _ _ _ _ _ _ _ _ _ _ _ _ _ _ _ _ _ _ _ _ _ _ _ _ _ _ _ _ _ _ _ _ _ _ _ _ _ _ _ _ _ _ _ _ _ _ _ _ _ _ _ _ _ _ _ _ _ _ _ _ _ _ _ _ _ _ _ _ _ _ _ _ _ _ _ _ _ _ _ _ _ _ _ _ _ _ _ _ _ _ _ _ _ _ _ _ _ _ _ _ _ _ _ _ _ _ _ _ _ _ _ _ _ _ _ _ _ _ _ _ _ _ _ _ _ _ _ _ _ _ _ _ _ _ _ _ _ _ _ _ _ _ _ _ _ _ _ _ _ _ _ _ _ _ _ _ _ _ _ _ _ _ _ _ _ _ _ _ _ _ _ _ _ _ _ _ _ _ _ _ _ _ _ _ _ _ _ _ _ _ _ _ _ _ _ _ _ _ _ _ _ _ _ _ _ _ _ _ _ _ _ _ _ _ _ _ _ _ _ _ _ _ _ _ _ _ _ _ _ _ _ _ _ _ _ _ _ _ _ _ _ _ _
  | true =>
    go_upto_if 251 with fail
    go_cut [4, 37] from 252 to 264 (fun _ _ wx => Hid (Below w.heap.size w wx))
    case first =>
      cases wl with
      | false =>
        go_wp2_with fail
        go_meet
        case rel => exact B0
      | true =>
        go_wp2_with fail
        go_loopg [37] bB.size (fun g s37 wr => ∃ i : Nat, i + g = bB.size ∧ s37 = .int .i64 (i : Int) ∧ Hid (Below w.heap.size w wr))
        case atStart => exact ⟨0, by omega, rfl, B0⟩
        case round =>
          obtain ⟨i, hi, rfl, hb⟩ := hrel
          by_cases hlt : i < bB.size
          · have hlt' : (i : Int) < (bB.size : Int) := by omega
            have hwi : IntKind.i64.wrap ((i : Int) + 1) = ((i + 1 : Nat) : Int) := by have := HS.out; rw [IntKind.wrap_i64] <;> omega
            have hle : i + 1 ≤ bB.size := hlt
            have o3 := HW.out (by trivial) (by trivial) i hlt
            obtain ⟨X, hX⟩ : ∃ X, X = bB.extract i (i + 1) := ⟨_, rfl⟩
            have hXs : X.size ≤ 1 := by rw [hX, ByteArray.size_extract]; omega
            have HX := Lib.hid hX
            have HI := Lib.hid (And.intro hi hlt)
            have hf := HS.out.1
            clear hi hX
            go_wp2_with fail
            with_reducible refine (oIn_any _ fB (by rw [← HX.out]; omega) (by omega) _).mono ?_
            rintro e y1 ⟨he, by1⟩
            rw [o3] at he
            subst he
            have BZ := Lib.hid (hb.out.trans (by1.mono hb.out.size))
            clear by1 o3
            go_wp2_with fail
            go_roundg (gk - 1)
            case rel => exact ⟨i + 1, by have := HI.out; omega, rfl, BZ⟩
            case measure => have := HI.out; omega
          · have hlt' : ¬ (i : Int) < (bB.size : Int) := by omega
            clear hlt hi
            go_wp2_with fail
            go_meet
            case rel => exact hb
    case rest =>
      rename_i KK aK
      refine aK _ _ ?_
      exact nsF a0 n0 c0 a1 n1 c1 w _ A0 A1 hcut _ _ _ _ _ _ _ _ _ _ _ _ _ _ _ _ _ _ _ _ _ _ _ _ _ _ _ _ _ _ _ _ _ _ _ _ _ _ _ _ _ _ _ _ _ _ _ _ _ _ _ _ _ _ _ _ _ _ _ _ _ _ _ _ _ _ _ _ _ _ _ _ _ _ _ _ _ _ _ _ _ _ _ _ _ _ _ _ _ _ _ _ _ _ _ _ _ _ _ _ _ _ _ _ _ _ _ _ _ _ _ _ _ _ _ _ _ _ _ _ _ _ _ _ _ _ _ _ _ _ _ _ _ _ _ _ _ _ _ _ _ _ _ _ _ _ _ _ _ _ _ _ _ _ _ _ _ _ _ _ _ _ _ _ _ _ _ _ _ _ _ _ _ _ _ _ _ _ _ _ _ _ _ _ _ _ _ _ _ _ _ _ _ _ _ _ _ _ _ _ _ _ _ _ _ _ _ _ _ _ _ _ _ _ _ _ _ _ _ _ _ _ _ _ _ _ _ _ _ _ _ _ _ _ _ _ _ _ _ _ _ _ _ _ _ _ _ _ _ _ _ _ _ _ _ _ _ _ _ _ _ _ _ _ _ _ _ _ _ _ _ _ _ _ _ _ _ _ _ _ _ _ _ _ _ _ _ _ _ _ _ _ _ _ _ _ _ _ _ _ _ _ _ _
end Go.Proofs.YtpabmidjfpabdaaGreat.T1
