/- The law of names: names that are free and bound. No conditions. -/
import Derived.Test.YtpabmidjfpabdaaGreatHbs
import Derived.Deep.CutRange
import Derived.Deep.DeepCutAuto
import Derived.Deep.LoopGhost
namespace Go.Proofs.YtpabmidjfpabdaaGreat.T1
open Go.RowKit
set_option maxRecDepth 100000
set_option linter.unusedVariables false
set_option linter.unusedSimpArgs false
/-- The names of a text are few. -/
theorem ns_free_le (t : Tm) (h : t.ok nmL = true) : t.free.length ≤ 26 := by
  have := srt_sub (srt_free t) lowL_srt (fun z hz => (mem_low z).2 (lets_free t h z hz))
  have h2 : lowL.length = 26 := by unfold lowL; simp
  omega
theorem ns_bnd_le (t : Tm) : t.bnd.length ≤ t.size := by
  induction t <;> simp only [Tm.bnd, Tm.size, List.length_cons, List.length_append, List.length_nil] <;> omega
theorem ns_fr (s : ByteArray) : (frT (good s.data.toList)).size ≤ 300 := by
  cases hg : good s.data.toList with
  | none => decide
  | some t =>
    obtain ⟨es, hL, hE, h300, h60⟩ := good_S hg
    have := ns_free_le t hL
    show (B t.free).size ≤ 300
    rw [B_size]; omega
theorem ns_bd (s : ByteArray) : (bdT (good s.data.toList)).size ≤ 300 := by
  cases hg : good s.data.toList with
  | none => decide
  | some t =>
    obtain ⟨es, hL, hE, h300, h60⟩ := good_S hg
    have h1 := ns_bnd_le t
    have h2 := len_both_take [] t.bnd
    show (B (bothL [] t.bnd)).size ≤ 300
    rw [B_size]; simp only [List.length_nil] at h2; omega
theorem B_ext1 (l : List UInt8) (i : Nat) (h : i < l.length) : (B l).extract i (i + 1) = B [l[i]] := by
  apply ByteArray.ext
  rw [ByteArray.data_extract]
  show (l.toArray).extract i (i + 1) = [l[i]].toArray
  rw [List.extract_toArray]
  congr 1
  rw [List.extract_eq_take_drop]
  have : i + 1 - i = 1 := by omega
  rw [this, List.drop_eq_getElem_cons h]; rfl
theorem ns_well (s : ByteArray) : (good s.data.toList).isSome = true → wnT (good s.data.toList) = true → ∀ i, i < (bdT (good s.data.toList)).size → oinV ((bdT (good s.data.toList)).extract i (i + 1)) (frT (good s.data.toList)) = false := by
  cases hg : good s.data.toList with
  | none => intro h; cases h
  | some t =>
    intro _ hw i hi
    have hw' : t.wellN := of_decide_eq_true hw
    change i < (B (bothL [] t.bnd)).size at hi
    rw [B_size] at hi
    show oinV ((B (bothL [] t.bnd)).extract i (i + 1)) (B t.free) = false
    rw [B_ext1 _ i hi]
    cases ho : oinV (B [(bothL [] t.bnd)[i]]) (B t.free) with
    | false => rfl
    | true =>
      rw [oin_B] at ho
      exact absurd (ho _ (by simp)) (well_not t hw' _ (List.getElem_mem hi))
set_option maxHeartbeats 20000000 in
theorem nsR (a0 : Option Addr) (n0 c0 : Nat) (a1 : Option Addr) (n1 c1 : Nat) (w wc0 : World) (A0 : Hid (Arg w a0 n0)) (A1 : Hid (Arg w a1 n1)) (B0 : Hid (Below w.heap.size w wc0)) (s2 s3 s4 s5 s6 s7 s8 s9 s10 s11 s12 s13 s14 s15 s16 s17 s18 s19 s20 s21 s22 s23 s24 s25 s26 s27 s28 s29 s30 s31 s32 s33 s34 s35 s36 s37 s38 s39 s40 s41 s42 s43 s44 s45 s46 s47 s48 s49 s50 s51 s52 s53 s54 s55 s56 s57 s58 s59 s60 s61 s62 s63 s64 s65 s66 s67 s68 s69 s70 s71 s72 s73 s74 s75 s76 s77 s78 s79 s80 s81 s82 s83 s84 s85 s86 s87 s88 s89 s90 s91 s92 s93 s94 s95 s96 s97 s98 s99 s100 s101 s102 s103 s104 s105 s106 s107 s108 s109 s110 s111 s112 s113 s114 s115 s116 s117 s118 s119 s120 s121 s122 s123 s124 s125 s126 s127 s128 s129 s130 s131 s132 s133 s134 s135 s136 s137 s138 s139 s140 s141 s142 s143 s144 s145 s146 s147 s148 s149 s150 s151 s152 s153 s154 s155 s156 s157 s158 s159 s160 s161 s162 s163 s164 s165 s166 s167 s168 s169 s170 s171 s172 s173 s174 s175 s176 s177 s178 s179 s180 s181 s182 s183 s184 s185 s186 s187 s188 s189 s190 s191 s192 s193 s194 s195 s196 s197 s198 s199 s200 s201 s202 s203 s204 s205 s206 s207 s208 s209 s210 s211 s212 s213 s214 s215 s216 s217 s218 s219 s220 s221 s222 s223 s224 s225 s226 s227 s228 s229 s230 s231 s232 s233 s234 s235 s236 s237 s238 s239 s240 s241 s242 s243 s244 s245 s246 s247 s248 s249 s250 s251 s252 s253 s254 s255 s256 s257 s258 s259 s260 s261 s262 s263 s264 s265 s266 s267 s268 s269 s270 s271 s272 s273 s274 s275 s276 s277 s278 s279 s280 s281 s282 s283 s284 s285 s286 s287 s288 s289 s290 s291 s292 s293 s294 s295 s296 s297 s298 s299 s300 s301 s302 s303 s304 s305 : Value) :
    Code.wp Tryz.prog (drpN 7 bodyN) (bodyPost Tryz.prog Tryz.f3 (PostN w)) ⟨#[.slice a0 n0 c0, .slice a1 n1 c1, s2, s3, s4, s5, s6, s7, s8, s9, s10, s11, s12, s13, s14, s15, s16, s17, s18, s19, s20, s21, s22, s23, s24, s25, s26, s27, s28, s29, s30, s31, s32, s33, s34, s35, s36, s37, s38, s39, s40, s41, s42, s43, s44, s45, s46, s47, s48, s49, s50, s51, s52, s53, s54, s55, s56, s57, s58, s59, s60, s61, s62, s63, s64, s65, s66, s67, s68, s69, s70, s71, s72, s73, s74, s75, s76, s77, s78, s79, s80, s81, s82, s83, s84, s85, s86, s87, s88, s89, s90, s91, s92, s93, s94, s95, s96, s97, s98, s99, s100, s101, s102, s103, s104, s105, s106, s107, s108, s109, s110, s111, s112, s113, s114, s115, s116, s117, s118, s119, s120, s121, s122, s123, s124, s125, s126, s127, s128, s129, s130, s131, s132, s133, s134, s135, s136, s137, s138, s139, s140, s141, s142, s143, s144, s145, s146, s147, s148, s149, s150, s151, s152, s153, s154, s155, s156, s157, s158, s159, s160, s161, s162, s163, s164, s165, s166, s167, s168, s169, s170, s171, s172, s173, s174, s175, s176, s177, s178, s179, s180, s181, s182, s183, s184, s185, s186, s187, s188, s189, s190, s191, s192, s193, s194, s195, s196, s197, s198, s199, s200, s201, s202, s203, s204, s205, s206, s207, s208, s209, s210, s211, s212, s213, s214, s215, s216, s217, s218, s219, s220, s221, s222, s223, s224, s225, s226, s227, s228, s229, s230, s231, s232, s233, s234, s235, s236, s237, s238, s239, s240, s241, s242, s243, s244, s245, s246, s247, s248, s249, s250, s251, s252, s253, s254, s255, s256, s257, s258, s259, s260, s261, s262, s263, s264, s265, s266, s267, s268, s269, s270, s271, s272, s273, s274, s275, s276, s277, s278, s279, s280, s281, s282, s283, s284, s285, s286, s287, s288, s289, s290, s291, s292, s293, s294, s295, s296, s297, s298, s299, s300, s301, s302, s303, s304, s305], []⟩ wc0 := by
  unfold PostN
  conv => arg 2; whnf
  dsimp only
  go_wp2_with fail
  with_reducible refine (dFreeNames_any a1 n1 c1 _ (A1.out.below B0.out)).mono ?_
  rintro e x1 ⟨⟨r, rfl, hr⟩, b1⟩
  have B1 := Lib.hid (B0.out.trans (b1.mono B0.out.size))
  clear b1 B0
  have HP := Lib.hid (ab_of hr)
  obtain ⟨o, ho⟩ : ∃ o, o = good r.data.toList := ⟨_, rfl⟩
  obtain ⟨b, hb⟩ : ∃ b, b = o.isSome := ⟨_, rfl⟩
  have h1 := twn_free r (by have := HP.out; omega)
  have h2 := twn_bound r (by have := HP.out; omega)
  have h3 := twn_well r (by have := HP.out; omega)
  have hF := ns_fr r
  have hBd := ns_bd r
  have hW := ns_well r
  rw [← ho] at hF hBd hW
  rw [← ho, ← hb] at h1 h2 h3
  rw [← hb] at hW
  obtain ⟨fB, hfB⟩ : ∃ x, x = frT o := ⟨_, rfl⟩
  obtain ⟨bB, hbB⟩ : ∃ x, x = bdT o := ⟨_, rfl⟩
  obtain ⟨wl, hwl⟩ : ∃ x, x = wnT o := ⟨_, rfl⟩
  rw [← hfB] at h1 hF hW
  rw [← hbB] at h2 hBd hW
  rw [← hwl] at h3 hW
  have FRi := Lib.hid (fun w => h1.2 w)
  have FRs := Lib.hid (fun w => h1.1 w)
  have BDi := Lib.hid (fun w => h2.2 w)
  have BDs := Lib.hid (fun w => h2.1 w)
  have WNi := Lib.hid (fun w => h3.2 w)
  have WNs := Lib.hid (fun w => h3.1 w)
  have HV := Lib.hid (And.intro hF (And.intro hBd hW))
  have hbb : (b != b) = false := by cases b <;> rfl
  have hww : (wl != wl) = false := by cases wl <;> rfl
  clear hr ho hb h1 h2 h3 hF hBd hW hfB hbB hwl HP
  go_wp2_with fail
  with_reducible refine (FRi.out _).mono ?_
  rintro e x2 ⟨rfl, b2⟩
  have B2 := Lib.hid (B1.out.trans (b2.mono B1.out.size))
  clear b2 B1
  go_wp2_with fail
  with_reducible refine (FRs.out _).mono ?_
  rintro e x3 ⟨rfl, b3⟩
  have B3 := Lib.hid (B2.out.trans (b3.mono B2.out.size))
  clear b3 B2
  go_wp2_with fail
  with_reducible refine (BDi.out _).mono ?_
  rintro e x4 ⟨rfl, b4⟩
  have B4 := Lib.hid (B3.out.trans (b4.mono B3.out.size))
  clear b4 B3
  go_wp2_with fail
  with_reducible refine (BDs.out _).mono ?_
  rintro e x5 ⟨rfl, b5⟩
  have B5 := Lib.hid (B4.out.trans (b5.mono B4.out.size))
  clear b5 B4
  go_wp2_with fail
  with_reducible refine (WNi.out _).mono ?_
  rintro e x6 ⟨rfl, b6⟩
  have B6 := Lib.hid (B5.out.trans (b6.mono B5.out.size))
  clear b6 B5
  go_wp2_with fail
  with_reducible refine (WNs.out _).mono ?_
  rintro e x7 ⟨rfl, b7⟩
  have B7 := Lib.hid (B6.out.trans (b7.mono B6.out.size))
  clear b7 B6
  go_upto_if 247 with fail
  go_cut [] from 247 to 247 (fun wx => wx = x7)
  case first =>
    go_wp2_with fail
    go_meet
    case rel => rfl
  case rest =>
    subst hcut
    have hF := HV.out.1
    have hBd := HV.out.2.1
    have hW := HV.out.2.2
    clear HV FRi FRs BDi BDs WNi WNs
    rename_i KK aK
    refine aK _ _ ?_
    exact nsL a0 n0 c0 a1 n1 c1 w _ A0 A1 B7 fB bB b wl hF hBd hW _ _ _ _ _ _ _ _ _ _ _ _ _ _ _ _ _ _ _ _ _ _ _ _ _ _ _ _ _ _ _ _ _ _ _ _ _ _ _ _ _ _ _ _ _ _ _ _ _ _ _ _ _ _ _ _ _ _ _ _ _ _ _ _ _ _ _ _ _ _ _ _ _ _ _ _ _ _ _ _ _ _ _ _ _ _ _ _ _ _ _ _ _ _ _ _ _ _ _ _ _ _ _ _ _ _ _ _ _ _ _ _ _ _ _ _ _ _ _ _ _ _ _ _ _ _ _ _ _ _ _ _ _ _ _ _ _ _ _ _ _ _ _ _ _ _ _ _ _ _ _ _ _ _ _ _ _ _ _ _ _ _ _ _ _ _ _ _ _ _ _ _ _ _ _ _ _ _ _ _ _ _ _ _ _ _ _ _ _ _ _ _ _ _ _ _ _ _ _ _ _ _ _ _ _ _ _ _ _ _ _ _ _ _ _ _ _ _ _ _ _ _ _ _ _ _ _ _ _ _ _ _ _ _ _ _ _ _ _ _ _ _ _ _ _ _ _ _ _ _ _ _ _ _ _ _ _ _ _ _ _ _ _ _ _ _ _ _ _ _ _ _ _ _ _ _ _ _ _ _ _ _ _ _ _ _ _ _ _ _ _ _ _ _ _ _ _ _ _ _
end Go.Proofs.YtpabmidjfpabdaaGreat.T1
