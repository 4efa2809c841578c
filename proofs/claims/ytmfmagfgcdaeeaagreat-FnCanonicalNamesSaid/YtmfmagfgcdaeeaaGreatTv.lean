/- The law of canonical names: likeness. No conditions. -/
import Derived.Test.YtmfmagfgcdaeeaaGreatHbt
import Derived.Test.YtmfmagfgcdaeeaaGreatTu
import Derived.Deep.CutRange
import Derived.Deep.DeepCutAuto
import Derived.Deep.LoopGhost
namespace Go.Proofs.YtmfmagfgcdaeeaaGreat.T1
open Go.RowKit
set_option maxRecDepth 100000
set_option linter.unusedVariables false
set_option linter.unusedSimpArgs false
/-- The statements behind the first n. -/
def drpC : Nat → Code → Code
  | 0, c => c
  | n + 1, .seq _ b => drpC n b
  | _, c => c
noncomputable def bodyC : Code := (Tryz.f3.body).getD .skip
def PostC (w : World) : Ending → World → Prop := fun e w' => e = .returned (.bool true) ∧ Below w.heap.size w w'
set_option maxHeartbeats 20000000 in
theorem tsE (a0 : Option Addr) (n0 c0 : Nat) (a1 : Option Addr) (n1 c1 : Nat) (w wc0 : World) (A0 : Hid (Arg w a0 n0)) (A1 : Hid (Arg w a1 n1)) (B0 : Hid (Below w.heap.size w wc0)) (s2 s3 s4 s5 s6 s7 s8 s9 s10 s11 s12 s13 s14 s15 s16 s17 s18 s19 s20 s21 s22 s23 s24 s25 s26 s27 s28 s29 s30 s31 s32 s33 s34 s35 s36 s37 s38 s39 s40 s41 s42 s43 s44 s45 s46 s47 s48 s49 s50 s51 s52 s53 s54 s55 s56 s57 s58 s59 s60 s61 s62 s63 s64 s65 s66 s67 s68 s69 s70 s71 s72 s73 s74 s75 s76 s77 s78 s79 s80 s81 s82 s83 s84 s85 s86 s87 s88 s89 s90 s91 s92 s93 s94 s95 s96 s97 s98 s99 s100 s101 s102 s103 s104 s105 s106 s107 s108 s109 s110 s111 s112 s113 s114 s115 s116 s117 s118 s119 s120 s121 s122 s123 s124 s125 s126 s127 s128 s129 s130 s131 s132 s133 s134 s135 s136 s137 s138 s139 s140 s141 s142 s143 s144 s145 s146 s147 s148 s149 s150 s151 s152 s153 s154 s155 s156 s157 s158 s159 s160 s161 s162 s163 s164 s165 s166 s167 s168 s169 s170 s171 s172 s173 s174 s175 s176 s177 s178 s179 s180 s181 s182 s183 s184 s185 s186 s187 s188 s189 s190 s191 s192 s193 s194 s195 s196 s197 s198 s199 s200 s201 s202 s203 s204 s205 s206 s207 s208 s209 s210 s211 s212 s213 s214 s215 s216 s217 s218 s219 s220 : Value) :
    Code.wp Tryz.prog (drpC 7 bodyC) (bodyPost Tryz.prog Tryz.f3 (PostC w)) ⟨#[.slice a0 n0 c0, .slice a1 n1 c1, s2, s3, s4, s5, s6, s7, s8, s9, s10, s11, s12, s13, s14, s15, s16, s17, s18, s19, s20, s21, s22, s23, s24, s25, s26, s27, s28, s29, s30, s31, s32, s33, s34, s35, s36, s37, s38, s39, s40, s41, s42, s43, s44, s45, s46, s47, s48, s49, s50, s51, s52, s53, s54, s55, s56, s57, s58, s59, s60, s61, s62, s63, s64, s65, s66, s67, s68, s69, s70, s71, s72, s73, s74, s75, s76, s77, s78, s79, s80, s81, s82, s83, s84, s85, s86, s87, s88, s89, s90, s91, s92, s93, s94, s95, s96, s97, s98, s99, s100, s101, s102, s103, s104, s105, s106, s107, s108, s109, s110, s111, s112, s113, s114, s115, s116, s117, s118, s119, s120, s121, s122, s123, s124, s125, s126, s127, s128, s129, s130, s131, s132, s133, s134, s135, s136, s137, s138, s139, s140, s141, s142, s143, s144, s145, s146, s147, s148, s149, s150, s151, s152, s153, s154, s155, s156, s157, s158, s159, s160, s161, s162, s163, s164, s165, s166, s167, s168, s169, s170, s171, s172, s173, s174, s175, s176, s177, s178, s179, s180, s181, s182, s183, s184, s185, s186, s187, s188, s189, s190, s191, s192, s193, s194, s195, s196, s197, s198, s199, s200, s201, s202, s203, s204, s205, s206, s207, s208, s209, s210, s211, s212, s213, s214, s215, s216, s217, s218, s219, s220], []⟩ wc0 := by
  unfold PostC
  conv => arg 2; whnf
  dsimp only
  go_wp2_with fail
  with_reducible refine (dAreAlpha_any a1 n1 c1 _ (A1.out.below B0.out)).mono ?_
  rintro e z1 ⟨⟨s, k, rfl, hs, hk⟩, b1⟩
  have B1 := Lib.hid (B0.out.trans (b1.mono B0.out.size))
  clear b1 B0
  obtain ⟨n, b, hsp, him, hb, hb2⟩ := alphaJ s k (by omega) (by omega)
  have ALi := Lib.hid (fun w => him w)
  have ALs := Lib.hid (fun w => hsp w)
  have HV := Lib.hid (And.intro hs (And.intro hk hb))
  have hnn : (n != n) = false := by cases n <;> rfl
  have hbb : (b != b) = false := by cases b <;> rfl
  clear hsp him hb hb2 hs hk
  go_wp2_with fail
  with_reducible refine (ALi.out _).mono ?_
  rintro e z2 ⟨rfl, b2⟩
  have B2 := Lib.hid (B1.out.trans (b2.mono B1.out.size))
  clear b2 B1
  go_wp2_with fail
  with_reducible refine (ALs.out _).mono ?_
  rintro e z3 ⟨rfl, b3⟩
  have B3 := Lib.hid (B2.out.trans (b3.mono B2.out.size))
  clear b3 B2
  go_upto_if 150 with fail
  go_cut [4, 26, 27, 28, 29, 30, 31, 32, 33] from 151 to 200 (fun _ _ _ _ _ _ _ _ _ wx => Hid (Below w.heap.size w wx))
  case first =>
    obtain ⟨hs, hk, hb⟩ := HV.out
    cases b with
    | false =>
      go_wp2_with fail
      go_meet
      case rel => exact B3
    | true =>
      obtain ⟨t, u, hg, hg2, hn⟩ := hb rfl
      obtain ⟨n', b', _, hback, _, hb3⟩ := alphaJ k s (by omega) (by omega)
      obtain ⟨rfl, hn'⟩ := hb3 u t hg2 hg
      have en : n' = n := by
        rw [hn, hn', Bool.eq_iff_iff, decide_eq_true_iff, decide_eq_true_iff]
        exact eq_comm
      subst en
      have hc1 := (canoJ s (by omega)).2
      have hc2 := (canoJ k (by omega)).2
      rw [hg] at hc1
      rw [hg2] at hc2
      obtain ⟨y6, b6, hco, hy6⟩ := congJ s k t u hg hg2 (by omega) (by omega)
      obtain ⟨es, hL, hE, h300, h60⟩ := good_S hg
      obtain ⟨eq, hL2, hE2, h3002, h602⟩ := good_S hg2
      have hb1 := LawAreAlpha.bnd_lt t
      have hb2 := LawAreAlpha.bnd_lt u
      obtain ⟨X, hX⟩ : ∃ X, X = cnT (some t) := ⟨_, rfl⟩
      obtain ⟨Y, hY⟩ : ∃ Y, Y = cnT (some u) := ⟨_, rfl⟩
      obtain ⟨bX, hbX⟩ : ∃ bX, bX = cnB (some t) := ⟨_, rfl⟩
      obtain ⟨bY, hbY⟩ : ∃ bY, bY = cnB (some u) := ⟨_, rfl⟩
      have hXY : bX = true → bY = true → (X.toList == Y.toList) = n' := by
        intro e1 e2
        rw [hbX] at e1; rw [hbY] at e2
        have c1 : canB t = true := e1
        have c2 : canB u = true := e2
        have f1 : X = S (cano t) := by rw [hX]; show (if canB t then S (cano t) else ⟨#[]⟩) = _; rw [c1]; rfl
        have f2 : Y = S (cano u) := by rw [hY]; show (if canB u then S (cano u) else ⟨#[]⟩) = _; rw [c2]; rfl
        obtain ⟨g1, _⟩ := cano_good hg c1
        obtain ⟨g2, _⟩ := cano_good hg2 c2
        rw [hn', Bool.eq_iff_iff, beq_iff_eq, decide_eq_true_iff]
        have ci := cano_iff (t := t) (u := u) (ms := marks) (of_decide_eq_true c1) (of_decide_eq_true c2) marks_nd (by rw [marks_len]; omega) (by rw [marks_len]; omega) (marks_no hL) (marks_no hL2)
        rw [eq_comm (a := can u id marks), ci, f1, f2, ByteArray.toList_eq, ByteArray.toList_eq]
        constructor
        · intro e; rw [e] at g1; exact Option.some.inj (g1.symm.trans g2)
        · intro e; rw [e]
      have hy : n' = true → b6 = true → y6 = true := fun e => hy6 (by rw [hn'] at e; exact (of_decide_eq_true e).symm)
      rw [← hX, ← hbX] at hc1
      rw [← hY, ← hbY] at hc2
      have HB := Lib.hid (fun w => hback w)
      have H1 := Lib.hid (fun w => hc1 w)
      have H2 := Lib.hid (fun w => hc2 w)
      have H3 := Lib.hid (fun w => hco w)
      have HXY := Lib.hid hXY
      have HY6 := Lib.hid hy
      clear HV hs hk hb hg hg2 hn hback hb3 hn' hc1 hc2 hco hy6 es hL hE h300 h60 eq hL2 hE2 h3002 h602 hb1 hb2 hX hY hbX hbY hXY hy
      go_wp2_with fail
      with_reducible refine (HB.out _).mono ?_
      rintro e y1 ⟨rfl, b1⟩
      have B1 := Lib.hid (B3.out.trans (b1.mono B3.out.size))
      clear b1 B3
      go_wp2_with fail
      with_reducible refine (H1.out _).mono ?_
      rintro e y2 ⟨rfl, b2⟩
      have B2 := Lib.hid (B1.out.trans (b2.mono B1.out.size))
      clear b2 B1
      go_wp2_with fail
      with_reducible refine (H2.out _).mono ?_
      rintro e y3 ⟨rfl, b3⟩
      have B3 := Lib.hid (B2.out.trans (b3.mono B2.out.size))
      clear b3 B2
      have hq2 := HXY.out
      cases bX with
      | false =>
        go_wp2_with fail
        with_reducible refine (H3.out _).mono ?_
        rintro e y4 ⟨rfl, b4⟩
        have B4 := Lib.hid (B3.out.trans (b4.mono B3.out.size))
        clear b4 B3
        have hy7 := HY6.out
        cases n' with
        | false =>
          go_wp2_with fail
          go_meet
          case rel => exact B4
        | true =>
          cases b6 with
          | false =>
            go_wp2_with fail
            go_meet
            case rel => exact B4
          | true =>
            have hy8 := hy7 (by trivial) (by trivial)
            subst hy8
            go_wp2_with fail
            go_meet
            case rel => exact B4
      | true =>
        cases bY with
        | false =>
          go_wp2_with fail
          with_reducible refine (H3.out _).mono ?_
          rintro e y4 ⟨rfl, b4⟩
          have B4 := Lib.hid (B3.out.trans (b4.mono B3.out.size))
          clear b4 B3
          have hy7 := HY6.out
          cases n' with
          | false =>
            go_wp2_with fail
            go_meet
            case rel => exact B4
          | true =>
            cases b6 with
            | false =>
              go_wp2_with fail
              go_meet
              case rel => exact B4
            | true =>
              have hy8 := hy7 (by trivial) (by trivial)
              subst hy8
              go_wp2_with fail
              go_meet
              case rel => exact B4
        | true =>
          have hxy := hq2 (by trivial) (by trivial)
          go_wp2_with fail
          with_reducible refine (H3.out _).mono ?_
          rintro e y4 ⟨rfl, b4⟩
          have B4 := Lib.hid (B3.out.trans (b4.mono B3.out.size))
          clear b4 B3
          have hy7 := HY6.out
          cases n' with
          | false =>
            go_wp2_with fail
            go_meet
            case rel => exact B4
          | true =>
            cases b6 with
            | false =>
              go_wp2_with fail
              go_meet
              case rel => exact B4
            | true =>
              have hy8 := hy7 (by trivial) (by trivial)
              subst hy8
              go_wp2_with fail
              go_meet
              case rel => exact B4
  case rest =>
    clear HV ALi ALs
    have B0 := hcut
    clear B3 hcut
    go_wp2_with fail
    with_reducible refine (dIsWellNamed_any a1 n1 c1 _ (A1.out.below B0.out)).mono ?_
    rintro e q1 ⟨⟨s2, rfl, a2⟩, b1⟩
    have B1 := Lib.hid (B0.out.trans (b1.mono B0.out.size))
    clear b1 B0
    obtain ⟨_, es2, hs2, _⟩ := a2
    cases es2
    obtain ⟨hws, hwi⟩ := wellJ s2 (by omega)
    obtain ⟨wv, hwv⟩ : ∃ wv, wv = wnJ (good s2.data.toList) := ⟨_, rfl⟩
    obtain ⟨wb, hwb⟩ : ∃ wb, wb = (good s2.data.toList).isSome := ⟨_, rfl⟩
    rw [← hwv, ← hwb] at hws hwi
    have HWi := Lib.hid (fun w => hwi w)
    have HWs := Lib.hid (fun w => hws w)
    have hww : (wv == wv) = true := by cases wv <;> rfl
    have hwc : (wb == wb) = true := by cases wb <;> rfl
    clear hws hwi hwv hwb hs2
    go_wp2_with fail
    with_reducible refine (HWi.out _).mono ?_
    rintro e q2 ⟨rfl, b2⟩
    have B2 := Lib.hid (B1.out.trans (b2.mono B1.out.size))
    clear b2 B1
    go_wp2_with fail
    with_reducible refine (HWs.out _).mono ?_
    rintro e q3 ⟨rfl, b3⟩
    have B3 := Lib.hid (B2.out.trans (b3.mono B2.out.size))
    clear b3 B2
    go_wp2_with fail
    go_ret
    exact ⟨rfl, B3.out⟩
end Go.Proofs.YtmfmagfgcdaeeaaGreat.T1
