/- The law of names that are used: uses. No conditions. -/
import Derived.Test.YtlhmjcfnfefliaaGreatZc
import Derived.Deep.CutRange
import Derived.Deep.DeepCutAuto
import Derived.Deep.LoopGhost
namespace Go.Proofs.YtlhmjcfnfefliaaGreat.T1
open Go.RowKit
set_option maxRecDepth 100000
set_option linter.unusedVariables false
set_option linter.unusedSimpArgs false
/-- The statements behind the first n. -/
def drpZ : Nat → Code → Code
  | 0, c => c
  | n + 1, .seq _ b => drpZ n b
  | _, c => c
noncomputable def bodyZ : Code := (Tryz.f3.body).getD .skip
def PostZ (w : World) : Ending → World → Prop := fun e w' => e = .returned (.bool true) ∧ Below w.heap.size w w'
set_option maxHeartbeats 20000000 in
theorem zsB (a0 : Option Addr) (n0 c0 : Nat) (a1 : Option Addr) (n1 c1 : Nat) (w wc0 : World) (A0 : Hid (Arg w a0 n0)) (A1 : Hid (Arg w a1 n1)) (B0 : Hid (Below w.heap.size w wc0)) (s k : ByteArray) (x0 x1 x2 : Int) (p0 p1 p b : Bool) (hs : s.size ≤ 1000) (hp0 : p0 = decide (0 < x0)) (hp1 : p1 = decide (0 < x1)) (h0 : 0 ≤ x0 ∧ x0 ≤ 60) (h1 : 0 ≤ x1 ∧ x1 ≤ 60) (hlin : p = true → x0 = 1 ∧ x1 = 1 ∧ x2 = 0) (hb : b = true → ∃ (t : Tm) (c : UInt8), good s.data.toList = some t ∧ nameOf t.free k = some c ∧ (0 < x0 + x1 → ¬ lev6 t c 0)) (s2 s3 s4 s5 s6 s7 s8 s9 s10 s11 s12 s13 s14 s15 s16 s17 s18 s19 s20 s21 s28 s29 s30 s31 s33 s34 s35 s37 s38 s39 s40 s41 s42 s43 s44 s45 s46 s47 s48 s49 s50 s51 s52 s53 s54 s55 s56 s57 s58 s59 s60 s61 s62 s63 s64 s65 s66 s67 s68 s69 s70 s71 s72 s73 s74 s75 s76 s77 s78 s79 s80 s81 s82 s83 s84 s85 s86 s87 s88 s89 s90 s91 s92 s93 s94 s95 s96 s97 s98 s99 s100 s101 s102 s103 s104 s105 s106 s107 s108 s109 s110 s111 s112 s113 s114 s115 s116 s117 s118 s119 s120 s121 s122 s123 s124 s125 s126 s127 s128 s129 s130 s131 s132 s133 s134 s135 s136 s137 s138 s139 s140 s141 s142 s143 s144 s145 s146 s147 s148 s149 s150 s151 s152 s153 s154 s155 s156 s157 s158 s159 s160 s161 s162 s163 s164 s165 s166 s167 s168 s169 s170 s171 s172 s173 s174 s175 s176 s177 s178 s179 s180 s181 s182 s183 s184 s185 s186 s187 s188 s189 s190 s191 s192 s193 s194 s195 s196 s197 s198 s199 s200 s201 s202 s203 s204 s205 s206 s207 s208 s209 s210 s211 s212 s213 s214 s215 s216 s217 s218 s219 s220 s221 s222 s223 s224 s225 s226 s227 s228 s229 s230 s231 s232 s233 s234 s235 s236 s237 s238 s239 s240 s241 s242 s243 s244 s245 s246 s247 s248 s249 s250 s251 s252 s253 s254 s255 s256 s257 s258 s259 s260 s261 s262 s263 s264 s265 s266 s267 s268 s269 s270 s271 s272 s273 s274 s275 s276 s277 s278 s279 s280 s281 s282 s283 s284 s285 s286 s287 s288 s289 s290 s291 s292 s293 s294 s295 s296 s297 s298 s299 s300 s301 : Value) :
    Code.wp Tryz.prog (drpZ 19 bodyZ) (bodyPost Tryz.prog Tryz.f3 (PostZ w)) ⟨#[.slice a0 n0 c0, .slice a1 n1 c1, s2, s3, s4, s5, s6, s7, s8, s9, s10, s11, s12, s13, s14, s15, s16, s17, s18, s19, s20, s21, .string s, .string k, .int .i64 x0, .int .i64 x1, .int .i64 x2, .bool b, s28, s29, s30, s31, .string (ut p0 p1), s33, s34, s35, .bool p, s37, s38, s39, s40, s41, s42, s43, s44, s45, s46, s47, s48, s49, s50, s51, s52, s53, s54, s55, s56, s57, s58, s59, s60, s61, s62, s63, s64, s65, s66, s67, s68, s69, s70, s71, s72, s73, s74, s75, s76, s77, s78, s79, s80, s81, s82, s83, s84, s85, s86, s87, s88, s89, s90, s91, s92, s93, s94, s95, s96, s97, s98, s99, s100, s101, s102, s103, s104, s105, s106, s107, s108, s109, s110, s111, s112, s113, s114, s115, s116, s117, s118, s119, s120, s121, s122, s123, s124, s125, s126, s127, s128, s129, s130, s131, s132, s133, s134, s135, s136, s137, s138, s139, s140, s141, s142, s143, s144, s145, s146, s147, s148, s149, s150, s151, s152, s153, s154, s155, s156, s157, s158, s159, s160, s161, s162, s163, s164, s165, s166, s167, s168, s169, s170, s171, s172, s173, s174, s175, s176, s177, s178, s179, s180, s181, s182, s183, s184, s185, s186, s187, s188, s189, s190, s191, s192, s193, s194, s195, s196, s197, s198, s199, s200, s201, s202, s203, s204, s205, s206, s207, s208, s209, s210, s211, s212, s213, s214, s215, s216, s217, s218, s219, s220, s221, s222, s223, s224, s225, s226, s227, s228, s229, s230, s231, s232, s233, s234, s235, s236, s237, s238, s239, s240, s241, s242, s243, s244, s245, s246, s247, s248, s249, s250, s251, s252, s253, s254, s255, s256, s257, s258, s259, s260, s261, s262, s263, s264, s265, s266, s267, s268, s269, s270, s271, s272, s273, s274, s275, s276, s277, s278, s279, s280, s281, s282, s283, s284, s285, s286, s287, s288, s289, s290, s291, s292, s293, s294, s295, s296, s297, s298, s299, s300, s301], []⟩ wc0 := by
  unfold PostZ
  conv => arg 2; whnf
  dsimp only
  cases b with
  | false =>
    go_wp2_with fail
    go_ret
    exact ⟨rfl, B0.out⟩
  | true =>
    obtain ⟨LL, T, C, q, q2, h6, _, hq⟩ := sixZ s k (by omega)
    have LVi := Lib.hid (fun w => h6.li w)
    have HZ : Hid (q = true → 0 < x0 + x1 → LL ≠ 0) := by
      intro hqt hpos
      obtain ⟨_, t, x, m, ⟨hg, hn, _, hl⟩, rfl, _, _⟩ := hq hqt
      obtain ⟨t', c, hg', hn', hno⟩ := hb rfl
      rw [hg] at hg'; cases hg'
      rw [hn] at hn'; cases hn'
      intro e
      have e' : m = 0 := by omega
      subst e'
      exact hno hpos hl
    have HL := Lib.hid hlin
    have hw : IntKind.i64.wrap (x0 + x1) = x0 + x1 := by rw [IntKind.wrap_i64] <;> omega
    clear h6 hq hb hlin
    have D0 := Lib.hid hp0
    have D1 := Lib.hid hp1
    clear hp0 hp1
    cases p0 with
    | false =>
      have e0 : decide (0 < x0) = false := D0.out.symm
      cases p1 with
      | false =>
        have e1 : decide (0 < x1) = false := D1.out.symm
        cases p with
        | false =>
          obtain ⟨U, hU⟩ : ∃ U, U = ut false false := ⟨_, rfl⟩
          have g1 := gIn_any U 33 (by rw [hU]; decide)
          have g2 := gIn_any U 63 (by rw [hU]; decide)
          rw [show U.data.toList.contains 33 = false by rw [hU]; rfl] at g1
          rw [show U.data.toList.contains 63 = false by rw [hU]; rfl] at g2
          rw [← hU]
          have G1 : Hid (∀ w, Calls Tryz.prog 19 #[.string U, .int .u8 33] w fun e w' => e = .returned (.bool false) ∧ w = w') := fun w => g1 w
          have G2 : Hid (∀ w, Calls Tryz.prog 19 #[.string U, .int .u8 63] w fun e w' => e = .returned (.bool false) ∧ w = w') := fun w => g2 w
          clear g1 g2 hU
          go_wp2_with fail
          with_reducible refine (G1.out _).mono ?_
          rintro e y1 ⟨rfl, rfl⟩
          go_wp2_with fail
          with_reducible refine (G2.out _).mono ?_
          rintro e y2 ⟨rfl, rfl⟩
          go_wp2_with fail
          with_reducible refine (LVi.out _).mono ?_
          rintro e y1 ⟨rfl, hb1, b1⟩
          have B1 := Lib.hid (B0.out.trans (b1.mono B0.out.size))
          clear b1 B0
          have hd0 := HZ.out
          cases q with
          | false =>
            go_wp2_with fail
            go_ret
            exact ⟨rfl, B1.out⟩
          | true =>
            by_cases hpos : 0 < x0 + x1
            · have hL0 : (LL == 0) = false := by have := hd0 (by trivial) hpos; simpa using this
              go_wp2_with fail
              go_ret
              exact ⟨rfl, B1.out⟩
            · have hn : ¬ 0 < x0 + x1 := hpos
              go_wp2_with fail
              go_ret
              exact ⟨rfl, B1.out⟩
        | true =>
          obtain ⟨r0, r1, r2⟩ := HL.out (by trivial)
          subst r0 r1
          first | (exact absurd e0 (by decide)) | (exact absurd e1 (by decide))
      | true =>
        have e1 : decide (0 < x1) = true := D1.out.symm
        cases p with
        | false =>
          obtain ⟨U, hU⟩ : ∃ U, U = ut false true := ⟨_, rfl⟩
          have g1 := gIn_any U 33 (by rw [hU]; decide)
          have g2 := gIn_any U 63 (by rw [hU]; decide)
          rw [show U.data.toList.contains 33 = false by rw [hU]; rfl] at g1
          rw [show U.data.toList.contains 63 = true by rw [hU]; rfl] at g2
          rw [← hU]
          have G1 : Hid (∀ w, Calls Tryz.prog 19 #[.string U, .int .u8 33] w fun e w' => e = .returned (.bool false) ∧ w = w') := fun w => g1 w
          have G2 : Hid (∀ w, Calls Tryz.prog 19 #[.string U, .int .u8 63] w fun e w' => e = .returned (.bool true) ∧ w = w') := fun w => g2 w
          clear g1 g2 hU
          go_wp2_with fail
          with_reducible refine (G1.out _).mono ?_
          rintro e y1 ⟨rfl, rfl⟩
          go_wp2_with fail
          with_reducible refine (G2.out _).mono ?_
          rintro e y2 ⟨rfl, rfl⟩
          go_wp2_with fail
          with_reducible refine (LVi.out _).mono ?_
          rintro e y1 ⟨rfl, hb1, b1⟩
          have B1 := Lib.hid (B0.out.trans (b1.mono B0.out.size))
          clear b1 B0
          have hd0 := HZ.out
          cases q with
          | false =>
            go_wp2_with fail
            go_ret
            exact ⟨rfl, B1.out⟩
          | true =>
            by_cases hpos : 0 < x0 + x1
            · have hL0 : (LL == 0) = false := by have := hd0 (by trivial) hpos; simpa using this
              go_wp2_with fail
              go_ret
              exact ⟨rfl, B1.out⟩
            · have hn : ¬ 0 < x0 + x1 := hpos
              go_wp2_with fail
              go_ret
              exact ⟨rfl, B1.out⟩
        | true =>
          obtain ⟨r0, r1, r2⟩ := HL.out (by trivial)
          subst r0 r1
          first | (exact absurd e0 (by decide)) | (exact absurd e1 (by decide))
    | true =>
      have e0 : decide (0 < x0) = true := D0.out.symm
      cases p1 with
      | false =>
        have e1 : decide (0 < x1) = false := D1.out.symm
        cases p with
        | false =>
          obtain ⟨U, hU⟩ : ∃ U, U = ut true false := ⟨_, rfl⟩
          have g1 := gIn_any U 33 (by rw [hU]; decide)
          have g2 := gIn_any U 63 (by rw [hU]; decide)
          rw [show U.data.toList.contains 33 = true by rw [hU]; rfl] at g1
          rw [show U.data.toList.contains 63 = false by rw [hU]; rfl] at g2
          rw [← hU]
          have G1 : Hid (∀ w, Calls Tryz.prog 19 #[.string U, .int .u8 33] w fun e w' => e = .returned (.bool true) ∧ w = w') := fun w => g1 w
          have G2 : Hid (∀ w, Calls Tryz.prog 19 #[.string U, .int .u8 63] w fun e w' => e = .returned (.bool false) ∧ w = w') := fun w => g2 w
          clear g1 g2 hU
          go_wp2_with fail
          with_reducible refine (G1.out _).mono ?_
          rintro e y1 ⟨rfl, rfl⟩
          go_wp2_with fail
          with_reducible refine (G2.out _).mono ?_
          rintro e y2 ⟨rfl, rfl⟩
          go_wp2_with fail
          with_reducible refine (LVi.out _).mono ?_
          rintro e y1 ⟨rfl, hb1, b1⟩
          have B1 := Lib.hid (B0.out.trans (b1.mono B0.out.size))
          clear b1 B0
          have hd0 := HZ.out
          cases q with
          | false =>
            go_wp2_with fail
            go_ret
            exact ⟨rfl, B1.out⟩
          | true =>
            by_cases hpos : 0 < x0 + x1
            · have hL0 : (LL == 0) = false := by have := hd0 (by trivial) hpos; simpa using this
              go_wp2_with fail
              go_ret
              exact ⟨rfl, B1.out⟩
            · have hn : ¬ 0 < x0 + x1 := hpos
              go_wp2_with fail
              go_ret
              exact ⟨rfl, B1.out⟩
        | true =>
          obtain ⟨r0, r1, r2⟩ := HL.out (by trivial)
          subst r0 r1
          first | (exact absurd e0 (by decide)) | (exact absurd e1 (by decide))
      | true =>
        have e1 : decide (0 < x1) = true := D1.out.symm
        cases p with
        | false =>
          obtain ⟨U, hU⟩ : ∃ U, U = ut true true := ⟨_, rfl⟩
          have g1 := gIn_any U 33 (by rw [hU]; decide)
          have g2 := gIn_any U 63 (by rw [hU]; decide)
          rw [show U.data.toList.contains 33 = true by rw [hU]; rfl] at g1
          rw [show U.data.toList.contains 63 = true by rw [hU]; rfl] at g2
          rw [← hU]
          have G1 : Hid (∀ w, Calls Tryz.prog 19 #[.string U, .int .u8 33] w fun e w' => e = .returned (.bool true) ∧ w = w') := fun w => g1 w
          have G2 : Hid (∀ w, Calls Tryz.prog 19 #[.string U, .int .u8 63] w fun e w' => e = .returned (.bool true) ∧ w = w') := fun w => g2 w
          clear g1 g2 hU
          go_wp2_with fail
          with_reducible refine (G1.out _).mono ?_
          rintro e y1 ⟨rfl, rfl⟩
          go_wp2_with fail
          with_reducible refine (G2.out _).mono ?_
          rintro e y2 ⟨rfl, rfl⟩
          go_wp2_with fail
          with_reducible refine (LVi.out _).mono ?_
          rintro e y1 ⟨rfl, hb1, b1⟩
          have B1 := Lib.hid (B0.out.trans (b1.mono B0.out.size))
          clear b1 B0
          have hd0 := HZ.out
          cases q with
          | false =>
            go_wp2_with fail
            go_ret
            exact ⟨rfl, B1.out⟩
          | true =>
            by_cases hpos : 0 < x0 + x1
            · have hL0 : (LL == 0) = false := by have := hd0 (by trivial) hpos; simpa using this
              go_wp2_with fail
              go_ret
              exact ⟨rfl, B1.out⟩
            · have hn : ¬ 0 < x0 + x1 := hpos
              go_wp2_with fail
              go_ret
              exact ⟨rfl, B1.out⟩
        | true =>
          obtain ⟨U, hU⟩ : ∃ U, U = ut true true := ⟨_, rfl⟩
          have g1 := gIn_any U 33 (by rw [hU]; decide)
          have g2 := gIn_any U 63 (by rw [hU]; decide)
          rw [show U.data.toList.contains 33 = true by rw [hU]; rfl] at g1
          rw [show U.data.toList.contains 63 = true by rw [hU]; rfl] at g2
          rw [← hU]
          have G1 : Hid (∀ w, Calls Tryz.prog 19 #[.string U, .int .u8 33] w fun e w' => e = .returned (.bool true) ∧ w = w') := fun w => g1 w
          have G2 : Hid (∀ w, Calls Tryz.prog 19 #[.string U, .int .u8 63] w fun e w' => e = .returned (.bool true) ∧ w = w') := fun w => g2 w
          clear g1 g2 hU
          go_wp2_with fail
          with_reducible refine (G1.out _).mono ?_
          rintro e y1 ⟨rfl, rfl⟩
          go_wp2_with fail
          with_reducible refine (G2.out _).mono ?_
          rintro e y2 ⟨rfl, rfl⟩
          obtain ⟨rfl, rfl, rfl⟩ := HL.out (by trivial)
          go_wp2_with fail
          with_reducible refine (LVi.out _).mono ?_
          rintro e y1 ⟨rfl, hb1, b1⟩
          have B1 := Lib.hid (B0.out.trans (b1.mono B0.out.size))
          clear b1 B0
          have hd0 := HZ.out
          cases q with
          | false =>
            go_wp2_with fail
            go_ret
            exact ⟨rfl, B1.out⟩
          | true =>
            have hL0 : (LL == 0) = false := by have := hd0 (by trivial) (by decide); simpa using this
            go_wp2_with fail
            go_ret
            exact ⟨rfl, B1.out⟩
set_option maxHeartbeats 20000000 in
theorem zsE (a0 : Option Addr) (n0 c0 : Nat) (a1 : Option Addr) (n1 c1 : Nat) (w wc0 : World) (A0 : Hid (Arg w a0 n0)) (A1 : Hid (Arg w a1 n1)) (B0 : Hid (Below w.heap.size w wc0)) (s2 s3 s4 s5 s6 s7 s8 s9 s10 s11 s12 s13 s14 s15 s16 s17 s18 s19 s20 s21 s22 s23 s24 s25 s26 s27 s28 s29 s30 s31 s32 s33 s34 s35 s36 s37 s38 s39 s40 s41 s42 s43 s44 s45 s46 s47 s48 s49 s50 s51 s52 s53 s54 s55 s56 s57 s58 s59 s60 s61 s62 s63 s64 s65 s66 s67 s68 s69 s70 s71 s72 s73 s74 s75 s76 s77 s78 s79 s80 s81 s82 s83 s84 s85 s86 s87 s88 s89 s90 s91 s92 s93 s94 s95 s96 s97 s98 s99 s100 s101 s102 s103 s104 s105 s106 s107 s108 s109 s110 s111 s112 s113 s114 s115 s116 s117 s118 s119 s120 s121 s122 s123 s124 s125 s126 s127 s128 s129 s130 s131 s132 s133 s134 s135 s136 s137 s138 s139 s140 s141 s142 s143 s144 s145 s146 s147 s148 s149 s150 s151 s152 s153 s154 s155 s156 s157 s158 s159 s160 s161 s162 s163 s164 s165 s166 s167 s168 s169 s170 s171 s172 s173 s174 s175 s176 s177 s178 s179 s180 s181 s182 s183 s184 s185 s186 s187 s188 s189 s190 s191 s192 s193 s194 s195 s196 s197 s198 s199 s200 s201 s202 s203 s204 s205 s206 s207 s208 s209 s210 s211 s212 s213 s214 s215 s216 s217 s218 s219 s220 s221 s222 s223 s224 s225 s226 s227 s228 s229 s230 s231 s232 s233 s234 s235 s236 s237 s238 s239 s240 s241 s242 s243 s244 s245 s246 s247 s248 s249 s250 s251 s252 s253 s254 s255 s256 s257 s258 s259 s260 s261 s262 s263 s264 s265 s266 s267 s268 s269 s270 s271 s272 s273 s274 s275 s276 s277 s278 s279 s280 s281 s282 s283 s284 s285 s286 s287 s288 s289 s290 s291 s292 s293 s294 s295 s296 s297 s298 s299 s300 s301 : Value) :
    Code.wp Tryz.prog (drpZ 11 bodyZ) (bodyPost Tryz.prog Tryz.f3 (PostZ w)) ⟨#[.slice a0 n0 c0, .slice a1 n1 c1, s2, s3, s4, s5, s6, s7, s8, s9, s10, s11, s12, s13, s14, s15, s16, s17, s18, s19, s20, s21, s22, s23, s24, s25, s26, s27, s28, s29, s30, s31, s32, s33, s34, s35, s36, s37, s38, s39, s40, s41, s42, s43, s44, s45, s46, s47, s48, s49, s50, s51, s52, s53, s54, s55, s56, s57, s58, s59, s60, s61, s62, s63, s64, s65, s66, s67, s68, s69, s70, s71, s72, s73, s74, s75, s76, s77, s78, s79, s80, s81, s82, s83, s84, s85, s86, s87, s88, s89, s90, s91, s92, s93, s94, s95, s96, s97, s98, s99, s100, s101, s102, s103, s104, s105, s106, s107, s108, s109, s110, s111, s112, s113, s114, s115, s116, s117, s118, s119, s120, s121, s122, s123, s124, s125, s126, s127, s128, s129, s130, s131, s132, s133, s134, s135, s136, s137, s138, s139, s140, s141, s142, s143, s144, s145, s146, s147, s148, s149, s150, s151, s152, s153, s154, s155, s156, s157, s158, s159, s160, s161, s162, s163, s164, s165, s166, s167, s168, s169, s170, s171, s172, s173, s174, s175, s176, s177, s178, s179, s180, s181, s182, s183, s184, s185, s186, s187, s188, s189, s190, s191, s192, s193, s194, s195, s196, s197, s198, s199, s200, s201, s202, s203, s204, s205, s206, s207, s208, s209, s210, s211, s212, s213, s214, s215, s216, s217, s218, s219, s220, s221, s222, s223, s224, s225, s226, s227, s228, s229, s230, s231, s232, s233, s234, s235, s236, s237, s238, s239, s240, s241, s242, s243, s244, s245, s246, s247, s248, s249, s250, s251, s252, s253, s254, s255, s256, s257, s258, s259, s260, s261, s262, s263, s264, s265, s266, s267, s268, s269, s270, s271, s272, s273, s274, s275, s276, s277, s278, s279, s280, s281, s282, s283, s284, s285, s286, s287, s288, s289, s290, s291, s292, s293, s294, s295, s296, s297, s298, s299, s300, s301], []⟩ wc0 := by
  unfold PostZ
  conv => arg 2; whnf
  dsimp only
  go_wp2_with fail
  with_reducible refine (dCountUses_any a1 n1 c1 _ (A1.out.below B0.out)).mono ?_
  rintro e z1 ⟨⟨s, k, rfl, hs, hk⟩, b1⟩
  have B1 := Lib.hid (B0.out.trans (b1.mono B0.out.size))
  clear b1 B0
  obtain ⟨x0, x1, x2, p0, p1, p, b, hU, hp0, hp1, h0, h1, h2, hlin, hb⟩ := useZ s k (by omega)
  have CUi := Lib.hid (fun w => hU.ci w)
  have CUs := Lib.hid (fun w => hU.cs w)
  have USi := Lib.hid (fun w => hU.ui w)
  have USs := Lib.hid (fun w => hU.us w)
  have ILi := Lib.hid (fun w => hU.li w)
  have ILs := Lib.hid (fun w => hU.ls w)
  have HV := Lib.hid (And.intro hs (And.intro hp0 (And.intro hp1 (And.intro h0 (And.intro h1 (And.intro hlin hb))))))
  have hbb : (b != b) = false := by cases b <;> rfl
  have hpp : (p != p) = false := by cases p <;> rfl
  clear hU hs hk hp0 hp1 h0 h1 h2 hlin hb
  go_wp2_with fail
  with_reducible refine (CUi.out _).mono ?_
  rintro e z2 ⟨rfl, b2⟩
  have B2 := Lib.hid (B1.out.trans (b2.mono B1.out.size))
  clear b2 B1
  go_wp2_with fail
  with_reducible refine (CUs.out _).mono ?_
  rintro e z3 ⟨rfl, b3⟩
  have B3 := Lib.hid (B2.out.trans (b3.mono B2.out.size))
  clear b3 B2
  go_wp2_with fail
  with_reducible refine (USi.out _).mono ?_
  rintro e z4 ⟨rfl, b4⟩
  have B4 := Lib.hid (B3.out.trans (b4.mono B3.out.size))
  clear b4 B3
  go_wp2_with fail
  with_reducible refine (USs.out _).mono ?_
  rintro e z5 ⟨rfl, b5⟩
  have B5 := Lib.hid (B4.out.trans (b5.mono B4.out.size))
  clear b5 B4
  go_wp2_with fail
  with_reducible refine (ILi.out _).mono ?_
  rintro e z6 ⟨rfl, b6⟩
  have B6 := Lib.hid (B5.out.trans (b6.mono B5.out.size))
  clear b6 B5
  go_wp2_with fail
  with_reducible refine (ILs.out _).mono ?_
  rintro e z7 ⟨rfl, b7⟩
  have B7 := Lib.hid (B6.out.trans (b7.mono B6.out.size))
  clear b7 B6
  go_upto_if 256 with fail
  go_cut [] from 256 to 256 (fun wx => wx = z7)
  case first =>
    go_wp2_with fail
    go_meet
    case rel => rfl
  case rest =>
    subst hcut
    obtain ⟨hs, hp0, hp1, h0, h1, hlin, hb⟩ := HV.out
    clear HV CUi CUs USi USs ILi ILs
    rename_i KK aK
    refine aK _ _ ?_
    exact zsB a0 n0 c0 a1 n1 c1 w _ A0 A1 B7 s k x0 x1 x2 p0 p1 p b hs hp0 hp1 h0 h1 hlin hb _ _ _ _ _ _ _ _ _ _ _ _ _ _ _ _ _ _ _ _ _ _ _ _ _ _ _ _ _ _ _ _ _ _ _ _ _ _ _ _ _ _ _ _ _ _ _ _ _ _ _ _ _ _ _ _ _ _ _ _ _ _ _ _ _ _ _ _ _ _ _ _ _ _ _ _ _ _ _ _ _ _ _ _ _ _ _ _ _ _ _ _ _ _ _ _ _ _ _ _ _ _ _ _ _ _ _ _ _ _ _ _ _ _ _ _ _ _ _ _ _ _ _ _ _ _ _ _ _ _ _ _ _ _ _ _ _ _ _ _ _ _ _ _ _ _ _ _ _ _ _ _ _ _ _ _ _ _ _ _ _ _ _ _ _ _ _ _ _ _ _ _ _ _ _ _ _ _ _ _ _ _ _ _ _ _ _ _ _ _ _ _ _ _ _ _ _ _ _ _ _ _ _ _ _ _ _ _ _ _ _ _ _ _ _ _ _ _ _ _ _ _ _ _ _ _ _ _ _ _ _ _ _ _ _ _ _ _ _ _ _ _ _ _ _ _ _ _ _ _ _ _ _ _ _ _ _ _ _ _ _ _ _ _ _ _ _ _ _ _ _ _ _ _ _ _ _ _ _ _ _ _ _ _ _ _ _ _ _ _ _ _
end Go.Proofs.YtlhmjcfnfefliaaGreat.T1
