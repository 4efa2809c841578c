/- The law of names: a renaming, and what it does to the names. No conditions. -/
import Derived.Test.YtpabmidjfpabdaaGreatYg
import Derived.Deep.CutRange
import Derived.Deep.DeepCutAuto
import Derived.Deep.LoopGhost
namespace Go.Proofs.YtpabmidjfpabdaaGreat.T1
open Go.RowKit
set_option maxRecDepth 100000
set_option linter.unusedVariables false
set_option linter.unusedSimpArgs false
set_option maxHeartbeats 20000000 in
theorem nsA (a0 : Option Addr) (n0 c0 : Nat) (a1 : Option Addr) (n1 c1 : Nat) (w wc0 : World) (A0 : Hid (Arg w a0 n0)) (A1 : Hid (Arg w a1 n1)) (B0 : Hid (Below w.heap.size w wc0)) (s k q n fB fA : ByteArray) (Z : Int) (hs : s.size ≤ 1000) (hk : k.size ≤ 2) (hq : q.size ≤ 1) (hn : n.size ≤ 300) (hfB : fB.size ≤ 26) (hfA : fA.size ≤ 26) (o1 : oinV k fB = true) (o6 : oinV q fB = true) (o2 : oinV q fA = true) (o4 : oinV fA (fB ++ q) = true) (o5 : oinV fB (fA ++ k) = true) (hkq : k = q) (hFs : AnsN 8 #[.string s] (.tuple #[.string fB, .bool true])) (hFn : AnsN 8 #[.string n] (.tuple #[.string fA, .bool true])) (hSs : AnsN 9 #[.string s] (.tuple #[.int .i64 Z, .bool true])) (hSn : AnsN 9 #[.string n] (.tuple #[.int .i64 Z, .bool true])) (s2 s3 s4 s10 s11 s12 s13 s14 s15 s16 s17 s18 s19 s20 s21 s22 s23 s24 s25 s26 s27 s28 s29 s30 s31 s32 s33 s34 s35 s36 s37 s38 s39 s40 s41 s42 s43 s44 s45 s46 s47 s48 s49 s50 s51 s52 s53 s54 s55 s56 s57 s58 s59 s60 s61 s62 s63 s64 s65 s66 s67 s68 s69 s70 s71 s72 s73 s74 s75 s76 s77 s78 s79 s80 s81 s82 s83 s84 s85 s86 s87 s88 s89 s90 s91 s92 s93 s94 s95 s96 s97 s98 s99 s100 s101 s102 s103 s104 s105 s106 s107 s108 s109 s110 s111 s112 s113 s114 s115 s116 s117 s118 s119 s120 s121 s122 s123 s124 s125 s126 s127 s128 s129 s130 s131 s132 s133 s134 s135 s136 s137 s138 s139 s140 s141 s142 s143 s144 s145 s146 s147 s148 s149 s150 s151 s152 s153 s154 s155 s156 s157 s158 s159 s160 s161 s162 s163 s164 s165 s166 s167 s168 s169 s170 s171 s172 s173 s174 s175 s176 s177 s178 s179 s180 s181 s182 s183 s184 s185 s186 s187 s188 s189 s190 s191 s192 s193 s194 s195 s196 s197 s198 s199 s200 s201 s202 s203 s204 s205 s206 s207 s208 s209 s210 s211 s212 s213 s214 s215 s216 s217 s218 s219 s220 s221 s222 s223 s224 s225 s226 s227 s228 s229 s230 s231 s232 s233 s234 s235 s236 s237 s238 s239 s240 s241 s242 s243 s244 s245 s246 s247 s248 s249 s250 s251 s252 s253 s254 s255 s256 s257 s258 s259 s260 s261 s262 s263 s264 s265 s266 s267 s268 s269 s270 s271 s272 s273 s274 s275 s276 s277 s278 s279 s280 s281 s282 s283 s284 s285 s286 s287 s288 s289 s290 s291 s292 s293 s294 s295 s296 s297 s298 s299 s300 s301 s302 s303 s304 s305 : Value) :
    Code.wp Tryz.prog (drpN 6 bodyN) (bodyPost Tryz.prog Tryz.f3 (PostN w)) ⟨#[.slice a0 n0 c0, .slice a1 n1 c1, s2, s3, s4, .string s, .string k, .string q, .string n, .bool true, s10, s11, s12, s13, s14, s15, s16, s17, s18, s19, s20, s21, s22, s23, s24, s25, s26, s27, s28, s29, s30, s31, s32, s33, s34, s35, s36, s37, s38, s39, s40, s41, s42, s43, s44, s45, s46, s47, s48, s49, s50, s51, s52, s53, s54, s55, s56, s57, s58, s59, s60, s61, s62, s63, s64, s65, s66, s67, s68, s69, s70, s71, s72, s73, s74, s75, s76, s77, s78, s79, s80, s81, s82, s83, s84, s85, s86, s87, s88, s89, s90, s91, s92, s93, s94, s95, s96, s97, s98, s99, s100, s101, s102, s103, s104, s105, s106, s107, s108, s109, s110, s111, s112, s113, s114, s115, s116, s117, s118, s119, s120, s121, s122, s123, s124, s125, s126, s127, s128, s129, s130, s131, s132, s133, s134, s135, s136, s137, s138, s139, s140, s141, s142, s143, s144, s145, s146, s147, s148, s149, s150, s151, s152, s153, s154, s155, s156, s157, s158, s159, s160, s161, s162, s163, s164, s165, s166, s167, s168, s169, s170, s171, s172, s173, s174, s175, s176, s177, s178, s179, s180, s181, s182, s183, s184, s185, s186, s187, s188, s189, s190, s191, s192, s193, s194, s195, s196, s197, s198, s199, s200, s201, s202, s203, s204, s205, s206, s207, s208, s209, s210, s211, s212, s213, s214, s215, s216, s217, s218, s219, s220, s221, s222, s223, s224, s225, s226, s227, s228, s229, s230, s231, s232, s233, s234, s235, s236, s237, s238, s239, s240, s241, s242, s243, s244, s245, s246, s247, s248, s249, s250, s251, s252, s253, s254, s255, s256, s257, s258, s259, s260, s261, s262, s263, s264, s265, s266, s267, s268, s269, s270, s271, s272, s273, s274, s275, s276, s277, s278, s279, s280, s281, s282, s283, s284, s285, s286, s287, s288, s289, s290, s291, s292, s293, s294, s295, s296, s297, s298, s299, s300, s301, s302, s303, s304, s305], []⟩ wc0 := by
  unfold PostN
  conv => arg 2; whnf
  dsimp only
  go_upto_if 75 with fail
  go_cut [4, 12, 13, 14, 15, 16, 17, 18, 19, 20, 21, 22, 23] from 76 to 177 (fun _ _ _ _ _ _ _ _ _ _ _ _ _ wx => Hid (Below w.heap.size w wx))
  case first =>
    have FRs := Lib.hid (fun w => hFs w)
    have FRn := Lib.hid (fun w => hFn w)
    have SZs := Lib.hid (fun w => hSs w)
    have SZn := Lib.hid (fun w => hSn w)
    subst hkq
    clear hFs hFn hSs hSn
    go_wp2_with fail
    with_reducible refine (FRs.out _).mono ?_
    rintro e y1 ⟨rfl, b1⟩
    have B1 := Lib.hid (B0.out.trans (b1.mono B0.out.size))
    clear b1 B0
    go_wp2_with fail
    with_reducible refine (FRn.out _).mono ?_
    rintro e y2 ⟨rfl, b2⟩
    have B2 := Lib.hid (B1.out.trans (b2.mono B1.out.size))
    clear b2 B1
    go_wp2_with fail
    with_reducible refine (SZs.out _).mono ?_
    rintro e y3 ⟨rfl, b3⟩
    have B3 := Lib.hid (B2.out.trans (b3.mono B2.out.size))
    clear b3 B2
    go_wp2_with fail
    with_reducible refine (SZn.out _).mono ?_
    rintro e y4 ⟨rfl, b4⟩
    have B4 := Lib.hid (B3.out.trans (b4.mono B3.out.size))
    clear b4 B3
    go_wp2_with fail
    with_reducible refine (oIn_any k fB (by omega) (by omega) _).mono ?_
    rintro e y5 ⟨he5, b5⟩
    rw [o1] at he5
    subst he5
    have B5 := Lib.hid (B4.out.trans (b5.mono B4.out.size))
    clear b5 B4
    go_wp2_with fail
    with_reducible refine (oIn_any k fA (by omega) (by omega) _).mono ?_
    rintro e y6 ⟨he6, b6⟩
    rw [o2] at he6
    subst he6
    have B6 := Lib.hid (B5.out.trans (b6.mono B5.out.size))
    clear b6 B5
    go_wp2_with fail
    with_reducible refine (oIn_any fA (fB ++ k) (by omega) (by rw [ByteArray.size_append]; omega) _).mono ?_
    rintro e y7 ⟨he7, b7⟩
    rw [o4] at he7
    subst he7
    have B7 := Lib.hid (B6.out.trans (b7.mono B6.out.size))
    clear b7 B6
    go_wp2_with fail
    with_reducible refine (oIn_any fB (fA ++ k) (by omega) (by rw [ByteArray.size_append]; omega) _).mono ?_
    rintro e y8 ⟨he8, b8⟩
    rw [o5] at he8
    subst he8
    have B8 := Lib.hid (B7.out.trans (b8.mono B7.out.size))
    clear b8 B7
    go_wp2_with fail
    with_reducible refine (oIn_any k fB (by omega) (by omega) _).mono ?_
    rintro e y9 ⟨he9, b9⟩
    rw [o6] at he9
    subst he9
    have B9 := Lib.hid (B8.out.trans (b9.mono B8.out.size))
    clear b9 B8
    go_wp2_with fail
    go_meet
    case rel => exact B9
  case rest =>
      rename_i KK aK
      refine aK _ _ ?_
      exact nsR a0 n0 c0 a1 n1 c1 w _ A0 A1 hcut _ _ _ _ _ _ _ _ _ _ _ _ _ _ _ _ _ _ _ _ _ _ _ _ _ _ _ _ _ _ _ _ _ _ _ _ _ _ _ _ _ _ _ _ _ _ _ _ _ _ _ _ _ _ _ _ _ _ _ _ _ _ _ _ _ _ _ _ _ _ _ _ _ _ _ _ _ _ _ _ _ _ _ _ _ _ _ _ _ _ _ _ _ _ _ _ _ _ _ _ _ _ _ _ _ _ _ _ _ _ _ _ _ _ _ _ _ _ _ _ _ _ _ _ _ _ _ _ _ _ _ _ _ _ _ _ _ _ _ _ _ _ _ _ _ _ _ _ _ _ _ _ _ _ _ _ _ _ _ _ _ _ _ _ _ _ _ _ _ _ _ _ _ _ _ _ _ _ _ _ _ _ _ _ _ _ _ _ _ _ _ _ _ _ _ _ _ _ _ _ _ _ _ _ _ _ _ _ _ _ _ _ _ _ _ _ _ _ _ _ _ _ _ _ _ _ _ _ _ _ _ _ _ _ _ _ _ _ _ _ _ _ _ _ _ _ _ _ _ _ _ _ _ _ _ _ _ _ _ _ _ _ _ _ _ _ _ _ _ _ _ _ _ _ _ _ _ _ _ _ _ _ _ _ _ _ _ _ _ _ _ _ _ _ _ _ _ _ _ _ _ _ _ _
set_option maxHeartbeats 20000000 in
theorem nsB (a0 : Option Addr) (n0 c0 : Nat) (a1 : Option Addr) (n1 c1 : Nat) (w wc0 : World) (A0 : Hid (Arg w a0 n0)) (A1 : Hid (Arg w a1 n1)) (B0 : Hid (Below w.heap.size w wc0)) (s k q n fB fA : ByteArray) (Z : Int) (hs : s.size ≤ 1000) (hk : k.size ≤ 2) (hq : q.size ≤ 1) (hn : n.size ≤ 300) (hfB : fB.size ≤ 26) (hfA : fA.size ≤ 26) (o1 : oinV k fB = true) (o6 : oinV q fB = true) (o2 : oinV q fA = true) (o4 : oinV fA (fB ++ q) = true) (o5 : oinV fB (fA ++ k) = true) (hkq : (k.toList == q.toList) = false) (o3 : oinV k fA = false) (hFs : AnsN 8 #[.string s] (.tuple #[.string fB, .bool true])) (hFn : AnsN 8 #[.string n] (.tuple #[.string fA, .bool true])) (hSs : AnsN 9 #[.string s] (.tuple #[.int .i64 Z, .bool true])) (hSn : AnsN 9 #[.string n] (.tuple #[.int .i64 Z, .bool true])) (s2 s3 s4 s10 s11 s12 s13 s14 s15 s16 s17 s18 s19 s20 s21 s22 s23 s24 s25 s26 s27 s28 s29 s30 s31 s32 s33 s34 s35 s36 s37 s38 s39 s40 s41 s42 s43 s44 s45 s46 s47 s48 s49 s50 s51 s52 s53 s54 s55 s56 s57 s58 s59 s60 s61 s62 s63 s64 s65 s66 s67 s68 s69 s70 s71 s72 s73 s74 s75 s76 s77 s78 s79 s80 s81 s82 s83 s84 s85 s86 s87 s88 s89 s90 s91 s92 s93 s94 s95 s96 s97 s98 s99 s100 s101 s102 s103 s104 s105 s106 s107 s108 s109 s110 s111 s112 s113 s114 s115 s116 s117 s118 s119 s120 s121 s122 s123 s124 s125 s126 s127 s128 s129 s130 s131 s132 s133 s134 s135 s136 s137 s138 s139 s140 s141 s142 s143 s144 s145 s146 s147 s148 s149 s150 s151 s152 s153 s154 s155 s156 s157 s158 s159 s160 s161 s162 s163 s164 s165 s166 s167 s168 s169 s170 s171 s172 s173 s174 s175 s176 s177 s178 s179 s180 s181 s182 s183 s184 s185 s186 s187 s188 s189 s190 s191 s192 s193 s194 s195 s196 s197 s198 s199 s200 s201 s202 s203 s204 s205 s206 s207 s208 s209 s210 s211 s212 s213 s214 s215 s216 s217 s218 s219 s220 s221 s222 s223 s224 s225 s226 s227 s228 s229 s230 s231 s232 s233 s234 s235 s236 s237 s238 s239 s240 s241 s242 s243 s244 s245 s246 s247 s248 s249 s250 s251 s252 s253 s254 s255 s256 s257 s258 s259 s260 s261 s262 s263 s264 s265 s266 s267 s268 s269 s270 s271 s272 s273 s274 s275 s276 s277 s278 s279 s280 s281 s282 s283 s284 s285 s286 s287 s288 s289 s290 s291 s292 s293 s294 s295 s296 s297 s298 s299 s300 s301 s302 s303 s304 s305 : Value) :
    Code.wp Tryz.prog (drpN 6 bodyN) (bodyPost Tryz.prog Tryz.f3 (PostN w)) ⟨#[.slice a0 n0 c0, .slice a1 n1 c1, s2, s3, s4, .string s, .string k, .string q, .string n, .bool true, s10, s11, s12, s13, s14, s15, s16, s17, s18, s19, s20, s21, s22, s23, s24, s25, s26, s27, s28, s29, s30, s31, s32, s33, s34, s35, s36, s37, s38, s39, s40, s41, s42, s43, s44, s45, s46, s47, s48, s49, s50, s51, s52, s53, s54, s55, s56, s57, s58, s59, s60, s61, s62, s63, s64, s65, s66, s67, s68, s69, s70, s71, s72, s73, s74, s75, s76, s77, s78, s79, s80, s81, s82, s83, s84, s85, s86, s87, s88, s89, s90, s91, s92, s93, s94, s95, s96, s97, s98, s99, s100, s101, s102, s103, s104, s105, s106, s107, s108, s109, s110, s111, s112, s113, s114, s115, s116, s117, s118, s119, s120, s121, s122, s123, s124, s125, s126, s127, s128, s129, s130, s131, s132, s133, s134, s135, s136, s137, s138, s139, s140, s141, s142, s143, s144, s145, s146, s147, s148, s149, s150, s151, s152, s153, s154, s155, s156, s157, s158, s159, s160, s161, s162, s163, s164, s165, s166, s167, s168, s169, s170, s171, s172, s173, s174, s175, s176, s177, s178, s179, s180, s181, s182, s183, s184, s185, s186, s187, s188, s189, s190, s191, s192, s193, s194, s195, s196, s197, s198, s199, s200, s201, s202, s203, s204, s205, s206, s207, s208, s209, s210, s211, s212, s213, s214, s215, s216, s217, s218, s219, s220, s221, s222, s223, s224, s225, s226, s227, s228, s229, s230, s231, s232, s233, s234, s235, s236, s237, s238, s239, s240, s241, s242, s243, s244, s245, s246, s247, s248, s249, s250, s251, s252, s253, s254, s255, s256, s257, s258, s259, s260, s261, s262, s263, s264, s265, s266, s267, s268, s269, s270, s271, s272, s273, s274, s275, s276, s277, s278, s279, s280, s281, s282, s283, s284, s285, s286, s287, s288, s289, s290, s291, s292, s293, s294, s295, s296, s297, s298, s299, s300, s301, s302, s303, s304, s305], []⟩ wc0 := by
  unfold PostN
  conv => arg 2; whnf
  dsimp only
  go_upto_if 75 with fail
  go_cut [4, 12, 13, 14, 15, 16, 17, 18, 19, 20, 21, 22, 23] from 76 to 177 (fun _ _ _ _ _ _ _ _ _ _ _ _ _ wx => Hid (Below w.heap.size w wx))
  case first =>
    have FRs := Lib.hid (fun w => hFs w)
    have FRn := Lib.hid (fun w => hFn w)
    have SZs := Lib.hid (fun w => hSs w)
    have SZn := Lib.hid (fun w => hSn w)
    clear hFs hFn hSs hSn
    go_wp2_with fail
    with_reducible refine (FRs.out _).mono ?_
    rintro e y1 ⟨rfl, b1⟩
    have B1 := Lib.hid (B0.out.trans (b1.mono B0.out.size))
    clear b1 B0
    go_wp2_with fail
    with_reducible refine (FRn.out _).mono ?_
    rintro e y2 ⟨rfl, b2⟩
    have B2 := Lib.hid (B1.out.trans (b2.mono B1.out.size))
    clear b2 B1
    go_wp2_with fail
    with_reducible refine (SZs.out _).mono ?_
    rintro e y3 ⟨rfl, b3⟩
    have B3 := Lib.hid (B2.out.trans (b3.mono B2.out.size))
    clear b3 B2
    go_wp2_with fail
    with_reducible refine (SZn.out _).mono ?_
    rintro e y4 ⟨rfl, b4⟩
    have B4 := Lib.hid (B3.out.trans (b4.mono B3.out.size))
    clear b4 B3
    go_wp2_with fail
    with_reducible refine (oIn_any k fB (by omega) (by omega) _).mono ?_
    rintro e y5 ⟨he5, b5⟩
    rw [o1] at he5
    subst he5
    have B5 := Lib.hid (B4.out.trans (b5.mono B4.out.size))
    clear b5 B4
    go_wp2_with fail
    with_reducible refine (oIn_any q fA (by omega) (by omega) _).mono ?_
    rintro e y6 ⟨he6, b6⟩
    rw [o2] at he6
    subst he6
    have B6 := Lib.hid (B5.out.trans (b6.mono B5.out.size))
    clear b6 B5
    go_wp2_with fail
    with_reducible refine (oIn_any k fA (by omega) (by omega) _).mono ?_
    rintro e y7 ⟨he7, b7⟩
    rw [o3] at he7
    subst he7
    have B7 := Lib.hid (B6.out.trans (b7.mono B6.out.size))
    clear b7 B6
    go_wp2_with fail
    with_reducible refine (oIn_any fA (fB ++ q) (by omega) (by rw [ByteArray.size_append]; omega) _).mono ?_
    rintro e y8 ⟨he8, b8⟩
    rw [o4] at he8
    subst he8
    have B8 := Lib.hid (B7.out.trans (b8.mono B7.out.size))
    clear b8 B7
    go_wp2_with fail
    with_reducible refine (oIn_any fB (fA ++ k) (by omega) (by rw [ByteArray.size_append]; omega) _).mono ?_
    rintro e y9 ⟨he9, b9⟩
    rw [o5] at he9
    subst he9
    have B9 := Lib.hid (B8.out.trans (b9.mono B8.out.size))
    clear b9 B8
    go_wp2_with fail
    with_reducible refine (oIn_any q fB (by omega) (by omega) _).mono ?_
    rintro e y10 ⟨he10, b10⟩
    rw [o6] at he10
    subst he10
    have B10 := Lib.hid (B9.out.trans (b10.mono B9.out.size))
    clear b10 B9
    go_wp2_with fail
    go_meet
    case rel => exact B10
  case rest =>
      rename_i KK aK
      refine aK _ _ ?_
      exact nsR a0 n0 c0 a1 n1 c1 w _ A0 A1 hcut _ _ _ _ _ _ _ _ _ _ _ _ _ _ _ _ _ _ _ _ _ _ _ _ _ _ _ _ _ _ _ _ _ _ _ _ _ _ _ _ _ _ _ _ _ _ _ _ _ _ _ _ _ _ _ _ _ _ _ _ _ _ _ _ _ _ _ _ _ _ _ _ _ _ _ _ _ _ _ _ _ _ _ _ _ _ _ _ _ _ _ _ _ _ _ _ _ _ _ _ _ _ _ _ _ _ _ _ _ _ _ _ _ _ _ _ _ _ _ _ _ _ _ _ _ _ _ _ _ _ _ _ _ _ _ _ _ _ _ _ _ _ _ _ _ _ _ _ _ _ _ _ _ _ _ _ _ _ _ _ _ _ _ _ _ _ _ _ _ _ _ _ _ _ _ _ _ _ _ _ _ _ _ _ _ _ _ _ _ _ _ _ _ _ _ _ _ _ _ _ _ _ _ _ _ _ _ _ _ _ _ _ _ _ _ _ _ _ _ _ _ _ _ _ _ _ _ _ _ _ _ _ _ _ _ _ _ _ _ _ _ _ _ _ _ _ _ _ _ _ _ _ _ _ _ _ _ _ _ _ _ _ _ _ _ _ _ _ _ _ _ _ _ _ _ _ _ _ _ _ _ _ _ _ _ _ _ _ _ _ _ _ _ _ _ _ _ _ _ _ _ _ _ _
set_option maxHeartbeats 20000000 in
theorem nsC (a0 : Option Addr) (n0 c0 : Nat) (a1 : Option Addr) (n1 c1 : Nat) (w wc0 : World) (A0 : Hid (Arg w a0 n0)) (A1 : Hid (Arg w a1 n1)) (B0 : Hid (Below w.heap.size w wc0)) (s k q n fB fA : ByteArray) (Z : Int) (hs : s.size ≤ 1000) (hk : k.size ≤ 2) (hq : q.size ≤ 1) (hn : n.size ≤ 300) (hfB : fB.size ≤ 26) (hfA : fA.size ≤ 26) (o1 : oinV k fB = true) (o6 : oinV q fB = false) (o2 : oinV q fA = true) (o4 : oinV fA (fB ++ q) = true) (o5 : oinV fB (fA ++ k) = true) (hkq : (k.toList == q.toList) = false) (o3 : oinV k fA = false) (hFs : AnsN 8 #[.string s] (.tuple #[.string fB, .bool true])) (hFn : AnsN 8 #[.string n] (.tuple #[.string fA, .bool true])) (hSs : AnsN 9 #[.string s] (.tuple #[.int .i64 Z, .bool true])) (hSn : AnsN 9 #[.string n] (.tuple #[.int .i64 Z, .bool true])) (X : ByteArray) (hRN : AnsN 6 #[.string n, .string q, .string k] (.tuple #[.string X, .bool true])) (hAL : AnsN 11 #[.string s, .string X] (.tuple #[.bool true, .bool true])) (s2 s3 s4 s10 s11 s12 s13 s14 s15 s16 s17 s18 s19 s20 s21 s22 s23 s24 s25 s26 s27 s28 s29 s30 s31 s32 s33 s34 s35 s36 s37 s38 s39 s40 s41 s42 s43 s44 s45 s46 s47 s48 s49 s50 s51 s52 s53 s54 s55 s56 s57 s58 s59 s60 s61 s62 s63 s64 s65 s66 s67 s68 s69 s70 s71 s72 s73 s74 s75 s76 s77 s78 s79 s80 s81 s82 s83 s84 s85 s86 s87 s88 s89 s90 s91 s92 s93 s94 s95 s96 s97 s98 s99 s100 s101 s102 s103 s104 s105 s106 s107 s108 s109 s110 s111 s112 s113 s114 s115 s116 s117 s118 s119 s120 s121 s122 s123 s124 s125 s126 s127 s128 s129 s130 s131 s132 s133 s134 s135 s136 s137 s138 s139 s140 s141 s142 s143 s144 s145 s146 s147 s148 s149 s150 s151 s152 s153 s154 s155 s156 s157 s158 s159 s160 s161 s162 s163 s164 s165 s166 s167 s168 s169 s170 s171 s172 s173 s174 s175 s176 s177 s178 s179 s180 s181 s182 s183 s184 s185 s186 s187 s188 s189 s190 s191 s192 s193 s194 s195 s196 s197 s198 s199 s200 s201 s202 s203 s204 s205 s206 s207 s208 s209 s210 s211 s212 s213 s214 s215 s216 s217 s218 s219 s220 s221 s222 s223 s224 s225 s226 s227 s228 s229 s230 s231 s232 s233 s234 s235 s236 s237 s238 s239 s240 s241 s242 s243 s244 s245 s246 s247 s248 s249 s250 s251 s252 s253 s254 s255 s256 s257 s258 s259 s260 s261 s262 s263 s264 s265 s266 s267 s268 s269 s270 s271 s272 s273 s274 s275 s276 s277 s278 s279 s280 s281 s282 s283 s284 s285 s286 s287 s288 s289 s290 s291 s292 s293 s294 s295 s296 s297 s298 s299 s300 s301 s302 s303 s304 s305 : Value) :
    Code.wp Tryz.prog (drpN 6 bodyN) (bodyPost Tryz.prog Tryz.f3 (PostN w)) ⟨#[.slice a0 n0 c0, .slice a1 n1 c1, s2, s3, s4, .string s, .string k, .string q, .string n, .bool true, s10, s11, s12, s13, s14, s15, s16, s17, s18, s19, s20, s21, s22, s23, s24, s25, s26, s27, s28, s29, s30, s31, s32, s33, s34, s35, s36, s37, s38, s39, s40, s41, s42, s43, s44, s45, s46, s47, s48, s49, s50, s51, s52, s53, s54, s55, s56, s57, s58, s59, s60, s61, s62, s63, s64, s65, s66, s67, s68, s69, s70, s71, s72, s73, s74, s75, s76, s77, s78, s79, s80, s81, s82, s83, s84, s85, s86, s87, s88, s89, s90, s91, s92, s93, s94, s95, s96, s97, s98, s99, s100, s101, s102, s103, s104, s105, s106, s107, s108, s109, s110, s111, s112, s113, s114, s115, s116, s117, s118, s119, s120, s121, s122, s123, s124, s125, s126, s127, s128, s129, s130, s131, s132, s133, s134, s135, s136, s137, s138, s139, s140, s141, s142, s143, s144, s145, s146, s147, s148, s149, s150, s151, s152, s153, s154, s155, s156, s157, s158, s159, s160, s161, s162, s163, s164, s165, s166, s167, s168, s169, s170, s171, s172, s173, s174, s175, s176, s177, s178, s179, s180, s181, s182, s183, s184, s185, s186, s187, s188, s189, s190, s191, s192, s193, s194, s195, s196, s197, s198, s199, s200, s201, s202, s203, s204, s205, s206, s207, s208, s209, s210, s211, s212, s213, s214, s215, s216, s217, s218, s219, s220, s221, s222, s223, s224, s225, s226, s227, s228, s229, s230, s231, s232, s233, s234, s235, s236, s237, s238, s239, s240, s241, s242, s243, s244, s245, s246, s247, s248, s249, s250, s251, s252, s253, s254, s255, s256, s257, s258, s259, s260, s261, s262, s263, s264, s265, s266, s267, s268, s269, s270, s271, s272, s273, s274, s275, s276, s277, s278, s279, s280, s281, s282, s283, s284, s285, s286, s287, s288, s289, s290, s291, s292, s293, s294, s295, s296, s297, s298, s299, s300, s301, s302, s303, s304, s305], []⟩ wc0 := by
  unfold PostN
  conv => arg 2; whnf
  dsimp only
  go_upto_if 75 with fail
  go_cut [4, 12, 13, 14, 15, 16, 17, 18, 19, 20, 21, 22, 23] from 76 to 177 (fun _ _ _ _ _ _ _ _ _ _ _ _ _ wx => Hid (Below w.heap.size w wx))
  case first =>
    have FRs := Lib.hid (fun w => hFs w)
    have FRn := Lib.hid (fun w => hFn w)
    have SZs := Lib.hid (fun w => hSs w)
    have SZn := Lib.hid (fun w => hSn w)
    have RNi := Lib.hid (fun w => hRN w)
    have ALi := Lib.hid (fun w => hAL w)
    clear hFs hFn hSs hSn hRN hAL
    go_wp2_with fail
    with_reducible refine (FRs.out _).mono ?_
    rintro e y1 ⟨rfl, b1⟩
    have B1 := Lib.hid (B0.out.trans (b1.mono B0.out.size))
    clear b1 B0
    go_wp2_with fail
    with_reducible refine (FRn.out _).mono ?_
    rintro e y2 ⟨rfl, b2⟩
    have B2 := Lib.hid (B1.out.trans (b2.mono B1.out.size))
    clear b2 B1
    go_wp2_with fail
    with_reducible refine (SZs.out _).mono ?_
    rintro e y3 ⟨rfl, b3⟩
    have B3 := Lib.hid (B2.out.trans (b3.mono B2.out.size))
    clear b3 B2
    go_wp2_with fail
    with_reducible refine (SZn.out _).mono ?_
    rintro e y4 ⟨rfl, b4⟩
    have B4 := Lib.hid (B3.out.trans (b4.mono B3.out.size))
    clear b4 B3
    go_wp2_with fail
    with_reducible refine (oIn_any k fB (by omega) (by omega) _).mono ?_
    rintro e y5 ⟨he5, b5⟩
    rw [o1] at he5
    subst he5
    have B5 := Lib.hid (B4.out.trans (b5.mono B4.out.size))
    clear b5 B4
    go_wp2_with fail
    with_reducible refine (oIn_any q fA (by omega) (by omega) _).mono ?_
    rintro e y6 ⟨he6, b6⟩
    rw [o2] at he6
    subst he6
    have B6 := Lib.hid (B5.out.trans (b6.mono B5.out.size))
    clear b6 B5
    go_wp2_with fail
    with_reducible refine (oIn_any k fA (by omega) (by omega) _).mono ?_
    rintro e y7 ⟨he7, b7⟩
    rw [o3] at he7
    subst he7
    have B7 := Lib.hid (B6.out.trans (b7.mono B6.out.size))
    clear b7 B6
    go_wp2_with fail
    with_reducible refine (oIn_any fA (fB ++ q) (by omega) (by rw [ByteArray.size_append]; omega) _).mono ?_
    rintro e y8 ⟨he8, b8⟩
    rw [o4] at he8
    subst he8
    have B8 := Lib.hid (B7.out.trans (b8.mono B7.out.size))
    clear b8 B7
    go_wp2_with fail
    with_reducible refine (oIn_any fB (fA ++ k) (by omega) (by rw [ByteArray.size_append]; omega) _).mono ?_
    rintro e y9 ⟨he9, b9⟩
    rw [o5] at he9
    subst he9
    have B9 := Lib.hid (B8.out.trans (b9.mono B8.out.size))
    clear b9 B8
    go_wp2_with fail
    with_reducible refine (oIn_any q fB (by omega) (by omega) _).mono ?_
    rintro e y10 ⟨he10, b10⟩
    rw [o6] at he10
    subst he10
    have B10 := Lib.hid (B9.out.trans (b10.mono B9.out.size))
    clear b10 B9
    go_wp2_with fail
    with_reducible refine (RNi.out _).mono ?_
    rintro e y11 ⟨rfl, b11⟩
    have B11 := Lib.hid (B10.out.trans (b11.mono B10.out.size))
    clear b11 B10
    go_wp2_with fail
    with_reducible refine (ALi.out _).mono ?_
    rintro e y12 ⟨rfl, b12⟩
    have B12 := Lib.hid (B11.out.trans (b12.mono B11.out.size))
    clear b12 B11
    go_wp2_with fail
    go_meet
    case rel => exact B12
  case rest =>
      rename_i KK aK
      refine aK _ _ ?_
      exact nsR a0 n0 c0 a1 n1 c1 w _ A0 A1 hcut _ _ _ _ _ _ _ _ _ _ _ _ _ _ _ _ _ _ _ _ _ _ _ _ _ _ _ _ _ _ _ _ _ _ _ _ _ _ _ _ _ _ _ _ _ _ _ _ _ _ _ _ _ _ _ _ _ _ _ _ _ _ _ _ _ _ _ _ _ _ _ _ _ _ _ _ _ _ _ _ _ _ _ _ _ _ _ _ _ _ _ _ _ _ _ _ _ _ _ _ _ _ _ _ _ _ _ _ _ _ _ _ _ _ _ _ _ _ _ _ _ _ _ _ _ _ _ _ _ _ _ _ _ _ _ _ _ _ _ _ _ _ _ _ _ _ _ _ _ _ _ _ _ _ _ _ _ _ _ _ _ _ _ _ _ _ _ _ _ _ _ _ _ _ _ _ _ _ _ _ _ _ _ _ _ _ _ _ _ _ _ _ _ _ _ _ _ _ _ _ _ _ _ _ _ _ _ _ _ _ _ _ _ _ _ _ _ _ _ _ _ _ _ _ _ _ _ _ _ _ _ _ _ _ _ _ _ _ _ _ _ _ _ _ _ _ _ _ _ _ _ _ _ _ _ _ _ _ _ _ _ _ _ _ _ _ _ _ _ _ _ _ _ _ _ _ _ _ _ _ _ _ _ _ _ _ _ _ _ _ _ _ _ _ _ _ _ _ _ _ _ _ _ _
set_option maxHeartbeats 20000000 in
theorem nsD (a0 : Option Addr) (n0 c0 : Nat) (a1 : Option Addr) (n1 c1 : Nat) (w wc0 : World) (A0 : Hid (Arg w a0 n0)) (A1 : Hid (Arg w a1 n1)) (B0 : Hid (Below w.heap.size w wc0)) (s k q n fB fA : ByteArray) (Z : Int) (hs : s.size ≤ 1000) (hk : k.size ≤ 2) (hq : q.size ≤ 1) (hn : n.size ≤ 300) (hfB : fB.size ≤ 26) (hfA : fA.size ≤ 26) (o1 : oinV k fB = false) (o6 : oinV q fB = true) (hns : n = s) (hFs : AnsN 8 #[.string s] (.tuple #[.string fB, .bool true])) (hFn : AnsN 8 #[.string n] (.tuple #[.string fA, .bool true])) (hSs : AnsN 9 #[.string s] (.tuple #[.int .i64 Z, .bool true])) (hSn : AnsN 9 #[.string n] (.tuple #[.int .i64 Z, .bool true])) (s2 s3 s4 s10 s11 s12 s13 s14 s15 s16 s17 s18 s19 s20 s21 s22 s23 s24 s25 s26 s27 s28 s29 s30 s31 s32 s33 s34 s35 s36 s37 s38 s39 s40 s41 s42 s43 s44 s45 s46 s47 s48 s49 s50 s51 s52 s53 s54 s55 s56 s57 s58 s59 s60 s61 s62 s63 s64 s65 s66 s67 s68 s69 s70 s71 s72 s73 s74 s75 s76 s77 s78 s79 s80 s81 s82 s83 s84 s85 s86 s87 s88 s89 s90 s91 s92 s93 s94 s95 s96 s97 s98 s99 s100 s101 s102 s103 s104 s105 s106 s107 s108 s109 s110 s111 s112 s113 s114 s115 s116 s117 s118 s119 s120 s121 s122 s123 s124 s125 s126 s127 s128 s129 s130 s131 s132 s133 s134 s135 s136 s137 s138 s139 s140 s141 s142 s143 s144 s145 s146 s147 s148 s149 s150 s151 s152 s153 s154 s155 s156 s157 s158 s159 s160 s161 s162 s163 s164 s165 s166 s167 s168 s169 s170 s171 s172 s173 s174 s175 s176 s177 s178 s179 s180 s181 s182 s183 s184 s185 s186 s187 s188 s189 s190 s191 s192 s193 s194 s195 s196 s197 s198 s199 s200 s201 s202 s203 s204 s205 s206 s207 s208 s209 s210 s211 s212 s213 s214 s215 s216 s217 s218 s219 s220 s221 s222 s223 s224 s225 s226 s227 s228 s229 s230 s231 s232 s233 s234 s235 s236 s237 s238 s239 s240 s241 s242 s243 s244 s245 s246 s247 s248 s249 s250 s251 s252 s253 s254 s255 s256 s257 s258 s259 s260 s261 s262 s263 s264 s265 s266 s267 s268 s269 s270 s271 s272 s273 s274 s275 s276 s277 s278 s279 s280 s281 s282 s283 s284 s285 s286 s287 s288 s289 s290 s291 s292 s293 s294 s295 s296 s297 s298 s299 s300 s301 s302 s303 s304 s305 : Value) :
    Code.wp Tryz.prog (drpN 6 bodyN) (bodyPost Tryz.prog Tryz.f3 (PostN w)) ⟨#[.slice a0 n0 c0, .slice a1 n1 c1, s2, s3, s4, .string s, .string k, .string q, .string n, .bool true, s10, s11, s12, s13, s14, s15, s16, s17, s18, s19, s20, s21, s22, s23, s24, s25, s26, s27, s28, s29, s30, s31, s32, s33, s34, s35, s36, s37, s38, s39, s40, s41, s42, s43, s44, s45, s46, s47, s48, s49, s50, s51, s52, s53, s54, s55, s56, s57, s58, s59, s60, s61, s62, s63, s64, s65, s66, s67, s68, s69, s70, s71, s72, s73, s74, s75, s76, s77, s78, s79, s80, s81, s82, s83, s84, s85, s86, s87, s88, s89, s90, s91, s92, s93, s94, s95, s96, s97, s98, s99, s100, s101, s102, s103, s104, s105, s106, s107, s108, s109, s110, s111, s112, s113, s114, s115, s116, s117, s118, s119, s120, s121, s122, s123, s124, s125, s126, s127, s128, s129, s130, s131, s132, s133, s134, s135, s136, s137, s138, s139, s140, s141, s142, s143, s144, s145, s146, s147, s148, s149, s150, s151, s152, s153, s154, s155, s156, s157, s158, s159, s160, s161, s162, s163, s164, s165, s166, s167, s168, s169, s170, s171, s172, s173, s174, s175, s176, s177, s178, s179, s180, s181, s182, s183, s184, s185, s186, s187, s188, s189, s190, s191, s192, s193, s194, s195, s196, s197, s198, s199, s200, s201, s202, s203, s204, s205, s206, s207, s208, s209, s210, s211, s212, s213, s214, s215, s216, s217, s218, s219, s220, s221, s222, s223, s224, s225, s226, s227, s228, s229, s230, s231, s232, s233, s234, s235, s236, s237, s238, s239, s240, s241, s242, s243, s244, s245, s246, s247, s248, s249, s250, s251, s252, s253, s254, s255, s256, s257, s258, s259, s260, s261, s262, s263, s264, s265, s266, s267, s268, s269, s270, s271, s272, s273, s274, s275, s276, s277, s278, s279, s280, s281, s282, s283, s284, s285, s286, s287, s288, s289, s290, s291, s292, s293, s294, s295, s296, s297, s298, s299, s300, s301, s302, s303, s304, s305], []⟩ wc0 := by
  unfold PostN
  conv => arg 2; whnf
  dsimp only
  go_upto_if 75 with fail
  go_cut [4, 12, 13, 14, 15, 16, 17, 18, 19, 20, 21, 22, 23] from 76 to 177 (fun _ _ _ _ _ _ _ _ _ _ _ _ _ wx => Hid (Below w.heap.size w wx))
  case first =>
    have FRs := Lib.hid (fun w => hFs w)
    have FRn := Lib.hid (fun w => hFn w)
    have SZs := Lib.hid (fun w => hSs w)
    have SZn := Lib.hid (fun w => hSn w)
    subst hns
    clear hFs hFn hSs hSn
    go_wp2_with fail
    with_reducible refine (FRs.out _).mono ?_
    rintro e y1 ⟨rfl, b1⟩
    have B1 := Lib.hid (B0.out.trans (b1.mono B0.out.size))
    clear b1 B0
    go_wp2_with fail
    with_reducible refine (FRn.out _).mono ?_
    rintro e y2 ⟨rfl, b2⟩
    have B2 := Lib.hid (B1.out.trans (b2.mono B1.out.size))
    clear b2 B1
    go_wp2_with fail
    with_reducible refine (SZs.out _).mono ?_
    rintro e y3 ⟨rfl, b3⟩
    have B3 := Lib.hid (B2.out.trans (b3.mono B2.out.size))
    clear b3 B2
    go_wp2_with fail
    with_reducible refine (SZn.out _).mono ?_
    rintro e y4 ⟨rfl, b4⟩
    have B4 := Lib.hid (B3.out.trans (b4.mono B3.out.size))
    clear b4 B3
    go_wp2_with fail
    with_reducible refine (oIn_any k fB (by omega) (by omega) _).mono ?_
    rintro e y5 ⟨he5, b5⟩
    rw [o1] at he5
    subst he5
    have B5 := Lib.hid (B4.out.trans (b5.mono B4.out.size))
    clear b5 B4
    go_wp2_with fail
    with_reducible refine (oIn_any q fB (by omega) (by omega) _).mono ?_
    rintro e y6 ⟨he6, b6⟩
    rw [o6] at he6
    subst he6
    have B6 := Lib.hid (B5.out.trans (b6.mono B5.out.size))
    clear b6 B5
    go_wp2_with fail
    go_meet
    case rel => exact B6
  case rest =>
      rename_i KK aK
      refine aK _ _ ?_
      exact nsR a0 n0 c0 a1 n1 c1 w _ A0 A1 hcut _ _ _ _ _ _ _ _ _ _ _ _ _ _ _ _ _ _ _ _ _ _ _ _ _ _ _ _ _ _ _ _ _ _ _ _ _ _ _ _ _ _ _ _ _ _ _ _ _ _ _ _ _ _ _ _ _ _ _ _ _ _ _ _ _ _ _ _ _ _ _ _ _ _ _ _ _ _ _ _ _ _ _ _ _ _ _ _ _ _ _ _ _ _ _ _ _ _ _ _ _ _ _ _ _ _ _ _ _ _ _ _ _ _ _ _ _ _ _ _ _ _ _ _ _ _ _ _ _ _ _ _ _ _ _ _ _ _ _ _ _ _ _ _ _ _ _ _ _ _ _ _ _ _ _ _ _ _ _ _ _ _ _ _ _ _ _ _ _ _ _ _ _ _ _ _ _ _ _ _ _ _ _ _ _ _ _ _ _ _ _ _ _ _ _ _ _ _ _ _ _ _ _ _ _ _ _ _ _ _ _ _ _ _ _ _ _ _ _ _ _ _ _ _ _ _ _ _ _ _ _ _ _ _ _ _ _ _ _ _ _ _ _ _ _ _ _ _ _ _ _ _ _ _ _ _ _ _ _ _ _ _ _ _ _ _ _ _ _ _ _ _ _ _ _ _ _ _ _ _ _ _ _ _ _ _ _ _ _ _ _ _ _ _ _ _ _ _ _ _ _ _ _ _
set_option maxHeartbeats 20000000 in
theorem nsE (a0 : Option Addr) (n0 c0 : Nat) (a1 : Option Addr) (n1 c1 : Nat) (w wc0 : World) (A0 : Hid (Arg w a0 n0)) (A1 : Hid (Arg w a1 n1)) (B0 : Hid (Below w.heap.size w wc0)) (s k q n fB fA : ByteArray) (Z : Int) (hs : s.size ≤ 1000) (hk : k.size ≤ 2) (hq : q.size ≤ 1) (hn : n.size ≤ 300) (hfB : fB.size ≤ 26) (hfA : fA.size ≤ 26) (o1 : oinV k fB = false) (o6 : oinV q fB = false) (hns : n = s) (hFs : AnsN 8 #[.string s] (.tuple #[.string fB, .bool true])) (hFn : AnsN 8 #[.string n] (.tuple #[.string fA, .bool true])) (hSs : AnsN 9 #[.string s] (.tuple #[.int .i64 Z, .bool true])) (hSn : AnsN 9 #[.string n] (.tuple #[.int .i64 Z, .bool true])) (X : ByteArray) (hRN : AnsN 6 #[.string n, .string q, .string k] (.tuple #[.string X, .bool true])) (hAL : AnsN 11 #[.string s, .string X] (.tuple #[.bool true, .bool true])) (s2 s3 s4 s10 s11 s12 s13 s14 s15 s16 s17 s18 s19 s20 s21 s22 s23 s24 s25 s26 s27 s28 s29 s30 s31 s32 s33 s34 s35 s36 s37 s38 s39 s40 s41 s42 s43 s44 s45 s46 s47 s48 s49 s50 s51 s52 s53 s54 s55 s56 s57 s58 s59 s60 s61 s62 s63 s64 s65 s66 s67 s68 s69 s70 s71 s72 s73 s74 s75 s76 s77 s78 s79 s80 s81 s82 s83 s84 s85 s86 s87 s88 s89 s90 s91 s92 s93 s94 s95 s96 s97 s98 s99 s100 s101 s102 s103 s104 s105 s106 s107 s108 s109 s110 s111 s112 s113 s114 s115 s116 s117 s118 s119 s120 s121 s122 s123 s124 s125 s126 s127 s128 s129 s130 s131 s132 s133 s134 s135 s136 s137 s138 s139 s140 s141 s142 s143 s144 s145 s146 s147 s148 s149 s150 s151 s152 s153 s154 s155 s156 s157 s158 s159 s160 s161 s162 s163 s164 s165 s166 s167 s168 s169 s170 s171 s172 s173 s174 s175 s176 s177 s178 s179 s180 s181 s182 s183 s184 s185 s186 s187 s188 s189 s190 s191 s192 s193 s194 s195 s196 s197 s198 s199 s200 s201 s202 s203 s204 s205 s206 s207 s208 s209 s210 s211 s212 s213 s214 s215 s216 s217 s218 s219 s220 s221 s222 s223 s224 s225 s226 s227 s228 s229 s230 s231 s232 s233 s234 s235 s236 s237 s238 s239 s240 s241 s242 s243 s244 s245 s246 s247 s248 s249 s250 s251 s252 s253 s254 s255 s256 s257 s258 s259 s260 s261 s262 s263 s264 s265 s266 s267 s268 s269 s270 s271 s272 s273 s274 s275 s276 s277 s278 s279 s280 s281 s282 s283 s284 s285 s286 s287 s288 s289 s290 s291 s292 s293 s294 s295 s296 s297 s298 s299 s300 s301 s302 s303 s304 s305 : Value) :
    Code.wp Tryz.prog (drpN 6 bodyN) (bodyPost Tryz.prog Tryz.f3 (PostN w)) ⟨#[.slice a0 n0 c0, .slice a1 n1 c1, s2, s3, s4, .string s, .string k, .string q, .string n, .bool true, s10, s11, s12, s13, s14, s15, s16, s17, s18, s19, s20, s21, s22, s23, s24, s25, s26, s27, s28, s29, s30, s31, s32, s33, s34, s35, s36, s37, s38, s39, s40, s41, s42, s43, s44, s45, s46, s47, s48, s49, s50, s51, s52, s53, s54, s55, s56, s57, s58, s59, s60, s61, s62, s63, s64, s65, s66, s67, s68, s69, s70, s71, s72, s73, s74, s75, s76, s77, s78, s79, s80, s81, s82, s83, s84, s85, s86, s87, s88, s89, s90, s91, s92, s93, s94, s95, s96, s97, s98, s99, s100, s101, s102, s103, s104, s105, s106, s107, s108, s109, s110, s111, s112, s113, s114, s115, s116, s117, s118, s119, s120, s121, s122, s123, s124, s125, s126, s127, s128, s129, s130, s131, s132, s133, s134, s135, s136, s137, s138, s139, s140, s141, s142, s143, s144, s145, s146, s147, s148, s149, s150, s151, s152, s153, s154, s155, s156, s157, s158, s159, s160, s161, s162, s163, s164, s165, s166, s167, s168, s169, s170, s171, s172, s173, s174, s175, s176, s177, s178, s179, s180, s181, s182, s183, s184, s185, s186, s187, s188, s189, s190, s191, s192, s193, s194, s195, s196, s197, s198, s199, s200, s201, s202, s203, s204, s205, s206, s207, s208, s209, s210, s211, s212, s213, s214, s215, s216, s217, s218, s219, s220, s221, s222, s223, s224, s225, s226, s227, s228, s229, s230, s231, s232, s233, s234, s235, s236, s237, s238, s239, s240, s241, s242, s243, s244, s245, s246, s247, s248, s249, s250, s251, s252, s253, s254, s255, s256, s257, s258, s259, s260, s261, s262, s263, s264, s265, s266, s267, s268, s269, s270, s271, s272, s273, s274, s275, s276, s277, s278, s279, s280, s281, s282, s283, s284, s285, s286, s287, s288, s289, s290, s291, s292, s293, s294, s295, s296, s297, s298, s299, s300, s301, s302, s303, s304, s305], []⟩ wc0 := by
  unfold PostN
  conv => arg 2; whnf
  dsimp only
  go_upto_if 75 with fail
  go_cut [4, 12, 13, 14, 15, 16, 17, 18, 19, 20, 21, 22, 23] from 76 to 177 (fun _ _ _ _ _ _ _ _ _ _ _ _ _ wx => Hid (Below w.heap.size w wx))
  case first =>
    have FRs := Lib.hid (fun w => hFs w)
    have FRn := Lib.hid (fun w => hFn w)
    have SZs := Lib.hid (fun w => hSs w)
    have SZn := Lib.hid (fun w => hSn w)
    have RNi := Lib.hid (fun w => hRN w)
    have ALi := Lib.hid (fun w => hAL w)
    subst hns
    clear hFs hFn hSs hSn hRN hAL
    go_wp2_with fail
    with_reducible refine (FRs.out _).mono ?_
    rintro e y1 ⟨rfl, b1⟩
    have B1 := Lib.hid (B0.out.trans (b1.mono B0.out.size))
    clear b1 B0
    go_wp2_with fail
    with_reducible refine (FRn.out _).mono ?_
    rintro e y2 ⟨rfl, b2⟩
    have B2 := Lib.hid (B1.out.trans (b2.mono B1.out.size))
    clear b2 B1
    go_wp2_with fail
    with_reducible refine (SZs.out _).mono ?_
    rintro e y3 ⟨rfl, b3⟩
    have B3 := Lib.hid (B2.out.trans (b3.mono B2.out.size))
    clear b3 B2
    go_wp2_with fail
    with_reducible refine (SZn.out _).mono ?_
    rintro e y4 ⟨rfl, b4⟩
    have B4 := Lib.hid (B3.out.trans (b4.mono B3.out.size))
    clear b4 B3
    go_wp2_with fail
    with_reducible refine (oIn_any k fB (by omega) (by omega) _).mono ?_
    rintro e y5 ⟨he5, b5⟩
    rw [o1] at he5
    subst he5
    have B5 := Lib.hid (B4.out.trans (b5.mono B4.out.size))
    clear b5 B4
    go_wp2_with fail
    with_reducible refine (oIn_any q fB (by omega) (by omega) _).mono ?_
    rintro e y6 ⟨he6, b6⟩
    rw [o6] at he6
    subst he6
    have B6 := Lib.hid (B5.out.trans (b6.mono B5.out.size))
    clear b6 B5
    go_wp2_with fail
    with_reducible refine (RNi.out _).mono ?_
    rintro e y7 ⟨rfl, b7⟩
    have B7 := Lib.hid (B6.out.trans (b7.mono B6.out.size))
    clear b7 B6
    go_wp2_with fail
    with_reducible refine (ALi.out _).mono ?_
    rintro e y8 ⟨rfl, b8⟩
    have B8 := Lib.hid (B7.out.trans (b8.mono B7.out.size))
    clear b8 B7
    go_wp2_with fail
    go_meet
    case rel => exact B8
  case rest =>
      rename_i KK aK
      refine aK _ _ ?_
      exact nsR a0 n0 c0 a1 n1 c1 w _ A0 A1 hcut _ _ _ _ _ _ _ _ _ _ _ _ _ _ _ _ _ _ _ _ _ _ _ _ _ _ _ _ _ _ _ _ _ _ _ _ _ _ _ _ _ _ _ _ _ _ _ _ _ _ _ _ _ _ _ _ _ _ _ _ _ _ _ _ _ _ _ _ _ _ _ _ _ _ _ _ _ _ _ _ _ _ _ _ _ _ _ _ _ _ _ _ _ _ _ _ _ _ _ _ _ _ _ _ _ _ _ _ _ _ _ _ _ _ _ _ _ _ _ _ _ _ _ _ _ _ _ _ _ _ _ _ _ _ _ _ _ _ _ _ _ _ _ _ _ _ _ _ _ _ _ _ _ _ _ _ _ _ _ _ _ _ _ _ _ _ _ _ _ _ _ _ _ _ _ _ _ _ _ _ _ _ _ _ _ _ _ _ _ _ _ _ _ _ _ _ _ _ _ _ _ _ _ _ _ _ _ _ _ _ _ _ _ _ _ _ _ _ _ _ _ _ _ _ _ _ _ _ _ _ _ _ _ _ _ _ _ _ _ _ _ _ _ _ _ _ _ _ _ _ _ _ _ _ _ _ _ _ _ _ _ _ _ _ _ _ _ _ _ _ _ _ _ _ _ _ _ _ _ _ _ _ _ _ _ _ _ _ _ _ _ _ _ _ _ _ _ _ _ _ _ _ _ _
set_option maxHeartbeats 20000000 in
theorem nsI (a0 : Option Addr) (n0 c0 : Nat) (a1 : Option Addr) (n1 c1 : Nat) (w wc0 : World) (A0 : Hid (Arg w a0 n0)) (A1 : Hid (Arg w a1 n1)) (B0 : Hid (Below w.heap.size w wc0)) (s k q n : ByteArray) (b : Bool) (hs : s.size ≤ 1000) (hAB : ∀ c ∈ s.data.toList, AB c = true) (hk : k.size ≤ 2) (hq : q.size ≤ 1) (hn : n.size ≤ 300) (hR : b = true → ∃ t o m, good s.data.toList = some t ∧ nmL o = true ∧ nmL m = true ∧ k = B [o] ∧ q = B [m] ∧ n = S (R t o m) ∧ (R t o m).ok nmL = true) (s2 s3 s4 s10 s11 s12 s13 s14 s15 s16 s17 s18 s19 s20 s21 s22 s23 s24 s25 s26 s27 s28 s29 s30 s31 s32 s33 s34 s35 s36 s37 s38 s39 s40 s41 s42 s43 s44 s45 s46 s47 s48 s49 s50 s51 s52 s53 s54 s55 s56 s57 s58 s59 s60 s61 s62 s63 s64 s65 s66 s67 s68 s69 s70 s71 s72 s73 s74 s75 s76 s77 s78 s79 s80 s81 s82 s83 s84 s85 s86 s87 s88 s89 s90 s91 s92 s93 s94 s95 s96 s97 s98 s99 s100 s101 s102 s103 s104 s105 s106 s107 s108 s109 s110 s111 s112 s113 s114 s115 s116 s117 s118 s119 s120 s121 s122 s123 s124 s125 s126 s127 s128 s129 s130 s131 s132 s133 s134 s135 s136 s137 s138 s139 s140 s141 s142 s143 s144 s145 s146 s147 s148 s149 s150 s151 s152 s153 s154 s155 s156 s157 s158 s159 s160 s161 s162 s163 s164 s165 s166 s167 s168 s169 s170 s171 s172 s173 s174 s175 s176 s177 s178 s179 s180 s181 s182 s183 s184 s185 s186 s187 s188 s189 s190 s191 s192 s193 s194 s195 s196 s197 s198 s199 s200 s201 s202 s203 s204 s205 s206 s207 s208 s209 s210 s211 s212 s213 s214 s215 s216 s217 s218 s219 s220 s221 s222 s223 s224 s225 s226 s227 s228 s229 s230 s231 s232 s233 s234 s235 s236 s237 s238 s239 s240 s241 s242 s243 s244 s245 s246 s247 s248 s249 s250 s251 s252 s253 s254 s255 s256 s257 s258 s259 s260 s261 s262 s263 s264 s265 s266 s267 s268 s269 s270 s271 s272 s273 s274 s275 s276 s277 s278 s279 s280 s281 s282 s283 s284 s285 s286 s287 s288 s289 s290 s291 s292 s293 s294 s295 s296 s297 s298 s299 s300 s301 s302 s303 s304 s305 : Value) :
    Code.wp Tryz.prog (drpN 6 bodyN) (bodyPost Tryz.prog Tryz.f3 (PostN w)) ⟨#[.slice a0 n0 c0, .slice a1 n1 c1, s2, s3, s4, .string s, .string k, .string q, .string n, .bool b, s10, s11, s12, s13, s14, s15, s16, s17, s18, s19, s20, s21, s22, s23, s24, s25, s26, s27, s28, s29, s30, s31, s32, s33, s34, s35, s36, s37, s38, s39, s40, s41, s42, s43, s44, s45, s46, s47, s48, s49, s50, s51, s52, s53, s54, s55, s56, s57, s58, s59, s60, s61, s62, s63, s64, s65, s66, s67, s68, s69, s70, s71, s72, s73, s74, s75, s76, s77, s78, s79, s80, s81, s82, s83, s84, s85, s86, s87, s88, s89, s90, s91, s92, s93, s94, s95, s96, s97, s98, s99, s100, s101, s102, s103, s104, s105, s106, s107, s108, s109, s110, s111, s112, s113, s114, s115, s116, s117, s118, s119, s120, s121, s122, s123, s124, s125, s126, s127, s128, s129, s130, s131, s132, s133, s134, s135, s136, s137, s138, s139, s140, s141, s142, s143, s144, s145, s146, s147, s148, s149, s150, s151, s152, s153, s154, s155, s156, s157, s158, s159, s160, s161, s162, s163, s164, s165, s166, s167, s168, s169, s170, s171, s172, s173, s174, s175, s176, s177, s178, s179, s180, s181, s182, s183, s184, s185, s186, s187, s188, s189, s190, s191, s192, s193, s194, s195, s196, s197, s198, s199, s200, s201, s202, s203, s204, s205, s206, s207, s208, s209, s210, s211, s212, s213, s214, s215, s216, s217, s218, s219, s220, s221, s222, s223, s224, s225, s226, s227, s228, s229, s230, s231, s232, s233, s234, s235, s236, s237, s238, s239, s240, s241, s242, s243, s244, s245, s246, s247, s248, s249, s250, s251, s252, s253, s254, s255, s256, s257, s258, s259, s260, s261, s262, s263, s264, s265, s266, s267, s268, s269, s270, s271, s272, s273, s274, s275, s276, s277, s278, s279, s280, s281, s282, s283, s284, s285, s286, s287, s288, s289, s290, s291, s292, s293, s294, s295, s296, s297, s298, s299, s300, s301, s302, s303, s304, s305], []⟩ wc0 := by
  unfold PostN
  conv => arg 2; whnf
  dsimp only
  cases b with
  | false =>
    clear hR
    go_upto_if 75 with fail
    go_cut [4, 12, 13, 14, 15, 16, 17, 18, 19, 20, 21, 22, 23] from 76 to 177 (fun _ _ _ _ _ _ _ _ _ _ _ _ _ wx => Hid (Below w.heap.size w wx))
    case first =>
      go_wp2_with fail
      go_meet
      case rel => exact B0
    case rest =>
        rename_i KK aK
        refine aK _ _ ?_
        exact nsR a0 n0 c0 a1 n1 c1 w _ A0 A1 hcut _ _ _ _ _ _ _ _ _ _ _ _ _ _ _ _ _ _ _ _ _ _ _ _ _ _ _ _ _ _ _ _ _ _ _ _ _ _ _ _ _ _ _ _ _ _ _ _ _ _ _ _ _ _ _ _ _ _ _ _ _ _ _ _ _ _ _ _ _ _ _ _ _ _ _ _ _ _ _ _ _ _ _ _ _ _ _ _ _ _ _ _ _ _ _ _ _ _ _ _ _ _ _ _ _ _ _ _ _ _ _ _ _ _ _ _ _ _ _ _ _ _ _ _ _ _ _ _ _ _ _ _ _ _ _ _ _ _ _ _ _ _ _ _ _ _ _ _ _ _ _ _ _ _ _ _ _ _ _ _ _ _ _ _ _ _ _ _ _ _ _ _ _ _ _ _ _ _ _ _ _ _ _ _ _ _ _ _ _ _ _ _ _ _ _ _ _ _ _ _ _ _ _ _ _ _ _ _ _ _ _ _ _ _ _ _ _ _ _ _ _ _ _ _ _ _ _ _ _ _ _ _ _ _ _ _ _ _ _ _ _ _ _ _ _ _ _ _ _ _ _ _ _ _ _ _ _ _ _ _ _ _ _ _ _ _ _ _ _ _ _ _ _ _ _ _ _ _ _ _ _ _ _ _ _ _ _ _ _ _ _ _ _ _ _ _ _ _ _ _ _ _ _ _
  | true =>
    obtain ⟨t, o, m, hg, ho, hm, rfl, rfl, rfl, hok⟩ := hR rfl
    obtain ⟨es, hL, hE, h300, h60⟩ := good_S hg
    have hp : ∀ c ∈ t.pr, AB c = true := by
      intro c hc
      refine hAB c ?_
      rw [es]; simpa [S] using hc
    have F := renF t o m hL h300 h60 hp ho hm
    have hg2 : good (S (R t o m)).data.toList = some (R t o m) := good_S2 hok F.len F.sz
    have hFs := (twn_free s (by omega)).2
    rw [hg] at hFs
    have hFn := (twn_free (S (R t o m)) (by omega)).2
    rw [hg2] at hFn
    have hSs := twn_size s (by omega)
    rw [hg] at hSs
    have hSn := twn_size (S (R t o m)) (by omega)
    rw [hg2] at hSn
    have eZ : szN (some (R t o m)) = szN (some t) := by show (((R t o m).size : Nat) : Int) = _; rw [R_size]; rfl
    rw [eZ] at hSn
    have l1 := ns_free_le t hL
    have l2 := ns_free_le _ hok
    have hfB : (B t.free).size ≤ 26 := by rw [B_size]; exact l1
    have hfA : (B (R t o m).free).size ≤ 26 := by rw [B_size]; exact l2
    have oi : ∀ (c : UInt8) (l : List UInt8), oinV (B [c]) (B l) = decide (c ∈ l) := fun c l => by
      rw [Bool.eq_iff_iff, oin_B, decide_eq_true_iff]; simp
    have o4 : oinV (B (R t o m).free) (B t.free ++ B [m]) = true := by rw [B_app2, oin_B]; exact F.new
    have o5 : oinV (B t.free) (B (R t o m).free ++ B [o]) = true := by rw [B_app2, oin_B]; exact F.old
    have ee : ∀ c d : UInt8, c ≠ d → ((B [c]).toList == (B [d]).toList) = false := fun c d h => by
      rw [ByteArray.toList_eq, ByteArray.toList_eq]; simp [B, h]
    by_cases hmf : m ∈ t.free
    · have o6 : oinV (B [m]) (B t.free) = true := by rw [oi]; exact decide_eq_true hmf
      by_cases hof : o ∈ t.free
      · have o1 : oinV (B [o]) (B t.free) = true := by rw [oi]; exact decide_eq_true hof
        have o2 : oinV (B [m]) (B (R t o m).free) = true := by rw [oi]; exact decide_eq_true (F.name hof)
        by_cases hom : o = m
        · exact nsA a0 n0 c0 a1 n1 c1 w wc0 A0 A1 B0 s (B [o]) (B [m]) _ _ _ _ hs hk hq hn hfB hfA o1 o6 o2 o4 o5 (by rw [hom]) hFs hFn hSs hSn _ _ _ _ _ _ _ _ _ _ _ _ _ _ _ _ _ _ _ _ _ _ _ _ _ _ _ _ _ _ _ _ _ _ _ _ _ _ _ _ _ _ _ _ _ _ _ _ _ _ _ _ _ _ _ _ _ _ _ _ _ _ _ _ _ _ _ _ _ _ _ _ _ _ _ _ _ _ _ _ _ _ _ _ _ _ _ _ _ _ _ _ _ _ _ _ _ _ _ _ _ _ _ _ _ _ _ _ _ _ _ _ _ _ _ _ _ _ _ _ _ _ _ _ _ _ _ _ _ _ _ _ _ _ _ _ _ _ _ _ _ _ _ _ _ _ _ _ _ _ _ _ _ _ _ _ _ _ _ _ _ _ _ _ _ _ _ _ _ _ _ _ _ _ _ _ _ _ _ _ _ _ _ _ _ _ _ _ _ _ _ _ _ _ _ _ _ _ _ _ _ _ _ _ _ _ _ _ _ _ _ _ _ _ _ _ _ _ _ _ _ _ _ _ _ _ _ _ _ _ _ _ _ _ _ _ _ _ _ _ _ _ _ _ _ _ _ _ _ _ _ _ _ _ _ _ _ _ _ _ _ _ _ _ _ _ _ _ _ _ _ _ _ _ _ _ _ _ _ _ _ _ _ _ _ _ _ _ _ _ _ _ _ _ _ _ _ _ _
        · exact nsB a0 n0 c0 a1 n1 c1 w wc0 A0 A1 B0 s (B [o]) (B [m]) _ _ _ _ hs hk hq hn hfB hfA o1 o6 o2 o4 o5 (ee o m hom) (by rw [oi]; exact decide_eq_false (F.gone hof hom)) hFs hFn hSs hSn _ _ _ _ _ _ _ _ _ _ _ _ _ _ _ _ _ _ _ _ _ _ _ _ _ _ _ _ _ _ _ _ _ _ _ _ _ _ _ _ _ _ _ _ _ _ _ _ _ _ _ _ _ _ _ _ _ _ _ _ _ _ _ _ _ _ _ _ _ _ _ _ _ _ _ _ _ _ _ _ _ _ _ _ _ _ _ _ _ _ _ _ _ _ _ _ _ _ _ _ _ _ _ _ _ _ _ _ _ _ _ _ _ _ _ _ _ _ _ _ _ _ _ _ _ _ _ _ _ _ _ _ _ _ _ _ _ _ _ _ _ _ _ _ _ _ _ _ _ _ _ _ _ _ _ _ _ _ _ _ _ _ _ _ _ _ _ _ _ _ _ _ _ _ _ _ _ _ _ _ _ _ _ _ _ _ _ _ _ _ _ _ _ _ _ _ _ _ _ _ _ _ _ _ _ _ _ _ _ _ _ _ _ _ _ _ _ _ _ _ _ _ _ _ _ _ _ _ _ _ _ _ _ _ _ _ _ _ _ _ _ _ _ _ _ _ _ _ _ _ _ _ _ _ _ _ _ _ _ _ _ _ _ _ _ _ _ _ _ _ _ _ _ _ _ _ _ _ _ _ _ _ _ _ _ _ _ _ _ _ _ _ _ _ _ _ _ _ _
      · have o1 : oinV (B [o]) (B t.free) = false := by rw [oi]; exact decide_eq_false hof
        exact nsD a0 n0 c0 a1 n1 c1 w wc0 A0 A1 B0 s (B [o]) (B [m]) _ _ _ _ hs hk hq hn hfB hfA o1 o6 (by rw [F.same hof]; exact es.symm) hFs hFn hSs hSn _ _ _ _ _ _ _ _ _ _ _ _ _ _ _ _ _ _ _ _ _ _ _ _ _ _ _ _ _ _ _ _ _ _ _ _ _ _ _ _ _ _ _ _ _ _ _ _ _ _ _ _ _ _ _ _ _ _ _ _ _ _ _ _ _ _ _ _ _ _ _ _ _ _ _ _ _ _ _ _ _ _ _ _ _ _ _ _ _ _ _ _ _ _ _ _ _ _ _ _ _ _ _ _ _ _ _ _ _ _ _ _ _ _ _ _ _ _ _ _ _ _ _ _ _ _ _ _ _ _ _ _ _ _ _ _ _ _ _ _ _ _ _ _ _ _ _ _ _ _ _ _ _ _ _ _ _ _ _ _ _ _ _ _ _ _ _ _ _ _ _ _ _ _ _ _ _ _ _ _ _ _ _ _ _ _ _ _ _ _ _ _ _ _ _ _ _ _ _ _ _ _ _ _ _ _ _ _ _ _ _ _ _ _ _ _ _ _ _ _ _ _ _ _ _ _ _ _ _ _ _ _ _ _ _ _ _ _ _ _ _ _ _ _ _ _ _ _ _ _ _ _ _ _ _ _ _ _ _ _ _ _ _ _ _ _ _ _ _ _ _ _ _ _ _ _ _ _ _ _ _ _ _ _ _ _ _ _ _ _ _ _ _ _ _ _ _ _ _
    · have o6 : oinV (B [m]) (B t.free) = false := by rw [oi]; exact decide_eq_false hmf
      have hb := F.back hmf
      have hl3 : (R (R t o m) m o).pr.length ≤ 300 := by rw [R_len]; exact F.len
      have hl4 : (R (R t o m) m o).size ≤ 60 := by rw [R_size]; exact F.sz
      have hg3 : good (S (R (R t o m) m o)).data.toList = some (R (R t o m) m o) := good_S2 hb hl3 hl4
      have hz3 : (S (R (R t o m) m o)).size ≤ 300 := by unfold S; simpa [ByteArray.size] using hl3
      have hRN := rename_i (S (R t o m)) (R t o m) m o hg2 (by omega) hm ho hb
      have hAL := alpha_i s (S (R (R t o m) m o)) t (R (R t o m) m o) hg hg3 (by omega) (by omega) (F.alike hmf)
      by_cases hof : o ∈ t.free
      · have o1 : oinV (B [o]) (B t.free) = true := by rw [oi]; exact decide_eq_true hof
        have o2 : oinV (B [m]) (B (R t o m).free) = true := by rw [oi]; exact decide_eq_true (F.name hof)
        have hom : o ≠ m := fun h => hmf (h ▸ hof)
        exact nsC a0 n0 c0 a1 n1 c1 w wc0 A0 A1 B0 s (B [o]) (B [m]) _ _ _ _ hs hk hq hn hfB hfA o1 o6 o2 o4 o5 (ee o m hom) (by rw [oi]; exact decide_eq_false (F.gone hof hom)) hFs hFn hSs hSn _ hRN hAL _ _ _ _ _ _ _ _ _ _ _ _ _ _ _ _ _ _ _ _ _ _ _ _ _ _ _ _ _ _ _ _ _ _ _ _ _ _ _ _ _ _ _ _ _ _ _ _ _ _ _ _ _ _ _ _ _ _ _ _ _ _ _ _ _ _ _ _ _ _ _ _ _ _ _ _ _ _ _ _ _ _ _ _ _ _ _ _ _ _ _ _ _ _ _ _ _ _ _ _ _ _ _ _ _ _ _ _ _ _ _ _ _ _ _ _ _ _ _ _ _ _ _ _ _ _ _ _ _ _ _ _ _ _ _ _ _ _ _ _ _ _ _ _ _ _ _ _ _ _ _ _ _ _ _ _ _ _ _ _ _ _ _ _ _ _ _ _ _ _ _ _ _ _ _ _ _ _ _ _ _ _ _ _ _ _ _ _ _ _ _ _ _ _ _ _ _ _ _ _ _ _ _ _ _ _ _ _ _ _ _ _ _ _ _ _ _ _ _ _ _ _ _ _ _ _ _ _ _ _ _ _ _ _ _ _ _ _ _ _ _ _ _ _ _ _ _ _ _ _ _ _ _ _ _ _ _ _ _ _ _ _ _ _ _ _ _ _ _ _ _ _ _ _ _ _ _ _ _ _ _ _ _ _ _ _ _ _ _ _ _ _ _ _ _ _ _ _ _
      · have o1 : oinV (B [o]) (B t.free) = false := by rw [oi]; exact decide_eq_false hof
        exact nsE a0 n0 c0 a1 n1 c1 w wc0 A0 A1 B0 s (B [o]) (B [m]) _ _ _ _ hs hk hq hn hfB hfA o1 o6 (by rw [F.same hof]; exact es.symm) hFs hFn hSs hSn _ hRN hAL _ _ _ _ _ _ _ _ _ _ _ _ _ _ _ _ _ _ _ _ _ _ _ _ _ _ _ _ _ _ _ _ _ _ _ _ _ _ _ _ _ _ _ _ _ _ _ _ _ _ _ _ _ _ _ _ _ _ _ _ _ _ _ _ _ _ _ _ _ _ _ _ _ _ _ _ _ _ _ _ _ _ _ _ _ _ _ _ _ _ _ _ _ _ _ _ _ _ _ _ _ _ _ _ _ _ _ _ _ _ _ _ _ _ _ _ _ _ _ _ _ _ _ _ _ _ _ _ _ _ _ _ _ _ _ _ _ _ _ _ _ _ _ _ _ _ _ _ _ _ _ _ _ _ _ _ _ _ _ _ _ _ _ _ _ _ _ _ _ _ _ _ _ _ _ _ _ _ _ _ _ _ _ _ _ _ _ _ _ _ _ _ _ _ _ _ _ _ _ _ _ _ _ _ _ _ _ _ _ _ _ _ _ _ _ _ _ _ _ _ _ _ _ _ _ _ _ _ _ _ _ _ _ _ _ _ _ _ _ _ _ _ _ _ _ _ _ _ _ _ _ _ _ _ _ _ _ _ _ _ _ _ _ _ _ _ _ _ _ _ _ _ _ _ _ _ _ _ _ _ _ _ _ _ _ _ _ _ _ _ _ _ _ _ _ _ _ _ _
end Go.Proofs.YtpabmidjfpabdaaGreat.T1
