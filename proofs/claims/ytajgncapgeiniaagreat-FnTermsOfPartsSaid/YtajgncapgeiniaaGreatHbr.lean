/- Texts of the proof, put together: Gy, Gw. No conditions. -/
import Derived.Test.YtajgncapgeiniaaGreatHbq
import Derived.Deep.CutRange
import Derived.Deep.DeepCutAuto
import Derived.Deep.LoopGhost

/- The law of terms and their parts: the middle ones. No conditions. -/
namespace Go.Proofs.YtajgncapgeiniaaGreat.T1
open Go.RowKit LawPartsOf
set_option maxRecDepth 100000
set_option linter.unusedVariables false
set_option linter.unusedSimpArgs false

set_option maxHeartbeats 20000000 in
theorem segC (a0 : Option Addr) (n0 c0 : Nat) (a1 : Option Addr) (n1 c1 : Nat) (w wc : World) (A0 : Hid (Arg w a0 n0)) (A1 : Hid (Arg w a1 n1)) (hcut : Hid (Below w.heap.size w wc)) (s2 s3 s4 s5 s6 s7 s8 s9 s10 s11 s12 s13 s14 s15 s16 s17 s18 s19 s20 s21 s22 s23 s24 s25 s26 s27 s28 s29 s30 s31 s32 s33 s34 s35 s36 s37 s38 s39 s40 s41 s42 s43 s44 s45 s46 s47 s48 s49 s50 s51 s52 s53 s54 s55 s56 s57 s58 s59 s60 s61 s62 s63 s64 s65 s66 s67 s68 s69 s70 s71 s72 s73 s74 s75 s76 s77 s78 s79 s80 s81 s82 s83 s84 s85 s86 s87 s88 s89 s90 s91 s92 s93 s94 s95 s96 s97 s98 s99 s100 s101 s102 s103 s104 s105 s106 s107 s108 s109 s110 s111 s112 s113 s114 s115 s116 s117 s118 s119 s120 s121 s122 s123 s124 s125 s126 s127 s128 s129 s130 s131 s132 s133 s134 s135 s136 s137 s138 s139 s140 s141 s142 s143 s144 s145 s146 s147 s148 s149 s150 s151 s152 s153 s154 s155 s156 s157 s158 s159 s160 s161 s162 s163 s164 s165 s166 s167 s168 s169 s170 s171 s172 s173 s174 s175 s176 s177 s178 s179 s180 s181 s182 s183 s184 s185 s186 s187 s188 s189 s190 s191 s192 s193 s194 s195 s196 s197 s198 s199 s200 s201 s202 s203 s204 s205 s206 s207 s208 s209 s210 s211 s212 s213 s214 s215 s216 s217 s218 s219 s220 s221 s222 s223 s224 s225 s226 s227 s228 s229 s230 s231 s232 s233 s234 s235 s236 s237 s238 s239 s240 s241 s242 s243 s244 s245 s246 s247 s248 s249 s250 s251 s252 s253 s254 s255 s256 s257 s258 s259 s260 s261 s262 s263 s264 s265 s266 s267 s268 s269 s270 s271 s272 s273 s274 s275 s276 s277 s278 s279 s280 s281 s282 s283 s284 s285 s286 s287 s288 s289 s290 s291 s292 s293 s294 s295 s296 s297 s298 s299 s300 s301 s302 s303 s304 s305 s306 s307 s308 s309 s310 s311 s312 s313 s314 s315 s316 s317 s318 s319 s320 s321 s322 s323 s324 s325 s326 s327 s328 s329 s330 s331 s332 s333 s334 s335 s336 s337 s338 s339 s340 s341 s342 s343 s344 s345 s346 s347 s348 s349 s350 s351 s352 s353 s354 s355 s356 s357 s358 s359 s360 s361 s362 s363 s364 s365 s366 s367 s368 s369 s370 s371 s372 s373 s374 s375 s376 s377 s378 s379 s380 s381 s382 s383 s384 s385 s386 s387 s388 s389 s390 s391 s392 s393 s394 s395 s396 s397 s398 s399 s400 s401 s402 s403 s404 s405 s406 s407 s408 s409 s410 s411 s412 s413 s414 s415 s416 s417 s418 s419 s420 s421 s422 s423 s424 s425 s426 s427 s428 s429 s430 s431 s432 s433 s434 s435 s436 s437 s438 s439 s440 s441 s442 s443 s444 s445 s446 s447 s448 s449 s450 s451 s452 s453 s454 s455 s456 s457 s458 s459 s460 s461 s462 s463 s464 s465 s466 s467 s468 s469 s470 s471 s472 s473 s474 s475 s476 s477 s478 s479 s480 s481 s482 : Value) :
    Code.wp Tryz.prog (drp 13 bodyT) (bodyPost Tryz.prog Tryz.f3 (PostT w)) ⟨#[.slice a0 n0 c0, .slice a1 n1 c1, s2, s3, s4, s5, s6, s7, s8, s9, s10, s11, s12, s13, s14, s15, s16, s17, s18, s19, s20, s21, s22, s23, s24, s25, s26, s27, s28, s29, s30, s31, s32, s33, s34, s35, s36, s37, s38, s39, s40, s41, s42, s43, s44, s45, s46, s47, s48, s49, s50, s51, s52, s53, s54, s55, s56, s57, s58, s59, s60, s61, s62, s63, s64, s65, s66, s67, s68, s69, s70, s71, s72, s73, s74, s75, s76, s77, s78, s79, s80, s81, s82, s83, s84, s85, s86, s87, s88, s89, s90, s91, s92, s93, s94, s95, s96, s97, s98, s99, s100, s101, s102, s103, s104, s105, s106, s107, s108, s109, s110, s111, s112, s113, s114, s115, s116, s117, s118, s119, s120, s121, s122, s123, s124, s125, s126, s127, s128, s129, s130, s131, s132, s133, s134, s135, s136, s137, s138, s139, s140, s141, s142, s143, s144, s145, s146, s147, s148, s149, s150, s151, s152, s153, s154, s155, s156, s157, s158, s159, s160, s161, s162, s163, s164, s165, s166, s167, s168, s169, s170, s171, s172, s173, s174, s175, s176, s177, s178, s179, s180, s181, s182, s183, s184, s185, s186, s187, s188, s189, s190, s191, s192, s193, s194, s195, s196, s197, s198, s199, s200, s201, s202, s203, s204, s205, s206, s207, s208, s209, s210, s211, s212, s213, s214, s215, s216, s217, s218, s219, s220, s221, s222, s223, s224, s225, s226, s227, s228, s229, s230, s231, s232, s233, s234, s235, s236, s237, s238, s239, s240, s241, s242, s243, s244, s245, s246, s247, s248, s249, s250, s251, s252, s253, s254, s255, s256, s257, s258, s259, s260, s261, s262, s263, s264, s265, s266, s267, s268, s269, s270, s271, s272, s273, s274, s275, s276, s277, s278, s279, s280, s281, s282, s283, s284, s285, s286, s287, s288, s289, s290, s291, s292, s293, s294, s295, s296, s297, s298, s299, s300, s301, s302, s303, s304, s305, s306, s307, s308, s309, s310, s311, s312, s313, s314, s315, s316, s317, s318, s319, s320, s321, s322, s323, s324, s325, s326, s327, s328, s329, s330, s331, s332, s333, s334, s335, s336, s337, s338, s339, s340, s341, s342, s343, s344, s345, s346, s347, s348, s349, s350, s351, s352, s353, s354, s355, s356, s357, s358, s359, s360, s361, s362, s363, s364, s365, s366, s367, s368, s369, s370, s371, s372, s373, s374, s375, s376, s377, s378, s379, s380, s381, s382, s383, s384, s385, s386, s387, s388, s389, s390, s391, s392, s393, s394, s395, s396, s397, s398, s399, s400, s401, s402, s403, s404, s405, s406, s407, s408, s409, s410, s411, s412, s413, s414, s415, s416, s417, s418, s419, s420, s421, s422, s423, s424, s425, s426, s427, s428, s429, s430, s431, s432, s433, s434, s435, s436, s437, s438, s439, s440, s441, s442, s443, s444, s445, s446, s447, s448, s449, s450, s451, s452, s453, s454, s455, s456, s457, s458, s459, s460, s461, s462, s463, s464, s465, s466, s467, s468, s469, s470, s471, s472, s473, s474, s475, s476, s477, s478, s479, s480, s481, s482], []⟩ wc := by
  unfold PostT
  conv => arg 2; whnf
  have B0 := Lib.hid (show Below w.heap.size w wc from hcut)
  clear hcut
  go_wp2_with fail
  with_reducible refine (dSubtermAt_any a1 n1 c1 _ (A1.out.below B0.out)).mono ?_
  rintro e x1 ⟨⟨q, pa, rfl, hq, hpa⟩, b1⟩
  have B1 := Lib.hid (B0.out.trans (b1.mono B0.out.size))
  clear b1 B0
  have Q := Lib.hid (And.intro (ab_of hq) hpa)
  obtain ⟨oa, hoa⟩ : ∃ oa, oa = atT (good q.data.toList) pa.data.toList := ⟨_, rfl⟩
  have HA := Lib.hid (two_at q pa (by have := Q.out; omega) (by have := Q.out; omega))
  rw [← hoa] at HA
  obtain ⟨at1, hat⟩ : ∃ a, a = txt oa := ⟨_, rfl⟩
  obtain ⟨b2, hb2⟩ : ∃ b, b = oa.isSome := ⟨_, rfl⟩
  rw [← hat, ← hb2] at HA
  have ATi := Lib.hid (fun w => HA.out.2 w)
  have ATs := Lib.hid (fun w => HA.out.1 w)
  have hbb2 := bne_self' b2
  have HOA := Lib.hid (And.intro hoa (And.intro hat hb2))
  clear hq hpa hoa hat hb2 HA
  go_wp2_with fail
  with_reducible refine (ATi.out _).mono ?_
  rintro e x2 ⟨rfl, b2⟩
  have B2 := Lib.hid (B1.out.trans (b2.mono B1.out.size))
  clear b2 B1
  go_wp2_with fail
  with_reducible refine (ATs.out _).mono ?_
  rintro e x3 ⟨rfl, b3⟩
  have B3 := Lib.hid (B2.out.trans (b3.mono B2.out.size))
  clear b3 B2
  go_upto_if 317 with fail
  go_cut [] (fun wx => Hid (Below w.heap.size w wx))
  case first =>
    cases b2 with
    | false =>
      go_wp2_with fail
      go_meet
      case rel => exact B3
    | true =>
      obtain ⟨hoa, hat, hb2⟩ := HOA.out
      obtain ⟨ta, rfl⟩ : ∃ ta, oa = some ta := by cases oa with
        | none => cases hb2
        | some ta => exact ⟨ta, rfl⟩
      have hpb := put_back q pa ta hoa.symm
      have RA := Lib.hid (fun w => (two_put q pa at1 (by have := Q.out; omega) (by have := Q.out; omega) (by rw [hat, hoa]; exact Nat.le_trans (at_small _ _) (by decide))).2 w)
      rw [hat, show txt (some ta) = S ta from rfl, hpb.1, hpb.2, ← show txt (some ta) = S ta from rfl, ← hat] at RA
      clear hoa hat hb2 hpb
      go_wp2_with fail
      with_reducible refine (RA.out _).mono ?_
      rintro e y1 ⟨rfl, b1⟩
      have BX := Lib.hid (B3.out.trans (b1.mono B3.out.size))
      clear b1
      go_wp2_with fail
      go_meet
      case rel => exact BX
  case rest =>
    clear B3
    rename_i KK aK
    refine aK _ _ ?_
    exact segE a0 n0 c0 a1 n1 c1 w wc A0 A1 hcut _ _ _ _ _ _ _ _ _ _ _ _ _ _ _ _ _ _ _ _ _ _ _ _ _ _ _ _ _ _ _ _ _ _ _ _ _ _ _ _ _ _ _ _ _ _ _ _ _ _ _ _ _ _ _ _ _ _ _ _ _ _ _ _ _ _ _ _ _ _ _ _ _ _ _ _ _ _ _ _ _ _ _ _ _ _ _ _ _ _ _ _ _ _ _ _ _ _ _ _ _ _ _ _ _ _ _ _ _ _ _ _ _ _ _ _ _ _ _ _ _ _ _ _ _ _ _ _ _ _ _ _ _ _ _ _ _ _ _ _ _ _ _ _ _ _ _ _ _ _ _ _ _ _ _ _ _ _ _ _ _ _ _ _ _ _ _ _ _ _ _ _ _ _ _ _ _ _ _ _ _ _ _ _ _ _ _ _ _ _ _ _ _ _ _ _ _ _ _ _ _ _ _ _ _ _ _ _ _ _ _ _ _ _ _ _ _ _ _ _ _ _ _ _ _ _ _ _ _ _ _ _ _ _ _ _ _ _ _ _ _ _ _ _ _ _ _ _ _ _ _ _ _ _ _ _ _ _ _ _ _ _ _ _ _ _ _ _ _ _ _ _ _ _ _ _ _ _ _ _ _ _ _ _ _ _ _ _ _ _ _ _ _ _ _ _ _ _ _ _ _ _ _ _ _ _ _ _ _ _ _ _ _ _ _ _ _ _ _ _ _ _ _ _ _ _ _ _ _ _ _ _ _ _ _ _ _ _ _ _ _ _ _ _ _ _ _ _ _ _ _ _ _ _ _ _ _ _ _ _ _ _ _ _ _ _ _ _ _ _ _ _ _ _ _ _ _ _ _ _ _ _ _ _ _ _ _ _ _ _ _ _ _ _ _ _ _ _ _ _ _ _ _ _ _ _ _ _ _ _ _ _ _ _ _ _ _ _ _ _ _ _ _ _ _ _ _ _ _ _ _ _ _ _ _ _ _ _ _ _ _ _ _ _ _ _ _ _ _ _ _ _ _ _ _ _ _ _ _ _ _ _ _ _ _ _ _ _ _ _ _ _ _ _ _ _ _ _ _ _ _
set_option maxHeartbeats 20000000 in
theorem segB (a0 : Option Addr) (n0 c0 : Nat) (a1 : Option Addr) (n1 c1 : Nat) (w wc0 : World) (A0 : Hid (Arg w a0 n0)) (A1 : Hid (Arg w a1 n1)) (HB0 : Hid (Below w.heap.size w wc0)) (p : ByteArray) (o : Option Tm) (b : Bool) (Z D : Int) (X : List ByteArray) (vR0 : Value) (gR0 : Nat) (P : Hid (p.size ≤ 1000)) (HO : Hid (o = good p.data.toList ∧ b = o.isSome ∧ Z = szT o ∧ D = dpT o ∧ X = ptT o)) (R0 : Hid (SRow wc0 vR0 gR0 X)) (s2 s3 s4 s8 s9 s11 s12 s13 s15 s16 s17 s18 s19 s20 s21 s22 s23 s24 s25 s26 s27 s28 s29 s30 s31 s32 s33 s34 s35 s36 s37 s38 s39 s40 s41 s42 s43 s44 s45 s46 s47 s48 s49 s50 s51 s52 s53 s54 s55 s56 s57 s58 s59 s60 s61 s62 s63 s64 s65 s66 s67 s68 s69 s70 s71 s72 s73 s74 s75 s76 s77 s78 s79 s80 s81 s82 s83 s84 s85 s86 s87 s88 s89 s90 s91 s92 s93 s94 s95 s96 s97 s98 s99 s100 s101 s102 s103 s104 s105 s106 s107 s108 s109 s110 s111 s112 s113 s114 s115 s116 s117 s118 s119 s120 s121 s122 s123 s124 s125 s126 s127 s128 s129 s130 s131 s132 s133 s134 s135 s136 s137 s138 s139 s140 s141 s142 s143 s144 s145 s146 s147 s148 s149 s150 s151 s152 s153 s154 s155 s156 s157 s158 s159 s160 s161 s162 s163 s164 s165 s166 s167 s168 s169 s170 s171 s172 s173 s174 s175 s176 s177 s178 s179 s180 s181 s182 s183 s184 s185 s186 s187 s188 s189 s190 s191 s192 s193 s194 s195 s196 s197 s198 s199 s200 s201 s202 s203 s204 s205 s206 s207 s208 s209 s210 s211 s212 s213 s214 s215 s216 s217 s218 s219 s220 s221 s222 s223 s224 s225 s226 s227 s228 s229 s230 s231 s232 s233 s234 s235 s236 s237 s238 s239 s240 s241 s242 s243 s244 s245 s246 s247 s248 s249 s250 s251 s252 s253 s254 s255 s256 s257 s258 s259 s260 s261 s262 s263 s264 s265 s266 s267 s268 s269 s270 s271 s272 s273 s274 s275 s276 s277 s278 s279 s280 s281 s282 s283 s284 s285 s286 s287 s288 s289 s290 s291 s292 s293 s294 s295 s296 s297 s298 s299 s300 s301 s302 s303 s304 s305 s306 s307 s308 s309 s310 s311 s312 s313 s314 s315 s316 s317 s318 s319 s320 s321 s322 s323 s324 s325 s326 s327 s328 s329 s330 s331 s332 s333 s334 s335 s336 s337 s338 s339 s340 s341 s342 s343 s344 s345 s346 s347 s348 s349 s350 s351 s352 s353 s354 s355 s356 s357 s358 s359 s360 s361 s362 s363 s364 s365 s366 s367 s368 s369 s370 s371 s372 s373 s374 s375 s376 s377 s378 s379 s380 s381 s382 s383 s384 s385 s386 s387 s388 s389 s390 s391 s392 s393 s394 s395 s396 s397 s398 s399 s400 s401 s402 s403 s404 s405 s406 s407 s408 s409 s410 s411 s412 s413 s414 s415 s416 s417 s418 s419 s420 s421 s422 s423 s424 s425 s426 s427 s428 s429 s430 s431 s432 s433 s434 s435 s436 s437 s438 s439 s440 s441 s442 s443 s444 s445 s446 s447 s448 s449 s450 s451 s452 s453 s454 s455 s456 s457 s458 s459 s460 s461 s462 s463 s464 s465 s466 s467 s468 s469 s470 s471 s472 s473 s474 s475 s476 s477 s478 s479 s480 s481 s482 : Value) :
    Code.wp Tryz.prog (drp 12 bodyT) (bodyPost Tryz.prog Tryz.f3 (PostT w)) ⟨#[.slice a0 n0 c0, .slice a1 n1 c1, s2, s3, s4, .string p, vR0, .bool b, s8, s9, .int .i64 Z, s11, s12, s13, .int .i64 D, s15, s16, s17, s18, s19, s20, s21, s22, s23, s24, s25, s26, s27, s28, s29, s30, s31, s32, s33, s34, s35, s36, s37, s38, s39, s40, s41, s42, s43, s44, s45, s46, s47, s48, s49, s50, s51, s52, s53, s54, s55, s56, s57, s58, s59, s60, s61, s62, s63, s64, s65, s66, s67, s68, s69, s70, s71, s72, s73, s74, s75, s76, s77, s78, s79, s80, s81, s82, s83, s84, s85, s86, s87, s88, s89, s90, s91, s92, s93, s94, s95, s96, s97, s98, s99, s100, s101, s102, s103, s104, s105, s106, s107, s108, s109, s110, s111, s112, s113, s114, s115, s116, s117, s118, s119, s120, s121, s122, s123, s124, s125, s126, s127, s128, s129, s130, s131, s132, s133, s134, s135, s136, s137, s138, s139, s140, s141, s142, s143, s144, s145, s146, s147, s148, s149, s150, s151, s152, s153, s154, s155, s156, s157, s158, s159, s160, s161, s162, s163, s164, s165, s166, s167, s168, s169, s170, s171, s172, s173, s174, s175, s176, s177, s178, s179, s180, s181, s182, s183, s184, s185, s186, s187, s188, s189, s190, s191, s192, s193, s194, s195, s196, s197, s198, s199, s200, s201, s202, s203, s204, s205, s206, s207, s208, s209, s210, s211, s212, s213, s214, s215, s216, s217, s218, s219, s220, s221, s222, s223, s224, s225, s226, s227, s228, s229, s230, s231, s232, s233, s234, s235, s236, s237, s238, s239, s240, s241, s242, s243, s244, s245, s246, s247, s248, s249, s250, s251, s252, s253, s254, s255, s256, s257, s258, s259, s260, s261, s262, s263, s264, s265, s266, s267, s268, s269, s270, s271, s272, s273, s274, s275, s276, s277, s278, s279, s280, s281, s282, s283, s284, s285, s286, s287, s288, s289, s290, s291, s292, s293, s294, s295, s296, s297, s298, s299, s300, s301, s302, s303, s304, s305, s306, s307, s308, s309, s310, s311, s312, s313, s314, s315, s316, s317, s318, s319, s320, s321, s322, s323, s324, s325, s326, s327, s328, s329, s330, s331, s332, s333, s334, s335, s336, s337, s338, s339, s340, s341, s342, s343, s344, s345, s346, s347, s348, s349, s350, s351, s352, s353, s354, s355, s356, s357, s358, s359, s360, s361, s362, s363, s364, s365, s366, s367, s368, s369, s370, s371, s372, s373, s374, s375, s376, s377, s378, s379, s380, s381, s382, s383, s384, s385, s386, s387, s388, s389, s390, s391, s392, s393, s394, s395, s396, s397, s398, s399, s400, s401, s402, s403, s404, s405, s406, s407, s408, s409, s410, s411, s412, s413, s414, s415, s416, s417, s418, s419, s420, s421, s422, s423, s424, s425, s426, s427, s428, s429, s430, s431, s432, s433, s434, s435, s436, s437, s438, s439, s440, s441, s442, s443, s444, s445, s446, s447, s448, s449, s450, s451, s452, s453, s454, s455, s456, s457, s458, s459, s460, s461, s462, s463, s464, s465, s466, s467, s468, s469, s470, s471, s472, s473, s474, s475, s476, s477, s478, s479, s480, s481, s482], []⟩ wc0 := by
  unfold PostT
  conv => arg 2; whnf
  dsimp only
  go_upto_if 189 with fail
  go_cut [4, 22, 23, 24, 25, 26, 27, 28, 29, 30, 31, 32, 33, 35, 36, 37, 38, 39] from 190 to 291 (fun _ _ _ _ _ _ _ _ _ _ _ _ _ _ _ _ _ _ wx => Hid (Below w.heap.size w wx))
  case first =>
    cases b with
    | false =>
      go_wp2_with fail
      go_meet
      case rel => exact HB0
    | true =>
      obtain ⟨ho, hb, hZ, hD, hX⟩ := HO.out
      obtain ⟨t, rfl⟩ : ∃ t, o = some t := by cases o with
        | none => cases hb
        | some t => exact ⟨t, rfl⟩
      obtain ⟨es, hL, hE, h300, h60⟩ := good_S ho.symm
      obtain ⟨N, hN⟩ : ∃ N, N = X.length := ⟨_, rfl⟩
      have hX2 : X = t.parts.map S := hX
      have hNp : N = t.parts.length := by rw [hN, hX2]; simp
      have hN2 : N ≤ 2 := by rw [hN, hX]; exact ptT_len _
      have G := Lib.hid (And.intro hL (And.intro h300 h60))
      have HX := Lib.hid (And.intro hX2 (And.intro hN hNp))
      have HZ := Lib.hid (show Z = ((t.size : Nat) : Int) from hZ)
      have HD := Lib.hid (show D = ((t.depth : Nat) : Int) from hD)
      have HP := Lib.hid ho
      have hN0 : Hid (N ≤ 2) := hN2
      obtain ⟨ar, cr, hv, hcells⟩ := R0.out.ex
      rw [← hN] at hv
      subst hv
      have HC := Lib.hid hcells
      clear ho hb hZ hD hX es hL hE h300 h60 hX2 hN hNp hN2 hcells HO
      go_wp2_with fail
      go_loopg [22, 23, 192] N (fun g s22 s23 s192 wr => ∃ i : Nat, i + g = N ∧ s22 = .int .i64 ((sgs (t.parts.take i) : Nat) : Int) ∧ s23 = .int .i64 ((dps (t.parts.take i) : Nat) : Int) ∧ s192 = .int .i64 (i : Int) ∧ Hid (Below wc0.heap.size wc0 wr))
      case atStart => exact ⟨0, by omega, rfl, rfl, rfl, Below.refl _ _⟩
      case round =>
        obtain ⟨i, hig, rfl, rfl, rfl, hbw⟩ := hrel
        have hbw2 := Lib.hid (HB0.out.trans (hbw.out.mono HB0.out.size))
        have hsl := Lib.hid (Nat.le_trans (sgs_le t i) G.out.2.2)
        by_cases hlt : (i : Int) < (N : Int)
        · have hiN : i < N := by omega
          have hil : i < t.parts.length := by rw [← HX.out.2.2]; exact hiN
          have hiX : i < X.length := by rw [← HX.out.2.1]; exact hiN
          obtain ⟨rfl, C, hC, hCj⟩ := HC.out (by intro e; rw [e] at hiX; simp at hiX)
          obtain ⟨q, hq⟩ : ∃ q, q = t.parts[i]'hil := ⟨_, rfl⟩
          have hqm : q ∈ t.parts := by rw [hq]; exact List.getElem_mem hil
          obtain ⟨g1, g2, g3⟩ := part_good hqm G.out.1 G.out.2.1 G.out.2.2
          have hgq := good_is g1 g2 g3
          have hqX : X[i]'hiX = S q := by rw [hq]; simp only [HX.out.1]; simp
          obtain ⟨Q, hQ⟩ : ∃ Q, Q = S q := ⟨_, rfl⟩
          have hsQ : Q.size ≤ 9223372036854775807 := by rw [hQ, S_bytes]; omega
          have c1 : wr.cell? ⟨gR0, i, none⟩ = some (.string Q) := by
            rw [hQ, ← hqX, ← hCj i hiX]
            unfold World.cell?
            rw [hbw.out.block gR0 (lt_of_block hC), hC]; rfl
          have SZq := Lib.hid (fun w => (two_size Q hsQ).2 w)
          have DPq := Lib.hid (fun w => (two_depth Q hsQ).2 w)
          rw [hQ, hgq, ← hQ] at SZq DPq
          have hAt : (txt (atT (good p.data.toList) [UInt8.ofNat (48 + i)]) = Q) ∧ (atT (good p.data.toList) [UInt8.ofNat (48 + i)]).isSome = true := by
            rw [← HP.out]
            have := at_part t i hil
            show txt (atP t _) = Q ∧ (atP t _).isSome = true
            rw [this, hQ, hq]; exact ⟨rfl, rfl⟩
          have ATq := Lib.hid (fun w => (two_at p ⟨#[UInt8.ofNat (48 + i)]⟩ (by have := P.out; omega) (by show 1 ≤ _; decide)).2 w)
          rw [show (⟨#[UInt8.ofNat (48 + i)]⟩ : ByteArray).data.toList = [UInt8.ofNat (48 + i)] from rfl, hAt.1, hAt.2] at ATq
          obtain ⟨m, hm⟩ : ∃ m, m = q.size := ⟨_, rfl⟩
          obtain ⟨d, hd⟩ : ∃ d, d = q.depth := ⟨_, rfl⟩
          have hdl := (depth_le q).2
          have SZ2 : Hid (∀ w, Calls Tryz.prog 9 #[.string Q] w fun e w' => e = .returned (.tuple #[.int .i64 (m : Int), .bool true]) ∧ Below w.heap.size w w') := by rw [hm]; exact SZq
          have DP2 : Hid (∀ w, Calls Tryz.prog 11 #[.string Q] w fun e w' => e = .returned (.tuple #[.int .i64 (d : Int), .bool true]) ∧ Below w.heap.size w w') := by rw [hd]; exact DPq
          obtain ⟨sg, hsg⟩ : ∃ sg, sg = sgs (t.parts.take i) := ⟨_, rfl⟩
          obtain ⟨dp, hdp⟩ : ∃ dp, dp = dps (t.parts.take i) := ⟨_, rfl⟩
          rw [← hsg, ← hdp]
          have htk : t.parts.take (i + 1) = t.parts.take i ++ [q] := by rw [hq, List.take_succ_eq_append_getElem hil]
          have hsn : sgs (t.parts.take (i + 1)) = sg + m := by rw [htk, sgs_snoc, hsg, hm]
          have hdn : dps (t.parts.take (i + 1)) = max dp d := by rw [htk, dps_snoc, hdp, hd]
          have hsm : sg + m ≤ 60 := by rw [← hsn]; exact Nat.le_trans (sgs_le t (i + 1)) G.out.2.2
          have hws : IntKind.i64.wrap ((sg : Int) + (m : Int)) = ((sg + m : Nat) : Int) := by rw [IntKind.wrap_i64] <;> omega
          have hwi : IntKind.i64.wrap ((i : Int) + 1) = ((i + 1 : Nat) : Int) := by have := hN0.out; rw [IntKind.wrap_i64] <;> omega
          have SN := Lib.hid (And.intro hsn hdn)
          have HG := Lib.hid hig
          have hN2 := hN0.out
          clear hC hCj hq hqm g1 g2 g3 hgq hqX hQ hsQ SZq DPq hAt hm hd hsg hdp htk hsn hdn hsm hil hiX hig hdl hsl
          have fin : ∀ (dp' : Nat), dp' = max dp d → True := fun _ _ => trivial
          clear fin
          rcases (show i = 0 ∨ i = 1 from by omega) with rfl | rfl
          · have hw0 := hwi
            have AT0 : Hid (∀ w, Calls Tryz.prog 18 #[.string p, .string ⟨#[48]⟩] w fun e w' => e = .returned (.tuple #[.string Q, .bool true]) ∧ Below w.heap.size w w') := ATq
            clear ATq
            go_wp2_with fail
            with_reducible refine (SZ2.out _).mono ?_
            rintro e x1 ⟨rfl, bx1⟩
            have BX1 := Lib.hid (hbw.out.trans (bx1.mono hbw.out.size))
            clear bx1
            go_wp2_with fail
            with_reducible refine (DP2.out _).mono ?_
            rintro e x2 ⟨rfl, bx2⟩
            have BX2 := Lib.hid (BX1.out.trans (bx2.mono BX1.out.size))
            clear bx2 BX1
            go_wp2_with fail
            with_reducible refine (AT0.out _).mono ?_
            rintro e x3 ⟨rfl, bx3⟩
            have BX3 := Lib.hid (BX2.out.trans (bx3.mono BX2.out.size))
            clear bx3 BX2
            by_cases hgt : dp < d
            · have hdg : decide (dp < d) = true := decide_eq_true hgt
              have hmx : max dp d = d := by omega
              have HM := Lib.hid hmx
              clear hgt hmx
              go_wp2_with fail
              go_roundg (gk - 1)
              case rel => exact ⟨1, by have := HG.out; omega, by rw [SN.out.1, Int.natCast_add], by rw [SN.out.2, HM.out], rfl, BX3⟩
              case measure => have := HG.out; omega
            · have hdg : decide (dp < d) = false := decide_eq_false hgt
              have hmx : max dp d = dp := by omega
              have HM := Lib.hid hmx
              clear hgt hmx
              go_wp2_with fail
              go_roundg (gk - 1)
              case rel => exact ⟨1, by have := HG.out; omega, by rw [SN.out.1, Int.natCast_add], by rw [SN.out.2, HM.out], rfl, BX3⟩
              case measure => have := HG.out; omega
          · have hw0 := hwi
            have AT0 : Hid (∀ w, Calls Tryz.prog 18 #[.string p, .string ⟨#[49]⟩] w fun e w' => e = .returned (.tuple #[.string Q, .bool true]) ∧ Below w.heap.size w w') := ATq
            clear ATq
            go_wp2_with fail
            with_reducible refine (SZ2.out _).mono ?_
            rintro e x1 ⟨rfl, bx1⟩
            have BX1 := Lib.hid (hbw.out.trans (bx1.mono hbw.out.size))
            clear bx1
            go_wp2_with fail
            with_reducible refine (DP2.out _).mono ?_
            rintro e x2 ⟨rfl, bx2⟩
            have BX2 := Lib.hid (BX1.out.trans (bx2.mono BX1.out.size))
            clear bx2 BX1
            go_wp2_with fail
            with_reducible refine (AT0.out _).mono ?_
            rintro e x3 ⟨rfl, bx3⟩
            have BX3 := Lib.hid (BX2.out.trans (bx3.mono BX2.out.size))
            clear bx3 BX2
            by_cases hgt : dp < d
            · have hdg : decide (dp < d) = true := decide_eq_true hgt
              have hmx : max dp d = d := by omega
              have HM := Lib.hid hmx
              clear hgt hmx
              go_wp2_with fail
              go_roundg (gk - 1)
              case rel => exact ⟨2, by have := HG.out; omega, by rw [SN.out.1, Int.natCast_add], by rw [SN.out.2, HM.out], rfl, BX3⟩
              case measure => have := HG.out; omega
            · have hdg : decide (dp < d) = false := decide_eq_false hgt
              have hmx : max dp d = dp := by omega
              have HM := Lib.hid hmx
              clear hgt hmx
              go_wp2_with fail
              go_roundg (gk - 1)
              case rel => exact ⟨2, by have := HG.out; omega, by rw [SN.out.1, Int.natCast_add], by rw [SN.out.2, HM.out], rfl, BX3⟩
              case measure => have := HG.out; omega
        · have hiN : i = N := by omega
          subst hiN
          have htk : t.parts.take i = t.parts := List.take_of_length_le (by rw [← HX.out.2.2]; exact Nat.le_refl _)
          have hs1 : ((sgs (t.parts.take i) : Nat) : Int) = Z := by rw [htk, sgs_parts, HZ.out]
          have hd1 : ((dps (t.parts.take i) : Nat) : Int) + 1 = D := by rw [htk, HD.out, ← dps_parts]; omega
          obtain ⟨dp, hdp⟩ : ∃ dp : Int, dp = ((dps (t.parts.take i) : Nat) : Int) := ⟨_, rfl⟩
          rw [hs1, ← hdp]
          rw [← hdp] at hd1
          have hdl := (depth_le t).2
          have hwd : IntKind.i64.wrap (dp + 1) = D := by rw [hd1, HD.out]; have := G.out.2.2; rw [IntKind.wrap_i64] <;> omega
          clear hs1 hd1 hdp htk hdl HC hsl hbw
          obtain ⟨WR, rfl⟩ : ∃ W, W = wr := ⟨wr, rfl⟩
          go_wp2_with fail
          go_loopg [33, 249] 9 (fun g s33 s249 wz => ∃ n : Nat, n + g = 9 ∧ s33 = .int .i64 ((cnt t n : Nat) : Int) ∧ s249 = .int .i64 (n : Int) ∧ Hid (wz.heap[WR.heap.size]? = some (.cells #[.string ⟨#[48]⟩, .string ⟨#[33]⟩, .string ⟨#[63]⟩, .string ⟨#[126]⟩, .string ⟨#[43]⟩, .string ⟨#[38]⟩, .string ⟨#[35]⟩, .string ⟨#[61]⟩, .string ⟨#[42]⟩] 9 (0, 0))) ∧ Hid (Below w.heap.size w wz))
          case atStart =>
            refine ⟨0, rfl, rfl, rfl, ?_, hbw2.out.alloc hbw2.out.size _⟩
            show (WR.heap.push _)[WR.heap.size]? = _
            rw [Array.getElem?_push_size]
          case round =>
            obtain ⟨n, hng, rfl, rfl, hrow, hbz⟩ := hrel
            by_cases hn9 : n < 9
            · obtain ⟨k, hk⟩ : ∃ k, k = one (kds[n]'hn9) := ⟨_, rfl⟩
              have c1 : wr.cell? ⟨WR.heap.size, n, none⟩ = some (.string k) := by
                rw [hk]
                unfold World.cell?
                rw [hrow.out]
                exact (show ∀ n (h : n < 9), (#[.string ⟨#[48]⟩, .string ⟨#[33]⟩, .string ⟨#[63]⟩, .string ⟨#[126]⟩, .string ⟨#[43]⟩, .string ⟨#[38]⟩, .string ⟨#[35]⟩, .string ⟨#[61]⟩, .string ⟨#[42]⟩] : Array Value)[n]? = some (.string (one (kds[n]'h))) from by
                  intro n h
                  rcases (show n = 0 ∨ n = 1 ∨ n = 2 ∨ n = 3 ∨ n = 4 ∨ n = 5 ∨ n = 6 ∨ n = 7 ∨ n = 8 from by omega) with rfl | rfl | rfl | rfl | rfl | rfl | rfl | rfl | rfl <;> rfl) n hn9
              have CK := Lib.hid (fun w => (two_count p k (by have := P.out; omega) (by rw [hk]; show 1 ≤ _; decide)).2 w)
              rw [← HP.out, hk, cn_kind t n hn9, ← hk] at CK
              obtain ⟨m, hm⟩ : ∃ m, m = t.subs.countP (isK (kds[n]'hn9)) := ⟨_, rfl⟩
              have CK2 : Hid (∀ w, Calls Tryz.prog 19 #[.string p, .string k] w fun e w' => e = .returned (.tuple #[.int .i64 (m : Int), .bool true]) ∧ Below w.heap.size w w') := by rw [hm]; exact CK
              obtain ⟨cn, hcn⟩ : ∃ cn, cn = cnt t n := ⟨_, rfl⟩
              have hcs : cnt t (n + 1) = cn + m := by rw [cnt_succ t n hn9, hcn, hm]
              have hcl : cn + m ≤ 60 := by rw [← hcs]; exact Nat.le_trans (cnt_most t (n + 1)) G.out.2.2
              rw [← hcn]
              have hws : IntKind.i64.wrap ((cn : Int) + (m : Int)) = ((cn + m : Nat) : Int) := by rw [IntKind.wrap_i64] <;> omega
              have hwi : IntKind.i64.wrap ((n : Int) + 1) = ((n + 1 : Nat) : Int) := by rw [IntKind.wrap_i64] <;> omega
              have hn9' : (n : Int) < 9 := by omega
              have CS := Lib.hid hcs
              have HG := Lib.hid (And.intro hng hn9)
              have hlt9 : WR.heap.size < wr.heap.size := lt_of_block hrow.out
              have HLT := Lib.hid hlt9
              clear hk CK hm hcn hcs hcl hng hlt9 hn9
              go_wp2_with fail
              with_reducible refine (CK2.out _).mono ?_
              rintro e x1 ⟨rfl, bx⟩
              have BX := Lib.hid (hbz.out.trans (bx.mono hbz.out.size))
              have RX := Lib.hid ((bx.block _ HLT.out).trans hrow.out)
              clear bx
              go_wp2_with fail
              go_roundg (gk - 1)
              case rel => exact ⟨n + 1, by have := HG.out; omega, by rw [CS.out, Int.natCast_add], rfl, RX, BX⟩
              case measure => have := HG.out; omega
            · obtain rfl : n = 9 := by omega
              have hc9 : ((cnt t 9 : Nat) : Int) = Z := by rw [cnt_all, HZ.out]
              rw [hc9]
              have FN := Lib.hid (fun w => (two_finite p (by have := P.out; omega)).2 w)
              have CK := Lib.hid (fun w => (two_count p ⟨#[42]⟩ (by have := P.out; omega) (by show 1 ≤ _; decide)).2 w)
              have hcn := cn_kind t 8 (by decide)
              rw [← HP.out] at FN CK
              rw [show cnT (some t) ⟨#[42]⟩ = some (t.subs.countP (isK 42)) from hcn] at CK
              obtain ⟨m, hm⟩ : ∃ m, m = t.subs.countP (isK 42) := ⟨_, rfl⟩
              obtain ⟨f, hf⟩ : ∃ f, ((m : Int) == 0) = f := ⟨_, rfl⟩
              have FN2 : Hid (∀ w, Calls Tryz.prog 20 #[.string p] w fun e w' => e = .returned (.tuple #[.bool f, .bool true]) ∧ Below w.heap.size w w') := by rw [← hf, hm]; exact FN
              have CK2 : Hid (∀ w, Calls Tryz.prog 19 #[.string p, .string ⟨#[42]⟩] w fun e w' => e = .returned (.tuple #[.int .i64 (m : Int), .bool true]) ∧ Below w.heap.size w w') := by rw [hm]; exact CK
              have hff := bne_self' f
              clear FN CK hcn hm hc9
              go_wp2_with fail
              with_reducible refine (FN2.out _).mono ?_
              rintro e x1 ⟨rfl, bx⟩
              have BX := Lib.hid (hbz.out.trans (bx.mono hbz.out.size))
              clear bx
              go_wp2_with fail
              with_reducible refine (CK2.out _).mono ?_
              rintro e x2 ⟨rfl, by2⟩
              have BY := Lib.hid (BX.out.trans (by2.mono BX.out.size))
              clear by2 hn9
              go_wp2_with fail
              go_meet
              case rel => exact BY
  case rest =>
    clear HB0
    rename_i KK aK
    refine aK _ _ ?_
    exact segC a0 n0 c0 a1 n1 c1 w wc A0 A1 hcut _ _ _ _ _ _ _ _ _ _ _ _ _ _ _ _ _ _ _ _ _ _ _ _ _ _ _ _ _ _ _ _ _ _ _ _ _ _ _ _ _ _ _ _ _ _ _ _ _ _ _ _ _ _ _ _ _ _ _ _ _ _ _ _ _ _ _ _ _ _ _ _ _ _ _ _ _ _ _ _ _ _ _ _ _ _ _ _ _ _ _ _ _ _ _ _ _ _ _ _ _ _ _ _ _ _ _ _ _ _ _ _ _ _ _ _ _ _ _ _ _ _ _ _ _ _ _ _ _ _ _ _ _ _ _ _ _ _ _ _ _ _ _ _ _ _ _ _ _ _ _ _ _ _ _ _ _ _ _ _ _ _ _ _ _ _ _ _ _ _ _ _ _ _ _ _ _ _ _ _ _ _ _ _ _ _ _ _ _ _ _ _ _ _ _ _ _ _ _ _ _ _ _ _ _ _ _ _ _ _ _ _ _ _ _ _ _ _ _ _ _ _ _ _ _ _ _ _ _ _ _ _ _ _ _ _ _ _ _ _ _ _ _ _ _ _ _ _ _ _ _ _ _ _ _ _ _ _ _ _ _ _ _ _ _ _ _ _ _ _ _ _ _ _ _ _ _ _ _ _ _ _ _ _ _ _ _ _ _ _ _ _ _ _ _ _ _ _ _ _ _ _ _ _ _ _ _ _ _ _ _ _ _ _ _ _ _ _ _ _ _ _ _ _ _ _ _ _ _ _ _ _ _ _ _ _ _ _ _ _ _ _ _ _ _ _ _ _ _ _ _ _ _ _ _ _ _ _ _ _ _ _ _ _ _ _ _ _ _ _ _ _ _ _ _ _ _ _ _ _ _ _ _ _ _ _ _ _ _ _ _ _ _ _ _ _ _ _ _ _ _ _ _ _ _ _ _ _ _ _ _ _ _ _ _ _ _ _ _ _ _ _ _ _ _ _ _ _ _ _ _ _ _ _ _ _ _ _ _ _ _ _ _ _ _ _ _ _ _ _ _ _ _ _ _ _ _ _ _ _ _ _ _ _ _ _ _ _ _ _ _ _ _ _ _ _ _ _ _ _ _
end Go.Proofs.YtajgncapgeiniaaGreat.T1

/- The law of terms and their parts: its walk. No conditions. -/
namespace Go.Proofs.YtajgncapgeiniaaGreat.T1
open Go.RowKit LawPartsOf
set_option maxRecDepth 100000
set_option linter.unusedVariables false
set_option linter.unusedSimpArgs false

set_option maxHeartbeats 20000000 in
theorem walkT (a0 : Option Addr) (n0 c0 : Nat) (a1 : Option Addr) (n1 c1 : Nat) (w : World) (h0 : Arg w a0 n0) (h1 : Arg w a1 n1) :
    Calls Tryz.prog 3 #[.slice a0 n0 c0, .slice a1 n1 c1] w fun e w' => e = .returned (.bool true) ∧ Below w.heap.size w w' := by
  have HB := Lib.hid (big_any a0 a1 n0 c0 n1 c1 h0.1 h1.1 w)
  have A0 := Lib.hid h0
  have A1 := Lib.hid h1
  clear h0 h1
  generalize isBig n0 n1 = bb at HB
  cases bb with
  | true =>
    go_enter Tryz.func3, Tryz.ntmps3
    go_wp2_with fail
    with_reducible refine HB.out.mono ?_
    rintro e w1 ⟨rfl, rfl⟩
    go_wp2_with fail
    go_ret
    exact ⟨rfl, Below.refl _ _⟩
  | false =>
  go_enter Tryz.func3, Tryz.ntmps3
  go_wp2_with fail
  with_reducible refine HB.out.mono ?_
  rintro e w0 ⟨rfl, rfl⟩
  have B0 := Lib.hid (Below.refl w.heap.size w)
  clear HB
  go_wp2_with fail
  with_reducible refine (dPartsOf_any a0 n0 c0 w A0.out).mono ?_
  rintro e w1 ⟨⟨p, rfl, hp⟩, b1⟩
  have B1 := Lib.hid b1
  have P := Lib.hid (ab_of hp)
  clear b1 hp B0
  obtain ⟨o, ho⟩ : ∃ o, o = good p.data.toList := ⟨_, rfl⟩
  obtain ⟨b, hb⟩ : ∃ b, b = o.isSome := ⟨_, rfl⟩
  have HPT := Lib.hid (two_parts p (by have := P.out; omega))
  have HSZ := Lib.hid (two_size p (by have := P.out; omega))
  have HDP := Lib.hid (two_depth p (by have := P.out; omega))
  have HKD := Lib.hid (two_kind p (by have := P.out; omega))
  have HIS := Lib.hid (two_is p (by have := P.out; omega))
  rw [← ho, ← hb] at HPT HSZ HDP HKD HIS
  obtain ⟨Z, hZ⟩ : ∃ Z, Z = szT o := ⟨_, rfl⟩
  obtain ⟨D, hD⟩ : ∃ D, D = dpT o := ⟨_, rfl⟩
  obtain ⟨K, hK⟩ : ∃ K, K = kdT o := ⟨_, rfl⟩
  obtain ⟨X, hX⟩ : ∃ X, X = ptT o := ⟨_, rfl⟩
  rw [← hZ] at HSZ
  rw [← hD] at HDP
  rw [← hK] at HKD
  rw [← hX] at HPT
  have PTi := Lib.hid (fun w => HPT.out.2 w)
  have PTs := Lib.hid (fun w => HPT.out.1 w)
  have SZi := Lib.hid (fun w => HSZ.out.2 w)
  have SZs := Lib.hid (fun w => HSZ.out.1 w)
  have DPi := Lib.hid (fun w => HDP.out.2 w)
  have DPs := Lib.hid (fun w => HDP.out.1 w)
  have KDi := Lib.hid (fun w => HKD.out.2 w)
  have KDs := Lib.hid (fun w => HKD.out.1 w)
  have ISi := Lib.hid (fun w => HIS.out.2 w)
  have ISs := Lib.hid (fun w => HIS.out.1 w)
  have HO := Lib.hid (And.intro ho (And.intro hb (And.intro hZ (And.intro hD hX))))
  have hbb := bne_self' b
  have XL := Lib.hid (show X.length ≤ 100000 by rw [hX]; exact Nat.le_trans (ptT_len o) (by decide))
  clear ho hb hZ hD hK hX HPT HSZ HDP HKD HIS
  go_wp2_with fail
  with_reducible refine (PTi.out _).mono ?_
  rintro e w2 ⟨vR0, gR0, rfl, rR0, _, b2⟩
  have B2 := Lib.hid (B1.out.trans (b2.mono B1.out.size))
  clear b2 B1
  have R0 := Lib.hid rR0
  clear rR0
  go_wp2_with fail
  with_reducible refine (PTs.out _).mono ?_
  rintro e w3 ⟨vR1, gR1, rfl, rR1, _, b3⟩
  have B3 := Lib.hid (B2.out.trans (b3.mono B2.out.size))
  replace R0 := Lib.hid (R0.out.below b3)
  clear b3 B2
  have R1 := Lib.hid rR1
  clear rR1
  go_wp2_with fail
  with_reducible refine (SZi.out _).mono ?_
  rintro e w4 ⟨rfl, b4⟩
  have B4 := Lib.hid (B3.out.trans (b4.mono B3.out.size))
  replace R0 := Lib.hid (R0.out.below b4)
  replace R1 := Lib.hid (R1.out.below b4)
  clear b4 B3
  go_wp2_with fail
  with_reducible refine (SZs.out _).mono ?_
  rintro e w5 ⟨rfl, b5⟩
  have B5 := Lib.hid (B4.out.trans (b5.mono B4.out.size))
  replace R0 := Lib.hid (R0.out.below b5)
  replace R1 := Lib.hid (R1.out.below b5)
  clear b5 B4
  go_wp2_with fail
  with_reducible refine (DPi.out _).mono ?_
  rintro e w6 ⟨rfl, b6⟩
  have B6 := Lib.hid (B5.out.trans (b6.mono B5.out.size))
  replace R0 := Lib.hid (R0.out.below b6)
  replace R1 := Lib.hid (R1.out.below b6)
  clear b6 B5
  go_wp2_with fail
  with_reducible refine (DPs.out _).mono ?_
  rintro e w7 ⟨rfl, b7⟩
  have B7 := Lib.hid (B6.out.trans (b7.mono B6.out.size))
  replace R0 := Lib.hid (R0.out.below b7)
  replace R1 := Lib.hid (R1.out.below b7)
  clear b7 B6
  go_wp2_with fail
  with_reducible refine (KDi.out _).mono ?_
  rintro e w8 ⟨rfl, b8⟩
  have B8 := Lib.hid (B7.out.trans (b8.mono B7.out.size))
  replace R0 := Lib.hid (R0.out.below b8)
  replace R1 := Lib.hid (R1.out.below b8)
  clear b8 B7
  go_wp2_with fail
  with_reducible refine (KDs.out _).mono ?_
  rintro e w9 ⟨rfl, b9⟩
  have B9 := Lib.hid (B8.out.trans (b9.mono B8.out.size))
  replace R0 := Lib.hid (R0.out.below b9)
  replace R1 := Lib.hid (R1.out.below b9)
  clear b9 B8
  go_wp2_with fail
  with_reducible refine (ot_any _ vR0 vR1 gR0 gR1 X XL.out R0.out R1.out).mono ?_
  rintro e w10 ⟨rfl, b10⟩
  have B10 := Lib.hid (B9.out.trans (b10.mono B9.out.size))
  replace R0 := Lib.hid (R0.out.below b10)
  replace R1 := Lib.hid (R1.out.below b10)
  clear b10 B9
  clear R1
  go_wp2_with fail
  with_reducible refine (ISi.out _).mono ?_
  rintro e w11 ⟨rfl, b11⟩
  have B11 := Lib.hid (B10.out.trans (b11.mono B10.out.size))
  replace R0 := Lib.hid (R0.out.below b11)
  clear b11 B10
  go_wp2_with fail
  with_reducible refine (ISs.out _).mono ?_
  rintro e w12 ⟨rfl, b12⟩
  have B12 := Lib.hid (B11.out.trans (b12.mono B11.out.size))
  replace R0 := Lib.hid (R0.out.below b12)
  clear b12 B11
  go_upto_if 188 with fail
  go_cut [] from 188 to 188 (fun wx => wx = w12)
  case first =>
    go_wp2_with fail
    go_meet
    case rel => rfl
  case rest =>
    subst hcut
    rename_i KK aK
    refine aK _ _ ?_
    exact segB a0 n0 c0 a1 n1 c1 w _ A0 A1 B12 p o b Z D X vR0 gR0 P HO R0 _ _ _ _ _ _ _ _ _ _ _ _ _ _ _ _ _ _ _ _ _ _ _ _ _ _ _ _ _ _ _ _ _ _ _ _ _ _ _ _ _ _ _ _ _ _ _ _ _ _ _ _ _ _ _ _ _ _ _ _ _ _ _ _ _ _ _ _ _ _ _ _ _ _ _ _ _ _ _ _ _ _ _ _ _ _ _ _ _ _ _ _ _ _ _ _ _ _ _ _ _ _ _ _ _ _ _ _ _ _ _ _ _ _ _ _ _ _ _ _ _ _ _ _ _ _ _ _ _ _ _ _ _ _ _ _ _ _ _ _ _ _ _ _ _ _ _ _ _ _ _ _ _ _ _ _ _ _ _ _ _ _ _ _ _ _ _ _ _ _ _ _ _ _ _ _ _ _ _ _ _ _ _ _ _ _ _ _ _ _ _ _ _ _ _ _ _ _ _ _ _ _ _ _ _ _ _ _ _ _ _ _ _ _ _ _ _ _ _ _ _ _ _ _ _ _ _ _ _ _ _ _ _ _ _ _ _ _ _ _ _ _ _ _ _ _ _ _ _ _ _ _ _ _ _ _ _ _ _ _ _ _ _ _ _ _ _ _ _ _ _ _ _ _ _ _ _ _ _ _ _ _ _ _ _ _ _ _ _ _ _ _ _ _ _ _ _ _ _ _ _ _ _ _ _ _ _ _ _ _ _ _ _ _ _ _ _ _ _ _ _ _ _ _ _ _ _ _ _ _ _ _ _ _ _ _ _ _ _ _ _ _ _ _ _ _ _ _ _ _ _ _ _ _ _ _ _ _ _ _ _ _ _ _ _ _ _ _ _ _ _ _ _ _ _ _ _ _ _ _ _ _ _ _ _ _ _ _ _ _ _ _ _ _ _ _ _ _ _ _ _ _ _ _ _ _ _ _ _ _ _ _ _ _ _ _ _ _ _ _ _ _ _ _ _ _ _ _ _ _ _ _ _ _ _ _ _ _ _ _ _ _ _ _ _ _ _ _ _ _ _ _ _ _ _ _ _ _ _ _ _ _ _ _ _ _ _ _ _ _ _ _ _ _ _ _
end Go.Proofs.YtajgncapgeiniaaGreat.T1
